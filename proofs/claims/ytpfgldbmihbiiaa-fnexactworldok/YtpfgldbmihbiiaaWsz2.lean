/- The guests of a world that is handed in, measured. -/
import Derived.Test.YtpfgldbmihbiiaaWsz
namespace Go.Proofs.Ytpfgldbmihbiiaa.Gs
open Go.ChangeShapes Go.WideShapes Go.ChangeAt Go.RowKit
open Go.Proofs.Ytpfgldbmihbiiaa.Aid Go.Proofs.Ytpfgldbmihbiiaa.Lst Go.Proofs.Ytpfgldbmihbiiaa.Plat
open Go.Proofs.Ytpfgldbmihbiiaa.Book (Sx szM szM_neg szM_pos)
set_option maxRecDepth 100000
set_option linter.unusedVariables false

/- How many numbers the first k guests have in their lists. -/
def sumG (g : Nat → Gx) : Nat → Nat
  | 0 => 0
  | k + 1 => sumG g k + (g k).snap.n + (g k).plan.n

set_option maxHeartbeats 4000000 in
theorem szgs_any (a : Option Addr) (n c : Nat) (g : Nat → Gx) (l : Int) (w : World) (h : RowG w a n g) (hl : ∀ j, j < n → ((g j).snap.n : Int) ≤ maxLen ∧ ((g j).plan.n : Int) ≤ maxLen) (hn : (n : Int) ≤ maxLen) (h0 : 0 ≤ l) (h1 : l ≤ 1048576) :
    Calls Try.prog 18 #[.slice a n c, .int .i64 l] w fun e w' => (∃ r : Int, e = .returned (.int .i64 r) ∧ (0 ≤ r → r + n + sumG g n = l) ∧ r ≤ l ∧ -1 ≤ r) ∧ Below w.heap.size w w' := by
  have hm : (maxLen : Int) ≤ 9223372036854775807 := by decide
  have HL : Hid (∀ j, j < n → ((g j).snap.n : Int) ≤ maxLen ∧ ((g j).plan.n : Int) ≤ maxLen) := hl
  have HH : Hid (RowG w a n g) := h
  clear hl h
  by_cases e0 : l - n < 0
  · go_enter Try.func18, Try.ntmps18
    go_wp2_with (fail)
    go_ret
    exact ⟨⟨-1, rfl, fun h => by omega, by omega, by omega⟩, Below.refl _ _⟩
  go_enter Try.func18, Try.ntmps18
  go_wp2_with (fail)
  go_loopw [1, 5] (fun lf i wr => ∃ (k : Nat) (r : Int), k ≤ n ∧ i = .int .i64 k ∧ lf = .int .i64 r ∧ r + sumG g k = l - n ∧ 0 ≤ r ∧ Below w.heap.size w wr) (fun _ i _ => n - (intOf i).toNat)
  case atStart => exact ⟨0, l - n, by omega, rfl, rfl, by simp [sumG], by omega, Below.refl _ _⟩
  case round =>
    obtain ⟨k, r, hk, rfl, rfl, hr, r0, hb⟩ := hrel
    by_cases hlt : (k : Int) < n
    · rcases HH.out with h | ⟨b, off, rfl, h⟩
      · omega
      have rg := range_below hb (h k (by omega)) (World.block_lt_of_cell? w _ (h k (by omega) 0 _ rfl))
      have HR : Hid (World.rangeAt wr b (off + k * 26) (g k).cells) := rg
      have HR' : Hid (r + sumG g k = l - n) := hr
      have HB : Hid (Below w.heap.size w wr) := hb
      have rl : r ≤ l := by omega
      clear h rg hr hb
      go_wp2_with (refine wpList_load_mid rfl 67 _ rfl b (off + k * 26) rfl (g k).cells _ HR.out Try.underlying67 rfl (by kernel_rfl) ?_)
      refine (szg_any (g k) r wr (HL.out k (by omega)).1 (HL.out k (by omega)).2 r0 (by omega)).mono ?_
      rintro e w1 ⟨⟨q, rfl, q1, q2, q3⟩, hb1⟩
      have HB1 : Hid (Below w.heap.size w w1) := HB.out.trans (hb1.mono HB.out.size)
      have HQ : Hid (0 ≤ q → q + (g k).snap.n + (g k).plan.n = r) := q1
      clear hb1 q1 HR HB
      by_cases qn : q < 0
      · go_wp2_with (fail)
        go_ret
        exact ⟨⟨-1, rfl, fun h => by omega, by omega, by omega⟩, HB1.out⟩
      · go_wp2_with (fail)
        go_roundw
        case rel => exact ⟨k + 1, q, by omega, by go_num, rfl, by have a1 := HR'.out; have a2 := HQ.out (by omega); simp only [sumG]; omega, by omega, HB1.out⟩
        case measure => simp [intOf]; omega
    · obtain rfl : k = n := by omega
      have HR' : Hid (r + sumG g k = l - k) := hr
      have rl : r ≤ l := by omega
      clear hr
      go_wp2_with (fail)
      go_ret
      exact ⟨⟨r, rfl, fun h => by have := HR'.out; omega, by omega, by omega⟩, hb⟩

set_option maxHeartbeats 4000000 in
theorem szworld_any (x : Wx) (l : Int) (w : World) (h : x.Good w) (h0 : 0 ≤ l) (h1 : l ≤ 1048576) :
    Calls Try.prog 5 #[.agg x.cells.toArray, .int .i64 l] w fun e w' => (∃ r : Int, e = .returned (.int .i64 r) ∧ (0 ≤ r → r + x.ws.n + x.n + sumG x.g x.n = l) ∧ r ≤ l ∧ -1 ≤ r) ∧ Below w.heap.size w w' := by
  have R : (w.alloc (.cells x.cells.toArray 25)).rangeAt w.heap.size 0 x.cells := range_lit x.cells.toArray (heap1_0 w _)
  have c1 : (w.alloc (.cells x.cells.toArray 25)).cell? ⟨w.heap.size, 0, none⟩ = some (.slice x.ws.a x.ws.n x.ws.c) := R 0 _ rfl
  have c2 : (w.alloc (.cells x.cells.toArray 25)).cell? ⟨w.heap.size, 1, none⟩ = some (.slice x.a x.n x.c) := R 1 _ rfl
  have B : Hid (Below w.heap.size w (w.alloc (.cells x.cells.toArray 25))) := below1 w _
  have HRG : Hid (RowG (w.alloc (.cells x.cells.toArray 25)) x.a x.n x.g) := h.row.later (below1 w _)
  have HL : Hid (∀ j, j < x.n → ((x.g j).snap.n : Int) ≤ maxLen ∧ ((x.g j).plan.n : Int) ≤ maxLen) := fun j hj => by
    have a1 := (h.each j hj).snap.2.1
    have a2 := (h.each j hj).plan.2.1
    omega
  have l1 : (x.ws.n : Int) ≤ maxLen := by have := h.ws.2.1; omega
  have l2 : (x.n : Int) ≤ maxLen := by have := h.lim; omega
  clear R h
  go_enter Try.func5, Try.ntmps5
  go_wp2_with (fail)
  refine (szw_any _ _ _ _ _ l1 h0 h1).mono ?_
  rintro e w1 ⟨rfl, rfl⟩
  by_cases e0 : l < x.ws.n
  · rw [szM_neg e0]
    go_wp2_with (fail)
    go_ret
    exact ⟨⟨-1, rfl, fun h => by omega, by omega, by omega⟩, B.out⟩
  rw [szM_pos e0]
  go_wp2_with (fail)
  refine (szgs_any _ _ _ _ _ _ HRG.out HL.out l2 (by omega) (by omega)).mono ?_
  rintro e w1 ⟨⟨q, rfl, q1, q2, q3⟩, hb⟩
  have HB : Hid (Below w.heap.size w w1) := B.out.trans (hb.mono B.out.size)
  have HQ : Hid (0 ≤ q → q + x.n + sumG x.g x.n = l - x.ws.n) := q1
  clear hb q1 B c1 c2 HRG
  by_cases qn : q < 0
  · go_wp2_with (fail)
    go_ret
    exact ⟨⟨-1, rfl, fun h => by omega, by omega, by omega⟩, HB.out⟩
  · go_wp2_with (fail)
    go_ret
    exact ⟨⟨q, rfl, fun h => by have := HQ.out h; omega, by omega, by omega⟩, HB.out⟩

end Go.Proofs.Ytpfgldbmihbiiaa.Gs

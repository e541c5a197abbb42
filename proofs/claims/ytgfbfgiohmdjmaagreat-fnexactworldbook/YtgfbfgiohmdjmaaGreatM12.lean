import Derived.Test.YtgfbfgiohmdjmaaGreatM10
import Derived.Test.YtgfbfgiohmdjmaaGreatM9
import Derived.Deep.RegionHeld
import Derived.Below
import Derived.Test.YtgfbfgiohmdjmaaGreatSwok
import Derived.Test.YtgfbfgiohmdjmaaGreatM2
import Derived.Test.YtgfbfgiohmdjmaaGreatM6

/- Guests and worlds that are handed in, measured. -/
namespace Go.Proofs.YtgfbfgiohmdjmaaGreat.Gs
open Go.ChangeShapes Go.WideShapes Go.ChangeAt Go.RowKit
open Aid Lst Plat
open Book (Sx szM szM_neg szM_pos)
set_option maxRecDepth 100000
set_option linter.unusedVariables false

theorem szw_any (x : Option Addr) (n c : Nat) (l : Int) (w : World) (hn : (n : Int) ≤ maxLen) (h0 : 0 ≤ l) (h1 : l ≤ 1048576) :
    Calls Tryz.prog 13 #[.slice x n c, .int .i64 l] w fun e w' => e = .returned (.int .i64 (szM l n)) ∧ w' = w := by
  have hm : (maxLen : Int) ≤ 9223372036854775807 := by decide
  by_cases h : l - n < 0
  all_goals
    go_enter Tryz.func13, Tryz.ntmps13
    go_wp2_with (fail)
    go_ret
    exact ⟨by simp only [szM]; first | (rw [if_pos h]; rfl) | (rw [if_neg (by omega)]; rfl), rfl⟩

set_option maxHeartbeats 4000000 in
theorem szg_any (g : Gx) (l : Int) (w : World) (hs : (g.snap.n : Int) ≤ maxLen) (hp : (g.plan.n : Int) ≤ maxLen) (h0 : 0 ≤ l) (h1 : l ≤ 1048576) :
    Calls Tryz.prog 31 #[.agg g.cells.toArray, .int .i64 l] w fun e w' => (∃ r : Int, e = .returned (.int .i64 r) ∧ (0 ≤ r → r + g.snap.n + g.plan.n = l) ∧ r ≤ l ∧ -1 ≤ r) ∧ Below w.heap.size w w' := by
  have R : (w.alloc (.cells g.cells.toArray 60)).rangeAt w.heap.size 0 g.cells := range_lit g.cells.toArray (heap1_0 w _)
  have c1 := at0 R 21 (v := .slice g.snap.a g.snap.n g.snap.c) rfl
  have c2 := at0 R 22 (v := .slice g.plan.a g.plan.n g.plan.c) rfl
  have B := below1 w (.cells g.cells.toArray 60)
  clear R
  go_enter Tryz.func31, Tryz.ntmps31
  go_wp2_with (fail)
  refine (szw_any _ _ _ _ _ hs h0 h1).mono ?_
  rintro e w1 ⟨rfl, rfl⟩
  by_cases e0 : l < g.snap.n
  · rw [szM_neg e0]
    go_wp2_with (fail)
    go_ret
    exact ⟨⟨-1, rfl, fun h => by omega, by omega, by omega⟩, B⟩
  rw [szM_pos e0]
  go_wp2_with (fail)
  refine (szw_any _ _ _ _ _ hp (by omega) (by omega)).mono ?_
  rintro e w1 ⟨rfl, rfl⟩
  by_cases e1 : l - g.snap.n < g.plan.n
  · rw [szM_neg e1]
    go_wp2_with (fail)
    go_ret
    exact ⟨⟨-1, rfl, fun h => by omega, by omega, by omega⟩, B⟩
  rw [szM_pos e1]
  go_wp2_with (fail)
  go_ret
  exact ⟨⟨_, rfl, fun h => by omega, by omega, by omega⟩, B⟩

/- How many numbers the first k guests have in their lists. -/
def sumG (g : Nat → Gx) : Nat → Nat
  | 0 => 0
  | k + 1 => sumG g k + (g k).snap.n + (g k).plan.n

set_option maxHeartbeats 4000000 in
theorem szgs_any (a : Option Addr) (n c : Nat) (g : Nat → Gx) (l : Int) (w : World) (h : RowG w a n g) (hl : ∀ j, j < n → ((g j).snap.n : Int) ≤ maxLen ∧ ((g j).plan.n : Int) ≤ maxLen) (hn : (n : Int) ≤ maxLen) (h0 : 0 ≤ l) (h1 : l ≤ 1048576) :
    Calls Tryz.prog 14 #[.slice a n c, .int .i64 l] w fun e w' => (∃ r : Int, e = .returned (.int .i64 r) ∧ (0 ≤ r → r + n + sumG g n = l) ∧ r ≤ l ∧ -1 ≤ r) ∧ Below w.heap.size w w' := by
  have hm : (maxLen : Int) ≤ 9223372036854775807 := by decide
  have HL : Hid (∀ j, j < n → ((g j).snap.n : Int) ≤ maxLen ∧ ((g j).plan.n : Int) ≤ maxLen) := hl
  have HH : Hid (RowG w a n g) := h
  clear hl h
  by_cases e0 : l - n < 0
  · go_enter Tryz.func14, Tryz.ntmps14
    go_wp2_with (fail)
    go_ret
    exact ⟨⟨-1, rfl, fun h => by omega, by omega, by omega⟩, Below.refl _ _⟩
  go_enter Tryz.func14, Tryz.ntmps14
  go_wp2_with (fail)
  go_loopw [1, 5] (fun lf i wr => ∃ (k : Nat) (r : Int), k ≤ n ∧ i = .int .i64 k ∧ lf = .int .i64 r ∧ r + sumG g k = l - n ∧ 0 ≤ r ∧ Below w.heap.size w wr) (fun _ i _ => n - (intOf i).toNat)
  case atStart => exact ⟨0, l - n, by omega, rfl, rfl, by simp [sumG], by omega, Below.refl _ _⟩
  case round =>
    obtain ⟨k, r, hk, rfl, rfl, hr, r0, hb⟩ := hrel
    by_cases hlt : (k : Int) < n
    · rcases HH.out with h | ⟨b, off, rfl, h⟩
      · omega
      have rg := range_below hb (h k (by omega)) (World.block_lt_of_cell? w _ (h k (by omega) 0 _ rfl))
      have HR : Hid (World.rangeAt wr b (off + k * 26) (g k).cells) := rg
      have HR' : Hid (r + sumG g k = l - n) := hr
      have HB : Hid (Below w.heap.size w wr) := hb
      have rl : r ≤ l := by omega
      clear h rg hr hb
      go_wp2_with (refine wpList_load_mid rfl 60 _ rfl b (off + k * 26) rfl (g k).cells _ HR.out Tryz.underlying60 rfl (by kernel_rfl) ?_)
      refine (szg_any (g k) r wr (HL.out k (by omega)).1 (HL.out k (by omega)).2 r0 (by omega)).mono ?_
      rintro e w1 ⟨⟨q, rfl, q1, q2, q3⟩, hb1⟩
      have HB1 : Hid (Below w.heap.size w w1) := HB.out.trans (hb1.mono HB.out.size)
      have HQ : Hid (0 ≤ q → q + (g k).snap.n + (g k).plan.n = r) := q1
      clear hb1 q1 HR HB
      by_cases qn : q < 0
      · go_wp2_with (fail)
        go_ret
        exact ⟨⟨-1, rfl, fun h => by omega, by omega, by omega⟩, HB1.out⟩
      · go_wp2_with (fail)
        go_roundw
        case rel => exact ⟨k + 1, q, by omega, by go_num, rfl, by have a1 := HR'.out; have a2 := HQ.out (by omega); simp only [sumG]; omega, by omega, HB1.out⟩
        case measure => simp [intOf]; omega
    · obtain rfl : k = n := by omega
      have HR' : Hid (r + sumG g k = l - k) := hr
      have rl : r ≤ l := by omega
      clear hr
      go_wp2_with (fail)
      go_ret
      exact ⟨⟨r, rfl, fun h => by have := HR'.out; omega, by omega, by omega⟩, hb⟩

set_option maxHeartbeats 4000000 in
theorem szworld_any (x : Wx) (l : Int) (w : World) (h : x.Good w) (h0 : 0 ≤ l) (h1 : l ≤ 1048576) :
    Calls Tryz.prog 4 #[.agg x.cells.toArray, .int .i64 l] w fun e w' => (∃ r : Int, e = .returned (.int .i64 r) ∧ (0 ≤ r → r + x.ws.n + x.n + sumG x.g x.n = l) ∧ r ≤ l ∧ -1 ≤ r) ∧ Below w.heap.size w w' := by
  have R : (w.alloc (.cells x.cells.toArray 25)).rangeAt w.heap.size 0 x.cells := range_lit x.cells.toArray (heap1_0 w _)
  have c1 := at0 R 0 (v := .slice x.ws.a x.ws.n x.ws.c) rfl
  have c2 := at0 R 1 (v := .slice x.a x.n x.c) rfl
  have B : Hid (Below w.heap.size w (w.alloc (.cells x.cells.toArray 25))) := below1 w _
  have HRG : Hid (RowG (w.alloc (.cells x.cells.toArray 25)) x.a x.n x.g) := h.row.later (below1 w _)
  have HL : Hid (∀ j, j < x.n → ((x.g j).snap.n : Int) ≤ maxLen ∧ ((x.g j).plan.n : Int) ≤ maxLen) := fun j hj => by
    have a1 := (h.each j hj).snap.2.1
    have a2 := (h.each j hj).plan.2.1
    omega
  have l1 : (x.ws.n : Int) ≤ maxLen := by have := h.ws.2.1; omega
  have l2 : (x.n : Int) ≤ maxLen := by have := h.lim; omega
  clear R h
  go_enter Tryz.func4, Tryz.ntmps4
  go_wp2_with (fail)
  refine (szw_any _ _ _ _ _ l1 h0 h1).mono ?_
  rintro e w1 ⟨rfl, rfl⟩
  by_cases e0 : l < x.ws.n
  · rw [szM_neg e0]
    go_wp2_with (fail)
    go_ret
    exact ⟨⟨-1, rfl, fun h => by omega, by omega, by omega⟩, B.out⟩
  rw [szM_pos e0]
  go_wp2_with (fail)
  refine (szgs_any _ _ _ _ _ _ HRG.out HL.out l2 (by omega) (by omega)).mono ?_
  rintro e w1 ⟨⟨q, rfl, q1, q2, q3⟩, hb⟩
  have HB : Hid (Below w.heap.size w w1) := B.out.trans (hb.mono B.out.size)
  have HQ : Hid (0 ≤ q → q + x.n + sumG x.g x.n = l - x.ws.n) := q1
  clear hb q1 B c1 c2 HRG
  by_cases qn : q < 0
  · go_wp2_with (fail)
    go_ret
    exact ⟨⟨-1, rfl, fun h => by omega, by omega, by omega⟩, HB.out⟩
  · go_wp2_with (fail)
    go_ret
    exact ⟨⟨q, rfl, fun h => by have := HQ.out h; omega, by omega, by omega⟩, HB.out⟩

end Go.Proofs.YtgfbfgiohmdjmaaGreat.Gs
/- The words of a house: what a door, the register and a change say, as the program reads them. -/
namespace Go.Proofs.YtgfbfgiohmdjmaaGreat.Words
open Go.ChangeShapes Go.WideShapes Go.ChangeAt Go.RowKit

theorem regOf_any (n : Int) (w : World) (h0 : 0 ≤ n) (h1 : n < 18446744073709551616) :
    Calls Tryz.prog 103 #[.int .u64 n] w fun e w' => e = .returned (.tuple #[.int .i64 (lo32 n % 4), .int .i64 (lo32 n / 4)]) ∧ Grown w w' ∧ Below w.heap.size w w' := by
  go_enter Tryz.func103, Tryz.ntmps103
  go_wp2
  go_region_held (fun w' => w'.cell? ⟨w.heap.size, 0, none⟩ = some (.int .u64 n)) (go_keep) (first | (go_at_call 126; refine (rstate_any _ _ h0 h1).mono ?_; rintro e w' ⟨rfl, rfl⟩) | (go_at_call 127; refine (repoch_any _ _ h0 h1).mono ?_; rintro e w' ⟨rfl, rfl⟩))
  all_goals go_wp2
  all_goals go_ret2
  all_goals exact ⟨rfl, by repeat (first | exact Grown.refl _ | apply Grown.drew | apply Grown.alloc), by repeat (first | exact Below.refl _ _ | apply Below.drew | refine Below.alloc ?_ (by simp <;> omega) _)⟩

theorem entryOf_any (n : Int) (w : World) (h0 : 0 ≤ n) (h1 : n < 18446744073709551616) :
    Calls Tryz.prog 114 #[.int .u64 n] w fun e w' => e = .returned (.tuple #[.int .i64 (lo32 n / 1048576), .int .i64 (lo32 n % 1048576)]) ∧ Grown w w' ∧ Below w.heap.size w w' := by
  go_enter Tryz.func114, Tryz.ntmps114
  go_wp2
  go_region_held (fun w' => w'.cell? ⟨w.heap.size, 0, none⟩ = some (.int .u64 n)) (go_keep) (first | (go_at_call 138; refine (eaddr_any _ _ h0 h1).mono ?_; rintro e w' ⟨rfl, rfl⟩) | (go_at_call 139; refine (eval_any _ _ h0 h1).mono ?_; rintro e w' ⟨rfl, rfl⟩))
  all_goals go_wp2
  all_goals go_ret2
  all_goals exact ⟨rfl, by repeat (first | exact Grown.refl _ | apply Grown.drew | apply Grown.alloc), by repeat (first | exact Below.refl _ _ | apply Below.drew | refine Below.alloc ?_ (by simp <;> omega) _)⟩
end Go.Proofs.YtgfbfgiohmdjmaaGreat.Words
/- Of every world, what the program's WorldOk says, held against the specification. Conditions: none. -/
namespace Go.Proofs.YtgfbfgiohmdjmaaGreat.Gs
open Go.ChangeShapes Go.WideShapes Go.ChangeAt Go.RowKit
open Aid Lst Plat
open Book (Ck ck_lit Sx takeB)
open Words (wf64)
set_option maxRecDepth 100000
set_option linter.unusedVariables false

theorem sum_le (g : Nat → Gx) : ∀ (k j : Nat), j < k → (g j).snap.n + (g j).plan.n ≤ sumG g k
  | 0, j, h => absurd h (Nat.not_lt_zero j)
  | k + 1, j, h => by
    simp only [sumG]
    by_cases e : j = k
    · subst e; omega
    · have := sum_le g k j (by omega)
      omega
theorem Wx.lim_of {x : Wx} {r : Int} (h : r + x.ws.n + x.n + sumG x.g x.n = 1048576) (h0 : 0 ≤ r) : x.Lim :=
  ⟨by omega, by omega, fun j hj => by have := sum_le x.g x.n j hj; omega⟩

/- What the law rests on: the world that was handed in, in a struct of its own, and a copy of it. -/
structure Lx (w0 : World) (x : Wx) (w : World) : Prop where
  r : w.rangeAt w0.heap.size 0 x.cells
  z : Below w0.heap.size w0 w
  lt : w0.heap.size < w.heap.size
theorem Lx.later {w0 w w1 : World} {x : Wx} (h : Lx w0 x w) (hb : Below w.heap.size w w1) : Lx w0 x w1 :=
  ⟨range_below hb h.r h.lt, h.z.trans (hb.mono h.z.size), Nat.lt_of_lt_of_le h.lt hb.size⟩
structure Lc (w0 : World) (x : Wx) (c : Nat) (cs : List Value) (w : World) : Prop where
  l : Lx w0 x w
  r : w.rangeAt c 0 cs
  lt : c < w.heap.size
theorem Lc.later {w0 w w1 : World} {x : Wx} {c : Nat} {cs : List Value} (h : Lc w0 x c cs w) (hb : Below w.heap.size w w1) : Lc w0 x c cs w1 :=
  ⟨h.l.later hb, range_below hb h.r h.lt, Nat.lt_of_lt_of_le h.lt hb.size⟩
theorem Lc.drew {w0 w : World} {x : Wx} {c : Nat} {cs : List Value} (h : Lc w0 x c cs w) : Lc w0 x c cs w.drew := ⟨⟨h.l.r, ⟨h.l.z.os, h.l.z.tape, h.l.z.output, h.l.z.size, h.l.z.block⟩, h.l.lt⟩, h.r, h.lt⟩

theorem words_of {x : Sx} {w : World} (h : Good64 x w) (hn : x.n ≤ 1000000000) : Words64 x := ⟨hn, fun j _ => wf64 (h.2.2 j)⟩
theorem Gk.bel0 {w0 w1 w : World} {R n k : Nat} {g : Nat → Gx} {B1 B2 : Nat → Nat} (h : Gk w0 R n k g B1 B2 w) : Below w0.heap.size w0 w := h.bel

end Go.Proofs.YtgfbfgiohmdjmaaGreat.Gs
/- Books that are marked and looked at. Conditions: at most 1,000,000,000 numbers in all. -/
namespace Go.Proofs.YtgfbfgiohmdjmaaGreat.Book
open Go.ChangeShapes Go.WideShapes Go.ChangeAt Go.RowKit
open Aid Lst
set_option maxRecDepth 100000
set_option linter.unusedVariables false

/- Only the blocks of these lists have turned, of those that were there. -/
structure Sp (xs : List Sx) (w w' : World) : Prop where
  os : w'.os = w.os
  tape : w'.tape = w.tape
  output : w'.output = w.output
  size : w.heap.size ≤ w'.heap.size
  block : ∀ i, i < w.heap.size → (∀ x ∈ xs, x.n ≠ 0 → ∀ k, x.a = some ⟨k, 0, none⟩ → i ≠ k) → w'.heap[i]? = w.heap[i]?

theorem Sp.refl (xs : List Sx) (w : World) : Sp xs w w := ⟨rfl, rfl, rfl, Nat.le_refl _, fun _ _ _ => rfl⟩
theorem Sp.of {xs : List Sx} {w w' : World} (h : Below w.heap.size w w') : Sp xs w w' := ⟨h.os, h.tape, h.output, h.size, fun i hi _ => h.block i hi⟩
theorem Sp.trans {xs : List Sx} {a w w' : World} (h : Sp xs a w) (h' : Sp xs w w') : Sp xs a w' := ⟨h'.os.trans h.os, h'.tape.trans h.tape, h'.output.trans h.output, Nat.le_trans h.size h'.size, fun i hi hx => (h'.block i (Nat.lt_of_lt_of_le hi h.size) hx).trans (h.block i hi hx)⟩
theorem Sp.mono {xs ys : List Sx} {w w' : World} (h : Sp xs w w') (hs : ∀ x ∈ xs, x ∈ ys) : Sp ys w w' := ⟨h.os, h.tape, h.output, h.size, fun i hi hx => h.block i hi (fun x hm => hx x (hs x hm))⟩
theorem Apart.symm {x y : Sx} (h : Apart x y) : Apart y x := by
  rcases h with h | h | ⟨j, k, h1, h2, h3⟩
  · exact .inr (.inl h)
  · exact .inl h
  · exact .inr (.inr ⟨k, j, h2, h1, h3.symm⟩)
theorem Sp.own {xs : List Sx} {w w' : World} (h : Sp xs w w') {y : Sx} {B C : Nat} (hy : y.Own B C w) (ha : ∀ x ∈ xs, Apart y x) : y.Own B C w' := by
  rcases hy with hy | ⟨k, e, h1, h2, hy⟩
  · exact .inl hy
  · by_cases y0 : y.n = 0
    · exact .inl y0
    refine .inr ⟨k, e, h1, h2, fun j hj => ?_⟩
    have hlt := World.block_lt_of_cell? w _ (hy j hj).1
    have hbl : w'.heap[k]? = w.heap[k]? := h.block k hlt (fun x hx xn k' ek => by
      rcases ha x hx with g | g | ⟨p, q, g1, g2, g3⟩
      · exact absurd g y0
      · exact absurd g xn
      · rw [e] at g1; rw [ek] at g2
        simp only [Option.some.injEq, Addr.mk.injEq, and_true] at g1 g2
        omega)
    rw [show w'.cell? ⟨k, j, none⟩ = w.cell? ⟨k, j, none⟩ from World.cell?_of_block (w := w) hbl, show w'.frozen? ⟨k, j, none⟩ = w.frozen? ⟨k, j, none⟩ from World.frozen?_of_block (w := w) hbl]
    exact hy j hj
theorem Sp.only {xs : List Sx} {w w' v : World} (h : Sp xs w w') {B C : Nat} (hx : ∀ x ∈ xs, x.Own B C v) : Only B C w w' := ⟨h.os, h.tape, h.output, h.size, fun i hi ho => h.block i hi (fun x hm xn k ek => by
  rcases hx x hm with g | ⟨k', e, h1, h2, _⟩
  · exact absurd g xn
  · rw [e] at ek
    simp only [Option.some.injEq, Addr.mk.injEq, and_true] at ek
    omega)⟩

/- A list as it is once it is marked from k on. -/
def Sx.mk' (x : Sx) (k : Int) : Sx := ⟨x.a, x.n, x.c, fun j => k + j⟩

theorem mark1_any (x : Sx) (k0 : Int) (B C : Nat) (w : World) (h : x.Own B C w) (hn : x.n ≤ 1000000000) (h0 : 0 ≤ k0) (h1 : k0 ≤ 1000000000000000) :
    Calls Tryz.prog 27 #[.slice x.a x.n x.c, .int .i64 k0] w fun e w' => e = .returned (.int .i64 (k0 + x.n)) ∧ (x.mk' k0).Own B C w' ∧ Sp [x] w w' := by
  by_cases z : x.n = 0
  · rw [z]
    refine (markInt_none x.a x.c k0 w).mono ?_
    rintro e w' ⟨rfl, rfl⟩
    exact ⟨by simp, .inl z, Sp.refl _ _⟩
  · rcases h with h | ⟨k, e, g1, g2, hf⟩
    · exact absurd h z
    · rw [e]
      refine (markInt_any k x.n x.c x.f k0 w hf hn h0 h1).mono ?_
      rintro e' w' ⟨rfl, g, hb⟩
      exact ⟨rfl, .inr ⟨k, e, g1, g2, g⟩, ⟨hb.os, hb.tape, hb.output, Nat.le_of_eq hb.size.symm, fun i hi hx => hb.block i (hx x (by simp) z k e)⟩⟩

theorem held1_any (x : Sx) (k0 : Int) (w : World) (h : (x.mk' k0).At w) (hn : x.n ≤ 1000000000) (h0 : 0 ≤ k0) (h1 : k0 ≤ 1000000000000000) :
    Calls Tryz.prog 29 #[.slice x.a x.n x.c, .int .i64 k0] w fun e w' => e = .returned (.int .i64 (k0 + x.n)) ∧ w' = w := heldInt_any x.a x.n x.c k0 w h hn h0 h1

set_option maxHeartbeats 4000000 in
theorem mark4_any (x0 x1 x2 x3 : Sx) (k0 : Int) (B C : Nat) (w : World) (hC : C ≤ w.heap.size) (o0 : x0.Own B C w) (o1 : x1.Own B C w) (o2 : x2.Own B C w) (o3 : x3.Own B C w) (a01 : Apart x0 x1) (a02 : Apart x0 x2) (a03 : Apart x0 x3) (a12 : Apart x1 x2) (a13 : Apart x1 x3) (a23 : Apart x2 x3) (n0 : x0.n ≤ 1000000000) (n1 : x1.n ≤ 1000000000) (n2 : x2.n ≤ 1000000000) (n3 : x3.n ≤ 1000000000) (h0 : 0 ≤ k0) (h1 : k0 ≤ 100000000000000) :
    Calls Tryz.prog 28 #[.agg #[.slice x0.a x0.n x0.c, .slice x1.a x1.n x1.c, .slice x2.a x2.n x2.c, .slice x3.a x3.n x3.c], .int .i64 k0] w fun e w' => e = .returned (.int .i64 (k0 + x0.n + x1.n + x2.n + x3.n)) ∧ (x0.mk' (k0)).Own B C w' ∧ (x1.mk' (k0 + x0.n)).Own B C w' ∧ (x2.mk' (k0 + x0.n + x1.n)).Own B C w' ∧ (x3.mk' (k0 + x0.n + x1.n + x2.n)).Own B C w' ∧ Sp [x0, x1, x2, x3] w w' := by
  go_enter Tryz.func28, Tryz.ntmps28
  go_wp2_with (fail)
  have R0 : World.rangeAt _ w.heap.size 0 [.slice x0.a x0.n x0.c, .slice x1.a x1.n x1.c, .slice x2.a x2.n x2.c, .slice x3.a x3.n x3.c] := range_lit #[.slice x0.a x0.n x0.c, .slice x1.a x1.n x1.c, .slice x2.a x2.n x2.c, .slice x3.a x3.n x3.c] (heap1_0 w (.cells #[.slice x0.a x0.n x0.c, .slice x1.a x1.n x1.c, .slice x2.a x2.n x2.c, .slice x3.a x3.n x3.c] 28))
  have B0 : Below w.heap.size w (w.alloc (.cells #[.slice x0.a x0.n x0.c, .slice x1.a x1.n x1.c, .slice x2.a x2.n x2.c, .slice x3.a x3.n x3.c] 28)) := below1 w _
  have Z0 : w.heap.size < (w.alloc (.cells #[.slice x0.a x0.n x0.c, .slice x1.a x1.n x1.c, .slice x2.a x2.n x2.c, .slice x3.a x3.n x3.c] 28)).heap.size := by simp
  generalize w.alloc (.cells #[.slice x0.a x0.n x0.c, .slice x1.a x1.n x1.c, .slice x2.a x2.n x2.c, .slice x3.a x3.n x3.c] 28) = W0 at R0 B0 Z0 ⊢
  have q0 := Sx.Own.only o0 (Only.of (B := C) (C := C) B0) (.inl (Nat.le_refl _))
  have q1 := Sx.Own.only o1 (Only.of (B := C) (C := C) B0) (.inl (Nat.le_refl _))
  have q2 := Sx.Own.only o2 (Only.of (B := C) (C := C) B0) (.inl (Nat.le_refl _))
  have q3 := Sx.Own.only o3 (Only.of (B := C) (C := C) B0) (.inl (Nat.le_refl _))
  have S0 : Sp [x0, x1, x2, x3] w W0 := Sp.of B0
  clear B0
  refine wp_loop_rounds 5 ?_
  rw [rounds_succ]
  have r0 := at0 R0 0 (v := .slice x0.a x0.n x0.c) rfl
  go_wp2_with (fail)
  clear r0
  refine (mark1_any x0 (k0) B C W0 q0 n0 (by omega) (by omega)).mono ?_
  rintro e W1 ⟨rfl, m0, sp⟩
  replace q1 := sp.own q1 (by simp; exact (Apart.symm a01))
  replace q2 := sp.own q2 (by simp; exact (Apart.symm a02))
  replace q3 := sp.own q3 (by simp; exact (Apart.symm a03))
  have on := sp.only (B := B) (C := C) (v := w) (by simp; exact o0)
  have R1 : W1.rangeAt w.heap.size 0 [.slice x0.a x0.n x0.c, .slice x1.a x1.n x1.c, .slice x2.a x2.n x2.c, .slice x3.a x3.n x3.c] := fun t v hv => by rw [on.cell (k := w.heap.size) (by omega) (.inr hC)]; exact R0 t v hv
  have Z1 : w.heap.size < W1.heap.size := Nat.lt_of_lt_of_le Z0 sp.size
  have S1 := S0.trans (sp.mono (ys := [x0, x1, x2, x3]) (by simp))
  clear sp on R0 Z0 S0 q0
  go_wp2_with (fail)
  rw [rounds_succ]
  have r1 := at0 R1 1 (v := .slice x1.a x1.n x1.c) rfl
  go_wp2_with (fail)
  clear r1
  refine (mark1_any x1 (k0 + x0.n) B C W1 q1 n1 (by omega) (by omega)).mono ?_
  rintro e W2 ⟨rfl, m1, sp⟩
  replace m0 := sp.own m0 (by simp; exact a01)
  replace q2 := sp.own q2 (by simp; exact (Apart.symm a12))
  replace q3 := sp.own q3 (by simp; exact (Apart.symm a13))
  have on := sp.only (B := B) (C := C) (v := w) (by simp; exact o1)
  have R2 : W2.rangeAt w.heap.size 0 [.slice x0.a x0.n x0.c, .slice x1.a x1.n x1.c, .slice x2.a x2.n x2.c, .slice x3.a x3.n x3.c] := fun t v hv => by rw [on.cell (k := w.heap.size) (by omega) (.inr hC)]; exact R1 t v hv
  have Z2 : w.heap.size < W2.heap.size := Nat.lt_of_lt_of_le Z1 sp.size
  have S2 := S1.trans (sp.mono (ys := [x0, x1, x2, x3]) (by simp))
  clear sp on R1 Z1 S1 q1
  go_wp2_with (fail)
  rw [rounds_succ]
  have r2 := at0 R2 2 (v := .slice x2.a x2.n x2.c) rfl
  go_wp2_with (fail)
  clear r2
  refine (mark1_any x2 (k0 + x0.n + x1.n) B C W2 q2 n2 (by omega) (by omega)).mono ?_
  rintro e W3 ⟨rfl, m2, sp⟩
  replace m0 := sp.own m0 (by simp; exact a02)
  replace m1 := sp.own m1 (by simp; exact a12)
  replace q3 := sp.own q3 (by simp; exact (Apart.symm a23))
  have on := sp.only (B := B) (C := C) (v := w) (by simp; exact o2)
  have R3 : W3.rangeAt w.heap.size 0 [.slice x0.a x0.n x0.c, .slice x1.a x1.n x1.c, .slice x2.a x2.n x2.c, .slice x3.a x3.n x3.c] := fun t v hv => by rw [on.cell (k := w.heap.size) (by omega) (.inr hC)]; exact R2 t v hv
  have Z3 : w.heap.size < W3.heap.size := Nat.lt_of_lt_of_le Z2 sp.size
  have S3 := S2.trans (sp.mono (ys := [x0, x1, x2, x3]) (by simp))
  clear sp on R2 Z2 S2 q2
  go_wp2_with (fail)
  rw [rounds_succ]
  have r3 := at0 R3 3 (v := .slice x3.a x3.n x3.c) rfl
  go_wp2_with (fail)
  clear r3
  refine (mark1_any x3 (k0 + x0.n + x1.n + x2.n) B C W3 q3 n3 (by omega) (by omega)).mono ?_
  rintro e W4 ⟨rfl, m3, sp⟩
  replace m0 := sp.own m0 (by simp; exact a03)
  replace m1 := sp.own m1 (by simp; exact a13)
  replace m2 := sp.own m2 (by simp; exact a23)
  have on := sp.only (B := B) (C := C) (v := w) (by simp; exact o3)
  have R4 : W4.rangeAt w.heap.size 0 [.slice x0.a x0.n x0.c, .slice x1.a x1.n x1.c, .slice x2.a x2.n x2.c, .slice x3.a x3.n x3.c] := fun t v hv => by rw [on.cell (k := w.heap.size) (by omega) (.inr hC)]; exact R3 t v hv
  have Z4 : w.heap.size < W4.heap.size := Nat.lt_of_lt_of_le Z3 sp.size
  have S4 := S3.trans (sp.mono (ys := [x0, x1, x2, x3]) (by simp))
  clear sp on R3 Z3 S3 q3
  go_wp2_with (fail)
  rw [rounds_succ]
  go_wp2_with (fail)
  go_ret
  exact ⟨rfl, m0, m1, m2, m3, S4⟩

set_option maxHeartbeats 4000000 in
theorem held4_any (x0 x1 x2 x3 : Sx) (k0 : Int) (w : World) (o0 : (x0.mk' (k0)).At w) (o1 : (x1.mk' (k0 + x0.n)).At w) (o2 : (x2.mk' (k0 + x0.n + x1.n)).At w) (o3 : (x3.mk' (k0 + x0.n + x1.n + x2.n)).At w) (n0 : x0.n ≤ 1000000000) (n1 : x1.n ≤ 1000000000) (n2 : x2.n ≤ 1000000000) (n3 : x3.n ≤ 1000000000) (h0 : 0 ≤ k0) (h1 : k0 ≤ 100000000000000) :
    Calls Tryz.prog 30 #[.agg #[.slice x0.a x0.n x0.c, .slice x1.a x1.n x1.c, .slice x2.a x2.n x2.c, .slice x3.a x3.n x3.c], .int .i64 k0] w fun e w' => e = .returned (.int .i64 (k0 + x0.n + x1.n + x2.n + x3.n)) ∧ Below w.heap.size w w' := by
  go_enter Tryz.func30, Tryz.ntmps30
  go_wp2_with (fail)
  have R0 : World.rangeAt _ w.heap.size 0 [.slice x0.a x0.n x0.c, .slice x1.a x1.n x1.c, .slice x2.a x2.n x2.c, .slice x3.a x3.n x3.c] := range_lit #[.slice x0.a x0.n x0.c, .slice x1.a x1.n x1.c, .slice x2.a x2.n x2.c, .slice x3.a x3.n x3.c] (heap1_0 w (.cells #[.slice x0.a x0.n x0.c, .slice x1.a x1.n x1.c, .slice x2.a x2.n x2.c, .slice x3.a x3.n x3.c] 28))
  have B0 : Below w.heap.size w (w.alloc (.cells #[.slice x0.a x0.n x0.c, .slice x1.a x1.n x1.c, .slice x2.a x2.n x2.c, .slice x3.a x3.n x3.c] 28)) := below1 w _
  generalize w.alloc (.cells #[.slice x0.a x0.n x0.c, .slice x1.a x1.n x1.c, .slice x2.a x2.n x2.c, .slice x3.a x3.n x3.c] 28) = W0 at R0 B0 ⊢
  have r0 := at0 R0 0 (v := .slice x0.a x0.n x0.c) rfl
  replace o0 := Sx.At.later o0 B0
  have r1 := at0 R0 1 (v := .slice x1.a x1.n x1.c) rfl
  replace o1 := Sx.At.later o1 B0
  have r2 := at0 R0 2 (v := .slice x2.a x2.n x2.c) rfl
  replace o2 := Sx.At.later o2 B0
  have r3 := at0 R0 3 (v := .slice x3.a x3.n x3.c) rfl
  replace o3 := Sx.At.later o3 B0
  clear R0
  refine wp_loop_rounds 5 ?_
  rw [rounds_succ]
  go_wp2_with (fail)
  refine (held1_any x0 (k0) _ o0 n0 (by omega) (by omega)).mono ?_
  rintro e w1 ⟨rfl, rfl⟩
  have g0 : ¬ (k0 + (x0.n : Int) < 0) := by omega
  go_wp2_with (fail)
  clear g0
  rw [rounds_succ]
  go_wp2_with (fail)
  refine (held1_any x1 (k0 + x0.n) _ o1 n1 (by omega) (by omega)).mono ?_
  rintro e w1 ⟨rfl, rfl⟩
  have g1 : ¬ (k0 + x0.n + (x1.n : Int) < 0) := by omega
  go_wp2_with (fail)
  clear g1
  rw [rounds_succ]
  go_wp2_with (fail)
  refine (held1_any x2 (k0 + x0.n + x1.n) _ o2 n2 (by omega) (by omega)).mono ?_
  rintro e w1 ⟨rfl, rfl⟩
  have g2 : ¬ (k0 + x0.n + x1.n + (x2.n : Int) < 0) := by omega
  go_wp2_with (fail)
  clear g2
  rw [rounds_succ]
  go_wp2_with (fail)
  refine (held1_any x3 (k0 + x0.n + x1.n + x2.n) _ o3 n3 (by omega) (by omega)).mono ?_
  rintro e w1 ⟨rfl, rfl⟩
  have g3 : ¬ (k0 + x0.n + x1.n + x2.n + (x3.n : Int) < 0) := by omega
  go_wp2_with (fail)
  clear g3
  rw [rounds_succ]
  go_wp2_with (fail)
  go_ret
  exact ⟨rfl, B0⟩

end Go.Proofs.YtgfbfgiohmdjmaaGreat.Book

import Derived.Test.YtlhfkackchcncaaM1
import Derived.Test.YtlhfkackchcncaaM2

/- The kind of a room, of both: whatever int comes in. -/
namespace Go.Proofs.Ytlhfkackchcncaa.Book
open Go.ChangeShapes Go.WideShapes Go.ChangeAt Go.RowKit
open Go.Proofs.Ytlhfkackchcncaa.Aid

def sz (k : Int) : Int := if k = 0 then 1 else if k = 1 then 2 else if k = 2 then 4 else 8
def kindM (u : Int) : Int := if u < 1 ∨ 32 < u then -1 else if u ≤ 1 then 0 else if u ≤ 2 then 1 else if u ≤ 4 then 2 else if u ≤ 8 then 3 else 4

theorem kindM_of (u k : Int) (h : 0 ≤ k ∧ k < 4 ∧ 1 ≤ u ∧ u ≤ sz k ∧ (∀ j, 0 ≤ j → j < k → sz j < u)) : kindM u = k := by
  obtain ⟨h0, h1, h2, h3, h⟩ := h
  have q0 := h 0; have q1 := h 1; have q2 := h 2; have q3 := h 3
  obtain rfl | rfl | rfl | rfl : k = 0 ∨ k = 1 ∨ k = 2 ∨ k = 3 := by omega
  all_goals
    simp [sz] at q0 q1 q2 q3 h3
    simp only [kindM]
    repeat' split
    all_goals omega

theorem kindM_none (u : Int) (h : u < 1 ∨ 32 < u) : kindM u = -1 := by simp only [kindM]; rw [if_pos h]
theorem kindM_wide (u : Int) (h : 8 < u) (h' : u ≤ 32) : kindM u = 4 := by
  simp only [kindM]
  repeat' split
  all_goals omega

theorem size_any (k : Int) (h0 : 0 ≤ k) (h1 : k < 4) (w : World) : Calls Try.prog 30 #[.int .i64 k] w fun e w' => e = .returned (.int .i64 (sz k)) ∧ Below w.heap.size w w' := by
  obtain rfl | rfl | rfl | rfl : k = 0 ∨ k = 1 ∨ k = 2 ∨ k = 3 := by omega
  all_goals
    go_enter Try.func30, Try.ntmps30
    go_wp2_with (fail)
    go_ret
    exact ⟨rfl, below1 _ _⟩

theorem within_any (n a b : Int) (w : World) : Calls Try.prog 25 #[.int .i64 n, .int .i64 a, .int .i64 b] w fun e w' => e = .returned (.bool (decide (a ≤ n ∧ n ≤ b))) ∧ w' = w := by
  by_cases h1 : a ≤ n <;> by_cases h2 : n ≤ b
  all_goals
    go_enter Try.func25, Try.ntmps25
    go_wp2_with (fail)
    go_ret
    exact ⟨by simp [h1, h2], rfl⟩

set_option maxHeartbeats 1000000 in
theorem skind_any (u : Int) (w : World) : Calls Try.prog 53 #[.int .i64 u] w fun e w' => e = .returned (.int .i64 (kindM u)) ∧ Below w.heap.size w w' := by
  go_enter Try.func53, Try.ntmps53
  go_wp2_with (fail)
  go_loopw [3] (fun i wr => ∃ k : Int, 0 ≤ k ∧ k ≤ 4 ∧ i = .int .i64 k ∧ (1 ≤ u → ∀ j, 0 ≤ j → j < k → sz j < u) ∧ Below w.heap.size w wr) (fun i _ => 4 - (intOf i).toNat)
  case atStart => exact ⟨0, by omega, by omega, rfl, fun _ j h1 h2 => by omega, Below.refl _ _⟩
  case round =>
    obtain ⟨k, hk0, hk, rfl, hj, hb⟩ := hrel
    by_cases hlt : k < 4
    · by_cases h1 : 1 ≤ u
      · have hs := size_any k hk0 hlt
        have hjH := (id hj : Hid _)
        have hbH := (id hb : Hid _)
        clear hj hb
        go_wp2_with (fail)
        refine (hs _).mono ?_
        rintro e w1 ⟨rfl, hb1⟩
        clear hs
        have hb2 := hbH.out.trans (hb1.mono hbH.out.size)
        clear hb1 hbH
        by_cases h2 : u ≤ sz k
        · go_wp2_with (fail)
          go_ret
          exact ⟨by rw [kindM_of u k ⟨hk0, hlt, h1, h2, hjH.out h1⟩]; rfl, hb2⟩
        · go_wp2_with (fail)
          go_roundw
          case rel => exact ⟨k + 1, by omega, by omega, by go_num, fun h j a b => (by
            by_cases e : j = k
            · subst e; omega
            · exact hjH.out h j a (by omega)), hb2⟩
          case measure => simp [intOf]; omega
      · have hbH := (id hb : Hid _)
        clear hj hb
        go_wp2_with (fail)
        go_roundw
        case rel => exact ⟨k + 1, by omega, by omega, by go_num, fun h => absurd h h1, hbH.out⟩
        case measure => simp [intOf]; omega
    · obtain rfl : k = 4 := by omega
      by_cases h1 : 8 < u <;> by_cases h2 : u ≤ 32
      all_goals
        go_wp2_with (fail)
        go_ret
        have h3 : 1 ≤ u → sz 3 < u := fun h => hj h 3 (by omega) (by omega)
        simp [sz] at h3
        first
          | exact ⟨by rw [kindM_wide u h1 h2]; rfl, hb⟩
          | exact ⟨by rw [kindM_none u (by omega)]; rfl, hb⟩

end Go.Proofs.Ytlhfkackchcncaa.Book

/- What the specification asks of a page: its parts. -/
namespace Go.Proofs.Ytlhfkackchcncaa.Book
open Go.ChangeShapes Go.WideShapes Go.ChangeAt Go.RowKit
open Go.Proofs.Ytlhfkackchcncaa.Aid Go.Proofs.Ytlhfkackchcncaa.Lst
set_option maxRecDepth 100000

/- A call with a book as its first argument: the book in a struct of its own. -/
structure Ent (w : World) (b : Bx) (W : World) : Prop where
  r : W.rangeAt w.heap.size 0 b.cells
  a : b.At W
  b : Below w.heap.size w W
  lt : w.heap.size < W.heap.size

theorem Ent.start {w : World} {b : Bx} (h : b.At w) (t : TypeId) : Ent w b (w.alloc (.cells b.cells.toArray t)) := ⟨range_lit b.cells.toArray (heap1_0 _ _), h.later (below1 _ _), below1 _ _, by simp⟩
theorem Ent.later {w : World} {b : Bx} {W W1 : World} (h : Ent w b W) (hb : Below W.heap.size W W1) : Ent w b W1 := ⟨range_below hb h.r h.lt, h.a.later hb, h.b.trans (hb.mono h.b.size), Nat.lt_of_lt_of_le h.lt hb.size⟩
theorem Ent.drewN {w : World} {b : Bx} {W : World} (h : Ent w b W) (q : Nat) : Ent w b (W.drewN q) := ⟨h.r, h.a, ⟨h.b.os, h.b.tape, h.b.output, h.b.size, h.b.block⟩, h.lt⟩

/- A list that is not empty, in memory. -/
theorem Sx.At.cells {x : Sx} {w : World} (h : x.At w) (hn : 0 < x.n) : ∃ k o, x.a = some ⟨k, o, none⟩ ∧ ∀ j, j < x.n → w.cell? ⟨k, o + j, none⟩ = some (.int .i64 (x.f j)) := by
  rcases h with h | ⟨k, o, e, h⟩
  · omega
  · exact ⟨k, o, e, h⟩
theorem Bx.At.p {b : Bx} {w : World} (h : b.At w) : b.p.At w := h _ (by simp [Bx.lists])
theorem Bx.At.h0 {b : Bx} {w : World} (h : b.At w) : b.h0.At w := h _ (by simp [Bx.lists])
theorem Bx.At.h1 {b : Bx} {w : World} (h : b.At w) : b.h1.At w := h _ (by simp [Bx.lists])
theorem Bx.At.h2 {b : Bx} {w : World} (h : b.At w) : b.h2.At w := h _ (by simp [Bx.lists])
theorem Bx.At.h3 {b : Bx} {w : World} (h : b.At w) : b.h3.At w := h _ (by simp [Bx.lists])
theorem Bx.At.o {b : Bx} {w : World} (h : b.At w) : b.o.At w := h _ (by simp [Bx.lists])
theorem Bx.At.i {b : Bx} {w : World} (h : b.At w) : b.i.At w := h _ (by simp [Bx.lists])
theorem Bx.At.e {b : Bx} {w : World} (h : b.At w) : b.e.At w := h _ (by simp [Bx.lists])

def kdM (s : Int) : Int := if 1 ≤ s ∧ s ≤ 4 then s - 1 else -1
theorem kd_any (s : Int) (w : World) : Calls Try.prog 29 #[.int .i64 s] w fun e w' => e = .returned (.int .i64 (kdM s)) ∧ w' = w := by
  by_cases h1 : s < 1
  · go_enter Try.func29, Try.ntmps29
    go_wp2_with (fail)
    go_ret
    exact ⟨by simp only [kdM]; rw [if_neg (by omega)]; rfl, rfl⟩
  · by_cases h2 : s > 4
    · go_enter Try.func29, Try.ntmps29
      go_wp2_with (fail)
      go_ret
      exact ⟨by simp only [kdM]; rw [if_neg (by omega)]; rfl, rfl⟩
    · go_enter Try.func29, Try.ntmps29
      go_wp2_with (fail)
      go_ret
      exact ⟨by simp only [kdM]; rw [if_pos (by omega)]; rfl, rfl⟩

/- How often a number stands in a list. -/
def cnt (f : Nat → Int) (at_ : Int) : Nat → Nat
  | 0 => 0
  | n + 1 => cnt f at_ n + (if f n = at_ then 1 else 0)
theorem cnt_le (f : Nat → Int) (at_ : Int) : ∀ n, cnt f at_ n ≤ n
  | 0 => Nat.le_refl _
  | n + 1 => by have := cnt_le f at_ n; simp only [cnt]; split <;> omega

set_option maxHeartbeats 1000000 in
theorem in_any (x : Sx) (at_ : Int) (w : World) (h : x.At w) (hn : x.n ≤ 1000000000) :
    Calls Try.prog 44 #[.slice x.a x.n x.c, .int .i64 at_] w fun e w' => e = .returned (.int .i64 (cnt x.f at_ x.n)) ∧ w' = w := by
  obtain ⟨xa, n, xc, f⟩ := x
  simp only [Sx.At] at h hn ⊢
  go_enter Try.func44, Try.ntmps44
  go_wp2_with (fail)
  go_loop [5, 6] (fun kk i => ∃ k : Nat, k ≤ n ∧ i = .int .i64 k ∧ kk = .int .i64 (cnt f at_ k)) (fun _ i => n - (intOf i).toNat)
  case atStart => exact ⟨0, by omega, rfl, rfl⟩
  case round =>
    obtain ⟨k, hk, rfl, rfl⟩ := hrel
    have hc := cnt_le f at_ k
    by_cases hlt : (k : Int) < n
    · rcases h with h | ⟨b1, o1, rfl, h⟩
      · omega
      have c1 := h k (by omega)
      clear h
      by_cases e : f k = at_
      · go_wp2_with (fail)
        go_round
        case rel => exact ⟨k + 1, by omega, by go_num, by simp only [cnt, if_pos e]; go_num⟩
        case measure => simp [intOf]; omega
      · go_wp2_with (fail)
        go_round
        case rel => exact ⟨k + 1, by omega, by go_num, by simp only [cnt, if_neg e]; go_num⟩
        case measure => simp [intOf]; omega
    · have e : k = n := by omega
      subst e
      go_wp2_with (fail)
      go_ret
      exact ⟨rfl, rfl⟩

end Go.Proofs.Ytlhfkackchcncaa.Book

import Derived.Test.YtbeamigbcfkjjaaGreatDoorBk3

/- Books that are marked and looked at. Conditions: at most 1,000,000,000 numbers in all. -/
namespace Go.Proofs.YtbeamigbcfkjjaaGreatDoor.Book
open Go.ChangeShapes Go.WideShapes Go.ChangeAt Go.RowKit
open Go.Proofs.YtbeamigbcfkjjaaGreatDoor.Aid Go.Proofs.YtbeamigbcfkjjaaGreatDoor.Lst
set_option maxRecDepth 100000
set_option linter.unusedVariables false

/- Only the blocks of these lists have turned, of those that were there. -/
structure Sp (xs : List Sx) (w w' : World) : Prop where
  os : w'.os = w.os
  tape : w'.tape = w.tape
  output : w'.output = w.output
  size : w.heap.size ≤ w'.heap.size
  block : ∀ i, i < w.heap.size → (∀ x ∈ xs, x.n ≠ 0 → ∀ k, x.a = some ⟨k, 0, none⟩ → i ≠ k) → w'.heap[i]? = w.heap[i]?

theorem Sp.refl (xs : List Sx) (w : World) : Sp xs w w := ⟨rfl, rfl, rfl, Nat.le_refl _, fun _ _ _ => rfl⟩
theorem Sp.of {xs : List Sx} {w w' : World} (h : Below w.heap.size w w') : Sp xs w w' := ⟨h.os, h.tape, h.output, h.size, fun i hi _ => h.block i hi⟩
theorem Sp.trans {xs : List Sx} {a w w' : World} (h : Sp xs a w) (h' : Sp xs w w') : Sp xs a w' := ⟨h'.os.trans h.os, h'.tape.trans h.tape, h'.output.trans h.output, Nat.le_trans h.size h'.size, fun i hi hx => (h'.block i (Nat.lt_of_lt_of_le hi h.size) hx).trans (h.block i hi hx)⟩
theorem Sp.mono {xs ys : List Sx} {w w' : World} (h : Sp xs w w') (hs : ∀ x ∈ xs, x ∈ ys) : Sp ys w w' := ⟨h.os, h.tape, h.output, h.size, fun i hi hx => h.block i hi (fun x hm => hx x (hs x hm))⟩
theorem Apart.symm {x y : Sx} (h : Apart x y) : Apart y x := by
  rcases h with h | h | ⟨j, k, h1, h2, h3⟩
  · exact .inr (.inl h)
  · exact .inl h
  · exact .inr (.inr ⟨k, j, h2, h1, h3.symm⟩)
theorem Sp.own {xs : List Sx} {w w' : World} (h : Sp xs w w') {y : Sx} {B C : Nat} (hy : y.Own B C w) (ha : ∀ x ∈ xs, Apart y x) : y.Own B C w' := by
  rcases hy with hy | ⟨k, e, h1, h2, hy⟩
  · exact .inl hy
  · by_cases y0 : y.n = 0
    · exact .inl y0
    refine .inr ⟨k, e, h1, h2, fun j hj => ?_⟩
    have hlt := World.block_lt_of_cell? w _ (hy j hj).1
    have hbl : w'.heap[k]? = w.heap[k]? := h.block k hlt (fun x hx xn k' ek => by
      rcases ha x hx with g | g | ⟨p, q, g1, g2, g3⟩
      · exact absurd g y0
      · exact absurd g xn
      · rw [e] at g1; rw [ek] at g2
        simp only [Option.some.injEq, Addr.mk.injEq, and_true] at g1 g2
        omega)
    rw [show w'.cell? ⟨k, j, none⟩ = w.cell? ⟨k, j, none⟩ from World.cell?_of_block (w := w) hbl, show w'.frozen? ⟨k, j, none⟩ = w.frozen? ⟨k, j, none⟩ from World.frozen?_of_block (w := w) hbl]
    exact hy j hj
theorem Sp.only {xs : List Sx} {w w' v : World} (h : Sp xs w w') {B C : Nat} (hx : ∀ x ∈ xs, x.Own B C v) : Only B C w w' := ⟨h.os, h.tape, h.output, h.size, fun i hi ho => h.block i hi (fun x hm xn k ek => by
  rcases hx x hm with g | ⟨k', e, h1, h2, _⟩
  · exact absurd g xn
  · rw [e] at ek
    simp only [Option.some.injEq, Addr.mk.injEq, and_true] at ek
    omega)⟩

/- A list as it is once it is marked from k on. -/
def Sx.mk' (x : Sx) (k : Int) : Sx := ⟨x.a, x.n, x.c, fun j => k + j⟩

theorem mark1_any (x : Sx) (k0 : Int) (B C : Nat) (w : World) (h : x.Own B C w) (hn : x.n ≤ 1000000000) (h0 : 0 ≤ k0) (h1 : k0 ≤ 1000000000000000) :
    Calls Tryz.prog 30 #[.slice x.a x.n x.c, .int .i64 k0] w fun e w' => e = .returned (.int .i64 (k0 + x.n)) ∧ (x.mk' k0).Own B C w' ∧ Sp [x] w w' := by
  by_cases z : x.n = 0
  · rw [z]
    refine (markInt_none x.a x.c k0 w).mono ?_
    rintro e w' ⟨rfl, rfl⟩
    exact ⟨by simp, .inl z, Sp.refl _ _⟩
  · rcases h with h | ⟨k, e, g1, g2, hf⟩
    · exact absurd h z
    · rw [e]
      refine (markInt_any k x.n x.c x.f k0 w hf hn h0 h1).mono ?_
      rintro e' w' ⟨rfl, g, hb⟩
      exact ⟨rfl, .inr ⟨k, e, g1, g2, g⟩, ⟨hb.os, hb.tape, hb.output, Nat.le_of_eq hb.size.symm, fun i hi hx => hb.block i (hx x (by simp) z k e)⟩⟩

theorem held1_any (x : Sx) (k0 : Int) (w : World) (h : (x.mk' k0).At w) (hn : x.n ≤ 1000000000) (h0 : 0 ≤ k0) (h1 : k0 ≤ 1000000000000000) :
    Calls Tryz.prog 32 #[.slice x.a x.n x.c, .int .i64 k0] w fun e w' => e = .returned (.int .i64 (k0 + x.n)) ∧ w' = w := heldInt_any x.a x.n x.c k0 w h hn h0 h1

set_option maxHeartbeats 4000000 in
theorem mark4_any (x0 x1 x2 x3 : Sx) (k0 : Int) (B C : Nat) (w : World) (hC : C ≤ w.heap.size) (o0 : x0.Own B C w) (o1 : x1.Own B C w) (o2 : x2.Own B C w) (o3 : x3.Own B C w) (a01 : Apart x0 x1) (a02 : Apart x0 x2) (a03 : Apart x0 x3) (a12 : Apart x1 x2) (a13 : Apart x1 x3) (a23 : Apart x2 x3) (n0 : x0.n ≤ 1000000000) (n1 : x1.n ≤ 1000000000) (n2 : x2.n ≤ 1000000000) (n3 : x3.n ≤ 1000000000) (h0 : 0 ≤ k0) (h1 : k0 ≤ 100000000000000) :
    Calls Tryz.prog 31 #[.agg #[.slice x0.a x0.n x0.c, .slice x1.a x1.n x1.c, .slice x2.a x2.n x2.c, .slice x3.a x3.n x3.c], .int .i64 k0] w fun e w' => e = .returned (.int .i64 (k0 + x0.n + x1.n + x2.n + x3.n)) ∧ (x0.mk' (k0)).Own B C w' ∧ (x1.mk' (k0 + x0.n)).Own B C w' ∧ (x2.mk' (k0 + x0.n + x1.n)).Own B C w' ∧ (x3.mk' (k0 + x0.n + x1.n + x2.n)).Own B C w' ∧ Sp [x0, x1, x2, x3] w w' := by
  go_enter Tryz.func31, Tryz.ntmps31
  go_wp2_with (fail)
  have R0 : World.rangeAt _ w.heap.size 0 [.slice x0.a x0.n x0.c, .slice x1.a x1.n x1.c, .slice x2.a x2.n x2.c, .slice x3.a x3.n x3.c] := range_lit #[.slice x0.a x0.n x0.c, .slice x1.a x1.n x1.c, .slice x2.a x2.n x2.c, .slice x3.a x3.n x3.c] (heap1_0 w (.cells #[.slice x0.a x0.n x0.c, .slice x1.a x1.n x1.c, .slice x2.a x2.n x2.c, .slice x3.a x3.n x3.c] 23))
  have B0 : Below w.heap.size w (w.alloc (.cells #[.slice x0.a x0.n x0.c, .slice x1.a x1.n x1.c, .slice x2.a x2.n x2.c, .slice x3.a x3.n x3.c] 23)) := below1 w _
  have Z0 : w.heap.size < (w.alloc (.cells #[.slice x0.a x0.n x0.c, .slice x1.a x1.n x1.c, .slice x2.a x2.n x2.c, .slice x3.a x3.n x3.c] 23)).heap.size := by simp
  generalize w.alloc (.cells #[.slice x0.a x0.n x0.c, .slice x1.a x1.n x1.c, .slice x2.a x2.n x2.c, .slice x3.a x3.n x3.c] 23) = W0 at R0 B0 Z0 ⊢
  have q0 := Sx.Own.only o0 (Only.of (B := C) (C := C) B0) (.inl (Nat.le_refl _))
  have q1 := Sx.Own.only o1 (Only.of (B := C) (C := C) B0) (.inl (Nat.le_refl _))
  have q2 := Sx.Own.only o2 (Only.of (B := C) (C := C) B0) (.inl (Nat.le_refl _))
  have q3 := Sx.Own.only o3 (Only.of (B := C) (C := C) B0) (.inl (Nat.le_refl _))
  have S0 : Sp [x0, x1, x2, x3] w W0 := Sp.of B0
  clear B0
  refine wp_loop_rounds 5 ?_
  rw [rounds_succ]
  have r0 : W0.cell? ⟨w.heap.size, 0, none⟩ = some (.slice x0.a x0.n x0.c) := R0 0 _ rfl
  go_wp2_with (fail)
  clear r0
  refine (mark1_any x0 (k0) B C W0 q0 n0 (by omega) (by omega)).mono ?_
  rintro e W1 ⟨rfl, m0, sp⟩
  replace q1 := sp.own q1 (by simp; exact (Apart.symm a01))
  replace q2 := sp.own q2 (by simp; exact (Apart.symm a02))
  replace q3 := sp.own q3 (by simp; exact (Apart.symm a03))
  have on := sp.only (B := B) (C := C) (v := w) (by simp; exact o0)
  have R1 : W1.rangeAt w.heap.size 0 [.slice x0.a x0.n x0.c, .slice x1.a x1.n x1.c, .slice x2.a x2.n x2.c, .slice x3.a x3.n x3.c] := fun t v hv => by rw [on.cell (k := w.heap.size) (by omega) (.inr hC)]; exact R0 t v hv
  have Z1 : w.heap.size < W1.heap.size := Nat.lt_of_lt_of_le Z0 sp.size
  have S1 := S0.trans (sp.mono (ys := [x0, x1, x2, x3]) (by simp))
  clear sp on R0 Z0 S0 q0
  go_wp2_with (fail)
  rw [rounds_succ]
  have r1 : W1.cell? ⟨w.heap.size, 1, none⟩ = some (.slice x1.a x1.n x1.c) := R1 1 _ rfl
  go_wp2_with (fail)
  clear r1
  refine (mark1_any x1 (k0 + x0.n) B C W1 q1 n1 (by omega) (by omega)).mono ?_
  rintro e W2 ⟨rfl, m1, sp⟩
  replace m0 := sp.own m0 (by simp; exact a01)
  replace q2 := sp.own q2 (by simp; exact (Apart.symm a12))
  replace q3 := sp.own q3 (by simp; exact (Apart.symm a13))
  have on := sp.only (B := B) (C := C) (v := w) (by simp; exact o1)
  have R2 : W2.rangeAt w.heap.size 0 [.slice x0.a x0.n x0.c, .slice x1.a x1.n x1.c, .slice x2.a x2.n x2.c, .slice x3.a x3.n x3.c] := fun t v hv => by rw [on.cell (k := w.heap.size) (by omega) (.inr hC)]; exact R1 t v hv
  have Z2 : w.heap.size < W2.heap.size := Nat.lt_of_lt_of_le Z1 sp.size
  have S2 := S1.trans (sp.mono (ys := [x0, x1, x2, x3]) (by simp))
  clear sp on R1 Z1 S1 q1
  go_wp2_with (fail)
  rw [rounds_succ]
  have r2 : W2.cell? ⟨w.heap.size, 2, none⟩ = some (.slice x2.a x2.n x2.c) := R2 2 _ rfl
  go_wp2_with (fail)
  clear r2
  refine (mark1_any x2 (k0 + x0.n + x1.n) B C W2 q2 n2 (by omega) (by omega)).mono ?_
  rintro e W3 ⟨rfl, m2, sp⟩
  replace m0 := sp.own m0 (by simp; exact a02)
  replace m1 := sp.own m1 (by simp; exact a12)
  replace q3 := sp.own q3 (by simp; exact (Apart.symm a23))
  have on := sp.only (B := B) (C := C) (v := w) (by simp; exact o2)
  have R3 : W3.rangeAt w.heap.size 0 [.slice x0.a x0.n x0.c, .slice x1.a x1.n x1.c, .slice x2.a x2.n x2.c, .slice x3.a x3.n x3.c] := fun t v hv => by rw [on.cell (k := w.heap.size) (by omega) (.inr hC)]; exact R2 t v hv
  have Z3 : w.heap.size < W3.heap.size := Nat.lt_of_lt_of_le Z2 sp.size
  have S3 := S2.trans (sp.mono (ys := [x0, x1, x2, x3]) (by simp))
  clear sp on R2 Z2 S2 q2
  go_wp2_with (fail)
  rw [rounds_succ]
  have r3 : W3.cell? ⟨w.heap.size, 3, none⟩ = some (.slice x3.a x3.n x3.c) := R3 3 _ rfl
  go_wp2_with (fail)
  clear r3
  refine (mark1_any x3 (k0 + x0.n + x1.n + x2.n) B C W3 q3 n3 (by omega) (by omega)).mono ?_
  rintro e W4 ⟨rfl, m3, sp⟩
  replace m0 := sp.own m0 (by simp; exact a03)
  replace m1 := sp.own m1 (by simp; exact a13)
  replace m2 := sp.own m2 (by simp; exact a23)
  have on := sp.only (B := B) (C := C) (v := w) (by simp; exact o3)
  have R4 : W4.rangeAt w.heap.size 0 [.slice x0.a x0.n x0.c, .slice x1.a x1.n x1.c, .slice x2.a x2.n x2.c, .slice x3.a x3.n x3.c] := fun t v hv => by rw [on.cell (k := w.heap.size) (by omega) (.inr hC)]; exact R3 t v hv
  have Z4 : w.heap.size < W4.heap.size := Nat.lt_of_lt_of_le Z3 sp.size
  have S4 := S3.trans (sp.mono (ys := [x0, x1, x2, x3]) (by simp))
  clear sp on R3 Z3 S3 q3
  go_wp2_with (fail)
  rw [rounds_succ]
  go_wp2_with (fail)
  go_ret
  exact ⟨rfl, m0, m1, m2, m3, S4⟩

set_option maxHeartbeats 4000000 in
theorem held4_any (x0 x1 x2 x3 : Sx) (k0 : Int) (w : World) (o0 : (x0.mk' (k0)).At w) (o1 : (x1.mk' (k0 + x0.n)).At w) (o2 : (x2.mk' (k0 + x0.n + x1.n)).At w) (o3 : (x3.mk' (k0 + x0.n + x1.n + x2.n)).At w) (n0 : x0.n ≤ 1000000000) (n1 : x1.n ≤ 1000000000) (n2 : x2.n ≤ 1000000000) (n3 : x3.n ≤ 1000000000) (h0 : 0 ≤ k0) (h1 : k0 ≤ 100000000000000) :
    Calls Tryz.prog 33 #[.agg #[.slice x0.a x0.n x0.c, .slice x1.a x1.n x1.c, .slice x2.a x2.n x2.c, .slice x3.a x3.n x3.c], .int .i64 k0] w fun e w' => e = .returned (.int .i64 (k0 + x0.n + x1.n + x2.n + x3.n)) ∧ Below w.heap.size w w' := by
  go_enter Tryz.func33, Tryz.ntmps33
  go_wp2_with (fail)
  have R0 : World.rangeAt _ w.heap.size 0 [.slice x0.a x0.n x0.c, .slice x1.a x1.n x1.c, .slice x2.a x2.n x2.c, .slice x3.a x3.n x3.c] := range_lit #[.slice x0.a x0.n x0.c, .slice x1.a x1.n x1.c, .slice x2.a x2.n x2.c, .slice x3.a x3.n x3.c] (heap1_0 w (.cells #[.slice x0.a x0.n x0.c, .slice x1.a x1.n x1.c, .slice x2.a x2.n x2.c, .slice x3.a x3.n x3.c] 23))
  have B0 : Below w.heap.size w (w.alloc (.cells #[.slice x0.a x0.n x0.c, .slice x1.a x1.n x1.c, .slice x2.a x2.n x2.c, .slice x3.a x3.n x3.c] 23)) := below1 w _
  generalize w.alloc (.cells #[.slice x0.a x0.n x0.c, .slice x1.a x1.n x1.c, .slice x2.a x2.n x2.c, .slice x3.a x3.n x3.c] 23) = W0 at R0 B0 ⊢
  have r0 : W0.cell? ⟨w.heap.size, 0, none⟩ = some (.slice x0.a x0.n x0.c) := R0 0 _ rfl
  replace o0 := Sx.At.later o0 B0
  have r1 : W0.cell? ⟨w.heap.size, 1, none⟩ = some (.slice x1.a x1.n x1.c) := R0 1 _ rfl
  replace o1 := Sx.At.later o1 B0
  have r2 : W0.cell? ⟨w.heap.size, 2, none⟩ = some (.slice x2.a x2.n x2.c) := R0 2 _ rfl
  replace o2 := Sx.At.later o2 B0
  have r3 : W0.cell? ⟨w.heap.size, 3, none⟩ = some (.slice x3.a x3.n x3.c) := R0 3 _ rfl
  replace o3 := Sx.At.later o3 B0
  clear R0
  refine wp_loop_rounds 5 ?_
  rw [rounds_succ]
  go_wp2_with (fail)
  refine (held1_any x0 (k0) _ o0 n0 (by omega) (by omega)).mono ?_
  rintro e w1 ⟨rfl, rfl⟩
  have g0 : ¬ (k0 + (x0.n : Int) < 0) := by omega
  go_wp2_with (fail)
  clear g0
  rw [rounds_succ]
  go_wp2_with (fail)
  refine (held1_any x1 (k0 + x0.n) _ o1 n1 (by omega) (by omega)).mono ?_
  rintro e w1 ⟨rfl, rfl⟩
  have g1 : ¬ (k0 + x0.n + (x1.n : Int) < 0) := by omega
  go_wp2_with (fail)
  clear g1
  rw [rounds_succ]
  go_wp2_with (fail)
  refine (held1_any x2 (k0 + x0.n + x1.n) _ o2 n2 (by omega) (by omega)).mono ?_
  rintro e w1 ⟨rfl, rfl⟩
  have g2 : ¬ (k0 + x0.n + x1.n + (x2.n : Int) < 0) := by omega
  go_wp2_with (fail)
  clear g2
  rw [rounds_succ]
  go_wp2_with (fail)
  refine (held1_any x3 (k0 + x0.n + x1.n + x2.n) _ o3 n3 (by omega) (by omega)).mono ?_
  rintro e w1 ⟨rfl, rfl⟩
  have g3 : ¬ (k0 + x0.n + x1.n + x2.n + (x3.n : Int) < 0) := by omega
  go_wp2_with (fail)
  clear g3
  rw [rounds_succ]
  go_wp2_with (fail)
  go_ret
  exact ⟨rfl, B0⟩

end Go.Proofs.YtbeamigbcfkjjaaGreatDoor.Book

/- markBook, heldBook. Conditions: at most 1,000,000,000 numbers in all. -/
namespace Go.Proofs.YtbeamigbcfkjjaaGreatDoor.Book
open Go.ChangeShapes Go.WideShapes Go.ChangeAt Go.RowKit
open Go.Proofs.YtbeamigbcfkjjaaGreatDoor.Aid Go.Proofs.YtbeamigbcfkjjaaGreatDoor.Lst
set_option maxRecDepth 100000
set_option linter.unusedVariables false

def Bx.mkd (b : Bx) (k0 : Int) : Bx := ⟨b.s, b.p.mk' (k0), b.h0.mk' (k0 + b.p.n), b.h1.mk' (k0 + b.p.n + b.h0.n), b.h2.mk' (k0 + b.p.n + b.h0.n + b.h1.n), b.h3.mk' (k0 + b.p.n + b.h0.n + b.h1.n + b.h2.n), b.o.mk' (k0 + b.p.n + b.h0.n + b.h1.n + b.h2.n + b.h3.n), b.i.mk' (k0 + b.p.n + b.h0.n + b.h1.n + b.h2.n + b.h3.n + b.o.n), b.e.mk' (k0 + b.p.n + b.h0.n + b.h1.n + b.h2.n + b.h3.n + b.o.n + b.i.n)⟩
theorem nine' {w : World} {k : Nat} {x : Bx} (h : w.rangeAt k 0 x.cells) : w.cell? ⟨k, 1, none⟩ = some (.slice x.p.a x.p.n x.p.c) ∧ w.cell? ⟨k, 2, none⟩ = some (.slice x.h0.a x.h0.n x.h0.c) ∧ w.cell? ⟨k, 3, none⟩ = some (.slice x.h1.a x.h1.n x.h1.c) ∧ w.cell? ⟨k, 4, none⟩ = some (.slice x.h2.a x.h2.n x.h2.c) ∧ w.cell? ⟨k, 5, none⟩ = some (.slice x.h3.a x.h3.n x.h3.c) ∧ w.cell? ⟨k, 6, none⟩ = some (.slice x.o.a x.o.n x.o.c) ∧ w.cell? ⟨k, 7, none⟩ = some (.slice x.i.a x.i.n x.i.c) ∧ w.cell? ⟨k, 8, none⟩ = some (.slice x.e.a x.e.n x.e.c) :=
  ⟨h 1 _ rfl, h 2 _ rfl, h 3 _ rfl, h 4 _ rfl, h 5 _ rfl, h 6 _ rfl, h 7 _ rfl, h 8 _ rfl⟩

set_option maxRecDepth 100000 in
set_option maxHeartbeats 8000000 in
theorem mark_any (b : Bx) (k0 : Int) (B C : Nat) (w : World) (hC : C ≤ w.heap.size) (h : b.Own B C w) (hn : b.total ≤ 1000000000) (h0 : 0 ≤ k0) (h1 : k0 ≤ 1000000000000) :
    Calls Tryz.prog 12 #[.agg b.cells.toArray, .int .i64 k0] w fun e w' => e = .returned (.int .i64 (k0 + b.total)) ∧ (b.mkd k0).Own B C w' ∧ Only B C w w' := by
  have hap := h.apart
  have hca := h.caps
  have hea := h.each
  simp only [Bx.lists, List.pairwise_cons, List.forall_mem_cons, List.not_mem_nil, false_implies, implies_true, and_true, List.Pairwise.nil] at hap hca hea
  obtain ⟨⟨a01, a02, a03, a04, a05, a06, a07⟩, ⟨a12, a13, a14, a15, a16, a17⟩, ⟨a23, a24, a25, a26, a27⟩, ⟨a34, a35, a36, a37⟩, ⟨a45, a46, a47⟩, ⟨a56, a57⟩, a67⟩ := hap
  obtain ⟨o0, o1, o2, o3, o4, o5, o6, o7⟩ := hea
  simp only [Bx.total] at hn
  have R0 : World.rangeAt (w.alloc (.cells #[.int .i64 b.s, .slice b.p.a b.p.n b.p.c, .slice b.h0.a b.h0.n b.h0.c, .slice b.h1.a b.h1.n b.h1.c, .slice b.h2.a b.h2.n b.h2.c, .slice b.h3.a b.h3.n b.h3.c, .slice b.o.a b.o.n b.o.c, .slice b.i.a b.i.n b.i.c, .slice b.e.a b.e.n b.e.c] 29)) w.heap.size 0 b.cells := range_lit #[.int .i64 b.s, .slice b.p.a b.p.n b.p.c, .slice b.h0.a b.h0.n b.h0.c, .slice b.h1.a b.h1.n b.h1.c, .slice b.h2.a b.h2.n b.h2.c, .slice b.h3.a b.h3.n b.h3.c, .slice b.o.a b.o.n b.o.c, .slice b.i.a b.i.n b.i.c, .slice b.e.a b.e.n b.e.c] (heap1_0 w _)
  have B0 : Below w.heap.size w (w.alloc (.cells #[.int .i64 b.s, .slice b.p.a b.p.n b.p.c, .slice b.h0.a b.h0.n b.h0.c, .slice b.h1.a b.h1.n b.h1.c, .slice b.h2.a b.h2.n b.h2.c, .slice b.h3.a b.h3.n b.h3.c, .slice b.o.a b.o.n b.o.c, .slice b.i.a b.i.n b.i.c, .slice b.e.a b.e.n b.e.c] 29)) := below1 w _
  have Z0 : w.heap.size < (w.alloc (.cells #[.int .i64 b.s, .slice b.p.a b.p.n b.p.c, .slice b.h0.a b.h0.n b.h0.c, .slice b.h1.a b.h1.n b.h1.c, .slice b.h2.a b.h2.n b.h2.c, .slice b.h3.a b.h3.n b.h3.c, .slice b.o.a b.o.n b.o.c, .slice b.i.a b.i.n b.i.c, .slice b.e.a b.e.n b.e.c] 29)).heap.size := by simp
  simp only [Bx.cells]
  go_enter Tryz.func12, Tryz.ntmps12
  go_wp2_with (fail)
  generalize w.alloc (.cells #[.int .i64 b.s, .slice b.p.a b.p.n b.p.c, .slice b.h0.a b.h0.n b.h0.c, .slice b.h1.a b.h1.n b.h1.c, .slice b.h2.a b.h2.n b.h2.c, .slice b.h3.a b.h3.n b.h3.c, .slice b.o.a b.o.n b.o.c, .slice b.i.a b.i.n b.i.c, .slice b.e.a b.e.n b.e.c] 29) = W0 at R0 B0 Z0 ⊢
  have q0 := Sx.Own.only o0 (Only.of (B := C) (C := C) B0) (.inl (Nat.le_refl _))
  have q1 := Sx.Own.only o1 (Only.of (B := C) (C := C) B0) (.inl (Nat.le_refl _))
  have q2 := Sx.Own.only o2 (Only.of (B := C) (C := C) B0) (.inl (Nat.le_refl _))
  have q3 := Sx.Own.only o3 (Only.of (B := C) (C := C) B0) (.inl (Nat.le_refl _))
  have q4 := Sx.Own.only o4 (Only.of (B := C) (C := C) B0) (.inl (Nat.le_refl _))
  have q5 := Sx.Own.only o5 (Only.of (B := C) (C := C) B0) (.inl (Nat.le_refl _))
  have q6 := Sx.Own.only o6 (Only.of (B := C) (C := C) B0) (.inl (Nat.le_refl _))
  have q7 := Sx.Own.only o7 (Only.of (B := C) (C := C) B0) (.inl (Nat.le_refl _))
  have S0 : Sp b.lists w W0 := Sp.of B0
  clear B0
  refine (mark1_any b.p (k0) B C W0 q0 (by omega) (by omega) (by omega)).mono ?_
  rintro e W1 ⟨rfl, m0, sp⟩
  replace q1 := sp.own q1 (by simp only [List.forall_mem_cons, List.not_mem_nil, false_implies, implies_true, and_true]; exact (Apart.symm a01))
  replace q2 := sp.own q2 (by simp only [List.forall_mem_cons, List.not_mem_nil, false_implies, implies_true, and_true]; exact (Apart.symm a02))
  replace q3 := sp.own q3 (by simp only [List.forall_mem_cons, List.not_mem_nil, false_implies, implies_true, and_true]; exact (Apart.symm a03))
  replace q4 := sp.own q4 (by simp only [List.forall_mem_cons, List.not_mem_nil, false_implies, implies_true, and_true]; exact (Apart.symm a04))
  replace q5 := sp.own q5 (by simp only [List.forall_mem_cons, List.not_mem_nil, false_implies, implies_true, and_true]; exact (Apart.symm a05))
  replace q6 := sp.own q6 (by simp only [List.forall_mem_cons, List.not_mem_nil, false_implies, implies_true, and_true]; exact (Apart.symm a06))
  replace q7 := sp.own q7 (by simp only [List.forall_mem_cons, List.not_mem_nil, false_implies, implies_true, and_true]; exact (Apart.symm a07))
  have on := sp.only (B := B) (C := C) (v := w) (by simp only [List.forall_mem_cons, List.not_mem_nil, false_implies, implies_true, and_true]; exact o0)
  have R1 : W1.rangeAt w.heap.size 0 b.cells := fun t v hv => by rw [on.cell (k := w.heap.size) (by omega) (.inr hC)]; exact R0 t v hv
  have Z1 : w.heap.size < W1.heap.size := Nat.lt_of_lt_of_le Z0 sp.size
  have S1 := S0.trans (sp.mono (ys := b.lists) (by simp [Bx.lists]))
  clear sp on R0 Z0 S0 q0
  obtain ⟨u1, u2, u3, u4, u5, u6, u7, u8⟩ := nine' R1
  go_wp2_with (fail)
  clear u1 u2 u3 u4 u5 u6 u7 u8
  refine (mark4_any b.h0 b.h1 b.h2 b.h3 (k0 + b.p.n) B C W1 (by omega) q1 q2 q3 q4 a12 a13 a14 a23 a24 a34 (by omega) (by omega) (by omega) (by omega) (by omega) (by omega)).mono ?_
  rintro e W2 ⟨rfl, m1, m2, m3, m4, sp⟩
  replace m0 := sp.own m0 (by simp only [List.forall_mem_cons, List.not_mem_nil, false_implies, implies_true, and_true]; exact ⟨a01, a02, a03, a04⟩)
  replace q5 := sp.own q5 (by simp only [List.forall_mem_cons, List.not_mem_nil, false_implies, implies_true, and_true]; exact ⟨(Apart.symm a15), (Apart.symm a25), (Apart.symm a35), (Apart.symm a45)⟩)
  replace q6 := sp.own q6 (by simp only [List.forall_mem_cons, List.not_mem_nil, false_implies, implies_true, and_true]; exact ⟨(Apart.symm a16), (Apart.symm a26), (Apart.symm a36), (Apart.symm a46)⟩)
  replace q7 := sp.own q7 (by simp only [List.forall_mem_cons, List.not_mem_nil, false_implies, implies_true, and_true]; exact ⟨(Apart.symm a17), (Apart.symm a27), (Apart.symm a37), (Apart.symm a47)⟩)
  have on := sp.only (B := B) (C := C) (v := w) (by simp only [List.forall_mem_cons, List.not_mem_nil, false_implies, implies_true, and_true]; exact ⟨o1, o2, o3, o4⟩)
  have R2 : W2.rangeAt w.heap.size 0 b.cells := fun t v hv => by rw [on.cell (k := w.heap.size) (by omega) (.inr hC)]; exact R1 t v hv
  have Z2 : w.heap.size < W2.heap.size := Nat.lt_of_lt_of_le Z1 sp.size
  have S2 := S1.trans (sp.mono (ys := b.lists) (by simp [Bx.lists]))
  clear sp on R1 Z1 S1 q1 q2 q3 q4
  obtain ⟨u1, u2, u3, u4, u5, u6, u7, u8⟩ := nine' R2
  go_wp2_with (fail)
  clear u1 u2 u3 u4 u5 u6 u7 u8
  refine (mark1_any b.o (k0 + b.p.n + b.h0.n + b.h1.n + b.h2.n + b.h3.n) B C W2 q5 (by omega) (by omega) (by omega)).mono ?_
  rintro e W3 ⟨rfl, m5, sp⟩
  replace m0 := sp.own m0 (by simp only [List.forall_mem_cons, List.not_mem_nil, false_implies, implies_true, and_true]; exact a05)
  replace m1 := sp.own m1 (by simp only [List.forall_mem_cons, List.not_mem_nil, false_implies, implies_true, and_true]; exact a15)
  replace m2 := sp.own m2 (by simp only [List.forall_mem_cons, List.not_mem_nil, false_implies, implies_true, and_true]; exact a25)
  replace m3 := sp.own m3 (by simp only [List.forall_mem_cons, List.not_mem_nil, false_implies, implies_true, and_true]; exact a35)
  replace m4 := sp.own m4 (by simp only [List.forall_mem_cons, List.not_mem_nil, false_implies, implies_true, and_true]; exact a45)
  replace q6 := sp.own q6 (by simp only [List.forall_mem_cons, List.not_mem_nil, false_implies, implies_true, and_true]; exact (Apart.symm a56))
  replace q7 := sp.own q7 (by simp only [List.forall_mem_cons, List.not_mem_nil, false_implies, implies_true, and_true]; exact (Apart.symm a57))
  have on := sp.only (B := B) (C := C) (v := w) (by simp only [List.forall_mem_cons, List.not_mem_nil, false_implies, implies_true, and_true]; exact o5)
  have R3 : W3.rangeAt w.heap.size 0 b.cells := fun t v hv => by rw [on.cell (k := w.heap.size) (by omega) (.inr hC)]; exact R2 t v hv
  have Z3 : w.heap.size < W3.heap.size := Nat.lt_of_lt_of_le Z2 sp.size
  have S3 := S2.trans (sp.mono (ys := b.lists) (by simp [Bx.lists]))
  clear sp on R2 Z2 S2 q5
  obtain ⟨u1, u2, u3, u4, u5, u6, u7, u8⟩ := nine' R3
  go_wp2_with (fail)
  clear u1 u2 u3 u4 u5 u6 u7 u8
  refine (mark1_any b.i (k0 + b.p.n + b.h0.n + b.h1.n + b.h2.n + b.h3.n + b.o.n) B C W3 q6 (by omega) (by omega) (by omega)).mono ?_
  rintro e W4 ⟨rfl, m6, sp⟩
  replace m0 := sp.own m0 (by simp only [List.forall_mem_cons, List.not_mem_nil, false_implies, implies_true, and_true]; exact a06)
  replace m1 := sp.own m1 (by simp only [List.forall_mem_cons, List.not_mem_nil, false_implies, implies_true, and_true]; exact a16)
  replace m2 := sp.own m2 (by simp only [List.forall_mem_cons, List.not_mem_nil, false_implies, implies_true, and_true]; exact a26)
  replace m3 := sp.own m3 (by simp only [List.forall_mem_cons, List.not_mem_nil, false_implies, implies_true, and_true]; exact a36)
  replace m4 := sp.own m4 (by simp only [List.forall_mem_cons, List.not_mem_nil, false_implies, implies_true, and_true]; exact a46)
  replace m5 := sp.own m5 (by simp only [List.forall_mem_cons, List.not_mem_nil, false_implies, implies_true, and_true]; exact a56)
  replace q7 := sp.own q7 (by simp only [List.forall_mem_cons, List.not_mem_nil, false_implies, implies_true, and_true]; exact (Apart.symm a67))
  have on := sp.only (B := B) (C := C) (v := w) (by simp only [List.forall_mem_cons, List.not_mem_nil, false_implies, implies_true, and_true]; exact o6)
  have R4 : W4.rangeAt w.heap.size 0 b.cells := fun t v hv => by rw [on.cell (k := w.heap.size) (by omega) (.inr hC)]; exact R3 t v hv
  have Z4 : w.heap.size < W4.heap.size := Nat.lt_of_lt_of_le Z3 sp.size
  have S4 := S3.trans (sp.mono (ys := b.lists) (by simp [Bx.lists]))
  clear sp on R3 Z3 S3 q6
  obtain ⟨u1, u2, u3, u4, u5, u6, u7, u8⟩ := nine' R4
  go_wp2_with (fail)
  clear u1 u2 u3 u4 u5 u6 u7 u8
  refine (mark1_any b.e (k0 + b.p.n + b.h0.n + b.h1.n + b.h2.n + b.h3.n + b.o.n + b.i.n) B C W4 q7 (by omega) (by omega) (by omega)).mono ?_
  rintro e W5 ⟨rfl, m7, sp⟩
  replace m0 := sp.own m0 (by simp only [List.forall_mem_cons, List.not_mem_nil, false_implies, implies_true, and_true]; exact a07)
  replace m1 := sp.own m1 (by simp only [List.forall_mem_cons, List.not_mem_nil, false_implies, implies_true, and_true]; exact a17)
  replace m2 := sp.own m2 (by simp only [List.forall_mem_cons, List.not_mem_nil, false_implies, implies_true, and_true]; exact a27)
  replace m3 := sp.own m3 (by simp only [List.forall_mem_cons, List.not_mem_nil, false_implies, implies_true, and_true]; exact a37)
  replace m4 := sp.own m4 (by simp only [List.forall_mem_cons, List.not_mem_nil, false_implies, implies_true, and_true]; exact a47)
  replace m5 := sp.own m5 (by simp only [List.forall_mem_cons, List.not_mem_nil, false_implies, implies_true, and_true]; exact a57)
  replace m6 := sp.own m6 (by simp only [List.forall_mem_cons, List.not_mem_nil, false_implies, implies_true, and_true]; exact a67)
  have on := sp.only (B := B) (C := C) (v := w) (by simp only [List.forall_mem_cons, List.not_mem_nil, false_implies, implies_true, and_true]; exact o7)
  have R5 : W5.rangeAt w.heap.size 0 b.cells := fun t v hv => by rw [on.cell (k := w.heap.size) (by omega) (.inr hC)]; exact R4 t v hv
  have Z5 : w.heap.size < W5.heap.size := Nat.lt_of_lt_of_le Z4 sp.size
  have S5 := S4.trans (sp.mono (ys := b.lists) (by simp [Bx.lists]))
  clear sp on R4 Z4 S4 q7
  go_wp2_with (fail)
  go_ret
  refine ⟨by simp only [Bx.total]; go_num, ⟨?_, ?_, ?_⟩, S5.only (v := w) h.each⟩
  · simp only [Bx.lists, Bx.mkd, List.forall_mem_cons, List.not_mem_nil, false_implies, implies_true, and_true]
    exact ⟨m0, m1, m2, m3, m4, m5, m6, m7⟩
  · simp only [Bx.lists, Bx.mkd, List.pairwise_cons, List.forall_mem_cons, List.not_mem_nil, false_implies, implies_true, and_true, List.Pairwise.nil]
    exact ⟨⟨a01, a02, a03, a04, a05, a06, a07⟩, ⟨a12, a13, a14, a15, a16, a17⟩, ⟨a23, a24, a25, a26, a27⟩, ⟨a34, a35, a36, a37⟩, ⟨a45, a46, a47⟩, ⟨a56, a57⟩, a67⟩
  · simp only [Bx.lists, Bx.mkd, List.forall_mem_cons, List.not_mem_nil, false_implies, implies_true, and_true]
    exact hca

set_option maxRecDepth 100000 in
set_option maxHeartbeats 8000000 in
theorem held_any (b : Bx) (k0 : Int) (w : World) (h : (b.mkd k0).At w) (hn : b.total ≤ 1000000000) (h0 : 0 ≤ k0) (h1 : k0 ≤ 1000000000000) :
    Calls Tryz.prog 14 #[.agg b.cells.toArray, .int .i64 k0] w fun e w' => e = .returned (.int .i64 (k0 + b.total)) ∧ Below w.heap.size w w' := by
  simp only [Bx.At, Bx.lists, Bx.mkd, List.forall_mem_cons, List.not_mem_nil, false_implies, implies_true, and_true] at h
  obtain ⟨o0, o1, o2, o3, o4, o5, o6, o7⟩ := h
  simp only [Bx.total] at hn
  have R0 : World.rangeAt (w.alloc (.cells #[.int .i64 b.s, .slice b.p.a b.p.n b.p.c, .slice b.h0.a b.h0.n b.h0.c, .slice b.h1.a b.h1.n b.h1.c, .slice b.h2.a b.h2.n b.h2.c, .slice b.h3.a b.h3.n b.h3.c, .slice b.o.a b.o.n b.o.c, .slice b.i.a b.i.n b.i.c, .slice b.e.a b.e.n b.e.c] 29)) w.heap.size 0 b.cells := range_lit #[.int .i64 b.s, .slice b.p.a b.p.n b.p.c, .slice b.h0.a b.h0.n b.h0.c, .slice b.h1.a b.h1.n b.h1.c, .slice b.h2.a b.h2.n b.h2.c, .slice b.h3.a b.h3.n b.h3.c, .slice b.o.a b.o.n b.o.c, .slice b.i.a b.i.n b.i.c, .slice b.e.a b.e.n b.e.c] (heap1_0 w _)
  have B0 : Below w.heap.size w (w.alloc (.cells #[.int .i64 b.s, .slice b.p.a b.p.n b.p.c, .slice b.h0.a b.h0.n b.h0.c, .slice b.h1.a b.h1.n b.h1.c, .slice b.h2.a b.h2.n b.h2.c, .slice b.h3.a b.h3.n b.h3.c, .slice b.o.a b.o.n b.o.c, .slice b.i.a b.i.n b.i.c, .slice b.e.a b.e.n b.e.c] 29)) := below1 w _
  have Z0 : w.heap.size < (w.alloc (.cells #[.int .i64 b.s, .slice b.p.a b.p.n b.p.c, .slice b.h0.a b.h0.n b.h0.c, .slice b.h1.a b.h1.n b.h1.c, .slice b.h2.a b.h2.n b.h2.c, .slice b.h3.a b.h3.n b.h3.c, .slice b.o.a b.o.n b.o.c, .slice b.i.a b.i.n b.i.c, .slice b.e.a b.e.n b.e.c] 29)).heap.size := by simp
  simp only [Bx.cells]
  go_enter Tryz.func14, Tryz.ntmps14
  go_wp2_with (fail)
  generalize w.alloc (.cells #[.int .i64 b.s, .slice b.p.a b.p.n b.p.c, .slice b.h0.a b.h0.n b.h0.c, .slice b.h1.a b.h1.n b.h1.c, .slice b.h2.a b.h2.n b.h2.c, .slice b.h3.a b.h3.n b.h3.c, .slice b.o.a b.o.n b.o.c, .slice b.i.a b.i.n b.i.c, .slice b.e.a b.e.n b.e.c] 29) = W0 at R0 B0 Z0 ⊢
  refine (held1_any b.p (k0) W0 (Sx.At.later o0 B0) (by omega) (by omega) (by omega)).mono ?_
  rintro e W1 ⟨rfl, rfl⟩
  have R1 := R0
  have B1 := B0
  have Z1 := Z0
  have g0 : ¬ (k0 + b.p.n < 0) := by omega
  obtain ⟨u1, u2, u3, u4, u5, u6, u7, u8⟩ := nine' R1
  go_wp2_with (fail)
  clear g0
  clear u1 u2 u3 u4 u5 u6 u7 u8
  refine (held4_any b.h0 b.h1 b.h2 b.h3 (k0 + b.p.n) W1 (Sx.At.later o1 B1) (Sx.At.later o2 B1) (Sx.At.later o3 B1) (Sx.At.later o4 B1) (by omega) (by omega) (by omega) (by omega) (by omega) (by omega)).mono ?_
  rintro e W2 ⟨rfl, hb⟩
  have R2 := range_below hb R1 (by omega)
  have B2 := B1.trans (hb.mono (by omega))
  have Z2 := Nat.lt_of_lt_of_le Z1 hb.size
  clear hb
  have g1 : ¬ (k0 + b.p.n + b.h0.n + b.h1.n + b.h2.n + b.h3.n < 0) := by omega
  obtain ⟨u1, u2, u3, u4, u5, u6, u7, u8⟩ := nine' R2
  go_wp2_with (fail)
  clear g1
  clear u1 u2 u3 u4 u5 u6 u7 u8
  refine (held1_any b.o (k0 + b.p.n + b.h0.n + b.h1.n + b.h2.n + b.h3.n) W2 (Sx.At.later o5 B2) (by omega) (by omega) (by omega)).mono ?_
  rintro e W3 ⟨rfl, rfl⟩
  have R3 := R2
  have B3 := B2
  have Z3 := Z2
  have g2 : ¬ (k0 + b.p.n + b.h0.n + b.h1.n + b.h2.n + b.h3.n + b.o.n < 0) := by omega
  obtain ⟨u1, u2, u3, u4, u5, u6, u7, u8⟩ := nine' R3
  go_wp2_with (fail)
  clear g2
  clear u1 u2 u3 u4 u5 u6 u7 u8
  refine (held1_any b.i (k0 + b.p.n + b.h0.n + b.h1.n + b.h2.n + b.h3.n + b.o.n) W3 (Sx.At.later o6 B3) (by omega) (by omega) (by omega)).mono ?_
  rintro e W4 ⟨rfl, rfl⟩
  have R4 := R3
  have B4 := B3
  have Z4 := Z3
  have g3 : ¬ (k0 + b.p.n + b.h0.n + b.h1.n + b.h2.n + b.h3.n + b.o.n + b.i.n < 0) := by omega
  obtain ⟨u1, u2, u3, u4, u5, u6, u7, u8⟩ := nine' R4
  go_wp2_with (fail)
  clear g3
  clear u1 u2 u3 u4 u5 u6 u7 u8
  refine (held1_any b.e (k0 + b.p.n + b.h0.n + b.h1.n + b.h2.n + b.h3.n + b.o.n + b.i.n) W4 (Sx.At.later o7 B4) (by omega) (by omega) (by omega)).mono ?_
  rintro e W5 ⟨rfl, rfl⟩
  have R5 := R4
  have B5 := B4
  have Z5 := Z4
  have g4 : ¬ (k0 + b.p.n + b.h0.n + b.h1.n + b.h2.n + b.h3.n + b.o.n + b.i.n + b.e.n < 0) := by omega
  go_wp2_with (fail)
  clear g4
  go_ret
  exact ⟨by simp only [Bx.total]; go_num, B5⟩

end Go.Proofs.YtbeamigbcfkjjaaGreatDoor.Book

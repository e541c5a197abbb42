/- Of every list of what has happened, and every guest, what the program's TaleOf answers, held against the specification. Conditions: none. -/
import Derived.Test.YtpfgldbmihbiiaaTi7
namespace Go.Proofs.Ytpfgldbmihbiiaa.Ti
open Go.ChangeShapes Go.WideShapes Go.ChangeAt Go.RowKit
open Go.Proofs.Ytpfgldbmihbiiaa.Aid Go.Proofs.Ytpfgldbmihbiiaa.Lst Go.Proofs.Ytpfgldbmihbiiaa.Gs
open Go.Proofs.Ytpfgldbmihbiiaa.Book (Ck ck_lit takeB szM szM_neg szM_pos)
set_option maxRecDepth 100000
set_option linter.unusedVariables false

/- A result beside the argument. -/
theorem sof_res (a : Option Addr) (n c : Nat) (g : Nat → Tx) (t : Int) (w : World) (h : RowT w a n g) (hn : n ≤ 10000000) (L : List Tx) (hL : L = selT g t n) :
    Calls Try.prog 11 #[.slice a n c, .int .i64 t] w fun e w' => ∃ b d, e = .returned (.slice b L.length d) ∧ Res w.heap.size w'.heap.size w' b L.length (fun j => L.getD j default) ∧ Below w.heap.size w w' := by
  refine (sof_any a n c g t w h hn).mono ?_
  rintro e w' ⟨v, rfl, ho, hb⟩
  rw [← hL] at ho
  obtain ⟨b, d, rfl, r⟩ := res_of ho
  exact ⟨b, d, rfl, r, hb⟩
theorem of_res (a : Option Addr) (n c : Nat) (g : Nat → Tx) (t : Int) (w : World) (h : RowT w a n g) (hn : n ≤ 10000000) (L : List Tx) (hL : L = selT g t n) :
    Calls Try.prog 13 #[.slice a n c, .int .i64 t] w fun e w' => ∃ b d, e = .returned (.slice b L.length d) ∧ Res w.heap.size w'.heap.size w' b L.length (fun j => L.getD j default) ∧ Below w.heap.size w w' := by
  refine (of_any a n c g t w h hn).mono ?_
  rintro e w' ⟨v, rfl, ho, hb⟩
  rw [← hL] at ho
  obtain ⟨b, d, rfl, r⟩ := res_of ho
  exact ⟨b, d, rfl, r, hb⟩
theorem copy_res (a : Option Addr) (n c : Nat) (g : Nat → Tx) (w : World) (h : RowT w a n g) (hn : n ≤ 10000000) :
    Calls Try.prog 12 #[.slice a n c] w fun e w' => ∃ b, e = .returned (.slice b n n) ∧ Res w.heap.size w'.heap.size w' b n g ∧ Below w.heap.size w w' := by
  refine (toitems_any a n c g w h hn).mono ?_
  rintro e w' ⟨rfl, ho, hb, hz⟩
  exact ⟨_, rfl, .inr ⟨w.heap.size, rfl, Nat.le_refl _, hz, ho⟩, hb⟩

set_option maxHeartbeats 4000000 in
theorem law_of (a : Option Addr) (n c : Nat) (g : Nat → Tx) (t : Int) (w : World) (h : RowT w a n g) (hm : n ≤ maxLen) : Calls Try.prog 4 #[.slice a n c, .int .i64 t] w fun e w' => e = .returned (.bool true) ∧ Below w.heap.size w w' := by
  have HA : Hid (RowT w a n g) := h
  clear h
  go_enter Try.func4, Try.ntmps4
  go_wp2_with (fail)
  refine (szitems_any a n c 1048576 w (by omega) (by omega) (by omega)).mono ?_
  rintro e w1 ⟨rfl, rfl⟩
  by_cases e0 : (1048576 : Int) < n
  · rw [szM_neg e0]
    go_wp2_with (fail)
    go_ret
    exact ⟨rfl, Below.refl _ _⟩
  rw [szM_pos e0]
  obtain ⟨L, hL⟩ : ∃ L, L = selT g t n := ⟨_, rfl⟩
  have hl : L.length ≤ n := by rw [hL]; exact selT_len g t n
  obtain ⟨N, hN⟩ : ∃ N, N = L.length := ⟨_, rfl⟩
  have nn : n ≤ 10000000 := by omega
  have nl : N ≤ 10000000 := by omega
  have HL : Hid (L = selT g t n) := hL
  have HN : Hid (N = L.length) := hN
  clear hL hl hm hN
  go_wp2_with (fail)
  refine (copy_res a n c g w1 HA.out nn).mono ?_
  rintro e w2 ⟨s0, rfl, r0, b2⟩
  go_wp2_with (fail)
  refine (sof_res s0 n n g t w2 r0.row nn L HL.out).mono ?_
  rintro e w3 ⟨a0, d0, rfl, W0, b3⟩
  rw [← HN.out] at W0 ⊢
  have B3 : Hid (Below w1.heap.size w1 w3) := b2.trans (b3.mono b2.size)
  have Z2 : Hid (w1.heap.size ≤ w2.heap.size) := b2.size
  clear r0 b2 b3
  go_wp2_with (fail)
  refine (copy_res a n c g w3 (HA.out.later B3.out) nn).mono ?_
  rintro e w4 ⟨x0, rfl, X0, b4⟩
  replace W0 := W0.later b4
  have B4 : Hid (Below w1.heap.size w1 w4) := B3.out.trans (b4.mono B3.out.size)
  have Z3 : Hid (w1.heap.size ≤ w3.heap.size) := B3.out.size
  have Z34 : Hid (w3.heap.size ≤ w4.heap.size) := b4.size
  clear b4 B3
  go_wp2_with (fail)
  refine (of_res x0 n n g t w4 X0.row nn L HL.out).mono ?_
  rintro e w5 ⟨a1, d1, rfl, G0, b5⟩
  rw [← HN.out] at G0 ⊢
  replace W0 := W0.later b5
  replace X0 := X0.later b5
  have B5 : Hid (Below w1.heap.size w1 w5) := B4.out.trans (b5.mono B4.out.size)
  have Z4 : Hid (w1.heap.size ≤ w4.heap.size) := B4.out.size
  clear b5 B4
  go_wp2_with (fail)
  refine (eqitems_at a1 a0 N d1 d0 _ w5 G0.row W0.row nl).mono ?_
  rintro e w6 ⟨rfl, b6⟩
  replace W0 := W0.later b6
  replace X0 := X0.later b6
  replace G0 := G0.later b6
  have B6 : Hid (Below w1.heap.size w1 w6) := B5.out.trans (b6.mono B5.out.size)
  have Z5 : Hid (w1.heap.size ≤ w5.heap.size) := B5.out.size
  clear b6 B5
  go_wp2_with (fail)
  refine (copy_res a n c g w6 (HA.out.later B6.out) nn).mono ?_
  rintro e w7 ⟨y0, rfl, Y0, b7⟩
  replace W0 := W0.later b7
  replace X0 := X0.later b7
  replace G0 := G0.later b7
  have B7 : Hid (Below w1.heap.size w1 w7) := B6.out.trans (b7.mono B6.out.size)
  clear b7 B6
  go_wp2_with (fail)
  refine (eqitems_at x0 y0 n n n g w7 X0.row Y0.row nn).mono ?_
  rintro e w8 ⟨rfl, b8⟩
  replace W0 := W0.later b8
  replace X0 := X0.later b8
  replace G0 := G0.later b8
  have B8 : Hid (Below w1.heap.size w1 w8) := B7.out.trans (b8.mono B7.out.size)
  clear b8 B7 Y0
  go_wp2_with (fail)
  refine (markres_any _ _ x0 n n g 1 w8 X0 nn (by omega) (by omega)).mono ?_
  rintro e w9 ⟨rfl, -, t9⟩
  replace W0 := W0.turn t9 (.inl (Nat.le_refl _))
  replace G0 := G0.turn t9 (.inr (Nat.le_refl _))
  have B9 : Hid (Below w1.heap.size w1 w9) := B8.out.trans (t9.below.mono Z3.out)
  clear t9 B8 X0
  go_wp2_with (fail)
  refine (eqitems_at a1 a0 N d1 d0 _ w9 G0.row W0.row nl).mono ?_
  rintro e w10 ⟨rfl, b10⟩
  replace W0 := W0.later b10
  replace G0 := G0.later b10
  have B10 : Hid (Below w1.heap.size w1 w10) := B9.out.trans (b10.mono B9.out.size)
  clear b10 B9
  go_wp2_with (fail)
  refine (markres_any _ _ a1 N d1 _ 1 w10 G0 nl (by omega) (by omega)).mono ?_
  rintro e w11 ⟨rfl, G1, t11⟩
  have W1 := W0.turn t11 (.inl Z34.out)
  have B11 : Hid (Below w1.heap.size w1 w11) := B10.out.trans (t11.below.mono Z4.out)
  clear t11 B10 W0 G0
  go_wp2_with (fail)
  refine (helditems_any a1 N d1 1 w11 G1.row nl (by omega) (by omega)).mono ?_
  rintro e w12 ⟨rfl, rfl⟩
  have z1 : ((1 : Int) + 8 * N != 1 + 8 * N) = false := by simp
  go_wp2_with (fail)
  refine (copy_res a n c g w12 (HA.out.later B11.out) nn).mono ?_
  rintro e w13 ⟨s1, rfl, r1, b13⟩
  replace W1 := W1.later b13
  replace G1 := G1.later b13
  have B13 : Hid (Below w1.heap.size w1 w13) := B11.out.trans (b13.mono B11.out.size)
  clear b13 B11
  go_wp2_with (fail)
  refine (of_res s1 n n g t w13 r1.row nn L HL.out).mono ?_
  rintro e w14 ⟨a2, d2, rfl, H0, b14⟩
  rw [← HN.out] at H0 ⊢
  replace W1 := W1.later b14
  replace G1 := G1.later b14
  have B14 : Hid (Below w1.heap.size w1 w14) := B13.out.trans (b14.mono B13.out.size)
  clear b14 B13 r1
  go_wp2_with (fail)
  refine (eqitems_at a2 a0 N d2 d0 _ w14 H0.row W1.row nl).mono ?_
  rintro e w15 ⟨rfl, b15⟩
  replace G1 := G1.later b15
  have B15 : Hid (Below w1.heap.size w1 w15) := B14.out.trans (b15.mono B14.out.size)
  clear b15 B14 H0 W1
  go_wp2_with (fail)
  refine (helditems_any a1 N d1 1 w15 G1.row nl (by omega) (by omega)).mono ?_
  rintro e w16 ⟨rfl, rfl⟩
  go_wp2_with (fail)
  go_ret
  exact ⟨rfl, B15.out⟩

end Go.Proofs.Ytpfgldbmihbiiaa.Ti

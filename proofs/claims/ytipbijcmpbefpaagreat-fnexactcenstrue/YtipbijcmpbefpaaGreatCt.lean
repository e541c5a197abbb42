/- The book that words stand for, with what is done carried out: CensTrue of both. Conditions: at most 1,000,000,000 words, each of 64 bits. -/
import Derived.Test.YtipbijcmpbefpaaGreatCb14
import Derived.Test.YtipbijcmpbefpaaGreatM21
namespace Go.Proofs.YtipbijcmpbefpaaGreat.Book
open Go.ChangeShapes Go.WideShapes Go.ChangeAt Go.RowKit
open Go.Proofs.YtipbijcmpbefpaaGreat.Aid Go.Proofs.YtipbijcmpbefpaaGreat.Lst Go.Proofs.YtipbijcmpbefpaaGreat.Words
open Go.Proofs.YtipbijcmpbefpaaGreat.Plat (W64 gd DnQ dnq_one IsDone endF allF allF_w)
set_option maxRecDepth 100000
set_option linter.unusedVariables false

theorem dnq_w {n : Nat} {f g : Nat → Int} (h : DnQ n f g) (hw : W64 f) : W64 g := by
  rcases h with ⟨_, rfl⟩ | ⟨_, rfl⟩
  · intro j
    unfold endF
    split
    · exact ⟨pack_lo _ _, pack_hi _ _⟩
    · exact allF_w hw _ _ _ j
  · exact hw
def CtQ (n : Nat) (f : Nat → Int) (c : Bx) (r : Bool) : Prop := (gd n f = true ∧ ∃ g, DnQ n f g ∧ CbQ n g c r) ∨ (gd n f = false ∧ r = false ∧ c.m = noneM)
theorem ctq_one {n : Nat} {f : Nat → Int} {c d : Bx} {r q : Bool} (h : CtQ n f c r) (g : CtQ n f d q) : c.m = d.m ∧ r = q := by
  rcases h with ⟨h, g1, d1, c1⟩ | ⟨h, rfl, h2⟩ <;> rcases g with ⟨g, g2, d2, c2⟩ | ⟨g, rfl, g3⟩
  · rw [dnq_one d2 d1] at c2
    exact cbq_one c1 c2
  · rw [h] at g; cases g
  · rw [h] at g; cases g
  · exact ⟨h2.trans g3.symm, rfl⟩
/- The answer: a book of its own, and whether it is one. -/
def CtA (n : Nat) (f : Nat → Int) (w w' : World) (e : Ending) : Prop := ∃ (c : Bx) (r : Bool), e = .returned (.tuple #[.agg c.cells.toArray, .bool r]) ∧ CtQ n f c r ∧ c.Own w.heap.size w'.heap.size w' ∧ Below w.heap.size w w'
theorem CtA.mk {n : Nat} {f : Nat → Int} {w w' : World} {e : Ending} (c : Bx) (r : Bool) (he : e = .returned (.tuple #[.agg c.cells.toArray, .bool r])) (hq : CtQ n f c r) (ho : c.Own w.heap.size w'.heap.size w') (hb : Below w.heap.size w w') : CtA n f w w' e := ⟨c, r, he, hq, ho, hb⟩

set_option maxHeartbeats 4000000 in
theorem ctrue_any (a : Option Addr) (n cap : Nat) (f : Nat → Int) (w : World) (h : Sl .u64 w a n f) (hn : n ≤ 1000000000) (hcap : n ≤ cap) (hw : W64 f) :
    Calls Tryz.prog 21 #[.slice a n cap] w fun e w' => CtA n f w w' e := by
  have HW : Hid (W64 f) := hw
  have HSL : Hid (Sl .u64 w a n f) := h
  clear h
  have T0 : Hid (Ck (w.alloc (.cells #[.int .i64 0, .slice none 0 0, .slice none 0 0, .slice none 0 0, .slice none 0 0, .slice none 0 0, .slice none 0 0, .slice none 0 0, .slice none 0 0] 28)) w.heap.size Z9) := ck_lit #[.int .i64 0, .slice none 0 0, .slice none 0 0, .slice none 0 0, .slice none 0 0, .slice none 0 0, .slice none 0 0, .slice none 0 0, .slice none 0 0] (heap1_0 w _)
  have B0 : Hid (Below w.heap.size w (w.alloc (.cells #[.int .i64 0, .slice none 0 0, .slice none 0 0, .slice none 0 0, .slice none 0 0, .slice none 0 0, .slice none 0 0, .slice none 0 0, .slice none 0 0] 28))) := below1 _ _
  have z0 : w.heap.size < (w.alloc (.cells #[.int .i64 0, .slice none 0 0, .slice none 0 0, .slice none 0 0, .slice none 0 0, .slice none 0 0, .slice none 0 0, .slice none 0 0, .slice none 0 0] 28)).heap.size := by simp
  clear hw
  go_enter Tryz.func21, Tryz.ntmps21
  go_wp2_with (fail)
  generalize w.alloc (.cells #[.int .i64 0, .slice none 0 0, .slice none 0 0, .slice none 0 0, .slice none 0 0, .slice none 0 0, .slice none 0 0, .slice none 0 0, .slice none 0 0] 28) = W0 at T0 B0 z0 ⊢
  refine (Plat.check_all a n cap f W0 (HSL.out.later B0.out) hn (fun j _ => HW.out j)).mono ?_
  rintro e W1 ⟨rfl, hb⟩
  have T1 : Hid (Ck W1 w.heap.size Z9) := T0.out.below hb z0
  have B1 : Hid (Below w.heap.size w W1) := B0.out.trans (hb.mono B0.out.size)
  have z1 : w.heap.size < W1.heap.size := Nat.lt_of_lt_of_le z0 hb.size
  clear hb T0 B0 z0
  cases hk : gd n f
  · have NO : Hid (gd n f = false) := hk
    clear hk
    obtain ⟨w9, e9, ck9, ow9, be9⟩ := ans0 T1.out B1.out z1 (none_own W1.heap.size W1.heap.size _) z1 (Nat.le_refl _)
    simp only [noneB] at e9
    have tk0 := T1.out 0 _ rfl
    have tk1 := T1.out 1 _ rfl
    have tk2 := T1.out 2 _ rfl
    have tk3 := T1.out 3 _ rfl
    have tk4 := T1.out 4 _ rfl
    have tk5 := T1.out 5 _ rfl
    have tk6 := T1.out 6 _ rfl
    have tk7 := T1.out 7 _ rfl
    have tk8 := T1.out 8 _ rfl
    have HE : Hid (w9 = _) := e9
    clear e9
    go_wp2_with (fail)
    rw [← HE.out]
    have bb := below1 w9 (.cells #[.int .i64 (Plat.gS n f), .int .i64 (Plat.gP n f), .int .i64 (Plat.gL n f)] 24)
    have lt9 : w.heap.size < w9.heap.size := ck9.lt
    exact bodyPost_ret (Plat.results_cell_tmp_mid rfl _ _ w.heap.size 0 _ _ rfl (ck9.below bb lt9).range Tryz.underlying28 rfl (by kernel_rfl)) rfl (CtA.mk noneB false rfl (.inr ⟨NO.out, rfl, rfl⟩) ((ow9.later bb).mono (Nat.le_refl _) bb.size) (be9.trans (bb.mono be9.size)))
  have YES : Hid (gd n f = true) := hk
  clear hk
  have b1 := below1 W1 (.cells #[.int .i64 (Plat.gS n f), .int .i64 (Plat.gP n f), .int .i64 (Plat.gL n f)] 24)
  have T1' : Hid (Ck (W1.alloc (.cells #[.int .i64 (Plat.gS n f), .int .i64 (Plat.gP n f), .int .i64 (Plat.gL n f)] 24)) w.heap.size Z9) := T1.out.below b1 z1
  have B1' : Hid (Below w.heap.size w (W1.alloc (.cells #[.int .i64 (Plat.gS n f), .int .i64 (Plat.gP n f), .int .i64 (Plat.gL n f)] 24))) := B1.out.trans (b1.mono B1.out.size)
  have z1' : w.heap.size < (W1.alloc (.cells #[.int .i64 (Plat.gS n f), .int .i64 (Plat.gP n f), .int .i64 (Plat.gL n f)] 24)).heap.size := Nat.lt_of_lt_of_le z1 b1.size
  clear T1 B1 z1 b1
  go_wp2_with (fail)
  generalize W1.alloc (.cells #[.int .i64 (Plat.gS n f), .int .i64 (Plat.gP n f), .int .i64 (Plat.gL n f)] 24) = W1' at T1' B1' z1' ⊢
  obtain ⟨W1, hW1⟩ : ∃ x, x = W1' := ⟨W1', rfl⟩
  subst hW1
  have T1 := T1'
  have B1 := B1'
  have z1 := z1'
  clear T1' B1' z1'
  refine (Plat.done_any a n cap f W1 (HSL.out.later B1.out) hn hcap HW.out).mono ?_
  rintro e W2 ⟨g, rfl, dq, fk, hb, z2⟩
  have DQ : Hid (DnQ n f g) := dq
  have GW : Hid (W64 g) := dnq_w dq HW.out
  have FK : Hid (Fk .u64 n W2 W1.heap.size g) := fk
  have T2 : Hid (Ck W2 w.heap.size Z9) := T1.out.below hb z1
  have B2 : Hid (Below w.heap.size w W2) := B1.out.trans (hb.mono B1.out.size)
  have y2 : w.heap.size < W2.heap.size := Nat.lt_of_lt_of_le z1 hb.size
  clear dq fk hb T1
  go_wp2_with (fail)
  refine (cbook_any (some ⟨W1.heap.size, 0, none⟩) n n g W2 FK.out.sl hn GW.out).mono ?_
  rintro e W3 ⟨c, r, rfl, cq, co, hb⟩
  have T3 := T2.out.below hb y2
  have B3 : Below w.heap.size w W3 := B2.out.trans (hb.mono B2.out.size)
  have y3 := hb.size
  obtain ⟨w9, e9, ck9, ow9, be9⟩ := ans0 T3 B3 (by omega) co (by omega) (Nat.le_refl _)
  have CQ : Hid (CbQ n g c r) := cq
  have tk0 := T3 0 _ rfl
  have tk1 := T3 1 _ rfl
  have tk2 := T3 2 _ rfl
  have tk3 := T3 3 _ rfl
  have tk4 := T3 4 _ rfl
  have tk5 := T3 5 _ rfl
  have tk6 := T3 6 _ rfl
  have tk7 := T3 7 _ rfl
  have tk8 := T3 8 _ rfl
  have HE : Hid (w9 = _) := e9
  clear e9 T3 B3 co cq hb
  simp only [Bx.cells]
  go_wp2_with (fail)
  rw [← HE.out]
  exact bodyPost_ret (Plat.results_cell_tmp_mid rfl _ _ w.heap.size 0 _ _ rfl ck9.range Tryz.underlying28 rfl (by kernel_rfl)) rfl (CtA.mk c r rfl (.inl ⟨YES.out, g, DQ.out, CQ.out⟩) ow9 be9)

set_option maxHeartbeats 4000000 in
theorem sctrue_any (b off n cap : Nat) (f : Nat → Int) (w : World) (h : ∀ j, j < n → w.cell? ⟨b, off + j, none⟩ = some (.int .u64 (f j))) (hb : 0 < n → b < w.heap.size) (hn : n ≤ 1000000000) (hw : W64 f) :
    Calls Tryz.prog 27 #[.slice (some ⟨b, off, none⟩) n cap] w fun e w' => CtA n f w w' e := by
  have HW : Hid (W64 f) := hw
  have HC : Hid (∀ j, j < n → w.cell? ⟨b, off + j, none⟩ = some (.int .u64 (f j))) := h
  have HBL : Hid (0 < n → b < w.heap.size) := hb
  have HSL : Hid (Sl .u64 w (some ⟨b, off, none⟩) n f) := .inr ⟨b, off, rfl, h⟩
  clear h hb
  have T0 : Hid (Ck (w.alloc (.cells #[.int .i64 0, .slice none 0 0, .slice none 0 0, .slice none 0 0, .slice none 0 0, .slice none 0 0, .slice none 0 0, .slice none 0 0, .slice none 0 0] 28)) w.heap.size Z9) := ck_lit #[.int .i64 0, .slice none 0 0, .slice none 0 0, .slice none 0 0, .slice none 0 0, .slice none 0 0, .slice none 0 0, .slice none 0 0, .slice none 0 0] (heap1_0 w _)
  have B0 : Hid (Below w.heap.size w (w.alloc (.cells #[.int .i64 0, .slice none 0 0, .slice none 0 0, .slice none 0 0, .slice none 0 0, .slice none 0 0, .slice none 0 0, .slice none 0 0, .slice none 0 0] 28))) := below1 _ _
  have z0 : w.heap.size < (w.alloc (.cells #[.int .i64 0, .slice none 0 0, .slice none 0 0, .slice none 0 0, .slice none 0 0, .slice none 0 0, .slice none 0 0, .slice none 0 0, .slice none 0 0] 28)).heap.size := by simp
  clear hw
  go_enter Tryz.func27, Tryz.ntmps27
  go_wp2_with (fail)
  generalize w.alloc (.cells #[.int .i64 0, .slice none 0 0, .slice none 0 0, .slice none 0 0, .slice none 0 0, .slice none 0 0, .slice none 0 0, .slice none 0 0, .slice none 0 0] 28) = W0 at T0 B0 z0 ⊢
  refine (Plat.scheck_all (some ⟨b, off, none⟩) n cap f W0 (HSL.out.later B0.out) (fun j _ => HW.out j)).mono ?_
  rintro e W1 ⟨rfl, hb⟩
  have T1 : Hid (Ck W1 w.heap.size Z9) := T0.out.below hb z0
  have B1 : Hid (Below w.heap.size w W1) := B0.out.trans (hb.mono B0.out.size)
  have z1 : w.heap.size < W1.heap.size := Nat.lt_of_lt_of_le z0 hb.size
  clear hb T0 B0 z0
  cases hk : gd n f
  · have NO : Hid (gd n f = false) := hk
    clear hk
    obtain ⟨w9, e9, ck9, ow9, be9⟩ := ans0 T1.out B1.out z1 (none_own W1.heap.size W1.heap.size _) z1 (Nat.le_refl _)
    simp only [noneB] at e9
    have tk0 := T1.out 0 _ rfl
    have tk1 := T1.out 1 _ rfl
    have tk2 := T1.out 2 _ rfl
    have tk3 := T1.out 3 _ rfl
    have tk4 := T1.out 4 _ rfl
    have tk5 := T1.out 5 _ rfl
    have tk6 := T1.out 6 _ rfl
    have tk7 := T1.out 7 _ rfl
    have tk8 := T1.out 8 _ rfl
    have HE : Hid (w9 = _) := e9
    clear e9
    go_wp2_with (fail)
    rw [← HE.out]
    have bb := below1 w9 (.cells #[.int .i64 (Plat.gS n f), .int .i64 (Plat.gP n f), .int .i64 (Plat.gL n f)] 24)
    have lt9 : w.heap.size < w9.heap.size := ck9.lt
    exact bodyPost_ret (Plat.results_cell_tmp_mid rfl _ _ w.heap.size 0 _ _ rfl (ck9.below bb lt9).range Tryz.underlying28 rfl (by kernel_rfl)) rfl (CtA.mk noneB false rfl (.inr ⟨NO.out, rfl, rfl⟩) ((ow9.later bb).mono (Nat.le_refl _) bb.size) (be9.trans (bb.mono be9.size)))
  have YES : Hid (gd n f = true) := hk
  clear hk
  have b1 := below1 W1 (.cells #[.int .i64 (Plat.gS n f), .int .i64 (Plat.gP n f), .int .i64 (Plat.gL n f)] 24)
  have T1' : Hid (Ck (W1.alloc (.cells #[.int .i64 (Plat.gS n f), .int .i64 (Plat.gP n f), .int .i64 (Plat.gL n f)] 24)) w.heap.size Z9) := T1.out.below b1 z1
  have B1' : Hid (Below w.heap.size w (W1.alloc (.cells #[.int .i64 (Plat.gS n f), .int .i64 (Plat.gP n f), .int .i64 (Plat.gL n f)] 24))) := B1.out.trans (b1.mono B1.out.size)
  have z1' : w.heap.size < (W1.alloc (.cells #[.int .i64 (Plat.gS n f), .int .i64 (Plat.gP n f), .int .i64 (Plat.gL n f)] 24)).heap.size := Nat.lt_of_lt_of_le z1 b1.size
  clear T1 B1 z1 b1
  go_wp2_with (fail)
  generalize W1.alloc (.cells #[.int .i64 (Plat.gS n f), .int .i64 (Plat.gP n f), .int .i64 (Plat.gL n f)] 24) = W1' at T1' B1' z1' ⊢
  obtain ⟨W1, hW1⟩ : ∃ x, x = W1' := ⟨W1', rfl⟩
  subst hW1
  have T1 := T1'
  have B1 := B1'
  have z1 := z1'
  clear T1' B1' z1'
  refine (Plat.sdone_any b off n cap f W1 (fun j hj => by have q := HC.out j hj; rw [B1.out.cell (p := ⟨b, off + j, none⟩) (World.block_lt_of_cell? w _ q)]; exact q) (fun q => Nat.lt_of_lt_of_le (HBL.out q) B1.out.size) hn HW.out).mono ?_
  rintro e W2 ⟨g, k, cp, g0, g1, rfl, dq, fk, hb⟩
  have DQ : Hid (DnQ n f g) := dq
  have GW : Hid (W64 g) := dnq_w dq HW.out
  have FK : Hid (Fk .u64 n W2 k g) := fk
  have T2 : Hid (Ck W2 w.heap.size Z9) := T1.out.below hb z1
  have B2 : Hid (Below w.heap.size w W2) := B1.out.trans (hb.mono B1.out.size)
  have y2 : w.heap.size < W2.heap.size := Nat.lt_of_lt_of_le z1 hb.size
  clear dq fk hb T1
  go_wp2_with (fail)
  refine (scbook_any (some ⟨k, 0, none⟩) n cp g W2 FK.out.sl hn GW.out).mono ?_
  rintro e W3 ⟨c, r, rfl, cq, co, hb⟩
  have T3 := T2.out.below hb y2
  have B3 : Below w.heap.size w W3 := B2.out.trans (hb.mono B2.out.size)
  have y3 := hb.size
  obtain ⟨w9, e9, ck9, ow9, be9⟩ := ans0 T3 B3 (by omega) co (by omega) (Nat.le_refl _)
  have CQ : Hid (CbQ n g c r) := cq
  have tk0 := T3 0 _ rfl
  have tk1 := T3 1 _ rfl
  have tk2 := T3 2 _ rfl
  have tk3 := T3 3 _ rfl
  have tk4 := T3 4 _ rfl
  have tk5 := T3 5 _ rfl
  have tk6 := T3 6 _ rfl
  have tk7 := T3 7 _ rfl
  have tk8 := T3 8 _ rfl
  have HE : Hid (w9 = _) := e9
  clear e9 T3 B3 co cq hb
  simp only [Bx.cells]
  go_wp2_with (fail)
  rw [← HE.out]
  exact bodyPost_ret (Plat.results_cell_tmp_mid rfl _ _ w.heap.size 0 _ _ rfl ck9.range Tryz.underlying28 rfl (by kernel_rfl)) rfl (CtA.mk c r rfl (.inl ⟨YES.out, g, DQ.out, CQ.out⟩) ow9 be9)

end Go.Proofs.YtipbijcmpbefpaaGreat.Book

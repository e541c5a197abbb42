/- How large a house is, drawn. -/
import Derived.Test.YtlhfkackchcncaaKwg
namespace Go.Proofs.Ytlhfkackchcncaa.Book
open Go.ChangeShapes Go.WideShapes Go.ChangeAt Go.RowKit
open Go.Proofs.Ytlhfkackchcncaa.Aid Go.Proofs.Ytlhfkackchcncaa.Lst Go.Proofs.Ytlhfkackchcncaa.Draw
set_option maxRecDepth 100000
set_option linter.unusedVariables false

set_option maxHeartbeats 4000000 in
theorem lcfg_any (r : Nat) (ra : Option Addr) (rl rc : Nat) (zs : List Int) (p : Int) (w : World) (hr : Rd w r ra rl rc zs p) (hp : p ≤ 1000000000) :
    Calls Try.prog 23 #[.pointer (some ⟨r, 0, none⟩)] w fun e w' => ∃ s q l : Int, Plat.okB s q l = true ∧ e = .returned (.agg #[.int .i64 s, .int .i64 q, .int .i64 l]) ∧ Rd w' r ra rl rc zs (p + 1 + 1 + 1) ∧ Save r w w' := by
  have p0 := hr.p0
  have rlt := hr.lt
  have old := hr.old
  have R1 := rd_later hr (below1 w (.cells #[.int .i64 0, .int .i64 0, .int .i64 0] 42))
  have T1 := ck_lit #[.int .i64 0, .int .i64 0, .int .i64 0] (heap1_0 w (.cells #[.int .i64 0, .int .i64 0, .int .i64 0] 42))
  have V1 : Save r w (w.alloc (.cells #[.int .i64 0, .int .i64 0, .int .i64 0] 42)) := save_of (below1 w _)
  have z1 : w.heap.size < (w.alloc (.cells #[.int .i64 0, .int .i64 0, .int .i64 0] 42)).heap.size := by simp
  go_enter Try.func23, Try.ntmps23
  go_wp2_with (fail)
  generalize w.alloc (.cells #[.int .i64 0, .int .i64 0, .int .i64 0] 42) = W at R1 T1 V1 z1 ⊢
  refine (pick_on r ra rl rc zs p 3 W R1 (by omega)).mono ?_
  rintro e w2 ⟨x, rfl, x0, x1, -, R2, s2⟩
  have x1' := x1 (by omega)
  have T2 := ck_save T1 s2 (by omega) z1
  have z2 := s2.size
  clear x1 R1 T1
  have HT2 : Hid (Ck w2 w.heap.size _) := T2
  clear T2
  go_wp2_with (fail)
  refine (pick_on r ra rl rc zs (p + 1) 3 w2 R2 (by omega)).mono ?_
  rintro e w3 ⟨y, rfl, y0, y1, -, R3, s3⟩
  have y1' := y1 (by omega)
  have T3 := ck_save HT2.out s3 (by omega) (by omega)
  have z3 := s3.size
  clear y1 R2 HT2
  have HT3 : Hid (Ck w3 w.heap.size _) := T3
  clear T3
  go_wp2_with (fail)
  refine (pick_on r ra rl rc zs (p + 1 + 1) 3 w3 R3 (by omega)).mono ?_
  rintro e w4 ⟨z, rfl, z0, z1', -, R4, s4⟩
  have z1'' := z1' (by omega)
  have T4 := ck_save HT3.out s4 (by omega) (by omega)
  have z4' := s4.size
  clear z1' R3 HT3
  have th : w4.there w.heap.size 0 3 := fun j hj => by
    have g := T4 j _ (List.getElem?_eq_getElem (show j < [Value.int .i64 0, .int .i64 0, .int .i64 0].length from hj))
    rw [Nat.zero_add, g.1]
    exact ⟨rfl, g.2⟩
  have V4 : Save r w w4 := ((V1.trans s2).trans s3).trans s4
  have sv : Save w.heap.size w4 (w4.setCells w.heap.size 0 [.int .i64 (1 + x), .int .i64 (1 + y), .int .i64 (1 + z)]) := save_setCells _ _ _ (Save.refl _ _)
  have hb : Below w.heap.size w4 (w4.setCells w.heap.size 0 [.int .i64 (1 + x), .int .i64 (1 + y), .int .i64 (1 + z)]) := sv.below (Nat.le_refl _) (by omega)
  have HQ : Hid ((w4.setCells w.heap.size 0 [.int .i64 (1 + x), .int .i64 (1 + y), .int .i64 (1 + z)]).rangeAt w.heap.size 0 [.int .i64 (1 + x), .int .i64 (1 + y), .int .i64 (1 + z)] ∧ Rd (w4.setCells w.heap.size 0 [.int .i64 (1 + x), .int .i64 (1 + y), .int .i64 (1 + z)]) r ra rl rc zs (p + 1 + 1 + 1) ∧ Save r w (w4.setCells w.heap.size 0 [.int .i64 (1 + x), .int .i64 (1 + y), .int .i64 (1 + z)])) :=
    ⟨World.rangeAt_setCells_same _ _ _ _ th, rd_below R4 hb (by omega) hr.old, save_below V4 hb (Nat.le_refl _)⟩
  have HT : Hid (w4.there w.heap.size 0 3) := th
  clear th sv hb T4 V4 V1 R4 s2 s3 s4
  go_wp2_with (refine wpList_store_mid rfl 42 _ _ rfl w.heap.size 0 #[.int .i64 (1 + x), .int .i64 (1 + y), .int .i64 (1 + z)] rfl rfl HT.out (by kernel_rfl) (by simp [Value.oneCell']) ?_)
  exact bodyPost_ret (results_cell_mid rfl _ _ w.heap.size 0 _ _ rfl HQ.out.1 Try.underlying42 rfl (by kernel_rfl)) rfl ⟨1 + x, 1 + y, 1 + z, by unfold Plat.okB; exact decide_eq_true (by omega), rfl, HQ.out.2.1, HQ.out.2.2⟩

end Go.Proofs.Ytlhfkackchcncaa.Book

/- Of every slot, the guest that GuestNew answers, held against the specification. Conditions: none. -/
import Derived.Test.YtdmkacngdnbdnaaGst
import Derived.Test.YtdmkacngdnbdnaaRw
namespace Go.Proofs.Ytdmkacngdnbdnaa.Gst
open Go.ChangeShapes Go.WideShapes Go.ChangeAt Go.RowKit
open Go.Proofs.Ytdmkacngdnbdnaa.Aid Go.Proofs.Ytdmkacngdnbdnaa.Lst
set_option maxRecDepth 100000
set_option linter.unusedVariables false

set_option maxHeartbeats 8000000 in
theorem law_new (s : Int) (w : World) : Calls Try.prog 3 #[.int .i64 s] w fun e w' => e = .returned (.bool true) ∧ Below w.heap.size w w' := by
  go_enter Try.func3, Try.ntmps3
  go_wp2_with (fail)
  refine (snew_any s w).mono ?_
  rintro e w1 ⟨rfl, hb⟩
  have R := (Rw.start w).later hb
  clear hb
  have HT1 : Hid ((w1.alloc (.cells z0 27)).there w1.heap.size 0 26) := there_new w1 z0 27 26 rfl
  have R1 : Rw w [(w1.heap.size, (gst (newB s) (newS s)).toList)] ((w1.alloc (.cells z0 27)).setCells w1.heap.size 0 (gst (newB s) (newS s)).toList) := R.put z0 (gst (newB s) (newS s)) 27 rfl
  have HR1 : Hid (Rw w [(w1.heap.size, (gst (newB s) (newS s)).toList)] ((w1.alloc (.cells z0 27)).setCells w1.heap.size 0 (gst (newB s) (newS s)).toList)) := R1
  clear R R1
  go_wp2_with (refine wpList_store_mid rfl 27 _ _ rfl w1.heap.size 0 (gst (newB s) (newS s)) rfl rfl HT1.out (by kernel_rfl) (gst_one _ _) ?_; generalize hV : World.setCells _ _ _ _ = v1; replace HR1 : Hid (Rw w [(w1.heap.size, (gst (newB s) (newS s)).toList)] v1) := (by rw [← hV]; exact HR1.out); clear hV HT1; have l0 := (HR1.out.r (w1.heap.size, (gst (newB s) (newS s)).toList) (by simp)).1)
  refine (new_any s v1).mono ?_
  rintro e w2 ⟨rfl, hb⟩
  have R := HR1.out.later hb
  clear hb l0
  have HT2 : Hid ((w2.alloc (.cells z0 27)).there w2.heap.size 0 26) := there_new w2 z0 27 26 rfl
  have R2 : Rw w [(w2.heap.size, (gst (newB s) (newS s)).toList), (w1.heap.size, (gst (newB s) (newS s)).toList)] ((w2.alloc (.cells z0 27)).setCells w2.heap.size 0 (gst (newB s) (newS s)).toList) := R.put z0 (gst (newB s) (newS s)) 27 rfl
  have HR2 : Hid (Rw w [(w2.heap.size, (gst (newB s) (newS s)).toList), (w1.heap.size, (gst (newB s) (newS s)).toList)] ((w2.alloc (.cells z0 27)).setCells w2.heap.size 0 (gst (newB s) (newS s)).toList)) := R2
  clear R R2
  go_wp2_with (first | (refine wpList_store_mid rfl 27 _ _ rfl w2.heap.size 0 (gst (newB s) (newS s)) rfl rfl HT2.out (by kernel_rfl) (gst_one _ _) ?_; generalize hV : World.setCells _ _ _ _ = v2; replace HR2 : Hid (Rw w [(w2.heap.size, (gst (newB s) (newS s)).toList), (w1.heap.size, (gst (newB s) (newS s)).toList)] v2) := (by rw [← hV]; exact HR2.out); clear hV HT2; have l0 := (HR2.out.r (w2.heap.size, (gst (newB s) (newS s)).toList) (by simp)).1; have l1 := (HR2.out.r (w1.heap.size, (gst (newB s) (newS s)).toList) (by simp)).1) | (refine wpList_load_mid rfl 27 _ rfl w2.heap.size 0 rfl (gst (newB s) (newS s)).toList _ l0 Try.underlying27 rfl (by kernel_rfl) ?_) | (refine wpList_load_mid rfl 27 _ rfl w1.heap.size 0 rfl (gst (newB s) (newS s)).toList _ l1 Try.underlying27 rfl (by kernel_rfl) ?_))
  have HR := HR2
  clear l0 l1
  refine (eqnew_any _ _ v2).mono ?_
  rintro e w3 ⟨rfl, hb⟩
  have R := HR.out.later hb
  have HR : Hid (Rw w _ w3) := R
  have l0 := (R.r (w2.heap.size, (gst (newB s) (newS s)).toList) (by simp)).1
  have l1 := (R.r (w1.heap.size, (gst (newB s) (newS s)).toList) (by simp)).1
  clear hb R
  go_wp2_with (first | (refine wpList_load_mid rfl 27 _ rfl w2.heap.size 0 rfl (gst (newB s) (newS s)).toList _ l0 Try.underlying27 rfl (by kernel_rfl) ?_) | (refine wpList_load_mid rfl 27 _ rfl w1.heap.size 0 rfl (gst (newB s) (newS s)).toList _ l1 Try.underlying27 rfl (by kernel_rfl) ?_))
  clear l0 l1
  refine (marknew_any _ _ w3).mono ?_
  rintro e w4 ⟨rfl, hb⟩
  have R := HR.out.later hb
  have HR : Hid (Rw w _ w4) := R
  have l0 := (R.r (w2.heap.size, (gst (newB s) (newS s)).toList) (by simp)).1
  have l1 := (R.r (w1.heap.size, (gst (newB s) (newS s)).toList) (by simp)).1
  clear hb R
  go_wp2_with (first | (refine wpList_load_mid rfl 27 _ rfl w2.heap.size 0 rfl (gst (newB s) (newS s)).toList _ l0 Try.underlying27 rfl (by kernel_rfl) ?_) | (refine wpList_load_mid rfl 27 _ rfl w1.heap.size 0 rfl (gst (newB s) (newS s)).toList _ l1 Try.underlying27 rfl (by kernel_rfl) ?_))
  clear l0 l1
  refine (heldnew_any _ _ w4).mono ?_
  rintro e w5 ⟨rfl, hb⟩
  have R := HR.out.later hb
  have HR : Hid (Rw w _ w5) := R
  have l0 := (R.r (w2.heap.size, (gst (newB s) (newS s)).toList) (by simp)).1
  have l1 := (R.r (w1.heap.size, (gst (newB s) (newS s)).toList) (by simp)).1
  clear hb R
  go_wp2_with (first | (refine wpList_load_mid rfl 27 _ rfl w2.heap.size 0 rfl (gst (newB s) (newS s)).toList _ l0 Try.underlying27 rfl (by kernel_rfl) ?_) | (refine wpList_load_mid rfl 27 _ rfl w1.heap.size 0 rfl (gst (newB s) (newS s)).toList _ l1 Try.underlying27 rfl (by kernel_rfl) ?_))
  refine (new_any s w5).mono ?_
  rintro e w6 ⟨rfl, hb⟩
  have R := HR.out.later hb
  clear hb l0 l1
  have HT3 : Hid ((w6.alloc (.cells z0 27)).there w6.heap.size 0 26) := there_new w6 z0 27 26 rfl
  have R3 : Rw w [(w6.heap.size, (gst (newB s) (newS s)).toList), (w2.heap.size, (gst (newB s) (newS s)).toList), (w1.heap.size, (gst (newB s) (newS s)).toList)] ((w6.alloc (.cells z0 27)).setCells w6.heap.size 0 (gst (newB s) (newS s)).toList) := R.put z0 (gst (newB s) (newS s)) 27 rfl
  have HR3 : Hid (Rw w [(w6.heap.size, (gst (newB s) (newS s)).toList), (w2.heap.size, (gst (newB s) (newS s)).toList), (w1.heap.size, (gst (newB s) (newS s)).toList)] ((w6.alloc (.cells z0 27)).setCells w6.heap.size 0 (gst (newB s) (newS s)).toList)) := R3
  clear R R3
  go_wp2_with (first | (refine wpList_store_mid rfl 27 _ _ rfl w6.heap.size 0 (gst (newB s) (newS s)) rfl rfl HT3.out (by kernel_rfl) (gst_one _ _) ?_; generalize hV : World.setCells _ _ _ _ = v3; replace HR3 : Hid (Rw w [(w6.heap.size, (gst (newB s) (newS s)).toList), (w2.heap.size, (gst (newB s) (newS s)).toList), (w1.heap.size, (gst (newB s) (newS s)).toList)] v3) := (by rw [← hV]; exact HR3.out); clear hV HT3; have l0 := (HR3.out.r (w6.heap.size, (gst (newB s) (newS s)).toList) (by simp)).1; have l1 := (HR3.out.r (w2.heap.size, (gst (newB s) (newS s)).toList) (by simp)).1; have l2 := (HR3.out.r (w1.heap.size, (gst (newB s) (newS s)).toList) (by simp)).1) | (refine wpList_load_mid rfl 27 _ rfl w6.heap.size 0 rfl (gst (newB s) (newS s)).toList _ l0 Try.underlying27 rfl (by kernel_rfl) ?_) | (refine wpList_load_mid rfl 27 _ rfl w2.heap.size 0 rfl (gst (newB s) (newS s)).toList _ l1 Try.underlying27 rfl (by kernel_rfl) ?_) | (refine wpList_load_mid rfl 27 _ rfl w1.heap.size 0 rfl (gst (newB s) (newS s)).toList _ l2 Try.underlying27 rfl (by kernel_rfl) ?_))
  refine (eqnew_any _ _ v3).mono ?_
  rintro e w7 ⟨rfl, hb⟩
  have R := HR3.out.later hb
  have HR : Hid (Rw w _ w7) := R
  clear l0 l1 l2
  have l0 := (R.r (w2.heap.size, (gst (newB s) (newS s)).toList) (by simp)).1
  have l1 := (R.r (w1.heap.size, (gst (newB s) (newS s)).toList) (by simp)).1
  clear hb R
  go_wp2_with (first | (refine wpList_load_mid rfl 27 _ rfl w2.heap.size 0 rfl (gst (newB s) (newS s)).toList _ l0 Try.underlying27 rfl (by kernel_rfl) ?_) | (refine wpList_load_mid rfl 27 _ rfl w1.heap.size 0 rfl (gst (newB s) (newS s)).toList _ l1 Try.underlying27 rfl (by kernel_rfl) ?_))
  refine (heldnew_any _ _ w7).mono ?_
  rintro e w8 ⟨rfl, hb⟩
  have R := HR.out.later hb
  go_wp2_with (fail)
  go_ret
  exact ⟨rfl, R.b⟩

end Go.Proofs.Ytdmkacngdnbdnaa.Gst

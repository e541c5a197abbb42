/- Of every list of words and every list of changes, the program's PlanDo answers the words that the specification's does, in new memory of their own, and turns nothing of either list. Conditions: none. -/
import Derived.Test.YtipbijcmpbefpaaRows
import Derived.Test.YtipbijcmpbefpaaCell
import Derived.Test.YtipbijcmpbefpaaAid
import Derived.Test.YtipbijcmpbefpaaPlat
import Derived.Test.YtipbijcmpbefpaaPlat2
import Derived.Test.YtipbijcmpbefpaaDoor
import Derived.Test.YtipbijcmpbefpaaSpec
import Derived.Test.YtipbijcmpbefpaaLst
import Derived.Test.YtipbijcmpbefpaaFmt
import Derived.Test.YtipbijcmpbefpaaSeek
import Derived.Test.YtipbijcmpbefpaaCheck
import Derived.Test.YtipbijcmpbefpaaSCheck
import Derived.Test.YtipbijcmpbefpaaChk
import Derived.Test.YtipbijcmpbefpaaSwap
import Derived.Test.YtipbijcmpbefpaaSwap2
import Derived.Test.YtipbijcmpbefpaaOf
import Derived.Test.YtipbijcmpbefpaaBk
import Derived.Test.YtipbijcmpbefpaaBk2
import Derived.Test.YtipbijcmpbefpaaBk3
import Derived.Test.YtipbijcmpbefpaaOpenBk
import Derived.Test.YtipbijcmpbefpaaLaw
import Derived.Test.YtipbijcmpbefpaaDone
import Derived.Test.YtipbijcmpbefpaaPdo
import Derived.WalkKit
import Derived.ProofKit
import Derived.OpenShut
import Derived.ShutString
import Derived.ChangeOld
import Derived.Below
import Derived.Lib.SmallJoins
namespace Go.Proofs.Ytipbijcmpbefpaa.fnExactPlanDo
open Go.ChangeShapes Go.WideShapes Go.ChangeAt Go.RowKit
open Go.Proofs.Ytipbijcmpbefpaa.Aid
open Go.Proofs.Ytipbijcmpbefpaa.Book
open Go.Proofs.Ytipbijcmpbefpaa.Lst
open Go.Proofs.Ytipbijcmpbefpaa.Plat
open Go.Proofs.Ytipbijcmpbefpaa.Words
open Go.ChangeMaps (open_string shut_string)
set_option linter.unusedVariables false

theorem own : ownKnob Try.prog.godebug = none := by kernel_rfl
theorem laidOut : laidOutB Try.prog = true := by kernel_rfl

def IsRow (k : IntKind) (w : World) (a : Option Addr) (len cap : Nat) (zs : List Int) : Prop :=
  (a = none ∧ len = 0 ∧ cap = 0 ∧ zs = []) ∨
  ∃ x, a = some x ∧ len ≤ cap ∧ cap ≤ maxLen ∧ zs.length = cap ∧ (∀ i, i < zs.length → w.cell? (x.add i) = some (.int k (zs.getD i 0))) ∧ ∀ n ∈ zs, (Lit.int k n).wf = true

set_option maxRecDepth 100000 in
set_option maxHeartbeats 4000000 in
theorem walk (a0 : Option Addr) (len0 cap0 : Nat) (z0 : List Int) (a1 : Option Addr) (len1 cap1 : Nat) (z1 : List Int) (w : World) (w0 : IsRow .u64 w a0 len0 cap0 z0) (w1 : IsRow .u64 w a1 len1 cap1 z1) :
    Calls Try.prog 6 #[.slice a0 len0 cap0, .slice a1 len1 cap1] w fun e w' => e = .returned (.bool true) ∧ Below w.heap.size w w' := by
  obtain ⟨hs, hm, hw⟩ := sl_of w0
  clear w0
  obtain ⟨hs2, hm2, hw2⟩ := sl_of w1
  clear w1
  have hwf : ∀ j, 0 ≤ z0.getD j 0 ∧ z0.getD j 0 < 18446744073709551616 := fun j => wf64 (hw j)
  have hwf2 : ∀ j, 0 ≤ z1.getD j 0 ∧ z1.getD j 0 < 18446744073709551616 := fun j => wf64 (hw2 j)
  clear hw hw2
  unfold maxLen at hm hm2
  by_cases hlen : (1048576 : Int) < len0
  · go_enter Try.func6, Try.ntmps6
    go_wp2_with (fail)
    go_ret
    exact ⟨rfl, Below.refl _ _⟩
  by_cases hlen2 : (1048576 : Int) < len1
  · go_enter Try.func6, Try.ntmps6
    go_wp2_with (fail)
    go_ret
    exact ⟨rfl, Below.refl _ _⟩
  generalize hf : (fun j => z0.getD j 0) = f at hs
  generalize hf2 : (fun j => z1.getD j 0) = e2 at hs2
  have HW : Hid (W64 f) := by unfold Hid; rw [← hf]; exact hwf
  have HW2 : Hid (W64 e2) := by unfold Hid; rw [← hf2]; exact hwf2
  clear hf hwf hf2 hwf2
  go_enter Try.func6, Try.ntmps6
  go_wp2_with (fail)
  refine (toUint64_any a0 len0 cap0 f w hs (by omega)).mono ?_
  rintro e u1 ⟨rfl, f1, B1, z1⟩
  go_wp2_with (fail)
  refine (toUint64_any a1 len1 cap1 e2 u1 (hs2.later B1) (by omega)).mono ?_
  rintro e v1 ⟨rfl, k1, D1, y1⟩
  have g1 := f1.later D1
  have E1 := B1.trans (D1.mono (by omega))
  clear f1 B1 D1
  go_wp2_with (fail)
  refine (spdo_any w.heap.size 0 len0 len0 f _ len1 len1 e2 v1 (fun j hj => by simpa using (g1 j hj).1) (fun _ => by omega) (by omega) HW.out k1.sl (by omega) HW2.out).mono ?_
  rintro e u2 ⟨g, c, q0, q1, rfl, p2, B2⟩
  have C2 := E1.trans (B2.mono (by omega))
  have z2 := B2.size
  generalize hsw : plF len0 f e2 len1 = sw at *
  have HSW : Hid (plF len0 f e2 len1 = sw) := hsw
  clear hsw B2 g1 k1 E1
  go_wp2_with (fail)
  refine (toUint64_any a0 len0 cap0 f u2 (hs.later C2) (by omega)).mono ?_
  rintro e u3 ⟨rfl, f3, B3, z3⟩
  have p3 := p2.later B3
  have C3 := C2.trans (B3.mono (by omega))
  clear p2 B3
  go_wp2_with (fail)
  refine (toUint64_any a1 len1 cap1 e2 u3 (hs2.later C3) (by omega)).mono ?_
  rintro e v3 ⟨rfl, k3, B3, y3⟩
  replace p3 := p3.later B3
  replace f3 := f3.later B3
  have D3 := C3.trans (B3.mono (by omega))
  clear C3 C2 B3
  go_wp2_with (fail)
  refine (pdo_any _ len0 len0 f _ len1 len1 e2 v3 f3.sl (by omega) HW.out k3.sl (by omega) HW2.out).mono ?_
  rintro e u4 ⟨rfl, x4, B4, z4⟩
  rw [HSW.out] at x4
  have p4 := p3.later B4
  have f4 := f3.later B4
  have k4 := k3.later B4
  have C4 := D3.trans (B4.mono (by omega))
  clear p3 f3 k3 D3 B4
  go_wp2_with (fail)
  refine (eqUint64_any _ _ _ _ _ sw sw u4 x4.sl p4.sl (fun _ _ => rfl) (by omega)).mono ?_
  rintro e w' ⟨rfl, q1, rfl⟩
  go_wp2_with (fail)
  refine (toUint64_any a0 len0 cap0 f (u4.drewN q1) ((hs.later C4).drewN q1) (by omega)).mono ?_
  rintro e u5 ⟨rfl, f5, B5, z5⟩
  simp only [World.heap_drewN] at z5 B5 f5
  have B5' : Below u4.heap.size u4 u5 := ⟨B5.os, B5.tape, B5.output, B5.size, B5.block⟩
  have p5 := p4.later B5'
  have x5 := x4.later B5'
  have k5 := k4.later B5'
  have f5' := f4.later B5'
  have C5 := C4.trans (B5'.mono (by omega))
  clear B5 B5' p4 x4 k4 f4 C4
  go_wp2_with (fail)
  refine (eqUint64_any _ _ _ _ _ f f u5 f5'.sl f5.sl (fun _ _ => rfl) (by omega)).mono ?_
  rintro e w' ⟨rfl, q2, rfl⟩
  clear f5
  go_wp2_with (fail)
  refine (toUint64_any a1 len1 cap1 e2 (u5.drewN q2) ((hs2.later C5).drewN q2) (by omega)).mono ?_
  rintro e v5 ⟨rfl, k5', B5, y5⟩
  simp only [World.heap_drewN] at y5 B5 k5'
  have B5' : Below u5.heap.size u5 v5 := ⟨B5.os, B5.tape, B5.output, B5.size, B5.block⟩
  replace p5 := p5.later B5'
  replace x5 := x5.later B5'
  replace k5 := k5.later B5'
  replace f5' := f5'.later B5'
  replace C5 := C5.trans (B5'.mono (by omega))
  clear B5 B5'
  go_wp2_with (fail)
  refine (eqUint64_any _ _ _ _ _ e2 e2 v5 k5.sl k5'.sl (fun _ _ => rfl) (by omega)).mono ?_
  rintro e w' ⟨rfl, q3, rfl⟩
  clear k5'
  go_wp2_with (fail)
  refine (markUint64_any u2.heap.size _ _ f 1 (v5.drewN q3) (f5'.drewN q3) (by omega) (by omega) (by omega)).mono ?_
  rintro e u6 ⟨rfl, f6, hbut⟩
  have z6 := Nat.le_of_eq hbut.size
  have y6 := Nat.le_of_eq hbut.size.symm
  simp only [World.heap_drewN] at z6 y6
  have p6 : Fk .u64 len0 u6 g sw := hbut.fk (by omega) (p5.drewN q3)
  have x6 : Fk .u64 len0 u6 v3.heap.size sw := hbut.fk (by omega) (x5.drewN q3)
  have k6 : Fk .u64 len1 u6 u3.heap.size e2 := hbut.fk (by omega) (k5.drewN q3)
  have C6 : Below w.heap.size w u6 := (show Below w.heap.size w (v5.drewN q3) from ⟨C5.os, C5.tape, C5.output, C5.size, C5.block⟩).trans (hbut.below (by omega))
  clear hbut p5 x5 f5' k5 C5
  go_wp2_with (fail)
  refine (markUint64_any u3.heap.size _ _ e2 _ u6 k6 (by omega) (by omega) (by omega)).mono ?_
  rintro e v6 ⟨rfl, k7, hbut⟩
  have z7 := Nat.le_of_eq hbut.size
  have y7 := Nat.le_of_eq hbut.size.symm
  replace p6 : Fk .u64 len0 v6 g sw := hbut.fk (by omega) p6
  replace x6 : Fk .u64 len0 v6 v3.heap.size sw := hbut.fk (by omega) x6
  replace C6 : Below w.heap.size w v6 := C6.trans (hbut.below (by omega))
  clear hbut k6 k7 f6
  go_wp2_with (fail)
  refine (eqUint64_any _ _ _ _ _ sw sw v6 x6.sl p6.sl (fun _ _ => rfl) (by omega)).mono ?_
  rintro e w' ⟨rfl, q4, rfl⟩
  go_wp2_with (fail)
  refine (markUint64_any v3.heap.size _ _ sw 1 (v6.drewN q4) (x6.drewN q4) (by omega) (by omega) (by omega)).mono ?_
  rintro e u7 ⟨rfl, x7, hbut⟩
  have z8 := Nat.le_of_eq hbut.size
  have y8 := Nat.le_of_eq hbut.size.symm
  simp only [World.heap_drewN] at z8 y8
  have p7 : Fk .u64 len0 u7 g sw := hbut.fk (by omega) (p6.drewN q4)
  have C7 : Below w.heap.size w u7 := (show Below w.heap.size w (v6.drewN q4) from ⟨C6.os, C6.tape, C6.output, C6.size, C6.block⟩).trans (hbut.below (by omega))
  clear hbut p6 x6 C6
  go_wp2_with (fail)
  refine (heldUint64_any _ _ _ 1 u7 x7.sl (by omega) (by omega) (by omega)).mono ?_
  rintro e u7 ⟨rfl, rfl⟩
  go_wp2_with (fail)
  refine (toUint64_any a0 len0 cap0 f u7 (hs.later C7) (by omega)).mono ?_
  rintro e u8 ⟨rfl, f8, B8, z9⟩
  have p8 := p7.later B8
  have x8 := x7.later B8
  have C8 := C7.trans (B8.mono (by omega))
  clear B8 p7 x7 C7
  go_wp2_with (fail)
  refine (toUint64_any a1 len1 cap1 e2 u8 (hs2.later C8) (by omega)).mono ?_
  rintro e v8 ⟨rfl, k8, B8, y9⟩
  replace p8 := p8.later B8
  replace x8 := x8.later B8
  replace f8 := f8.later B8
  replace C8 := C8.trans (B8.mono (by omega))
  clear B8
  go_wp2_with (fail)
  refine (pdo_any _ len0 len0 f _ len1 len1 e2 v8 f8.sl (by omega) HW.out k8.sl (by omega) HW2.out).mono ?_
  rintro e u9 ⟨rfl, y9', B9, z10⟩
  rw [HSW.out] at y9'
  have p9 := p8.later B9
  have x9 := x8.later B9
  have C9 := C8.trans (B9.mono (by omega))
  clear B9 p8 x8 C8 f8 k8
  go_wp2_with (fail)
  refine (eqUint64_any _ _ _ _ _ sw sw u9 y9'.sl p9.sl (fun _ _ => rfl) (by omega)).mono ?_
  rintro e w' ⟨rfl, q5, rfl⟩
  go_wp2_with (fail)
  refine (heldUint64_any _ _ _ 1 (u9.drewN q5) (x9.drewN q5).sl (by omega) (by omega) (by omega)).mono ?_
  rintro e w' ⟨rfl, rfl⟩
  go_wp2_with (fail)
  go_ret
  exact ⟨rfl, ⟨C9.os, C9.tape, C9.output, C9.size, C9.block⟩⟩

set_option maxRecDepth 100000 in
theorem lifted (os : Os) (started : os.Started) (H : Type) (enc : TypeId × Value → H) :
    ReturnsInHanded {} Try.checked os 6 .any (Rows.fnExactPlanDoSpec.pre6 enc Try.prog Try.f6 Rows.fnExactPlanDoRow.domain false) (Rows.fnExactPlanDoSpec.post enc Try.prog Try.f6 false true false false) := by
  refine returnsInHanded_of_change (C := Try.checked) own started (by kernel_rfl) Try.func6
    (ChangeSpec.witness6 (enc := enc) (C := Try.checked) false ⟨#[], #[.slice none 0 0, .slice none 0 0], []⟩ 8 (by kernel_rfl) (by kernel_rfl) (by kernel_rfl) (by kernel_rfl)) ?_
  intro W base args ds gs before hval0 hW hcnd _
  have hval : ∀ (j : Nat) t v, Try.f6.params[j]? = some t → args[j]? = some v → Value.okWide Try.prog W .any base t v := hval0
  have hW' := hW
  obtain ⟨p, q, hA0, hV, rfl, hfz, hnd⟩ := hW
  have hA : DataW.TrodAll enc Try.prog W 0 (fun _ => true) true Try.f6.params.toList args.toList ds p := hA0
  rw [Try.params6] at hA hval
  obtain ⟨v0, vs0, d0, ds0, p0, q0, hargs, rfl, rfl, h0, r0⟩ := trodAll_cons hA
  obtain ⟨v1, vs1, d1, ds1, p1, q1, rfl, rfl, rfl, h1, r1⟩ := trodAll_cons r0
  obtain ⟨rfl, rfl, rfl⟩ := trodAll_nil r1
  obtain rfl : args = #[v0, v1] := by cases args; simp_all
  obtain ⟨rfl, rfl⟩ := trodVars_none hV
  obtain ⟨a0, len0, cap0, rfl⟩ := okWide_slice Try.underlying45 (hval 0 45 v0 rfl rfl)
  have k0 := h0
  have lt0 : ∀ x ∈ p0, x.block < W.heap.size := by obtain ⟨m, hm⟩ := k0; exact DataW.trod_lt m _ _ _ hm
  obtain ⟨z0, w0⟩ : ∃ zs, IsRow .u64 W a0 len0 cap0 zs := by
    obtain ⟨fuel, hf⟩ := h0
    rcases open_ints Try.underlying45 Try.underlying79 (by kernel_rfl) hf with ⟨hcs, _⟩ | ⟨x, l, c, zs, hcs, _, hl, hm, hz, _, hcell, hwz⟩
    · simp [Value.cells] at hcs
      obtain ⟨rfl, rfl, rfl⟩ := hcs
      exact ⟨[], .inl ⟨rfl, rfl, rfl, rfl⟩⟩
    · simp [Value.cells] at hcs
      obtain ⟨rfl, rfl, rfl⟩ := hcs
      exact ⟨zs, .inr ⟨_, rfl, hl, hm, by simpa using hz, hcell, hwz⟩⟩
  obtain ⟨a1, len1, cap1, rfl⟩ := okWide_slice Try.underlying45 (hval 1 45 v1 rfl rfl)
  have k1 := h1
  have lt1 : ∀ x ∈ p1, x.block < W.heap.size := by obtain ⟨m, hm⟩ := k1; exact DataW.trod_lt m _ _ _ hm
  obtain ⟨z1, w1⟩ : ∃ zs, IsRow .u64 W a1 len1 cap1 zs := by
    obtain ⟨fuel, hf⟩ := h1
    rcases open_ints Try.underlying45 Try.underlying79 (by kernel_rfl) hf with ⟨hcs, _⟩ | ⟨x, l, c, zs, hcs, _, hl, hm, hz, _, hcell, hwz⟩
    · simp [Value.cells] at hcs
      obtain ⟨rfl, rfl, rfl⟩ := hcs
      exact ⟨[], .inl ⟨rfl, rfl, rfl, rfl⟩⟩
    · simp [Value.cells] at hcs
      obtain ⟨rfl, rfl, rfl⟩ := hcs
      exact ⟨zs, .inr ⟨_, rfl, hl, hm, by simpa using hz, hcell, hwz⟩⟩
  clear hA0 hval0
  refine (walk a0 len0 cap0 z0 a1 len1 cap1 z1 W w0 w1).mono fun e W' ⟨he, bel⟩ => ?_
  subst he
  exact ⟨_, rfl, _, _, _, [], _, [], hW', trodAll_mk1 (shut_bool Try.underlying4 _), (trodAll_cons_mk (Below.trod laidOut (by kernel_rfl) (of_decide_eq_true (by kernel_rfl)) k0 bel lt0) (trodAll_cons_mk (Below.trod laidOut (by kernel_rfl) (of_decide_eq_true (by kernel_rfl)) k1 bel lt1) trodAll_mk0)), rfl, bel.frame _, fun h => by cases h⟩

theorem over : Rows.fnExactPlanDoRow.holds Try.pinned (OpenSpec.ofChange Rows.fnExactPlanDoSpec) :=
  OpenClaim.holds_of_wide 6 Try.f6 rfl rfl rfl rfl rfl rfl rfl ⟨rfl, rfl, rfl, rfl, rfl⟩ rfl rfl rfl rfl rfl (by kernel_rfl) Try.func6 (by kernel_rfl)
    (of_decide_eq_true (by kernel_rfl)) (by unfold Func.isWrapper; first | (rw [if_pos (by decide +kernel)]; kernel_rfl) | (rw [if_neg (by decide +kernel)]; exact ⟨rfl, rfl⟩))
    (fun os started H enc _ => lifted os started H enc)

end Go.Proofs.Ytipbijcmpbefpaa.fnExactPlanDo
namespace Go.Proofs.Ytipbijcmpbefpaa
theorem fnExactPlanDo_holds : Rows.FnExactPlanDoSaid := fnExactPlanDo.over
#print axioms fnExactPlanDo_holds
end Go.Proofs.Ytipbijcmpbefpaa

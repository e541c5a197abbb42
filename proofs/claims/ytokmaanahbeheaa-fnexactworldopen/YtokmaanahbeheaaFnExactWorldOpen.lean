/- Of every house (three ints), the program's WorldOpen answers the world that the specification's does: the words in new memory of its own, and no guests. Conditions: none. -/
import Derived.Test.YtokmaanahbeheaaRows
import Derived.Test.YtokmaanahbeheaaCell
import Derived.Test.YtokmaanahbeheaaAid
import Derived.Test.YtokmaanahbeheaaPlat
import Derived.Test.YtokmaanahbeheaaPlat2
import Derived.Test.YtokmaanahbeheaaDoor
import Derived.Test.YtokmaanahbeheaaLst
import Derived.Test.YtokmaanahbeheaaFmt
import Derived.Test.YtokmaanahbeheaaRw
import Derived.Test.YtokmaanahbeheaaBk
import Derived.Test.YtokmaanahbeheaaWop
import Derived.Test.YtokmaanahbeheaaWop2
import Derived.Test.YtokmaanahbeheaaLawWo
import Derived.WalkKit
import Derived.ProofKit
import Derived.OpenShut
import Derived.ShutString
import Derived.ChangeOld
import Derived.Below
import Derived.Lib.SmallJoins
namespace Go.Proofs.Ytokmaanahbeheaa.fnExactWorldOpen
open Go.ChangeShapes Go.WideShapes Go.ChangeAt Go.RowKit
open Go.Proofs.Ytokmaanahbeheaa.Aid
open Go.Proofs.Ytokmaanahbeheaa.Book
open Go.Proofs.Ytokmaanahbeheaa.Lst
open Go.Proofs.Ytokmaanahbeheaa.Plat
open Go.Proofs.Ytokmaanahbeheaa.Words
open Go.ChangeMaps (open_string shut_string)
set_option linter.unusedVariables false

theorem own : ownKnob Try.prog.godebug = none := by kernel_rfl
theorem laidOut : laidOutB Try.prog = true := by kernel_rfl

set_option maxRecDepth 100000 in
set_option maxHeartbeats 4000000 in
theorem walk (s0_0 s0_1 s0_2 : Int) (w : World) (ws0_0 : (Lit.int .i64 s0_0).wf = true) (ws0_1 : (Lit.int .i64 s0_1).wf = true) (ws0_2 : (Lit.int .i64 s0_2).wf = true) :
    Calls Try.prog 3 #[.agg #[.int .i64 s0_0, .int .i64 s0_1, .int .i64 s0_2]] w fun e w' => e = .returned (.bool true) ∧ Below w.heap.size w w' := by
  exact Plat.law_wo s0_0 s0_1 s0_2 w

set_option maxRecDepth 100000 in
theorem lifted (os : Os) (started : os.Started) (H : Type) (enc : TypeId × Value → H) :
    ReturnsInHanded {} Try.checked os 3 .any (Rows.fnExactWorldOpenSpec.pre6 enc Try.prog Try.f3 Rows.fnExactWorldOpenRow.domain false) (Rows.fnExactWorldOpenSpec.post enc Try.prog Try.f3 false true false false) := by
  refine returnsInHanded_of_change (C := Try.checked) own started (by kernel_rfl) Try.func3
    (ChangeSpec.witness6 (enc := enc) (C := Try.checked) false ⟨#[], #[.agg #[.int .i64 0, .int .i64 0, .int .i64 0]], []⟩ 8 (by kernel_rfl) (by kernel_rfl) (by kernel_rfl) (by kernel_rfl)) ?_
  intro W base args ds gs before hval0 hW hcnd _
  have hval : ∀ (j : Nat) t v, Try.f3.params[j]? = some t → args[j]? = some v → Value.okWide Try.prog W .any base t v := hval0
  have hW' := hW
  obtain ⟨p, q, hA0, hV, rfl, hfz, hnd⟩ := hW
  have hA : DataW.TrodAll enc Try.prog W 0 (fun _ => true) true Try.f3.params.toList args.toList ds p := hA0
  rw [Try.params3] at hA hval
  obtain ⟨v0, vs0, d0, ds0, p0, q0, hargs, rfl, rfl, h0, r0⟩ := trodAll_cons hA
  obtain ⟨rfl, rfl, rfl⟩ := trodAll_nil r0
  obtain rfl : args = #[v0] := by cases args; simp_all
  obtain ⟨rfl, rfl⟩ := trodVars_none hV
  have k0 := h0
  have lt0 : ∀ x ∈ p0, x.block < W.heap.size := by obtain ⟨m, hm⟩ := k0; exact DataW.trod_lt m _ _ _ hm
  obtain ⟨s0_0, s0_1, s0_2, rfl, ws0_0, ws0_1, ws0_2⟩ : ∃ s0_0 s0_1 s0_2 : Int, v0 = .agg #[.int .i64 s0_0, .int .i64 s0_1, .int .i64 s0_2] ∧ (Lit.int .i64 s0_0).wf = true ∧ (Lit.int .i64 s0_1).wf = true ∧ (Lit.int .i64 s0_2).wf = true := by
    obtain ⟨c0, c1, c2, y0, y1, y2, m, rfl, -, -, g0, g1, g2⟩ := Joins.open_agg3 Try.underlying23 (by kernel_rfl) (by kernel_rfl) (hval 0 23 v0 rfl rfl) h0
    obtain ⟨x0, e0, -, u0⟩ := DataW.trod_int Try.underlying3 g0
    obtain ⟨x1, e1, -, u1⟩ := DataW.trod_int Try.underlying3 g1
    obtain ⟨x2, e2, -, u2⟩ := DataW.trod_int Try.underlying3 g2
    simp at e0 e1 e2
    subst e0 e1 e2
    exact ⟨x0, x1, x2, rfl, u0, u1, u2⟩
  clear hA0 hval0
  refine (walk s0_0 s0_1 s0_2 W ws0_0 ws0_1 ws0_2).mono fun e W' ⟨he, bel⟩ => ?_
  subst he
  exact ⟨_, rfl, _, _, _, [], _, [], hW', trodAll_mk1 (shut_bool Try.underlying4 _), (trodAll_cons_mk (Below.trod laidOut (by kernel_rfl) (of_decide_eq_true (by kernel_rfl)) k0 bel lt0) trodAll_mk0), rfl, bel.frame _, fun h => by cases h⟩

theorem over : Rows.fnExactWorldOpenRow.holds Try.pinned (OpenSpec.ofChange Rows.fnExactWorldOpenSpec) :=
  OpenClaim.holds_of_wide 3 Try.f3 rfl rfl rfl rfl rfl rfl rfl ⟨rfl, rfl, rfl, rfl, rfl⟩ rfl rfl rfl rfl rfl (by kernel_rfl) Try.func3 (by kernel_rfl)
    (of_decide_eq_true (by kernel_rfl)) (by unfold Func.isWrapper; first | (rw [if_pos (by decide +kernel)]; kernel_rfl) | (rw [if_neg (by decide +kernel)]; exact ⟨rfl, rfl⟩))
    (fun os started H enc _ => lifted os started H enc)

end Go.Proofs.Ytokmaanahbeheaa.fnExactWorldOpen
namespace Go.Proofs.Ytokmaanahbeheaa
theorem fnExactWorldOpen_holds : Rows.FnExactWorldOpenSaid := fnExactWorldOpen.over
#print axioms fnExactWorldOpen_holds
end Go.Proofs.Ytokmaanahbeheaa

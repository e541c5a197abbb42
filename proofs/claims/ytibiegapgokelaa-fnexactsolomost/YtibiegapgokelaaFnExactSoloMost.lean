/- Of every house (three ints), the program's SoloMost answers as the specification's does. Conditions: none. -/
import Derived.Test.YtibiegapgokelaaRows
import Derived.Test.YtibiegapgokelaaCell
import Derived.Test.YtibiegapgokelaaAid
import Derived.Test.YtibiegapgokelaaPlat
import Derived.Test.YtibiegapgokelaaPlat2
import Derived.Test.YtibiegapgokelaaSolo
import Derived.WalkKit
import Derived.ProofKit
import Derived.OpenShut
import Derived.ShutString
import Derived.ChangeOld
import Derived.Below
import Derived.Lib.SmallJoins
namespace Go.Proofs.Ytibiegapgokelaa.fnExactSoloMost
open Go.ChangeShapes Go.WideShapes Go.ChangeAt Go.RowKit
open Go.Proofs.Ytibiegapgokelaa.Aid
open Go.Proofs.Ytibiegapgokelaa.Plat
open Go.Proofs.Ytibiegapgokelaa.Words
open Go.ChangeMaps (open_string shut_string)
set_option linter.unusedVariables false

theorem own : ownKnob Try.prog.godebug = none := by kernel_rfl
theorem laidOut : laidOutB Try.prog = true := by kernel_rfl

set_option maxRecDepth 100000 in
set_option maxHeartbeats 4000000 in
theorem walk (s0_0 s0_1 s0_2 : Int) (w : World) (ws0_0 : (Lit.int .i64 s0_0).wf = true) (ws0_1 : (Lit.int .i64 s0_1).wf = true) (ws0_2 : (Lit.int .i64 s0_2).wf = true) :
    Calls Try.prog 3 #[.agg #[.int .i64 s0_0, .int .i64 s0_1, .int .i64 s0_2]] w fun e w' => e = .returned (.bool true) ∧ Below w.heap.size w w' := by
  go_enter Try.func3, Try.ntmps3
  go_wp2_with (fail)
  refine (to_any s0_0 s0_1 s0_2 _).mono ?_
  rintro e w1 ⟨rfl, hb1⟩
  have hz1 := hb1.size
  simp at hz1
  go_wp2_with (fail)
  refine (ssolo_any s0_0 s0_1 s0_2 _).mono ?_
  rintro e w2 ⟨rfl, hb2⟩
  have hz2 := hb2.size
  have r2 : w2.rangeAt w.heap.size 0 (ints [s0_0, s0_1, s0_2]) := range_below hb2 (range_below hb1 (range_lit (ints [s0_0, s0_1, s0_2]).toArray (heap1_0 _ _)) (by simp)) (by omega)
  have q0 : w2.cell? ⟨w.heap.size, 0, none⟩ = some (.int .i64 s0_0) := r2 0 _ rfl
  have q1 : w2.cell? ⟨w.heap.size, 1, none⟩ = some (.int .i64 s0_1) := r2 1 _ rfl
  have q2 : w2.cell? ⟨w.heap.size, 2, none⟩ = some (.int .i64 s0_2) := r2 2 _ rfl
  go_wp2_with (fail)
  refine (to_any s0_0 s0_1 s0_2 _).mono ?_
  rintro e w3 ⟨rfl, hb3⟩
  have hz3 := hb3.size
  go_wp2_with (fail)
  refine (solo_any s0_0 s0_1 s0_2 _).mono ?_
  rintro e w4 ⟨rfl, hb4⟩
  go_wp2_with (fail)
  go_ret
  exact ⟨rfl, ((((below1 _ _).trans (hb1.mono (by simp))).trans (hb2.mono (by omega))).trans (hb3.mono (by omega))).trans (hb4.mono (by omega))⟩

set_option maxRecDepth 100000 in
theorem lifted (os : Os) (started : os.Started) (H : Type) (enc : TypeId × Value → H) :
    ReturnsInHanded {} Try.checked os 3 .any (Rows.fnExactSoloMostSpec.pre6 enc Try.prog Try.f3 Rows.fnExactSoloMostRow.domain false) (Rows.fnExactSoloMostSpec.post enc Try.prog Try.f3 false true false false) := by
  refine returnsInHanded_of_change (C := Try.checked) own started (by kernel_rfl) Try.func3
    (ChangeSpec.witness6 (enc := enc) (C := Try.checked) false ⟨#[], #[.agg #[.int .i64 0, .int .i64 0, .int .i64 0]], []⟩ 8 (by kernel_rfl) (by kernel_rfl) (by kernel_rfl) (by kernel_rfl)) ?_
  intro W base args ds gs before hval0 hW hcnd _
  have hval : ∀ (j : Nat) t v, Try.f3.params[j]? = some t → args[j]? = some v → Value.okWide Try.prog W .any base t v := hval0
  have hW' := hW
  obtain ⟨p, q, hA0, hV, rfl, hfz, hnd⟩ := hW
  have hA : DataW.TrodAll enc Try.prog W 0 (fun _ => true) true Try.f3.params.toList args.toList ds p := hA0
  rw [Try.params3] at hA hval
  obtain ⟨v0, vs0, d0, ds0, p0, q0, hargs, rfl, rfl, h0, r0⟩ := trodAll_cons hA
  obtain ⟨rfl, rfl, rfl⟩ := trodAll_nil r0
  obtain rfl : args = #[v0] := by cases args; simp_all
  obtain ⟨rfl, rfl⟩ := trodVars_none hV
  have k0 := h0
  have lt0 : ∀ x ∈ p0, x.block < W.heap.size := by obtain ⟨m, hm⟩ := k0; exact DataW.trod_lt m _ _ _ hm
  obtain ⟨s0_0, s0_1, s0_2, rfl, ws0_0, ws0_1, ws0_2⟩ : ∃ s0_0 s0_1 s0_2 : Int, v0 = .agg #[.int .i64 s0_0, .int .i64 s0_1, .int .i64 s0_2] ∧ (Lit.int .i64 s0_0).wf = true ∧ (Lit.int .i64 s0_1).wf = true ∧ (Lit.int .i64 s0_2).wf = true := by
    obtain ⟨c0, c1, c2, y0, y1, y2, m, rfl, -, -, g0, g1, g2⟩ := Joins.open_agg3 Try.underlying23 (by kernel_rfl) (by kernel_rfl) (hval 0 23 v0 rfl rfl) h0
    obtain ⟨x0, e0, -, u0⟩ := DataW.trod_int Try.underlying3 g0
    obtain ⟨x1, e1, -, u1⟩ := DataW.trod_int Try.underlying3 g1
    obtain ⟨x2, e2, -, u2⟩ := DataW.trod_int Try.underlying3 g2
    simp at e0 e1 e2
    subst e0 e1 e2
    exact ⟨x0, x1, x2, rfl, u0, u1, u2⟩
  clear hA0 hval0
  refine (walk s0_0 s0_1 s0_2 W ws0_0 ws0_1 ws0_2).mono fun e W' ⟨he, bel⟩ => ?_
  subst he
  exact ⟨_, rfl, _, _, _, [], _, [], hW', trodAll_mk1 (shut_bool Try.underlying4 _), (trodAll_cons_mk (Below.trod laidOut (by kernel_rfl) (of_decide_eq_true (by kernel_rfl)) k0 bel lt0) trodAll_mk0), rfl, bel.frame _, fun h => by cases h⟩

theorem over : Rows.fnExactSoloMostRow.holds Try.pinned (OpenSpec.ofChange Rows.fnExactSoloMostSpec) :=
  OpenClaim.holds_of_wide 3 Try.f3 rfl rfl rfl rfl rfl rfl rfl ⟨rfl, rfl, rfl, rfl, rfl⟩ rfl rfl rfl rfl rfl (by kernel_rfl) Try.func3 (by kernel_rfl)
    (of_decide_eq_true (by kernel_rfl)) (by unfold Func.isWrapper; first | (rw [if_pos (by decide +kernel)]; kernel_rfl) | (rw [if_neg (by decide +kernel)]; exact ⟨rfl, rfl⟩))
    (fun os started H enc _ => lifted os started H enc)

end Go.Proofs.Ytibiegapgokelaa.fnExactSoloMost
namespace Go.Proofs.Ytibiegapgokelaa
theorem fnExactSoloMost_holds : Rows.FnExactSoloMostSaid := fnExactSoloMost.over
#print axioms fnExactSoloMost_holds
end Go.Proofs.Ytibiegapgokelaa

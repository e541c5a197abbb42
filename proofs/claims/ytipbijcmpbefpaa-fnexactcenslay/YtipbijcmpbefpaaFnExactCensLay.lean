/- Of every house (three ints) and every book (any numbers in lists of any lengths), the program's CensLay answers the list that the specification's does, in new memory of its own, and what was handed to it is as it was. Conditions: none. -/
import Derived.Test.YtipbijcmpbefpaaRows
import Derived.Test.YtipbijcmpbefpaaAid
import Derived.Test.YtipbijcmpbefpaaLst
import Derived.Test.YtipbijcmpbefpaaKind
import Derived.Test.YtipbijcmpbefpaaBk
import Derived.Test.YtipbijcmpbefpaaBk2
import Derived.Test.YtipbijcmpbefpaaBk3
import Derived.Test.YtipbijcmpbefpaaOpenBk
import Derived.Test.YtipbijcmpbefpaaLaw
import Derived.Test.YtipbijcmpbefpaaSame
import Derived.Test.YtipbijcmpbefpaaOk1
import Derived.Test.YtipbijcmpbefpaaOk2
import Derived.Test.YtipbijcmpbefpaaOk3
import Derived.Test.YtipbijcmpbefpaaOk4
import Derived.Test.YtipbijcmpbefpaaOk5
import Derived.Test.YtipbijcmpbefpaaOk6
import Derived.Test.YtipbijcmpbefpaaOk7
import Derived.Test.YtipbijcmpbefpaaIm1
import Derived.Test.YtipbijcmpbefpaaIm2
import Derived.Test.YtipbijcmpbefpaaIm3
import Derived.Test.YtipbijcmpbefpaaIm4
import Derived.Test.YtipbijcmpbefpaaIm5
import Derived.Test.YtipbijcmpbefpaaMt
import Derived.Test.YtipbijcmpbefpaaIm6
import Derived.Test.YtipbijcmpbefpaaNorm
import Derived.Test.YtipbijcmpbefpaaRoom
import Derived.Test.YtipbijcmpbefpaaBk4
import Derived.Test.YtipbijcmpbefpaaBk5
import Derived.Test.YtipbijcmpbefpaaWr
import Derived.Test.YtipbijcmpbefpaaCell
import Derived.Test.YtipbijcmpbefpaaPlat
import Derived.Test.YtipbijcmpbefpaaPlat2
import Derived.Test.YtipbijcmpbefpaaLay1
import Derived.Test.YtipbijcmpbefpaaLay2
import Derived.Test.YtipbijcmpbefpaaLay3
import Derived.Test.YtipbijcmpbefpaaLay4
import Derived.Test.YtipbijcmpbefpaaLay5
import Derived.Test.YtipbijcmpbefpaaLay6
import Derived.Test.YtipbijcmpbefpaaLay7
import Derived.Test.YtipbijcmpbefpaaLay8
import Derived.Test.YtipbijcmpbefpaaLay9
import Derived.Test.YtipbijcmpbefpaaLay10
import Derived.Test.YtipbijcmpbefpaaLawLay
import Derived.WalkKit
import Derived.ProofKit
import Derived.OpenShut
import Derived.ShutString
import Derived.ChangeOld
import Derived.Below
import Derived.Lib.SmallJoins
namespace Go.Proofs.Ytipbijcmpbefpaa.fnExactCensLay
open Go.ChangeShapes Go.WideShapes Go.ChangeAt Go.RowKit
open Go.Proofs.Ytipbijcmpbefpaa.Aid
open Go.Proofs.Ytipbijcmpbefpaa.Book
open Go.Proofs.Ytipbijcmpbefpaa.Lst
open Go.Proofs.Ytipbijcmpbefpaa.Plat
open Go.Proofs.Ytipbijcmpbefpaa.Words
open Go.ChangeMaps (open_string shut_string)
set_option linter.unusedVariables false

theorem own : ownKnob Try.prog.godebug = none := by kernel_rfl
theorem laidOut : laidOutB Try.prog = true := by kernel_rfl

set_option maxRecDepth 100000 in
set_option maxHeartbeats 4000000 in
theorem walk (s0_0 s0_1 s0_2 : Int) (b1 : Book.Bx) (w : World) (ws0_0 : (Lit.int .i64 s0_0).wf = true) (ws0_1 : (Lit.int .i64 s0_1).wf = true) (ws0_2 : (Lit.int .i64 s0_2).wf = true) (w1 : b1.Good w) :
    Calls Try.prog 4 #[.agg #[.int .i64 s0_0, .int .i64 s0_1, .int .i64 s0_2], .agg b1.cells.toArray] w fun e w' => e = .returned (.bool true) ∧ Below w.heap.size w w' := by
  exact Book.law_lay s0_0 s0_1 s0_2 b1 w w1

set_option maxRecDepth 100000 in
theorem lifted (os : Os) (started : os.Started) (H : Type) (enc : TypeId × Value → H) :
    ReturnsInHanded {} Try.checked os 4 .any (Rows.fnExactCensLaySpec.pre6 enc Try.prog Try.f4 Rows.fnExactCensLayRow.domain false) (Rows.fnExactCensLaySpec.post enc Try.prog Try.f4 false true false false) := by
  refine returnsInHanded_of_change (C := Try.checked) own started (by kernel_rfl) Try.func4
    (ChangeSpec.witness6 (enc := enc) (C := Try.checked) false ⟨#[], #[.agg #[.int .i64 0, .int .i64 0, .int .i64 0], .agg #[.int .i64 0, .slice none 0 0, .slice none 0 0, .slice none 0 0, .slice none 0 0, .slice none 0 0, .slice none 0 0, .slice none 0 0, .slice none 0 0]], []⟩ 8 (by kernel_rfl) (by kernel_rfl) (by kernel_rfl) (by kernel_rfl)) ?_
  intro W base args ds gs before hval0 hW hcnd _
  have hval : ∀ (j : Nat) t v, Try.f4.params[j]? = some t → args[j]? = some v → Value.okWide Try.prog W .any base t v := hval0
  have hW' := hW
  obtain ⟨p, q, hA0, hV, rfl, hfz, hnd⟩ := hW
  have hA : DataW.TrodAll enc Try.prog W 0 (fun _ => true) true Try.f4.params.toList args.toList ds p := hA0
  rw [Try.params4] at hA hval
  obtain ⟨v0, vs0, d0, ds0, p0, q0, hargs, rfl, rfl, h0, r0⟩ := trodAll_cons hA
  obtain ⟨v1, vs1, d1, ds1, p1, q1, rfl, rfl, rfl, h1, r1⟩ := trodAll_cons r0
  obtain ⟨rfl, rfl, rfl⟩ := trodAll_nil r1
  obtain rfl : args = #[v0, v1] := by cases args; simp_all
  obtain ⟨rfl, rfl⟩ := trodVars_none hV
  have k0 := h0
  have lt0 : ∀ x ∈ p0, x.block < W.heap.size := by obtain ⟨m, hm⟩ := k0; exact DataW.trod_lt m _ _ _ hm
  obtain ⟨s0_0, s0_1, s0_2, rfl, ws0_0, ws0_1, ws0_2⟩ : ∃ s0_0 s0_1 s0_2 : Int, v0 = .agg #[.int .i64 s0_0, .int .i64 s0_1, .int .i64 s0_2] ∧ (Lit.int .i64 s0_0).wf = true ∧ (Lit.int .i64 s0_1).wf = true ∧ (Lit.int .i64 s0_2).wf = true := by
    obtain ⟨c0, c1, c2, y0, y1, y2, m, rfl, -, -, g0, g1, g2⟩ := Joins.open_agg3 Try.underlying34 (by kernel_rfl) (by kernel_rfl) (hval 0 34 v0 rfl rfl) h0
    obtain ⟨x0, e0, -, u0⟩ := DataW.trod_int Try.underlying3 g0
    obtain ⟨x1, e1, -, u1⟩ := DataW.trod_int Try.underlying3 g1
    obtain ⟨x2, e2, -, u2⟩ := DataW.trod_int Try.underlying3 g2
    simp at e0 e1 e2
    subst e0 e1 e2
    exact ⟨x0, x1, x2, rfl, u0, u1, u2⟩
  have k1 := h1
  have lt1 : ∀ x ∈ p1, x.block < W.heap.size := by obtain ⟨m, hm⟩ := k1; exact DataW.trod_lt m _ _ _ hm
  obtain ⟨b1, rfl, w1⟩ := Book.open_book (hval 1 35 v1 rfl rfl) h1
  clear hA0 hval0
  refine (walk s0_0 s0_1 s0_2 b1 W ws0_0 ws0_1 ws0_2 w1).mono fun e W' ⟨he, bel⟩ => ?_
  subst he
  exact ⟨_, rfl, _, _, _, [], _, [], hW', trodAll_mk1 (shut_bool Try.underlying4 _), (trodAll_cons_mk (Below.trod laidOut (by kernel_rfl) (of_decide_eq_true (by kernel_rfl)) k0 bel lt0) (trodAll_cons_mk (Below.trod laidOut (by kernel_rfl) (of_decide_eq_true (by kernel_rfl)) k1 bel lt1) trodAll_mk0)), rfl, bel.frame _, fun h => by cases h⟩

theorem over : Rows.fnExactCensLayRow.holds Try.pinned (OpenSpec.ofChange Rows.fnExactCensLaySpec) :=
  OpenClaim.holds_of_wide 4 Try.f4 rfl rfl rfl rfl rfl rfl rfl ⟨rfl, rfl, rfl, rfl, rfl⟩ rfl rfl rfl rfl rfl (by kernel_rfl) Try.func4 (by kernel_rfl)
    (of_decide_eq_true (by kernel_rfl)) (by unfold Func.isWrapper; first | (rw [if_pos (by decide +kernel)]; kernel_rfl) | (rw [if_neg (by decide +kernel)]; exact ⟨rfl, rfl⟩))
    (fun os started H enc _ => lifted os started H enc)

end Go.Proofs.Ytipbijcmpbefpaa.fnExactCensLay
namespace Go.Proofs.Ytipbijcmpbefpaa
theorem fnExactCensLay_holds : Rows.FnExactCensLaySaid := fnExactCensLay.over
#print axioms fnExactCensLay_holds
end Go.Proofs.Ytipbijcmpbefpaa

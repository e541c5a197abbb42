/- Of every book (any numbers in lists of any lengths) and every int, the program's BookOf answers the list that the specification's does, in new memory of its own, and what was handed to it is as it was. Conditions: none. -/
import Derived.Test.YtoloaghjgheomaaRows
import Derived.Test.YtoloaghjgheomaaAid
import Derived.Test.YtoloaghjgheomaaLst
import Derived.Test.YtoloaghjgheomaaKind
import Derived.Test.YtoloaghjgheomaaBk
import Derived.Test.YtoloaghjgheomaaBk2
import Derived.Test.YtoloaghjgheomaaBk3
import Derived.Test.YtoloaghjgheomaaOpenBk
import Derived.Test.YtoloaghjgheomaaLaw
import Derived.Test.YtoloaghjgheomaaSame
import Derived.Test.YtoloaghjgheomaaOk1
import Derived.Test.YtoloaghjgheomaaOk2
import Derived.Test.YtoloaghjgheomaaOk3
import Derived.Test.YtoloaghjgheomaaOk4
import Derived.Test.YtoloaghjgheomaaOk5
import Derived.Test.YtoloaghjgheomaaOk6
import Derived.Test.YtoloaghjgheomaaOk7
import Derived.Test.YtoloaghjgheomaaIm1
import Derived.Test.YtoloaghjgheomaaIm2
import Derived.Test.YtoloaghjgheomaaIm3
import Derived.Test.YtoloaghjgheomaaIm4
import Derived.Test.YtoloaghjgheomaaIm5
import Derived.Test.YtoloaghjgheomaaMt
import Derived.Test.YtoloaghjgheomaaIm6
import Derived.Test.YtoloaghjgheomaaNorm
import Derived.Test.YtoloaghjgheomaaRoom
import Derived.Test.YtoloaghjgheomaaBk4
import Derived.Test.YtoloaghjgheomaaBk5
import Derived.Test.YtoloaghjgheomaaBkOf
import Derived.Test.YtoloaghjgheomaaBkOf2
import Derived.Test.YtoloaghjgheomaaBkOf3
import Derived.Test.YtoloaghjgheomaaLawOf
import Derived.WalkKit
import Derived.ProofKit
import Derived.OpenShut
import Derived.ShutString
import Derived.ChangeOld
import Derived.Below
import Derived.Lib.SmallJoins
namespace Go.Proofs.Ytoloaghjgheomaa.fnExactBookOf
open Go.ChangeShapes Go.WideShapes Go.ChangeAt Go.RowKit
open Go.Proofs.Ytoloaghjgheomaa.Aid
open Go.Proofs.Ytoloaghjgheomaa.Book
open Go.Proofs.Ytoloaghjgheomaa.Lst
open Go.ChangeMaps (open_string shut_string)
set_option linter.unusedVariables false

theorem own : ownKnob Try.prog.godebug = none := by kernel_rfl
theorem laidOut : laidOutB Try.prog = true := by kernel_rfl

set_option maxRecDepth 100000 in
set_option maxHeartbeats 4000000 in
theorem walk (b0 : Book.Bx) (a1 : Int) (w : World) (w0 : b0.Good w) (w1 : (Lit.int .i64 a1).wf = true) :
    Calls Try.prog 9 #[.agg b0.cells.toArray, .int .i64 a1] w fun e w' => e = .returned (.bool true) ∧ Below w.heap.size w w' := by
  exact Book.law_of b0 a1 w1 w w0

set_option maxRecDepth 100000 in
theorem lifted (os : Os) (started : os.Started) (H : Type) (enc : TypeId × Value → H) :
    ReturnsInHanded {} Try.checked os 9 .any (Rows.fnExactBookOfSpec.pre6 enc Try.prog Try.f9 Rows.fnExactBookOfRow.domain false) (Rows.fnExactBookOfSpec.post enc Try.prog Try.f9 false true false false) := by
  refine returnsInHanded_of_change (C := Try.checked) own started (by kernel_rfl) Try.func9
    (ChangeSpec.witness6 (enc := enc) (C := Try.checked) false ⟨#[], #[.agg #[.int .i64 0, .slice none 0 0, .slice none 0 0, .slice none 0 0, .slice none 0 0, .slice none 0 0, .slice none 0 0, .slice none 0 0, .slice none 0 0], .int .i64 0], []⟩ 8 (by kernel_rfl) (by kernel_rfl) (by kernel_rfl) (by kernel_rfl)) ?_
  intro W base args ds gs before hval0 hW hcnd _
  have hval : ∀ (j : Nat) t v, Try.f9.params[j]? = some t → args[j]? = some v → Value.okWide Try.prog W .any base t v := hval0
  have hW' := hW
  obtain ⟨p, q, hA0, hV, rfl, hfz, hnd⟩ := hW
  have hA : DataW.TrodAll enc Try.prog W 0 (fun _ => true) true Try.f9.params.toList args.toList ds p := hA0
  rw [Try.params9] at hA hval
  obtain ⟨v0, vs0, d0, ds0, p0, q0, hargs, rfl, rfl, h0, r0⟩ := trodAll_cons hA
  obtain ⟨v1, vs1, d1, ds1, p1, q1, rfl, rfl, rfl, h1, r1⟩ := trodAll_cons r0
  obtain ⟨rfl, rfl, rfl⟩ := trodAll_nil r1
  obtain rfl : args = #[v0, v1] := by cases args; simp_all
  obtain ⟨rfl, rfl⟩ := trodVars_none hV
  have k0 := h0
  have lt0 : ∀ x ∈ p0, x.block < W.heap.size := by obtain ⟨m, hm⟩ := k0; exact DataW.trod_lt m _ _ _ hm
  obtain ⟨b0, rfl, w0⟩ := Book.open_book (hval 0 40 v0 rfl rfl) h0
  obtain ⟨a1, rfl, rfl, rfl, w1⟩ := open_int Try.underlying3 (hval 1 3 v1 rfl rfl) h1
  clear hA0 hval0
  refine (walk b0 a1 W w0 w1).mono fun e W' ⟨he, bel⟩ => ?_
  subst he
  exact ⟨_, rfl, _, _, _, [], _, [], hW', trodAll_mk1 (shut_bool Try.underlying4 _), (trodAll_cons_mk (Below.trod laidOut (by kernel_rfl) (of_decide_eq_true (by kernel_rfl)) k0 bel lt0) (trodAll_cons_mk (shut_int Try.underlying3 w1) trodAll_mk0)), rfl, bel.frame _, fun h => by cases h⟩

theorem over : Rows.fnExactBookOfRow.holds Try.pinned (OpenSpec.ofChange Rows.fnExactBookOfSpec) :=
  OpenClaim.holds_of_wide 9 Try.f9 rfl rfl rfl rfl rfl rfl rfl ⟨rfl, rfl, rfl, rfl, rfl⟩ rfl rfl rfl rfl rfl (by kernel_rfl) Try.func9 (by kernel_rfl)
    (of_decide_eq_true (by kernel_rfl)) (by unfold Func.isWrapper; first | (rw [if_pos (by decide +kernel)]; kernel_rfl) | (rw [if_neg (by decide +kernel)]; exact ⟨rfl, rfl⟩))
    (fun os started H enc _ => lifted os started H enc)

end Go.Proofs.Ytoloaghjgheomaa.fnExactBookOf
namespace Go.Proofs.Ytoloaghjgheomaa
theorem fnExactBookOf_holds : Rows.FnExactBookOfSaid := fnExactBookOf.over
#print axioms fnExactBookOf_holds
end Go.Proofs.Ytoloaghjgheomaa

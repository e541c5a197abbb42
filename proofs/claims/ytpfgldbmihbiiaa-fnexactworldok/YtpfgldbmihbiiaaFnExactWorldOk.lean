/- Of every world (a list of words, and a list of guests with their lists), the program's WorldOk says what the specification's says, and turns nothing of the world. Conditions: none. -/
import Derived.Test.YtpfgldbmihbiiaaRows
import Derived.Test.YtpfgldbmihbiiaaAid
import Derived.Test.YtpfgldbmihbiiaaLst
import Derived.Test.YtpfgldbmihbiiaaBk
import Derived.Test.YtpfgldbmihbiiaaCell
import Derived.Test.YtpfgldbmihbiiaaPlat
import Derived.Test.YtpfgldbmihbiiaaPlat2
import Derived.Test.YtpfgldbmihbiiaaRw
import Derived.Test.YtpfgldbmihbiiaaGx
import Derived.Test.YtpfgldbmihbiiaaGst
import Derived.Test.YtpfgldbmihbiiaaGok3
import Derived.Test.YtpfgldbmihbiiaaGok4
import Derived.Test.YtpfgldbmihbiiaaGokA
import Derived.Test.YtpfgldbmihbiiaaGokB
import Derived.Test.YtpfgldbmihbiiaaGokC
import Derived.Test.YtpfgldbmihbiiaaBk2
import Derived.Test.YtpfgldbmihbiiaaBk3
import Derived.Test.YtpfgldbmihbiiaaOpenBk
import Derived.Test.YtpfgldbmihbiiaaLaw
import Derived.Test.YtpfgldbmihbiiaaGokD
import Derived.Test.YtpfgldbmihbiiaaGokE
import Derived.Test.YtpfgldbmihbiiaaGok2
import Derived.Test.YtpfgldbmihbiiaaCb13w
import Derived.Test.YtpfgldbmihbiiaaGok5
import Derived.Test.YtpfgldbmihbiiaaGok6
import Derived.Test.YtpfgldbmihbiiaaSeek
import Derived.Test.YtpfgldbmihbiiaaCheck
import Derived.Test.YtpfgldbmihbiiaaDoor
import Derived.Test.YtpfgldbmihbiiaaSpec
import Derived.Test.YtpfgldbmihbiiaaFmt
import Derived.Test.YtpfgldbmihbiiaaSCheck
import Derived.Test.YtpfgldbmihbiiaaChk
import Derived.Test.YtpfgldbmihbiiaaTw
import Derived.Test.YtpfgldbmihbiiaaTg
import Derived.Test.YtpfgldbmihbiiaaGop
import Derived.Test.YtpfgldbmihbiiaaWx
import Derived.Test.YtpfgldbmihbiiaaTgs
import Derived.Test.YtpfgldbmihbiiaaTgw
import Derived.Test.YtpfgldbmihbiiaaEqg
import Derived.Test.YtpfgldbmihbiiaaEqgs
import Derived.Test.YtpfgldbmihbiiaaWok
import Derived.Test.YtpfgldbmihbiiaaSwok
import Derived.Test.YtpfgldbmihbiiaaWsz
import Derived.Test.YtpfgldbmihbiiaaWsz2
import Derived.Test.YtpfgldbmihbiiaaOf
import Derived.Test.YtpfgldbmihbiiaaLawWok
import Derived.WalkKit
import Derived.ProofKit
import Derived.OpenShut
import Derived.ShutString
import Derived.ChangeOld
import Derived.Below
import Derived.Lib.SmallJoins
namespace Go.Proofs.Ytpfgldbmihbiiaa.fnExactWorldOk
open Go.ChangeShapes Go.WideShapes Go.ChangeAt Go.RowKit
open Go.Proofs.Ytpfgldbmihbiiaa.Aid
open Go.Proofs.Ytpfgldbmihbiiaa.Book
open Go.Proofs.Ytpfgldbmihbiiaa.Lst
open Go.Proofs.Ytpfgldbmihbiiaa.Plat
open Go.Proofs.Ytpfgldbmihbiiaa.Words
open Go.ChangeMaps (open_string shut_string)
set_option linter.unusedVariables false

theorem own : ownKnob Try.prog.godebug = none := by kernel_rfl
theorem laidOut : laidOutB Try.prog = true := by kernel_rfl

set_option maxRecDepth 100000 in
set_option maxHeartbeats 4000000 in
theorem walk (x0 : Gs.Wx) (w : World) (w0 : x0.Good w) :
    Calls Try.prog 3 #[.agg x0.cells.toArray] w fun e w' => e = .returned (.bool true) ∧ Below w.heap.size w w' := by
  exact Gs.law_wok x0 w w0

set_option maxRecDepth 100000 in
theorem lifted (os : Os) (started : os.Started) (H : Type) (enc : TypeId × Value → H) :
    ReturnsInHanded {} Try.checked os 3 .any (Rows.fnExactWorldOkSpec.pre6 enc Try.prog Try.f3 Rows.fnExactWorldOkRow.domain false) (Rows.fnExactWorldOkSpec.post enc Try.prog Try.f3 false true false false) := by
  refine returnsInHanded_of_change (C := Try.checked) own started (by kernel_rfl) Try.func3
    (ChangeSpec.witness6 (enc := enc) (C := Try.checked) false ⟨#[], #[.agg #[.slice none 0 0, .slice none 0 0]], []⟩ 8 (by kernel_rfl) (by kernel_rfl) (by kernel_rfl) (by kernel_rfl)) ?_
  intro W base args ds gs before hval0 hW hcnd _
  have hval : ∀ (j : Nat) t v, Try.f3.params[j]? = some t → args[j]? = some v → Value.okWide Try.prog W .any base t v := hval0
  have hW' := hW
  obtain ⟨p, q, hA0, hV, rfl, hfz, hnd⟩ := hW
  have hA : DataW.TrodAll enc Try.prog W 0 (fun _ => true) true Try.f3.params.toList args.toList ds p := hA0
  rw [Try.params3] at hA hval
  obtain ⟨v0, vs0, d0, ds0, p0, q0, hargs, rfl, rfl, h0, r0⟩ := trodAll_cons hA
  obtain ⟨rfl, rfl, rfl⟩ := trodAll_nil r0
  obtain rfl : args = #[v0] := by cases args; simp_all
  obtain ⟨rfl, rfl⟩ := trodVars_none hV
  have k0 := h0
  have lt0 : ∀ x ∈ p0, x.block < W.heap.size := by obtain ⟨m, hm⟩ := k0; exact DataW.trod_lt m _ _ _ hm
  obtain ⟨x0, rfl, w0⟩ := Gs.open_world (hval 0 25 v0 rfl rfl) h0
  clear hA0 hval0
  refine (walk x0 W w0).mono fun e W' ⟨he, bel⟩ => ?_
  subst he
  exact ⟨_, rfl, _, _, _, [], _, [], hW', trodAll_mk1 (shut_bool Try.underlying4 _), (trodAll_cons_mk (Below.trod laidOut (by kernel_rfl) (of_decide_eq_true (by kernel_rfl)) k0 bel lt0) trodAll_mk0), rfl, bel.frame _, fun h => by cases h⟩

theorem over : Rows.fnExactWorldOkRow.holds Try.pinned (OpenSpec.ofChange Rows.fnExactWorldOkSpec) :=
  OpenClaim.holds_of_wide 3 Try.f3 rfl rfl rfl rfl rfl rfl rfl ⟨rfl, rfl, rfl, rfl, rfl⟩ rfl rfl rfl rfl rfl (by kernel_rfl) Try.func3 (by kernel_rfl)
    (of_decide_eq_true (by kernel_rfl)) (by unfold Func.isWrapper; first | (rw [if_pos (by decide +kernel)]; kernel_rfl) | (rw [if_neg (by decide +kernel)]; exact ⟨rfl, rfl⟩))
    (fun os started H enc _ => lifted os started H enc)

end Go.Proofs.Ytpfgldbmihbiiaa.fnExactWorldOk
namespace Go.Proofs.Ytpfgldbmihbiiaa
theorem fnExactWorldOk_holds : Rows.FnExactWorldOkSaid := fnExactWorldOk.over
#print axioms fnExactWorldOk_holds
end Go.Proofs.Ytpfgldbmihbiiaa

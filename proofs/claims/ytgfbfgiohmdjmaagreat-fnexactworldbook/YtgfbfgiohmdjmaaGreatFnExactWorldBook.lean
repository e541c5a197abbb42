/- Of every world (a list of words, and a list of guests with their lists), the program's WorldBook answers the book and the bool that the specification's does, the book in new memory of its own, and turns nothing of the world. Conditions: none. -/
import Derived.Test.YtgfbfgiohmdjmaaGreatRows
import Derived.Test.YtgfbfgiohmdjmaaGreatM1
import Derived.Test.YtgfbfgiohmdjmaaGreatM2
import Derived.Test.YtgfbfgiohmdjmaaGreatM3
import Derived.Test.YtgfbfgiohmdjmaaGreatBk2
import Derived.Test.YtgfbfgiohmdjmaaGreatM4
import Derived.Test.YtgfbfgiohmdjmaaGreatGok3
import Derived.Test.YtgfbfgiohmdjmaaGreatGok4
import Derived.Test.YtgfbfgiohmdjmaaGreatM5
import Derived.Test.YtgfbfgiohmdjmaaGreatM6
import Derived.Test.YtgfbfgiohmdjmaaGreatGokD
import Derived.Test.YtgfbfgiohmdjmaaGreatGokE
import Derived.Test.YtgfbfgiohmdjmaaGreatGok2
import Derived.Test.YtgfbfgiohmdjmaaGreatM7
import Derived.Test.YtgfbfgiohmdjmaaGreatM8
import Derived.Test.YtgfbfgiohmdjmaaGreatCheck
import Derived.Test.YtgfbfgiohmdjmaaGreatM9
import Derived.Test.YtgfbfgiohmdjmaaGreatSCheck
import Derived.Test.YtgfbfgiohmdjmaaGreatM10
import Derived.Test.YtgfbfgiohmdjmaaGreatM11
import Derived.Test.YtgfbfgiohmdjmaaGreatSwok
import Derived.Test.YtgfbfgiohmdjmaaGreatM12
import Derived.Test.YtgfbfgiohmdjmaaGreatM13
import Derived.Test.YtgfbfgiohmdjmaaGreatM14
import Derived.Test.YtgfbfgiohmdjmaaGreatM15
import Derived.Test.YtgfbfgiohmdjmaaGreatSame
import Derived.Test.YtgfbfgiohmdjmaaGreatM16
import Derived.Test.YtgfbfgiohmdjmaaGreatM17
import Derived.Test.YtgfbfgiohmdjmaaGreatM18
import Derived.Test.YtgfbfgiohmdjmaaGreatM19
import Derived.Test.YtgfbfgiohmdjmaaGreatLay2
import Derived.Test.YtgfbfgiohmdjmaaGreatM20
import Derived.Test.YtgfbfgiohmdjmaaGreatM21
import Derived.Test.YtgfbfgiohmdjmaaGreatLay9
import Derived.Test.YtgfbfgiohmdjmaaGreatM22
import Derived.Test.YtgfbfgiohmdjmaaGreatM23
import Derived.Test.YtgfbfgiohmdjmaaGreatSOpen
import Derived.Test.YtgfbfgiohmdjmaaGreatNin
import Derived.Test.YtgfbfgiohmdjmaaGreatCb2
import Derived.Test.YtgfbfgiohmdjmaaGreatCb3
import Derived.Test.YtgfbfgiohmdjmaaGreatCb4
import Derived.Test.YtgfbfgiohmdjmaaGreatCb5
import Derived.Test.YtgfbfgiohmdjmaaGreatM24
import Derived.Test.YtgfbfgiohmdjmaaGreatCb8
import Derived.Test.YtgfbfgiohmdjmaaGreatCb9
import Derived.Test.YtgfbfgiohmdjmaaGreatCb10
import Derived.Test.YtgfbfgiohmdjmaaGreatM25
import Derived.Test.YtgfbfgiohmdjmaaGreatIOpen2
import Derived.Test.YtgfbfgiohmdjmaaGreatM26
import Derived.Test.YtgfbfgiohmdjmaaGreatCb13
import Derived.Test.YtgfbfgiohmdjmaaGreatCb14
import Derived.Test.YtgfbfgiohmdjmaaGreatDone2
import Derived.Test.YtgfbfgiohmdjmaaGreatM27
import Derived.Test.YtgfbfgiohmdjmaaGreatM28
import Derived.Test.YtgfbfgiohmdjmaaGreatM29
import Derived.Test.YtgfbfgiohmdjmaaGreatLawWb
import Derived.WalkKit
import Derived.ProofKit
import Derived.OpenShut
import Derived.ShutString
import Derived.ChangeOld
import Derived.Below
import Derived.Lib.SmallJoins
namespace Go.Proofs.YtgfbfgiohmdjmaaGreat.fnExactWorldBook
open Go.ChangeShapes Go.WideShapes Go.ChangeAt Go.RowKit
open Go.Proofs.YtgfbfgiohmdjmaaGreat.Aid
open Go.Proofs.YtgfbfgiohmdjmaaGreat.Book
open Go.Proofs.YtgfbfgiohmdjmaaGreat.Lst
open Go.Proofs.YtgfbfgiohmdjmaaGreat.Plat
open Go.Proofs.YtgfbfgiohmdjmaaGreat.Words
open Go.ChangeMaps (open_string shut_string)
set_option linter.unusedVariables false

theorem own : ownKnob Tryz.prog.godebug = none := by kernel_rfl
theorem laidOut : laidOutB Tryz.prog = true := by kernel_rfl

set_option maxRecDepth 100000 in
set_option maxHeartbeats 4000000 in
theorem walk (x0 : Gs.Wx) (w : World) (w0 : x0.Good w) :
    Calls Tryz.prog 3 #[.agg x0.cells.toArray] w fun e w' => e = .returned (.bool true) ∧ Below w.heap.size w w' := by
  exact Gs.law_wb x0 w w0

set_option maxRecDepth 100000 in
theorem lifted (os : Os) (started : os.Started) (H : Type) (enc : TypeId × Value → H) :
    ReturnsInHanded {} Tryz.checked os 3 .any (Rows.fnExactWorldBookSpec.pre6 enc Tryz.prog Tryz.f3 Rows.fnExactWorldBookRow.domain false) (Rows.fnExactWorldBookSpec.post enc Tryz.prog Tryz.f3 false true false false) := by
  refine returnsInHanded_of_change (C := Tryz.checked) own started (by kernel_rfl) Tryz.func3
    (ChangeSpec.witness6 (enc := enc) (C := Tryz.checked) false ⟨#[], #[.agg #[.slice none 0 0, .slice none 0 0]], []⟩ 8 (by kernel_rfl) (by kernel_rfl) (by kernel_rfl) (by kernel_rfl)) ?_
  intro W base args ds gs before hval0 hW hcnd _
  have hval : ∀ (j : Nat) t v, Tryz.f3.params[j]? = some t → args[j]? = some v → Value.okWide Tryz.prog W .any base t v := hval0
  have hW' := hW
  obtain ⟨p, q, hA0, hV, rfl, hfz, hnd⟩ := hW
  have hA : DataW.TrodAll enc Tryz.prog W 0 (fun _ => true) true Tryz.f3.params.toList args.toList ds p := hA0
  rw [Tryz.params3] at hA hval
  obtain ⟨v0, vs0, d0, ds0, p0, q0, hargs, rfl, rfl, h0, r0⟩ := trodAll_cons hA
  obtain ⟨rfl, rfl, rfl⟩ := trodAll_nil r0
  obtain rfl : args = #[v0] := by cases args; simp_all
  obtain ⟨rfl, rfl⟩ := trodVars_none hV
  have k0 := h0
  have lt0 : ∀ x ∈ p0, x.block < W.heap.size := by obtain ⟨m, hm⟩ := k0; exact DataW.trod_lt m _ _ _ hm
  obtain ⟨x0, rfl, w0⟩ := Gs.open_world (hval 0 25 v0 rfl rfl) h0
  clear hA0 hval0
  refine (walk x0 W w0).mono fun e W' ⟨he, bel⟩ => ?_
  subst he
  exact ⟨_, rfl, _, _, _, [], _, [], hW', trodAll_mk1 (shut_bool Tryz.underlying4 _), (trodAll_cons_mk (Below.trod laidOut (by kernel_rfl) (of_decide_eq_true (by kernel_rfl)) k0 bel lt0) trodAll_mk0), rfl, bel.frame _, fun h => by cases h⟩

theorem over : Rows.fnExactWorldBookRow.holds Tryz.pinned (OpenSpec.ofChange Rows.fnExactWorldBookSpec) :=
  OpenClaim.holds_of_wide 3 Tryz.f3 rfl rfl rfl rfl rfl rfl rfl ⟨rfl, rfl, rfl, rfl, rfl⟩ rfl rfl rfl rfl rfl (by kernel_rfl) Tryz.func3 (by kernel_rfl)
    (of_decide_eq_true (by kernel_rfl)) (by unfold Func.isWrapper; first | (rw [if_pos (by decide +kernel)]; kernel_rfl) | (rw [if_neg (by decide +kernel)]; exact ⟨rfl, rfl⟩))
    (fun os started H enc _ => lifted os started H enc)

end Go.Proofs.YtgfbfgiohmdjmaaGreat.fnExactWorldBook
namespace Go.Proofs.YtgfbfgiohmdjmaaGreat
theorem fnExactWorldBook_holds : Rows.FnExactWorldBookSaid := fnExactWorldBook.over
#print axioms fnExactWorldBook_holds
end Go.Proofs.YtgfbfgiohmdjmaaGreat

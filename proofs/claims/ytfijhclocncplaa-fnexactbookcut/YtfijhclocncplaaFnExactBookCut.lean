/- Of every book (any numbers in lists of any lengths) and every int, the program's BookCut answers the book that the specification's does, in new memory of its own, and what was handed to it is as it was. Conditions: none. -/
import Derived.Test.YtfijhclocncplaaRows
import Derived.Test.YtfijhclocncplaaAid
import Derived.Test.YtfijhclocncplaaLst
import Derived.Test.YtfijhclocncplaaKind
import Derived.Test.YtfijhclocncplaaBk
import Derived.Test.YtfijhclocncplaaBk2
import Derived.Test.YtfijhclocncplaaBk3
import Derived.Test.YtfijhclocncplaaOpenBk
import Derived.Test.YtfijhclocncplaaLaw
import Derived.Test.YtfijhclocncplaaSame
import Derived.Test.YtfijhclocncplaaOk1
import Derived.Test.YtfijhclocncplaaOk2
import Derived.Test.YtfijhclocncplaaOk3
import Derived.Test.YtfijhclocncplaaOk4
import Derived.Test.YtfijhclocncplaaOk5
import Derived.Test.YtfijhclocncplaaOk6
import Derived.Test.YtfijhclocncplaaOk7
import Derived.Test.YtfijhclocncplaaIm1
import Derived.Test.YtfijhclocncplaaIm2
import Derived.Test.YtfijhclocncplaaIm3
import Derived.Test.YtfijhclocncplaaIm4
import Derived.Test.YtfijhclocncplaaIm5
import Derived.Test.YtfijhclocncplaaMt
import Derived.Test.YtfijhclocncplaaIm6
import Derived.Test.YtfijhclocncplaaNorm
import Derived.Test.YtfijhclocncplaaRoom
import Derived.Test.YtfijhclocncplaaBk4
import Derived.Test.YtfijhclocncplaaBk5
import Derived.Test.YtfijhclocncplaaInv
import Derived.Test.YtfijhclocncplaaCpy
import Derived.Test.YtfijhclocncplaaCpy2
import Derived.Test.YtfijhclocncplaaCpy3
import Derived.Test.YtfijhclocncplaaWr
import Derived.Test.YtfijhclocncplaaCut
import Derived.Test.YtfijhclocncplaaCut2
import Derived.Test.YtfijhclocncplaaLawCut
import Derived.WalkKit
import Derived.ProofKit
import Derived.OpenShut
import Derived.ShutString
import Derived.ChangeOld
import Derived.Below
import Derived.Lib.SmallJoins
namespace Go.Proofs.Ytfijhclocncplaa.fnExactBookCut
open Go.ChangeShapes Go.WideShapes Go.ChangeAt Go.RowKit
open Go.Proofs.Ytfijhclocncplaa.Aid
open Go.Proofs.Ytfijhclocncplaa.Book
open Go.Proofs.Ytfijhclocncplaa.Lst
open Go.ChangeMaps (open_string shut_string)
set_option linter.unusedVariables false

theorem own : ownKnob Try.prog.godebug = none := by kernel_rfl
theorem laidOut : laidOutB Try.prog = true := by kernel_rfl

set_option maxRecDepth 100000 in
set_option maxHeartbeats 4000000 in
theorem walk (b0 : Book.Bx) (a1 : Int) (w : World) (w0 : b0.Good w) (w1 : (Lit.int .i64 a1).wf = true) :
    Calls Try.prog 6 #[.agg b0.cells.toArray, .int .i64 a1] w fun e w' => e = .returned (.bool true) ∧ Below w.heap.size w w' := by
  exact Book.law_cut b0 a1 w w0

set_option maxRecDepth 100000 in
theorem lifted (os : Os) (started : os.Started) (H : Type) (enc : TypeId × Value → H) :
    ReturnsInHanded {} Try.checked os 6 .any (Rows.fnExactBookCutSpec.pre6 enc Try.prog Try.f6 Rows.fnExactBookCutRow.domain false) (Rows.fnExactBookCutSpec.post enc Try.prog Try.f6 false true false false) := by
  refine returnsInHanded_of_change (C := Try.checked) own started (by kernel_rfl) Try.func6
    (ChangeSpec.witness6 (enc := enc) (C := Try.checked) false ⟨#[], #[.agg #[.int .i64 0, .slice none 0 0, .slice none 0 0, .slice none 0 0, .slice none 0 0, .slice none 0 0, .slice none 0 0, .slice none 0 0, .slice none 0 0], .int .i64 0], []⟩ 8 (by kernel_rfl) (by kernel_rfl) (by kernel_rfl) (by kernel_rfl)) ?_
  intro W base args ds gs before hval0 hW hcnd _
  have hval : ∀ (j : Nat) t v, Try.f6.params[j]? = some t → args[j]? = some v → Value.okWide Try.prog W .any base t v := hval0
  have hW' := hW
  obtain ⟨p, q, hA0, hV, rfl, hfz, hnd⟩ := hW
  have hA : DataW.TrodAll enc Try.prog W 0 (fun _ => true) true Try.f6.params.toList args.toList ds p := hA0
  rw [Try.params6] at hA hval
  obtain ⟨v0, vs0, d0, ds0, p0, q0, hargs, rfl, rfl, h0, r0⟩ := trodAll_cons hA
  obtain ⟨v1, vs1, d1, ds1, p1, q1, rfl, rfl, rfl, h1, r1⟩ := trodAll_cons r0
  obtain ⟨rfl, rfl, rfl⟩ := trodAll_nil r1
  obtain rfl : args = #[v0, v1] := by cases args; simp_all
  obtain ⟨rfl, rfl⟩ := trodVars_none hV
  have k0 := h0
  have lt0 : ∀ x ∈ p0, x.block < W.heap.size := by obtain ⟨m, hm⟩ := k0; exact DataW.trod_lt m _ _ _ hm
  obtain ⟨b0, rfl, w0⟩ := Book.open_book (hval 0 47 v0 rfl rfl) h0
  obtain ⟨a1, rfl, rfl, rfl, w1⟩ := open_int Try.underlying3 (hval 1 3 v1 rfl rfl) h1
  clear hA0 hval0
  refine (walk b0 a1 W w0 w1).mono fun e W' ⟨he, bel⟩ => ?_
  subst he
  exact ⟨_, rfl, _, _, _, [], _, [], hW', trodAll_mk1 (shut_bool Try.underlying4 _), (trodAll_cons_mk (Below.trod laidOut (by kernel_rfl) (of_decide_eq_true (by kernel_rfl)) k0 bel lt0) (trodAll_cons_mk (shut_int Try.underlying3 w1) trodAll_mk0)), rfl, bel.frame _, fun h => by cases h⟩

theorem over : Rows.fnExactBookCutRow.holds Try.pinned (OpenSpec.ofChange Rows.fnExactBookCutSpec) :=
  OpenClaim.holds_of_wide 6 Try.f6 rfl rfl rfl rfl rfl rfl rfl ⟨rfl, rfl, rfl, rfl, rfl⟩ rfl rfl rfl rfl rfl (by kernel_rfl) Try.func6 (by kernel_rfl)
    (of_decide_eq_true (by kernel_rfl)) (by unfold Func.isWrapper; first | (rw [if_pos (by decide +kernel)]; kernel_rfl) | (rw [if_neg (by decide +kernel)]; exact ⟨rfl, rfl⟩))
    (fun os started H enc _ => lifted os started H enc)

end Go.Proofs.Ytfijhclocncplaa.fnExactBookCut
namespace Go.Proofs.Ytfijhclocncplaa
theorem fnExactBookCut_holds : Rows.FnExactBookCutSaid := fnExactBookCut.over
#print axioms fnExactBookCut_holds
end Go.Proofs.Ytfijhclocncplaa

/- Of every list of what has happened (items of a tale), and every number of a guest, the program's TaleOf answers the items that the specification's does, in new memory of its own, and turns nothing of the list. Conditions: none. -/
import Derived.Test.YtpfgldbmihbiiaaRows
import Derived.Test.YtpfgldbmihbiiaaAid
import Derived.Test.YtpfgldbmihbiiaaLst
import Derived.Test.YtpfgldbmihbiiaaBk
import Derived.Test.YtpfgldbmihbiiaaBk2
import Derived.Test.YtpfgldbmihbiiaaTw
import Derived.Test.YtpfgldbmihbiiaaRw
import Derived.Test.YtpfgldbmihbiiaaBk3
import Derived.Test.YtpfgldbmihbiiaaOpenBk
import Derived.Test.YtpfgldbmihbiiaaLaw
import Derived.Test.YtpfgldbmihbiiaaTi
import Derived.Test.YtpfgldbmihbiiaaTi2
import Derived.Test.YtpfgldbmihbiiaaTi3
import Derived.Test.YtpfgldbmihbiiaaTi4
import Derived.Test.YtpfgldbmihbiiaaTi5
import Derived.Test.YtpfgldbmihbiiaaTi6
import Derived.Test.YtpfgldbmihbiiaaTi7
import Derived.Test.YtpfgldbmihbiiaaLawTi
import Derived.WalkKit
import Derived.ProofKit
import Derived.OpenShut
import Derived.ShutString
import Derived.ChangeOld
import Derived.Below
import Derived.Lib.SmallJoins
namespace Go.Proofs.Ytpfgldbmihbiiaa.fnExactTaleOf
open Go.ChangeShapes Go.WideShapes Go.ChangeAt Go.RowKit
open Go.Proofs.Ytpfgldbmihbiiaa.Aid
open Go.Proofs.Ytpfgldbmihbiiaa.Book
open Go.Proofs.Ytpfgldbmihbiiaa.Lst
open Go.ChangeMaps (open_string shut_string)
set_option linter.unusedVariables false

theorem own : ownKnob Try.prog.godebug = none := by kernel_rfl
theorem laidOut : laidOutB Try.prog = true := by kernel_rfl

set_option maxRecDepth 100000 in
set_option maxHeartbeats 4000000 in
theorem walk (a0 : Option Addr) (n0 c0 : Nat) (g0 : Nat → Ti.Tx) (a1 : Int) (w : World) (w0 : Ti.RowT w a0 n0 g0) (m0 : n0 ≤ maxLen) (w1 : (Lit.int .i64 a1).wf = true) :
    Calls Try.prog 4 #[.slice a0 n0 c0, .int .i64 a1] w fun e w' => e = .returned (.bool true) ∧ Below w.heap.size w w' := by
  exact Ti.law_of a0 n0 c0 g0 a1 w w0 m0

set_option maxRecDepth 100000 in
theorem lifted (os : Os) (started : os.Started) (H : Type) (enc : TypeId × Value → H) :
    ReturnsInHanded {} Try.checked os 4 .any (Rows.fnExactTaleOfSpec.pre6 enc Try.prog Try.f4 Rows.fnExactTaleOfRow.domain false) (Rows.fnExactTaleOfSpec.post enc Try.prog Try.f4 false true false false) := by
  refine returnsInHanded_of_change (C := Try.checked) own started (by kernel_rfl) Try.func4
    (ChangeSpec.witness6 (enc := enc) (C := Try.checked) false ⟨#[], #[.slice none 0 0, .int .i64 0], []⟩ 8 (by kernel_rfl) (by kernel_rfl) (by kernel_rfl) (by kernel_rfl)) ?_
  intro W base args ds gs before hval0 hW hcnd _
  have hval : ∀ (j : Nat) t v, Try.f4.params[j]? = some t → args[j]? = some v → Value.okWide Try.prog W .any base t v := hval0
  have hW' := hW
  obtain ⟨p, q, hA0, hV, rfl, hfz, hnd⟩ := hW
  have hA : DataW.TrodAll enc Try.prog W 0 (fun _ => true) true Try.f4.params.toList args.toList ds p := hA0
  rw [Try.params4] at hA hval
  obtain ⟨v0, vs0, d0, ds0, p0, q0, hargs, rfl, rfl, h0, r0⟩ := trodAll_cons hA
  obtain ⟨v1, vs1, d1, ds1, p1, q1, rfl, rfl, rfl, h1, r1⟩ := trodAll_cons r0
  obtain ⟨rfl, rfl, rfl⟩ := trodAll_nil r1
  obtain rfl : args = #[v0, v1] := by cases args; simp_all
  obtain ⟨rfl, rfl⟩ := trodVars_none hV
  have k0 := h0
  have lt0 : ∀ x ∈ p0, x.block < W.heap.size := by obtain ⟨m, hm⟩ := k0; exact DataW.trod_lt m _ _ _ hm
  obtain ⟨a0, n0, c0, g0, rfl, w0, m0⟩ := Ti.open_items (hval 0 34 v0 rfl rfl) h0
  obtain ⟨a1, rfl, rfl, rfl, w1⟩ := open_int Try.underlying3 (hval 1 3 v1 rfl rfl) h1
  clear hA0 hval0
  refine (walk a0 n0 c0 g0 a1 W w0 m0 w1).mono fun e W' ⟨he, bel⟩ => ?_
  subst he
  exact ⟨_, rfl, _, _, _, [], _, [], hW', trodAll_mk1 (shut_bool Try.underlying4 _), (trodAll_cons_mk (Below.trod laidOut (by kernel_rfl) (of_decide_eq_true (by kernel_rfl)) k0 bel lt0) (trodAll_cons_mk (shut_int Try.underlying3 w1) trodAll_mk0)), rfl, bel.frame _, fun h => by cases h⟩

theorem over : Rows.fnExactTaleOfRow.holds Try.pinned (OpenSpec.ofChange Rows.fnExactTaleOfSpec) :=
  OpenClaim.holds_of_wide 4 Try.f4 rfl rfl rfl rfl rfl rfl rfl ⟨rfl, rfl, rfl, rfl, rfl⟩ rfl rfl rfl rfl rfl (by kernel_rfl) Try.func4 (by kernel_rfl)
    (of_decide_eq_true (by kernel_rfl)) (by unfold Func.isWrapper; first | (rw [if_pos (by decide +kernel)]; kernel_rfl) | (rw [if_neg (by decide +kernel)]; exact ⟨rfl, rfl⟩))
    (fun os started H enc _ => lifted os started H enc)

end Go.Proofs.Ytpfgldbmihbiiaa.fnExactTaleOf
namespace Go.Proofs.Ytpfgldbmihbiiaa
theorem fnExactTaleOf_holds : Rows.FnExactTaleOfSaid := fnExactTaleOf.over
#print axioms fnExactTaleOf_holds
end Go.Proofs.Ytpfgldbmihbiiaa

/- Of every list of words, the program's CensBook answers the book and the bool that the specification's does, the book in new memory of its own, and turns nothing of the list. Conditions: none. -/
import Derived.Test.YtipbijcmpbefpaaRows
import Derived.Test.YtipbijcmpbefpaaM1
import Derived.Test.YtipbijcmpbefpaaM2
import Derived.Test.YtipbijcmpbefpaaM3
import Derived.Test.YtipbijcmpbefpaaM4
import Derived.Test.YtipbijcmpbefpaaM5
import Derived.Test.YtipbijcmpbefpaaM6
import Derived.Test.YtipbijcmpbefpaaM7
import Derived.Test.YtipbijcmpbefpaaM8
import Derived.Test.YtipbijcmpbefpaaLay1
import Derived.Test.YtipbijcmpbefpaaM9
import Derived.Test.YtipbijcmpbefpaaLay2
import Derived.Test.YtipbijcmpbefpaaM10
import Derived.Test.YtipbijcmpbefpaaM11
import Derived.Test.YtipbijcmpbefpaaM12
import Derived.Test.YtipbijcmpbefpaaLay9
import Derived.Test.YtipbijcmpbefpaaM13
import Derived.Test.YtipbijcmpbefpaaM14
import Derived.Test.YtipbijcmpbefpaaM15
import Derived.Test.YtipbijcmpbefpaaM16
import Derived.Test.YtipbijcmpbefpaaSOpen
import Derived.Test.YtipbijcmpbefpaaM17
import Derived.Test.YtipbijcmpbefpaaCb2
import Derived.Test.YtipbijcmpbefpaaM18
import Derived.Test.YtipbijcmpbefpaaCb5
import Derived.Test.YtipbijcmpbefpaaM19
import Derived.Test.YtipbijcmpbefpaaCb8
import Derived.Test.YtipbijcmpbefpaaCb9
import Derived.Test.YtipbijcmpbefpaaCb10
import Derived.Test.YtipbijcmpbefpaaCb11
import Derived.Test.YtipbijcmpbefpaaCb12
import Derived.Test.YtipbijcmpbefpaaIOpen2
import Derived.Test.YtipbijcmpbefpaaM20
import Derived.Test.YtipbijcmpbefpaaCb13
import Derived.Test.YtipbijcmpbefpaaCb14
import Derived.Test.YtipbijcmpbefpaaLawCb
import Derived.WalkKit
import Derived.ProofKit
import Derived.OpenShut
import Derived.ShutString
import Derived.ChangeOld
import Derived.Below
import Derived.Lib.SmallJoins
namespace Go.Proofs.Ytipbijcmpbefpaa.fnExactCensBook
open Go.ChangeShapes Go.WideShapes Go.ChangeAt Go.RowKit
open Go.Proofs.Ytipbijcmpbefpaa.Aid
open Go.Proofs.Ytipbijcmpbefpaa.Book
open Go.Proofs.Ytipbijcmpbefpaa.Lst
open Go.Proofs.Ytipbijcmpbefpaa.Plat
open Go.Proofs.Ytipbijcmpbefpaa.Words
open Go.ChangeMaps (open_string shut_string)
set_option linter.unusedVariables false

theorem own : ownKnob Try.prog.godebug = none := by kernel_rfl
theorem laidOut : laidOutB Try.prog = true := by kernel_rfl

def IsRow (k : IntKind) (w : World) (a : Option Addr) (len cap : Nat) (zs : List Int) : Prop :=
  (a = none ∧ len = 0 ∧ cap = 0 ∧ zs = []) ∨
  ∃ x, a = some x ∧ len ≤ cap ∧ cap ≤ maxLen ∧ zs.length = cap ∧ (∀ i, i < zs.length → w.cell? (x.add i) = some (.int k (zs.getD i 0))) ∧ ∀ n ∈ zs, (Lit.int k n).wf = true

set_option maxRecDepth 100000 in
set_option maxHeartbeats 4000000 in
theorem walk (a0 : Option Addr) (len0 cap0 : Nat) (z0 : List Int) (w : World) (w0 : IsRow .u64 w a0 len0 cap0 z0) :
    Calls Try.prog 5 #[.slice a0 len0 cap0] w fun e w' => e = .returned (.bool true) ∧ Below w.heap.size w w' := by
  obtain ⟨hs, hm, hw⟩ := Lst.sl_of w0
  clear w0
  have hwf : ∀ j, 0 ≤ z0.getD j 0 ∧ z0.getD j 0 < 18446744073709551616 := fun j => wf64 (hw j)
  clear hw
  unfold maxLen at hm
  by_cases hlen : (1048576 : Int) < len0
  · go_enter Try.func5, Try.ntmps5
    go_wp2_with (fail)
    go_ret
    exact ⟨rfl, Below.refl _ _⟩
  · exact Book.law_cb a0 len0 cap0 _ w hs (by omega) hwf

set_option maxRecDepth 100000 in
theorem lifted (os : Os) (started : os.Started) (H : Type) (enc : TypeId × Value → H) :
    ReturnsInHanded {} Try.checked os 5 .any (Rows.fnExactCensBookSpec.pre6 enc Try.prog Try.f5 Rows.fnExactCensBookRow.domain false) (Rows.fnExactCensBookSpec.post enc Try.prog Try.f5 false true false false) := by
  refine returnsInHanded_of_change (C := Try.checked) own started (by kernel_rfl) Try.func5
    (ChangeSpec.witness6 (enc := enc) (C := Try.checked) false ⟨#[], #[.slice none 0 0], []⟩ 8 (by kernel_rfl) (by kernel_rfl) (by kernel_rfl) (by kernel_rfl)) ?_
  intro W base args ds gs before hval0 hW hcnd _
  have hval : ∀ (j : Nat) t v, Try.f5.params[j]? = some t → args[j]? = some v → Value.okWide Try.prog W .any base t v := hval0
  have hW' := hW
  obtain ⟨p, q, hA0, hV, rfl, hfz, hnd⟩ := hW
  have hA : DataW.TrodAll enc Try.prog W 0 (fun _ => true) true Try.f5.params.toList args.toList ds p := hA0
  rw [Try.params5] at hA hval
  obtain ⟨v0, vs0, d0, ds0, p0, q0, hargs, rfl, rfl, h0, r0⟩ := trodAll_cons hA
  obtain ⟨rfl, rfl, rfl⟩ := trodAll_nil r0
  obtain rfl : args = #[v0] := by cases args; simp_all
  obtain ⟨rfl, rfl⟩ := trodVars_none hV
  obtain ⟨a0, len0, cap0, rfl⟩ := okWide_slice Try.underlying45 (hval 0 45 v0 rfl rfl)
  have k0 := h0
  have lt0 : ∀ x ∈ p0, x.block < W.heap.size := by obtain ⟨m, hm⟩ := k0; exact DataW.trod_lt m _ _ _ hm
  obtain ⟨z0, w0⟩ : ∃ zs, IsRow .u64 W a0 len0 cap0 zs := by
    obtain ⟨fuel, hf⟩ := h0
    rcases open_ints Try.underlying45 Try.underlying79 (by kernel_rfl) hf with ⟨hcs, _⟩ | ⟨x, l, c, zs, hcs, _, hl, hm, hz, _, hcell, hwz⟩
    · simp [Value.cells] at hcs
      obtain ⟨rfl, rfl, rfl⟩ := hcs
      exact ⟨[], .inl ⟨rfl, rfl, rfl, rfl⟩⟩
    · simp [Value.cells] at hcs
      obtain ⟨rfl, rfl, rfl⟩ := hcs
      exact ⟨zs, .inr ⟨_, rfl, hl, hm, by simpa using hz, hcell, hwz⟩⟩
  clear hA0 hval0
  refine (walk a0 len0 cap0 z0 W w0).mono fun e W' ⟨he, bel⟩ => ?_
  subst he
  exact ⟨_, rfl, _, _, _, [], _, [], hW', trodAll_mk1 (shut_bool Try.underlying4 _), (trodAll_cons_mk (Below.trod laidOut (by kernel_rfl) (of_decide_eq_true (by kernel_rfl)) k0 bel lt0) trodAll_mk0), rfl, bel.frame _, fun h => by cases h⟩

theorem over : Rows.fnExactCensBookRow.holds Try.pinned (OpenSpec.ofChange Rows.fnExactCensBookSpec) :=
  OpenClaim.holds_of_wide 5 Try.f5 rfl rfl rfl rfl rfl rfl rfl ⟨rfl, rfl, rfl, rfl, rfl⟩ rfl rfl rfl rfl rfl (by kernel_rfl) Try.func5 (by kernel_rfl)
    (of_decide_eq_true (by kernel_rfl)) (by unfold Func.isWrapper; first | (rw [if_pos (by decide +kernel)]; kernel_rfl) | (rw [if_neg (by decide +kernel)]; exact ⟨rfl, rfl⟩))
    (fun os started H enc _ => lifted os started H enc)

end Go.Proofs.Ytipbijcmpbefpaa.fnExactCensBook
namespace Go.Proofs.Ytipbijcmpbefpaa
theorem fnExactCensBook_holds : Rows.FnExactCensBookSaid := fnExactCensBook.over
#print axioms fnExactCensBook_holds
end Go.Proofs.Ytipbijcmpbefpaa

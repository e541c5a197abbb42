/- Of every list of words, the program's CensTrue answers the book and the bool that the specification's does, the book in new memory of its own, and turns nothing of the list. Conditions: none. -/
import Derived.Test.YtipbijcmpbefpaaGreatRows
import Derived.Test.YtipbijcmpbefpaaGreatM1
import Derived.Test.YtipbijcmpbefpaaGreatM2
import Derived.Test.YtipbijcmpbefpaaGreatM3
import Derived.Test.YtipbijcmpbefpaaGreatM4
import Derived.Test.YtipbijcmpbefpaaGreatM5
import Derived.Test.YtipbijcmpbefpaaGreatM6
import Derived.Test.YtipbijcmpbefpaaGreatM7
import Derived.Test.YtipbijcmpbefpaaGreatM8
import Derived.Test.YtipbijcmpbefpaaGreatLay1
import Derived.Test.YtipbijcmpbefpaaGreatM9
import Derived.Test.YtipbijcmpbefpaaGreatLay2
import Derived.Test.YtipbijcmpbefpaaGreatM10
import Derived.Test.YtipbijcmpbefpaaGreatM11
import Derived.Test.YtipbijcmpbefpaaGreatM12
import Derived.Test.YtipbijcmpbefpaaGreatLay9
import Derived.Test.YtipbijcmpbefpaaGreatM13
import Derived.Test.YtipbijcmpbefpaaGreatM14
import Derived.Test.YtipbijcmpbefpaaGreatM15
import Derived.Test.YtipbijcmpbefpaaGreatM16
import Derived.Test.YtipbijcmpbefpaaGreatSOpen
import Derived.Test.YtipbijcmpbefpaaGreatNin
import Derived.Test.YtipbijcmpbefpaaGreatCb2
import Derived.Test.YtipbijcmpbefpaaGreatM17
import Derived.Test.YtipbijcmpbefpaaGreatCb5
import Derived.Test.YtipbijcmpbefpaaGreatM18
import Derived.Test.YtipbijcmpbefpaaGreatCb8
import Derived.Test.YtipbijcmpbefpaaGreatCb9
import Derived.Test.YtipbijcmpbefpaaGreatCb10
import Derived.Test.YtipbijcmpbefpaaGreatCb11
import Derived.Test.YtipbijcmpbefpaaGreatCb12
import Derived.Test.YtipbijcmpbefpaaGreatIOpen2
import Derived.Test.YtipbijcmpbefpaaGreatM19
import Derived.Test.YtipbijcmpbefpaaGreatCb13
import Derived.Test.YtipbijcmpbefpaaGreatCb14
import Derived.Test.YtipbijcmpbefpaaGreatM20
import Derived.Test.YtipbijcmpbefpaaGreatM21
import Derived.Test.YtipbijcmpbefpaaGreatCt
import Derived.Test.YtipbijcmpbefpaaGreatLawCt
import Derived.WalkKit
import Derived.ProofKit
import Derived.OpenShut
import Derived.ShutString
import Derived.ChangeOld
import Derived.Below
import Derived.Lib.SmallJoins
namespace Go.Proofs.YtipbijcmpbefpaaGreat.fnExactCensTrue
open Go.ChangeShapes Go.WideShapes Go.ChangeAt Go.RowKit
open Go.Proofs.YtipbijcmpbefpaaGreat.Aid
open Go.Proofs.YtipbijcmpbefpaaGreat.Book
open Go.Proofs.YtipbijcmpbefpaaGreat.Lst
open Go.Proofs.YtipbijcmpbefpaaGreat.Plat
open Go.Proofs.YtipbijcmpbefpaaGreat.Words
open Go.ChangeMaps (open_string shut_string)
set_option linter.unusedVariables false

theorem own : ownKnob Tryz.prog.godebug = none := by kernel_rfl
theorem laidOut : laidOutB Tryz.prog = true := by kernel_rfl

def IsRow (k : IntKind) (w : World) (a : Option Addr) (len cap : Nat) (zs : List Int) : Prop :=
  (a = none ∧ len = 0 ∧ cap = 0 ∧ zs = []) ∨
  ∃ x, a = some x ∧ len ≤ cap ∧ cap ≤ maxLen ∧ zs.length = cap ∧ (∀ i, i < zs.length → w.cell? (x.add i) = some (.int k (zs.getD i 0))) ∧ ∀ n ∈ zs, (Lit.int k n).wf = true

set_option maxRecDepth 100000 in
set_option maxHeartbeats 4000000 in
theorem walk (a0 : Option Addr) (len0 cap0 : Nat) (z0 : List Int) (w : World) (w0 : IsRow .u64 w a0 len0 cap0 z0) :
    Calls Tryz.prog 6 #[.slice a0 len0 cap0] w fun e w' => e = .returned (.bool true) ∧ Below w.heap.size w w' := by
  obtain ⟨hs, hm, hw⟩ := Lst.sl_of w0
  clear w0
  have hwf : ∀ j, 0 ≤ z0.getD j 0 ∧ z0.getD j 0 < 18446744073709551616 := fun j => wf64 (hw j)
  clear hw
  unfold maxLen at hm
  by_cases hlen : (1048576 : Int) < len0
  · go_enter Tryz.func6, Tryz.ntmps6
    go_wp2_with (fail)
    go_ret
    exact ⟨rfl, Below.refl _ _⟩
  · exact Book.law_ct a0 len0 cap0 _ w hs (by omega) hwf

set_option maxRecDepth 100000 in
theorem lifted (os : Os) (started : os.Started) (H : Type) (enc : TypeId × Value → H) :
    ReturnsInHanded {} Tryz.checked os 6 .any (Rows.fnExactCensTrueSpec.pre6 enc Tryz.prog Tryz.f6 Rows.fnExactCensTrueRow.domain false) (Rows.fnExactCensTrueSpec.post enc Tryz.prog Tryz.f6 false true false false) := by
  refine returnsInHanded_of_change (C := Tryz.checked) own started (by kernel_rfl) Tryz.func6
    (ChangeSpec.witness6 (enc := enc) (C := Tryz.checked) false ⟨#[], #[.slice none 0 0], []⟩ 8 (by kernel_rfl) (by kernel_rfl) (by kernel_rfl) (by kernel_rfl)) ?_
  intro W base args ds gs before hval0 hW hcnd _
  have hval : ∀ (j : Nat) t v, Tryz.f6.params[j]? = some t → args[j]? = some v → Value.okWide Tryz.prog W .any base t v := hval0
  have hW' := hW
  obtain ⟨p, q, hA0, hV, rfl, hfz, hnd⟩ := hW
  have hA : DataW.TrodAll enc Tryz.prog W 0 (fun _ => true) true Tryz.f6.params.toList args.toList ds p := hA0
  rw [Tryz.params6] at hA hval
  obtain ⟨v0, vs0, d0, ds0, p0, q0, hargs, rfl, rfl, h0, r0⟩ := trodAll_cons hA
  obtain ⟨rfl, rfl, rfl⟩ := trodAll_nil r0
  obtain rfl : args = #[v0] := by cases args; simp_all
  obtain ⟨rfl, rfl⟩ := trodVars_none hV
  obtain ⟨a0, len0, cap0, rfl⟩ := okWide_slice Tryz.underlying34 (hval 0 34 v0 rfl rfl)
  have k0 := h0
  have lt0 : ∀ x ∈ p0, x.block < W.heap.size := by obtain ⟨m, hm⟩ := k0; exact DataW.trod_lt m _ _ _ hm
  obtain ⟨z0, w0⟩ : ∃ zs, IsRow .u64 W a0 len0 cap0 zs := by
    obtain ⟨fuel, hf⟩ := h0
    rcases open_ints Tryz.underlying34 Tryz.underlying44 (by kernel_rfl) hf with ⟨hcs, _⟩ | ⟨x, l, c, zs, hcs, _, hl, hm, hz, _, hcell, hwz⟩
    · simp [Value.cells] at hcs
      obtain ⟨rfl, rfl, rfl⟩ := hcs
      exact ⟨[], .inl ⟨rfl, rfl, rfl, rfl⟩⟩
    · simp [Value.cells] at hcs
      obtain ⟨rfl, rfl, rfl⟩ := hcs
      exact ⟨zs, .inr ⟨_, rfl, hl, hm, by simpa using hz, hcell, hwz⟩⟩
  clear hA0 hval0
  refine (walk a0 len0 cap0 z0 W w0).mono fun e W' ⟨he, bel⟩ => ?_
  subst he
  exact ⟨_, rfl, _, _, _, [], _, [], hW', trodAll_mk1 (shut_bool Tryz.underlying4 _), (trodAll_cons_mk (Below.trod laidOut (by kernel_rfl) (of_decide_eq_true (by kernel_rfl)) k0 bel lt0) trodAll_mk0), rfl, bel.frame _, fun h => by cases h⟩

theorem over : Rows.fnExactCensTrueRow.holds Tryz.pinned (OpenSpec.ofChange Rows.fnExactCensTrueSpec) :=
  OpenClaim.holds_of_wide 6 Tryz.f6 rfl rfl rfl rfl rfl rfl rfl ⟨rfl, rfl, rfl, rfl, rfl⟩ rfl rfl rfl rfl rfl (by kernel_rfl) Tryz.func6 (by kernel_rfl)
    (of_decide_eq_true (by kernel_rfl)) (by unfold Func.isWrapper; first | (rw [if_pos (by decide +kernel)]; kernel_rfl) | (rw [if_neg (by decide +kernel)]; exact ⟨rfl, rfl⟩))
    (fun os started H enc _ => lifted os started H enc)

end Go.Proofs.YtipbijcmpbefpaaGreat.fnExactCensTrue
namespace Go.Proofs.YtipbijcmpbefpaaGreat
theorem fnExactCensTrue_holds : Rows.FnExactCensTrueSaid := fnExactCensTrue.over
#print axioms fnExactCensTrue_holds
end Go.Proofs.YtipbijcmpbefpaaGreat

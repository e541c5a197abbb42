/- Of every list of words, the program's PlatCheck answers as the specification's does, and turns nothing of the list. Conditions: none. -/
import Derived.Test.YtfijhclocncplaaRows
import Derived.Test.YtfijhclocncplaaCell
import Derived.Test.YtfijhclocncplaaAid
import Derived.Test.YtfijhclocncplaaPlat
import Derived.Test.YtfijhclocncplaaPlat2
import Derived.Test.YtfijhclocncplaaDoor
import Derived.Test.YtfijhclocncplaaSpec
import Derived.Test.YtfijhclocncplaaLst
import Derived.Test.YtfijhclocncplaaFmt
import Derived.Test.YtfijhclocncplaaSeek
import Derived.Test.YtfijhclocncplaaCheck
import Derived.Test.YtfijhclocncplaaSCheck
import Derived.Test.YtfijhclocncplaaChk
import Derived.WalkKit
import Derived.ProofKit
import Derived.OpenShut
import Derived.ShutString
import Derived.ChangeOld
import Derived.Below
import Derived.Lib.SmallJoins
namespace Go.Proofs.Ytfijhclocncplaa.fnExactPlatCheck
open Go.ChangeShapes Go.WideShapes Go.ChangeAt Go.RowKit
open Go.Proofs.Ytfijhclocncplaa.Aid
open Go.Proofs.Ytfijhclocncplaa.Lst
open Go.Proofs.Ytfijhclocncplaa.Plat
open Go.Proofs.Ytfijhclocncplaa.Words
open Go.ChangeMaps (open_string shut_string)
set_option linter.unusedVariables false

theorem own : ownKnob Try.prog.godebug = none := by kernel_rfl
theorem laidOut : laidOutB Try.prog = true := by kernel_rfl

def IsRow (k : IntKind) (w : World) (a : Option Addr) (len cap : Nat) (zs : List Int) : Prop :=
  (a = none ∧ len = 0 ∧ cap = 0 ∧ zs = []) ∨
  ∃ x, a = some x ∧ len ≤ cap ∧ cap ≤ maxLen ∧ zs.length = cap ∧ (∀ i, i < zs.length → w.cell? (x.add i) = some (.int k (zs.getD i 0))) ∧ ∀ n ∈ zs, (Lit.int k n).wf = true

set_option maxRecDepth 100000 in
set_option maxHeartbeats 4000000 in
theorem walk (a0 : Option Addr) (len0 cap0 : Nat) (z0 : List Int) (w : World) (w0 : IsRow .u64 w a0 len0 cap0 z0) :
    Calls Try.prog 5 #[.slice a0 len0 cap0] w fun e w' => e = .returned (.bool true) ∧ Below w.heap.size w w' := by
  obtain ⟨hs, hm, hw⟩ := sl_of w0
  clear w0
  have hwf : ∀ j, 0 ≤ z0.getD j 0 ∧ z0.getD j 0 < 18446744073709551616 := fun j => wf64 (hw j)
  clear hw
  unfold maxLen at hm
  by_cases hlen : (1048576 : Int) < len0
  · go_enter Try.func5, Try.ntmps5
    go_wp2_with (fail)
    go_ret
    exact ⟨rfl, Below.refl _ _⟩
  · generalize hf : (fun j => z0.getD j 0) = f at hs
    have hwf' : ∀ j, 0 ≤ f j ∧ f j < 18446744073709551616 := by rw [← hf]; exact hwf
    clear hf hwf
    go_enter Try.func5, Try.ntmps5
    go_wp2_with (fail)
    refine (toUint64_any a0 len0 cap0 f w hs (by omega)).mono ?_
    rintro e u1 ⟨rfl, f1, B1, z1⟩
    go_wp2_with (fail)
    refine (scheck_all _ len0 len0 f u1 f1.sl (fun j _ => hwf' j)).mono ?_
    rintro e u2 ⟨rfl, B2⟩
    have C2 := B1.trans (B2.mono (by omega))
    have z2 := B2.size
    clear B2 f1 B1
    go_wp2_with (fail)
    have hb0 := below1 u2 (.cells #[.int .i64 (gS len0 f), .int .i64 (gP len0 f), .int .i64 (gL len0 f)] 24)
    have r0 := range_lit (ints [gS len0 f, gP len0 f, gL len0 f]).toArray (heap1_0 u2 (.cells #[.int .i64 (gS len0 f), .int .i64 (gP len0 f), .int .i64 (gL len0 f)] 24))
    have z0 : u2.heap.size + 1 ≤ (u2.alloc (.cells #[.int .i64 (gS len0 f), .int .i64 (gP len0 f), .int .i64 (gL len0 f)] 24)).heap.size := by simp
    generalize u2.alloc (.cells #[.int .i64 (gS len0 f), .int .i64 (gP len0 f), .int .i64 (gL len0 f)] 24) = v2 at *
    have C2' := C2.trans (hb0.mono (by omega))
    clear hb0 C2
    refine (toUint64_any a0 len0 cap0 f v2 (hs.later C2') (by omega)).mono ?_
    rintro e u3 ⟨rfl, f3, B3, z3⟩
    have C3 := C2'.trans (B3.mono (by omega))
    have r3 := range_below B3 r0 (by omega)
    clear B3 C2' r0
    go_wp2_with (fail)
    refine (check_all _ len0 len0 f u3 f3.sl (by omega) (fun j _ => hwf' j)).mono ?_
    rintro e u4 ⟨rfl, B4⟩
    have C4 := C3.trans (B4.mono (by omega))
    have z4 := B4.size
    have f4 := f3.later B4
    have r4 := range_below B4 r3 (by omega)
    clear B4 C3 f3 r3
    obtain ⟨q0, q1, q2⟩ := two_cell r4
    have hlt : u2.heap.size < u4.heap.size := by omega
    go_wp2_with (fail)
    have hb5 := below1 u4 (.cells #[.int .i64 (gS len0 f), .int .i64 (gP len0 f), .int .i64 (gL len0 f)] 24)
    have z5 : u4.heap.size + 1 ≤ (u4.alloc (.cells #[.int .i64 (gS len0 f), .int .i64 (gP len0 f), .int .i64 (gL len0 f)] 24)).heap.size := by simp
    have f5 := f4.later hb5
    have C5 := C4.trans (hb5.mono (by omega))
    refine (eqCfg_any (gS len0 f) (gP len0 f) (gL len0 f) _).mono ?_
    generalize u4.alloc (.cells #[.int .i64 (gS len0 f), .int .i64 (gP len0 f), .int .i64 (gL len0 f)] 24) = v4 at *
    rintro e u5 ⟨rfl, B5⟩
    have f6 := f5.later B5
    have C6 := C5.trans (B5.mono (by omega))
    have z6 := B5.size
    clear B5 f5 C5 f4 C4 hb5 q0 q1 q2 r4
    cases hg : gd len0 f
    all_goals
      go_wp2_with (fail)
      refine (toUint64_any a0 len0 cap0 f u5 (hs.later C6) (by omega)).mono ?_
      rintro e u6 ⟨rfl, f7, B7, z7⟩
      have f8 := f6.later B7
      have C7 := C6.trans (B7.mono (by omega))
      go_wp2_with (fail)
      refine (eqUint64_any _ _ _ _ _ f f u6 f8.sl f7.sl (fun _ _ => rfl) (by omega)).mono ?_
      rintro e w' ⟨rfl, q, rfl⟩
      go_wp2_with (fail)
      go_ret
      exact ⟨rfl, ⟨C7.os, C7.tape, C7.output, C7.size, C7.block⟩⟩

set_option maxRecDepth 100000 in
theorem lifted (os : Os) (started : os.Started) (H : Type) (enc : TypeId × Value → H) :
    ReturnsInHanded {} Try.checked os 5 .any (Rows.fnExactPlatCheckSpec.pre6 enc Try.prog Try.f5 Rows.fnExactPlatCheckRow.domain false) (Rows.fnExactPlatCheckSpec.post enc Try.prog Try.f5 false true false false) := by
  refine returnsInHanded_of_change (C := Try.checked) own started (by kernel_rfl) Try.func5
    (ChangeSpec.witness6 (enc := enc) (C := Try.checked) false ⟨#[], #[.slice none 0 0], []⟩ 8 (by kernel_rfl) (by kernel_rfl) (by kernel_rfl) (by kernel_rfl)) ?_
  intro W base args ds gs before hval0 hW hcnd _
  have hval : ∀ (j : Nat) t v, Try.f5.params[j]? = some t → args[j]? = some v → Value.okWide Try.prog W .any base t v := hval0
  have hW' := hW
  obtain ⟨p, q, hA0, hV, rfl, hfz, hnd⟩ := hW
  have hA : DataW.TrodAll enc Try.prog W 0 (fun _ => true) true Try.f5.params.toList args.toList ds p := hA0
  rw [Try.params5] at hA hval
  obtain ⟨v0, vs0, d0, ds0, p0, q0, hargs, rfl, rfl, h0, r0⟩ := trodAll_cons hA
  obtain ⟨rfl, rfl, rfl⟩ := trodAll_nil r0
  obtain rfl : args = #[v0] := by cases args; simp_all
  obtain ⟨rfl, rfl⟩ := trodVars_none hV
  obtain ⟨a0, len0, cap0, rfl⟩ := okWide_slice Try.underlying26 (hval 0 26 v0 rfl rfl)
  have k0 := h0
  have lt0 : ∀ x ∈ p0, x.block < W.heap.size := by obtain ⟨m, hm⟩ := k0; exact DataW.trod_lt m _ _ _ hm
  obtain ⟨z0, w0⟩ : ∃ zs, IsRow .u64 W a0 len0 cap0 zs := by
    obtain ⟨fuel, hf⟩ := h0
    rcases open_ints Try.underlying26 Try.underlying65 (by kernel_rfl) hf with ⟨hcs, _⟩ | ⟨x, l, c, zs, hcs, _, hl, hm, hz, _, hcell, hwz⟩
    · simp [Value.cells] at hcs
      obtain ⟨rfl, rfl, rfl⟩ := hcs
      exact ⟨[], .inl ⟨rfl, rfl, rfl, rfl⟩⟩
    · simp [Value.cells] at hcs
      obtain ⟨rfl, rfl, rfl⟩ := hcs
      exact ⟨zs, .inr ⟨_, rfl, hl, hm, by simpa using hz, hcell, hwz⟩⟩
  clear hA0 hval0
  refine (walk a0 len0 cap0 z0 W w0).mono fun e W' ⟨he, bel⟩ => ?_
  subst he
  exact ⟨_, rfl, _, _, _, [], _, [], hW', trodAll_mk1 (shut_bool Try.underlying4 _), (trodAll_cons_mk (Below.trod laidOut (by kernel_rfl) (of_decide_eq_true (by kernel_rfl)) k0 bel lt0) trodAll_mk0), rfl, bel.frame _, fun h => by cases h⟩

theorem over : Rows.fnExactPlatCheckRow.holds Try.pinned (OpenSpec.ofChange Rows.fnExactPlatCheckSpec) :=
  OpenClaim.holds_of_wide 5 Try.f5 rfl rfl rfl rfl rfl rfl rfl ⟨rfl, rfl, rfl, rfl, rfl⟩ rfl rfl rfl rfl rfl (by kernel_rfl) Try.func5 (by kernel_rfl)
    (of_decide_eq_true (by kernel_rfl)) (by unfold Func.isWrapper; first | (rw [if_pos (by decide +kernel)]; kernel_rfl) | (rw [if_neg (by decide +kernel)]; exact ⟨rfl, rfl⟩))
    (fun os started H enc _ => lifted os started H enc)

end Go.Proofs.Ytfijhclocncplaa.fnExactPlatCheck
namespace Go.Proofs.Ytfijhclocncplaa
theorem fnExactPlatCheck_holds : Rows.FnExactPlatCheckSaid := fnExactPlatCheck.over
#print axioms fnExactPlatCheck_holds
end Go.Proofs.Ytfijhclocncplaa

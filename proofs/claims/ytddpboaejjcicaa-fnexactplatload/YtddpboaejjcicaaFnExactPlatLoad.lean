/- Of every list of words and every address, the program's PlatLoad answers as the specification's does, and turns nothing of the list. Conditions: none. -/
import Derived.Test.YtddpboaejjcicaaRows
import Derived.Test.YtddpboaejjcicaaAid
import Derived.Test.YtddpboaejjcicaaLst
import Derived.Test.YtddpboaejjcicaaSeek
import Derived.WalkKit
import Derived.ProofKit
import Derived.OpenShut
import Derived.ShutString
import Derived.ChangeOld
import Derived.Below
import Derived.Lib.SmallJoins
namespace Go.Proofs.Ytddpboaejjcicaa.fnExactPlatLoad
open Go.ChangeShapes Go.WideShapes Go.ChangeAt Go.RowKit
open Go.Proofs.Ytddpboaejjcicaa.Aid
open Go.Proofs.Ytddpboaejjcicaa.Lst
open Go.Proofs.Ytddpboaejjcicaa.Plat
open Go.ChangeMaps (open_string shut_string)
set_option linter.unusedVariables false

theorem own : ownKnob Try.prog.godebug = none := by kernel_rfl
theorem laidOut : laidOutB Try.prog = true := by kernel_rfl

def IsRow (k : IntKind) (w : World) (a : Option Addr) (len cap : Nat) (zs : List Int) : Prop :=
  (a = none ∧ len = 0 ∧ cap = 0 ∧ zs = []) ∨
  ∃ x, a = some x ∧ len ≤ cap ∧ cap ≤ maxLen ∧ zs.length = cap ∧ (∀ i, i < zs.length → w.cell? (x.add i) = some (.int k (zs.getD i 0))) ∧ ∀ n ∈ zs, (Lit.int k n).wf = true

set_option maxRecDepth 100000 in
set_option maxHeartbeats 4000000 in
theorem walk (a0 : Option Addr) (len0 cap0 : Nat) (z0 : List Int) (a1 : Int) (w : World) (w0 : IsRow .u64 w a0 len0 cap0 z0) (w1 : (Lit.int .i64 a1).wf = true) :
    Calls Try.prog 16 #[.slice a0 len0 cap0, .int .i64 a1] w fun e w' => e = .returned (.bool true) ∧ Below w.heap.size w w' := by
  obtain ⟨hs, hm, hw⟩ := sl_of w0
  clear w0 hw
  unfold maxLen at hm
  by_cases hlen : (1048576 : Int) < len0
  · go_enter Try.func16, Try.ntmps16
    go_wp2_with (fail)
    go_ret
    exact ⟨rfl, Below.refl _ _⟩
  · generalize (fun j => z0.getD j 0) = f at hs
    go_enter Try.func16, Try.ntmps16
    go_wp2_with (fail)
    refine (toUint64_any a0 len0 cap0 f w hs (by omega)).mono ?_
    rintro e u1 ⟨rfl, f1, B1, z1⟩
    have s1 := hs.later B1
    go_wp2_with (fail)
    refine (sload_any _ len0 len0 f a1 u1 f1.sl (by omega)).mono ?_
    rintro e u1 ⟨rfl, rfl⟩
    go_wp2_with (fail)
    refine (toUint64_any a0 len0 cap0 f u1 s1 (by omega)).mono ?_
    rintro e u2 ⟨rfl, f2, B2, z2⟩
    have s2 := s1.later B2
    have C2 := B1.trans (B2.mono (by omega))
    go_wp2_with (fail)
    refine (load_any _ len0 len0 f a1 u2 f2.sl (fun h => by cases h) (by omega)).mono ?_
    rintro e u3 ⟨rfl, B3⟩
    have s3 := s2.later B3
    have f3 := f2.later B3
    have C3 := C2.trans (B3.mono (by omega))
    have z3 := B3.size
    go_wp2_with (fail)
    refine (toUint64_any a0 len0 cap0 f u3 s3 (by omega)).mono ?_
    rintro e u4 ⟨rfl, f4, B4, z4⟩
    have f3' := f3.later B4
    have C4 := C3.trans (B4.mono (by omega))
    go_wp2_with (fail)
    refine (eqUint64_any _ _ _ _ _ f f u4 f3'.sl f4.sl (fun _ _ => rfl) (by omega)).mono ?_
    rintro e w' ⟨rfl, q, rfl⟩
    go_wp2_with (fail)
    go_ret
    exact ⟨rfl, ⟨C4.os, C4.tape, C4.output, C4.size, C4.block⟩⟩

set_option maxRecDepth 100000 in
theorem lifted (os : Os) (started : os.Started) (H : Type) (enc : TypeId × Value → H) :
    ReturnsInHanded {} Try.checked os 16 .any (Rows.fnExactPlatLoadSpec.pre6 enc Try.prog Try.f16 Rows.fnExactPlatLoadRow.domain false) (Rows.fnExactPlatLoadSpec.post enc Try.prog Try.f16 false true false false) := by
  refine returnsInHanded_of_change (C := Try.checked) own started (by kernel_rfl) Try.func16
    (ChangeSpec.witness6 (enc := enc) (C := Try.checked) false ⟨#[], #[.slice none 0 0, .int .i64 0], []⟩ 8 (by kernel_rfl) (by kernel_rfl) (by kernel_rfl) (by kernel_rfl)) ?_
  intro W base args ds gs before hval0 hW hcnd _
  have hval : ∀ (j : Nat) t v, Try.f16.params[j]? = some t → args[j]? = some v → Value.okWide Try.prog W .any base t v := hval0
  have hW' := hW
  obtain ⟨p, q, hA0, hV, rfl, hfz, hnd⟩ := hW
  have hA : DataW.TrodAll enc Try.prog W 0 (fun _ => true) true Try.f16.params.toList args.toList ds p := hA0
  rw [Try.params16] at hA hval
  obtain ⟨v0, vs0, d0, ds0, p0, q0, hargs, rfl, rfl, h0, r0⟩ := trodAll_cons hA
  obtain ⟨v1, vs1, d1, ds1, p1, q1, rfl, rfl, rfl, h1, r1⟩ := trodAll_cons r0
  obtain ⟨rfl, rfl, rfl⟩ := trodAll_nil r1
  obtain rfl : args = #[v0, v1] := by cases args; simp_all
  obtain ⟨rfl, rfl⟩ := trodVars_none hV
  obtain ⟨a0, len0, cap0, rfl⟩ := okWide_slice Try.underlying26 (hval 0 26 v0 rfl rfl)
  have k0 := h0
  have lt0 : ∀ x ∈ p0, x.block < W.heap.size := by obtain ⟨m, hm⟩ := k0; exact DataW.trod_lt m _ _ _ hm
  obtain ⟨z0, w0⟩ : ∃ zs, IsRow .u64 W a0 len0 cap0 zs := by
    obtain ⟨fuel, hf⟩ := h0
    rcases open_ints Try.underlying26 Try.underlying35 (by kernel_rfl) hf with ⟨hcs, _⟩ | ⟨x, l, c, zs, hcs, _, hl, hm, hz, _, hcell, hwz⟩
    · simp [Value.cells] at hcs
      obtain ⟨rfl, rfl, rfl⟩ := hcs
      exact ⟨[], .inl ⟨rfl, rfl, rfl, rfl⟩⟩
    · simp [Value.cells] at hcs
      obtain ⟨rfl, rfl, rfl⟩ := hcs
      exact ⟨zs, .inr ⟨_, rfl, hl, hm, by simpa using hz, hcell, hwz⟩⟩
  obtain ⟨a1, rfl, rfl, rfl, w1⟩ := open_int Try.underlying3 (hval 1 3 v1 rfl rfl) h1
  clear hA0 hval0
  refine (walk a0 len0 cap0 z0 a1 W w0 w1).mono fun e W' ⟨he, bel⟩ => ?_
  subst he
  exact ⟨_, rfl, _, _, _, [], _, [], hW', trodAll_mk1 (shut_bool Try.underlying4 _), (trodAll_cons_mk (Below.trod laidOut (by kernel_rfl) (of_decide_eq_true (by kernel_rfl)) k0 bel lt0) (trodAll_cons_mk (shut_int Try.underlying3 w1) trodAll_mk0)), rfl, bel.frame _, fun h => by cases h⟩

theorem over : Rows.fnExactPlatLoadRow.holds Try.pinned (OpenSpec.ofChange Rows.fnExactPlatLoadSpec) :=
  OpenClaim.holds_of_wide 16 Try.f16 rfl rfl rfl rfl rfl rfl rfl ⟨rfl, rfl, rfl, rfl, rfl⟩ rfl rfl rfl rfl rfl (by kernel_rfl) Try.func16 (by kernel_rfl)
    (of_decide_eq_true (by kernel_rfl)) (by unfold Func.isWrapper; first | (rw [if_pos (by decide +kernel)]; kernel_rfl) | (rw [if_neg (by decide +kernel)]; exact ⟨rfl, rfl⟩))
    (fun os started H enc _ => lifted os started H enc)

end Go.Proofs.Ytddpboaejjcicaa.fnExactPlatLoad
namespace Go.Proofs.Ytddpboaejjcicaa
theorem fnExactPlatLoad_holds : Rows.FnExactPlatLoadSaid := fnExactPlatLoad.over
#print axioms fnExactPlatLoad_holds
end Go.Proofs.Ytddpboaejjcicaa

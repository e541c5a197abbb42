/- Of every house (three ints), the program's PlatFormat answers the words that the specification's does, in new memory of its own. Conditions: none. -/
import Derived.Test.YtddpboaejjcicaaRows
import Derived.Test.YtddpboaejjcicaaCell
import Derived.Test.YtddpboaejjcicaaAid
import Derived.Test.YtddpboaejjcicaaPlat
import Derived.Test.YtddpboaejjcicaaPlat2
import Derived.Test.YtddpboaejjcicaaDoor
import Derived.Test.YtddpboaejjcicaaLst
import Derived.Test.YtddpboaejjcicaaFmt
import Derived.WalkKit
import Derived.ProofKit
import Derived.OpenShut
import Derived.ShutString
import Derived.ChangeOld
import Derived.Below
import Derived.Lib.SmallJoins
namespace Go.Proofs.Ytddpboaejjcicaa.fnExactPlatFormat
open Go.ChangeShapes Go.WideShapes Go.ChangeAt Go.RowKit
open Go.Proofs.Ytddpboaejjcicaa.Words
open Go.Proofs.Ytddpboaejjcicaa.Aid
open Go.Proofs.Ytddpboaejjcicaa.Plat
open Go.Proofs.Ytddpboaejjcicaa.Lst
open Go.ChangeMaps (open_string shut_string)
set_option linter.unusedVariables false

theorem own : ownKnob Try.prog.godebug = none := by kernel_rfl
theorem laidOut : laidOutB Try.prog = true := by kernel_rfl

set_option maxRecDepth 100000 in
set_option maxHeartbeats 4000000 in
theorem walk (s0_0 s0_1 s0_2 : Int) (w : World) (ws0_0 : (Lit.int .i64 s0_0).wf = true) (ws0_1 : (Lit.int .i64 s0_1).wf = true) (ws0_2 : (Lit.int .i64 s0_2).wf = true) :
    Calls Try.prog 14 #[.agg #[.int .i64 s0_0, .int .i64 s0_1, .int .i64 s0_2]] w fun e w' => e = .returned (.bool true) ∧ Below w.heap.size w w' := by
  by_cases h : okB s0_0 s0_1 s0_2 = true
  · have hN := szN_bd h
    go_enter Try.func14, Try.ntmps14
    go_wp2_with (fail)
    refine (to_any s0_0 s0_1 s0_2 _).mono ?_
    rintro e w1 ⟨rfl, hb1⟩
    have hz1 := hb1.size
    simp at hz1
    have r1 : w1.rangeAt w.heap.size 0 (ints [s0_0, s0_1, s0_2]) := range_below hb1 (range_lit (ints [s0_0, s0_1, s0_2]).toArray (heap1_0 _ _)) (by simp)
    have B1 : Below w.heap.size w w1 := (below1 _ _).trans (hb1.mono (by simp))
    clear hb1
    go_wp2_with (fail)
    refine (sfmt_ok s0_0 s0_1 s0_2 _ h).mono ?_
    rintro e w2 ⟨b1, hb1l, hb1u, rfl, f1, hb2⟩
    have hz2 := hb2.size
    have r2 := range_below hb2 r1 (by omega)
    have B2 := B1.trans (hb2.mono (by omega))
    have q0 : w2.cell? ⟨w.heap.size, 0, none⟩ = some (.int .i64 s0_0) := r2 0 _ rfl
    have q1 : w2.cell? ⟨w.heap.size, 1, none⟩ = some (.int .i64 s0_1) := r2 1 _ rfl
    have q2 : w2.cell? ⟨w.heap.size, 2, none⟩ = some (.int .i64 s0_2) := r2 2 _ rfl
    clear hb2 r1 B1
    go_wp2_with (fail)
    refine (to_any s0_0 s0_1 s0_2 _).mono ?_
    rintro e w3 ⟨rfl, hb3⟩
    clear q0 q1 q2
    have hz3 := hb3.size
    have r3 := range_below hb3 r2 (by omega)
    have B3 := B2.trans (hb3.mono (by omega))
    have f1' := f1.later hb3
    clear hb3 r2 B2 f1
    go_wp2_with (fail)
    refine (fmt_ok s0_0 s0_1 s0_2 _ h).mono ?_
    rintro e w4 ⟨b2, hb2l, hb2u, rfl, f2, hb4⟩
    have hz4 := hb4.size
    have r4 := range_below hb4 r3 (by omega)
    have B4 := B3.trans (hb4.mono (by omega))
    have g1 := f1'.later hb4
    clear hb4 r3 B3 f1'
    go_wp2_with (fail)
    refine (eqUint64_any _ _ _ _ _ _ _ w4 f2.sl g1.sl (fun _ _ => rfl) (by omega)).mono ?_
    rintro e w' ⟨rfl, q, rfl⟩
    go_wp2_with (fail)
    refine (markUint64_any b2 _ _ _ 1 (w4.drewN q) (f2.drewN q) (by omega) (by omega) (by omega)).mono ?_
    rintro e w5 ⟨rfl, f5, hbut⟩
    have B5 : Below w.heap.size w w5 := (below_drewN B4 q).trans (hbut.below (by omega))
    have hz5 := hbut.size
    simp at hz5
    have g5 : Fk .u64 (szN s0_0 s0_1) w5 b1 (fmtF s0_0 s0_1 s0_2) := hbut.fk (by omega) (g1.drewN q)
    have r5 : w5.rangeAt w.heap.size 0 (ints [s0_0, s0_1, s0_2]) := range_below (hbut.below (Nat.le_refl b2)) r4 (by omega)
    clear B4 g1 r4 f2 hbut
    go_wp2_with (fail)
    refine (heldUint64_any _ _ _ 1 w5 f5.sl (by omega) (by omega) (by omega)).mono ?_
    rintro e w5 ⟨rfl, rfl⟩
    have q0 : w5.cell? ⟨w.heap.size, 0, none⟩ = some (.int .i64 s0_0) := r5 0 _ rfl
    have q1 : w5.cell? ⟨w.heap.size, 1, none⟩ = some (.int .i64 s0_1) := r5 1 _ rfl
    have q2 : w5.cell? ⟨w.heap.size, 2, none⟩ = some (.int .i64 s0_2) := r5 2 _ rfl
    go_wp2_with (fail)
    refine (to_any s0_0 s0_1 s0_2 _).mono ?_
    rintro e w6 ⟨rfl, hb6⟩
    clear q0 q1 q2
    have hz6 := hb6.size
    have B6 := B5.trans (hb6.mono (by omega))
    have f6 := f5.later hb6
    have g6 := g5.later hb6
    clear hb6 B5 f5 g5 r5
    go_wp2_with (fail)
    refine (fmt_ok s0_0 s0_1 s0_2 _ h).mono ?_
    rintro e w7 ⟨b3, hb3l, hb3u, rfl, f3, hb7⟩
    have hz7 := hb7.size
    have B7 := B6.trans (hb7.mono (by omega))
    have f7 := f6.later hb7
    have g7 := g6.later hb7
    clear hb7 B6 f6 g6
    go_wp2_with (fail)
    refine (eqUint64_any _ _ _ _ _ _ _ w7 f3.sl g7.sl (fun _ _ => rfl) (by omega)).mono ?_
    rintro e w' ⟨rfl, q', rfl⟩
    go_wp2_with (fail)
    refine (heldUint64_any _ _ _ 1 (w7.drewN q') (f7.drewN q').sl (by omega) (by omega) (by omega)).mono ?_
    rintro e w' ⟨rfl, rfl⟩
    go_wp2_with (fail)
    go_ret
    exact ⟨rfl, below_drewN B7 q'⟩
  · have h' : okB s0_0 s0_1 s0_2 = false := by simpa using h
    go_enter Try.func14, Try.ntmps14
    go_wp2_with (fail)
    refine (to_any s0_0 s0_1 s0_2 _).mono ?_
    rintro e w1 ⟨rfl, hb1⟩
    have hz1 := hb1.size
    simp at hz1
    have r1 : w1.rangeAt w.heap.size 0 (ints [s0_0, s0_1, s0_2]) := range_below hb1 (range_lit (ints [s0_0, s0_1, s0_2]).toArray (heap1_0 _ _)) (by simp)
    have B1 : Below w.heap.size w w1 := (below1 _ _).trans (hb1.mono (by simp))
    clear hb1
    go_wp2_with (fail)
    refine (sfmt_bad s0_0 s0_1 s0_2 _ h').mono ?_
    rintro e w2 ⟨rfl, hb2⟩
    have hz2 := hb2.size
    have r2 := range_below hb2 r1 (by omega)
    have B2 := B1.trans (hb2.mono (by omega))
    have q0 : w2.cell? ⟨w.heap.size, 0, none⟩ = some (.int .i64 s0_0) := r2 0 _ rfl
    have q1 : w2.cell? ⟨w.heap.size, 1, none⟩ = some (.int .i64 s0_1) := r2 1 _ rfl
    have q2 : w2.cell? ⟨w.heap.size, 2, none⟩ = some (.int .i64 s0_2) := r2 2 _ rfl
    clear hb2 r1 B1
    go_wp2_with (fail)
    refine (to_any s0_0 s0_1 s0_2 _).mono ?_
    rintro e w3 ⟨rfl, hb3⟩
    clear q0 q1 q2
    have hz3 := hb3.size
    have r3 := range_below hb3 r2 (by omega)
    have B3 := B2.trans (hb3.mono (by omega))
    clear hb3 r2 B2
    go_wp2_with (fail)
    refine (fmt_bad s0_0 s0_1 s0_2 _ h').mono ?_
    rintro e w4 ⟨rfl, hb4⟩
    have hz4 := hb4.size
    have r4 := range_below hb4 r3 (by omega)
    have B4 := B3.trans (hb4.mono (by omega))
    clear hb4 r3 B3
    go_wp2_with (fail)
    refine (eqUint64_any _ _ 0 _ _ (fun _ => 0) (fun _ => 0) w4 (.inl rfl) (.inl rfl) (fun _ _ => rfl) (by omega)).mono ?_
    rintro e w' ⟨rfl, q, rfl⟩
    have q0 : w4.cell? ⟨w.heap.size, 0, none⟩ = some (.int .i64 s0_0) := r4 0 _ rfl
    have q1 : w4.cell? ⟨w.heap.size, 1, none⟩ = some (.int .i64 s0_1) := r4 1 _ rfl
    have q2 : w4.cell? ⟨w.heap.size, 2, none⟩ = some (.int .i64 s0_2) := r4 2 _ rfl
    go_wp2_with (fail)
    refine (markUint64_none none 0 1 (w4.drewN q)).mono ?_
    rintro e w' ⟨rfl, rfl⟩
    go_wp2_with (fail)
    refine (heldUint64_any none 0 _ 1 (w4.drewN q) (.inl rfl) (by omega) (by omega) (by omega)).mono ?_
    rintro e w' ⟨rfl, rfl⟩
    go_wp2_with (fail)
    refine (to_any s0_0 s0_1 s0_2 _).mono ?_
    rintro e w6 ⟨rfl, hb6⟩
    clear q0 q1 q2
    have hz6 := hb6.size
    simp at hz6
    have B6 := (below_drewN B4 q).trans (hb6.mono (by simp; omega))
    clear hb6 B4 r4
    go_wp2_with (fail)
    refine (fmt_bad s0_0 s0_1 s0_2 _ h').mono ?_
    rintro e w7 ⟨rfl, hb7⟩
    have B7 := B6.trans (hb7.mono (by omega))
    clear hb7 B6
    go_wp2_with (fail)
    refine (eqUint64_any _ _ 0 _ _ (fun _ => 0) (fun _ => 0) w7 (.inl rfl) (.inl rfl) (fun _ _ => rfl) (by omega)).mono ?_
    rintro e w' ⟨rfl, q', rfl⟩
    go_wp2_with (fail)
    refine (heldUint64_any none 0 _ 1 (w7.drewN q') (.inl rfl) (by omega) (by omega) (by omega)).mono ?_
    rintro e w' ⟨rfl, rfl⟩
    go_wp2_with (fail)
    go_ret
    exact ⟨rfl, below_drewN B7 q'⟩

set_option maxRecDepth 100000 in
theorem lifted (os : Os) (started : os.Started) (H : Type) (enc : TypeId × Value → H) :
    ReturnsInHanded {} Try.checked os 14 .any (Rows.fnExactPlatFormatSpec.pre6 enc Try.prog Try.f14 Rows.fnExactPlatFormatRow.domain false) (Rows.fnExactPlatFormatSpec.post enc Try.prog Try.f14 false true false false) := by
  refine returnsInHanded_of_change (C := Try.checked) own started (by kernel_rfl) Try.func14
    (ChangeSpec.witness6 (enc := enc) (C := Try.checked) false ⟨#[], #[.agg #[.int .i64 0, .int .i64 0, .int .i64 0]], []⟩ 8 (by kernel_rfl) (by kernel_rfl) (by kernel_rfl) (by kernel_rfl)) ?_
  intro W base args ds gs before hval0 hW hcnd _
  have hval : ∀ (j : Nat) t v, Try.f14.params[j]? = some t → args[j]? = some v → Value.okWide Try.prog W .any base t v := hval0
  have hW' := hW
  obtain ⟨p, q, hA0, hV, rfl, hfz, hnd⟩ := hW
  have hA : DataW.TrodAll enc Try.prog W 0 (fun _ => true) true Try.f14.params.toList args.toList ds p := hA0
  rw [Try.params14] at hA hval
  obtain ⟨v0, vs0, d0, ds0, p0, q0, hargs, rfl, rfl, h0, r0⟩ := trodAll_cons hA
  obtain ⟨rfl, rfl, rfl⟩ := trodAll_nil r0
  obtain rfl : args = #[v0] := by cases args; simp_all
  obtain ⟨rfl, rfl⟩ := trodVars_none hV
  have k0 := h0
  have lt0 : ∀ x ∈ p0, x.block < W.heap.size := by obtain ⟨m, hm⟩ := k0; exact DataW.trod_lt m _ _ _ hm
  obtain ⟨s0_0, s0_1, s0_2, rfl, ws0_0, ws0_1, ws0_2⟩ : ∃ s0_0 s0_1 s0_2 : Int, v0 = .agg #[.int .i64 s0_0, .int .i64 s0_1, .int .i64 s0_2] ∧ (Lit.int .i64 s0_0).wf = true ∧ (Lit.int .i64 s0_1).wf = true ∧ (Lit.int .i64 s0_2).wf = true := by
    obtain ⟨c0, c1, c2, y0, y1, y2, m, rfl, -, -, g0, g1, g2⟩ := Joins.open_agg3 Try.underlying41 (by kernel_rfl) (by kernel_rfl) (hval 0 41 v0 rfl rfl) h0
    obtain ⟨x0, e0, -, u0⟩ := DataW.trod_int Try.underlying3 g0
    obtain ⟨x1, e1, -, u1⟩ := DataW.trod_int Try.underlying3 g1
    obtain ⟨x2, e2, -, u2⟩ := DataW.trod_int Try.underlying3 g2
    simp at e0 e1 e2
    subst e0 e1 e2
    exact ⟨x0, x1, x2, rfl, u0, u1, u2⟩
  clear hA0 hval0
  refine (walk s0_0 s0_1 s0_2 W ws0_0 ws0_1 ws0_2).mono fun e W' ⟨he, bel⟩ => ?_
  subst he
  exact ⟨_, rfl, _, _, _, [], _, [], hW', trodAll_mk1 (shut_bool Try.underlying4 _), (trodAll_cons_mk (Below.trod laidOut (by kernel_rfl) (of_decide_eq_true (by kernel_rfl)) k0 bel lt0) trodAll_mk0), rfl, bel.frame _, fun h => by cases h⟩

theorem over : Rows.fnExactPlatFormatRow.holds Try.pinned (OpenSpec.ofChange Rows.fnExactPlatFormatSpec) :=
  OpenClaim.holds_of_wide 14 Try.f14 rfl rfl rfl rfl rfl rfl rfl ⟨rfl, rfl, rfl, rfl, rfl⟩ rfl rfl rfl rfl rfl (by kernel_rfl) Try.func14 (by kernel_rfl)
    (of_decide_eq_true (by kernel_rfl)) (by unfold Func.isWrapper; first | (rw [if_pos (by decide +kernel)]; kernel_rfl) | (rw [if_neg (by decide +kernel)]; exact ⟨rfl, rfl⟩))
    (fun os started H enc _ => lifted os started H enc)

end Go.Proofs.Ytddpboaejjcicaa.fnExactPlatFormat
namespace Go.Proofs.Ytddpboaejjcicaa
theorem fnExactPlatFormat_holds : Rows.FnExactPlatFormatSaid := fnExactPlatFormat.over
#print axioms fnExactPlatFormat_holds
end Go.Proofs.Ytddpboaejjcicaa

/- Of every list of words, the program's CensDone answers the words that the specification's does, in new memory of their own, and turns nothing of the list. Conditions: none. -/
import Derived.Test.YtfijhclocncplaaRows
import Derived.Test.YtfijhclocncplaaCell
import Derived.Test.YtfijhclocncplaaAid
import Derived.Test.YtfijhclocncplaaPlat
import Derived.Test.YtfijhclocncplaaPlat2
import Derived.Test.YtfijhclocncplaaDoor
import Derived.Test.YtfijhclocncplaaSpec
import Derived.Test.YtfijhclocncplaaLst
import Derived.Test.YtfijhclocncplaaFmt
import Derived.Test.YtfijhclocncplaaSeek
import Derived.Test.YtfijhclocncplaaCheck
import Derived.Test.YtfijhclocncplaaSCheck
import Derived.Test.YtfijhclocncplaaChk
import Derived.Test.YtfijhclocncplaaSwap
import Derived.Test.YtfijhclocncplaaSwap2
import Derived.Test.YtfijhclocncplaaOf
import Derived.Test.YtfijhclocncplaaBk
import Derived.Test.YtfijhclocncplaaBk2
import Derived.Test.YtfijhclocncplaaBk3
import Derived.Test.YtfijhclocncplaaOpenBk
import Derived.Test.YtfijhclocncplaaLaw
import Derived.Test.YtfijhclocncplaaDone
import Derived.Test.YtfijhclocncplaaDone2
import Derived.Test.YtfijhclocncplaaDone3
import Derived.Test.YtfijhclocncplaaDone4
import Derived.Test.YtfijhclocncplaaPlatDesk
import Derived.Test.YtfijhclocncplaaDone5
import Derived.WalkKit
import Derived.ProofKit
import Derived.OpenShut
import Derived.ShutString
import Derived.ChangeOld
import Derived.Below
import Derived.Lib.SmallJoins
namespace Go.Proofs.Ytfijhclocncplaa.fnExactCensDone
open Go.ChangeShapes Go.WideShapes Go.ChangeAt Go.RowKit
open Go.Proofs.Ytfijhclocncplaa.Aid
open Go.Proofs.Ytfijhclocncplaa.Book
open Go.Proofs.Ytfijhclocncplaa.Lst
open Go.Proofs.Ytfijhclocncplaa.Plat
open Go.Proofs.Ytfijhclocncplaa.Words
open Go.ChangeMaps (open_string shut_string)
set_option linter.unusedVariables false

theorem own : ownKnob Try.prog.godebug = none := by kernel_rfl
theorem laidOut : laidOutB Try.prog = true := by kernel_rfl

def IsRow (k : IntKind) (w : World) (a : Option Addr) (len cap : Nat) (zs : List Int) : Prop :=
  (a = none ∧ len = 0 ∧ cap = 0 ∧ zs = []) ∨
  ∃ x, a = some x ∧ len ≤ cap ∧ cap ≤ maxLen ∧ zs.length = cap ∧ (∀ i, i < zs.length → w.cell? (x.add i) = some (.int k (zs.getD i 0))) ∧ ∀ n ∈ zs, (Lit.int k n).wf = true

set_option maxRecDepth 100000 in
set_option maxHeartbeats 4000000 in
theorem walk (a0 : Option Addr) (len0 cap0 : Nat) (z0 : List Int) (w : World) (w0 : IsRow .u64 w a0 len0 cap0 z0) :
    Calls Try.prog 9 #[.slice a0 len0 cap0] w fun e w' => e = .returned (.bool true) ∧ Below w.heap.size w w' := by
  obtain ⟨hs, hm, hw⟩ := sl_of w0
  clear w0
  have hwf : ∀ j, 0 ≤ z0.getD j 0 ∧ z0.getD j 0 < 18446744073709551616 := fun j => wf64 (hw j)
  clear hw
  unfold maxLen at hm
  by_cases hlen : (1048576 : Int) < len0
  · go_enter Try.func9, Try.ntmps9
    go_wp2_with (fail)
    go_ret
    exact ⟨rfl, Below.refl _ _⟩
  · generalize hf : (fun j => z0.getD j 0) = f at hs
    have HW : Hid (W64 f) := by unfold Hid; rw [← hf]; exact hwf
    clear hf hwf
    go_enter Try.func9, Try.ntmps9
    go_wp2_with (fail)
    refine (toUint64_any a0 len0 cap0 f w hs (by omega)).mono ?_
    rintro e u1 ⟨rfl, f1, B1, z1⟩
    go_wp2_with (fail)
    refine (sdone_any w.heap.size 0 len0 len0 f u1 (fun j hj => by simpa using (f1 j hj).1) (fun _ => z1) (by omega) HW.out).mono ?_
    rintro e u2 ⟨sw, g, c, g0, g1, rfl, dq, p2, B2⟩
    have C2 := B1.trans (B2.mono (by omega))
    have z2 := B2.size
    have DQ : Hid (DnQ len0 f sw) := dq
    clear B1 f1 dq
    go_wp2_with (fail)
    refine (toUint64_any a0 len0 cap0 f u2 (hs.later C2) (by omega)).mono ?_
    rintro e u3 ⟨rfl, f3, B3, z3⟩
    have p3 := p2.later B3
    have C3 := C2.trans (B3.mono (by omega))
    clear B2 p2 C2 B3
    go_wp2_with (fail)
    refine (done_any _ len0 len0 f u3 f3.sl (by omega) (Nat.le_refl _) HW.out).mono ?_
    rintro e u4 ⟨sw', rfl, dq, x4, B4, z4⟩
    obtain rfl : sw' = sw := dnq_one dq DQ.out
    have p4 := p3.later B4
    have f4 := f3.later B4
    have C4 := C3.trans (B4.mono (by omega))
    clear p3 f3 C3 B4 dq
    go_wp2_with (fail)
    refine (eqUint64_any _ _ _ _ _ sw' sw' u4 x4.sl p4.sl (fun _ _ => rfl) (by omega)).mono ?_
    rintro e w' ⟨rfl, q1, rfl⟩
    go_wp2_with (fail)
    refine (toUint64_any a0 len0 cap0 f (u4.drewN q1) ((hs.later C4).drewN q1) (by omega)).mono ?_
    rintro e u5 ⟨rfl, f5, B5, z5⟩
    simp only [World.heap_drewN] at z5 B5 f5
    have B5' : Below u4.heap.size u4 u5 := ⟨B5.os, B5.tape, B5.output, B5.size, B5.block⟩
    have p5 := p4.later B5'
    have x5 := x4.later B5'
    have f5' := f4.later B5'
    have C5 := C4.trans (B5'.mono (by omega))
    clear B5
    go_wp2_with (fail)
    refine (eqUint64_any _ _ _ _ _ f f u5 f5'.sl f5.sl (fun _ _ => rfl) (by omega)).mono ?_
    rintro e w' ⟨rfl, q2, rfl⟩
    go_wp2_with (fail)
    refine (markUint64_any u2.heap.size _ _ f 1 (u5.drewN q2) (f5'.drewN q2) (by omega) (by omega) (by omega)).mono ?_
    rintro e u6 ⟨rfl, f6, hbut⟩
    have z6 := Nat.le_of_eq hbut.size
    have y6 := Nat.le_of_eq hbut.size.symm
    simp only [World.heap_drewN] at z6 y6
    have p6 : Fk .u64 len0 u6 g sw' := hbut.fk (by omega) (p5.drewN q2)
    have x6 : Fk .u64 len0 u6 u3.heap.size sw' := hbut.fk (by omega) (x5.drewN q2)
    have C6 : Below w.heap.size w u6 := (show Below w.heap.size w (u5.drewN q2) from ⟨C5.os, C5.tape, C5.output, C5.size, C5.block⟩).trans (hbut.below (by omega))
    clear hbut p5 x5 f5' f5 C5 f4 p4 x4 C4 B5'
    go_wp2_with (fail)
    refine (eqUint64_any _ _ _ _ _ sw' sw' u6 x6.sl p6.sl (fun _ _ => rfl) (by omega)).mono ?_
    rintro e w' ⟨rfl, q3, rfl⟩
    go_wp2_with (fail)
    refine (markUint64_any u3.heap.size _ _ sw' 1 (u6.drewN q3) (x6.drewN q3) (by omega) (by omega) (by omega)).mono ?_
    rintro e u7 ⟨rfl, x7, hbut⟩
    have z7 := Nat.le_of_eq hbut.size
    have y7 := Nat.le_of_eq hbut.size.symm
    simp only [World.heap_drewN] at z7 y7
    have p7 : Fk .u64 len0 u7 g sw' := hbut.fk (by omega) (p6.drewN q3)
    have C7 : Below w.heap.size w u7 := (show Below w.heap.size w (u6.drewN q3) from ⟨C6.os, C6.tape, C6.output, C6.size, C6.block⟩).trans (hbut.below (by omega))
    clear hbut p6 x6 C6 f6
    go_wp2_with (fail)
    refine (heldUint64_any _ _ _ 1 u7 x7.sl (by omega) (by omega) (by omega)).mono ?_
    rintro e u7 ⟨rfl, rfl⟩
    go_wp2_with (fail)
    refine (toUint64_any a0 len0 cap0 f u7 (hs.later C7) (by omega)).mono ?_
    rintro e u8 ⟨rfl, f8, B8, z8⟩
    have p8 := p7.later B8
    have x8 := x7.later B8
    have C8 := C7.trans (B8.mono (by omega))
    clear B8 p7 x7 C7
    go_wp2_with (fail)
    refine (done_any _ len0 len0 f u8 f8.sl (by omega) (Nat.le_refl _) HW.out).mono ?_
    rintro e u9 ⟨sw, rfl, dq, y9, B9, z9⟩
    obtain rfl : sw = sw' := dnq_one dq DQ.out
    have p9 := p8.later B9
    have x9 := x8.later B9
    have C9 := C8.trans (B9.mono (by omega))
    clear B9 p8 x8 C8 f8 dq
    go_wp2_with (fail)
    refine (eqUint64_any _ _ _ _ _ sw sw u9 y9.sl p9.sl (fun _ _ => rfl) (by omega)).mono ?_
    rintro e w' ⟨rfl, q4, rfl⟩
    go_wp2_with (fail)
    refine (heldUint64_any _ _ _ 1 (u9.drewN q4) (x9.drewN q4).sl (by omega) (by omega) (by omega)).mono ?_
    rintro e w' ⟨rfl, rfl⟩
    go_wp2_with (fail)
    go_ret
    exact ⟨rfl, ⟨C9.os, C9.tape, C9.output, C9.size, C9.block⟩⟩

set_option maxRecDepth 100000 in
theorem lifted (os : Os) (started : os.Started) (H : Type) (enc : TypeId × Value → H) :
    ReturnsInHanded {} Try.checked os 9 .any (Rows.fnExactCensDoneSpec.pre6 enc Try.prog Try.f9 Rows.fnExactCensDoneRow.domain false) (Rows.fnExactCensDoneSpec.post enc Try.prog Try.f9 false true false false) := by
  refine returnsInHanded_of_change (C := Try.checked) own started (by kernel_rfl) Try.func9
    (ChangeSpec.witness6 (enc := enc) (C := Try.checked) false ⟨#[], #[.slice none 0 0], []⟩ 8 (by kernel_rfl) (by kernel_rfl) (by kernel_rfl) (by kernel_rfl)) ?_
  intro W base args ds gs before hval0 hW hcnd _
  have hval : ∀ (j : Nat) t v, Try.f9.params[j]? = some t → args[j]? = some v → Value.okWide Try.prog W .any base t v := hval0
  have hW' := hW
  obtain ⟨p, q, hA0, hV, rfl, hfz, hnd⟩ := hW
  have hA : DataW.TrodAll enc Try.prog W 0 (fun _ => true) true Try.f9.params.toList args.toList ds p := hA0
  rw [Try.params9] at hA hval
  obtain ⟨v0, vs0, d0, ds0, p0, q0, hargs, rfl, rfl, h0, r0⟩ := trodAll_cons hA
  obtain ⟨rfl, rfl, rfl⟩ := trodAll_nil r0
  obtain rfl : args = #[v0] := by cases args; simp_all
  obtain ⟨rfl, rfl⟩ := trodVars_none hV
  obtain ⟨a0, len0, cap0, rfl⟩ := okWide_slice Try.underlying26 (hval 0 26 v0 rfl rfl)
  have k0 := h0
  have lt0 : ∀ x ∈ p0, x.block < W.heap.size := by obtain ⟨m, hm⟩ := k0; exact DataW.trod_lt m _ _ _ hm
  obtain ⟨z0, w0⟩ : ∃ zs, IsRow .u64 W a0 len0 cap0 zs := by
    obtain ⟨fuel, hf⟩ := h0
    rcases open_ints Try.underlying26 Try.underlying65 (by kernel_rfl) hf with ⟨hcs, _⟩ | ⟨x, l, c, zs, hcs, _, hl, hm, hz, _, hcell, hwz⟩
    · simp [Value.cells] at hcs
      obtain ⟨rfl, rfl, rfl⟩ := hcs
      exact ⟨[], .inl ⟨rfl, rfl, rfl, rfl⟩⟩
    · simp [Value.cells] at hcs
      obtain ⟨rfl, rfl, rfl⟩ := hcs
      exact ⟨zs, .inr ⟨_, rfl, hl, hm, by simpa using hz, hcell, hwz⟩⟩
  clear hA0 hval0
  refine (walk a0 len0 cap0 z0 W w0).mono fun e W' ⟨he, bel⟩ => ?_
  subst he
  exact ⟨_, rfl, _, _, _, [], _, [], hW', trodAll_mk1 (shut_bool Try.underlying4 _), (trodAll_cons_mk (Below.trod laidOut (by kernel_rfl) (of_decide_eq_true (by kernel_rfl)) k0 bel lt0) trodAll_mk0), rfl, bel.frame _, fun h => by cases h⟩

theorem over : Rows.fnExactCensDoneRow.holds Try.pinned (OpenSpec.ofChange Rows.fnExactCensDoneSpec) :=
  OpenClaim.holds_of_wide 9 Try.f9 rfl rfl rfl rfl rfl rfl rfl ⟨rfl, rfl, rfl, rfl, rfl⟩ rfl rfl rfl rfl rfl (by kernel_rfl) Try.func9 (by kernel_rfl)
    (of_decide_eq_true (by kernel_rfl)) (by unfold Func.isWrapper; first | (rw [if_pos (by decide +kernel)]; kernel_rfl) | (rw [if_neg (by decide +kernel)]; exact ⟨rfl, rfl⟩))
    (fun os started H enc _ => lifted os started H enc)

end Go.Proofs.Ytfijhclocncplaa.fnExactCensDone
namespace Go.Proofs.Ytfijhclocncplaa
theorem fnExactCensDone_holds : Rows.FnExactCensDoneSaid := fnExactCensDone.over
#print axioms fnExactCensDone_holds
end Go.Proofs.Ytfijhclocncplaa

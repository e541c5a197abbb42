/- Whatever code is handed in (a slice of bytes): of the words, the address and the two words that are drawn of it, a swap puts the new word just if the old one is there, turns no other, can be swapped back, and what is loaded then is what was put. Conditions: none. -/
import Derived.Test.YtddpboaejjcicaaRows
import Derived.Test.YtddpboaejjcicaaDraw
import Derived.Test.YtddpboaejjcicaaOpen
import Derived.Test.YtddpboaejjcicaaAid
import Derived.Test.YtddpboaejjcicaaLst
import Derived.Test.YtddpboaejjcicaaSeek
import Derived.Test.YtddpboaejjcicaaSwap
import Derived.Test.YtddpboaejjcicaaSwap2
import Derived.Test.YtddpboaejjcicaaDrawPlat
import Derived.WalkKit
import Derived.ProofKit
import Derived.OpenShut
import Derived.ShutString
import Derived.ChangeOld
import Derived.Below
import Derived.Lib.SmallJoins
namespace Go.Proofs.Ytddpboaejjcicaa.fnPlatSwap
open Go.ChangeShapes Go.WideShapes Go.ChangeAt Go.RowKit
open Go.Proofs.Ytddpboaejjcicaa.Aid
open Go.Proofs.Ytddpboaejjcicaa.Draw
open Go.Proofs.Ytddpboaejjcicaa.Lst
open Go.Proofs.Ytddpboaejjcicaa.Plat
open Go.ChangeMaps (open_string shut_string)
set_option linter.unusedVariables false

theorem own : ownKnob Try.prog.godebug = none := by kernel_rfl
theorem laidOut : laidOutB Try.prog = true := by kernel_rfl

def IsRow (k : IntKind) (w : World) (a : Option Addr) (len cap : Nat) (zs : List Int) : Prop :=
  (a = none ∧ len = 0 ∧ cap = 0 ∧ zs = []) ∨
  ∃ x, a = some x ∧ len ≤ cap ∧ cap ≤ maxLen ∧ zs.length = cap ∧ (∀ i, i < zs.length → w.cell? (x.add i) = some (.int k (zs.getD i 0))) ∧ ∀ n ∈ zs, (Lit.int k n).wf = true

set_option maxRecDepth 100000 in
set_option maxHeartbeats 4000000 in
theorem walk (a0 : Option Addr) (len0 cap0 : Nat) (z0 : List Int) (w : World) (w0 : IsRow .u8 w a0 len0 cap0 z0) :
    Calls Try.prog 4 #[.slice a0 len0 cap0] w fun e w' => e = .returned (.bool true) ∧ Below w.heap.size w w' := by
  have r0 := row_of w0
  clear w0
  have m0 := r0.1
  unfold maxLen at m0
  by_cases h0 : (1048576 : Int) < len0
  · go_enter Try.func4, Try.ntmps4
    go_wp2_with (fail)
    go_ret
    exact ⟨rfl, Below.refl _ _⟩
  go_enter Try.func4, Try.ntmps4
  go_wp2_with (fail)
  refine (drawSwap_any a0 len0 cap0 z0 w r0).mono ?_
  rintro e u1 ⟨g, n, c, f, i, old, now, rfl, n5, f1, i0, i1, g0, g1, B1⟩
  clear r0
  go_wp2_with (fail)
  refine (swap_any _ n c f i old now u1 f1.sl (by omega)).mono ?_
  rintro e u2 ⟨rfl, x2, B2, z2⟩
  have f2 := f1.later B2
  have C2 := B1.trans (B2.mono (by omega))
  clear B1 B2 f1
  go_wp2_with (fail)
  refine (sswap_any g 0 n c f i old now u2 (fun j hj => by simpa using (f2 j hj).1) (by omega)).mono ?_
  rintro e u3 ⟨g3, c3, g30, g31, rfl, -, B3⟩
  have f3 := f2.later B3
  have x3 := x2.later B3
  have C3 := C2.trans (B3.mono (by omega))
  clear B3 f2 x2 C2
  by_cases hi : 0 ≤ i ∧ i < n
  · obtain ⟨j, rfl⟩ := Int.eq_ofNat_of_zero_le hi.1
    have hlt : (j : Int) < n := hi.2
    have d1 : decide (0 ≤ (j : Int)) = true := by simp
    have d2 : decide ((j : Int) < n) = true := by simp; omega
    have hgetj : getF n f j = f j := by unfold getF; rw [if_pos hi]; rfl
    by_cases ho : f j = old
    · have hh : hit n f j old = true := hit_t ⟨hi.1, hi.2, by simpa using ho⟩
      have hsj : swF n f j old now j = now := by unfold swF; rw [if_pos ⟨hh, by simp⟩]
      have hso : ∀ k, k ≠ j → swF n f j old now k = f k := fun k hk => by unfold swF; rw [if_neg (fun h => hk (by simpa using h.2))]
      generalize hswd : swF n f j old now = sw at *
      have hh2 : hit n sw j now = true := hit_t ⟨hi.1, hi.2, by simpa using hsj⟩
      have hget2 : getF n sw j = now := by unfold getF; rw [if_pos hi]; simpa using hsj
      have hyj : ∀ k, swF n sw j now old k = f k := fun k => by
        unfold swF
        by_cases e : k = j
        · subst e; rw [if_pos ⟨hh2, by simp⟩]; exact ho.symm
        · rw [if_neg (fun h => e (by simpa using h.2))]; exact hso k e
      have HY : Hid (∀ k, swF n sw j now old k = f k) := hyj
      have HSO : Hid (∀ k, k ≠ j → sw k = f k) := hso
      have HO : Hid (f j = old) := ho
      have H2 : Hid (hit n sw j now = true) := hh2
      have HG2 : Hid (getF n sw j = now) := hget2
      have HG : Hid (getF n f j = f j) := hgetj
      have hoe : (f j == old) = true := by simpa using ho
      rw [hh]
      clear hyj hso ho hh2 hget2 hgetj hswd hsj hh
      go_wp2_with (fail)
      refine (load_any _ n c f j u3 f3.sl (fun h => by cases h) (by omega)).mono ?_
      rintro e u4 ⟨rfl, B4⟩
      rw [HG.out]
      have f4 := f3.later B4
      have x4 := x3.later B4
      have C4 := C3.trans (B4.mono (by omega))
      have z4 := B4.size
      clear B4 f3 x3 C3
      go_wp2_with (fail)
      go_loopw [11] (fun t wr => ∃ k : Nat, k ≤ n ∧ t = .int .i64 k ∧ ∃ q, wr = u4.drewN q) (fun t _ => n - (intOf t).toNat)
      case atStart => exact ⟨0, by omega, rfl, 0, rfl⟩
      case round =>
        obtain ⟨k, hk, rfl, q, rfl⟩ := hrel
        by_cases hkn : (k : Int) < n
        · by_cases hkj : k = j
          · subst hkj
            have e1 : ((k : Int) != k) = false := by simp
            go_wp2_with (fail)
            go_quiet (fail)
            go_wp2_with (fail)
            go_roundw
            case rel => exact ⟨k + 1, by omega, by go_num, q + nq, rfl⟩
            case measure => simp [intOf]; omega
          · have e1 : ((k : Int) != j) = true := by simp; omega
            have c1 : (u4.drewN q).cell? ⟨u1.heap.size, k, none⟩ = some (.int .u64 (f k)) := by
              have := (x4 k (by omega)).1
              rw [HSO.out k hkj] at this; exact this
            have c2 : (u4.drewN q).cell? ⟨g, k, none⟩ = some (.int .u64 (f k)) := (f4 k (by omega)).1
            generalize hW : u4.drewN q = W at c1 c2 ⊢
            have HW : Hid (u4.drewN q = W) := hW
            clear hW
            go_wp2_with (fail)
            go_quiet (fail)
            go_wp2_with (fail)
            go_roundw
            case rel => exact ⟨k + 1, by omega, by go_num, q + nq, by rw [← HW.out]; exact World.drewN_drewN _ _ _⟩
            case measure => simp [intOf]; omega
        · go_wp2_with (fail)
          refine (swap_any _ n n sw j now old (u4.drewN q) (x4.drewN q).sl (by omega)).mono ?_
          rintro e u5 ⟨rfl, y5, B5, z5⟩
          rw [H2.out]
          have y5' : Fk .u64 n u5 (u4.drewN q).heap.size f := y5.congr (fun k _ => (HY.out k).symm)
          have f5 := (f4.drewN q).later B5
          have x5 := (x4.drewN q).later B5
          have C4' : Below w.heap.size w (u4.drewN q) := ⟨C4.os, C4.tape, C4.output, C4.size, C4.block⟩
          have C5 := C4'.trans (B5.mono (by simp only [World.heap_drewN]; omega))
          simp only [World.heap_drewN] at y5' z5
          clear B5 y5 C4 C4' f4 x4
          go_wp2_with (fail)
          go_loopw [14] (fun t wr => ∃ k : Nat, k ≤ n ∧ t = .int .i64 k ∧ ∃ q, wr = u5.drewN q) (fun t _ => n - (intOf t).toNat)
          case atStart => exact ⟨0, by omega, rfl, 0, rfl⟩
          case round =>
            obtain ⟨k2, hk2, rfl, q2, rfl⟩ := hrel
            by_cases hkn2 : (k2 : Int) < n
            · have c1 : (u5.drewN q2).cell? ⟨u4.heap.size, k2, none⟩ = some (.int .u64 (f k2)) := (y5' k2 (by omega)).1
              have c2 : (u5.drewN q2).cell? ⟨g, k2, none⟩ = some (.int .u64 (f k2)) := (f5 k2 (by omega)).1
              generalize hW : u5.drewN q2 = W at c1 c2 ⊢
              have HW : Hid (u5.drewN q2 = W) := hW
              clear hW
              go_wp2_with (fail)
              go_quiet (fail)
              go_wp2_with (fail)
              go_roundw
              case rel => exact ⟨k2 + 1, by omega, by go_num, q2 + nq, by rw [← HW.out]; exact World.drewN_drewN _ _ _⟩
              case measure => simp [intOf]; omega
            · go_wp2_with (fail)
              refine (load_any _ n n sw j (u5.drewN q2) (x5.drewN q2).sl (fun h => by cases h) (by omega)).mono ?_
              rintro e u6 ⟨rfl, B6⟩
              rw [HG2.out]
              go_wp2_with (fail)
              go_ret
              exact ⟨rfl, (show Below w.heap.size w (u5.drewN q2) from ⟨C5.os, C5.tape, C5.output, C5.size, C5.block⟩).trans (B6.mono (by simp only [World.heap_drewN]; omega))⟩
    · have hh : hit n f j old = false := hit_f (fun h => ho (by simpa using h.2.2))
      have HSF : Hid (∀ k, swF n f j old now k = f k) := fun k => swF_f hh k
      have HG : Hid (getF n f j = f j) := hgetj
      have hoe : (f j == old) = false := by simpa using ho
      rw [hh]
      clear hgetj hh ho
      generalize swF n f j old now = sw at *
      go_wp2_with (fail)
      refine (load_any _ n c f j u3 f3.sl (fun h => by cases h) (by omega)).mono ?_
      rintro e u4 ⟨rfl, B4⟩
      rw [HG.out]
      have f4 := f3.later B4
      have x4 := x3.later B4
      have C4 := C3.trans (B4.mono (by omega))
      have z4 := B4.size
      clear B4 f3 x3 C3
      go_wp2_with (fail)
      go_loopw [11] (fun t wr => ∃ k : Nat, k ≤ n ∧ t = .int .i64 k ∧ ∃ q, wr = u4.drewN q) (fun t _ => n - (intOf t).toNat)
      case atStart => exact ⟨0, by omega, rfl, 0, rfl⟩
      case round =>
        obtain ⟨k, hk, rfl, q, rfl⟩ := hrel
        by_cases hkn : (k : Int) < n
        · by_cases hkj : ((k : Int) != j) = true
          · skip
            have c1 : (u4.drewN q).cell? ⟨u1.heap.size, k, none⟩ = some (.int .u64 (f k)) := by
              have := (x4 k (by omega)).1
              rw [HSF.out k] at this; exact this
            have c2 : (u4.drewN q).cell? ⟨g, k, none⟩ = some (.int .u64 (f k)) := (f4 k (by omega)).1
            generalize hW : u4.drewN q = W at c1 c2 ⊢
            have HW : Hid (u4.drewN q = W) := hW
            clear hW
            go_wp2_with (fail)
            go_quiet (fail)
            go_wp2_with (fail)
            go_roundw
            case rel => exact ⟨k + 1, by omega, by go_num, q + nq, by rw [← HW.out]; exact World.drewN_drewN _ _ _⟩
            case measure => simp [intOf]; omega
          · have hkj' : ((k : Int) != j) = false := by simpa using hkj
            clear hkj
            have c1 : (u4.drewN q).cell? ⟨u1.heap.size, k, none⟩ = some (.int .u64 (f k)) := by
              have := (x4 k (by omega)).1
              rw [HSF.out k] at this; exact this
            have c2 : (u4.drewN q).cell? ⟨g, k, none⟩ = some (.int .u64 (f k)) := (f4 k (by omega)).1
            generalize hW : u4.drewN q = W at c1 c2 ⊢
            have HW : Hid (u4.drewN q = W) := hW
            clear hW
            go_wp2_with (fail)
            go_quiet (fail)
            go_wp2_with (fail)
            go_roundw
            case rel => exact ⟨k + 1, by omega, by go_num, q + nq, by rw [← HW.out]; exact World.drewN_drewN _ _ _⟩
            case measure => simp [intOf]; omega
        · go_wp2_with (fail)
          refine (swap_any _ n n _ j now old (u4.drewN q) (x4.drewN q).sl (by omega)).mono ?_
          rintro e u5 ⟨rfl, -, B5, z5⟩
          go_wp2_with (fail)
          go_ret
          exact ⟨rfl, (show Below w.heap.size w (u4.drewN q) from ⟨C4.os, C4.tape, C4.output, C4.size, C4.block⟩).trans (B5.mono (by simp only [World.heap_drewN]; omega))⟩
  · have hh : hit n f i old = false := hit_f (fun h => hi ⟨h.1, h.2.1⟩)
    have HSF : Hid (∀ k, swF n f i old now k = f k) := fun k => swF_f hh k
    rw [hh]
    by_cases hi0 : i < 0
    · have d1 : decide (0 ≤ i) = false := by simp; omega
      clear hh hi
      generalize swF n f i old now = sw at *
      go_wp2_with (fail)
      go_loopw [11] (fun t wr => ∃ k : Nat, k ≤ n ∧ t = .int .i64 k ∧ ∃ q, wr = u3.drewN q) (fun t _ => n - (intOf t).toNat)
      case atStart => exact ⟨0, by omega, rfl, 0, rfl⟩
      case round =>
        obtain ⟨k, hk, rfl, q, rfl⟩ := hrel
        by_cases hkn : (k : Int) < n
        · have hkj : ((k : Int) != i) = true := by simp; omega
          have c1 : (u3.drewN q).cell? ⟨u1.heap.size, k, none⟩ = some (.int .u64 (f k)) := by
            have := (x3 k (by omega)).1
            rw [HSF.out k] at this; exact this
          have c2 : (u3.drewN q).cell? ⟨g, k, none⟩ = some (.int .u64 (f k)) := (f3 k (by omega)).1
          generalize hW : u3.drewN q = W at c1 c2 ⊢
          have HW : Hid (u3.drewN q = W) := hW
          clear hW
          go_wp2_with (fail)
          go_quiet (fail)
          go_wp2_with (fail)
          go_roundw
          case rel => exact ⟨k + 1, by omega, by go_num, q + nq, by rw [← HW.out]; exact World.drewN_drewN _ _ _⟩
          case measure => simp [intOf]; omega
        · go_wp2_with (fail)
          refine (swap_any _ n n _ i now old (u3.drewN q) (x3.drewN q).sl (by omega)).mono ?_
          rintro e u5 ⟨rfl, -, B5, z5⟩
          go_wp2_with (fail)
          go_ret
          exact ⟨rfl, (show Below w.heap.size w (u3.drewN q) from ⟨C3.os, C3.tape, C3.output, C3.size, C3.block⟩).trans (B5.mono (by simp only [World.heap_drewN]; omega))⟩
    · have d1 : decide (0 ≤ i) = true := by simp; omega
      have d2 : decide (i < (n : Int)) = false := by simp; omega
      have hin : (n : Int) ≤ i := by omega
      clear hh hi
      generalize swF n f i old now = sw at *
      go_wp2_with (fail)
      go_loopw [11] (fun t wr => ∃ k : Nat, k ≤ n ∧ t = .int .i64 k ∧ ∃ q, wr = u3.drewN q) (fun t _ => n - (intOf t).toNat)
      case atStart => exact ⟨0, by omega, rfl, 0, rfl⟩
      case round =>
        obtain ⟨k, hk, rfl, q, rfl⟩ := hrel
        by_cases hkn : (k : Int) < n
        · have hkj : ((k : Int) != i) = true := by simp; omega
          have c1 : (u3.drewN q).cell? ⟨u1.heap.size, k, none⟩ = some (.int .u64 (f k)) := by
            have := (x3 k (by omega)).1
            rw [HSF.out k] at this; exact this
          have c2 : (u3.drewN q).cell? ⟨g, k, none⟩ = some (.int .u64 (f k)) := (f3 k (by omega)).1
          generalize hW : u3.drewN q = W at c1 c2 ⊢
          have HW : Hid (u3.drewN q = W) := hW
          clear hW
          go_wp2_with (fail)
          go_quiet (fail)
          go_wp2_with (fail)
          go_roundw
          case rel => exact ⟨k + 1, by omega, by go_num, q + nq, by rw [← HW.out]; exact World.drewN_drewN _ _ _⟩
          case measure => simp [intOf]; omega
        · go_wp2_with (fail)
          refine (swap_any _ n n _ i now old (u3.drewN q) (x3.drewN q).sl (by omega)).mono ?_
          rintro e u5 ⟨rfl, -, B5, z5⟩
          go_wp2_with (fail)
          go_ret
          exact ⟨rfl, (show Below w.heap.size w (u3.drewN q) from ⟨C3.os, C3.tape, C3.output, C3.size, C3.block⟩).trans (B5.mono (by simp only [World.heap_drewN]; omega))⟩

set_option maxRecDepth 100000 in
theorem lifted (os : Os) (started : os.Started) (H : Type) (enc : TypeId × Value → H) :
    ReturnsInHanded {} Try.checked os 4 .any (Rows.fnPlatSwapSpec.pre6 enc Try.prog Try.f4 Rows.fnPlatSwapRow.domain false) (Rows.fnPlatSwapSpec.post enc Try.prog Try.f4 false true false false) := by
  refine returnsInHanded_of_change (C := Try.checked) own started (by kernel_rfl) Try.func4
    (ChangeSpec.witness6 (enc := enc) (C := Try.checked) false ⟨#[], #[.slice none 0 0], []⟩ 8 (by kernel_rfl) (by kernel_rfl) (by kernel_rfl) (by kernel_rfl)) ?_
  intro W base args ds gs before hval0 hW hcnd _
  have hval : ∀ (j : Nat) t v, Try.f4.params[j]? = some t → args[j]? = some v → Value.okWide Try.prog W .any base t v := hval0
  have hW' := hW
  obtain ⟨p, q, hA0, hV, rfl, hfz, hnd⟩ := hW
  have hA : DataW.TrodAll enc Try.prog W 0 (fun _ => true) true Try.f4.params.toList args.toList ds p := hA0
  rw [Try.params4] at hA hval
  obtain ⟨v0, vs0, d0, ds0, p0, q0, hargs, rfl, rfl, h0, r0⟩ := trodAll_cons hA
  obtain ⟨rfl, rfl, rfl⟩ := trodAll_nil r0
  obtain rfl : args = #[v0] := by cases args; simp_all
  obtain ⟨rfl, rfl⟩ := trodVars_none hV
  obtain ⟨a0, len0, cap0, rfl⟩ := okWide_slice Try.underlying22 (hval 0 22 v0 rfl rfl)
  have k0 := h0
  have lt0 : ∀ x ∈ p0, x.block < W.heap.size := by obtain ⟨m, hm⟩ := k0; exact DataW.trod_lt m _ _ _ hm
  obtain ⟨z0, w0⟩ : ∃ zs, IsRow .u8 W a0 len0 cap0 zs := by
    obtain ⟨fuel, hf⟩ := h0
    rcases open_ints Try.underlying22 Try.underlying5 (by kernel_rfl) hf with ⟨hcs, _⟩ | ⟨x, l, c, zs, hcs, _, hl, hm, hz, _, hcell, hwz⟩
    · simp [Value.cells] at hcs
      obtain ⟨rfl, rfl, rfl⟩ := hcs
      exact ⟨[], .inl ⟨rfl, rfl, rfl, rfl⟩⟩
    · simp [Value.cells] at hcs
      obtain ⟨rfl, rfl, rfl⟩ := hcs
      exact ⟨zs, .inr ⟨_, rfl, hl, hm, by simpa using hz, hcell, hwz⟩⟩
  clear hA0 hval0
  refine (walk a0 len0 cap0 z0 W w0).mono fun e W' ⟨he, bel⟩ => ?_
  subst he
  exact ⟨_, rfl, _, _, _, [], _, [], hW', trodAll_mk1 (shut_bool Try.underlying4 _), (trodAll_cons_mk (Below.trod laidOut (by kernel_rfl) (of_decide_eq_true (by kernel_rfl)) k0 bel lt0) trodAll_mk0), rfl, bel.frame _, fun h => by cases h⟩

theorem over : Rows.fnPlatSwapRow.holds Try.pinned (OpenSpec.ofChange Rows.fnPlatSwapSpec) :=
  OpenClaim.holds_of_wide 4 Try.f4 rfl rfl rfl rfl rfl rfl rfl ⟨rfl, rfl, rfl, rfl, rfl⟩ rfl rfl rfl rfl rfl (by kernel_rfl) Try.func4 (by kernel_rfl)
    (of_decide_eq_true (by kernel_rfl)) (by unfold Func.isWrapper; first | (rw [if_pos (by decide +kernel)]; kernel_rfl) | (rw [if_neg (by decide +kernel)]; exact ⟨rfl, rfl⟩))
    (fun os started H enc _ => lifted os started H enc)

end Go.Proofs.Ytddpboaejjcicaa.fnPlatSwap
namespace Go.Proofs.Ytddpboaejjcicaa
theorem fnPlatSwap_holds : Rows.FnPlatSwapSaid := fnPlatSwap.over
#print axioms fnPlatSwap_holds
end Go.Proofs.Ytddpboaejjcicaa

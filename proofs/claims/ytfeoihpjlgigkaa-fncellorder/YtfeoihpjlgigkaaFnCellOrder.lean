/- Whatever two codes are handed in (slices of bytes): of the two words that are drawn of them the one with the greater stamp is the greater number, and with the same stamp that with the greater value. Conditions: none. -/
import Derived.Test.YtfeoihpjlgigkaaRows
import Derived.Test.YtfeoihpjlgigkaaDraw
import Derived.Test.YtfeoihpjlgigkaaOpen
import Derived.Test.YtfeoihpjlgigkaaCell
import Derived.WalkKit
import Derived.ProofKit
import Derived.OpenShut
import Derived.ShutString
import Derived.ChangeOld
import Derived.Below
namespace Go.Proofs.Ytfeoihpjlgigkaa.fnCellOrder
open Go.ChangeShapes Go.WideShapes Go.ChangeAt Go.RowKit
open Go.Proofs.Ytfeoihpjlgigkaa.Words
open Go.Proofs.Ytfeoihpjlgigkaa.Draw
open Go.ChangeMaps (open_string shut_string)
set_option linter.unusedVariables false

theorem own : ownKnob Try.prog.godebug = none := by kernel_rfl
theorem laidOut : laidOutB Try.prog = true := by kernel_rfl

/-- WHAT THE WALK IS TOLD OF A SLICE OF INTEGERS THAT CAME IN: it is nil; or it leads to a row of 'cap' cells, the numbers 'zs' (the first 'len' are its elements, the rest its spare room), each fitting its kind. -/
def IsRow (k : IntKind) (w : World) (a : Option Addr) (len cap : Nat) (zs : List Int) : Prop :=
  (a = none ∧ len = 0 ∧ cap = 0 ∧ zs = []) ∨
  ∃ x, a = some x ∧ len ≤ cap ∧ cap ≤ maxLen ∧ zs.length = cap ∧ (∀ i, i < zs.length → w.cell? (x.add i) = some (.int k (zs.getD i 0))) ∧ ∀ n ∈ zs, (Lit.int k n).wf = true

/-! ### STEP 1: THE WALK: the Go text returns true, AND WRITES NOTHING THAT WAS THERE: 'Below w.heap.size w w'' (Derived/Below.lean: '.refl', '.alloc', '.drew', '.setCell' at a new block, '.trans'). Open each 'IsRow' by 'rcases' AHEAD of 'go_enter'; part every test ahead of the walk. -/
set_option maxHeartbeats 4000000 in
theorem walk (a0 : Option Addr) (len0 cap0 : Nat) (z0 : List Int) (a1 : Option Addr) (len1 cap1 : Nat) (z1 : List Int) (w : World) (w0 : IsRow .u8 w a0 len0 cap0 z0) (w1 : IsRow .u8 w a1 len1 cap1 z1) :
    Calls Try.prog 4 #[.slice a0 len0 cap0, .slice a1 len1 cap1] w fun e w' => e = .returned (.bool true) ∧ Below w.heap.size w w' := by
  have r0 := row_of w0
  have r1 := row_of w1
  clear w0 w1
  have m0 := r0.1
  have m1 := r1.1
  unfold maxLen at m0 m1
  by_cases h0 : (1048576 : Int) < len0
  · go_enter Try.func4, Try.ntmps4
    go_wp2_with (fail)
    go_ret
    exact ⟨rfl, Below.refl _ _⟩
  by_cases h1 : (1048576 : Int) < len1
  · go_enter Try.func4, Try.ntmps4
    go_wp2_with (fail)
    go_ret
    exact ⟨rfl, Below.refl _ _⟩
  go_enter Try.func4, Try.ntmps4
  go_wp2_with (fail)
  refine (drawPack_any a0 len0 cap0 z0 w r0).mono ?_
  rintro e w1 ⟨v, s, rfl, v0, v1, s0, s1, hb1⟩
  have r1' := r1.below hb1
  go_wp2_with (fail)
  refine (drawPack_any a1 len1 cap1 z1 w1 r1').mono ?_
  rintro e w2 ⟨v', s', rfl, v0', v1', s0', s1', hb2⟩
  have hb : Below w.heap.size w w2 := hb1.trans (hb2.mono hb1.size)
  go_wp2_with (fail)
  refine (pack_any v s _).mono ?_
  rintro e w' ⟨rfl, rfl⟩
  go_wp2_with (fail)
  refine (pack_any v' s' _).mono ?_
  rintro e w' ⟨rfl, rfl⟩
  go_wp2_with (fail)
  refine (spack_any v s _).mono ?_
  rintro e w' ⟨rfl, rfl⟩
  have x0 := pack_lo v s
  have x1 := pack_hi v s
  have y0 := pack_lo v' s'
  have y1 := pack_hi v' s'
  go_wp2_with (fail)
  generalize pack v s = x at *
  generalize pack v' s' = y at *
  refine (st_any x _ x0 x1).mono ?_
  rintro e w' ⟨rfl, rfl⟩
  go_wp2_with (fail)
  refine (st_any y _ y0 y1).mono ?_
  rintro e w' ⟨rfl, rfl⟩
  go_wp2_with (fail)
  refine (val_any x _ x0 x1).mono ?_
  rintro e w' ⟨rfl, rfl⟩
  go_wp2_with (fail)
  refine (val_any y _ y0 y1).mono ?_
  rintro e w' ⟨rfl, rfl⟩
  have ex : x = x / 4294967296 * 4294967296 + lo32 x := by unfold lo32; omega
  have ey : y = y / 4294967296 * 4294967296 + lo32 y := by unfold lo32; omega
  have lx := lo32_lo x
  have lx1 := lo32_hi x
  have ly := lo32_lo y
  have ly1 := lo32_hi y
  generalize lo32 x = lx' at *
  generalize lo32 y = ly' at *
  by_cases c1 : x / 4294967296 < y / 4294967296
  · have d1 : x < y := by omega
    have d2 : (x == y) = false := by simp; omega
    have d3 : (x / 4294967296 == y / 4294967296) = false := by simp; omega
    clear ex ey
    go_wp2_with (fail)
    go_ret
    exact ⟨rfl, hb⟩
  · by_cases c2 : x / 4294967296 = y / 4294967296
    · have c2b : (x / 4294967296 == y / 4294967296) = true := by simp; omega
      rcases Int.lt_trichotomy lx' ly' with c3 | c3 | c3
      · have d1 : x < y := by omega
        have d2 : (x == y) = false := by simp; omega
        have d3 : (lx' == ly') = false := by simp; omega
        clear ex ey c2
        go_wp2_with (fail)
        go_ret
        exact ⟨rfl, hb⟩
      · have d1 : ¬ x < y := by omega
        have d2 : (x == y) = true := by simp; omega
        have d3 : (lx' == ly') = true := by simp; omega
        have d4 : ¬ lx' < ly' := by omega
        have e1 : decide (x < y) = false := by simp; omega
        have e2 : decide (x / 4294967296 < y / 4294967296) = false := by simp; omega
        have e3 : decide (lx' < ly') = false := by simp; omega
        clear ex ey c2 c3
        go_wp2_with (fail)
        go_ret
        exact ⟨rfl, hb⟩
      · have d1 : ¬ x < y := by omega
        have d2 : (x == y) = false := by simp; omega
        have d3 : (lx' == ly') = false := by simp; omega
        have d4 : ¬ lx' < ly' := by omega
        have e1 : decide (x < y) = false := by simp; omega
        have e2 : decide (x / 4294967296 < y / 4294967296) = false := by simp; omega
        have e3 : decide (lx' < ly') = false := by simp; omega
        clear ex ey c2
        go_wp2_with (fail)
        go_ret
        exact ⟨rfl, hb⟩
    · have d1 : ¬ x < y := by omega
      have d2 : (x == y) = false := by simp; omega
      have d3 : (x / 4294967296 == y / 4294967296) = false := by simp; omega
      clear ex ey c2
      go_wp2_with (fail)
      go_ret
      exact ⟨rfl, hb⟩

/-! ### THE ROW's STEP: WRITTEN OUT: LEAVE IT -/
set_option maxRecDepth 100000 in
theorem lifted (os : Os) (started : os.Started) (H : Type) (enc : TypeId × Value → H) :
    ReturnsInHanded {} Try.checked os 4 .any (Rows.fnCellOrderSpec.pre6 enc Try.prog Try.f4 Rows.fnCellOrderRow.domain false) (Rows.fnCellOrderSpec.post enc Try.prog Try.f4 false true false false) := by
  refine returnsInHanded_of_change (C := Try.checked) own started (by kernel_rfl) Try.func4
    (ChangeSpec.witness6 (enc := enc) (C := Try.checked) false ⟨#[], #[.slice none 0 0, .slice none 0 0], []⟩ 8 (by kernel_rfl) (by kernel_rfl) (by kernel_rfl) (by kernel_rfl)) ?_
  intro W base args ds gs before hval0 hW hcnd _
  have hval : ∀ (j : Nat) t v, Try.f4.params[j]? = some t → args[j]? = some v → Value.okWide Try.prog W .any base t v := hval0
  have hW' := hW
  obtain ⟨p, q, hA0, hV, rfl, hfz, hnd⟩ := hW
  have hA : DataW.TrodAll enc Try.prog W 0 (fun _ => true) true Try.f4.params.toList args.toList ds p := hA0
  rw [Try.params4] at hA hval
  obtain ⟨v0, vs0, d0, ds0, p0, q0, hargs, rfl, rfl, h0, r0⟩ := trodAll_cons hA
  obtain ⟨v1, vs1, d1, ds1, p1, q1, rfl, rfl, rfl, h1, r1⟩ := trodAll_cons r0
  obtain ⟨rfl, rfl, rfl⟩ := trodAll_nil r1
  obtain rfl : args = #[v0, v1] := by cases args; simp_all
  obtain ⟨rfl, rfl⟩ := trodVars_none hV
  obtain ⟨a0, len0, cap0, rfl⟩ := okWide_slice Try.underlying22 (hval 0 22 v0 rfl rfl)
  have k0 := h0
  have lt0 : ∀ x ∈ p0, x.block < W.heap.size := by obtain ⟨m, hm⟩ := k0; exact DataW.trod_lt m _ _ _ hm
  obtain ⟨z0, w0⟩ : ∃ zs, IsRow .u8 W a0 len0 cap0 zs := by
    obtain ⟨fuel, hf⟩ := h0
    rcases open_ints Try.underlying22 Try.underlying5 (by kernel_rfl) hf with ⟨hcs, _⟩ | ⟨x, l, c, zs, hcs, _, hl, hm, hz, _, hcell, hwz⟩
    · simp [Value.cells] at hcs
      obtain ⟨rfl, rfl, rfl⟩ := hcs
      exact ⟨[], .inl ⟨rfl, rfl, rfl, rfl⟩⟩
    · simp [Value.cells] at hcs
      obtain ⟨rfl, rfl, rfl⟩ := hcs
      exact ⟨zs, .inr ⟨_, rfl, hl, hm, by simpa using hz, hcell, hwz⟩⟩
  obtain ⟨a1, len1, cap1, rfl⟩ := okWide_slice Try.underlying22 (hval 1 22 v1 rfl rfl)
  have k1 := h1
  have lt1 : ∀ x ∈ p1, x.block < W.heap.size := by obtain ⟨m, hm⟩ := k1; exact DataW.trod_lt m _ _ _ hm
  obtain ⟨z1, w1⟩ : ∃ zs, IsRow .u8 W a1 len1 cap1 zs := by
    obtain ⟨fuel, hf⟩ := h1
    rcases open_ints Try.underlying22 Try.underlying5 (by kernel_rfl) hf with ⟨hcs, _⟩ | ⟨x, l, c, zs, hcs, _, hl, hm, hz, _, hcell, hwz⟩
    · simp [Value.cells] at hcs
      obtain ⟨rfl, rfl, rfl⟩ := hcs
      exact ⟨[], .inl ⟨rfl, rfl, rfl, rfl⟩⟩
    · simp [Value.cells] at hcs
      obtain ⟨rfl, rfl, rfl⟩ := hcs
      exact ⟨zs, .inr ⟨_, rfl, hl, hm, by simpa using hz, hcell, hwz⟩⟩
  clear hA0 hval0
  refine (walk a0 len0 cap0 z0 a1 len1 cap1 z1 W w0 w1).mono fun e W' ⟨he, bel⟩ => ?_
  subst he
  exact ⟨_, rfl, _, _, _, [], _, [], hW', trodAll_mk1 (shut_bool Try.underlying4 _), (trodAll_cons_mk (Below.trod laidOut (by kernel_rfl) (of_decide_eq_true (by kernel_rfl)) k0 bel lt0) (trodAll_cons_mk (Below.trod laidOut (by kernel_rfl) (of_decide_eq_true (by kernel_rfl)) k1 bel lt1) trodAll_mk0)), rfl, bel.frame _, fun h => by cases h⟩

theorem over : Rows.fnCellOrderRow.holds Try.pinned (OpenSpec.ofChange Rows.fnCellOrderSpec) :=
  OpenClaim.holds_of_wide 4 Try.f4 rfl rfl rfl rfl rfl rfl rfl ⟨rfl, rfl, rfl, rfl, rfl⟩ rfl rfl rfl rfl rfl (by kernel_rfl) Try.func4 (by kernel_rfl)
    (of_decide_eq_true (by kernel_rfl)) (by unfold Func.isWrapper; first | (rw [if_pos (by decide +kernel)]; kernel_rfl) | (rw [if_neg (by decide +kernel)]; exact ⟨rfl, rfl⟩))
    (fun os started H enc _ => lifted os started H enc)

/-- ████ THE STATEMENT ████ -/
theorem proved : Rows.FnCellOrderSaid := over
end Go.Proofs.Ytfeoihpjlgigkaa.fnCellOrder
namespace Go.Proofs.Ytfeoihpjlgigkaa
theorem fnCellOrder_holds : Rows.FnCellOrderSaid := fnCellOrder.proved
#print axioms fnCellOrder_holds
end Go.Proofs.Ytfeoihpjlgigkaa

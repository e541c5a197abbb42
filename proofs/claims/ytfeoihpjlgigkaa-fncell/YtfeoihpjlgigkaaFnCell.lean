/- Whatever code is handed in (a slice of bytes): the words that are drawn and packed of it are read back field by field where each number is within its field, and are the specification's; and every drawn word is packed again out of what is read of it. Conditions: none. -/
import Derived.Test.YtfeoihpjlgigkaaRows
import Derived.Test.YtfeoihpjlgigkaaDraw
import Derived.Test.YtfeoihpjlgigkaaOpen
import Derived.Test.YtfeoihpjlgigkaaDrawCell
import Derived.Test.YtfeoihpjlgigkaaCell
import Derived.Test.YtfeoihpjlgigkaaDoor
import Derived.Test.YtfeoihpjlgigkaaOf
import Derived.Test.YtfeoihpjlgigkaaBack
import Derived.WalkKit
import Derived.ProofKit
import Derived.OpenShut
import Derived.ShutString
import Derived.ChangeOld
import Derived.Below
namespace Go.Proofs.Ytfeoihpjlgigkaa.fnCell
open Go.ChangeShapes Go.WideShapes Go.ChangeAt Go.RowKit
open Go.Proofs.Ytfeoihpjlgigkaa.Words
open Go.Proofs.Ytfeoihpjlgigkaa.Draw
open Go.ChangeMaps (open_string shut_string)
set_option linter.unusedVariables false

theorem own : ownKnob Try.prog.godebug = none := by kernel_rfl
theorem laidOut : laidOutB Try.prog = true := by kernel_rfl

/-- WHAT THE WALK IS TOLD OF A SLICE OF INTEGERS THAT CAME IN: it is nil; or it leads to a row of 'cap' cells, the numbers 'zs' (the first 'len' are its elements, the rest its spare room), each fitting its kind. -/
def IsRow (k : IntKind) (w : World) (a : Option Addr) (len cap : Nat) (zs : List Int) : Prop :=
  (a = none ∧ len = 0 ∧ cap = 0 ∧ zs = []) ∨
  ∃ x, a = some x ∧ len ≤ cap ∧ cap ≤ maxLen ∧ zs.length = cap ∧ (∀ i, i < zs.length → w.cell? (x.add i) = some (.int k (zs.getD i 0))) ∧ ∀ n ∈ zs, (Lit.int k n).wf = true

/-! ### STEP 1: THE WALK: the Go text returns true, AND WRITES NOTHING THAT WAS THERE: 'Below w.heap.size w w'' (Derived/Below.lean: '.refl', '.alloc', '.drew', '.setCell' at a new block, '.trans'). Open each 'IsRow' by 'rcases' AHEAD of 'go_enter'; part every test ahead of the walk. -/
set_option maxRecDepth 100000 in
set_option maxHeartbeats 4000000 in
theorem walk (a0 : Option Addr) (len0 cap0 : Nat) (z0 : List Int) (w : World) (w0 : IsRow .u8 w a0 len0 cap0 z0) :
    Calls Try.prog 3 #[.slice a0 len0 cap0] w fun e w' => e = .returned (.bool true) ∧ Below w.heap.size w w' := by
  have r0 := row_of w0
  clear w0
  have m0 := r0.1
  unfold maxLen at m0
  by_cases h0 : (1048576 : Int) < len0
  · go_enter Try.func3, Try.ntmps3
    go_wp2_with (fail)
    go_ret
    exact ⟨rfl, Below.refl _ _⟩
  go_enter Try.func3, Try.ntmps3
  go_wp2_with (fail)
  refine (drawPack_any a0 len0 cap0 z0 w r0).mono ?_
  rintro e w1 ⟨v, s, rfl, v0, v1, s0, s1, hb1⟩
  have r1 := r0.below hb1
  go_wp2_with (fail)
  refine (drawDoor_any a0 len0 cap0 z0 w1 r1).mono ?_
  rintro e w2 ⟨st, sl, ep, no, rfl, bst, bsl, bep, bno, hb2⟩
  have r2 := r1.below hb2
  go_wp2_with (fail)
  refine (drawEntry_any a0 len0 cap0 z0 w2 r2).mono ?_
  rintro e w3 ⟨ad, x, s', rfl, bad, bx, bs', hb3⟩
  have r3 := r2.below hb3
  have hb : Below w.heap.size w w3 := (hb1.trans (hb2.mono hb1.size)).trans (hb3.mono (Nat.le_trans hb1.size hb2.size))
  clear hb1 hb2 hb3 r0 r1 r2
  go_wp2_with (fail)
  refine (pack_any v s _).mono ?_
  rintro e w' ⟨rfl, rfl⟩
  go_wp2_with (fail)
  refine (door_any st sl ep no _).mono ?_
  rintro e w' ⟨rfl, rfl⟩
  go_wp2_with (fail)
  refine (reg_any st ep no _).mono ?_
  rintro e w' ⟨rfl, rfl⟩
  go_wp2_with (fail)
  refine (entry_any ad x s _).mono ?_
  rintro e w' ⟨rfl, rfl⟩
  go_wp2_with (fail)
  refine (spack_any v s _).mono ?_
  rintro e w' ⟨rfl, rfl⟩
  go_wp2_with (fail)
  refine (sdoor_any st sl ep no _).mono ?_
  rintro e w' ⟨rfl, rfl⟩
  go_wp2_with (fail)
  refine (sentry_any ad x s _).mono ?_
  rintro e wI ⟨rfl, rfl⟩
  go_upto_region 12 with (fail)
  go_cut [116] (fun t wx => t = .bool false ∧ wx = wI)
  case first =>
    rcases (by omega : v < 0 ∨ 4294967295 < v ∨ (0 ≤ v ∧ v ≤ 4294967295)) with hv | hv | hv
    · have hva : decide (0 ≤ v) = false := by simp; omega
      rcases (by omega : s < 0 ∨ 4294967295 < s ∨ (0 ≤ s ∧ s ≤ 4294967295)) with hs | hs | hs
      · have hsa : decide (0 ≤ s) = false := by simp; omega
        as_aux_lemma =>
          go_wp2_with (first | (go_at_call 15; refine (val_pack _ _ _).mono ?_; rintro e w9 ⟨rfl, rfl⟩) | (go_at_call 16; refine (st_pack _ _ _).mono ?_; rintro e w9 ⟨rfl, rfl⟩))
          go_meet
          exact ⟨rfl, rfl⟩
      · have hsa : decide (0 ≤ s) = true := by simp; omega
        have hsb : decide (s ≤ 4294967295) = false := by simp; omega
        as_aux_lemma =>
          go_wp2_with (first | (go_at_call 15; refine (val_pack _ _ _).mono ?_; rintro e w9 ⟨rfl, rfl⟩) | (go_at_call 16; refine (st_pack _ _ _).mono ?_; rintro e w9 ⟨rfl, rfl⟩))
          go_meet
          exact ⟨rfl, rfl⟩
      · have hsa : decide (0 ≤ s) = true := by simp; omega
        have hsb : decide (s ≤ 4294967295) = true := by simp; omega
        have hsc : fit s 4294967295 = s := fit_id _ _ (by omega) (by omega)
        as_aux_lemma =>
          go_wp2_with (first | (go_at_call 15; refine (val_pack _ _ _).mono ?_; rintro e w9 ⟨rfl, rfl⟩) | (go_at_call 16; refine (st_pack _ _ _).mono ?_; rintro e w9 ⟨rfl, rfl⟩))
          go_meet
          exact ⟨rfl, rfl⟩
    · have hva : decide (0 ≤ v) = true := by simp; omega
      have hvb : decide (v ≤ 4294967295) = false := by simp; omega
      rcases (by omega : s < 0 ∨ 4294967295 < s ∨ (0 ≤ s ∧ s ≤ 4294967295)) with hs | hs | hs
      · have hsa : decide (0 ≤ s) = false := by simp; omega
        as_aux_lemma =>
          go_wp2_with (first | (go_at_call 15; refine (val_pack _ _ _).mono ?_; rintro e w9 ⟨rfl, rfl⟩) | (go_at_call 16; refine (st_pack _ _ _).mono ?_; rintro e w9 ⟨rfl, rfl⟩))
          go_meet
          exact ⟨rfl, rfl⟩
      · have hsa : decide (0 ≤ s) = true := by simp; omega
        have hsb : decide (s ≤ 4294967295) = false := by simp; omega
        as_aux_lemma =>
          go_wp2_with (first | (go_at_call 15; refine (val_pack _ _ _).mono ?_; rintro e w9 ⟨rfl, rfl⟩) | (go_at_call 16; refine (st_pack _ _ _).mono ?_; rintro e w9 ⟨rfl, rfl⟩))
          go_meet
          exact ⟨rfl, rfl⟩
      · have hsa : decide (0 ≤ s) = true := by simp; omega
        have hsb : decide (s ≤ 4294967295) = true := by simp; omega
        have hsc : fit s 4294967295 = s := fit_id _ _ (by omega) (by omega)
        as_aux_lemma =>
          go_wp2_with (first | (go_at_call 15; refine (val_pack _ _ _).mono ?_; rintro e w9 ⟨rfl, rfl⟩) | (go_at_call 16; refine (st_pack _ _ _).mono ?_; rintro e w9 ⟨rfl, rfl⟩))
          go_meet
          exact ⟨rfl, rfl⟩
    · have hva : decide (0 ≤ v) = true := by simp; omega
      have hvb : decide (v ≤ 4294967295) = true := by simp; omega
      have hvc : fit v 4294967295 = v := fit_id _ _ (by omega) (by omega)
      rcases (by omega : s < 0 ∨ 4294967295 < s ∨ (0 ≤ s ∧ s ≤ 4294967295)) with hs | hs | hs
      · have hsa : decide (0 ≤ s) = false := by simp; omega
        as_aux_lemma =>
          go_wp2_with (first | (go_at_call 15; refine (val_pack _ _ _).mono ?_; rintro e w9 ⟨rfl, rfl⟩) | (go_at_call 16; refine (st_pack _ _ _).mono ?_; rintro e w9 ⟨rfl, rfl⟩))
          go_meet
          exact ⟨rfl, rfl⟩
      · have hsa : decide (0 ≤ s) = true := by simp; omega
        have hsb : decide (s ≤ 4294967295) = false := by simp; omega
        as_aux_lemma =>
          go_wp2_with (first | (go_at_call 15; refine (val_pack _ _ _).mono ?_; rintro e w9 ⟨rfl, rfl⟩) | (go_at_call 16; refine (st_pack _ _ _).mono ?_; rintro e w9 ⟨rfl, rfl⟩))
          go_meet
          exact ⟨rfl, rfl⟩
      · have hsa : decide (0 ≤ s) = true := by simp; omega
        have hsb : decide (s ≤ 4294967295) = true := by simp; omega
        have hsc : fit s 4294967295 = s := fit_id _ _ (by omega) (by omega)
        as_aux_lemma =>
          go_wp2_with (first | (go_at_call 15; refine (val_pack _ _ _).mono ?_; rintro e w9 ⟨rfl, rfl⟩) | (go_at_call 16; refine (st_pack _ _ _).mono ?_; rintro e w9 ⟨rfl, rfl⟩))
          go_meet
          exact ⟨rfl, rfl⟩
  case rest =>
    obtain ⟨rfl, hw⟩ := hcut
    have hw := hw.symm
    subst hw
    go_wp2_with (fail)
    refine (doorOf_door st sl ep no _).mono ?_
    rintro e w4 ⟨rfl, -, hb4⟩
    go_wp2_with (fail)
    refine (regOf_reg st ep no _).mono ?_
    rintro e w5 ⟨rfl, -, hb5⟩
    go_upto_region 16 with (fail)
    go_cut [174] (fun t wx => t = .bool false ∧ wx = w5)
    case first =>
      rcases (by omega : st < 0 ∨ 2 < st ∨ (0 ≤ st ∧ st ≤ 2)) with hv | hv | hv
      · have hva : decide (0 ≤ st) = false := by simp; omega
        rcases (by omega : sl < 0 ∨ 7 < sl ∨ (0 ≤ sl ∧ sl ≤ 7)) with hs | hs | hs
        · have hsa : decide (0 ≤ sl) = false := by simp; omega
          rcases (by omega : ep < 0 ∨ 4095 < ep ∨ (0 ≤ ep ∧ ep ≤ 4095)) with he | he | he
          · have hea : decide (0 ≤ ep) = false := by simp; omega
            as_aux_lemma =>
              go_wp2_with (fail)
              go_meet
              exact ⟨rfl, rfl⟩
          · have hea : decide (0 ≤ ep) = true := by simp; omega
            have heb : decide (ep ≤ 4095) = false := by simp; omega
            as_aux_lemma =>
              go_wp2_with (fail)
              go_meet
              exact ⟨rfl, rfl⟩
          · have hea : decide (0 ≤ ep) = true := by simp; omega
            have heb : decide (ep ≤ 4095) = true := by simp; omega
            have hec : fit ep 4095 = ep := fit_id _ _ (by omega) (by omega)
            as_aux_lemma =>
              go_wp2_with (fail)
              go_meet
              exact ⟨rfl, rfl⟩
        · have hsa : decide (0 ≤ sl) = true := by simp; omega
          have hsb : decide (sl ≤ 7) = false := by simp; omega
          rcases (by omega : ep < 0 ∨ 4095 < ep ∨ (0 ≤ ep ∧ ep ≤ 4095)) with he | he | he
          · have hea : decide (0 ≤ ep) = false := by simp; omega
            as_aux_lemma =>
              go_wp2_with (fail)
              go_meet
              exact ⟨rfl, rfl⟩
          · have hea : decide (0 ≤ ep) = true := by simp; omega
            have heb : decide (ep ≤ 4095) = false := by simp; omega
            as_aux_lemma =>
              go_wp2_with (fail)
              go_meet
              exact ⟨rfl, rfl⟩
          · have hea : decide (0 ≤ ep) = true := by simp; omega
            have heb : decide (ep ≤ 4095) = true := by simp; omega
            have hec : fit ep 4095 = ep := fit_id _ _ (by omega) (by omega)
            as_aux_lemma =>
              go_wp2_with (fail)
              go_meet
              exact ⟨rfl, rfl⟩
        · have hsa : decide (0 ≤ sl) = true := by simp; omega
          have hsb : decide (sl ≤ 7) = true := by simp; omega
          have hsc : fit sl 7 = sl := fit_id _ _ (by omega) (by omega)
          rcases (by omega : ep < 0 ∨ 4095 < ep ∨ (0 ≤ ep ∧ ep ≤ 4095)) with he | he | he
          · have hea : decide (0 ≤ ep) = false := by simp; omega
            as_aux_lemma =>
              go_wp2_with (fail)
              go_meet
              exact ⟨rfl, rfl⟩
          · have hea : decide (0 ≤ ep) = true := by simp; omega
            have heb : decide (ep ≤ 4095) = false := by simp; omega
            as_aux_lemma =>
              go_wp2_with (fail)
              go_meet
              exact ⟨rfl, rfl⟩
          · have hea : decide (0 ≤ ep) = true := by simp; omega
            have heb : decide (ep ≤ 4095) = true := by simp; omega
            have hec : fit ep 4095 = ep := fit_id _ _ (by omega) (by omega)
            as_aux_lemma =>
              go_wp2_with (fail)
              go_meet
              exact ⟨rfl, rfl⟩
      · have hva : decide (0 ≤ st) = true := by simp; omega
        have hvb : decide (st ≤ 2) = false := by simp; omega
        rcases (by omega : sl < 0 ∨ 7 < sl ∨ (0 ≤ sl ∧ sl ≤ 7)) with hs | hs | hs
        · have hsa : decide (0 ≤ sl) = false := by simp; omega
          rcases (by omega : ep < 0 ∨ 4095 < ep ∨ (0 ≤ ep ∧ ep ≤ 4095)) with he | he | he
          · have hea : decide (0 ≤ ep) = false := by simp; omega
            as_aux_lemma =>
              go_wp2_with (fail)
              go_meet
              exact ⟨rfl, rfl⟩
          · have hea : decide (0 ≤ ep) = true := by simp; omega
            have heb : decide (ep ≤ 4095) = false := by simp; omega
            as_aux_lemma =>
              go_wp2_with (fail)
              go_meet
              exact ⟨rfl, rfl⟩
          · have hea : decide (0 ≤ ep) = true := by simp; omega
            have heb : decide (ep ≤ 4095) = true := by simp; omega
            have hec : fit ep 4095 = ep := fit_id _ _ (by omega) (by omega)
            as_aux_lemma =>
              go_wp2_with (fail)
              go_meet
              exact ⟨rfl, rfl⟩
        · have hsa : decide (0 ≤ sl) = true := by simp; omega
          have hsb : decide (sl ≤ 7) = false := by simp; omega
          rcases (by omega : ep < 0 ∨ 4095 < ep ∨ (0 ≤ ep ∧ ep ≤ 4095)) with he | he | he
          · have hea : decide (0 ≤ ep) = false := by simp; omega
            as_aux_lemma =>
              go_wp2_with (fail)
              go_meet
              exact ⟨rfl, rfl⟩
          · have hea : decide (0 ≤ ep) = true := by simp; omega
            have heb : decide (ep ≤ 4095) = false := by simp; omega
            as_aux_lemma =>
              go_wp2_with (fail)
              go_meet
              exact ⟨rfl, rfl⟩
          · have hea : decide (0 ≤ ep) = true := by simp; omega
            have heb : decide (ep ≤ 4095) = true := by simp; omega
            have hec : fit ep 4095 = ep := fit_id _ _ (by omega) (by omega)
            as_aux_lemma =>
              go_wp2_with (fail)
              go_meet
              exact ⟨rfl, rfl⟩
        · have hsa : decide (0 ≤ sl) = true := by simp; omega
          have hsb : decide (sl ≤ 7) = true := by simp; omega
          have hsc : fit sl 7 = sl := fit_id _ _ (by omega) (by omega)
          rcases (by omega : ep < 0 ∨ 4095 < ep ∨ (0 ≤ ep ∧ ep ≤ 4095)) with he | he | he
          · have hea : decide (0 ≤ ep) = false := by simp; omega
            as_aux_lemma =>
              go_wp2_with (fail)
              go_meet
              exact ⟨rfl, rfl⟩
          · have hea : decide (0 ≤ ep) = true := by simp; omega
            have heb : decide (ep ≤ 4095) = false := by simp; omega
            as_aux_lemma =>
              go_wp2_with (fail)
              go_meet
              exact ⟨rfl, rfl⟩
          · have hea : decide (0 ≤ ep) = true := by simp; omega
            have heb : decide (ep ≤ 4095) = true := by simp; omega
            have hec : fit ep 4095 = ep := fit_id _ _ (by omega) (by omega)
            as_aux_lemma =>
              go_wp2_with (fail)
              go_meet
              exact ⟨rfl, rfl⟩
      · have hva : decide (0 ≤ st) = true := by simp; omega
        have hvb : decide (st ≤ 2) = true := by simp; omega
        have hvc : fit st 2 = st := fit_id _ _ (by omega) (by omega)
        rcases (by omega : sl < 0 ∨ 7 < sl ∨ (0 ≤ sl ∧ sl ≤ 7)) with hs | hs | hs
        · have hsa : decide (0 ≤ sl) = false := by simp; omega
          rcases (by omega : ep < 0 ∨ 4095 < ep ∨ (0 ≤ ep ∧ ep ≤ 4095)) with he | he | he
          · have hea : decide (0 ≤ ep) = false := by simp; omega
            as_aux_lemma =>
              go_wp2_with (fail)
              go_meet
              exact ⟨rfl, rfl⟩
          · have hea : decide (0 ≤ ep) = true := by simp; omega
            have heb : decide (ep ≤ 4095) = false := by simp; omega
            as_aux_lemma =>
              go_wp2_with (fail)
              go_meet
              exact ⟨rfl, rfl⟩
          · have hea : decide (0 ≤ ep) = true := by simp; omega
            have heb : decide (ep ≤ 4095) = true := by simp; omega
            have hec : fit ep 4095 = ep := fit_id _ _ (by omega) (by omega)
            as_aux_lemma =>
              go_wp2_with (fail)
              go_meet
              exact ⟨rfl, rfl⟩
        · have hsa : decide (0 ≤ sl) = true := by simp; omega
          have hsb : decide (sl ≤ 7) = false := by simp; omega
          rcases (by omega : ep < 0 ∨ 4095 < ep ∨ (0 ≤ ep ∧ ep ≤ 4095)) with he | he | he
          · have hea : decide (0 ≤ ep) = false := by simp; omega
            as_aux_lemma =>
              go_wp2_with (fail)
              go_meet
              exact ⟨rfl, rfl⟩
          · have hea : decide (0 ≤ ep) = true := by simp; omega
            have heb : decide (ep ≤ 4095) = false := by simp; omega
            as_aux_lemma =>
              go_wp2_with (fail)
              go_meet
              exact ⟨rfl, rfl⟩
          · have hea : decide (0 ≤ ep) = true := by simp; omega
            have heb : decide (ep ≤ 4095) = true := by simp; omega
            have hec : fit ep 4095 = ep := fit_id _ _ (by omega) (by omega)
            as_aux_lemma =>
              go_wp2_with (fail)
              go_meet
              exact ⟨rfl, rfl⟩
        · have hsa : decide (0 ≤ sl) = true := by simp; omega
          have hsb : decide (sl ≤ 7) = true := by simp; omega
          have hsc : fit sl 7 = sl := fit_id _ _ (by omega) (by omega)
          rcases (by omega : ep < 0 ∨ 4095 < ep ∨ (0 ≤ ep ∧ ep ≤ 4095)) with he | he | he
          · have hea : decide (0 ≤ ep) = false := by simp; omega
            as_aux_lemma =>
              go_wp2_with (fail)
              go_meet
              exact ⟨rfl, rfl⟩
          · have hea : decide (0 ≤ ep) = true := by simp; omega
            have heb : decide (ep ≤ 4095) = false := by simp; omega
            as_aux_lemma =>
              go_wp2_with (fail)
              go_meet
              exact ⟨rfl, rfl⟩
          · have hea : decide (0 ≤ ep) = true := by simp; omega
            have heb : decide (ep ≤ 4095) = true := by simp; omega
            have hec : fit ep 4095 = ep := fit_id _ _ (by omega) (by omega)
            as_aux_lemma =>
              go_wp2_with (fail)
              go_meet
              exact ⟨rfl, rfl⟩
    case rest =>
      obtain ⟨rfl, hw⟩ := hcut
      have hw := hw.symm
      subst hw
      go_wp2_with (fail)
      refine (entryOf_entry ad x s _).mono ?_
      rintro e w6 ⟨rfl, -, hb6⟩
      go_upto_region 19 with (fail)
      go_cut [203] (fun t wx => t = .bool false ∧ wx = w6)
      case first =>
        rcases (by omega : ad < 0 ∨ 4095 < ad ∨ (0 ≤ ad ∧ ad ≤ 4095)) with hv | hv | hv
        · have hva : decide (0 ≤ ad) = false := by simp; omega
          rcases (by omega : x < 0 ∨ 1048575 < x ∨ (0 ≤ x ∧ x ≤ 1048575)) with hs | hs | hs
          · have hsa : decide (0 ≤ x) = false := by simp; omega
            as_aux_lemma =>
              go_wp2_with (fail)
              go_meet
              exact ⟨rfl, rfl⟩
          · have hsa : decide (0 ≤ x) = true := by simp; omega
            have hsb : decide (x ≤ 1048575) = false := by simp; omega
            as_aux_lemma =>
              go_wp2_with (fail)
              go_meet
              exact ⟨rfl, rfl⟩
          · have hsa : decide (0 ≤ x) = true := by simp; omega
            have hsb : decide (x ≤ 1048575) = true := by simp; omega
            have hsc : fit x 1048575 = x := fit_id _ _ (by omega) (by omega)
            as_aux_lemma =>
              go_wp2_with (fail)
              go_meet
              exact ⟨rfl, rfl⟩
        · have hva : decide (0 ≤ ad) = true := by simp; omega
          have hvb : decide (ad ≤ 4095) = false := by simp; omega
          rcases (by omega : x < 0 ∨ 1048575 < x ∨ (0 ≤ x ∧ x ≤ 1048575)) with hs | hs | hs
          · have hsa : decide (0 ≤ x) = false := by simp; omega
            as_aux_lemma =>
              go_wp2_with (fail)
              go_meet
              exact ⟨rfl, rfl⟩
          · have hsa : decide (0 ≤ x) = true := by simp; omega
            have hsb : decide (x ≤ 1048575) = false := by simp; omega
            as_aux_lemma =>
              go_wp2_with (fail)
              go_meet
              exact ⟨rfl, rfl⟩
          · have hsa : decide (0 ≤ x) = true := by simp; omega
            have hsb : decide (x ≤ 1048575) = true := by simp; omega
            have hsc : fit x 1048575 = x := fit_id _ _ (by omega) (by omega)
            as_aux_lemma =>
              go_wp2_with (fail)
              go_meet
              exact ⟨rfl, rfl⟩
        · have hva : decide (0 ≤ ad) = true := by simp; omega
          have hvb : decide (ad ≤ 4095) = true := by simp; omega
          have hvc : fit ad 4095 = ad := fit_id _ _ (by omega) (by omega)
          rcases (by omega : x < 0 ∨ 1048575 < x ∨ (0 ≤ x ∧ x ≤ 1048575)) with hs | hs | hs
          · have hsa : decide (0 ≤ x) = false := by simp; omega
            as_aux_lemma =>
              go_wp2_with (fail)
              go_meet
              exact ⟨rfl, rfl⟩
          · have hsa : decide (0 ≤ x) = true := by simp; omega
            have hsb : decide (x ≤ 1048575) = false := by simp; omega
            as_aux_lemma =>
              go_wp2_with (fail)
              go_meet
              exact ⟨rfl, rfl⟩
          · have hsa : decide (0 ≤ x) = true := by simp; omega
            have hsb : decide (x ≤ 1048575) = true := by simp; omega
            have hsc : fit x 1048575 = x := fit_id _ _ (by omega) (by omega)
            as_aux_lemma =>
              go_wp2_with (fail)
              go_meet
              exact ⟨rfl, rfl⟩
      case rest =>
        obtain ⟨rfl, hw⟩ := hcut
        have hw := hw.symm
        subst hw
        go_wp2_with (fail)
        have hbb : Below wI.heap.size wI w6 := (hb4.trans (hb5.mono hb4.size)).trans (hb6.mono (Nat.le_trans hb4.size hb5.size))
        have r6 := r3.below hbb
        have hball : Below w.heap.size w w6 := hb.trans (hbb.mono hb.size)
        refine (drawVal_any a0 len0 cap0 z0 w6 r6).mono ?_
        rintro e w7 ⟨u, rfl, u0, u1, hb7⟩
        go_wp2_with (fail)
        refine (entryOf_any u _ u0 u1).mono ?_
        rintro e w8 ⟨rfl, -, hb8⟩
        go_wp2_with (fail)
        refine (val_any u _ u0 u1).mono ?_
        rintro e w' ⟨rfl, rfl⟩
        go_wp2_with (fail)
        refine (st_any u _ u0 u1).mono ?_
        rintro e w' ⟨rfl, rfl⟩
        go_wp2_with (fail)
        refine (pack_any _ _ _).mono ?_
        rintro e w' ⟨rfl, rfl⟩
        rw [pack_of u u0 u1]
        go_wp2_with (fail)
        refine (st_any u _ u0 u1).mono ?_
        rintro e w' ⟨rfl, rfl⟩
        go_wp2_with (fail)
        refine (entry_any _ _ _ _).mono ?_
        rintro e w' ⟨rfl, rfl⟩
        rw [entry_of u u0 u1]
        go_wp2_with (fail)
        go_ret
        exact ⟨rfl, (hball.trans (hb7.mono hball.size)).trans (hb8.mono (Nat.le_trans hball.size hb7.size))⟩

/-! ### THE ROW's STEP: WRITTEN OUT: LEAVE IT -/
set_option maxRecDepth 100000 in
theorem lifted (os : Os) (started : os.Started) (H : Type) (enc : TypeId × Value → H) :
    ReturnsInHanded {} Try.checked os 3 .any (Rows.fnCellSpec.pre6 enc Try.prog Try.f3 Rows.fnCellRow.domain false) (Rows.fnCellSpec.post enc Try.prog Try.f3 false true false false) := by
  refine returnsInHanded_of_change (C := Try.checked) own started (by kernel_rfl) Try.func3
    (ChangeSpec.witness6 (enc := enc) (C := Try.checked) false ⟨#[], #[.slice none 0 0], []⟩ 8 (by kernel_rfl) (by kernel_rfl) (by kernel_rfl) (by kernel_rfl)) ?_
  intro W base args ds gs before hval0 hW hcnd _
  have hval : ∀ (j : Nat) t v, Try.f3.params[j]? = some t → args[j]? = some v → Value.okWide Try.prog W .any base t v := hval0
  have hW' := hW
  obtain ⟨p, q, hA0, hV, rfl, hfz, hnd⟩ := hW
  have hA : DataW.TrodAll enc Try.prog W 0 (fun _ => true) true Try.f3.params.toList args.toList ds p := hA0
  rw [Try.params3] at hA hval
  obtain ⟨v0, vs0, d0, ds0, p0, q0, hargs, rfl, rfl, h0, r0⟩ := trodAll_cons hA
  obtain ⟨rfl, rfl, rfl⟩ := trodAll_nil r0
  obtain rfl : args = #[v0] := by cases args; simp_all
  obtain ⟨rfl, rfl⟩ := trodVars_none hV
  obtain ⟨a0, len0, cap0, rfl⟩ := okWide_slice Try.underlying22 (hval 0 22 v0 rfl rfl)
  have k0 := h0
  have lt0 : ∀ x ∈ p0, x.block < W.heap.size := by obtain ⟨m, hm⟩ := k0; exact DataW.trod_lt m _ _ _ hm
  obtain ⟨z0, w0⟩ : ∃ zs, IsRow .u8 W a0 len0 cap0 zs := by
    obtain ⟨fuel, hf⟩ := h0
    rcases open_ints Try.underlying22 Try.underlying5 (by kernel_rfl) hf with ⟨hcs, _⟩ | ⟨x, l, c, zs, hcs, _, hl, hm, hz, _, hcell, hwz⟩
    · simp [Value.cells] at hcs
      obtain ⟨rfl, rfl, rfl⟩ := hcs
      exact ⟨[], .inl ⟨rfl, rfl, rfl, rfl⟩⟩
    · simp [Value.cells] at hcs
      obtain ⟨rfl, rfl, rfl⟩ := hcs
      exact ⟨zs, .inr ⟨_, rfl, hl, hm, by simpa using hz, hcell, hwz⟩⟩
  clear hA0 hval0
  refine (walk a0 len0 cap0 z0 W w0).mono fun e W' ⟨he, bel⟩ => ?_
  subst he
  exact ⟨_, rfl, _, _, _, [], _, [], hW', trodAll_mk1 (shut_bool Try.underlying4 _), (trodAll_cons_mk (Below.trod laidOut (by kernel_rfl) (of_decide_eq_true (by kernel_rfl)) k0 bel lt0) trodAll_mk0), rfl, bel.frame _, fun h => by cases h⟩

theorem over : Rows.fnCellRow.holds Try.pinned (OpenSpec.ofChange Rows.fnCellSpec) :=
  OpenClaim.holds_of_wide 3 Try.f3 rfl rfl rfl rfl rfl rfl rfl ⟨rfl, rfl, rfl, rfl, rfl⟩ rfl rfl rfl rfl rfl (by kernel_rfl) Try.func3 (by kernel_rfl)
    (of_decide_eq_true (by kernel_rfl)) (by unfold Func.isWrapper; first | (rw [if_pos (by decide +kernel)]; kernel_rfl) | (rw [if_neg (by decide +kernel)]; exact ⟨rfl, rfl⟩))
    (fun os started H enc _ => lifted os started H enc)

/-- ████ THE STATEMENT ████ -/
theorem proved : Rows.FnCellSaid := over
end Go.Proofs.Ytfeoihpjlgigkaa.fnCell
namespace Go.Proofs.Ytfeoihpjlgigkaa
theorem fnCell_holds : Rows.FnCellSaid := fnCell.proved
#print axioms fnCell_holds
end Go.Proofs.Ytfeoihpjlgigkaa

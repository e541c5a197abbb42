/- Items of a tale marked. Conditions: at most 10,000,000 items. -/
import Derived.Test.YtpfgldbmihbiiaaTi2
namespace Go.Proofs.Ytpfgldbmihbiiaa.Ti
open Go.ChangeShapes Go.WideShapes Go.ChangeAt Go.RowKit
open Go.Proofs.Ytpfgldbmihbiiaa.Aid Go.Proofs.Ytpfgldbmihbiiaa.Lst Go.Proofs.Ytpfgldbmihbiiaa.Gs
open Go.Proofs.Ytpfgldbmihbiiaa.Book (Ck ck_lit takeB)
set_option maxRecDepth 100000
set_option linter.unusedVariables false

/- What an item is marked with. -/
def m3 (k : Int) : Bool := k % 3 == 0
def mT (k : Int) : Tx := ⟨m3 k, k + 1, k + 2, k + 3, k + 4, k + 5, k + 6, k + 7⟩

set_option maxHeartbeats 4000000 in
theorem markitems_any (b n c : Nat) (g : Nat → Tx) (k0 : Int) (w : World) (h : OwnT w b n g) (hn : n ≤ 10000000) (h0 : 0 ≤ k0) (h1 : k0 ≤ 1000000000000000) :
    Calls Try.prog 15 #[.slice (some ⟨b, 0, none⟩) n c, .int .i64 k0] w fun e w' => e = .returned (.int .i64 (k0 + 8 * n)) ∧ OwnT w' b n (fun j => mT (k0 + 8 * j)) ∧ But b w w' := by
  go_enter Try.func15, Try.ntmps15
  go_wp2_with (fail)
  go_loopw [1, 5] (fun kk i wr => ∃ k : Nat, k ≤ n ∧ i = .int .i64 k ∧ kk = .int .i64 (k0 + 8 * k) ∧ OwnT wr b n (fun j => if j < k then mT (k0 + 8 * j) else g j) ∧ But b w wr) (fun _ i _ => n - (intOf i).toNat)
  case atStart => exact ⟨0, by omega, rfl, by simp, h, But.refl _ _⟩
  case round =>
    obtain ⟨k, hk, rfl, rfl, hf, hb⟩ := hrel
    clear h
    by_cases hlt : (k : Int) < n
    · have HF : Hid (OwnT wr b n (fun j => if j < k then mT (k0 + 8 * j) else g j)) := hf
      have hr := hf k (by omega)
      simp only [Nat.lt_irrefl, if_false] at hr
      have HC : Hid (Rk wr b (k * 8) [.bool (g k).cut, .int .i64 (g k).guest, .int .i64 (g k).ok, .int .i64 (g k).os, .int .i64 (g k).oa, .int .i64 (g k).ob, .int .i64 (g k).code, .int .i64 (g k).val] wr) := ⟨hr.1, hr.2, But.refl _ _, fun _ _ => rfl, fun _ => rfl⟩
      have HB : Hid (But b w wr) := hb
      clear hf hr hb
      go_wp2_with (with_reducible refine halt_at (.store 4 (.tmp 18) (.tmp 16)) rfl ?_)
      unfold Hid
      refine rk_store HC.out rfl 4 _ _ rfl _ rfl 0 (by omega) _ rfl (Nat.le_of_ble_eq_true rfl) (by kernel_rfl) rfl ?_
      intro w' h
      simp only [List.set] at h
      replace HC : Hid _ := h
      clear h
      go_wp2_with (with_reducible refine halt_at (.store 3 (.tmp 25) (.tmp 23)) rfl ?_)
      unfold Hid
      refine rk_store HC.out rfl 3 _ _ rfl _ rfl 1 (by omega) _ rfl (Nat.le_of_ble_eq_true rfl) (by kernel_rfl) rfl ?_
      intro w' h
      simp only [List.set] at h
      replace HC : Hid _ := h
      clear h
      go_wp2_with (with_reducible refine halt_at (.store 3 (.tmp 33) (.tmp 30)) rfl ?_)
      unfold Hid
      refine rk_store HC.out rfl 3 _ _ rfl _ rfl 2 (by omega) _ rfl (Nat.le_of_ble_eq_true rfl) (by kernel_rfl) rfl ?_
      intro w' h
      simp only [List.set] at h
      replace HC : Hid _ := h
      clear h
      go_wp2_with (with_reducible refine halt_at (.store 3 (.tmp 41) (.tmp 38)) rfl ?_)
      unfold Hid
      refine rk_store HC.out rfl 3 _ _ rfl _ rfl 3 (by omega) _ rfl (Nat.le_of_ble_eq_true rfl) (by kernel_rfl) rfl ?_
      intro w' h
      simp only [List.set] at h
      replace HC : Hid _ := h
      clear h
      go_wp2_with (with_reducible refine halt_at (.store 3 (.tmp 49) (.tmp 46)) rfl ?_)
      unfold Hid
      refine rk_store HC.out rfl 3 _ _ rfl _ rfl 4 (by omega) _ rfl (Nat.le_of_ble_eq_true rfl) (by kernel_rfl) rfl ?_
      intro w' h
      simp only [List.set] at h
      replace HC : Hid _ := h
      clear h
      go_wp2_with (with_reducible refine halt_at (.store 3 (.tmp 57) (.tmp 54)) rfl ?_)
      unfold Hid
      refine rk_store HC.out rfl 3 _ _ rfl _ rfl 5 (by omega) _ rfl (Nat.le_of_ble_eq_true rfl) (by kernel_rfl) rfl ?_
      intro w' h
      simp only [List.set] at h
      replace HC : Hid _ := h
      clear h
      go_wp2_with (with_reducible refine halt_at (.store 3 (.tmp 64) (.tmp 62)) rfl ?_)
      unfold Hid
      refine rk_store HC.out rfl 3 _ _ rfl _ rfl 6 (by omega) _ rfl (Nat.le_of_ble_eq_true rfl) (by kernel_rfl) rfl ?_
      intro w' h
      simp only [List.set] at h
      replace HC : Hid _ := h
      clear h
      go_wp2_with (with_reducible refine halt_at (.store 3 (.tmp 71) (.tmp 69)) rfl ?_)
      unfold Hid
      refine rk_store HC.out rfl 3 _ _ rfl _ rfl 7 (by omega) _ rfl (Nat.le_of_ble_eq_true rfl) (by kernel_rfl) rfl ?_
      intro w' h
      simp only [List.set] at h
      replace HC : Hid _ := h
      clear h
      go_wp2_with (fail)
      have HO : Hid (OwnT w' b n (fun j => if j < k + 1 then mT (k0 + 8 * j) else g j)) := by
        intro j hj
        have H := HC.out
        have hz := HF.out j hj
        by_cases e : j = k
        · subst e
          have ec : (mT (k0 + 8 * j)).cells = ([.bool ((k0 + 8 * j) % 3 == 0), .int .i64 (k0 + 8 * j + 1), .int .i64 (k0 + 8 * j + 1 + 1), .int .i64 (k0 + 8 * j + 1 + 1 + 1), .int .i64 (k0 + 8 * j + 1 + 1 + 1 + 1), .int .i64 (k0 + 8 * j + 1 + 1 + 1 + 1 + 1), .int .i64 (k0 + 8 * j + 1 + 1 + 1 + 1 + 1 + 1), .int .i64 (k0 + 8 * j + 1 + 1 + 1 + 1 + 1 + 1 + 1)] : List Value) := by simp only [mT, m3, Tx.cells, Int.add_assoc, Int.reduceAdd]
          simp only [if_pos (Nat.lt_succ_self j)]
          rw [ec]
          exact ⟨H.r, H.t⟩
        · have e2 : (if j < k + 1 then mT (k0 + 8 * j) else g j) = (if j < k then mT (k0 + 8 * j) else g j) := by
            by_cases h : j < k
            · rw [if_pos h, if_pos (by omega)]
            · rw [if_neg h, if_neg (by omega)]
          simp only [e2]
          have hout : ∀ i, i < 8 → (j * 8 + i < k * 8 ∨ k * 8 + 8 ≤ j * 8 + i) := fun i hi => by omega
          have hl8 : (if j < k then mT (k0 + 8 * j) else g j).cells.length = 8 := rfl
          refine ⟨fun i v hv => ?_, fun i hi => ?_⟩
          · have hi : i < 8 := by have := (List.getElem?_eq_some_iff.1 hv).1; rwa [hl8] at this
            rw [H.far _ (hout i hi)]; exact hz.1 i v hv
          · rw [H.far _ (hout i hi), H.fz]; exact hz.2 i hi
      have HB2 : Hid (But b w w') := by
        have H := HC.out.bu
        have q := HB.out
        exact ⟨H.os.trans q.os, H.tape.trans q.tape, H.output.trans q.output, H.size.trans q.size, fun i hi => (H.block i hi).trans (q.block i hi)⟩
      clear HC HF HB
      go_roundw
      case rel => exact ⟨k + 1, by omega, by go_num, by go_num, HO.out, HB2.out⟩
      case measure => simp [intOf]; omega
    · have e : k = n := by omega
      subst e
      have HF : Hid (OwnT wr b k (fun j => if j < k then mT (k0 + 8 * j) else g j)) := hf
      have HB : Hid (But b w wr) := hb
      clear hf hb
      go_wp2_with (fail)
      go_ret
      refine ⟨rfl, fun j hj => ?_, HB.out⟩
      have := HF.out j hj
      simp only [if_pos hj] at this
      exact this

end Go.Proofs.Ytpfgldbmihbiiaa.Ti

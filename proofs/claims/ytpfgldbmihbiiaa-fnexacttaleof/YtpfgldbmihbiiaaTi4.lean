/- Items of a tale marked. Conditions: at most 10,000,000 items. -/
import Derived.Test.YtpfgldbmihbiiaaTi3
namespace Go.Proofs.Ytpfgldbmihbiiaa.Ti
open Go.ChangeShapes Go.WideShapes Go.ChangeAt Go.RowKit
open Go.Proofs.Ytpfgldbmihbiiaa.Aid Go.Proofs.Ytpfgldbmihbiiaa.Lst Go.Proofs.Ytpfgldbmihbiiaa.Gs
open Go.Proofs.Ytpfgldbmihbiiaa.Book (Ck ck_lit takeB)
set_option maxRecDepth 100000
set_option linter.unusedVariables false

set_option maxHeartbeats 4000000 in
theorem helditems_any (a : Option Addr) (n c : Nat) (k0 : Int) (w : World) (h : RowT w a n (fun j => mT (k0 + 8 * j))) (hn : n ≤ 10000000) (h0 : 0 ≤ k0) (h1 : k0 ≤ 1000000000000000) :
    Calls Try.prog 16 #[.slice a n c, .int .i64 k0] w fun e w' => e = .returned (.int .i64 (k0 + 8 * n)) ∧ w' = w := by
  have HA : Hid (RowT w a n (fun j => mT (k0 + 8 * j))) := h
  clear h
  go_enter Try.func16, Try.ntmps16
  go_wp2_with (fail)
  go_loop [1, 5] (fun kk i => ∃ k : Nat, k ≤ n ∧ i = .int .i64 k ∧ kk = .int .i64 (k0 + 8 * k)) (fun _ i => n - (intOf i).toNat)
  case atStart => exact ⟨0, by omega, rfl, by simp⟩
  case round =>
    obtain ⟨k, hk, rfl, rfl⟩ := hrel
    by_cases hlt : (k : Int) < n
    · rcases HA.out with h | ⟨b, off, rfl, h⟩
      · omega
      have HC : Hid (World.rangeAt w b (off + k * 8) [.bool ((k0 + 8 * k) % 3 == 0), .int .i64 (k0 + 8 * k + 1), .int .i64 (k0 + 8 * k + 1 + 1), .int .i64 (k0 + 8 * k + 1 + 1 + 1), .int .i64 (k0 + 8 * k + 1 + 1 + 1 + 1), .int .i64 (k0 + 8 * k + 1 + 1 + 1 + 1 + 1), .int .i64 (k0 + 8 * k + 1 + 1 + 1 + 1 + 1 + 1), .int .i64 (k0 + 8 * k + 1 + 1 + 1 + 1 + 1 + 1 + 1)]) := by
        have := h k (by omega)
        have ec : (mT (k0 + 8 * k)).cells = ([.bool ((k0 + 8 * k) % 3 == 0), .int .i64 (k0 + 8 * k + 1), .int .i64 (k0 + 8 * k + 1 + 1), .int .i64 (k0 + 8 * k + 1 + 1 + 1), .int .i64 (k0 + 8 * k + 1 + 1 + 1 + 1), .int .i64 (k0 + 8 * k + 1 + 1 + 1 + 1 + 1), .int .i64 (k0 + 8 * k + 1 + 1 + 1 + 1 + 1 + 1), .int .i64 (k0 + 8 * k + 1 + 1 + 1 + 1 + 1 + 1 + 1)] : List Value) := by simp only [mT, m3, Tx.cells, Int.add_assoc, Int.reduceAdd]
        rw [ec] at this
        exact this
      clear h
      go_wp2_with (with_reducible refine halt_at (.load 4 (.tmp 15)) rfl ?_)
      unfold Hid
      refine rk_load HC.out rfl 4 _ rfl _ rfl 0 (by omega) _ rfl (by kernel_rfl) ?_
      go_wp2_with (with_reducible refine halt_at (.load 3 (.tmp 26)) rfl ?_)
      unfold Hid
      refine rk_load HC.out rfl 3 _ rfl _ rfl 1 (by omega) _ rfl (by kernel_rfl) ?_
      go_wp2_with (with_reducible refine halt_at (.load 3 (.tmp 36)) rfl ?_)
      unfold Hid
      refine rk_load HC.out rfl 3 _ rfl _ rfl 2 (by omega) _ rfl (by kernel_rfl) ?_
      go_wp2_with (with_reducible refine halt_at (.load 3 (.tmp 46)) rfl ?_)
      unfold Hid
      refine rk_load HC.out rfl 3 _ rfl _ rfl 3 (by omega) _ rfl (by kernel_rfl) ?_
      go_wp2_with (with_reducible refine halt_at (.load 3 (.tmp 56)) rfl ?_)
      unfold Hid
      refine rk_load HC.out rfl 3 _ rfl _ rfl 4 (by omega) _ rfl (by kernel_rfl) ?_
      go_wp2_with (with_reducible refine halt_at (.load 3 (.tmp 66)) rfl ?_)
      unfold Hid
      refine rk_load HC.out rfl 3 _ rfl _ rfl 5 (by omega) _ rfl (by kernel_rfl) ?_
      go_wp2_with (with_reducible refine halt_at (.load 3 (.tmp 75)) rfl ?_)
      unfold Hid
      refine rk_load HC.out rfl 3 _ rfl _ rfl 6 (by omega) _ rfl (by kernel_rfl) ?_
      go_wp2_with (with_reducible refine halt_at (.load 3 (.tmp 84)) rfl ?_)
      unfold Hid
      refine rk_load HC.out rfl 3 _ rfl _ rfl 7 (by omega) _ rfl (by kernel_rfl) ?_
      go_wp2_with (fail)
      clear HC
      go_round
      case rel => exact ⟨k + 1, by omega, by go_num, by go_num⟩
      case measure => simp [intOf]; omega
    · have e : k = n := by omega
      subst e
      go_wp2_with (fail)
      go_ret
      exact ⟨rfl, rfl⟩

end Go.Proofs.Ytpfgldbmihbiiaa.Ti

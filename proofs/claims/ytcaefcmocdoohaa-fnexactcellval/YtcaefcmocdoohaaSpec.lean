/- The words of a house: what the specification's other functions of layer 1 answer. -/
import Derived.Test.YtcaefcmocdoohaaDoor
namespace Go.Proofs.Ytcaefcmocdoohaa.Words
open Go.ChangeShapes Go.WideShapes Go.ChangeAt Go.RowKit

theorem sval_any (n : Int) (w : World) (h0 : 0 ≤ n) (h1 : n < 18446744073709551616) :
    Calls Try.prog 14 #[.int .u64 n] w fun e w' => e = .returned (.int .i64 (lo32 n)) ∧ w' = w := by
  go_enter Try.func14, Try.ntmps14
  go_wp2
  all_goals go_ret
  exact ⟨rfl, rfl⟩

theorem sst_any (n : Int) (w : World) (h0 : 0 ≤ n) (h1 : n < 18446744073709551616) :
    Calls Try.prog 16 #[.int .u64 n] w fun e w' => e = .returned (.int .i64 (n / 4294967296)) ∧ w' = w := by
  go_enter Try.func16, Try.ntmps16
  go_wp2
  all_goals go_ret
  exact ⟨rfl, rfl⟩

theorem sreg_any (st ep s : Int) (w : World) :
    Calls Try.prog 22 #[.int .i64 st, .int .i64 ep, .int .i64 s] w fun e w' => e = .returned (.int .u64 (pack (regV st ep) s)) ∧ w' = w := by
  have a1 := fit_lo st 2 (by omega)
  have a2 := fit_hi st 2 (by omega)
  have c1 := fit_lo ep 4095 (by omega)
  have c2 := fit_hi ep 4095 (by omega)
  go_enter Try.func22, Try.ntmps22
  go_wp2_with (first | (go_at_call 30; refine (low_any _ _ _).mono ?_; rintro e w' ⟨rfl, rfl⟩) | (go_at_call 12; refine (spack_any _ _ _).mono ?_; rintro e w' ⟨rfl, rfl⟩))
  all_goals go_ret
  exact ⟨ret_int (by simp only [regV, Int.mul_comm]), rfl⟩

theorem sdoorOf_any (n : Int) (w : World) (h0 : 0 ≤ n) (h1 : n < 18446744073709551616) :
    Calls Try.prog 20 #[.int .u64 n] w fun e w' => e = .returned (.tuple #[.int .i64 (lo32 n % 4), .int .i64 (lo32 n / 4 % 8), .int .i64 (lo32 n / 32)]) ∧ w' = w := by
  have l0 := lo32_lo n
  have l1 := lo32_hi n
  go_enter Try.func20, Try.ntmps20
  go_wp2_with (go_at_call 14; refine (sval_any _ _ h0 h1).mono ?_; rintro e w' ⟨rfl, rfl⟩)
  all_goals go_ret3
  exact ⟨rfl, rfl⟩

theorem sregOf_any (n : Int) (w : World) (h0 : 0 ≤ n) (h1 : n < 18446744073709551616) :
    Calls Try.prog 24 #[.int .u64 n] w fun e w' => e = .returned (.tuple #[.int .i64 (lo32 n % 4), .int .i64 (lo32 n / 4)]) ∧ w' = w := by
  have l0 := lo32_lo n
  have l1 := lo32_hi n
  go_enter Try.func24, Try.ntmps24
  go_wp2_with (go_at_call 14; refine (sval_any _ _ h0 h1).mono ?_; rintro e w' ⟨rfl, rfl⟩)
  all_goals go_ret2
  exact ⟨rfl, rfl⟩

theorem sentryOf_any (n : Int) (w : World) (h0 : 0 ≤ n) (h1 : n < 18446744073709551616) :
    Calls Try.prog 28 #[.int .u64 n] w fun e w' => e = .returned (.tuple #[.int .i64 (lo32 n / 1048576), .int .i64 (lo32 n % 1048576)]) ∧ w' = w := by
  have l0 := lo32_lo n
  have l1 := lo32_hi n
  go_enter Try.func28, Try.ntmps28
  go_wp2_with (go_at_call 14; refine (sval_any _ _ h0 h1).mono ?_; rintro e w' ⟨rfl, rfl⟩)
  all_goals go_ret2
  exact ⟨rfl, rfl⟩
end Go.Proofs.Ytcaefcmocdoohaa.Words

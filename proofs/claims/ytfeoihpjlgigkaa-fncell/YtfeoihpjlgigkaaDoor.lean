/- The words of a house, further: doors, the register, changes, made and read by the program; doors and changes made by the specification. -/
import Derived.Test.YtfeoihpjlgigkaaCell
namespace Go.Proofs.Ytfeoihpjlgigkaa.Words
open Go.ChangeShapes Go.WideShapes Go.ChangeAt Go.RowKit

def doorV (st sl ep : Int) : Int := fit st 2 + fit sl 7 * 4 + fit ep 4095 * 32
def regV (st ep : Int) : Int := fit st 2 + fit ep 4095 * 4
def entryV (a v : Int) : Int := fit a 4095 * 1048576 + fit v 1048575

theorem sdoor_any (st sl ep s : Int) (w : World) :
    Calls Try.prog 13 #[.int .i64 st, .int .i64 sl, .int .i64 ep, .int .i64 s] w fun e w' => e = .returned (.int .u64 (pack (doorV st sl ep) s)) ∧ w' = w := by
  have a1 := fit_lo st 2 (by omega)
  have a2 := fit_hi st 2 (by omega)
  have b1 := fit_lo sl 7 (by omega)
  have b2 := fit_hi sl 7 (by omega)
  have c1 := fit_lo ep 4095 (by omega)
  have c2 := fit_hi ep 4095 (by omega)
  go_enter Try.func13, Try.ntmps13
  go_wp2_with (first | (go_at_call 25; refine (low_any _ _ _).mono ?_; rintro e w' ⟨rfl, rfl⟩) | (go_at_call 12; refine (spack_any _ _ _).mono ?_; rintro e w' ⟨rfl, rfl⟩))
  all_goals go_ret
  exact ⟨ret_int (by simp only [doorV, Int.mul_comm]), rfl⟩

theorem sentry_any (a v s : Int) (w : World) :
    Calls Try.prog 14 #[.int .i64 a, .int .i64 v, .int .i64 s] w fun e w' => e = .returned (.int .u64 (pack (entryV a v) s)) ∧ w' = w := by
  have a1 := fit_lo a 4095 (by omega)
  have a2 := fit_hi a 4095 (by omega)
  have b1 := fit_lo v 1048575 (by omega)
  have b2 := fit_hi v 1048575 (by omega)
  go_enter Try.func14, Try.ntmps14
  go_wp2_with (first | (go_at_call 25; refine (low_any _ _ _).mono ?_; rintro e w' ⟨rfl, rfl⟩) | (go_at_call 12; refine (spack_any _ _ _).mono ?_; rintro e w' ⟨rfl, rfl⟩))
  all_goals go_ret
  exact ⟨rfl, rfl⟩

theorem door_any (st sl ep s : Int) (w : World) :
    Calls Try.prog 9 #[.int .i64 st, .int .i64 sl, .int .i64 ep, .int .i64 s] w fun e w' => e = .returned (.int .u64 (pack (doorV st sl ep) s)) ∧ w' = w := by
  have a1 := fit_lo st 2 (by omega)
  have a2 := fit_hi st 2 (by omega)
  have b1 := fit_lo sl 7 (by omega)
  have b2 := fit_hi sl 7 (by omega)
  have c1 := fit_lo ep 4095 (by omega)
  have c2 := fit_hi ep 4095 (by omega)
  go_enter Try.func9, Try.ntmps9
  go_wp2_with (first | (go_at_call 24; refine (fit_any _ _ _ (by omega)).mono ?_; rintro e w' ⟨rfl, rfl⟩) | (go_at_call 23; refine (make_any _ _ _).mono ?_; rintro e w' ⟨rfl, rfl⟩))
  all_goals go_ret
  refine ⟨ret_int ?_, rfl⟩
  rw [or_low2 _ _ a1 a2 b1 (by omega), or_low5 _ _ (by omega) (by omega) c1 c2, doorV]

theorem reg_any (st ep s : Int) (w : World) :
    Calls Try.prog 10 #[.int .i64 st, .int .i64 ep, .int .i64 s] w fun e w' => e = .returned (.int .u64 (pack (regV st ep) s)) ∧ w' = w := by
  have a1 := fit_lo st 2 (by omega)
  have a2 := fit_hi st 2 (by omega)
  have c1 := fit_lo ep 4095 (by omega)
  have c2 := fit_hi ep 4095 (by omega)
  go_enter Try.func10, Try.ntmps10
  go_wp2_with (first | (go_at_call 24; refine (fit_any _ _ _ (by omega)).mono ?_; rintro e w' ⟨rfl, rfl⟩) | (go_at_call 23; refine (make_any _ _ _).mono ?_; rintro e w' ⟨rfl, rfl⟩))
  all_goals go_ret
  refine ⟨ret_int ?_, rfl⟩
  rw [or_low2 _ _ a1 a2 c1 c2, regV]

theorem entry_any (a v s : Int) (w : World) :
    Calls Try.prog 11 #[.int .i64 a, .int .i64 v, .int .i64 s] w fun e w' => e = .returned (.int .u64 (pack (entryV a v) s)) ∧ w' = w := by
  have a1 := fit_lo a 4095 (by omega)
  have a2 := fit_hi a 4095 (by omega)
  have b1 := fit_lo v 1048575 (by omega)
  have b2 := fit_hi v 1048575 (by omega)
  go_enter Try.func11, Try.ntmps11
  go_wp2_with (first | (go_at_call 24; refine (fit_any _ _ _ (by omega)).mono ?_; rintro e w' ⟨rfl, rfl⟩) | (go_at_call 23; refine (make_any _ _ _).mono ?_; rintro e w' ⟨rfl, rfl⟩))
  all_goals go_ret
  refine ⟨ret_int ?_, rfl⟩
  rw [or_high20 _ _ a1 a2 b1 b2, entryV]

theorem dstate_any (n : Int) (w : World) (h0 : 0 ≤ n) (h1 : n < 18446744073709551616) :
    Calls Try.prog 28 #[.agg #[.int .u64 n]] w fun e w' => e = .returned (.int .i64 (lo32 n % 4)) ∧ w' = w.alloc (.cells #[.int .u64 n] 48) := by
  have l0 := lo32_lo n
  have l1 := lo32_hi n
  go_enter Try.func28, Try.ntmps28
  go_wp2_with (go_at_call 26; refine (value_any _ _ h0 h1).mono ?_; rintro e w' ⟨rfl, rfl⟩)
  all_goals go_ret
  exact ⟨ret_int (and3 _ (lo32_lo n) (lo32_hi n)), rfl⟩

theorem dslot_any (n : Int) (w : World) (h0 : 0 ≤ n) (h1 : n < 18446744073709551616) :
    Calls Try.prog 29 #[.agg #[.int .u64 n]] w fun e w' => e = .returned (.int .i64 (lo32 n / 4 % 8)) ∧ w' = w.alloc (.cells #[.int .u64 n] 48) := by
  have l0 := lo32_lo n
  have l1 := lo32_hi n
  go_enter Try.func29, Try.ntmps29
  go_wp2_with (go_at_call 26; refine (value_any _ _ h0 h1).mono ?_; rintro e w' ⟨rfl, rfl⟩)
  all_goals go_ret
  exact ⟨ret_int (and7 _ (by omega) (by omega)), rfl⟩

theorem depoch_any (n : Int) (w : World) (h0 : 0 ≤ n) (h1 : n < 18446744073709551616) :
    Calls Try.prog 30 #[.agg #[.int .u64 n]] w fun e w' => e = .returned (.int .i64 (lo32 n / 32)) ∧ w' = w.alloc (.cells #[.int .u64 n] 48) := by
  have l0 := lo32_lo n
  have l1 := lo32_hi n
  go_enter Try.func30, Try.ntmps30
  go_wp2_with (go_at_call 26; refine (value_any _ _ h0 h1).mono ?_; rintro e w' ⟨rfl, rfl⟩)
  all_goals go_ret
  exact ⟨rfl, rfl⟩

theorem rstate_any (n : Int) (w : World) (h0 : 0 ≤ n) (h1 : n < 18446744073709551616) :
    Calls Try.prog 31 #[.agg #[.int .u64 n]] w fun e w' => e = .returned (.int .i64 (lo32 n % 4)) ∧ w' = w.alloc (.cells #[.int .u64 n] 49) := by
  have l0 := lo32_lo n
  have l1 := lo32_hi n
  go_enter Try.func31, Try.ntmps31
  go_wp2_with (go_at_call 26; refine (value_any _ _ h0 h1).mono ?_; rintro e w' ⟨rfl, rfl⟩)
  all_goals go_ret
  exact ⟨ret_int (and3 _ (lo32_lo n) (lo32_hi n)), rfl⟩

theorem repoch_any (n : Int) (w : World) (h0 : 0 ≤ n) (h1 : n < 18446744073709551616) :
    Calls Try.prog 32 #[.agg #[.int .u64 n]] w fun e w' => e = .returned (.int .i64 (lo32 n / 4)) ∧ w' = w.alloc (.cells #[.int .u64 n] 49) := by
  have l0 := lo32_lo n
  have l1 := lo32_hi n
  go_enter Try.func32, Try.ntmps32
  go_wp2_with (go_at_call 26; refine (value_any _ _ h0 h1).mono ?_; rintro e w' ⟨rfl, rfl⟩)
  all_goals go_ret
  exact ⟨rfl, rfl⟩

theorem eaddr_any (n : Int) (w : World) (h0 : 0 ≤ n) (h1 : n < 18446744073709551616) :
    Calls Try.prog 33 #[.agg #[.int .u64 n]] w fun e w' => e = .returned (.int .i64 (lo32 n / 1048576)) ∧ w' = w.alloc (.cells #[.int .u64 n] 50) := by
  have l0 := lo32_lo n
  have l1 := lo32_hi n
  go_enter Try.func33, Try.ntmps33
  go_wp2_with (go_at_call 26; refine (value_any _ _ h0 h1).mono ?_; rintro e w' ⟨rfl, rfl⟩)
  all_goals go_ret
  exact ⟨rfl, rfl⟩

theorem eval_any (n : Int) (w : World) (h0 : 0 ≤ n) (h1 : n < 18446744073709551616) :
    Calls Try.prog 34 #[.agg #[.int .u64 n]] w fun e w' => e = .returned (.int .i64 (lo32 n % 1048576)) ∧ w' = w.alloc (.cells #[.int .u64 n] 50) := by
  have l0 := lo32_lo n
  have l1 := lo32_hi n
  go_enter Try.func34, Try.ntmps34
  go_wp2_with (go_at_call 26; refine (value_any _ _ h0 h1).mono ?_; rintro e w' ⟨rfl, rfl⟩)
  all_goals go_ret
  exact ⟨ret_int (and20 _ (by omega) (by omega)), rfl⟩

end Go.Proofs.Ytfeoihpjlgigkaa.Words

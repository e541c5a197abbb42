/- The words of a house, further: doors, the register, changes, made and read by the program; doors and changes made by the specification. -/
import Derived.Test.YtfijhclocncplaaCell
namespace Go.Proofs.Ytfijhclocncplaa.Words
open Go.ChangeShapes Go.WideShapes Go.ChangeAt Go.RowKit

def doorV (st sl ep : Int) : Int := fit st 2 + fit sl 7 * 4 + fit ep 4095 * 32
def regV (st ep : Int) : Int := fit st 2 + fit ep 4095 * 4
def entryV (a v : Int) : Int := fit a 4095 * 1048576 + fit v 1048575

theorem sdoor_any (st sl ep s : Int) (w : World) :
    Calls Try.prog 102 #[.int .i64 st, .int .i64 sl, .int .i64 ep, .int .i64 s] w fun e w' => e = .returned (.int .u64 (pack (doorV st sl ep) s)) ∧ w' = w := by
  have a1 := fit_lo st 2 (by omega)
  have a2 := fit_hi st 2 (by omega)
  have b1 := fit_lo sl 7 (by omega)
  have b2 := fit_hi sl 7 (by omega)
  have c1 := fit_lo ep 4095 (by omega)
  have c2 := fit_hi ep 4095 (by omega)
  go_enter Try.func102, Try.ntmps102
  go_wp2_with (first | (go_at_call 151; refine (low_any _ _ _).mono ?_; rintro e w' ⟨rfl, rfl⟩) | (go_at_call 126; refine (spack_any _ _ _).mono ?_; rintro e w' ⟨rfl, rfl⟩))
  all_goals go_ret
  exact ⟨ret_int (by simp only [doorV, Int.mul_comm]), rfl⟩

theorem door_any (st sl ep s : Int) (w : World) :
    Calls Try.prog 56 #[.int .i64 st, .int .i64 sl, .int .i64 ep, .int .i64 s] w fun e w' => e = .returned (.int .u64 (pack (doorV st sl ep) s)) ∧ w' = w := by
  have a1 := fit_lo st 2 (by omega)
  have a2 := fit_hi st 2 (by omega)
  have b1 := fit_lo sl 7 (by omega)
  have b2 := fit_hi sl 7 (by omega)
  have c1 := fit_lo ep 4095 (by omega)
  have c2 := fit_hi ep 4095 (by omega)
  go_enter Try.func56, Try.ntmps56
  go_wp2_with (first | (go_at_call 109; refine (fit_any _ _ _ (by omega)).mono ?_; rintro e w' ⟨rfl, rfl⟩) | (go_at_call 110; refine (make_any _ _ _).mono ?_; rintro e w' ⟨rfl, rfl⟩))
  all_goals go_ret
  refine ⟨ret_int ?_, rfl⟩
  rw [or_low2 _ _ a1 a2 b1 (by omega), or_low5 _ _ (by omega) (by omega) c1 c2, doorV]

theorem dstate_any (n : Int) (w : World) (h0 : 0 ≤ n) (h1 : n < 18446744073709551616) :
    Calls Try.prog 153 #[.agg #[.int .u64 n]] w fun e w' => e = .returned (.int .i64 (lo32 n % 4)) ∧ w' = w.alloc (.cells #[.int .u64 n] 130) := by
  have l0 := lo32_lo n
  have l1 := lo32_hi n
  go_enter Try.func153, Try.ntmps153
  go_wp2_with (go_at_call 164; refine (value_any _ _ h0 h1).mono ?_; rintro e w' ⟨rfl, rfl⟩)
  all_goals go_ret
  exact ⟨ret_int (and3 _ (lo32_lo n) (lo32_hi n)), rfl⟩

theorem dslot_any (n : Int) (w : World) (h0 : 0 ≤ n) (h1 : n < 18446744073709551616) :
    Calls Try.prog 152 #[.agg #[.int .u64 n]] w fun e w' => e = .returned (.int .i64 (lo32 n / 4 % 8)) ∧ w' = w.alloc (.cells #[.int .u64 n] 130) := by
  have l0 := lo32_lo n
  have l1 := lo32_hi n
  go_enter Try.func152, Try.ntmps152
  go_wp2_with (go_at_call 164; refine (value_any _ _ h0 h1).mono ?_; rintro e w' ⟨rfl, rfl⟩)
  all_goals go_ret
  exact ⟨ret_int (and7 _ (by omega) (by omega)), rfl⟩

theorem rstate_any (n : Int) (w : World) (h0 : 0 ≤ n) (h1 : n < 18446744073709551616) :
    Calls Try.prog 165 #[.agg #[.int .u64 n]] w fun e w' => e = .returned (.int .i64 (lo32 n % 4)) ∧ w' = w.alloc (.cells #[.int .u64 n] 138) := by
  have l0 := lo32_lo n
  have l1 := lo32_hi n
  go_enter Try.func165, Try.ntmps165
  go_wp2_with (go_at_call 164; refine (value_any _ _ h0 h1).mono ?_; rintro e w' ⟨rfl, rfl⟩)
  all_goals go_ret
  exact ⟨ret_int (and3 _ (lo32_lo n) (lo32_hi n)), rfl⟩

theorem repoch_any (n : Int) (w : World) (h0 : 0 ≤ n) (h1 : n < 18446744073709551616) :
    Calls Try.prog 166 #[.agg #[.int .u64 n]] w fun e w' => e = .returned (.int .i64 (lo32 n / 4)) ∧ w' = w.alloc (.cells #[.int .u64 n] 138) := by
  have l0 := lo32_lo n
  have l1 := lo32_hi n
  go_enter Try.func166, Try.ntmps166
  go_wp2_with (go_at_call 164; refine (value_any _ _ h0 h1).mono ?_; rintro e w' ⟨rfl, rfl⟩)
  all_goals go_ret
  exact ⟨rfl, rfl⟩

theorem eaddr_any (n : Int) (w : World) (h0 : 0 ≤ n) (h1 : n < 18446744073709551616) :
    Calls Try.prog 168 #[.agg #[.int .u64 n]] w fun e w' => e = .returned (.int .i64 (lo32 n / 1048576)) ∧ w' = w.alloc (.cells #[.int .u64 n] 140) := by
  have l0 := lo32_lo n
  have l1 := lo32_hi n
  go_enter Try.func168, Try.ntmps168
  go_wp2_with (go_at_call 164; refine (value_any _ _ h0 h1).mono ?_; rintro e w' ⟨rfl, rfl⟩)
  all_goals go_ret
  exact ⟨rfl, rfl⟩

theorem eval_any (n : Int) (w : World) (h0 : 0 ≤ n) (h1 : n < 18446744073709551616) :
    Calls Try.prog 169 #[.agg #[.int .u64 n]] w fun e w' => e = .returned (.int .i64 (lo32 n % 1048576)) ∧ w' = w.alloc (.cells #[.int .u64 n] 140) := by
  have l0 := lo32_lo n
  have l1 := lo32_hi n
  go_enter Try.func169, Try.ntmps169
  go_wp2_with (go_at_call 164; refine (value_any _ _ h0 h1).mono ?_; rintro e w' ⟨rfl, rfl⟩)
  all_goals go_ret
  exact ⟨ret_int (and20 _ (by omega) (by omega)), rfl⟩

end Go.Proofs.Ytfijhclocncplaa.Words

/- The words of a house, further: doors, the register, changes, made and read by the program; doors and changes made by the specification. -/
import Derived.Test.YtipbijcmpbefpaaCell
namespace Go.Proofs.Ytipbijcmpbefpaa.Words
open Go.ChangeShapes Go.WideShapes Go.ChangeAt Go.RowKit

def doorV (st sl ep : Int) : Int := fit st 2 + fit sl 7 * 4 + fit ep 4095 * 32
def regV (st ep : Int) : Int := fit st 2 + fit ep 4095 * 4
def entryV (a v : Int) : Int := fit a 4095 * 1048576 + fit v 1048575

theorem rstate_any (n : Int) (w : World) (h0 : 0 ≤ n) (h1 : n < 18446744073709551616) :
    Calls Try.prog 130 #[.agg #[.int .u64 n]] w fun e w' => e = .returned (.int .i64 (lo32 n % 4)) ∧ w' = w.alloc (.cells #[.int .u64 n] 127) := by
  have l0 := lo32_lo n
  have l1 := lo32_hi n
  go_enter Try.func130, Try.ntmps130
  go_wp2_with (go_at_call 129; refine (value_any _ _ h0 h1).mono ?_; rintro e w' ⟨rfl, rfl⟩)
  all_goals go_ret
  exact ⟨ret_int (and3 _ (lo32_lo n) (lo32_hi n)), rfl⟩

theorem repoch_any (n : Int) (w : World) (h0 : 0 ≤ n) (h1 : n < 18446744073709551616) :
    Calls Try.prog 131 #[.agg #[.int .u64 n]] w fun e w' => e = .returned (.int .i64 (lo32 n / 4)) ∧ w' = w.alloc (.cells #[.int .u64 n] 127) := by
  have l0 := lo32_lo n
  have l1 := lo32_hi n
  go_enter Try.func131, Try.ntmps131
  go_wp2_with (go_at_call 129; refine (value_any _ _ h0 h1).mono ?_; rintro e w' ⟨rfl, rfl⟩)
  all_goals go_ret
  exact ⟨rfl, rfl⟩

theorem eaddr_any (n : Int) (w : World) (h0 : 0 ≤ n) (h1 : n < 18446744073709551616) :
    Calls Try.prog 134 #[.agg #[.int .u64 n]] w fun e w' => e = .returned (.int .i64 (lo32 n / 1048576)) ∧ w' = w.alloc (.cells #[.int .u64 n] 129) := by
  have l0 := lo32_lo n
  have l1 := lo32_hi n
  go_enter Try.func134, Try.ntmps134
  go_wp2_with (go_at_call 129; refine (value_any _ _ h0 h1).mono ?_; rintro e w' ⟨rfl, rfl⟩)
  all_goals go_ret
  exact ⟨rfl, rfl⟩

theorem eval_any (n : Int) (w : World) (h0 : 0 ≤ n) (h1 : n < 18446744073709551616) :
    Calls Try.prog 135 #[.agg #[.int .u64 n]] w fun e w' => e = .returned (.int .i64 (lo32 n % 1048576)) ∧ w' = w.alloc (.cells #[.int .u64 n] 129) := by
  have l0 := lo32_lo n
  have l1 := lo32_hi n
  go_enter Try.func135, Try.ntmps135
  go_wp2_with (go_at_call 129; refine (value_any _ _ h0 h1).mono ?_; rintro e w' ⟨rfl, rfl⟩)
  all_goals go_ret
  exact ⟨ret_int (and20 _ (by omega) (by omega)), rfl⟩

end Go.Proofs.Ytipbijcmpbefpaa.Words

/- The words of a house: what the specification's other functions of layer 1 answer. -/
import Derived.Test.YtipbijcmpbefpaaDoor
namespace Go.Proofs.Ytipbijcmpbefpaa.Words
open Go.ChangeShapes Go.WideShapes Go.ChangeAt Go.RowKit

theorem sval_any (n : Int) (w : World) (h0 : 0 ≤ n) (h1 : n < 18446744073709551616) :
    Calls Try.prog 61 #[.int .u64 n] w fun e w' => e = .returned (.int .i64 (lo32 n)) ∧ w' = w := by
  go_enter Try.func61, Try.ntmps61
  go_wp2
  all_goals go_ret
  exact ⟨rfl, rfl⟩

theorem sst_any (n : Int) (w : World) (h0 : 0 ≤ n) (h1 : n < 18446744073709551616) :
    Calls Try.prog 114 #[.int .u64 n] w fun e w' => e = .returned (.int .i64 (n / 4294967296)) ∧ w' = w := by
  go_enter Try.func114, Try.ntmps114
  go_wp2
  all_goals go_ret
  exact ⟨rfl, rfl⟩

theorem sregOf_any (n : Int) (w : World) (h0 : 0 ≤ n) (h1 : n < 18446744073709551616) :
    Calls Try.prog 100 #[.int .u64 n] w fun e w' => e = .returned (.tuple #[.int .i64 (lo32 n % 4), .int .i64 (lo32 n / 4)]) ∧ w' = w := by
  have l0 := lo32_lo n
  have l1 := lo32_hi n
  go_enter Try.func100, Try.ntmps100
  go_wp2_with (go_at_call 61; refine (sval_any _ _ h0 h1).mono ?_; rintro e w' ⟨rfl, rfl⟩)
  all_goals go_ret2
  exact ⟨rfl, rfl⟩

theorem sentryOf_any (n : Int) (w : World) (h0 : 0 ≤ n) (h1 : n < 18446744073709551616) :
    Calls Try.prog 113 #[.int .u64 n] w fun e w' => e = .returned (.tuple #[.int .i64 (lo32 n / 1048576), .int .i64 (lo32 n % 1048576)]) ∧ w' = w := by
  have l0 := lo32_lo n
  have l1 := lo32_hi n
  go_enter Try.func113, Try.ntmps113
  go_wp2_with (go_at_call 61; refine (sval_any _ _ h0 h1).mono ?_; rintro e w' ⟨rfl, rfl⟩)
  all_goals go_ret2
  exact ⟨rfl, rfl⟩
end Go.Proofs.Ytipbijcmpbefpaa.Words

/- The words of a house: what the specification's other functions of layer 1 answer. -/
import Derived.Test.YtpfgldbmihbiiaaDoor
namespace Go.Proofs.Ytpfgldbmihbiiaa.Words
open Go.ChangeShapes Go.WideShapes Go.ChangeAt Go.RowKit

theorem sval_any (n : Int) (w : World) (h0 : 0 ≤ n) (h1 : n < 18446744073709551616) :
    Calls Try.prog 30 #[.int .u64 n] w fun e w' => e = .returned (.int .i64 (lo32 n)) ∧ w' = w := by
  go_enter Try.func30, Try.ntmps30
  go_wp2
  all_goals go_ret
  exact ⟨rfl, rfl⟩

end Go.Proofs.Ytpfgldbmihbiiaa.Words

/- The words of a house, further: doors, the register, changes, made and read by the program; doors and changes made by the specification. -/
import Derived.Test.YtokmaanahbeheaaCell
namespace Go.Proofs.Ytokmaanahbeheaa.Words
open Go.ChangeShapes Go.WideShapes Go.ChangeAt Go.RowKit

def doorV (st sl ep : Int) : Int := fit st 2 + fit sl 7 * 4 + fit ep 4095 * 32
def regV (st ep : Int) : Int := fit st 2 + fit ep 4095 * 4
def entryV (a v : Int) : Int := fit a 4095 * 1048576 + fit v 1048575

theorem door_any (st sl ep s : Int) (w : World) :
    Calls Try.prog 38 #[.int .i64 st, .int .i64 sl, .int .i64 ep, .int .i64 s] w fun e w' => e = .returned (.int .u64 (pack (doorV st sl ep) s)) ∧ w' = w := by
  have a1 := fit_lo st 2 (by omega)
  have a2 := fit_hi st 2 (by omega)
  have b1 := fit_lo sl 7 (by omega)
  have b2 := fit_hi sl 7 (by omega)
  have c1 := fit_lo ep 4095 (by omega)
  have c2 := fit_hi ep 4095 (by omega)
  go_enter Try.func38, Try.ntmps38
  go_wp2_with (first | (go_at_call 52; refine (fit_any _ _ _ (by omega)).mono ?_; rintro e w' ⟨rfl, rfl⟩) | (go_at_call 53; refine (make_any _ _ _).mono ?_; rintro e w' ⟨rfl, rfl⟩))
  all_goals go_ret
  refine ⟨ret_int ?_, rfl⟩
  rw [or_low2 _ _ a1 a2 b1 (by omega), or_low5 _ _ (by omega) (by omega) c1 c2, doorV]

end Go.Proofs.Ytokmaanahbeheaa.Words

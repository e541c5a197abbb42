/- Where each word lies: the addresses themselves. Conditions: none. -/
import Derived.Test.YtibiegapgokelaaPlat
namespace Go.Proofs.Ytibiegapgokelaa.Plat
open Go.ChangeShapes Go.WideShapes Go.ChangeAt Go.RowKit
open Go.Proofs.Ytibiegapgokelaa.Words Go.Proofs.Ytibiegapgokelaa.Aid

theorem layL_len (s p : Int) : (layL s p).length = 25 := by simp [layL]
theorem layL_get (s p : Int) (j : Nat) (h : j < 25) : (layL s p).getD j 0 = cell2 s p 8 j := by simp [layL, h]
theorem rep_len : zeroL.length = 25 := List.length_replicate

/- What is at an address of an area: nothing, if the house is not ok. -/
def addr (s p l m d a n : Int) : Int := if okB s p l = true then fnd m d a n else 0
def size (s p l : Int) : Int := if okB s p l = true then 7 + s * 23 + p * 17 else 0

theorem fnd_none (n : Int) : fnd 0 0 0 n = 0 := by unfold fnd; split <;> omega

/- The specification's. -/
theorem sHouse_ok (s p l : Int) (w : World) (h : 1 ≤ s ∧ s ≤ 4 ∧ 1 ≤ p ∧ p ≤ 6 ∧ 1 ≤ l ∧ l ≤ 20) :
    Calls Try.prog 8 #[.agg #[.int .i64 s, .int .i64 p, .int .i64 l]] w fun e w' => e = .returned (.int .i64 (7 + 2 * s + 17 * p)) ∧ w' = w.alloc (.cells #[.int .i64 s, .int .i64 p, .int .i64 l] 25) := by
  go_enter Try.func8, Try.ntmps8
  go_wp2
  go_ret
  exact ⟨ret_int (by omega), rfl⟩

theorem sHouse_any (s p l : Int) (w : World) :
    Calls Try.prog 8 #[.agg #[.int .i64 s, .int .i64 p, .int .i64 l]] w fun e w' => (∃ x, e = .returned (.int .i64 x)) ∧ w' = w.alloc (.cells #[.int .i64 s, .int .i64 p, .int .i64 l] 25) := by
  go_enter Try.func8, Try.ntmps8
  go_wp2
  go_ret
  exact ⟨⟨_, rfl⟩, rfl⟩

end Go.Proofs.Ytibiegapgokelaa.Plat

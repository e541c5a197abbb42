/- Where each word lies: the addresses themselves. Conditions: none. -/
import Derived.Test.YtpfgldbmihbiiaaPlat
namespace Go.Proofs.Ytpfgldbmihbiiaa.Plat
open Go.ChangeShapes Go.WideShapes Go.ChangeAt Go.RowKit
open Go.Proofs.Ytpfgldbmihbiiaa.Words Go.Proofs.Ytpfgldbmihbiiaa.Aid

theorem layL_len (s p : Int) : (layL s p).length = 25 := by simp [layL]
theorem layL_get (s p : Int) (j : Nat) (h : j < 25) : (layL s p).getD j 0 = cell2 s p 8 j := by simp [layL, h]
theorem rep_len : zeroL.length = 25 := List.length_replicate

/- What is at an address of an area: nothing, if the house is not ok. -/
def addr (s p l m d a n : Int) : Int := if okB s p l = true then fnd m d a n else 0
def size (s p l : Int) : Int := if okB s p l = true then 7 + s * 23 + p * 17 else 0

theorem fnd_none (n : Int) : fnd 0 0 0 n = 0 := by unfold fnd; split <;> omega

set_option maxHeartbeats 1000000 in
theorem size_any (s p l : Int) (w : World) :
    Calls Try.prog 38 #[.agg #[.int .i64 s, .int .i64 p, .int .i64 l]] w fun e w' => e = .returned (.int .i64 (size s p l)) ∧ Below w.heap.size w w' := by
  by_cases h : okB s p l = true
  · go_enter Try.func38, Try.ntmps38
    go_wp2_with (fail)
    refine (lay_ok s p l _ h).mono ?_
    rintro e w1 ⟨rfl, hb⟩
    have hfd : ∀ w : World, (Instr.field 75 (.agg (ints (layL s p)).toArray) 3).run Try.prog w = .ok (.int .i64 (3 + s + s + 4 + p + p * 8 + p * 8 + s * 21)) w := fun _ => by kernel_rfl
    go_wp2_with (fail)
    go_ret
    exact ⟨ret_int (by unfold size; rw [if_pos h]; omega), (below1 _ _).trans (hb.mono (by simp))⟩
  · have h' : okB s p l = false := by simpa using h
    go_enter Try.func38, Try.ntmps38
    go_wp2_with (fail)
    refine (lay_bad s p l _ h').mono ?_
    rintro e w1 ⟨rfl, hb⟩
    have hfd : ∀ w : World, (Instr.field 75 (.agg (ints zeroL).toArray) 3).run Try.prog w = .ok (.int .i64 0) w := fun _ => by kernel_rfl
    go_wp2_with (fail)
    go_ret
    exact ⟨ret_int (by unfold size; rw [if_neg h]), (below1 _ _).trans (hb.mono (by simp))⟩

/- The specification's. -/
theorem sHouse_ok (s p l : Int) (w : World) (h : 1 ≤ s ∧ s ≤ 4 ∧ 1 ≤ p ∧ p ≤ 6 ∧ 1 ≤ l ∧ l ≤ 20) :
    Calls Try.prog 47 #[.agg #[.int .i64 s, .int .i64 p, .int .i64 l]] w fun e w' => e = .returned (.int .i64 (7 + 2 * s + 17 * p)) ∧ w' = w.alloc (.cells #[.int .i64 s, .int .i64 p, .int .i64 l] 45) := by
  go_enter Try.func47, Try.ntmps47
  go_wp2
  go_ret
  exact ⟨ret_int (by omega), rfl⟩

theorem sHouse_any (s p l : Int) (w : World) :
    Calls Try.prog 47 #[.agg #[.int .i64 s, .int .i64 p, .int .i64 l]] w fun e w' => (∃ x, e = .returned (.int .i64 x)) ∧ w' = w.alloc (.cells #[.int .i64 s, .int .i64 p, .int .i64 l] 45) := by
  go_enter Try.func47, Try.ntmps47
  go_wp2
  go_ret
  exact ⟨⟨_, rfl⟩, rfl⟩

set_option maxHeartbeats 1000000 in
theorem sl2Size_ok (s p l : Int) (w : World) (h : 1 ≤ s ∧ s ≤ 4 ∧ 1 ≤ p ∧ p ≤ 6 ∧ 1 ≤ l ∧ l ≤ 20) :
    Calls Try.prog 33 #[.agg #[.int .i64 s, .int .i64 p, .int .i64 l]] w fun e w' => e = .returned (.int .i64 (7 + s * 23 + p * 17)) ∧ Below w.heap.size w w' := by
  go_enter Try.func33, Try.ntmps33
  go_wp2_with (fail)
  go_region_with (go_at_call 47; refine (sHouse_ok s p l _ h).mono ?_; rintro e w' ⟨rfl, rfl⟩)
  all_goals go_wp2_with (fail)
  all_goals go_ret
  all_goals exact ⟨ret_int (by simp only [IntKind.wrap_i64]; omega), by repeat (first | exact Below.refl _ _ | refine Below.alloc ?_ (by simp <;> omega) _ | apply Below.drew)⟩

end Go.Proofs.Ytpfgldbmihbiiaa.Plat

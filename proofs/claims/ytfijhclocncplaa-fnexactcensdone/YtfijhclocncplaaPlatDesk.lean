/- Where each word lies: the specification's address of a desk. Conditions: none. -/
import Derived.Test.YtfijhclocncplaaPlat2
namespace Go.Proofs.Ytfijhclocncplaa.Plat
open Go.ChangeShapes Go.WideShapes Go.ChangeAt Go.RowKit
open Go.Proofs.Ytfijhclocncplaa.Words Go.Proofs.Ytfijhclocncplaa.Aid

set_option maxHeartbeats 8000000 in
theorem sdesk_any (s p l n : Int) (w : World) :
    Calls Try.prog 99 #[.agg #[.int .i64 s, .int .i64 p, .int .i64 l], .int .i64 n] w fun e w' => e = .returned (.int .i64 (addr s p l s 21 (3 + s + s + 4 + p + p * 8 + p * 8) n)) ∧ Below w.heap.size w w' := by
  by_cases h : okB s p l = true
  · have hk := okB_of h
    go_enter Try.func99, Try.ntmps99
    go_wp2_with (fail)
    go_region_with (first | (go_at_call 113; refine (sHouse_ok s p l _ hk).mono ?_; rintro e w' ⟨rfl, rfl⟩) | (go_at_call 142; refine (sAt_ok s p l _ n _ _ _ h (by omega) (by omega) (by omega) (by omega) (by omega) (by omega)).mono ?_; rintro e w' ⟨rfl, rfl⟩))
    all_goals go_wp2_with (fail)
    all_goals go_ret
    all_goals exact ⟨ret_int (by unfold addr; rw [if_pos h]; all_goals (congr 1 <;> omega)), by repeat (first | exact Below.refl _ _ | refine Below.alloc ?_ (by simp <;> omega) _ | apply Below.drew)⟩
  · have h' : okB s p l = false := by simpa using h
    go_enter Try.func99, Try.ntmps99
    go_wp2_with (fail)
    go_region_with (first | (go_at_call 113; refine (sHouse_any s p l _).mono ?_; rintro e w' ⟨⟨x, rfl⟩, rfl⟩) | (go_at_call 142; refine (sAt_bad s p l _ n _ _ _ h').mono ?_; rintro e w' ⟨rfl, rfl⟩))
    all_goals go_wp2_with (fail)
    all_goals go_ret
    all_goals exact ⟨ret_int (by unfold addr; rw [if_neg h]), by repeat (first | exact Below.refl _ _ | refine Below.alloc ?_ (by simp <;> omega) _ | apply Below.drew)⟩

end Go.Proofs.Ytfijhclocncplaa.Plat

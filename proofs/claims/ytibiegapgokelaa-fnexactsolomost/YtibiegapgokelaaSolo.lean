/- How many steps a guest alone needs at most: the program's and the specification's. Conditions: none. -/
import Derived.Test.YtibiegapgokelaaPlat2
namespace Go.Proofs.Ytibiegapgokelaa.Plat
open Go.ChangeShapes Go.WideShapes Go.ChangeAt Go.RowKit
open Go.Proofs.Ytibiegapgokelaa.Words Go.Proofs.Ytibiegapgokelaa.Aid

def solo (s p l : Int) : Int := if okB s p l = true then 267 + 2 * s + 17 * p else 0

set_option maxHeartbeats 1000000 in
theorem solo_any (s p l : Int) (w : World) :
    Calls Try.prog 6 #[.agg #[.int .i64 s, .int .i64 p, .int .i64 l]] w fun e w' => e = .returned (.int .i64 (solo s p l)) ∧ Below w.heap.size w w' := by
  by_cases h : okB s p l = true
  · have hk := okB_of h
    go_enter Try.func6, Try.ntmps6
    go_wp2_with (first | (go_at_call 9; refine (ok_any s p l _).mono ?_; rintro e w1 ⟨rfl, hb⟩; rw [h]; obtain ⟨hc, hf⟩ := bcell hb; have hz := hb.size; simp at hz) | (go_at_call 10; refine (lay_ok s p l _ h).mono ?_; rintro e w2 ⟨rfl, hb2⟩; have hfd : ∀ w : World, (Instr.field 31 (.agg (ints (layL s p)).toArray) 2).run Try.prog w = .ok (.agg (ints (atL s p |>.take 8)).toArray) w := (fun _ => by kernel_rfl); have hix : ∀ w : World, (Instr.index 29 (.agg (ints (atL s p |>.take 8)).toArray) (.int .i64 7)).run Try.prog w = .ok (.int .i64 (3 + s + s + 4 + p + p * 8 + p * 8)) w := (fun _ => by kernel_rfl)))
    go_ret
    exact ⟨ret_int (by unfold solo; rw [if_pos h]; omega), ((below1 _ _).trans (hb.mono (by simp))).trans (hb2.mono (by omega))⟩
  · have h' : okB s p l = false := by simpa using h
    go_enter Try.func6, Try.ntmps6
    go_wp2_with (go_at_call 9; refine (ok_any s p l _).mono ?_; rintro e w1 ⟨rfl, hb⟩; rw [h'])
    go_ret
    exact ⟨ret_int (by unfold solo; rw [if_neg h]), (below1 _ _).trans (hb.mono (by simp))⟩

set_option maxHeartbeats 1000000 in
theorem ssolo_any (s p l : Int) (w : World) :
    Calls Try.prog 4 #[.agg #[.int .i64 s, .int .i64 p, .int .i64 l]] w fun e w' => e = .returned (.int .i64 (solo s p l)) ∧ Below w.heap.size w w' := by
  by_cases h : okB s p l = true
  · have hk := okB_of h
    go_enter Try.func4, Try.ntmps4
    go_wp2_with (first | (go_at_call 7; refine (sok_any s p l _).mono ?_; rintro e w1 ⟨rfl, hb⟩; rw [h]; obtain ⟨hc, hf⟩ := bcell hb; have hz := hb.size; simp at hz) | (go_at_call 8; refine (sHouse_ok s p l _ hk).mono ?_; rintro e w2 ⟨rfl, rfl⟩))
    go_ret
    exact ⟨ret_int (by unfold solo; rw [if_pos h]; omega), ((below1 _ _).trans (hb.mono (by simp))).trans ((below1 _ _).mono (by omega))⟩
  · have h' : okB s p l = false := by simpa using h
    go_enter Try.func4, Try.ntmps4
    go_wp2_with (go_at_call 7; refine (sok_any s p l _).mono ?_; rintro e w1 ⟨rfl, hb⟩; rw [h'])
    go_ret
    exact ⟨ret_int (by unfold solo; rw [if_neg h]), (below1 _ _).trans (hb.mono (by simp))⟩

end Go.Proofs.Ytibiegapgokelaa.Plat

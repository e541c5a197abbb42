/- Where each word lies: the addresses themselves. Conditions: none. -/
import Derived.Test.YtfijhclocncplaaPlat
namespace Go.Proofs.Ytfijhclocncplaa.Plat
open Go.ChangeShapes Go.WideShapes Go.ChangeAt Go.RowKit
open Go.Proofs.Ytfijhclocncplaa.Words Go.Proofs.Ytfijhclocncplaa.Aid

theorem layL_len (s p : Int) : (layL s p).length = 25 := by simp [layL]
theorem layL_get (s p : Int) (j : Nat) (h : j < 25) : (layL s p).getD j 0 = cell2 s p 8 j := by simp [layL, h]
theorem rep_len : zeroL.length = 25 := List.length_replicate

/- What is at an address of an area: nothing, if the house is not ok. -/
def addr (s p l m d a n : Int) : Int := if okB s p l = true then fnd m d a n else 0
def size (s p l : Int) : Int := if okB s p l = true then 7 + s * 23 + p * 17 else 0

theorem fnd_none (n : Int) : fnd 0 0 0 n = 0 := by unfold fnd; split <;> omega

set_option maxHeartbeats 1000000 in
theorem size_any (s p l : Int) (w : World) :
    Calls Try.prog 14 #[.agg #[.int .i64 s, .int .i64 p, .int .i64 l]] w fun e w' => e = .returned (.int .i64 (size s p l)) ∧ Below w.heap.size w w' := by
  by_cases h : okB s p l = true
  · go_enter Try.func14, Try.ntmps14
    go_wp2_with (fail)
    refine (lay_ok s p l _ h).mono ?_
    rintro e w1 ⟨rfl, hb⟩
    have hfd : ∀ w : World, (Instr.field 70 (.agg (ints (layL s p)).toArray) 3).run Try.prog w = .ok (.int .i64 (3 + s + s + 4 + p + p * 8 + p * 8 + s * 21)) w := fun _ => by kernel_rfl
    go_wp2_with (fail)
    go_ret
    exact ⟨ret_int (by unfold size; rw [if_pos h]; omega), (below1 _ _).trans (hb.mono (by simp))⟩
  · have h' : okB s p l = false := by simpa using h
    go_enter Try.func14, Try.ntmps14
    go_wp2_with (fail)
    refine (lay_bad s p l _ h').mono ?_
    rintro e w1 ⟨rfl, hb⟩
    have hfd : ∀ w : World, (Instr.field 70 (.agg (ints zeroL).toArray) 3).run Try.prog w = .ok (.int .i64 0) w := fun _ => by kernel_rfl
    go_wp2_with (fail)
    go_ret
    exact ⟨ret_int (by unfold size; rw [if_neg h]), (below1 _ _).trans (hb.mono (by simp))⟩

set_option maxHeartbeats 1000000 in
theorem reg_any (s p l n : Int) (w : World) :
    Calls Try.prog 16 #[.agg #[.int .i64 s, .int .i64 p, .int .i64 l], .int .i64 n] w fun e w' => e = .returned (.int .i64 (addr s p l s 1 3 n)) ∧ Below w.heap.size w w' := by
  by_cases h : okB s p l = true
  · have hk := okB_of h
    go_enter Try.func16, Try.ntmps16
    go_wp2_with (fail)
    refine (lay_ok s p l _ h).mono ?_
    rintro e w1 ⟨rfl, hb⟩
    go_wp2_with (fail)
    refine (find_any (layL s p) 1 n s 1 3 _ (layL_len s p) (by omega) (by rw [layL_get _ _ _ (by omega)]; rfl) (by rw [layL_get _ _ _ (by omega)]; rfl) (by rw [layL_get _ _ _ (by omega)]; rfl) (by omega) (by omega) (by omega) (by omega) (by omega) (by omega)).mono ?_
    rintro e w2 ⟨rfl, hb2⟩
    go_wp2_with (fail)
    go_ret
    exact ⟨ret_int (by unfold addr; rw [if_pos h]), ((below1 _ _).trans (hb.mono (by simp))).trans (hb2.mono (Nat.le_trans (by simp) hb.size))⟩
  · have h' : okB s p l = false := by simpa using h
    go_enter Try.func16, Try.ntmps16
    go_wp2_with (fail)
    refine (lay_bad s p l _ h').mono ?_
    rintro e w1 ⟨rfl, hb⟩
    go_wp2_with (fail)
    refine (find_any zeroL 1 n 0 0 0 _ rep_len (by omega) (rep_get _ _) (rep_get _ _) (rep_get _ _) (by omega) (by omega) (by omega) (by omega) (by omega) (by omega)).mono ?_
    rintro e w2 ⟨rfl, hb2⟩
    go_wp2_with (fail)
    go_ret
    exact ⟨ret_int (by unfold addr; rw [if_neg h]; exact fnd_none n), ((below1 _ _).trans (hb.mono (by simp))).trans (hb2.mono (Nat.le_trans (by simp) hb.size))⟩

set_option maxHeartbeats 1000000 in
theorem beat_any (s p l n : Int) (w : World) :
    Calls Try.prog 18 #[.agg #[.int .i64 s, .int .i64 p, .int .i64 l], .int .i64 n] w fun e w' => e = .returned (.int .i64 (addr s p l s 1 (3 + s) n)) ∧ Below w.heap.size w w' := by
  by_cases h : okB s p l = true
  · have hk := okB_of h
    go_enter Try.func18, Try.ntmps18
    go_wp2_with (fail)
    refine (lay_ok s p l _ h).mono ?_
    rintro e w1 ⟨rfl, hb⟩
    go_wp2_with (fail)
    refine (find_any (layL s p) 2 n s 1 (3 + s) _ (layL_len s p) (by omega) (by rw [layL_get _ _ _ (by omega)]; rfl) (by rw [layL_get _ _ _ (by omega)]; rfl) (by rw [layL_get _ _ _ (by omega)]; rfl) (by omega) (by omega) (by omega) (by omega) (by omega) (by omega)).mono ?_
    rintro e w2 ⟨rfl, hb2⟩
    go_wp2_with (fail)
    go_ret
    exact ⟨ret_int (by unfold addr; rw [if_pos h]), ((below1 _ _).trans (hb.mono (by simp))).trans (hb2.mono (Nat.le_trans (by simp) hb.size))⟩
  · have h' : okB s p l = false := by simpa using h
    go_enter Try.func18, Try.ntmps18
    go_wp2_with (fail)
    refine (lay_bad s p l _ h').mono ?_
    rintro e w1 ⟨rfl, hb⟩
    go_wp2_with (fail)
    refine (find_any zeroL 2 n 0 0 0 _ rep_len (by omega) (rep_get _ _) (rep_get _ _) (rep_get _ _) (by omega) (by omega) (by omega) (by omega) (by omega) (by omega)).mono ?_
    rintro e w2 ⟨rfl, hb2⟩
    go_wp2_with (fail)
    go_ret
    exact ⟨ret_int (by unfold addr; rw [if_neg h]; exact fnd_none n), ((below1 _ _).trans (hb.mono (by simp))).trans (hb2.mono (Nat.le_trans (by simp) hb.size))⟩

set_option maxHeartbeats 1000000 in
theorem head_any (s p l n : Int) (w : World) :
    Calls Try.prog 19 #[.agg #[.int .i64 s, .int .i64 p, .int .i64 l], .int .i64 n] w fun e w' => e = .returned (.int .i64 (addr s p l 4 1 (3 + s + s) n)) ∧ Below w.heap.size w w' := by
  by_cases h : okB s p l = true
  · have hk := okB_of h
    go_enter Try.func19, Try.ntmps19
    go_wp2_with (fail)
    refine (lay_ok s p l _ h).mono ?_
    rintro e w1 ⟨rfl, hb⟩
    go_wp2_with (fail)
    refine (find_any (layL s p) 3 n 4 1 (3 + s + s) _ (layL_len s p) (by omega) (by rw [layL_get _ _ _ (by omega)]; rfl) (by rw [layL_get _ _ _ (by omega)]; rfl) (by rw [layL_get _ _ _ (by omega)]; rfl) (by omega) (by omega) (by omega) (by omega) (by omega) (by omega)).mono ?_
    rintro e w2 ⟨rfl, hb2⟩
    go_wp2_with (fail)
    go_ret
    exact ⟨ret_int (by unfold addr; rw [if_pos h]), ((below1 _ _).trans (hb.mono (by simp))).trans (hb2.mono (Nat.le_trans (by simp) hb.size))⟩
  · have h' : okB s p l = false := by simpa using h
    go_enter Try.func19, Try.ntmps19
    go_wp2_with (fail)
    refine (lay_bad s p l _ h').mono ?_
    rintro e w1 ⟨rfl, hb⟩
    go_wp2_with (fail)
    refine (find_any zeroL 3 n 0 0 0 _ rep_len (by omega) (rep_get _ _) (rep_get _ _) (rep_get _ _) (by omega) (by omega) (by omega) (by omega) (by omega) (by omega)).mono ?_
    rintro e w2 ⟨rfl, hb2⟩
    go_wp2_with (fail)
    go_ret
    exact ⟨ret_int (by unfold addr; rw [if_neg h]; exact fnd_none n), ((below1 _ _).trans (hb.mono (by simp))).trans (hb2.mono (Nat.le_trans (by simp) hb.size))⟩

set_option maxHeartbeats 1000000 in
theorem page_any (s p l n : Int) (w : World) :
    Calls Try.prog 20 #[.agg #[.int .i64 s, .int .i64 p, .int .i64 l], .int .i64 n] w fun e w' => e = .returned (.int .i64 (addr s p l p 1 (3 + s + s + 4) n)) ∧ Below w.heap.size w w' := by
  by_cases h : okB s p l = true
  · have hk := okB_of h
    go_enter Try.func20, Try.ntmps20
    go_wp2_with (fail)
    refine (lay_ok s p l _ h).mono ?_
    rintro e w1 ⟨rfl, hb⟩
    go_wp2_with (fail)
    refine (find_any (layL s p) 4 n p 1 (3 + s + s + 4) _ (layL_len s p) (by omega) (by rw [layL_get _ _ _ (by omega)]; rfl) (by rw [layL_get _ _ _ (by omega)]; rfl) (by rw [layL_get _ _ _ (by omega)]; rfl) (by omega) (by omega) (by omega) (by omega) (by omega) (by omega)).mono ?_
    rintro e w2 ⟨rfl, hb2⟩
    go_wp2_with (fail)
    go_ret
    exact ⟨ret_int (by unfold addr; rw [if_pos h]), ((below1 _ _).trans (hb.mono (by simp))).trans (hb2.mono (Nat.le_trans (by simp) hb.size))⟩
  · have h' : okB s p l = false := by simpa using h
    go_enter Try.func20, Try.ntmps20
    go_wp2_with (fail)
    refine (lay_bad s p l _ h').mono ?_
    rintro e w1 ⟨rfl, hb⟩
    go_wp2_with (fail)
    refine (find_any zeroL 4 n 0 0 0 _ rep_len (by omega) (rep_get _ _) (rep_get _ _) (rep_get _ _) (by omega) (by omega) (by omega) (by omega) (by omega) (by omega)).mono ?_
    rintro e w2 ⟨rfl, hb2⟩
    go_wp2_with (fail)
    go_ret
    exact ⟨ret_int (by unfold addr; rw [if_neg h]; exact fnd_none n), ((below1 _ _).trans (hb.mono (by simp))).trans (hb2.mono (Nat.le_trans (by simp) hb.size))⟩

set_option maxHeartbeats 1000000 in
theorem tag_any (s p l n : Int) (w : World) :
    Calls Try.prog 21 #[.agg #[.int .i64 s, .int .i64 p, .int .i64 l], .int .i64 n] w fun e w' => e = .returned (.int .i64 (addr s p l (p * 8) 1 (3 + s + s + 4 + p) n)) ∧ Below w.heap.size w w' := by
  by_cases h : okB s p l = true
  · have hk := okB_of h
    go_enter Try.func21, Try.ntmps21
    go_wp2_with (fail)
    refine (lay_ok s p l _ h).mono ?_
    rintro e w1 ⟨rfl, hb⟩
    go_wp2_with (fail)
    refine (find_any (layL s p) 5 n (p * 8) 1 (3 + s + s + 4 + p) _ (layL_len s p) (by omega) (by rw [layL_get _ _ _ (by omega)]; rfl) (by rw [layL_get _ _ _ (by omega)]; rfl) (by rw [layL_get _ _ _ (by omega)]; rfl) (by omega) (by omega) (by omega) (by omega) (by omega) (by omega)).mono ?_
    rintro e w2 ⟨rfl, hb2⟩
    go_wp2_with (fail)
    go_ret
    exact ⟨ret_int (by unfold addr; rw [if_pos h]), ((below1 _ _).trans (hb.mono (by simp))).trans (hb2.mono (Nat.le_trans (by simp) hb.size))⟩
  · have h' : okB s p l = false := by simpa using h
    go_enter Try.func21, Try.ntmps21
    go_wp2_with (fail)
    refine (lay_bad s p l _ h').mono ?_
    rintro e w1 ⟨rfl, hb⟩
    go_wp2_with (fail)
    refine (find_any zeroL 5 n 0 0 0 _ rep_len (by omega) (rep_get _ _) (rep_get _ _) (rep_get _ _) (by omega) (by omega) (by omega) (by omega) (by omega) (by omega)).mono ?_
    rintro e w2 ⟨rfl, hb2⟩
    go_wp2_with (fail)
    go_ret
    exact ⟨ret_int (by unfold addr; rw [if_neg h]; exact fnd_none n), ((below1 _ _).trans (hb.mono (by simp))).trans (hb2.mono (Nat.le_trans (by simp) hb.size))⟩

set_option maxHeartbeats 1000000 in
theorem link_any (s p l n : Int) (w : World) :
    Calls Try.prog 22 #[.agg #[.int .i64 s, .int .i64 p, .int .i64 l], .int .i64 n] w fun e w' => e = .returned (.int .i64 (addr s p l (p * 8) 1 (3 + s + s + 4 + p + p * 8) n)) ∧ Below w.heap.size w w' := by
  by_cases h : okB s p l = true
  · have hk := okB_of h
    go_enter Try.func22, Try.ntmps22
    go_wp2_with (fail)
    refine (lay_ok s p l _ h).mono ?_
    rintro e w1 ⟨rfl, hb⟩
    go_wp2_with (fail)
    refine (find_any (layL s p) 6 n (p * 8) 1 (3 + s + s + 4 + p + p * 8) _ (layL_len s p) (by omega) (by rw [layL_get _ _ _ (by omega)]; rfl) (by rw [layL_get _ _ _ (by omega)]; rfl) (by rw [layL_get _ _ _ (by omega)]; rfl) (by omega) (by omega) (by omega) (by omega) (by omega) (by omega)).mono ?_
    rintro e w2 ⟨rfl, hb2⟩
    go_wp2_with (fail)
    go_ret
    exact ⟨ret_int (by unfold addr; rw [if_pos h]), ((below1 _ _).trans (hb.mono (by simp))).trans (hb2.mono (Nat.le_trans (by simp) hb.size))⟩
  · have h' : okB s p l = false := by simpa using h
    go_enter Try.func22, Try.ntmps22
    go_wp2_with (fail)
    refine (lay_bad s p l _ h').mono ?_
    rintro e w1 ⟨rfl, hb⟩
    go_wp2_with (fail)
    refine (find_any zeroL 6 n 0 0 0 _ rep_len (by omega) (rep_get _ _) (rep_get _ _) (rep_get _ _) (by omega) (by omega) (by omega) (by omega) (by omega) (by omega)).mono ?_
    rintro e w2 ⟨rfl, hb2⟩
    go_wp2_with (fail)
    go_ret
    exact ⟨ret_int (by unfold addr; rw [if_neg h]; exact fnd_none n), ((below1 _ _).trans (hb.mono (by simp))).trans (hb2.mono (Nat.le_trans (by simp) hb.size))⟩

set_option maxHeartbeats 1000000 in
theorem desk_any (s p l n : Int) (w : World) :
    Calls Try.prog 17 #[.agg #[.int .i64 s, .int .i64 p, .int .i64 l], .int .i64 n] w fun e w' => e = .returned (.int .i64 (addr s p l s 21 (3 + s + s + 4 + p + p * 8 + p * 8) n)) ∧ Below w.heap.size w w' := by
  by_cases h : okB s p l = true
  · have hk := okB_of h
    go_enter Try.func17, Try.ntmps17
    go_wp2_with (fail)
    refine (lay_ok s p l _ h).mono ?_
    rintro e w1 ⟨rfl, hb⟩
    go_wp2_with (fail)
    refine (find_any (layL s p) 7 n s 21 (3 + s + s + 4 + p + p * 8 + p * 8) _ (layL_len s p) (by omega) (by rw [layL_get _ _ _ (by omega)]; rfl) (by rw [layL_get _ _ _ (by omega)]; rfl) (by rw [layL_get _ _ _ (by omega)]; rfl) (by omega) (by omega) (by omega) (by omega) (by omega) (by omega)).mono ?_
    rintro e w2 ⟨rfl, hb2⟩
    go_wp2_with (fail)
    go_ret
    exact ⟨ret_int (by unfold addr; rw [if_pos h]), ((below1 _ _).trans (hb.mono (by simp))).trans (hb2.mono (Nat.le_trans (by simp) hb.size))⟩
  · have h' : okB s p l = false := by simpa using h
    go_enter Try.func17, Try.ntmps17
    go_wp2_with (fail)
    refine (lay_bad s p l _ h').mono ?_
    rintro e w1 ⟨rfl, hb⟩
    go_wp2_with (fail)
    refine (find_any zeroL 7 n 0 0 0 _ rep_len (by omega) (rep_get _ _) (rep_get _ _) (rep_get _ _) (by omega) (by omega) (by omega) (by omega) (by omega) (by omega)).mono ?_
    rintro e w2 ⟨rfl, hb2⟩
    go_wp2_with (fail)
    go_ret
    exact ⟨ret_int (by unfold addr; rw [if_neg h]; exact fnd_none n), ((below1 _ _).trans (hb.mono (by simp))).trans (hb2.mono (Nat.le_trans (by simp) hb.size))⟩

/- The specification's. -/
theorem sHouse_ok (s p l : Int) (w : World) (h : 1 ≤ s ∧ s ≤ 4 ∧ 1 ≤ p ∧ p ≤ 6 ∧ 1 ≤ l ∧ l ≤ 20) :
    Calls Try.prog 113 #[.agg #[.int .i64 s, .int .i64 p, .int .i64 l]] w fun e w' => e = .returned (.int .i64 (7 + 2 * s + 17 * p)) ∧ w' = w.alloc (.cells #[.int .i64 s, .int .i64 p, .int .i64 l] 24) := by
  go_enter Try.func113, Try.ntmps113
  go_wp2
  go_ret
  exact ⟨ret_int (by omega), rfl⟩

theorem sHouse_any (s p l : Int) (w : World) :
    Calls Try.prog 113 #[.agg #[.int .i64 s, .int .i64 p, .int .i64 l]] w fun e w' => (∃ x, e = .returned (.int .i64 x)) ∧ w' = w.alloc (.cells #[.int .i64 s, .int .i64 p, .int .i64 l] 24) := by
  go_enter Try.func113, Try.ntmps113
  go_wp2
  go_ret
  exact ⟨⟨_, rfl⟩, rfl⟩

set_option maxHeartbeats 1000000 in
theorem sl2Size_ok (s p l : Int) (w : World) (h : 1 ≤ s ∧ s ≤ 4 ∧ 1 ≤ p ∧ p ≤ 6 ∧ 1 ≤ l ∧ l ≤ 20) :
    Calls Try.prog 59 #[.agg #[.int .i64 s, .int .i64 p, .int .i64 l]] w fun e w' => e = .returned (.int .i64 (7 + s * 23 + p * 17)) ∧ Below w.heap.size w w' := by
  go_enter Try.func59, Try.ntmps59
  go_wp2_with (fail)
  go_region_with (go_at_call 113; refine (sHouse_ok s p l _ h).mono ?_; rintro e w' ⟨rfl, rfl⟩)
  all_goals go_wp2_with (fail)
  all_goals go_ret
  all_goals exact ⟨ret_int (by simp only [IntKind.wrap_i64]; omega), by repeat (first | exact Below.refl _ _ | refine Below.alloc ?_ (by simp <;> omega) _ | apply Below.drew)⟩

theorem sAt_ok (s p l a n m d : Int) (w : World) (h : okB s p l = true) (m0 : 0 ≤ m) (m1 : m ≤ 48) (d0 : 0 ≤ d) (d1 : d ≤ 21) (a0 : 0 ≤ a) (a1 : a ≤ 300) :
    Calls Try.prog 142 #[.agg #[.int .i64 s, .int .i64 p, .int .i64 l], .int .i64 a, .int .i64 n, .int .i64 m, .int .i64 d] w fun e w' => e = .returned (.int .i64 (fnd m d a n)) ∧ w' = (w.alloc (.cells #[.int .i64 s, .int .i64 p, .int .i64 l] 24)).alloc (.cells #[.int .i64 s, .int .i64 p, .int .i64 l] 24) := by
  by_cases h1 : n < 0
  · go_enter Try.func142, Try.ntmps142
    go_wp2_with (go_at_call 13; refine (sok_x s p l _).mono ?_; rintro e w' ⟨rfl, rfl⟩; rw [h])
    go_ret
    exact ⟨ret_int (by unfold fnd; rw [if_pos (.inl h1)]), rfl⟩
  · by_cases h2 : m ≤ n
    · go_enter Try.func142, Try.ntmps142
      go_wp2_with (go_at_call 13; refine (sok_x s p l _).mono ?_; rintro e w' ⟨rfl, rfl⟩; rw [h])
      go_ret
      exact ⟨ret_int (by unfold fnd; rw [if_pos (.inr h2)]), rfl⟩
    · have h3 : n < m := by omega
      have p0 : 0 ≤ n * d := Int.mul_nonneg (by omega) d0
      have p1 : n * d ≤ 48 * 21 := Int.mul_le_mul (by omega) d1 d0 (by omega)
      go_enter Try.func142, Try.ntmps142
      go_wp2_with (go_at_call 13; refine (sok_x s p l _).mono ?_; rintro e w' ⟨rfl, rfl⟩; rw [h])
      go_ret
      exact ⟨ret_int (by unfold fnd; rw [if_neg (by omega)]), rfl⟩

theorem sAt_bad (s p l a n m d : Int) (w : World) (h : okB s p l = false) :
    Calls Try.prog 142 #[.agg #[.int .i64 s, .int .i64 p, .int .i64 l], .int .i64 a, .int .i64 n, .int .i64 m, .int .i64 d] w fun e w' => e = .returned (.int .i64 0) ∧ w' = (w.alloc (.cells #[.int .i64 s, .int .i64 p, .int .i64 l] 24)).alloc (.cells #[.int .i64 s, .int .i64 p, .int .i64 l] 24) := by
  go_enter Try.func142, Try.ntmps142
  go_wp2_with (go_at_call 13; refine (sok_x s p l _).mono ?_; rintro e w' ⟨rfl, rfl⟩; rw [h])
  go_ret
  exact ⟨rfl, rfl⟩

theorem ssize_any (s p l : Int) (w : World) :
    Calls Try.prog 15 #[.agg #[.int .i64 s, .int .i64 p, .int .i64 l]] w fun e w' => e = .returned (.int .i64 (size s p l)) ∧ Below w.heap.size w w' := by
  by_cases h : okB s p l = true
  · go_enter Try.func15, Try.ntmps15
    go_wp2_with (first | (go_at_call 13; refine (sok_any s p l _).mono ?_; rintro e w1 ⟨rfl, hb⟩; rw [h]; obtain ⟨hc, hf⟩ := bcell hb; have hz := hb.size; simp at hz) | (go_at_call 59; refine (sl2Size_ok s p l _ (okB_of h)).mono ?_; rintro e w2 ⟨rfl, hb2⟩))
    go_ret
    exact ⟨ret_int (by unfold size; rw [if_pos h]), ((below1 _ _).trans (hb.mono (by simp))).trans (hb2.mono (by omega))⟩
  · have h' : okB s p l = false := by simpa using h
    go_enter Try.func15, Try.ntmps15
    go_wp2_with (go_at_call 13; refine (sok_any s p l _).mono ?_; rintro e w1 ⟨rfl, hb⟩; rw [h'])
    go_ret
    exact ⟨ret_int (by unfold size; rw [if_neg h]), (below1 _ _).trans (hb.mono (by simp))⟩

set_option maxHeartbeats 1000000 in
theorem sreg_any (s p l n : Int) (w : World) :
    Calls Try.prog 91 #[.agg #[.int .i64 s, .int .i64 p, .int .i64 l], .int .i64 n] w fun e w' => e = .returned (.int .i64 (addr s p l s 1 3 n)) ∧ Below w.heap.size w w' := by
  by_cases h : okB s p l = true
  · have hk := okB_of h
    go_enter Try.func91, Try.ntmps91
    go_wp2_with (go_at_call 142; refine (sAt_ok s p l _ n _ _ _ h (by omega) (by omega) (by omega) (by omega) (by omega) (by omega)).mono ?_; rintro e w' ⟨rfl, rfl⟩)
    go_ret
    exact ⟨ret_int (by unfold addr; rw [if_pos h]; all_goals (congr 1 <;> omega)), by repeat (first | exact Below.refl _ _ | refine Below.alloc ?_ (by simp <;> omega) _ | apply Below.drew)⟩
  · have h' : okB s p l = false := by simpa using h
    go_enter Try.func91, Try.ntmps91
    go_wp2_with (go_at_call 142; refine (sAt_bad s p l _ n _ _ _ h').mono ?_; rintro e w' ⟨rfl, rfl⟩)
    go_ret
    exact ⟨ret_int (by unfold addr; rw [if_neg h]), by repeat (first | exact Below.refl _ _ | refine Below.alloc ?_ (by simp <;> omega) _ | apply Below.drew)⟩

set_option maxHeartbeats 1000000 in
theorem sbeat_any (s p l n : Int) (w : World) :
    Calls Try.prog 92 #[.agg #[.int .i64 s, .int .i64 p, .int .i64 l], .int .i64 n] w fun e w' => e = .returned (.int .i64 (addr s p l s 1 (3 + s) n)) ∧ Below w.heap.size w w' := by
  by_cases h : okB s p l = true
  · have hk := okB_of h
    go_enter Try.func92, Try.ntmps92
    go_wp2_with (go_at_call 142; refine (sAt_ok s p l _ n _ _ _ h (by omega) (by omega) (by omega) (by omega) (by omega) (by omega)).mono ?_; rintro e w' ⟨rfl, rfl⟩)
    go_ret
    exact ⟨ret_int (by unfold addr; rw [if_pos h]; all_goals (congr 1 <;> omega)), by repeat (first | exact Below.refl _ _ | refine Below.alloc ?_ (by simp <;> omega) _ | apply Below.drew)⟩
  · have h' : okB s p l = false := by simpa using h
    go_enter Try.func92, Try.ntmps92
    go_wp2_with (go_at_call 142; refine (sAt_bad s p l _ n _ _ _ h').mono ?_; rintro e w' ⟨rfl, rfl⟩)
    go_ret
    exact ⟨ret_int (by unfold addr; rw [if_neg h]), by repeat (first | exact Below.refl _ _ | refine Below.alloc ?_ (by simp <;> omega) _ | apply Below.drew)⟩

set_option maxHeartbeats 1000000 in
theorem shead_any (s p l n : Int) (w : World) :
    Calls Try.prog 130 #[.agg #[.int .i64 s, .int .i64 p, .int .i64 l], .int .i64 n] w fun e w' => e = .returned (.int .i64 (addr s p l 4 1 (3 + s + s) n)) ∧ Below w.heap.size w w' := by
  by_cases h : okB s p l = true
  · have hk := okB_of h
    go_enter Try.func130, Try.ntmps130
    go_wp2_with (go_at_call 142; refine (sAt_ok s p l _ n _ _ _ h (by omega) (by omega) (by omega) (by omega) (by omega) (by omega)).mono ?_; rintro e w' ⟨rfl, rfl⟩)
    go_ret
    exact ⟨ret_int (by unfold addr; rw [if_pos h]; all_goals (congr 1 <;> omega)), by repeat (first | exact Below.refl _ _ | refine Below.alloc ?_ (by simp <;> omega) _ | apply Below.drew)⟩
  · have h' : okB s p l = false := by simpa using h
    go_enter Try.func130, Try.ntmps130
    go_wp2_with (go_at_call 142; refine (sAt_bad s p l _ n _ _ _ h').mono ?_; rintro e w' ⟨rfl, rfl⟩)
    go_ret
    exact ⟨ret_int (by unfold addr; rw [if_neg h]), by repeat (first | exact Below.refl _ _ | refine Below.alloc ?_ (by simp <;> omega) _ | apply Below.drew)⟩

set_option maxHeartbeats 1000000 in
theorem spage_any (s p l n : Int) (w : World) :
    Calls Try.prog 128 #[.agg #[.int .i64 s, .int .i64 p, .int .i64 l], .int .i64 n] w fun e w' => e = .returned (.int .i64 (addr s p l p 1 (3 + s + s + 4) n)) ∧ Below w.heap.size w w' := by
  by_cases h : okB s p l = true
  · have hk := okB_of h
    go_enter Try.func128, Try.ntmps128
    go_wp2_with (go_at_call 142; refine (sAt_ok s p l _ n _ _ _ h (by omega) (by omega) (by omega) (by omega) (by omega) (by omega)).mono ?_; rintro e w' ⟨rfl, rfl⟩)
    go_ret
    exact ⟨ret_int (by unfold addr; rw [if_pos h]; all_goals (congr 1 <;> omega)), by repeat (first | exact Below.refl _ _ | refine Below.alloc ?_ (by simp <;> omega) _ | apply Below.drew)⟩
  · have h' : okB s p l = false := by simpa using h
    go_enter Try.func128, Try.ntmps128
    go_wp2_with (go_at_call 142; refine (sAt_bad s p l _ n _ _ _ h').mono ?_; rintro e w' ⟨rfl, rfl⟩)
    go_ret
    exact ⟨ret_int (by unfold addr; rw [if_neg h]), by repeat (first | exact Below.refl _ _ | refine Below.alloc ?_ (by simp <;> omega) _ | apply Below.drew)⟩

set_option maxHeartbeats 1000000 in
theorem stag_any (s p l n : Int) (w : World) :
    Calls Try.prog 129 #[.agg #[.int .i64 s, .int .i64 p, .int .i64 l], .int .i64 n] w fun e w' => e = .returned (.int .i64 (addr s p l (p * 8) 1 (3 + s + s + 4 + p) n)) ∧ Below w.heap.size w w' := by
  by_cases h : okB s p l = true
  · have hk := okB_of h
    go_enter Try.func129, Try.ntmps129
    go_wp2_with (go_at_call 142; refine (sAt_ok s p l _ n _ _ _ h (by omega) (by omega) (by omega) (by omega) (by omega) (by omega)).mono ?_; rintro e w' ⟨rfl, rfl⟩)
    go_ret
    exact ⟨ret_int (by unfold addr; rw [if_pos h]; all_goals (congr 1 <;> omega)), by repeat (first | exact Below.refl _ _ | refine Below.alloc ?_ (by simp <;> omega) _ | apply Below.drew)⟩
  · have h' : okB s p l = false := by simpa using h
    go_enter Try.func129, Try.ntmps129
    go_wp2_with (go_at_call 142; refine (sAt_bad s p l _ n _ _ _ h').mono ?_; rintro e w' ⟨rfl, rfl⟩)
    go_ret
    exact ⟨ret_int (by unfold addr; rw [if_neg h]), by repeat (first | exact Below.refl _ _ | refine Below.alloc ?_ (by simp <;> omega) _ | apply Below.drew)⟩

set_option maxHeartbeats 1000000 in
theorem slink_any (s p l n : Int) (w : World) :
    Calls Try.prog 131 #[.agg #[.int .i64 s, .int .i64 p, .int .i64 l], .int .i64 n] w fun e w' => e = .returned (.int .i64 (addr s p l (p * 8) 1 (3 + s + s + 4 + p + p * 8) n)) ∧ Below w.heap.size w w' := by
  by_cases h : okB s p l = true
  · have hk := okB_of h
    go_enter Try.func131, Try.ntmps131
    go_wp2_with (go_at_call 142; refine (sAt_ok s p l _ n _ _ _ h (by omega) (by omega) (by omega) (by omega) (by omega) (by omega)).mono ?_; rintro e w' ⟨rfl, rfl⟩)
    go_ret
    exact ⟨ret_int (by unfold addr; rw [if_pos h]; all_goals (congr 1 <;> omega)), by repeat (first | exact Below.refl _ _ | refine Below.alloc ?_ (by simp <;> omega) _ | apply Below.drew)⟩
  · have h' : okB s p l = false := by simpa using h
    go_enter Try.func131, Try.ntmps131
    go_wp2_with (go_at_call 142; refine (sAt_bad s p l _ n _ _ _ h').mono ?_; rintro e w' ⟨rfl, rfl⟩)
    go_ret
    exact ⟨ret_int (by unfold addr; rw [if_neg h]), by repeat (first | exact Below.refl _ _ | refine Below.alloc ?_ (by simp <;> omega) _ | apply Below.drew)⟩

end Go.Proofs.Ytfijhclocncplaa.Plat

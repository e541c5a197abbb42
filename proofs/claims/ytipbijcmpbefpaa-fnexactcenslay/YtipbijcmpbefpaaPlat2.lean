/- Where each word lies: the addresses themselves. Conditions: none. -/
import Derived.Test.YtipbijcmpbefpaaPlat
namespace Go.Proofs.Ytipbijcmpbefpaa.Plat
open Go.ChangeShapes Go.WideShapes Go.ChangeAt Go.RowKit
open Go.Proofs.Ytipbijcmpbefpaa.Words Go.Proofs.Ytipbijcmpbefpaa.Aid

theorem layL_len (s p : Int) : (layL s p).length = 25 := by simp [layL]
theorem layL_get (s p : Int) (j : Nat) (h : j < 25) : (layL s p).getD j 0 = cell2 s p 8 j := by simp [layL, h]
theorem rep_len : zeroL.length = 25 := List.length_replicate

/- What is at an address of an area: nothing, if the house is not ok. -/
def addr (s p l m d a n : Int) : Int := if okB s p l = true then fnd m d a n else 0
def size (s p l : Int) : Int := if okB s p l = true then 7 + s * 23 + p * 17 else 0

theorem fnd_none (n : Int) : fnd 0 0 0 n = 0 := by unfold fnd; split <;> omega

/- The specification's. -/
theorem sHouse_ok (s p l : Int) (w : World) (h : 1 ≤ s ∧ s ≤ 4 ∧ 1 ≤ p ∧ p ≤ 6 ∧ 1 ≤ l ∧ l ≤ 20) :
    Calls Try.prog 86 #[.agg #[.int .i64 s, .int .i64 p, .int .i64 l]] w fun e w' => e = .returned (.int .i64 (7 + 2 * s + 17 * p)) ∧ w' = w.alloc (.cells #[.int .i64 s, .int .i64 p, .int .i64 l] 38) := by
  go_enter Try.func86, Try.ntmps86
  go_wp2
  go_ret
  exact ⟨ret_int (by omega), rfl⟩

theorem sHouse_any (s p l : Int) (w : World) :
    Calls Try.prog 86 #[.agg #[.int .i64 s, .int .i64 p, .int .i64 l]] w fun e w' => (∃ x, e = .returned (.int .i64 x)) ∧ w' = w.alloc (.cells #[.int .i64 s, .int .i64 p, .int .i64 l] 38) := by
  go_enter Try.func86, Try.ntmps86
  go_wp2
  go_ret
  exact ⟨⟨_, rfl⟩, rfl⟩

set_option maxHeartbeats 1000000 in
theorem sl2Size_ok (s p l : Int) (w : World) (h : 1 ≤ s ∧ s ≤ 4 ∧ 1 ≤ p ∧ p ≤ 6 ∧ 1 ≤ l ∧ l ≤ 20) :
    Calls Try.prog 98 #[.agg #[.int .i64 s, .int .i64 p, .int .i64 l]] w fun e w' => e = .returned (.int .i64 (7 + s * 23 + p * 17)) ∧ Below w.heap.size w w' := by
  go_enter Try.func98, Try.ntmps98
  go_wp2_with (fail)
  go_region_with (go_at_call 86; refine (sHouse_ok s p l _ h).mono ?_; rintro e w' ⟨rfl, rfl⟩)
  all_goals go_wp2_with (fail)
  all_goals go_ret
  all_goals exact ⟨ret_int (by simp only [IntKind.wrap_i64]; omega), by repeat (first | exact Below.refl _ _ | refine Below.alloc ?_ (by simp <;> omega) _ | apply Below.drew)⟩

theorem sAt_ok (s p l a n m d : Int) (w : World) (h : okB s p l = true) (m0 : 0 ≤ m) (m1 : m ≤ 48) (d0 : 0 ≤ d) (d1 : d ≤ 21) (a0 : 0 ≤ a) (a1 : a ≤ 300) :
    Calls Try.prog 104 #[.agg #[.int .i64 s, .int .i64 p, .int .i64 l], .int .i64 a, .int .i64 n, .int .i64 m, .int .i64 d] w fun e w' => e = .returned (.int .i64 (fnd m d a n)) ∧ w' = (w.alloc (.cells #[.int .i64 s, .int .i64 p, .int .i64 l] 38)).alloc (.cells #[.int .i64 s, .int .i64 p, .int .i64 l] 38) := by
  by_cases h1 : n < 0
  · go_enter Try.func104, Try.ntmps104
    go_wp2_with (go_at_call 85; refine (sok_x s p l _).mono ?_; rintro e w' ⟨rfl, rfl⟩; rw [h])
    go_ret
    exact ⟨ret_int (by unfold fnd; rw [if_pos (.inl h1)]), rfl⟩
  · by_cases h2 : m ≤ n
    · go_enter Try.func104, Try.ntmps104
      go_wp2_with (go_at_call 85; refine (sok_x s p l _).mono ?_; rintro e w' ⟨rfl, rfl⟩; rw [h])
      go_ret
      exact ⟨ret_int (by unfold fnd; rw [if_pos (.inr h2)]), rfl⟩
    · have h3 : n < m := by omega
      have p0 : 0 ≤ n * d := Int.mul_nonneg (by omega) d0
      have p1 : n * d ≤ 48 * 21 := Int.mul_le_mul (by omega) d1 d0 (by omega)
      go_enter Try.func104, Try.ntmps104
      go_wp2_with (go_at_call 85; refine (sok_x s p l _).mono ?_; rintro e w' ⟨rfl, rfl⟩; rw [h])
      go_ret
      exact ⟨ret_int (by unfold fnd; rw [if_neg (by omega)]), rfl⟩

theorem sAt_bad (s p l a n m d : Int) (w : World) (h : okB s p l = false) :
    Calls Try.prog 104 #[.agg #[.int .i64 s, .int .i64 p, .int .i64 l], .int .i64 a, .int .i64 n, .int .i64 m, .int .i64 d] w fun e w' => e = .returned (.int .i64 0) ∧ w' = (w.alloc (.cells #[.int .i64 s, .int .i64 p, .int .i64 l] 38)).alloc (.cells #[.int .i64 s, .int .i64 p, .int .i64 l] 38) := by
  go_enter Try.func104, Try.ntmps104
  go_wp2_with (go_at_call 85; refine (sok_x s p l _).mono ?_; rintro e w' ⟨rfl, rfl⟩; rw [h])
  go_ret
  exact ⟨rfl, rfl⟩

set_option maxHeartbeats 1000000 in
theorem sreg_any (s p l n : Int) (w : World) :
    Calls Try.prog 59 #[.agg #[.int .i64 s, .int .i64 p, .int .i64 l], .int .i64 n] w fun e w' => e = .returned (.int .i64 (addr s p l s 1 3 n)) ∧ Below w.heap.size w w' := by
  by_cases h : okB s p l = true
  · have hk := okB_of h
    go_enter Try.func59, Try.ntmps59
    go_wp2_with (go_at_call 104; refine (sAt_ok s p l _ n _ _ _ h (by omega) (by omega) (by omega) (by omega) (by omega) (by omega)).mono ?_; rintro e w' ⟨rfl, rfl⟩)
    go_ret
    exact ⟨ret_int (by unfold addr; rw [if_pos h]; all_goals (congr 1 <;> omega)), by repeat (first | exact Below.refl _ _ | refine Below.alloc ?_ (by simp <;> omega) _ | apply Below.drew)⟩
  · have h' : okB s p l = false := by simpa using h
    go_enter Try.func59, Try.ntmps59
    go_wp2_with (go_at_call 104; refine (sAt_bad s p l _ n _ _ _ h').mono ?_; rintro e w' ⟨rfl, rfl⟩)
    go_ret
    exact ⟨ret_int (by unfold addr; rw [if_neg h]), by repeat (first | exact Below.refl _ _ | refine Below.alloc ?_ (by simp <;> omega) _ | apply Below.drew)⟩

set_option maxHeartbeats 1000000 in
theorem sbeat_any (s p l n : Int) (w : World) :
    Calls Try.prog 60 #[.agg #[.int .i64 s, .int .i64 p, .int .i64 l], .int .i64 n] w fun e w' => e = .returned (.int .i64 (addr s p l s 1 (3 + s) n)) ∧ Below w.heap.size w w' := by
  by_cases h : okB s p l = true
  · have hk := okB_of h
    go_enter Try.func60, Try.ntmps60
    go_wp2_with (go_at_call 104; refine (sAt_ok s p l _ n _ _ _ h (by omega) (by omega) (by omega) (by omega) (by omega) (by omega)).mono ?_; rintro e w' ⟨rfl, rfl⟩)
    go_ret
    exact ⟨ret_int (by unfold addr; rw [if_pos h]; all_goals (congr 1 <;> omega)), by repeat (first | exact Below.refl _ _ | refine Below.alloc ?_ (by simp <;> omega) _ | apply Below.drew)⟩
  · have h' : okB s p l = false := by simpa using h
    go_enter Try.func60, Try.ntmps60
    go_wp2_with (go_at_call 104; refine (sAt_bad s p l _ n _ _ _ h').mono ?_; rintro e w' ⟨rfl, rfl⟩)
    go_ret
    exact ⟨ret_int (by unfold addr; rw [if_neg h]), by repeat (first | exact Below.refl _ _ | refine Below.alloc ?_ (by simp <;> omega) _ | apply Below.drew)⟩

set_option maxHeartbeats 1000000 in
theorem shead_any (s p l n : Int) (w : World) :
    Calls Try.prog 89 #[.agg #[.int .i64 s, .int .i64 p, .int .i64 l], .int .i64 n] w fun e w' => e = .returned (.int .i64 (addr s p l 4 1 (3 + s + s) n)) ∧ Below w.heap.size w w' := by
  by_cases h : okB s p l = true
  · have hk := okB_of h
    go_enter Try.func89, Try.ntmps89
    go_wp2_with (go_at_call 104; refine (sAt_ok s p l _ n _ _ _ h (by omega) (by omega) (by omega) (by omega) (by omega) (by omega)).mono ?_; rintro e w' ⟨rfl, rfl⟩)
    go_ret
    exact ⟨ret_int (by unfold addr; rw [if_pos h]; all_goals (congr 1 <;> omega)), by repeat (first | exact Below.refl _ _ | refine Below.alloc ?_ (by simp <;> omega) _ | apply Below.drew)⟩
  · have h' : okB s p l = false := by simpa using h
    go_enter Try.func89, Try.ntmps89
    go_wp2_with (go_at_call 104; refine (sAt_bad s p l _ n _ _ _ h').mono ?_; rintro e w' ⟨rfl, rfl⟩)
    go_ret
    exact ⟨ret_int (by unfold addr; rw [if_neg h]), by repeat (first | exact Below.refl _ _ | refine Below.alloc ?_ (by simp <;> omega) _ | apply Below.drew)⟩

set_option maxHeartbeats 1000000 in
theorem spage_any (s p l n : Int) (w : World) :
    Calls Try.prog 87 #[.agg #[.int .i64 s, .int .i64 p, .int .i64 l], .int .i64 n] w fun e w' => e = .returned (.int .i64 (addr s p l p 1 (3 + s + s + 4) n)) ∧ Below w.heap.size w w' := by
  by_cases h : okB s p l = true
  · have hk := okB_of h
    go_enter Try.func87, Try.ntmps87
    go_wp2_with (go_at_call 104; refine (sAt_ok s p l _ n _ _ _ h (by omega) (by omega) (by omega) (by omega) (by omega) (by omega)).mono ?_; rintro e w' ⟨rfl, rfl⟩)
    go_ret
    exact ⟨ret_int (by unfold addr; rw [if_pos h]; all_goals (congr 1 <;> omega)), by repeat (first | exact Below.refl _ _ | refine Below.alloc ?_ (by simp <;> omega) _ | apply Below.drew)⟩
  · have h' : okB s p l = false := by simpa using h
    go_enter Try.func87, Try.ntmps87
    go_wp2_with (go_at_call 104; refine (sAt_bad s p l _ n _ _ _ h').mono ?_; rintro e w' ⟨rfl, rfl⟩)
    go_ret
    exact ⟨ret_int (by unfold addr; rw [if_neg h]), by repeat (first | exact Below.refl _ _ | refine Below.alloc ?_ (by simp <;> omega) _ | apply Below.drew)⟩

set_option maxHeartbeats 1000000 in
theorem stag_any (s p l n : Int) (w : World) :
    Calls Try.prog 88 #[.agg #[.int .i64 s, .int .i64 p, .int .i64 l], .int .i64 n] w fun e w' => e = .returned (.int .i64 (addr s p l (p * 8) 1 (3 + s + s + 4 + p) n)) ∧ Below w.heap.size w w' := by
  by_cases h : okB s p l = true
  · have hk := okB_of h
    go_enter Try.func88, Try.ntmps88
    go_wp2_with (go_at_call 104; refine (sAt_ok s p l _ n _ _ _ h (by omega) (by omega) (by omega) (by omega) (by omega) (by omega)).mono ?_; rintro e w' ⟨rfl, rfl⟩)
    go_ret
    exact ⟨ret_int (by unfold addr; rw [if_pos h]; all_goals (congr 1 <;> omega)), by repeat (first | exact Below.refl _ _ | refine Below.alloc ?_ (by simp <;> omega) _ | apply Below.drew)⟩
  · have h' : okB s p l = false := by simpa using h
    go_enter Try.func88, Try.ntmps88
    go_wp2_with (go_at_call 104; refine (sAt_bad s p l _ n _ _ _ h').mono ?_; rintro e w' ⟨rfl, rfl⟩)
    go_ret
    exact ⟨ret_int (by unfold addr; rw [if_neg h]), by repeat (first | exact Below.refl _ _ | refine Below.alloc ?_ (by simp <;> omega) _ | apply Below.drew)⟩

set_option maxHeartbeats 1000000 in
theorem slink_any (s p l n : Int) (w : World) :
    Calls Try.prog 90 #[.agg #[.int .i64 s, .int .i64 p, .int .i64 l], .int .i64 n] w fun e w' => e = .returned (.int .i64 (addr s p l (p * 8) 1 (3 + s + s + 4 + p + p * 8) n)) ∧ Below w.heap.size w w' := by
  by_cases h : okB s p l = true
  · have hk := okB_of h
    go_enter Try.func90, Try.ntmps90
    go_wp2_with (go_at_call 104; refine (sAt_ok s p l _ n _ _ _ h (by omega) (by omega) (by omega) (by omega) (by omega) (by omega)).mono ?_; rintro e w' ⟨rfl, rfl⟩)
    go_ret
    exact ⟨ret_int (by unfold addr; rw [if_pos h]; all_goals (congr 1 <;> omega)), by repeat (first | exact Below.refl _ _ | refine Below.alloc ?_ (by simp <;> omega) _ | apply Below.drew)⟩
  · have h' : okB s p l = false := by simpa using h
    go_enter Try.func90, Try.ntmps90
    go_wp2_with (go_at_call 104; refine (sAt_bad s p l _ n _ _ _ h').mono ?_; rintro e w' ⟨rfl, rfl⟩)
    go_ret
    exact ⟨ret_int (by unfold addr; rw [if_neg h]), by repeat (first | exact Below.refl _ _ | refine Below.alloc ?_ (by simp <;> omega) _ | apply Below.drew)⟩

end Go.Proofs.Ytipbijcmpbefpaa.Plat

import Derived.Test.YtgfbfgiohmdjmaaGreatM2
import Derived.Test.YtgfbfgiohmdjmaaGreatM1

/- Where each word lies: the addresses themselves. Conditions: none. -/
namespace Go.Proofs.YtgfbfgiohmdjmaaGreat.Plat
open Go.ChangeShapes Go.WideShapes Go.ChangeAt Go.RowKit
open Words Aid

theorem layL_len (s p : Int) : (layL s p).length = 25 := by simp [layL]
theorem layL_get (s p : Int) (j : Nat) (h : j < 25) : (layL s p).getD j 0 = cell2 s p 8 j := by simp [layL, h]
theorem rep_len : zeroL.length = 25 := List.length_replicate

/- What is at an address of an area: nothing, if the house is not ok. -/
def addr (s p l m d a n : Int) : Int := if okB s p l = true then fnd m d a n else 0
def size (s p l : Int) : Int := if okB s p l = true then 7 + s * 23 + p * 17 else 0

theorem fnd_none (n : Int) : fnd 0 0 0 n = 0 := by unfold fnd; split <;> omega

set_option maxHeartbeats 1000000 in
theorem size_any (s p l : Int) (w : World) :
    Calls Tryz.prog 61 #[.agg #[.int .i64 s, .int .i64 p, .int .i64 l]] w fun e w' => e = .returned (.int .i64 (size s p l)) ∧ Below w.heap.size w w' := by
  by_cases h : okB s p l = true
  · go_enter Tryz.func61, Tryz.ntmps61
    go_wp2_with (fail)
    refine (lay_ok s p l _ h).mono ?_
    rintro e w1 ⟨rfl, hb⟩
    have hfd : ∀ w : World, (Instr.field 86 (.agg (ints (layL s p)).toArray) 3).run Tryz.prog w = .ok (.int .i64 (3 + s + s + 4 + p + p * 8 + p * 8 + s * 21)) w := fun _ => by kernel_rfl
    go_wp2_with (fail)
    go_ret
    exact ⟨ret_int (by unfold size; rw [if_pos h]; omega), (below1 _ _).trans (hb.mono (by simp))⟩
  · have h' : okB s p l = false := by simpa using h
    go_enter Tryz.func61, Tryz.ntmps61
    go_wp2_with (fail)
    refine (lay_bad s p l _ h').mono ?_
    rintro e w1 ⟨rfl, hb⟩
    have hfd : ∀ w : World, (Instr.field 86 (.agg (ints zeroL).toArray) 3).run Tryz.prog w = .ok (.int .i64 0) w := fun _ => by kernel_rfl
    go_wp2_with (fail)
    go_ret
    exact ⟨ret_int (by unfold size; rw [if_neg h]), (below1 _ _).trans (hb.mono (by simp))⟩

set_option maxHeartbeats 1000000 in
theorem desk_any (s p l n : Int) (w : World) :
    Calls Tryz.prog 110 #[.agg #[.int .i64 s, .int .i64 p, .int .i64 l], .int .i64 n] w fun e w' => e = .returned (.int .i64 (addr s p l s 21 (3 + s + s + 4 + p + p * 8 + p * 8) n)) ∧ Below w.heap.size w w' := by
  by_cases h : okB s p l = true
  · have hk := okB_of h
    go_enter Tryz.func110, Tryz.ntmps110
    go_wp2_with (fail)
    refine (lay_ok s p l _ h).mono ?_
    rintro e w1 ⟨rfl, hb⟩
    go_wp2_with (fail)
    refine (find_any (layL s p) 7 n s 21 (3 + s + s + 4 + p + p * 8 + p * 8) _ (layL_len s p) (by omega) (by rw [layL_get _ _ _ (by omega)]; rfl) (by rw [layL_get _ _ _ (by omega)]; rfl) (by rw [layL_get _ _ _ (by omega)]; rfl) (by omega) (by omega) (by omega) (by omega) (by omega) (by omega)).mono ?_
    rintro e w2 ⟨rfl, hb2⟩
    go_wp2_with (fail)
    go_ret
    exact ⟨ret_int (by unfold addr; rw [if_pos h]), ((below1 _ _).trans (hb.mono (by simp))).trans (hb2.mono (Nat.le_trans (by simp) hb.size))⟩
  · have h' : okB s p l = false := by simpa using h
    go_enter Tryz.func110, Tryz.ntmps110
    go_wp2_with (fail)
    refine (lay_bad s p l _ h').mono ?_
    rintro e w1 ⟨rfl, hb⟩
    go_wp2_with (fail)
    refine (find_any zeroL 7 n 0 0 0 _ rep_len (by omega) (rep_get _ _) (rep_get _ _) (rep_get _ _) (by omega) (by omega) (by omega) (by omega) (by omega) (by omega)).mono ?_
    rintro e w2 ⟨rfl, hb2⟩
    go_wp2_with (fail)
    go_ret
    exact ⟨ret_int (by unfold addr; rw [if_neg h]; exact fnd_none n), ((below1 _ _).trans (hb.mono (by simp))).trans (hb2.mono (Nat.le_trans (by simp) hb.size))⟩

/- The specification's. -/
theorem sHouse_ok (s p l : Int) (w : World) (h : 1 ≤ s ∧ s ≤ 4 ∧ 1 ≤ p ∧ p ≤ 6 ∧ 1 ≤ l ∧ l ≤ 20) :
    Calls Tryz.prog 80 #[.agg #[.int .i64 s, .int .i64 p, .int .i64 l]] w fun e w' => e = .returned (.int .i64 (7 + 2 * s + 17 * p)) ∧ w' = w.alloc (.cells #[.int .i64 s, .int .i64 p, .int .i64 l] 62) := by
  go_enter Tryz.func80, Tryz.ntmps80
  go_wp2
  go_ret
  exact ⟨ret_int (by omega), rfl⟩

theorem sHouse_any (s p l : Int) (w : World) :
    Calls Tryz.prog 80 #[.agg #[.int .i64 s, .int .i64 p, .int .i64 l]] w fun e w' => (∃ x, e = .returned (.int .i64 x)) ∧ w' = w.alloc (.cells #[.int .i64 s, .int .i64 p, .int .i64 l] 62) := by
  go_enter Tryz.func80, Tryz.ntmps80
  go_wp2
  go_ret
  exact ⟨⟨_, rfl⟩, rfl⟩

set_option maxHeartbeats 1000000 in
theorem sl2Size_ok (s p l : Int) (w : World) (h : 1 ≤ s ∧ s ≤ 4 ∧ 1 ≤ p ∧ p ≤ 6 ∧ 1 ≤ l ∧ l ≤ 20) :
    Calls Tryz.prog 45 #[.agg #[.int .i64 s, .int .i64 p, .int .i64 l]] w fun e w' => e = .returned (.int .i64 (7 + s * 23 + p * 17)) ∧ Below w.heap.size w w' := by
  go_enter Tryz.func45, Tryz.ntmps45
  go_wp2_with (fail)
  go_region_with (go_at_call 80; refine (sHouse_ok s p l _ h).mono ?_; rintro e w' ⟨rfl, rfl⟩)
  all_goals go_wp2_with (fail)
  all_goals go_ret
  all_goals exact ⟨ret_int (by simp only [IntKind.wrap_i64]; omega), by repeat (first | exact Below.refl _ _ | refine Below.alloc ?_ (by simp <;> omega) _ | apply Below.drew)⟩

theorem sAt_ok (s p l a n m d : Int) (w : World) (h : okB s p l = true) (m0 : 0 ≤ m) (m1 : m ≤ 48) (d0 : 0 ≤ d) (d1 : d ≤ 21) (a0 : 0 ≤ a) (a1 : a ≤ 300) :
    Calls Tryz.prog 93 #[.agg #[.int .i64 s, .int .i64 p, .int .i64 l], .int .i64 a, .int .i64 n, .int .i64 m, .int .i64 d] w fun e w' => e = .returned (.int .i64 (fnd m d a n)) ∧ w' = (w.alloc (.cells #[.int .i64 s, .int .i64 p, .int .i64 l] 62)).alloc (.cells #[.int .i64 s, .int .i64 p, .int .i64 l] 62) := by
  by_cases h1 : n < 0
  · go_enter Tryz.func93, Tryz.ntmps93
    go_wp2_with (go_at_call 43; refine (sok_x s p l _).mono ?_; rintro e w' ⟨rfl, rfl⟩; rw [h])
    go_ret
    exact ⟨ret_int (by unfold fnd; rw [if_pos (.inl h1)]), rfl⟩
  · by_cases h2 : m ≤ n
    · go_enter Tryz.func93, Tryz.ntmps93
      go_wp2_with (go_at_call 43; refine (sok_x s p l _).mono ?_; rintro e w' ⟨rfl, rfl⟩; rw [h])
      go_ret
      exact ⟨ret_int (by unfold fnd; rw [if_pos (.inr h2)]), rfl⟩
    · have h3 : n < m := by omega
      have p0 : 0 ≤ n * d := Int.mul_nonneg (by omega) d0
      have p1 : n * d ≤ 48 * 21 := Int.mul_le_mul (by omega) d1 d0 (by omega)
      go_enter Tryz.func93, Tryz.ntmps93
      go_wp2_with (go_at_call 43; refine (sok_x s p l _).mono ?_; rintro e w' ⟨rfl, rfl⟩; rw [h])
      go_ret
      exact ⟨ret_int (by unfold fnd; rw [if_neg (by omega)]), rfl⟩

theorem sAt_bad (s p l a n m d : Int) (w : World) (h : okB s p l = false) :
    Calls Tryz.prog 93 #[.agg #[.int .i64 s, .int .i64 p, .int .i64 l], .int .i64 a, .int .i64 n, .int .i64 m, .int .i64 d] w fun e w' => e = .returned (.int .i64 0) ∧ w' = (w.alloc (.cells #[.int .i64 s, .int .i64 p, .int .i64 l] 62)).alloc (.cells #[.int .i64 s, .int .i64 p, .int .i64 l] 62) := by
  go_enter Tryz.func93, Tryz.ntmps93
  go_wp2_with (go_at_call 43; refine (sok_x s p l _).mono ?_; rintro e w' ⟨rfl, rfl⟩; rw [h])
  go_ret
  exact ⟨rfl, rfl⟩

set_option maxHeartbeats 1000000 in
theorem sreg_any (s p l n : Int) (w : World) :
    Calls Tryz.prog 52 #[.agg #[.int .i64 s, .int .i64 p, .int .i64 l], .int .i64 n] w fun e w' => e = .returned (.int .i64 (addr s p l s 1 3 n)) ∧ Below w.heap.size w w' := by
  by_cases h : okB s p l = true
  · have hk := okB_of h
    go_enter Tryz.func52, Tryz.ntmps52
    go_wp2_with (go_at_call 93; refine (sAt_ok s p l _ n _ _ _ h (by omega) (by omega) (by omega) (by omega) (by omega) (by omega)).mono ?_; rintro e w' ⟨rfl, rfl⟩)
    go_ret
    exact ⟨ret_int (by unfold addr; rw [if_pos h]; all_goals (congr 1 <;> omega)), by repeat (first | exact Below.refl _ _ | refine Below.alloc ?_ (by simp <;> omega) _ | apply Below.drew)⟩
  · have h' : okB s p l = false := by simpa using h
    go_enter Tryz.func52, Tryz.ntmps52
    go_wp2_with (go_at_call 93; refine (sAt_bad s p l _ n _ _ _ h').mono ?_; rintro e w' ⟨rfl, rfl⟩)
    go_ret
    exact ⟨ret_int (by unfold addr; rw [if_neg h]), by repeat (first | exact Below.refl _ _ | refine Below.alloc ?_ (by simp <;> omega) _ | apply Below.drew)⟩

set_option maxHeartbeats 1000000 in
theorem sbeat_any (s p l n : Int) (w : World) :
    Calls Tryz.prog 53 #[.agg #[.int .i64 s, .int .i64 p, .int .i64 l], .int .i64 n] w fun e w' => e = .returned (.int .i64 (addr s p l s 1 (3 + s) n)) ∧ Below w.heap.size w w' := by
  by_cases h : okB s p l = true
  · have hk := okB_of h
    go_enter Tryz.func53, Tryz.ntmps53
    go_wp2_with (go_at_call 93; refine (sAt_ok s p l _ n _ _ _ h (by omega) (by omega) (by omega) (by omega) (by omega) (by omega)).mono ?_; rintro e w' ⟨rfl, rfl⟩)
    go_ret
    exact ⟨ret_int (by unfold addr; rw [if_pos h]; all_goals (congr 1 <;> omega)), by repeat (first | exact Below.refl _ _ | refine Below.alloc ?_ (by simp <;> omega) _ | apply Below.drew)⟩
  · have h' : okB s p l = false := by simpa using h
    go_enter Tryz.func53, Tryz.ntmps53
    go_wp2_with (go_at_call 93; refine (sAt_bad s p l _ n _ _ _ h').mono ?_; rintro e w' ⟨rfl, rfl⟩)
    go_ret
    exact ⟨ret_int (by unfold addr; rw [if_neg h]), by repeat (first | exact Below.refl _ _ | refine Below.alloc ?_ (by simp <;> omega) _ | apply Below.drew)⟩

set_option maxHeartbeats 1000000 in
theorem shead_any (s p l n : Int) (w : World) :
    Calls Tryz.prog 91 #[.agg #[.int .i64 s, .int .i64 p, .int .i64 l], .int .i64 n] w fun e w' => e = .returned (.int .i64 (addr s p l 4 1 (3 + s + s) n)) ∧ Below w.heap.size w w' := by
  by_cases h : okB s p l = true
  · have hk := okB_of h
    go_enter Tryz.func91, Tryz.ntmps91
    go_wp2_with (go_at_call 93; refine (sAt_ok s p l _ n _ _ _ h (by omega) (by omega) (by omega) (by omega) (by omega) (by omega)).mono ?_; rintro e w' ⟨rfl, rfl⟩)
    go_ret
    exact ⟨ret_int (by unfold addr; rw [if_pos h]; all_goals (congr 1 <;> omega)), by repeat (first | exact Below.refl _ _ | refine Below.alloc ?_ (by simp <;> omega) _ | apply Below.drew)⟩
  · have h' : okB s p l = false := by simpa using h
    go_enter Tryz.func91, Tryz.ntmps91
    go_wp2_with (go_at_call 93; refine (sAt_bad s p l _ n _ _ _ h').mono ?_; rintro e w' ⟨rfl, rfl⟩)
    go_ret
    exact ⟨ret_int (by unfold addr; rw [if_neg h]), by repeat (first | exact Below.refl _ _ | refine Below.alloc ?_ (by simp <;> omega) _ | apply Below.drew)⟩

set_option maxHeartbeats 1000000 in
theorem spage_any (s p l n : Int) (w : World) :
    Calls Tryz.prog 85 #[.agg #[.int .i64 s, .int .i64 p, .int .i64 l], .int .i64 n] w fun e w' => e = .returned (.int .i64 (addr s p l p 1 (3 + s + s + 4) n)) ∧ Below w.heap.size w w' := by
  by_cases h : okB s p l = true
  · have hk := okB_of h
    go_enter Tryz.func85, Tryz.ntmps85
    go_wp2_with (go_at_call 93; refine (sAt_ok s p l _ n _ _ _ h (by omega) (by omega) (by omega) (by omega) (by omega) (by omega)).mono ?_; rintro e w' ⟨rfl, rfl⟩)
    go_ret
    exact ⟨ret_int (by unfold addr; rw [if_pos h]; all_goals (congr 1 <;> omega)), by repeat (first | exact Below.refl _ _ | refine Below.alloc ?_ (by simp <;> omega) _ | apply Below.drew)⟩
  · have h' : okB s p l = false := by simpa using h
    go_enter Tryz.func85, Tryz.ntmps85
    go_wp2_with (go_at_call 93; refine (sAt_bad s p l _ n _ _ _ h').mono ?_; rintro e w' ⟨rfl, rfl⟩)
    go_ret
    exact ⟨ret_int (by unfold addr; rw [if_neg h]), by repeat (first | exact Below.refl _ _ | refine Below.alloc ?_ (by simp <;> omega) _ | apply Below.drew)⟩

set_option maxHeartbeats 1000000 in
theorem stag_any (s p l n : Int) (w : World) :
    Calls Tryz.prog 86 #[.agg #[.int .i64 s, .int .i64 p, .int .i64 l], .int .i64 n] w fun e w' => e = .returned (.int .i64 (addr s p l (p * 8) 1 (3 + s + s + 4 + p) n)) ∧ Below w.heap.size w w' := by
  by_cases h : okB s p l = true
  · have hk := okB_of h
    go_enter Tryz.func86, Tryz.ntmps86
    go_wp2_with (go_at_call 93; refine (sAt_ok s p l _ n _ _ _ h (by omega) (by omega) (by omega) (by omega) (by omega) (by omega)).mono ?_; rintro e w' ⟨rfl, rfl⟩)
    go_ret
    exact ⟨ret_int (by unfold addr; rw [if_pos h]; all_goals (congr 1 <;> omega)), by repeat (first | exact Below.refl _ _ | refine Below.alloc ?_ (by simp <;> omega) _ | apply Below.drew)⟩
  · have h' : okB s p l = false := by simpa using h
    go_enter Tryz.func86, Tryz.ntmps86
    go_wp2_with (go_at_call 93; refine (sAt_bad s p l _ n _ _ _ h').mono ?_; rintro e w' ⟨rfl, rfl⟩)
    go_ret
    exact ⟨ret_int (by unfold addr; rw [if_neg h]), by repeat (first | exact Below.refl _ _ | refine Below.alloc ?_ (by simp <;> omega) _ | apply Below.drew)⟩

set_option maxHeartbeats 1000000 in
theorem slink_any (s p l n : Int) (w : World) :
    Calls Tryz.prog 92 #[.agg #[.int .i64 s, .int .i64 p, .int .i64 l], .int .i64 n] w fun e w' => e = .returned (.int .i64 (addr s p l (p * 8) 1 (3 + s + s + 4 + p + p * 8) n)) ∧ Below w.heap.size w w' := by
  by_cases h : okB s p l = true
  · have hk := okB_of h
    go_enter Tryz.func92, Tryz.ntmps92
    go_wp2_with (go_at_call 93; refine (sAt_ok s p l _ n _ _ _ h (by omega) (by omega) (by omega) (by omega) (by omega) (by omega)).mono ?_; rintro e w' ⟨rfl, rfl⟩)
    go_ret
    exact ⟨ret_int (by unfold addr; rw [if_pos h]; all_goals (congr 1 <;> omega)), by repeat (first | exact Below.refl _ _ | refine Below.alloc ?_ (by simp <;> omega) _ | apply Below.drew)⟩
  · have h' : okB s p l = false := by simpa using h
    go_enter Tryz.func92, Tryz.ntmps92
    go_wp2_with (go_at_call 93; refine (sAt_bad s p l _ n _ _ _ h').mono ?_; rintro e w' ⟨rfl, rfl⟩)
    go_ret
    exact ⟨ret_int (by unfold addr; rw [if_neg h]), by repeat (first | exact Below.refl _ _ | refine Below.alloc ?_ (by simp <;> omega) _ | apply Below.drew)⟩

end Go.Proofs.YtgfbfgiohmdjmaaGreat.Plat
/- What a law rests on while it goes: structs of its own in memory: over no program. -/
namespace Go.Proofs.YtgfbfgiohmdjmaaGreat.Aid
open Go.ChangeShapes Go.WideShapes Go.ChangeAt Go.RowKit

structure Rw (w0 : World) (rs : List (Nat × List Value)) (w : World) : Prop where
  r : ∀ p ∈ rs, w.rangeAt p.1 0 p.2 ∧ p.1 < w.heap.size
  b : Below w0.heap.size w0 w

theorem Rw.start (w : World) : Rw w [] w := ⟨fun p hp => by simp at hp, Below.refl _ _⟩
theorem Rw.later {w0 w w1 : World} {rs : List (Nat × List Value)} (h : Rw w0 rs w) (hb : Below w.heap.size w w1) : Rw w0 rs w1 :=
  ⟨fun p hp => ⟨range_below hb (h.r p hp).1 (h.r p hp).2, Nat.lt_of_lt_of_le (h.r p hp).2 hb.size⟩, h.b.trans (hb.mono h.b.size)⟩
theorem setCells_size (b : Nat) : ∀ (vs : List Value) (o : Nat) (w : World), (w.setCells b o vs).heap.size = w.heap.size
  | [], _, _ => rfl
  | v :: r, o, w => by rw [World.setCells, setCells_size b r]; simp [World.setCell]
theorem there_new (w : World) (Z : Array Value) (t : TypeId) (n : Nat) (hn : Z.size = n) : (w.alloc (.cells Z t)).there w.heap.size 0 n := by
  subst hn; exact there_lit Z (heap1_0 _ _)
theorem Rw.put {w0 w : World} {rs : List (Nat × List Value)} (h : Rw w0 rs w) (Z C : Array Value) (t : TypeId) (hn : Z.size = C.size) : Rw w0 ((w.heap.size, C.toList) :: rs) ((w.alloc (.cells Z t)).setCells w.heap.size 0 C.toList) := by
  have hl := h.later (below1 w (.cells Z t))
  have ht := there_new w Z t C.toList.length (by rw [hn]; simp)
  have hb := below_setCells (below1 w (.cells Z t)) (Nat.le_refl _) C.toList 0
  have hs := hb.size
  have z : w.heap.size < ((w.alloc (.cells Z t)).setCells w.heap.size 0 C.toList).heap.size := by
    have : ((w.alloc (.cells Z t)).setCells w.heap.size 0 C.toList).heap.size = (w.alloc (.cells Z t)).heap.size := setCells_size _ _ _ _
    rw [this]; simp
  refine ⟨fun p hp => ?_, (h.later hb).b⟩
  rcases List.mem_cons.1 hp with rfl | hp
  · exact ⟨World.rangeAt_setCells_same _ _ _ _ ht, z⟩
  · exact (h.later hb).r p hp

end Go.Proofs.YtgfbfgiohmdjmaaGreat.Aid

/- The kind of a room, of both: whatever int comes in. -/
import Derived.Test.YtipbijcmpbefpaaAid
namespace Go.Proofs.Ytipbijcmpbefpaa.Book
open Go.ChangeShapes Go.WideShapes Go.ChangeAt Go.RowKit
open Go.Proofs.Ytipbijcmpbefpaa.Aid

def sz (k : Int) : Int := if k = 0 then 1 else if k = 1 then 2 else if k = 2 then 4 else 8
def kindM (u : Int) : Int := if u < 1 ∨ 32 < u then -1 else if u ≤ 1 then 0 else if u ≤ 2 then 1 else if u ≤ 4 then 2 else if u ≤ 8 then 3 else 4

theorem kindM_of (u k : Int) (h : 0 ≤ k ∧ k < 4 ∧ 1 ≤ u ∧ u ≤ sz k ∧ (∀ j, 0 ≤ j → j < k → sz j < u)) : kindM u = k := by
  obtain ⟨h0, h1, h2, h3, h⟩ := h
  have q0 := h 0; have q1 := h 1; have q2 := h 2; have q3 := h 3
  obtain rfl | rfl | rfl | rfl : k = 0 ∨ k = 1 ∨ k = 2 ∨ k = 3 := by omega
  all_goals
    simp [sz] at q0 q1 q2 q3 h3
    simp only [kindM]
    repeat' split
    all_goals omega

theorem kindM_none (u : Int) (h : u < 1 ∨ 32 < u) : kindM u = -1 := by simp only [kindM]; rw [if_pos h]
theorem kindM_wide (u : Int) (h : 8 < u) (h' : u ≤ 32) : kindM u = 4 := by
  simp only [kindM]
  repeat' split
  all_goals omega

theorem size_any (k : Int) (h0 : 0 ≤ k) (h1 : k < 4) (w : World) : Calls Try.prog 79 #[.int .i64 k] w fun e w' => e = .returned (.int .i64 (sz k)) ∧ Below w.heap.size w w' := by
  obtain rfl | rfl | rfl | rfl : k = 0 ∨ k = 1 ∨ k = 2 ∨ k = 3 := by omega
  all_goals
    go_enter Try.func79, Try.ntmps79
    go_wp2_with (fail)
    go_ret
    exact ⟨rfl, below1 _ _⟩

theorem within_any (n a b : Int) (w : World) : Calls Try.prog 74 #[.int .i64 n, .int .i64 a, .int .i64 b] w fun e w' => e = .returned (.bool (decide (a ≤ n ∧ n ≤ b))) ∧ w' = w := by
  by_cases h1 : a ≤ n <;> by_cases h2 : n ≤ b
  all_goals
    go_enter Try.func74, Try.ntmps74
    go_wp2_with (fail)
    go_ret
    exact ⟨by simp [h1, h2], rfl⟩

set_option maxHeartbeats 1000000 in
theorem skind_any (u : Int) (w : World) : Calls Try.prog 147 #[.int .i64 u] w fun e w' => e = .returned (.int .i64 (kindM u)) ∧ Below w.heap.size w w' := by
  go_enter Try.func147, Try.ntmps147
  go_wp2_with (fail)
  go_loopw [3] (fun i wr => ∃ k : Int, 0 ≤ k ∧ k ≤ 4 ∧ i = .int .i64 k ∧ (1 ≤ u → ∀ j, 0 ≤ j → j < k → sz j < u) ∧ Below w.heap.size w wr) (fun i _ => 4 - (intOf i).toNat)
  case atStart => exact ⟨0, by omega, by omega, rfl, fun _ j h1 h2 => by omega, Below.refl _ _⟩
  case round =>
    obtain ⟨k, hk0, hk, rfl, hj, hb⟩ := hrel
    by_cases hlt : k < 4
    · by_cases h1 : 1 ≤ u
      · have hs := size_any k hk0 hlt
        have hjH := (id hj : Hid _)
        have hbH := (id hb : Hid _)
        clear hj hb
        go_wp2_with (fail)
        refine (hs _).mono ?_
        rintro e w1 ⟨rfl, hb1⟩
        clear hs
        have hb2 := hbH.out.trans (hb1.mono hbH.out.size)
        clear hb1 hbH
        by_cases h2 : u ≤ sz k
        · go_wp2_with (fail)
          go_ret
          exact ⟨by rw [kindM_of u k ⟨hk0, hlt, h1, h2, hjH.out h1⟩]; rfl, hb2⟩
        · go_wp2_with (fail)
          go_roundw
          case rel => exact ⟨k + 1, by omega, by omega, by go_num, fun h j a b => (by
            by_cases e : j = k
            · subst e; omega
            · exact hjH.out h j a (by omega)), hb2⟩
          case measure => simp [intOf]; omega
      · have hbH := (id hb : Hid _)
        clear hj hb
        go_wp2_with (fail)
        go_roundw
        case rel => exact ⟨k + 1, by omega, by omega, by go_num, fun h => absurd h h1, hbH.out⟩
        case measure => simp [intOf]; omega
    · obtain rfl : k = 4 := by omega
      by_cases h1 : 8 < u <;> by_cases h2 : u ≤ 32
      all_goals
        go_wp2_with (fail)
        go_ret
        have h3 : 1 ≤ u → sz 3 < u := fun h => hj h 3 (by omega) (by omega)
        simp [sz] at h3
        first
          | exact ⟨by rw [kindM_wide u h1 h2]; rfl, hb⟩
          | exact ⟨by rw [kindM_none u (by omega)]; rfl, hb⟩

end Go.Proofs.Ytipbijcmpbefpaa.Book

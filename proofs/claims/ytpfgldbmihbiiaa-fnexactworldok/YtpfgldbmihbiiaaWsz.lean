/- Guests and worlds that are handed in, measured. -/
import Derived.Test.YtpfgldbmihbiiaaWx
namespace Go.Proofs.Ytpfgldbmihbiiaa.Gs
open Go.ChangeShapes Go.WideShapes Go.ChangeAt Go.RowKit
open Go.Proofs.Ytpfgldbmihbiiaa.Aid Go.Proofs.Ytpfgldbmihbiiaa.Lst Go.Proofs.Ytpfgldbmihbiiaa.Plat
open Go.Proofs.Ytpfgldbmihbiiaa.Book (Sx szM szM_neg szM_pos)
set_option maxRecDepth 100000
set_option linter.unusedVariables false

theorem szw_any (x : Option Addr) (n c : Nat) (l : Int) (w : World) (hn : (n : Int) ≤ maxLen) (h0 : 0 ≤ l) (h1 : l ≤ 1048576) :
    Calls Try.prog 17 #[.slice x n c, .int .i64 l] w fun e w' => e = .returned (.int .i64 (szM l n)) ∧ w' = w := by
  have hm : (maxLen : Int) ≤ 9223372036854775807 := by decide
  by_cases h : l - n < 0
  all_goals
    go_enter Try.func17, Try.ntmps17
    go_wp2_with (fail)
    go_ret
    exact ⟨by simp only [szM]; first | (rw [if_pos h]; rfl) | (rw [if_neg (by omega)]; rfl), rfl⟩

set_option maxHeartbeats 4000000 in
theorem szg_any (g : Gx) (l : Int) (w : World) (hs : (g.snap.n : Int) ≤ maxLen) (hp : (g.plan.n : Int) ≤ maxLen) (h0 : 0 ≤ l) (h1 : l ≤ 1048576) :
    Calls Try.prog 29 #[.agg g.cells.toArray, .int .i64 l] w fun e w' => (∃ r : Int, e = .returned (.int .i64 r) ∧ (0 ≤ r → r + g.snap.n + g.plan.n = l) ∧ r ≤ l ∧ -1 ≤ r) ∧ Below w.heap.size w w' := by
  have R : (w.alloc (.cells g.cells.toArray 67)).rangeAt w.heap.size 0 g.cells := range_lit g.cells.toArray (heap1_0 w _)
  have c1 : (w.alloc (.cells g.cells.toArray 67)).cell? ⟨w.heap.size, 21, none⟩ = some (.slice g.snap.a g.snap.n g.snap.c) := R 21 _ rfl
  have c2 : (w.alloc (.cells g.cells.toArray 67)).cell? ⟨w.heap.size, 22, none⟩ = some (.slice g.plan.a g.plan.n g.plan.c) := R 22 _ rfl
  have B := below1 w (.cells g.cells.toArray 67)
  clear R
  go_enter Try.func29, Try.ntmps29
  go_wp2_with (fail)
  refine (szw_any _ _ _ _ _ hs h0 h1).mono ?_
  rintro e w1 ⟨rfl, rfl⟩
  by_cases e0 : l < g.snap.n
  · rw [szM_neg e0]
    go_wp2_with (fail)
    go_ret
    exact ⟨⟨-1, rfl, fun h => by omega, by omega, by omega⟩, B⟩
  rw [szM_pos e0]
  go_wp2_with (fail)
  refine (szw_any _ _ _ _ _ hp (by omega) (by omega)).mono ?_
  rintro e w1 ⟨rfl, rfl⟩
  by_cases e1 : l - g.snap.n < g.plan.n
  · rw [szM_neg e1]
    go_wp2_with (fail)
    go_ret
    exact ⟨⟨-1, rfl, fun h => by omega, by omega, by omega⟩, B⟩
  rw [szM_pos e1]
  go_wp2_with (fail)
  go_ret
  exact ⟨⟨_, rfl, fun h => by omega, by omega, by omega⟩, B⟩

end Go.Proofs.Ytpfgldbmihbiiaa.Gs

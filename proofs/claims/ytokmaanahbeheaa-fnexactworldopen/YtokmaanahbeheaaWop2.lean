/- Worlds without guests, held against each other and marked. Conditions: at most 1,000,000,000 words. -/
import Derived.Test.YtokmaanahbeheaaWop
import Derived.Test.YtokmaanahbeheaaBk
namespace Go.Proofs.Ytokmaanahbeheaa.Plat
open Go.ChangeShapes Go.WideShapes Go.ChangeAt Go.RowKit
open Go.Proofs.Ytokmaanahbeheaa.Words Go.Proofs.Ytokmaanahbeheaa.Aid Go.Proofs.Ytokmaanahbeheaa.Lst
open Go.Proofs.Ytokmaanahbeheaa.Book (Only)
set_option maxRecDepth 100000
set_option linter.unusedVariables false

theorem eqgs0 (w : World) : Calls Try.prog 18 #[.slice none 0 0, .slice none 0 0] w fun e w' => e = .returned (.bool true) ∧ w' = w := by
  go_enter Try.func18, Try.ntmps18
  go_wp2_with (fail)
  refine wp_loop_rounds 1 ?_
  rw [rounds_succ]
  go_wp2_with (fail)
  go_ret
  exact ⟨rfl, rfl⟩

theorem markgs0 (k : Int) (w : World) : Calls Try.prog 20 #[.slice none 0 0, .int .i64 k] w fun e w' => e = .returned (.int .i64 k) ∧ w' = w := by
  go_enter Try.func20, Try.ntmps20
  go_wp2_with (fail)
  refine wp_loop_rounds 1 ?_
  rw [rounds_succ]
  go_wp2_with (fail)
  go_ret
  exact ⟨rfl, rfl⟩

theorem heldgs0 (k : Int) (w : World) : Calls Try.prog 22 #[.slice none 0 0, .int .i64 k] w fun e w' => e = .returned (.int .i64 k) ∧ w' = w := by
  go_enter Try.func22, Try.ntmps22
  go_wp2_with (fail)
  refine wp_loop_rounds 1 ?_
  rw [rounds_succ]
  go_wp2_with (fail)
  go_ret
  exact ⟨rfl, rfl⟩

set_option maxHeartbeats 1000000 in
theorem eqw0 (x y : Option Addr) (n : Nat) (f : Nat → Int) (w : World) (h : Sl .u64 w x n f) (h' : Sl .u64 w y n f) (hn : n ≤ 1000000000) :
    Calls Try.prog 8 #[.agg #[.slice x n n, .slice none 0 0], .agg #[.slice y n n, .slice none 0 0]] w fun e w' => e = .returned (.bool true) ∧ Below w.heap.size w w' := by
  go_enter Try.func8, Try.ntmps8
  go_wp2_with (fail)
  refine (eqUint64_any _ _ _ _ _ _ _ _ (h.later (below2 w _ _)) (h'.later (below2 w _ _)) (fun _ _ => rfl) hn).mono ?_
  rintro e w' ⟨rfl, q, rfl⟩
  have c1 : (((w.alloc (.cells #[.slice x n n, .slice none 0 0] 27)).alloc (.cells #[.slice y n n, .slice none 0 0] 27)).drewN q).cell? ⟨w.heap.size, 1, none⟩ = some (.slice none 0 0) := (range_lit _ (heap2_0 w _ _)) 1 _ rfl
  have c2 : (((w.alloc (.cells #[.slice x n n, .slice none 0 0] 27)).alloc (.cells #[.slice y n n, .slice none 0 0] 27)).drewN q).cell? ⟨w.heap.size + 1, 1, none⟩ = some (.slice none 0 0) := (range_lit _ (heap2_1 w _ _)) 1 _ rfl
  have hb := below_drewN (below2 w (.cells #[.slice x n n, .slice none 0 0] 27) (.cells #[.slice y n n, .slice none 0 0] 27)) q
  generalize World.drewN _ q = W at c1 c2 hb ⊢
  go_wp2_with (fail)
  refine (eqgs0 _).mono ?_
  rintro e w' ⟨rfl, rfl⟩
  go_wp2_with (fail)
  go_ret
  exact ⟨rfl, hb⟩

set_option maxHeartbeats 1000000 in
theorem markw0_own (b n : Nat) (f : Nat → Int) (k : Int) (w : World) (h : Fk .u64 n w b f) (hn : n ≤ 1000000000) (h0 : 0 ≤ k) (h1 : k ≤ 1000000000000000) (hb : b < w.heap.size) :
    Calls Try.prog 9 #[.agg #[.slice (some ⟨b, 0, none⟩) n n, .slice none 0 0], .int .i64 k] w fun e w' => e = .returned (.int .i64 (k + n)) ∧ Fk .u64 n w' b (fun j => k + j) ∧ Only b (b + 1) w w' := by
  go_enter Try.func9, Try.ntmps9
  go_wp2_with (fail)
  refine (markUint64_any b n n f k _ (h.later (below1 w _)) hn h0 h1).mono ?_
  rintro e w1 ⟨rfl, f1, bu⟩
  have z1 := bu.size
  have c1 : w1.cell? ⟨w.heap.size, 1, none⟩ = some (.slice none 0 0) := (World.cell?_of_block (bu.block w.heap.size (by omega))).trans ((range_lit _ (heap1_0 w _)) 1 _ rfl)
  have hB : Only b (b + 1) w w1 := (Only.of (below1 w _)).trans (Only.but bu)
  clear bu z1 h
  go_wp2_with (fail)
  refine (markgs0 _ _).mono ?_
  rintro e w' ⟨rfl, rfl⟩
  go_wp2_with (fail)
  go_ret
  exact ⟨rfl, f1, hB⟩

set_option maxHeartbeats 1000000 in
theorem markw0_none (k : Int) (w : World) :
    Calls Try.prog 9 #[.agg #[.slice none 0 0, .slice none 0 0], .int .i64 k] w fun e w' => e = .returned (.int .i64 k) ∧ Below w.heap.size w w' := by
  go_enter Try.func9, Try.ntmps9
  go_wp2_with (fail)
  refine (markUint64_none none 0 k _).mono ?_
  rintro e w' ⟨rfl, rfl⟩
  go_wp2_with (fail)
  refine (markgs0 _ _).mono ?_
  rintro e w' ⟨rfl, rfl⟩
  go_wp2_with (fail)
  go_ret
  exact ⟨rfl, below1 _ _⟩

set_option maxHeartbeats 1000000 in
theorem heldw0 (x : Option Addr) (n : Nat) (k : Int) (w : World) (h : Sl .u64 w x n (fun j => k + j)) (hn : n ≤ 1000000000) (h0 : 0 ≤ k) (h1 : k ≤ 1000000000000000) :
    Calls Try.prog 10 #[.agg #[.slice x n n, .slice none 0 0], .int .i64 k] w fun e w' => e = .returned (.int .i64 (k + n)) ∧ Below w.heap.size w w' := by
  go_enter Try.func10, Try.ntmps10
  go_wp2_with (fail)
  refine (heldUint64_any _ _ _ _ _ (h.later (below1 w _)) hn h0 h1).mono ?_
  rintro e w' ⟨rfl, rfl⟩
  go_wp2_with (fail)
  refine (heldgs0 _ _).mono ?_
  rintro e w' ⟨rfl, rfl⟩
  go_wp2_with (fail)
  go_ret
  exact ⟨rfl, below1 _ _⟩

end Go.Proofs.Ytokmaanahbeheaa.Plat

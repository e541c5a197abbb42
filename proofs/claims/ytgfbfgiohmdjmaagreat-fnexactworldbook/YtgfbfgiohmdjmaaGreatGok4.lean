/- What a guest has where it stands, as the program tests it. Conditions: none. -/
import Derived.Test.YtgfbfgiohmdjmaaGreatGok3
namespace Go.Proofs.YtgfbfgiohmdjmaaGreat.Gs
open Go.ChangeShapes Go.WideShapes Go.ChangeAt Go.RowKit
open Aid Lst Plat
open Book (Sx)
set_option maxRecDepth 100000
set_option linter.unusedVariables false

set_option maxHeartbeats 16000000 in
theorem stands_any (s p : Int) (g : Gx) (w : World) (hk : 1 ≤ s ∧ s ≤ 4 ∧ 1 ≤ p ∧ p ≤ 6) (hw0 : 0 ≤ g.who) :
    Calls Tryz.prog 65 #[.agg (ints (layL s p)).toArray, .agg g.cells.toArray] w fun e w' => e = .returned (.bool (boolOf (Place s p g))) ∧ Below w.heap.size w w' := by
  rcases (by omega : (11 ≤ g.pc ∧ g.pc ≤ 11) ∨ (12 ≤ g.pc ∧ g.pc ≤ 12) ∨ (13 ≤ g.pc ∧ g.pc ≤ 13) ∨ (14 ≤ g.pc ∧ g.pc ≤ 14) ∨ (16 ≤ g.pc ∧ g.pc ≤ 16) ∨ (17 ≤ g.pc ∧ g.pc ≤ 17) ∨ (18 ≤ g.pc ∧ g.pc ≤ 18) ∨ (19 ≤ g.pc ∧ g.pc ≤ 19) ∨ (20 ≤ g.pc ∧ g.pc ≤ 20) ∨ (21 ≤ g.pc ∧ g.pc ≤ 21) ∨ (22 ≤ g.pc ∧ g.pc ≤ 22) ∨ (23 ≤ g.pc ∧ g.pc ≤ 23) ∨ (24 ≤ g.pc ∧ g.pc ≤ 24) ∨ (g.pc < 11) ∨ (15 ≤ g.pc ∧ g.pc ≤ 15) ∨ (24 < g.pc)) with hc | hc | hc | hc | hc | hc | hc | hc | hc | hc | hc | hc | hc | hc | hc | hc
  · obtain ⟨p1, p2⟩ := hc
    have t11 : (g.pc == 11) = true := by simp; omega
    have t12 : (g.pc == 12) = false := by simp; omega
    have t13 : (g.pc == 13) = false := by simp; omega
    have t14 : (g.pc == 14) = false := by simp; omega
    have t16 : (g.pc == 16) = false := by simp; omega
    have t17 : (g.pc == 17) = false := by simp; omega
    have t18 : (g.pc == 18) = false := by simp; omega
    have t19 : (g.pc == 19) = false := by simp; omega
    have t20 : (g.pc == 20) = false := by simp; omega
    have t21 : (g.pc == 21) = false := by simp; omega
    have t22 : (g.pc == 22) = false := by simp; omega
    have t23 : (g.pc == 23) = false := by simp; omega
    have t24 : (g.pc == 24) = false := by simp; omega
    by_cases d1 : (g.snap.n : Int) < g.k
    · have H : Hid (¬ Place s p g) := fun h => by
        obtain ⟨k1, k2, k3, k4, k5⟩ := h
        omega
      have E := El.start w s p g 86 68
      have q1 := E.s
      have q23 := E.d
      have c_pc := at0 E.r 8 (v := .int .i64 g.pc) rfl
      have c_k := at0 E.r 9 (v := .int .i64 g.k) rfl
      have c_n := at0 E.r 10 (v := .int .i64 g.n) rfl
      have c_who := at0 E.r 13 (v := .int .i64 g.who) rfl
      have c_own := at0 E.r 15 (v := .bool g.own) rfl
      have c_oa := at0 E.r 6 (v := .int .i64 g.oa) rfl
      have c_snap := at0 E.r 21 (v := .slice g.snap.a g.snap.n g.snap.c) rfl
      have c_plan := at0 E.r 22 (v := .slice g.plan.a g.plan.n g.plan.c) rfl
      have B := E.b
      clear E
      go_enter Tryz.func65, Tryz.ntmps65
      go_wp2_with (fail)
      go_ret
      exact ⟨ret_bool (boolOf_f H.out), B⟩
    by_cases d2 : g.k < (g.snap.n : Int)
    · have H : Hid (¬ Place s p g) := fun h => by
        obtain ⟨k1, k2, k3, k4, k5⟩ := h
        omega
      have E := El.start w s p g 86 68
      have q1 := E.s
      have q23 := E.d
      have c_pc := at0 E.r 8 (v := .int .i64 g.pc) rfl
      have c_k := at0 E.r 9 (v := .int .i64 g.k) rfl
      have c_n := at0 E.r 10 (v := .int .i64 g.n) rfl
      have c_who := at0 E.r 13 (v := .int .i64 g.who) rfl
      have c_own := at0 E.r 15 (v := .bool g.own) rfl
      have c_oa := at0 E.r 6 (v := .int .i64 g.oa) rfl
      have c_snap := at0 E.r 21 (v := .slice g.snap.a g.snap.n g.snap.c) rfl
      have c_plan := at0 E.r 22 (v := .slice g.plan.a g.plan.n g.plan.c) rfl
      have B := E.b
      clear E
      go_enter Tryz.func65, Tryz.ntmps65
      go_wp2_with (fail)
      go_ret
      exact ⟨ret_bool (boolOf_f H.out), B⟩
    have h2 : decide (g.k < 7 + 2 * s + 17 * p) = boolOf (Place s p g) := by
      by_cases hq : g.k < 7 + 2 * s + 17 * p
      · rw [← boolOf_t (show Place s p g from ⟨fun e => by unfold hS; omega, fun e => by omega, fun e => by omega, fun e => by omega, fun e => absurd e (by omega)⟩)]; simp; omega
      · rw [← boolOf_f (fun (h : Place s p g) => by
          obtain ⟨k1, k2, k3, k4, k5⟩ := h
          unfold hS at k1
          omega)]; simp; omega
    have H : Hid (decide (g.k < 7 + 2 * s + 17 * p) = boolOf (Place s p g)) := h2
    clear h2
    have E := El.start w s p g 86 68
    have q1 := E.s
    have q23 := E.d
    have c_pc := at0 E.r 8 (v := .int .i64 g.pc) rfl
    have c_k := at0 E.r 9 (v := .int .i64 g.k) rfl
    have c_n := at0 E.r 10 (v := .int .i64 g.n) rfl
    have c_who := at0 E.r 13 (v := .int .i64 g.who) rfl
    have c_own := at0 E.r 15 (v := .bool g.own) rfl
    have c_oa := at0 E.r 6 (v := .int .i64 g.oa) rfl
    have c_snap := at0 E.r 21 (v := .slice g.snap.a g.snap.n g.snap.c) rfl
    have c_plan := at0 E.r 22 (v := .slice g.plan.a g.plan.n g.plan.c) rfl
    have B := E.b
    clear E
    go_enter Tryz.func65, Tryz.ntmps65
    go_wp2_with (fail)
    go_ret
    exact ⟨ret_bool H.out, B⟩
  · obtain ⟨p1, p2⟩ := hc
    have t11 : (g.pc == 11) = false := by simp; omega
    have t12 : (g.pc == 12) = true := by simp; omega
    have t13 : (g.pc == 13) = false := by simp; omega
    have t14 : (g.pc == 14) = false := by simp; omega
    have t16 : (g.pc == 16) = false := by simp; omega
    have t17 : (g.pc == 17) = false := by simp; omega
    have t18 : (g.pc == 18) = false := by simp; omega
    have t19 : (g.pc == 19) = false := by simp; omega
    have t20 : (g.pc == 20) = false := by simp; omega
    have t21 : (g.pc == 21) = false := by simp; omega
    have t22 : (g.pc == 22) = false := by simp; omega
    have t23 : (g.pc == 23) = false := by simp; omega
    have t24 : (g.pc == 24) = false := by simp; omega
    by_cases d1 : (g.snap.n : Int) < 7 + 2 * s + 17 * p
    · have H : Hid (¬ Place s p g) := fun h => by
        obtain ⟨k1, k2, k3, k4, k5⟩ := h
        unfold hS at k2
        omega
      have E := El.start w s p g 86 68
      have q1 := E.s
      have q23 := E.d
      have c_pc := at0 E.r 8 (v := .int .i64 g.pc) rfl
      have c_k := at0 E.r 9 (v := .int .i64 g.k) rfl
      have c_n := at0 E.r 10 (v := .int .i64 g.n) rfl
      have c_who := at0 E.r 13 (v := .int .i64 g.who) rfl
      have c_own := at0 E.r 15 (v := .bool g.own) rfl
      have c_oa := at0 E.r 6 (v := .int .i64 g.oa) rfl
      have c_snap := at0 E.r 21 (v := .slice g.snap.a g.snap.n g.snap.c) rfl
      have c_plan := at0 E.r 22 (v := .slice g.plan.a g.plan.n g.plan.c) rfl
      have B := E.b
      clear E
      go_enter Tryz.func65, Tryz.ntmps65
      go_wp2_with (fail)
      go_ret
      exact ⟨ret_bool (boolOf_f H.out), B⟩
    by_cases d2 : 7 + 2 * s + 17 * p < (g.snap.n : Int)
    · have H : Hid (¬ Place s p g) := fun h => by
        obtain ⟨k1, k2, k3, k4, k5⟩ := h
        unfold hS at k2
        omega
      have E := El.start w s p g 86 68
      have q1 := E.s
      have q23 := E.d
      have c_pc := at0 E.r 8 (v := .int .i64 g.pc) rfl
      have c_k := at0 E.r 9 (v := .int .i64 g.k) rfl
      have c_n := at0 E.r 10 (v := .int .i64 g.n) rfl
      have c_who := at0 E.r 13 (v := .int .i64 g.who) rfl
      have c_own := at0 E.r 15 (v := .bool g.own) rfl
      have c_oa := at0 E.r 6 (v := .int .i64 g.oa) rfl
      have c_snap := at0 E.r 21 (v := .slice g.snap.a g.snap.n g.snap.c) rfl
      have c_plan := at0 E.r 22 (v := .slice g.plan.a g.plan.n g.plan.c) rfl
      have B := E.b
      clear E
      go_enter Tryz.func65, Tryz.ntmps65
      go_wp2_with (fail)
      go_ret
      exact ⟨ret_bool (boolOf_f H.out), B⟩
    have h2 : (decide (0 ≤ g.oa) && decide (g.oa ≤ s - 1)) = boolOf (Place s p g) := by
      by_cases hq : 0 ≤ g.oa ∧ g.oa ≤ s - 1
      · rw [← boolOf_t (show Place s p g from ⟨fun e => by omega, fun e => by unfold hS; omega, fun e => by omega, fun e => by omega, fun e => absurd e (by omega)⟩)]; simp; omega
      · rw [← boolOf_f (fun (h : Place s p g) => by
          obtain ⟨k1, k2, k3, k4, k5⟩ := h
          omega)]; simp; omega
    have H : Hid ((decide (0 ≤ g.oa) && decide (g.oa ≤ s - 1)) = boolOf (Place s p g)) := h2
    clear h2
    have E := El.start w s p g 86 68
    have q1 := E.s
    have q23 := E.d
    have c_pc := at0 E.r 8 (v := .int .i64 g.pc) rfl
    have c_k := at0 E.r 9 (v := .int .i64 g.k) rfl
    have c_n := at0 E.r 10 (v := .int .i64 g.n) rfl
    have c_who := at0 E.r 13 (v := .int .i64 g.who) rfl
    have c_own := at0 E.r 15 (v := .bool g.own) rfl
    have c_oa := at0 E.r 6 (v := .int .i64 g.oa) rfl
    have c_snap := at0 E.r 21 (v := .slice g.snap.a g.snap.n g.snap.c) rfl
    have c_plan := at0 E.r 22 (v := .slice g.plan.a g.plan.n g.plan.c) rfl
    have B := E.b
    clear E
    go_enter Tryz.func65, Tryz.ntmps65
    go_wp2_with (fail)
    refine (Gst.within_any _ _ _ _).mono ?_
    rintro e w' ⟨rfl, rfl⟩
    go_wp2_with (fail)
    go_ret
    exact ⟨ret_bool H.out, B⟩
  · obtain ⟨p1, p2⟩ := hc
    have t11 : (g.pc == 11) = false := by simp; omega
    have t12 : (g.pc == 12) = false := by simp; omega
    have t13 : (g.pc == 13) = true := by simp; omega
    have t14 : (g.pc == 14) = false := by simp; omega
    have t16 : (g.pc == 16) = false := by simp; omega
    have t17 : (g.pc == 17) = false := by simp; omega
    have t18 : (g.pc == 18) = false := by simp; omega
    have t19 : (g.pc == 19) = false := by simp; omega
    have t20 : (g.pc == 20) = false := by simp; omega
    have t21 : (g.pc == 21) = false := by simp; omega
    have t22 : (g.pc == 22) = false := by simp; omega
    have t23 : (g.pc == 23) = false := by simp; omega
    have t24 : (g.pc == 24) = false := by simp; omega
    have h2 : decide (g.k ≤ (g.plan.n : Int)) = boolOf (Place s p g) := by
      by_cases hq : g.k ≤ (g.plan.n : Int)
      · rw [← boolOf_t (show Place s p g from ⟨fun e => by omega, fun e => by omega, fun e => by omega, fun e => by omega, fun e => absurd e (by omega)⟩)]; simp; omega
      · rw [← boolOf_f (fun (h : Place s p g) => by
          obtain ⟨k1, k2, k3, k4, k5⟩ := h
          omega)]; simp; omega
    have H : Hid (decide (g.k ≤ (g.plan.n : Int)) = boolOf (Place s p g)) := h2
    clear h2
    have E := El.start w s p g 86 68
    have q1 := E.s
    have q23 := E.d
    have c_pc := at0 E.r 8 (v := .int .i64 g.pc) rfl
    have c_k := at0 E.r 9 (v := .int .i64 g.k) rfl
    have c_n := at0 E.r 10 (v := .int .i64 g.n) rfl
    have c_who := at0 E.r 13 (v := .int .i64 g.who) rfl
    have c_own := at0 E.r 15 (v := .bool g.own) rfl
    have c_oa := at0 E.r 6 (v := .int .i64 g.oa) rfl
    have c_snap := at0 E.r 21 (v := .slice g.snap.a g.snap.n g.snap.c) rfl
    have c_plan := at0 E.r 22 (v := .slice g.plan.a g.plan.n g.plan.c) rfl
    have B := E.b
    clear E
    go_enter Tryz.func65, Tryz.ntmps65
    go_wp2_with (fail)
    go_ret
    exact ⟨ret_bool H.out, B⟩
  · obtain ⟨p1, p2⟩ := hc
    have t11 : (g.pc == 11) = false := by simp; omega
    have t12 : (g.pc == 12) = false := by simp; omega
    have t13 : (g.pc == 13) = false := by simp; omega
    have t14 : (g.pc == 14) = true := by simp; omega
    have t16 : (g.pc == 16) = false := by simp; omega
    have t17 : (g.pc == 17) = false := by simp; omega
    have t18 : (g.pc == 18) = false := by simp; omega
    have t19 : (g.pc == 19) = false := by simp; omega
    have t20 : (g.pc == 20) = false := by simp; omega
    have t21 : (g.pc == 21) = false := by simp; omega
    have t22 : (g.pc == 22) = false := by simp; omega
    have t23 : (g.pc == 23) = false := by simp; omega
    have t24 : (g.pc == 24) = false := by simp; omega
    have h2 : decide (g.k ≤ (g.plan.n : Int)) = boolOf (Place s p g) := by
      by_cases hq : g.k ≤ (g.plan.n : Int)
      · rw [← boolOf_t (show Place s p g from ⟨fun e => by omega, fun e => by omega, fun e => by omega, fun e => by omega, fun e => absurd e (by omega)⟩)]; simp; omega
      · rw [← boolOf_f (fun (h : Place s p g) => by
          obtain ⟨k1, k2, k3, k4, k5⟩ := h
          omega)]; simp; omega
    have H : Hid (decide (g.k ≤ (g.plan.n : Int)) = boolOf (Place s p g)) := h2
    clear h2
    have E := El.start w s p g 86 68
    have q1 := E.s
    have q23 := E.d
    have c_pc := at0 E.r 8 (v := .int .i64 g.pc) rfl
    have c_k := at0 E.r 9 (v := .int .i64 g.k) rfl
    have c_n := at0 E.r 10 (v := .int .i64 g.n) rfl
    have c_who := at0 E.r 13 (v := .int .i64 g.who) rfl
    have c_own := at0 E.r 15 (v := .bool g.own) rfl
    have c_oa := at0 E.r 6 (v := .int .i64 g.oa) rfl
    have c_snap := at0 E.r 21 (v := .slice g.snap.a g.snap.n g.snap.c) rfl
    have c_plan := at0 E.r 22 (v := .slice g.plan.a g.plan.n g.plan.c) rfl
    have B := E.b
    clear E
    go_enter Tryz.func65, Tryz.ntmps65
    go_wp2_with (fail)
    go_ret
    exact ⟨ret_bool H.out, B⟩
  · obtain ⟨p1, p2⟩ := hc
    have t11 : (g.pc == 11) = false := by simp; omega
    have t12 : (g.pc == 12) = false := by simp; omega
    have t13 : (g.pc == 13) = false := by simp; omega
    have t14 : (g.pc == 14) = false := by simp; omega
    have t16 : (g.pc == 16) = true := by simp; omega
    have t17 : (g.pc == 17) = false := by simp; omega
    have t18 : (g.pc == 18) = false := by simp; omega
    have t19 : (g.pc == 19) = false := by simp; omega
    have t20 : (g.pc == 20) = false := by simp; omega
    have t21 : (g.pc == 21) = false := by simp; omega
    have t22 : (g.pc == 22) = false := by simp; omega
    have t23 : (g.pc == 23) = false := by simp; omega
    have t24 : (g.pc == 24) = false := by simp; omega
    have h2 : decide (g.who ≤ s - 1) = boolOf (Place s p g) := by
      by_cases hq : g.who ≤ s - 1
      · rw [← boolOf_t (show Place s p g from ⟨fun e => by omega, fun e => by omega, fun e => by omega, fun e => by omega, fun e => absurd e (by omega)⟩)]; simp; omega
      · rw [← boolOf_f (fun (h : Place s p g) => by
          obtain ⟨k1, k2, k3, k4, k5⟩ := h
          omega)]; simp; omega
    have H : Hid (decide (g.who ≤ s - 1) = boolOf (Place s p g)) := h2
    clear h2
    have E := El.start w s p g 86 68
    have q1 := E.s
    have q23 := E.d
    have c_pc := at0 E.r 8 (v := .int .i64 g.pc) rfl
    have c_k := at0 E.r 9 (v := .int .i64 g.k) rfl
    have c_n := at0 E.r 10 (v := .int .i64 g.n) rfl
    have c_who := at0 E.r 13 (v := .int .i64 g.who) rfl
    have c_own := at0 E.r 15 (v := .bool g.own) rfl
    have c_oa := at0 E.r 6 (v := .int .i64 g.oa) rfl
    have c_snap := at0 E.r 21 (v := .slice g.snap.a g.snap.n g.snap.c) rfl
    have c_plan := at0 E.r 22 (v := .slice g.plan.a g.plan.n g.plan.c) rfl
    have B := E.b
    clear E
    go_enter Tryz.func65, Tryz.ntmps65
    go_wp2_with (fail)
    refine (Gst.within_any _ _ _ _).mono ?_
    rintro e w' ⟨rfl, rfl⟩
    go_wp2_with (fail)
    go_ret
    exact ⟨ret_bool H.out, B⟩
  · obtain ⟨p1, p2⟩ := hc
    have t11 : (g.pc == 11) = false := by simp; omega
    have t12 : (g.pc == 12) = false := by simp; omega
    have t13 : (g.pc == 13) = false := by simp; omega
    have t14 : (g.pc == 14) = false := by simp; omega
    have t16 : (g.pc == 16) = false := by simp; omega
    have t17 : (g.pc == 17) = true := by simp; omega
    have t18 : (g.pc == 18) = false := by simp; omega
    have t19 : (g.pc == 19) = false := by simp; omega
    have t20 : (g.pc == 20) = false := by simp; omega
    have t21 : (g.pc == 21) = false := by simp; omega
    have t22 : (g.pc == 22) = false := by simp; omega
    have t23 : (g.pc == 23) = false := by simp; omega
    have t24 : (g.pc == 24) = false := by simp; omega
    have h2 : decide (g.who ≤ s - 1) = boolOf (Place s p g) := by
      by_cases hq : g.who ≤ s - 1
      · rw [← boolOf_t (show Place s p g from ⟨fun e => by omega, fun e => by omega, fun e => by omega, fun e => by omega, fun e => absurd e (by omega)⟩)]; simp; omega
      · rw [← boolOf_f (fun (h : Place s p g) => by
          obtain ⟨k1, k2, k3, k4, k5⟩ := h
          omega)]; simp; omega
    have H : Hid (decide (g.who ≤ s - 1) = boolOf (Place s p g)) := h2
    clear h2
    have E := El.start w s p g 86 68
    have q1 := E.s
    have q23 := E.d
    have c_pc := at0 E.r 8 (v := .int .i64 g.pc) rfl
    have c_k := at0 E.r 9 (v := .int .i64 g.k) rfl
    have c_n := at0 E.r 10 (v := .int .i64 g.n) rfl
    have c_who := at0 E.r 13 (v := .int .i64 g.who) rfl
    have c_own := at0 E.r 15 (v := .bool g.own) rfl
    have c_oa := at0 E.r 6 (v := .int .i64 g.oa) rfl
    have c_snap := at0 E.r 21 (v := .slice g.snap.a g.snap.n g.snap.c) rfl
    have c_plan := at0 E.r 22 (v := .slice g.plan.a g.plan.n g.plan.c) rfl
    have B := E.b
    clear E
    go_enter Tryz.func65, Tryz.ntmps65
    go_wp2_with (fail)
    refine (Gst.within_any _ _ _ _).mono ?_
    rintro e w' ⟨rfl, rfl⟩
    go_wp2_with (fail)
    go_ret
    exact ⟨ret_bool H.out, B⟩
  · obtain ⟨p1, p2⟩ := hc
    have t11 : (g.pc == 11) = false := by simp; omega
    have t12 : (g.pc == 12) = false := by simp; omega
    have t13 : (g.pc == 13) = false := by simp; omega
    have t14 : (g.pc == 14) = false := by simp; omega
    have t16 : (g.pc == 16) = false := by simp; omega
    have t17 : (g.pc == 17) = false := by simp; omega
    have t18 : (g.pc == 18) = true := by simp; omega
    have t19 : (g.pc == 19) = false := by simp; omega
    have t20 : (g.pc == 20) = false := by simp; omega
    have t21 : (g.pc == 21) = false := by simp; omega
    have t22 : (g.pc == 22) = false := by simp; omega
    have t23 : (g.pc == 23) = false := by simp; omega
    have t24 : (g.pc == 24) = false := by simp; omega
    have h2 : decide (g.who ≤ s - 1) = boolOf (Place s p g) := by
      by_cases hq : g.who ≤ s - 1
      · rw [← boolOf_t (show Place s p g from ⟨fun e => by omega, fun e => by omega, fun e => by omega, fun e => by omega, fun e => absurd e (by omega)⟩)]; simp; omega
      · rw [← boolOf_f (fun (h : Place s p g) => by
          obtain ⟨k1, k2, k3, k4, k5⟩ := h
          omega)]; simp; omega
    have H : Hid (decide (g.who ≤ s - 1) = boolOf (Place s p g)) := h2
    clear h2
    have E := El.start w s p g 86 68
    have q1 := E.s
    have q23 := E.d
    have c_pc := at0 E.r 8 (v := .int .i64 g.pc) rfl
    have c_k := at0 E.r 9 (v := .int .i64 g.k) rfl
    have c_n := at0 E.r 10 (v := .int .i64 g.n) rfl
    have c_who := at0 E.r 13 (v := .int .i64 g.who) rfl
    have c_own := at0 E.r 15 (v := .bool g.own) rfl
    have c_oa := at0 E.r 6 (v := .int .i64 g.oa) rfl
    have c_snap := at0 E.r 21 (v := .slice g.snap.a g.snap.n g.snap.c) rfl
    have c_plan := at0 E.r 22 (v := .slice g.plan.a g.plan.n g.plan.c) rfl
    have B := E.b
    clear E
    go_enter Tryz.func65, Tryz.ntmps65
    go_wp2_with (fail)
    refine (Gst.within_any _ _ _ _).mono ?_
    rintro e w' ⟨rfl, rfl⟩
    go_wp2_with (fail)
    go_ret
    exact ⟨ret_bool H.out, B⟩
  · obtain ⟨p1, p2⟩ := hc
    have t11 : (g.pc == 11) = false := by simp; omega
    have t12 : (g.pc == 12) = false := by simp; omega
    have t13 : (g.pc == 13) = false := by simp; omega
    have t14 : (g.pc == 14) = false := by simp; omega
    have t16 : (g.pc == 16) = false := by simp; omega
    have t17 : (g.pc == 17) = false := by simp; omega
    have t18 : (g.pc == 18) = false := by simp; omega
    have t19 : (g.pc == 19) = true := by simp; omega
    have t20 : (g.pc == 20) = false := by simp; omega
    have t21 : (g.pc == 21) = false := by simp; omega
    have t22 : (g.pc == 22) = false := by simp; omega
    have t23 : (g.pc == 23) = false := by simp; omega
    have t24 : (g.pc == 24) = false := by simp; omega
    have h2 : decide (g.who ≤ s - 1) = boolOf (Place s p g) := by
      by_cases hq : g.who ≤ s - 1
      · rw [← boolOf_t (show Place s p g from ⟨fun e => by omega, fun e => by omega, fun e => by omega, fun e => by omega, fun e => absurd e (by omega)⟩)]; simp; omega
      · rw [← boolOf_f (fun (h : Place s p g) => by
          obtain ⟨k1, k2, k3, k4, k5⟩ := h
          omega)]; simp; omega
    have H : Hid (decide (g.who ≤ s - 1) = boolOf (Place s p g)) := h2
    clear h2
    have E := El.start w s p g 86 68
    have q1 := E.s
    have q23 := E.d
    have c_pc := at0 E.r 8 (v := .int .i64 g.pc) rfl
    have c_k := at0 E.r 9 (v := .int .i64 g.k) rfl
    have c_n := at0 E.r 10 (v := .int .i64 g.n) rfl
    have c_who := at0 E.r 13 (v := .int .i64 g.who) rfl
    have c_own := at0 E.r 15 (v := .bool g.own) rfl
    have c_oa := at0 E.r 6 (v := .int .i64 g.oa) rfl
    have c_snap := at0 E.r 21 (v := .slice g.snap.a g.snap.n g.snap.c) rfl
    have c_plan := at0 E.r 22 (v := .slice g.plan.a g.plan.n g.plan.c) rfl
    have B := E.b
    clear E
    go_enter Tryz.func65, Tryz.ntmps65
    go_wp2_with (fail)
    refine (Gst.within_any _ _ _ _).mono ?_
    rintro e w' ⟨rfl, rfl⟩
    go_wp2_with (fail)
    go_ret
    exact ⟨ret_bool H.out, B⟩
  · obtain ⟨p1, p2⟩ := hc
    have t11 : (g.pc == 11) = false := by simp; omega
    have t12 : (g.pc == 12) = false := by simp; omega
    have t13 : (g.pc == 13) = false := by simp; omega
    have t14 : (g.pc == 14) = false := by simp; omega
    have t16 : (g.pc == 16) = false := by simp; omega
    have t17 : (g.pc == 17) = false := by simp; omega
    have t18 : (g.pc == 18) = false := by simp; omega
    have t19 : (g.pc == 19) = false := by simp; omega
    have t20 : (g.pc == 20) = true := by simp; omega
    have t21 : (g.pc == 21) = false := by simp; omega
    have t22 : (g.pc == 22) = false := by simp; omega
    have t23 : (g.pc == 23) = false := by simp; omega
    have t24 : (g.pc == 24) = false := by simp; omega
    have h2 : decide (g.who ≤ s - 1) = boolOf (Place s p g) := by
      by_cases hq : g.who ≤ s - 1
      · rw [← boolOf_t (show Place s p g from ⟨fun e => by omega, fun e => by omega, fun e => by omega, fun e => by omega, fun e => absurd e (by omega)⟩)]; simp; omega
      · rw [← boolOf_f (fun (h : Place s p g) => by
          obtain ⟨k1, k2, k3, k4, k5⟩ := h
          omega)]; simp; omega
    have H : Hid (decide (g.who ≤ s - 1) = boolOf (Place s p g)) := h2
    clear h2
    have E := El.start w s p g 86 68
    have q1 := E.s
    have q23 := E.d
    have c_pc := at0 E.r 8 (v := .int .i64 g.pc) rfl
    have c_k := at0 E.r 9 (v := .int .i64 g.k) rfl
    have c_n := at0 E.r 10 (v := .int .i64 g.n) rfl
    have c_who := at0 E.r 13 (v := .int .i64 g.who) rfl
    have c_own := at0 E.r 15 (v := .bool g.own) rfl
    have c_oa := at0 E.r 6 (v := .int .i64 g.oa) rfl
    have c_snap := at0 E.r 21 (v := .slice g.snap.a g.snap.n g.snap.c) rfl
    have c_plan := at0 E.r 22 (v := .slice g.plan.a g.plan.n g.plan.c) rfl
    have B := E.b
    clear E
    go_enter Tryz.func65, Tryz.ntmps65
    go_wp2_with (fail)
    refine (Gst.within_any _ _ _ _).mono ?_
    rintro e w' ⟨rfl, rfl⟩
    go_wp2_with (fail)
    go_ret
    exact ⟨ret_bool H.out, B⟩
  · obtain ⟨p1, p2⟩ := hc
    have t11 : (g.pc == 11) = false := by simp; omega
    have t12 : (g.pc == 12) = false := by simp; omega
    have t13 : (g.pc == 13) = false := by simp; omega
    have t14 : (g.pc == 14) = false := by simp; omega
    have t16 : (g.pc == 16) = false := by simp; omega
    have t17 : (g.pc == 17) = false := by simp; omega
    have t18 : (g.pc == 18) = false := by simp; omega
    have t19 : (g.pc == 19) = false := by simp; omega
    have t20 : (g.pc == 20) = false := by simp; omega
    have t21 : (g.pc == 21) = true := by simp; omega
    have t22 : (g.pc == 22) = false := by simp; omega
    have t23 : (g.pc == 23) = false := by simp; omega
    have t24 : (g.pc == 24) = false := by simp; omega
    have h2 : decide (g.who ≤ s - 1) = boolOf (Place s p g) := by
      by_cases hq : g.who ≤ s - 1
      · rw [← boolOf_t (show Place s p g from ⟨fun e => by omega, fun e => by omega, fun e => by omega, fun e => by omega, fun e => absurd e (by omega)⟩)]; simp; omega
      · rw [← boolOf_f (fun (h : Place s p g) => by
          obtain ⟨k1, k2, k3, k4, k5⟩ := h
          omega)]; simp; omega
    have H : Hid (decide (g.who ≤ s - 1) = boolOf (Place s p g)) := h2
    clear h2
    have E := El.start w s p g 86 68
    have q1 := E.s
    have q23 := E.d
    have c_pc := at0 E.r 8 (v := .int .i64 g.pc) rfl
    have c_k := at0 E.r 9 (v := .int .i64 g.k) rfl
    have c_n := at0 E.r 10 (v := .int .i64 g.n) rfl
    have c_who := at0 E.r 13 (v := .int .i64 g.who) rfl
    have c_own := at0 E.r 15 (v := .bool g.own) rfl
    have c_oa := at0 E.r 6 (v := .int .i64 g.oa) rfl
    have c_snap := at0 E.r 21 (v := .slice g.snap.a g.snap.n g.snap.c) rfl
    have c_plan := at0 E.r 22 (v := .slice g.plan.a g.plan.n g.plan.c) rfl
    have B := E.b
    clear E
    go_enter Tryz.func65, Tryz.ntmps65
    go_wp2_with (fail)
    refine (Gst.within_any _ _ _ _).mono ?_
    rintro e w' ⟨rfl, rfl⟩
    go_wp2_with (fail)
    go_ret
    exact ⟨ret_bool H.out, B⟩
  · obtain ⟨p1, p2⟩ := hc
    have t11 : (g.pc == 11) = false := by simp; omega
    have t12 : (g.pc == 12) = false := by simp; omega
    have t13 : (g.pc == 13) = false := by simp; omega
    have t14 : (g.pc == 14) = false := by simp; omega
    have t16 : (g.pc == 16) = false := by simp; omega
    have t17 : (g.pc == 17) = false := by simp; omega
    have t18 : (g.pc == 18) = false := by simp; omega
    have t19 : (g.pc == 19) = false := by simp; omega
    have t20 : (g.pc == 20) = false := by simp; omega
    have t21 : (g.pc == 21) = false := by simp; omega
    have t22 : (g.pc == 22) = true := by simp; omega
    have t23 : (g.pc == 23) = false := by simp; omega
    have t24 : (g.pc == 24) = false := by simp; omega
    cases ho : g.own
    · skip
      by_cases d1 : s ≤ g.who
      · skip
        have H : Hid (¬ Place s p g) := fun h => by
          have k5 := h.2.2.2.2 (by omega)
          omega
        have E := El.start w s p g 86 68
        have q1 := E.s
        have q23 := E.d
        have c_pc := at0 E.r 8 (v := .int .i64 g.pc) rfl
        have c_k := at0 E.r 9 (v := .int .i64 g.k) rfl
        have c_n := at0 E.r 10 (v := .int .i64 g.n) rfl
        have c_who := at0 E.r 13 (v := .int .i64 g.who) rfl
        have c_own : ((w.alloc (.cells (ints (layL s p)).toArray 86)).alloc (.cells g.cells.toArray 68)).cell? ⟨w.heap.size + 1, 15, none⟩ = some (.bool false) := by rw [← ho]; exact E.r 15 _ rfl
        have c_oa := at0 E.r 6 (v := .int .i64 g.oa) rfl
        have c_snap := at0 E.r 21 (v := .slice g.snap.a g.snap.n g.snap.c) rfl
        have c_plan := at0 E.r 22 (v := .slice g.plan.a g.plan.n g.plan.c) rfl
        have B := E.b
        clear E
        clear ho
        go_enter Tryz.func65, Tryz.ntmps65
        go_wp2_with (fail)
        refine (Gst.within_any _ _ _ _).mono ?_
        rintro e w' ⟨rfl, rfl⟩
        rw [show (decide (0 ≤ g.who) && decide (g.who ≤ s - 1)) = false from by simp; omega]
        go_wp2_with (fail)
        go_ret
        exact ⟨ret_bool (boolOf_f H.out), B⟩
      by_cases d2 : g.k < 1 ∨ g.n < g.k
      · skip
        have H : Hid (¬ Place s p g) := fun h => by
          have k5 := h.2.2.2.2 (by omega)
          omega
        have E := El.start w s p g 86 68
        have q1 := E.s
        have q23 := E.d
        have c_pc := at0 E.r 8 (v := .int .i64 g.pc) rfl
        have c_k := at0 E.r 9 (v := .int .i64 g.k) rfl
        have c_n := at0 E.r 10 (v := .int .i64 g.n) rfl
        have c_who := at0 E.r 13 (v := .int .i64 g.who) rfl
        have c_own : ((w.alloc (.cells (ints (layL s p)).toArray 86)).alloc (.cells g.cells.toArray 68)).cell? ⟨w.heap.size + 1, 15, none⟩ = some (.bool false) := by rw [← ho]; exact E.r 15 _ rfl
        have c_oa := at0 E.r 6 (v := .int .i64 g.oa) rfl
        have c_snap := at0 E.r 21 (v := .slice g.snap.a g.snap.n g.snap.c) rfl
        have c_plan := at0 E.r 22 (v := .slice g.plan.a g.plan.n g.plan.c) rfl
        have B := E.b
        clear E
        clear ho
        go_enter Tryz.func65, Tryz.ntmps65
        go_wp2_with (fail)
        refine (Gst.within_any _ _ _ _).mono ?_
        rintro e w' ⟨rfl, rfl⟩
        rw [show (decide (0 ≤ g.who) && decide (g.who ≤ s - 1)) = true from by simp; omega]
        go_wp2_with (fail)
        refine (Gst.within_any _ _ _ _).mono ?_
        rintro e w' ⟨rfl, rfl⟩
        rw [show (decide (1 ≤ g.k) && decide (g.k ≤ g.n)) = false from by simp; omega]
        go_wp2_with (fail)
        go_ret
        exact ⟨ret_bool (boolOf_f H.out), B⟩
      have H : Hid (true = boolOf (Place s p g)) := boolOf_t ⟨fun e => by omega, fun e => by omega, fun e => by omega, fun e => by omega, fun e => ⟨by omega, by omega, by omega, .inl ho⟩⟩
      have E := El.start w s p g 86 68
      have q1 := E.s
      have q23 := E.d
      have c_pc := at0 E.r 8 (v := .int .i64 g.pc) rfl
      have c_k := at0 E.r 9 (v := .int .i64 g.k) rfl
      have c_n := at0 E.r 10 (v := .int .i64 g.n) rfl
      have c_who := at0 E.r 13 (v := .int .i64 g.who) rfl
      have c_own : ((w.alloc (.cells (ints (layL s p)).toArray 86)).alloc (.cells g.cells.toArray 68)).cell? ⟨w.heap.size + 1, 15, none⟩ = some (.bool false) := by rw [← ho]; exact E.r 15 _ rfl
      have c_oa := at0 E.r 6 (v := .int .i64 g.oa) rfl
      have c_snap := at0 E.r 21 (v := .slice g.snap.a g.snap.n g.snap.c) rfl
      have c_plan := at0 E.r 22 (v := .slice g.plan.a g.plan.n g.plan.c) rfl
      have B := E.b
      clear E
      clear ho
      go_enter Tryz.func65, Tryz.ntmps65
      go_wp2_with (fail)
      refine (Gst.within_any _ _ _ _).mono ?_
      rintro e w' ⟨rfl, rfl⟩
      rw [show (decide (0 ≤ g.who) && decide (g.who ≤ s - 1)) = true from by simp; omega]
      go_wp2_with (fail)
      refine (Gst.within_any _ _ _ _).mono ?_
      rintro e w' ⟨rfl, rfl⟩
      rw [show (decide (1 ≤ g.k) && decide (g.k ≤ g.n)) = true from by simp; omega]
      go_wp2_with (fail)
      go_ret
      exact ⟨ret_bool H.out, B⟩
    · skip
      by_cases d1 : s ≤ g.who
      · skip
        have H : Hid (¬ Place s p g) := fun h => by
          have k5 := h.2.2.2.2 (by omega)
          omega
        have E := El.start w s p g 86 68
        have q1 := E.s
        have q23 := E.d
        have c_pc := at0 E.r 8 (v := .int .i64 g.pc) rfl
        have c_k := at0 E.r 9 (v := .int .i64 g.k) rfl
        have c_n := at0 E.r 10 (v := .int .i64 g.n) rfl
        have c_who := at0 E.r 13 (v := .int .i64 g.who) rfl
        have c_own : ((w.alloc (.cells (ints (layL s p)).toArray 86)).alloc (.cells g.cells.toArray 68)).cell? ⟨w.heap.size + 1, 15, none⟩ = some (.bool true) := by rw [← ho]; exact E.r 15 _ rfl
        have c_oa := at0 E.r 6 (v := .int .i64 g.oa) rfl
        have c_snap := at0 E.r 21 (v := .slice g.snap.a g.snap.n g.snap.c) rfl
        have c_plan := at0 E.r 22 (v := .slice g.plan.a g.plan.n g.plan.c) rfl
        have B := E.b
        clear E
        clear ho
        go_enter Tryz.func65, Tryz.ntmps65
        go_wp2_with (fail)
        refine (Gst.within_any _ _ _ _).mono ?_
        rintro e w' ⟨rfl, rfl⟩
        rw [show (decide (0 ≤ g.who) && decide (g.who ≤ s - 1)) = false from by simp; omega]
        go_wp2_with (fail)
        go_ret
        exact ⟨ret_bool (boolOf_f H.out), B⟩
      by_cases d2 : g.k < 1 ∨ g.n < g.k
      · skip
        have H : Hid (¬ Place s p g) := fun h => by
          have k5 := h.2.2.2.2 (by omega)
          omega
        have E := El.start w s p g 86 68
        have q1 := E.s
        have q23 := E.d
        have c_pc := at0 E.r 8 (v := .int .i64 g.pc) rfl
        have c_k := at0 E.r 9 (v := .int .i64 g.k) rfl
        have c_n := at0 E.r 10 (v := .int .i64 g.n) rfl
        have c_who := at0 E.r 13 (v := .int .i64 g.who) rfl
        have c_own : ((w.alloc (.cells (ints (layL s p)).toArray 86)).alloc (.cells g.cells.toArray 68)).cell? ⟨w.heap.size + 1, 15, none⟩ = some (.bool true) := by rw [← ho]; exact E.r 15 _ rfl
        have c_oa := at0 E.r 6 (v := .int .i64 g.oa) rfl
        have c_snap := at0 E.r 21 (v := .slice g.snap.a g.snap.n g.snap.c) rfl
        have c_plan := at0 E.r 22 (v := .slice g.plan.a g.plan.n g.plan.c) rfl
        have B := E.b
        clear E
        clear ho
        go_enter Tryz.func65, Tryz.ntmps65
        go_wp2_with (fail)
        refine (Gst.within_any _ _ _ _).mono ?_
        rintro e w' ⟨rfl, rfl⟩
        rw [show (decide (0 ≤ g.who) && decide (g.who ≤ s - 1)) = true from by simp; omega]
        go_wp2_with (fail)
        refine (Gst.within_any _ _ _ _).mono ?_
        rintro e w' ⟨rfl, rfl⟩
        rw [show (decide (1 ≤ g.k) && decide (g.k ≤ g.n)) = false from by simp; omega]
        go_wp2_with (fail)
        go_ret
        exact ⟨ret_bool (boolOf_f H.out), B⟩
      have h2 : (g.n == (g.plan.n : Int)) = boolOf (Place s p g) := by
        by_cases hq : g.n = (g.plan.n : Int)
        · rw [← boolOf_t (show Place s p g from ⟨fun e => by omega, fun e => by omega, fun e => by omega, fun e => by omega, fun e => ⟨by omega, by omega, by omega, .inr hq⟩⟩)]; simp [hq]
        · rw [← boolOf_f (fun (h : Place s p g) => by
            rcases (h.2.2.2.2 (by omega)).2.2.2 with k | k
            · rw [ho] at k; cases k
            · exact hq k)]; simp [hq]
      have H : Hid ((g.n == (g.plan.n : Int)) = boolOf (Place s p g)) := h2
      clear h2
      have E := El.start w s p g 86 68
      have q1 := E.s
      have q23 := E.d
      have c_pc := at0 E.r 8 (v := .int .i64 g.pc) rfl
      have c_k := at0 E.r 9 (v := .int .i64 g.k) rfl
      have c_n := at0 E.r 10 (v := .int .i64 g.n) rfl
      have c_who := at0 E.r 13 (v := .int .i64 g.who) rfl
      have c_own : ((w.alloc (.cells (ints (layL s p)).toArray 86)).alloc (.cells g.cells.toArray 68)).cell? ⟨w.heap.size + 1, 15, none⟩ = some (.bool true) := by rw [← ho]; exact E.r 15 _ rfl
      have c_oa := at0 E.r 6 (v := .int .i64 g.oa) rfl
      have c_snap := at0 E.r 21 (v := .slice g.snap.a g.snap.n g.snap.c) rfl
      have c_plan := at0 E.r 22 (v := .slice g.plan.a g.plan.n g.plan.c) rfl
      have B := E.b
      clear E
      clear ho
      go_enter Tryz.func65, Tryz.ntmps65
      go_wp2_with (fail)
      refine (Gst.within_any _ _ _ _).mono ?_
      rintro e w' ⟨rfl, rfl⟩
      rw [show (decide (0 ≤ g.who) && decide (g.who ≤ s - 1)) = true from by simp; omega]
      go_wp2_with (fail)
      refine (Gst.within_any _ _ _ _).mono ?_
      rintro e w' ⟨rfl, rfl⟩
      rw [show (decide (1 ≤ g.k) && decide (g.k ≤ g.n)) = true from by simp; omega]
      go_wp2_with (fail)
      go_ret
      exact ⟨ret_bool H.out, B⟩
  · obtain ⟨p1, p2⟩ := hc
    have t11 : (g.pc == 11) = false := by simp; omega
    have t12 : (g.pc == 12) = false := by simp; omega
    have t13 : (g.pc == 13) = false := by simp; omega
    have t14 : (g.pc == 14) = false := by simp; omega
    have t16 : (g.pc == 16) = false := by simp; omega
    have t17 : (g.pc == 17) = false := by simp; omega
    have t18 : (g.pc == 18) = false := by simp; omega
    have t19 : (g.pc == 19) = false := by simp; omega
    have t20 : (g.pc == 20) = false := by simp; omega
    have t21 : (g.pc == 21) = false := by simp; omega
    have t22 : (g.pc == 22) = false := by simp; omega
    have t23 : (g.pc == 23) = true := by simp; omega
    have t24 : (g.pc == 24) = false := by simp; omega
    cases ho : g.own
    · skip
      by_cases d1 : s ≤ g.who
      · skip
        have H : Hid (¬ Place s p g) := fun h => by
          have k5 := h.2.2.2.2 (by omega)
          omega
        have E := El.start w s p g 86 68
        have q1 := E.s
        have q23 := E.d
        have c_pc := at0 E.r 8 (v := .int .i64 g.pc) rfl
        have c_k := at0 E.r 9 (v := .int .i64 g.k) rfl
        have c_n := at0 E.r 10 (v := .int .i64 g.n) rfl
        have c_who := at0 E.r 13 (v := .int .i64 g.who) rfl
        have c_own : ((w.alloc (.cells (ints (layL s p)).toArray 86)).alloc (.cells g.cells.toArray 68)).cell? ⟨w.heap.size + 1, 15, none⟩ = some (.bool false) := by rw [← ho]; exact E.r 15 _ rfl
        have c_oa := at0 E.r 6 (v := .int .i64 g.oa) rfl
        have c_snap := at0 E.r 21 (v := .slice g.snap.a g.snap.n g.snap.c) rfl
        have c_plan := at0 E.r 22 (v := .slice g.plan.a g.plan.n g.plan.c) rfl
        have B := E.b
        clear E
        clear ho
        go_enter Tryz.func65, Tryz.ntmps65
        go_wp2_with (fail)
        refine (Gst.within_any _ _ _ _).mono ?_
        rintro e w' ⟨rfl, rfl⟩
        rw [show (decide (0 ≤ g.who) && decide (g.who ≤ s - 1)) = false from by simp; omega]
        go_wp2_with (fail)
        go_ret
        exact ⟨ret_bool (boolOf_f H.out), B⟩
      by_cases d2 : g.k < 1 ∨ g.n < g.k
      · skip
        have H : Hid (¬ Place s p g) := fun h => by
          have k5 := h.2.2.2.2 (by omega)
          omega
        have E := El.start w s p g 86 68
        have q1 := E.s
        have q23 := E.d
        have c_pc := at0 E.r 8 (v := .int .i64 g.pc) rfl
        have c_k := at0 E.r 9 (v := .int .i64 g.k) rfl
        have c_n := at0 E.r 10 (v := .int .i64 g.n) rfl
        have c_who := at0 E.r 13 (v := .int .i64 g.who) rfl
        have c_own : ((w.alloc (.cells (ints (layL s p)).toArray 86)).alloc (.cells g.cells.toArray 68)).cell? ⟨w.heap.size + 1, 15, none⟩ = some (.bool false) := by rw [← ho]; exact E.r 15 _ rfl
        have c_oa := at0 E.r 6 (v := .int .i64 g.oa) rfl
        have c_snap := at0 E.r 21 (v := .slice g.snap.a g.snap.n g.snap.c) rfl
        have c_plan := at0 E.r 22 (v := .slice g.plan.a g.plan.n g.plan.c) rfl
        have B := E.b
        clear E
        clear ho
        go_enter Tryz.func65, Tryz.ntmps65
        go_wp2_with (fail)
        refine (Gst.within_any _ _ _ _).mono ?_
        rintro e w' ⟨rfl, rfl⟩
        rw [show (decide (0 ≤ g.who) && decide (g.who ≤ s - 1)) = true from by simp; omega]
        go_wp2_with (fail)
        refine (Gst.within_any _ _ _ _).mono ?_
        rintro e w' ⟨rfl, rfl⟩
        rw [show (decide (1 ≤ g.k) && decide (g.k ≤ g.n)) = false from by simp; omega]
        go_wp2_with (fail)
        go_ret
        exact ⟨ret_bool (boolOf_f H.out), B⟩
      have H : Hid (true = boolOf (Place s p g)) := boolOf_t ⟨fun e => by omega, fun e => by omega, fun e => by omega, fun e => by omega, fun e => ⟨by omega, by omega, by omega, .inl ho⟩⟩
      have E := El.start w s p g 86 68
      have q1 := E.s
      have q23 := E.d
      have c_pc := at0 E.r 8 (v := .int .i64 g.pc) rfl
      have c_k := at0 E.r 9 (v := .int .i64 g.k) rfl
      have c_n := at0 E.r 10 (v := .int .i64 g.n) rfl
      have c_who := at0 E.r 13 (v := .int .i64 g.who) rfl
      have c_own : ((w.alloc (.cells (ints (layL s p)).toArray 86)).alloc (.cells g.cells.toArray 68)).cell? ⟨w.heap.size + 1, 15, none⟩ = some (.bool false) := by rw [← ho]; exact E.r 15 _ rfl
      have c_oa := at0 E.r 6 (v := .int .i64 g.oa) rfl
      have c_snap := at0 E.r 21 (v := .slice g.snap.a g.snap.n g.snap.c) rfl
      have c_plan := at0 E.r 22 (v := .slice g.plan.a g.plan.n g.plan.c) rfl
      have B := E.b
      clear E
      clear ho
      go_enter Tryz.func65, Tryz.ntmps65
      go_wp2_with (fail)
      refine (Gst.within_any _ _ _ _).mono ?_
      rintro e w' ⟨rfl, rfl⟩
      rw [show (decide (0 ≤ g.who) && decide (g.who ≤ s - 1)) = true from by simp; omega]
      go_wp2_with (fail)
      refine (Gst.within_any _ _ _ _).mono ?_
      rintro e w' ⟨rfl, rfl⟩
      rw [show (decide (1 ≤ g.k) && decide (g.k ≤ g.n)) = true from by simp; omega]
      go_wp2_with (fail)
      go_ret
      exact ⟨ret_bool H.out, B⟩
    · skip
      by_cases d1 : s ≤ g.who
      · skip
        have H : Hid (¬ Place s p g) := fun h => by
          have k5 := h.2.2.2.2 (by omega)
          omega
        have E := El.start w s p g 86 68
        have q1 := E.s
        have q23 := E.d
        have c_pc := at0 E.r 8 (v := .int .i64 g.pc) rfl
        have c_k := at0 E.r 9 (v := .int .i64 g.k) rfl
        have c_n := at0 E.r 10 (v := .int .i64 g.n) rfl
        have c_who := at0 E.r 13 (v := .int .i64 g.who) rfl
        have c_own : ((w.alloc (.cells (ints (layL s p)).toArray 86)).alloc (.cells g.cells.toArray 68)).cell? ⟨w.heap.size + 1, 15, none⟩ = some (.bool true) := by rw [← ho]; exact E.r 15 _ rfl
        have c_oa := at0 E.r 6 (v := .int .i64 g.oa) rfl
        have c_snap := at0 E.r 21 (v := .slice g.snap.a g.snap.n g.snap.c) rfl
        have c_plan := at0 E.r 22 (v := .slice g.plan.a g.plan.n g.plan.c) rfl
        have B := E.b
        clear E
        clear ho
        go_enter Tryz.func65, Tryz.ntmps65
        go_wp2_with (fail)
        refine (Gst.within_any _ _ _ _).mono ?_
        rintro e w' ⟨rfl, rfl⟩
        rw [show (decide (0 ≤ g.who) && decide (g.who ≤ s - 1)) = false from by simp; omega]
        go_wp2_with (fail)
        go_ret
        exact ⟨ret_bool (boolOf_f H.out), B⟩
      by_cases d2 : g.k < 1 ∨ g.n < g.k
      · skip
        have H : Hid (¬ Place s p g) := fun h => by
          have k5 := h.2.2.2.2 (by omega)
          omega
        have E := El.start w s p g 86 68
        have q1 := E.s
        have q23 := E.d
        have c_pc := at0 E.r 8 (v := .int .i64 g.pc) rfl
        have c_k := at0 E.r 9 (v := .int .i64 g.k) rfl
        have c_n := at0 E.r 10 (v := .int .i64 g.n) rfl
        have c_who := at0 E.r 13 (v := .int .i64 g.who) rfl
        have c_own : ((w.alloc (.cells (ints (layL s p)).toArray 86)).alloc (.cells g.cells.toArray 68)).cell? ⟨w.heap.size + 1, 15, none⟩ = some (.bool true) := by rw [← ho]; exact E.r 15 _ rfl
        have c_oa := at0 E.r 6 (v := .int .i64 g.oa) rfl
        have c_snap := at0 E.r 21 (v := .slice g.snap.a g.snap.n g.snap.c) rfl
        have c_plan := at0 E.r 22 (v := .slice g.plan.a g.plan.n g.plan.c) rfl
        have B := E.b
        clear E
        clear ho
        go_enter Tryz.func65, Tryz.ntmps65
        go_wp2_with (fail)
        refine (Gst.within_any _ _ _ _).mono ?_
        rintro e w' ⟨rfl, rfl⟩
        rw [show (decide (0 ≤ g.who) && decide (g.who ≤ s - 1)) = true from by simp; omega]
        go_wp2_with (fail)
        refine (Gst.within_any _ _ _ _).mono ?_
        rintro e w' ⟨rfl, rfl⟩
        rw [show (decide (1 ≤ g.k) && decide (g.k ≤ g.n)) = false from by simp; omega]
        go_wp2_with (fail)
        go_ret
        exact ⟨ret_bool (boolOf_f H.out), B⟩
      have h2 : (g.n == (g.plan.n : Int)) = boolOf (Place s p g) := by
        by_cases hq : g.n = (g.plan.n : Int)
        · rw [← boolOf_t (show Place s p g from ⟨fun e => by omega, fun e => by omega, fun e => by omega, fun e => by omega, fun e => ⟨by omega, by omega, by omega, .inr hq⟩⟩)]; simp [hq]
        · rw [← boolOf_f (fun (h : Place s p g) => by
            rcases (h.2.2.2.2 (by omega)).2.2.2 with k | k
            · rw [ho] at k; cases k
            · exact hq k)]; simp [hq]
      have H : Hid ((g.n == (g.plan.n : Int)) = boolOf (Place s p g)) := h2
      clear h2
      have E := El.start w s p g 86 68
      have q1 := E.s
      have q23 := E.d
      have c_pc := at0 E.r 8 (v := .int .i64 g.pc) rfl
      have c_k := at0 E.r 9 (v := .int .i64 g.k) rfl
      have c_n := at0 E.r 10 (v := .int .i64 g.n) rfl
      have c_who := at0 E.r 13 (v := .int .i64 g.who) rfl
      have c_own : ((w.alloc (.cells (ints (layL s p)).toArray 86)).alloc (.cells g.cells.toArray 68)).cell? ⟨w.heap.size + 1, 15, none⟩ = some (.bool true) := by rw [← ho]; exact E.r 15 _ rfl
      have c_oa := at0 E.r 6 (v := .int .i64 g.oa) rfl
      have c_snap := at0 E.r 21 (v := .slice g.snap.a g.snap.n g.snap.c) rfl
      have c_plan := at0 E.r 22 (v := .slice g.plan.a g.plan.n g.plan.c) rfl
      have B := E.b
      clear E
      clear ho
      go_enter Tryz.func65, Tryz.ntmps65
      go_wp2_with (fail)
      refine (Gst.within_any _ _ _ _).mono ?_
      rintro e w' ⟨rfl, rfl⟩
      rw [show (decide (0 ≤ g.who) && decide (g.who ≤ s - 1)) = true from by simp; omega]
      go_wp2_with (fail)
      refine (Gst.within_any _ _ _ _).mono ?_
      rintro e w' ⟨rfl, rfl⟩
      rw [show (decide (1 ≤ g.k) && decide (g.k ≤ g.n)) = true from by simp; omega]
      go_wp2_with (fail)
      go_ret
      exact ⟨ret_bool H.out, B⟩
  · obtain ⟨p1, p2⟩ := hc
    have t11 : (g.pc == 11) = false := by simp; omega
    have t12 : (g.pc == 12) = false := by simp; omega
    have t13 : (g.pc == 13) = false := by simp; omega
    have t14 : (g.pc == 14) = false := by simp; omega
    have t16 : (g.pc == 16) = false := by simp; omega
    have t17 : (g.pc == 17) = false := by simp; omega
    have t18 : (g.pc == 18) = false := by simp; omega
    have t19 : (g.pc == 19) = false := by simp; omega
    have t20 : (g.pc == 20) = false := by simp; omega
    have t21 : (g.pc == 21) = false := by simp; omega
    have t22 : (g.pc == 22) = false := by simp; omega
    have t23 : (g.pc == 23) = false := by simp; omega
    have t24 : (g.pc == 24) = true := by simp; omega
    cases ho : g.own
    · skip
      by_cases d1 : s ≤ g.who
      · skip
        have H : Hid (¬ Place s p g) := fun h => by
          have k5 := h.2.2.2.2 (by omega)
          omega
        have E := El.start w s p g 86 68
        have q1 := E.s
        have q23 := E.d
        have c_pc := at0 E.r 8 (v := .int .i64 g.pc) rfl
        have c_k := at0 E.r 9 (v := .int .i64 g.k) rfl
        have c_n := at0 E.r 10 (v := .int .i64 g.n) rfl
        have c_who := at0 E.r 13 (v := .int .i64 g.who) rfl
        have c_own : ((w.alloc (.cells (ints (layL s p)).toArray 86)).alloc (.cells g.cells.toArray 68)).cell? ⟨w.heap.size + 1, 15, none⟩ = some (.bool false) := by rw [← ho]; exact E.r 15 _ rfl
        have c_oa := at0 E.r 6 (v := .int .i64 g.oa) rfl
        have c_snap := at0 E.r 21 (v := .slice g.snap.a g.snap.n g.snap.c) rfl
        have c_plan := at0 E.r 22 (v := .slice g.plan.a g.plan.n g.plan.c) rfl
        have B := E.b
        clear E
        clear ho
        go_enter Tryz.func65, Tryz.ntmps65
        go_wp2_with (fail)
        refine (Gst.within_any _ _ _ _).mono ?_
        rintro e w' ⟨rfl, rfl⟩
        rw [show (decide (0 ≤ g.who) && decide (g.who ≤ s - 1)) = false from by simp; omega]
        go_wp2_with (fail)
        go_ret
        exact ⟨ret_bool (boolOf_f H.out), B⟩
      by_cases d2 : g.k < 1 ∨ g.n < g.k
      · skip
        have H : Hid (¬ Place s p g) := fun h => by
          have k5 := h.2.2.2.2 (by omega)
          omega
        have E := El.start w s p g 86 68
        have q1 := E.s
        have q23 := E.d
        have c_pc := at0 E.r 8 (v := .int .i64 g.pc) rfl
        have c_k := at0 E.r 9 (v := .int .i64 g.k) rfl
        have c_n := at0 E.r 10 (v := .int .i64 g.n) rfl
        have c_who := at0 E.r 13 (v := .int .i64 g.who) rfl
        have c_own : ((w.alloc (.cells (ints (layL s p)).toArray 86)).alloc (.cells g.cells.toArray 68)).cell? ⟨w.heap.size + 1, 15, none⟩ = some (.bool false) := by rw [← ho]; exact E.r 15 _ rfl
        have c_oa := at0 E.r 6 (v := .int .i64 g.oa) rfl
        have c_snap := at0 E.r 21 (v := .slice g.snap.a g.snap.n g.snap.c) rfl
        have c_plan := at0 E.r 22 (v := .slice g.plan.a g.plan.n g.plan.c) rfl
        have B := E.b
        clear E
        clear ho
        go_enter Tryz.func65, Tryz.ntmps65
        go_wp2_with (fail)
        refine (Gst.within_any _ _ _ _).mono ?_
        rintro e w' ⟨rfl, rfl⟩
        rw [show (decide (0 ≤ g.who) && decide (g.who ≤ s - 1)) = true from by simp; omega]
        go_wp2_with (fail)
        refine (Gst.within_any _ _ _ _).mono ?_
        rintro e w' ⟨rfl, rfl⟩
        rw [show (decide (1 ≤ g.k) && decide (g.k ≤ g.n)) = false from by simp; omega]
        go_wp2_with (fail)
        go_ret
        exact ⟨ret_bool (boolOf_f H.out), B⟩
      have H : Hid (true = boolOf (Place s p g)) := boolOf_t ⟨fun e => by omega, fun e => by omega, fun e => by omega, fun e => by omega, fun e => ⟨by omega, by omega, by omega, .inl ho⟩⟩
      have E := El.start w s p g 86 68
      have q1 := E.s
      have q23 := E.d
      have c_pc := at0 E.r 8 (v := .int .i64 g.pc) rfl
      have c_k := at0 E.r 9 (v := .int .i64 g.k) rfl
      have c_n := at0 E.r 10 (v := .int .i64 g.n) rfl
      have c_who := at0 E.r 13 (v := .int .i64 g.who) rfl
      have c_own : ((w.alloc (.cells (ints (layL s p)).toArray 86)).alloc (.cells g.cells.toArray 68)).cell? ⟨w.heap.size + 1, 15, none⟩ = some (.bool false) := by rw [← ho]; exact E.r 15 _ rfl
      have c_oa := at0 E.r 6 (v := .int .i64 g.oa) rfl
      have c_snap := at0 E.r 21 (v := .slice g.snap.a g.snap.n g.snap.c) rfl
      have c_plan := at0 E.r 22 (v := .slice g.plan.a g.plan.n g.plan.c) rfl
      have B := E.b
      clear E
      clear ho
      go_enter Tryz.func65, Tryz.ntmps65
      go_wp2_with (fail)
      refine (Gst.within_any _ _ _ _).mono ?_
      rintro e w' ⟨rfl, rfl⟩
      rw [show (decide (0 ≤ g.who) && decide (g.who ≤ s - 1)) = true from by simp; omega]
      go_wp2_with (fail)
      refine (Gst.within_any _ _ _ _).mono ?_
      rintro e w' ⟨rfl, rfl⟩
      rw [show (decide (1 ≤ g.k) && decide (g.k ≤ g.n)) = true from by simp; omega]
      go_wp2_with (fail)
      go_ret
      exact ⟨ret_bool H.out, B⟩
    · skip
      by_cases d1 : s ≤ g.who
      · skip
        have H : Hid (¬ Place s p g) := fun h => by
          have k5 := h.2.2.2.2 (by omega)
          omega
        have E := El.start w s p g 86 68
        have q1 := E.s
        have q23 := E.d
        have c_pc := at0 E.r 8 (v := .int .i64 g.pc) rfl
        have c_k := at0 E.r 9 (v := .int .i64 g.k) rfl
        have c_n := at0 E.r 10 (v := .int .i64 g.n) rfl
        have c_who := at0 E.r 13 (v := .int .i64 g.who) rfl
        have c_own : ((w.alloc (.cells (ints (layL s p)).toArray 86)).alloc (.cells g.cells.toArray 68)).cell? ⟨w.heap.size + 1, 15, none⟩ = some (.bool true) := by rw [← ho]; exact E.r 15 _ rfl
        have c_oa := at0 E.r 6 (v := .int .i64 g.oa) rfl
        have c_snap := at0 E.r 21 (v := .slice g.snap.a g.snap.n g.snap.c) rfl
        have c_plan := at0 E.r 22 (v := .slice g.plan.a g.plan.n g.plan.c) rfl
        have B := E.b
        clear E
        clear ho
        go_enter Tryz.func65, Tryz.ntmps65
        go_wp2_with (fail)
        refine (Gst.within_any _ _ _ _).mono ?_
        rintro e w' ⟨rfl, rfl⟩
        rw [show (decide (0 ≤ g.who) && decide (g.who ≤ s - 1)) = false from by simp; omega]
        go_wp2_with (fail)
        go_ret
        exact ⟨ret_bool (boolOf_f H.out), B⟩
      by_cases d2 : g.k < 1 ∨ g.n < g.k
      · skip
        have H : Hid (¬ Place s p g) := fun h => by
          have k5 := h.2.2.2.2 (by omega)
          omega
        have E := El.start w s p g 86 68
        have q1 := E.s
        have q23 := E.d
        have c_pc := at0 E.r 8 (v := .int .i64 g.pc) rfl
        have c_k := at0 E.r 9 (v := .int .i64 g.k) rfl
        have c_n := at0 E.r 10 (v := .int .i64 g.n) rfl
        have c_who := at0 E.r 13 (v := .int .i64 g.who) rfl
        have c_own : ((w.alloc (.cells (ints (layL s p)).toArray 86)).alloc (.cells g.cells.toArray 68)).cell? ⟨w.heap.size + 1, 15, none⟩ = some (.bool true) := by rw [← ho]; exact E.r 15 _ rfl
        have c_oa := at0 E.r 6 (v := .int .i64 g.oa) rfl
        have c_snap := at0 E.r 21 (v := .slice g.snap.a g.snap.n g.snap.c) rfl
        have c_plan := at0 E.r 22 (v := .slice g.plan.a g.plan.n g.plan.c) rfl
        have B := E.b
        clear E
        clear ho
        go_enter Tryz.func65, Tryz.ntmps65
        go_wp2_with (fail)
        refine (Gst.within_any _ _ _ _).mono ?_
        rintro e w' ⟨rfl, rfl⟩
        rw [show (decide (0 ≤ g.who) && decide (g.who ≤ s - 1)) = true from by simp; omega]
        go_wp2_with (fail)
        refine (Gst.within_any _ _ _ _).mono ?_
        rintro e w' ⟨rfl, rfl⟩
        rw [show (decide (1 ≤ g.k) && decide (g.k ≤ g.n)) = false from by simp; omega]
        go_wp2_with (fail)
        go_ret
        exact ⟨ret_bool (boolOf_f H.out), B⟩
      have h2 : (g.n == (g.plan.n : Int)) = boolOf (Place s p g) := by
        by_cases hq : g.n = (g.plan.n : Int)
        · rw [← boolOf_t (show Place s p g from ⟨fun e => by omega, fun e => by omega, fun e => by omega, fun e => by omega, fun e => ⟨by omega, by omega, by omega, .inr hq⟩⟩)]; simp [hq]
        · rw [← boolOf_f (fun (h : Place s p g) => by
            rcases (h.2.2.2.2 (by omega)).2.2.2 with k | k
            · rw [ho] at k; cases k
            · exact hq k)]; simp [hq]
      have H : Hid ((g.n == (g.plan.n : Int)) = boolOf (Place s p g)) := h2
      clear h2
      have E := El.start w s p g 86 68
      have q1 := E.s
      have q23 := E.d
      have c_pc := at0 E.r 8 (v := .int .i64 g.pc) rfl
      have c_k := at0 E.r 9 (v := .int .i64 g.k) rfl
      have c_n := at0 E.r 10 (v := .int .i64 g.n) rfl
      have c_who := at0 E.r 13 (v := .int .i64 g.who) rfl
      have c_own : ((w.alloc (.cells (ints (layL s p)).toArray 86)).alloc (.cells g.cells.toArray 68)).cell? ⟨w.heap.size + 1, 15, none⟩ = some (.bool true) := by rw [← ho]; exact E.r 15 _ rfl
      have c_oa := at0 E.r 6 (v := .int .i64 g.oa) rfl
      have c_snap := at0 E.r 21 (v := .slice g.snap.a g.snap.n g.snap.c) rfl
      have c_plan := at0 E.r 22 (v := .slice g.plan.a g.plan.n g.plan.c) rfl
      have B := E.b
      clear E
      clear ho
      go_enter Tryz.func65, Tryz.ntmps65
      go_wp2_with (fail)
      refine (Gst.within_any _ _ _ _).mono ?_
      rintro e w' ⟨rfl, rfl⟩
      rw [show (decide (0 ≤ g.who) && decide (g.who ≤ s - 1)) = true from by simp; omega]
      go_wp2_with (fail)
      refine (Gst.within_any _ _ _ _).mono ?_
      rintro e w' ⟨rfl, rfl⟩
      rw [show (decide (1 ≤ g.k) && decide (g.k ≤ g.n)) = true from by simp; omega]
      go_wp2_with (fail)
      go_ret
      exact ⟨ret_bool H.out, B⟩
  · have p1 := hc
    have t11 : (g.pc == 11) = false := by simp; omega
    have t12 : (g.pc == 12) = false := by simp; omega
    have t13 : (g.pc == 13) = false := by simp; omega
    have t14 : (g.pc == 14) = false := by simp; omega
    have t16 : (g.pc == 16) = false := by simp; omega
    have t17 : (g.pc == 17) = false := by simp; omega
    have t18 : (g.pc == 18) = false := by simp; omega
    have t19 : (g.pc == 19) = false := by simp; omega
    have t20 : (g.pc == 20) = false := by simp; omega
    have t21 : (g.pc == 21) = false := by simp; omega
    have t22 : (g.pc == 22) = false := by simp; omega
    have t23 : (g.pc == 23) = false := by simp; omega
    have t24 : (g.pc == 24) = false := by simp; omega
    have H : Hid (Place s p g) := ⟨fun e => by omega, fun e => by omega, fun e => by omega, fun e => by omega, fun e => absurd e (by omega)⟩
    have E := El.start w s p g 86 68
    have q1 := E.s
    have q23 := E.d
    have c_pc := at0 E.r 8 (v := .int .i64 g.pc) rfl
    have c_k := at0 E.r 9 (v := .int .i64 g.k) rfl
    have c_n := at0 E.r 10 (v := .int .i64 g.n) rfl
    have c_who := at0 E.r 13 (v := .int .i64 g.who) rfl
    have c_own := at0 E.r 15 (v := .bool g.own) rfl
    have c_oa := at0 E.r 6 (v := .int .i64 g.oa) rfl
    have c_snap := at0 E.r 21 (v := .slice g.snap.a g.snap.n g.snap.c) rfl
    have c_plan := at0 E.r 22 (v := .slice g.plan.a g.plan.n g.plan.c) rfl
    have B := E.b
    clear E
    go_enter Tryz.func65, Tryz.ntmps65
    go_wp2_with (fail)
    go_ret
    exact ⟨ret_bool (boolOf_t H.out), B⟩
  · obtain ⟨p1, p2⟩ := hc
    have t11 : (g.pc == 11) = false := by simp; omega
    have t12 : (g.pc == 12) = false := by simp; omega
    have t13 : (g.pc == 13) = false := by simp; omega
    have t14 : (g.pc == 14) = false := by simp; omega
    have t16 : (g.pc == 16) = false := by simp; omega
    have t17 : (g.pc == 17) = false := by simp; omega
    have t18 : (g.pc == 18) = false := by simp; omega
    have t19 : (g.pc == 19) = false := by simp; omega
    have t20 : (g.pc == 20) = false := by simp; omega
    have t21 : (g.pc == 21) = false := by simp; omega
    have t22 : (g.pc == 22) = false := by simp; omega
    have t23 : (g.pc == 23) = false := by simp; omega
    have t24 : (g.pc == 24) = false := by simp; omega
    have H : Hid (Place s p g) := ⟨fun e => by omega, fun e => by omega, fun e => by omega, fun e => by omega, fun e => absurd e (by omega)⟩
    have E := El.start w s p g 86 68
    have q1 := E.s
    have q23 := E.d
    have c_pc := at0 E.r 8 (v := .int .i64 g.pc) rfl
    have c_k := at0 E.r 9 (v := .int .i64 g.k) rfl
    have c_n := at0 E.r 10 (v := .int .i64 g.n) rfl
    have c_who := at0 E.r 13 (v := .int .i64 g.who) rfl
    have c_own := at0 E.r 15 (v := .bool g.own) rfl
    have c_oa := at0 E.r 6 (v := .int .i64 g.oa) rfl
    have c_snap := at0 E.r 21 (v := .slice g.snap.a g.snap.n g.snap.c) rfl
    have c_plan := at0 E.r 22 (v := .slice g.plan.a g.plan.n g.plan.c) rfl
    have B := E.b
    clear E
    go_enter Tryz.func65, Tryz.ntmps65
    go_wp2_with (fail)
    go_ret
    exact ⟨ret_bool (boolOf_t H.out), B⟩
  · have p1 := hc
    have t11 : (g.pc == 11) = false := by simp; omega
    have t12 : (g.pc == 12) = false := by simp; omega
    have t13 : (g.pc == 13) = false := by simp; omega
    have t14 : (g.pc == 14) = false := by simp; omega
    have t16 : (g.pc == 16) = false := by simp; omega
    have t17 : (g.pc == 17) = false := by simp; omega
    have t18 : (g.pc == 18) = false := by simp; omega
    have t19 : (g.pc == 19) = false := by simp; omega
    have t20 : (g.pc == 20) = false := by simp; omega
    have t21 : (g.pc == 21) = false := by simp; omega
    have t22 : (g.pc == 22) = false := by simp; omega
    have t23 : (g.pc == 23) = false := by simp; omega
    have t24 : (g.pc == 24) = false := by simp; omega
    have H : Hid (Place s p g) := ⟨fun e => by omega, fun e => by omega, fun e => by omega, fun e => by omega, fun e => absurd e (by omega)⟩
    have E := El.start w s p g 86 68
    have q1 := E.s
    have q23 := E.d
    have c_pc := at0 E.r 8 (v := .int .i64 g.pc) rfl
    have c_k := at0 E.r 9 (v := .int .i64 g.k) rfl
    have c_n := at0 E.r 10 (v := .int .i64 g.n) rfl
    have c_who := at0 E.r 13 (v := .int .i64 g.who) rfl
    have c_own := at0 E.r 15 (v := .bool g.own) rfl
    have c_oa := at0 E.r 6 (v := .int .i64 g.oa) rfl
    have c_snap := at0 E.r 21 (v := .slice g.snap.a g.snap.n g.snap.c) rfl
    have c_plan := at0 E.r 22 (v := .slice g.plan.a g.plan.n g.plan.c) rfl
    have B := E.b
    clear E
    go_enter Tryz.func65, Tryz.ntmps65
    go_wp2_with (fail)
    go_ret
    exact ⟨ret_bool (boolOf_t H.out), B⟩

end Go.Proofs.YtgfbfgiohmdjmaaGreat.Gs

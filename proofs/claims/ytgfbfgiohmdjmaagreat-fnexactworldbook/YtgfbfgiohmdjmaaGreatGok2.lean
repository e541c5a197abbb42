/- What a guest has where it stands, as the specification tests it. Conditions: none. -/
import Derived.Test.YtgfbfgiohmdjmaaGreatGokD
namespace Go.Proofs.YtgfbfgiohmdjmaaGreat.Gs
open Go.ChangeShapes Go.WideShapes Go.ChangeAt Go.RowKit
open Aid Lst Plat
open Book (Sx takeB)
set_option maxRecDepth 100000
set_option linter.unusedVariables false

set_option maxHeartbeats 16000000 in
theorem splace_any (s p l : Int) (g : Gx) (w : World) (hok : 1 ≤ s ∧ s ≤ 4 ∧ 1 ≤ p ∧ p ≤ 6 ∧ 1 ≤ l ∧ l ≤ 20) :
    Calls Tryz.prog 47 #[.agg #[.int .i64 s, .int .i64 p, .int .i64 l], .agg g.cells.toArray] w fun e w' => e = .returned (.bool (boolOf (Place s p g))) ∧ Below w.heap.size w w' := by
  by_cases hlast : 22 ≤ g.pc ∧ g.pc ≤ 24 ∧ 1 ≤ g.k ∧ g.k ≤ g.n ∧ g.who < s
  · obtain ⟨p1, p2, p3, p4, p5⟩ := hlast
    have t11 : (g.pc == 11) = false := by simp; omega
    have t12 : (g.pc == 12) = false := by simp; omega
    have t13 : (g.pc == 13) = false := by simp; omega
    have t14 : (g.pc == 14) = false := by simp; omega
    cases ho : g.own
    · have H : Hid (Place s p g) := ⟨fun e => by omega, fun e => by omega, fun e => by omega, fun e => by omega, fun e => ⟨by omega, by omega, by omega, .inl ho⟩⟩
      have E := Eg.start w s p l g 62 68
      have q0 := at0 E.c 0 (v := .int .i64 s) rfl
      have q1 := at0 E.c 1 (v := .int .i64 p) rfl
      have q2 := at0 E.c 2 (v := .int .i64 l) rfl
      have c_pc := at0 E.r 8 (v := .int .i64 g.pc) rfl
      have c_k := at0 E.r 9 (v := .int .i64 g.k) rfl
      have c_n := at0 E.r 10 (v := .int .i64 g.n) rfl
      have c_who := at0 E.r 13 (v := .int .i64 g.who) rfl
      have c_own : ((w.alloc (.cells #[.int .i64 s, .int .i64 p, .int .i64 l] 62)).alloc (.cells g.cells.toArray 68)).cell? ⟨w.heap.size + 1, 15, none⟩ = some (.bool false) := by rw [← ho]; exact E.r 15 _ rfl
      have c_oa := at0 E.r 6 (v := .int .i64 g.oa) rfl
      have c_snap := at0 E.r 21 (v := .slice g.snap.a g.snap.n g.snap.c) rfl
      have c_plan := at0 E.r 22 (v := .slice g.plan.a g.plan.n g.plan.c) rfl
      have B := E.b
      clear E ho
      go_enter Tryz.func47, Tryz.ntmps47
      go_wp2_with (fail)
      go_ret
      exact ⟨ret_bool (boolOf_t H.out), B⟩
    · have h2 : (g.n == (g.plan.n : Int)) = boolOf (Place s p g) := by
        by_cases hq : g.n = (g.plan.n : Int)
        · rw [← boolOf_t (show Place s p g from ⟨fun e => by omega, fun e => by omega, fun e => by omega, fun e => by omega, fun e => ⟨by omega, by omega, by omega, .inr hq⟩⟩)]; simp [hq]
        · rw [← boolOf_f (fun (h : Place s p g) => by
            rcases (h.2.2.2.2 ⟨p1, p2⟩).2.2.2 with k | k
            · rw [ho] at k; cases k
            · exact hq k)]; simp [hq]
      have H : Hid ((g.n == (g.plan.n : Int)) = boolOf (Place s p g)) := h2
      clear h2
      have E := Eg.start w s p l g 62 68
      have q0 := at0 E.c 0 (v := .int .i64 s) rfl
      have q1 := at0 E.c 1 (v := .int .i64 p) rfl
      have q2 := at0 E.c 2 (v := .int .i64 l) rfl
      have c_pc := at0 E.r 8 (v := .int .i64 g.pc) rfl
      have c_k := at0 E.r 9 (v := .int .i64 g.k) rfl
      have c_n := at0 E.r 10 (v := .int .i64 g.n) rfl
      have c_who := at0 E.r 13 (v := .int .i64 g.who) rfl
      have c_own : ((w.alloc (.cells #[.int .i64 s, .int .i64 p, .int .i64 l] 62)).alloc (.cells g.cells.toArray 68)).cell? ⟨w.heap.size + 1, 15, none⟩ = some (.bool true) := by rw [← ho]; exact E.r 15 _ rfl
      have c_oa := at0 E.r 6 (v := .int .i64 g.oa) rfl
      have c_snap := at0 E.r 21 (v := .slice g.snap.a g.snap.n g.snap.c) rfl
      have c_plan := at0 E.r 22 (v := .slice g.plan.a g.plan.n g.plan.c) rfl
      have B := E.b
      clear E ho
      go_enter Tryz.func47, Tryz.ntmps47
      go_wp2_with (fail)
      go_ret
      exact ⟨ret_bool H.out, B⟩
  rcases (by omega : (11 ≤ g.pc ∧ g.pc ≤ 11) ∨ (12 ≤ g.pc ∧ g.pc ≤ 12) ∨ (16 ≤ g.pc ∧ g.pc ≤ 21) ∨ (13 ≤ g.pc ∧ g.pc ≤ 13) ∨ (14 ≤ g.pc ∧ g.pc ≤ 14) ∨ (22 ≤ g.pc ∧ g.pc ≤ 24) ∨ (g.pc < 11) ∨ (15 ≤ g.pc ∧ g.pc ≤ 15) ∨ (24 < g.pc)) with hc | hc | hc | hc | hc | hc | hc | hc | hc
  · obtain ⟨p1, p2⟩ := hc
    have t11 : (g.pc == 11) = true := by simp; omega
    have t12 : (g.pc == 12) = false := by simp; omega
    have t13 : (g.pc == 13) = false := by simp; omega
    have t14 : (g.pc == 14) = false := by simp; omega
    rcases (by omega : ((g.snap.n : Int) < g.k) ∨ (g.k < (g.snap.n : Int)) ∨ (g.k ≤ (g.snap.n : Int) ∧ (g.snap.n : Int) ≤ g.k ∧ 7 + 2 * s + 17 * p ≤ g.k) ∨ (g.k ≤ (g.snap.n : Int) ∧ (g.snap.n : Int) ≤ g.k ∧ g.k < 7 + 2 * s + 17 * p)) with hd | hd | hd | hd
    · have d1 := hd
      clear hlast
      have H : Hid (¬ Place s p g) := fun h => by
        obtain ⟨k1, k2, k3, k4, k5⟩ := h
        omega
      have E := Eg.start w s p l g 62 68
      have q0 := at0 E.c 0 (v := .int .i64 s) rfl
      have q1 := at0 E.c 1 (v := .int .i64 p) rfl
      have q2 := at0 E.c 2 (v := .int .i64 l) rfl
      have c_pc := at0 E.r 8 (v := .int .i64 g.pc) rfl
      have c_k := at0 E.r 9 (v := .int .i64 g.k) rfl
      have c_n := at0 E.r 10 (v := .int .i64 g.n) rfl
      have c_who := at0 E.r 13 (v := .int .i64 g.who) rfl
      have c_own := at0 E.r 15 (v := .bool g.own) rfl
      have c_oa := at0 E.r 6 (v := .int .i64 g.oa) rfl
      have c_snap := at0 E.r 21 (v := .slice g.snap.a g.snap.n g.snap.c) rfl
      have c_plan := at0 E.r 22 (v := .slice g.plan.a g.plan.n g.plan.c) rfl
      have B := E.b
      go_enter Tryz.func47, Tryz.ntmps47
      go_wp2_with (fail)
      have Q := E.drew
      clear c_pc c_k c_n c_who c_own c_oa c_snap c_plan q0 q1 q2 B E
      refine wp_region_held_drew (S := Eg w s p l g) (by kernel_rfl) Q (fun hS' => ?_)
      clear Q
      generalize World.drew _ = V at hS' ⊢
      refine tI 0 (v := .pointer (some ⟨w.heap.size + 1, 21, none⟩)) (d := some 9) rfl rfl (fun w' hw => ?_) hS' ?_
      · clear hw; go_simp
      try simp only [Act.put, s1, s2, s3]
      refine tI 1 (v := .slice g.snap.a g.snap.n g.snap.c) (d := some 10) rfl rfl (fun w' hw => ?_) hS' ?_
      · have g0 : w'.cell? ⟨w.heap.size + 1, 21, none⟩ = some (.slice g.snap.a g.snap.n g.snap.c) := hw.r 21 _ rfl; clear hw; go_simp
      try simp only [Act.put, s1, s2, s3]
      refine tI 2 (v := .int .i64 g.snap.n) (d := some 11) rfl rfl (fun w' hw => ?_) hS' ?_
      · clear hw; go_simp
      try simp only [Act.put, s1, s2, s3]
      refine tI 3 (v := .pointer (some ⟨w.heap.size + 1, 9, none⟩)) (d := some 12) rfl rfl (fun w' hw => ?_) hS' ?_
      · clear hw; go_simp
      try simp only [Act.put, s1, s2, s3]
      refine tI 4 (v := .int .i64 g.k) (d := some 13) rfl rfl (fun w' hw => ?_) hS' ?_
      · have g0 : w'.cell? ⟨w.heap.size + 1, 9, none⟩ = some (.int .i64 g.k) := hw.r 9 _ rfl; clear hw; go_simp
      try simp only [Act.put, s1, s2, s3]
      refine tI 5 (v := .bool false) (d := some 14) rfl rfl (fun w' hw => ?_) hS' ?_
      · clear hw; go_simp <;> omega
      try simp only [Act.put, s1, s2, s3]
      refine tI 6 (v := .bool false) (d := some 15) rfl rfl (fun w' hw => ?_) hS' ?_
      · clear hw; go_simp
      try simp only [Act.put, s1, s2, s3]
      refine tS 7 (d := some 16) rfl rfl hS' ?_
      try simp only [Act.put, s1, s2, s3]
      refine tS 8 (d := some 17) rfl rfl hS' ?_
      try simp only [Act.put, s1, s2, s3]
      refine tS 9 (d := some 18) rfl rfl hS' ?_
      try simp only [Act.put, s1, s2, s3]
      refine tS 10 (d := some 19) rfl rfl hS' ?_
      try simp only [Act.put, s1, s2, s3]
      refine tS 11 (d := some 20) rfl rfl hS' ?_
      try simp only [Act.put, s1, s2, s3]
      refine tI 12 (v := .bool false) (d := some 21) rfl rfl (fun w' hw => ?_) hS' ?_
      · clear hw; go_simp
      try simp only [Act.put, s1, s2, s3]
      refine tI 13 (v := .bool false) (d := some 4) rfl rfl (fun w' hw => ?_) hS' ?_
      · clear hw; go_simp
      try simp only [Act.put, s1, s2, s3]
      refine wpAnyH_done (by kernel_rfl) ?_ _
      have B := hS'.b
      clear hS'
      go_wp2_with (fail)
      go_ret
      exact ⟨ret_bool (boolOf_f H.out), B⟩
    · have d1 := hd
      clear hlast
      have H : Hid (¬ Place s p g) := fun h => by
        obtain ⟨k1, k2, k3, k4, k5⟩ := h
        omega
      have E := Eg.start w s p l g 62 68
      have q0 := at0 E.c 0 (v := .int .i64 s) rfl
      have q1 := at0 E.c 1 (v := .int .i64 p) rfl
      have q2 := at0 E.c 2 (v := .int .i64 l) rfl
      have c_pc := at0 E.r 8 (v := .int .i64 g.pc) rfl
      have c_k := at0 E.r 9 (v := .int .i64 g.k) rfl
      have c_n := at0 E.r 10 (v := .int .i64 g.n) rfl
      have c_who := at0 E.r 13 (v := .int .i64 g.who) rfl
      have c_own := at0 E.r 15 (v := .bool g.own) rfl
      have c_oa := at0 E.r 6 (v := .int .i64 g.oa) rfl
      have c_snap := at0 E.r 21 (v := .slice g.snap.a g.snap.n g.snap.c) rfl
      have c_plan := at0 E.r 22 (v := .slice g.plan.a g.plan.n g.plan.c) rfl
      have B := E.b
      go_enter Tryz.func47, Tryz.ntmps47
      go_wp2_with (fail)
      have Q := E.drew
      clear c_pc c_k c_n c_who c_own c_oa c_snap c_plan q0 q1 q2 B E
      refine wp_region_held_drew (S := Eg w s p l g) (by kernel_rfl) Q (fun hS' => ?_)
      clear Q
      generalize World.drew _ = V at hS' ⊢
      refine tI 0 (v := .pointer (some ⟨w.heap.size + 1, 21, none⟩)) (d := some 9) rfl rfl (fun w' hw => ?_) hS' ?_
      · clear hw; go_simp
      try simp only [Act.put, s1, s2, s3]
      refine tI 1 (v := .slice g.snap.a g.snap.n g.snap.c) (d := some 10) rfl rfl (fun w' hw => ?_) hS' ?_
      · have g0 : w'.cell? ⟨w.heap.size + 1, 21, none⟩ = some (.slice g.snap.a g.snap.n g.snap.c) := hw.r 21 _ rfl; clear hw; go_simp
      try simp only [Act.put, s1, s2, s3]
      refine tI 2 (v := .int .i64 g.snap.n) (d := some 11) rfl rfl (fun w' hw => ?_) hS' ?_
      · clear hw; go_simp
      try simp only [Act.put, s1, s2, s3]
      refine tI 3 (v := .pointer (some ⟨w.heap.size + 1, 9, none⟩)) (d := some 12) rfl rfl (fun w' hw => ?_) hS' ?_
      · clear hw; go_simp
      try simp only [Act.put, s1, s2, s3]
      refine tI 4 (v := .int .i64 g.k) (d := some 13) rfl rfl (fun w' hw => ?_) hS' ?_
      · have g0 : w'.cell? ⟨w.heap.size + 1, 9, none⟩ = some (.int .i64 g.k) := hw.r 9 _ rfl; clear hw; go_simp
      try simp only [Act.put, s1, s2, s3]
      refine tI 5 (v := .bool false) (d := some 14) rfl rfl (fun w' hw => ?_) hS' ?_
      · clear hw; go_simp <;> omega
      try simp only [Act.put, s1, s2, s3]
      refine tI 6 (v := .bool false) (d := some 15) rfl rfl (fun w' hw => ?_) hS' ?_
      · clear hw; go_simp
      try simp only [Act.put, s1, s2, s3]
      refine tS 7 (d := some 16) rfl rfl hS' ?_
      try simp only [Act.put, s1, s2, s3]
      refine tS 8 (d := some 17) rfl rfl hS' ?_
      try simp only [Act.put, s1, s2, s3]
      refine tS 9 (d := some 18) rfl rfl hS' ?_
      try simp only [Act.put, s1, s2, s3]
      refine tS 10 (d := some 19) rfl rfl hS' ?_
      try simp only [Act.put, s1, s2, s3]
      refine tS 11 (d := some 20) rfl rfl hS' ?_
      try simp only [Act.put, s1, s2, s3]
      refine tI 12 (v := .bool false) (d := some 21) rfl rfl (fun w' hw => ?_) hS' ?_
      · clear hw; go_simp
      try simp only [Act.put, s1, s2, s3]
      refine tI 13 (v := .bool false) (d := some 4) rfl rfl (fun w' hw => ?_) hS' ?_
      · clear hw; go_simp
      try simp only [Act.put, s1, s2, s3]
      refine wpAnyH_done (by kernel_rfl) ?_ _
      have B := hS'.b
      clear hS'
      go_wp2_with (fail)
      go_ret
      exact ⟨ret_bool (boolOf_f H.out), B⟩
    · obtain ⟨d1, d2, d3⟩ := hd
      clear hlast
      have H : Hid (¬ Place s p g) := fun h => by
        obtain ⟨k1, k2, k3, k4, k5⟩ := h
        unfold hS at k1; omega
      have E := Eg.start w s p l g 62 68
      have q0 := at0 E.c 0 (v := .int .i64 s) rfl
      have q1 := at0 E.c 1 (v := .int .i64 p) rfl
      have q2 := at0 E.c 2 (v := .int .i64 l) rfl
      have c_pc := at0 E.r 8 (v := .int .i64 g.pc) rfl
      have c_k := at0 E.r 9 (v := .int .i64 g.k) rfl
      have c_n := at0 E.r 10 (v := .int .i64 g.n) rfl
      have c_who := at0 E.r 13 (v := .int .i64 g.who) rfl
      have c_own := at0 E.r 15 (v := .bool g.own) rfl
      have c_oa := at0 E.r 6 (v := .int .i64 g.oa) rfl
      have c_snap := at0 E.r 21 (v := .slice g.snap.a g.snap.n g.snap.c) rfl
      have c_plan := at0 E.r 22 (v := .slice g.plan.a g.plan.n g.plan.c) rfl
      have B := E.b
      go_enter Tryz.func47, Tryz.ntmps47
      go_wp2_with (fail)
      have Q := E.drew
      clear c_pc c_k c_n c_who c_own c_oa c_snap c_plan q0 q1 q2 B E
      refine wp_region_held_drew (S := Eg w s p l g) (by kernel_rfl) Q (fun hS' => ?_)
      clear Q
      generalize World.drew _ = V at hS' ⊢
      refine tI 0 (v := .pointer (some ⟨w.heap.size + 1, 21, none⟩)) (d := some 9) rfl rfl (fun w' hw => ?_) hS' ?_
      · clear hw; go_simp
      try simp only [Act.put, s1, s2, s3]
      refine tI 1 (v := .slice g.snap.a g.snap.n g.snap.c) (d := some 10) rfl rfl (fun w' hw => ?_) hS' ?_
      · have g0 : w'.cell? ⟨w.heap.size + 1, 21, none⟩ = some (.slice g.snap.a g.snap.n g.snap.c) := hw.r 21 _ rfl; clear hw; go_simp
      try simp only [Act.put, s1, s2, s3]
      refine tI 2 (v := .int .i64 g.snap.n) (d := some 11) rfl rfl (fun w' hw => ?_) hS' ?_
      · clear hw; go_simp
      try simp only [Act.put, s1, s2, s3]
      refine tI 3 (v := .pointer (some ⟨w.heap.size + 1, 9, none⟩)) (d := some 12) rfl rfl (fun w' hw => ?_) hS' ?_
      · clear hw; go_simp
      try simp only [Act.put, s1, s2, s3]
      refine tI 4 (v := .int .i64 g.k) (d := some 13) rfl rfl (fun w' hw => ?_) hS' ?_
      · have g0 : w'.cell? ⟨w.heap.size + 1, 9, none⟩ = some (.int .i64 g.k) := hw.r 9 _ rfl; clear hw; go_simp
      try simp only [Act.put, s1, s2, s3]
      refine tI 5 (v := .bool true) (d := some 14) rfl rfl (fun w' hw => ?_) hS' ?_
      · clear hw; go_simp <;> omega
      try simp only [Act.put, s1, s2, s3]
      refine tI 6 (v := .bool true) (d := some 15) rfl rfl (fun w' hw => ?_) hS' ?_
      · clear hw; go_simp
      try simp only [Act.put, s1, s2, s3]
      refine tI 7 (v := .pointer (some ⟨w.heap.size + 1, 9, none⟩)) (d := some 16) rfl rfl (fun w' hw => ?_) hS' ?_
      · clear hw; go_simp
      try simp only [Act.put, s1, s2, s3]
      refine tI 8 (v := .int .i64 g.k) (d := some 17) rfl rfl (fun w' hw => ?_) hS' ?_
      · have g0 : w'.cell? ⟨w.heap.size + 1, 9, none⟩ = some (.int .i64 g.k) := hw.r 9 _ rfl; clear hw; go_simp
      try simp only [Act.put, s1, s2, s3]
      refine tB 9 (v := .agg #[.int .i64 s, .int .i64 p, .int .i64 l]) (d := some 18) rfl rfl (yieldsIf_load_mid (by rfl) 62 _ rfl w.heap.size 0 rfl (ints [s, p, l]) _ (fun w hw => hw.c) Tryz.underlying62 rfl (by kernel_rfl)) hS' ?_
      try simp only [Act.put, s1, s2, s3]
      refine r1 10 rfl (fun K hK => ?_)
      go_simp
      refine (sHouse_ok s p l _ hok).mono ?_
      rintro e w1 ⟨rfl, rfl⟩
      have Q := hS'.later (below1 _ (.cells #[.int .i64 s, .int .i64 p, .int .i64 l] 62))
      clear hS'
      go_wp2_with (fail)
      refine hK.out _ _ Q (fun hS' => ?_)
      clear Q
      clear hK K
      try simp only [Act.put, s1, s2, s3]
      refine tI 11 (v := .bool false) (d := some 20) rfl rfl (fun w' hw => ?_) hS' ?_
      · clear hw; go_simp <;> omega
      try simp only [Act.put, s1, s2, s3]
      refine tI 12 (v := .bool false) (d := some 21) rfl rfl (fun w' hw => ?_) hS' ?_
      · clear hw; go_simp
      try simp only [Act.put, s1, s2, s3]
      refine tI 13 (v := .bool false) (d := some 4) rfl rfl (fun w' hw => ?_) hS' ?_
      · clear hw; go_simp
      try simp only [Act.put, s1, s2, s3]
      refine wpAnyH_done (by kernel_rfl) ?_ _
      have B := hS'.b
      clear hS'
      go_wp2_with (fail)
      go_ret
      exact ⟨ret_bool (boolOf_f H.out), B⟩
    · obtain ⟨d1, d2, d3⟩ := hd
      clear hlast
      have H : Hid (Place s p g) := ⟨fun e => by unfold hS; omega, fun e => by omega, fun e => by omega, fun e => by omega, fun e => absurd e (by omega)⟩
      have E := Eg.start w s p l g 62 68
      have q0 := at0 E.c 0 (v := .int .i64 s) rfl
      have q1 := at0 E.c 1 (v := .int .i64 p) rfl
      have q2 := at0 E.c 2 (v := .int .i64 l) rfl
      have c_pc := at0 E.r 8 (v := .int .i64 g.pc) rfl
      have c_k := at0 E.r 9 (v := .int .i64 g.k) rfl
      have c_n := at0 E.r 10 (v := .int .i64 g.n) rfl
      have c_who := at0 E.r 13 (v := .int .i64 g.who) rfl
      have c_own := at0 E.r 15 (v := .bool g.own) rfl
      have c_oa := at0 E.r 6 (v := .int .i64 g.oa) rfl
      have c_snap := at0 E.r 21 (v := .slice g.snap.a g.snap.n g.snap.c) rfl
      have c_plan := at0 E.r 22 (v := .slice g.plan.a g.plan.n g.plan.c) rfl
      have B := E.b
      go_enter Tryz.func47, Tryz.ntmps47
      go_wp2_with (fail)
      have Q := E.drew
      clear c_pc c_k c_n c_who c_own c_oa c_snap c_plan q0 q1 q2 B E
      refine wp_region_held_drew (S := Eg w s p l g) (by kernel_rfl) Q (fun hS' => ?_)
      clear Q
      generalize World.drew _ = V at hS' ⊢
      refine tI 0 (v := .pointer (some ⟨w.heap.size + 1, 21, none⟩)) (d := some 9) rfl rfl (fun w' hw => ?_) hS' ?_
      · clear hw; go_simp
      try simp only [Act.put, s1, s2, s3]
      refine tI 1 (v := .slice g.snap.a g.snap.n g.snap.c) (d := some 10) rfl rfl (fun w' hw => ?_) hS' ?_
      · have g0 : w'.cell? ⟨w.heap.size + 1, 21, none⟩ = some (.slice g.snap.a g.snap.n g.snap.c) := hw.r 21 _ rfl; clear hw; go_simp
      try simp only [Act.put, s1, s2, s3]
      refine tI 2 (v := .int .i64 g.snap.n) (d := some 11) rfl rfl (fun w' hw => ?_) hS' ?_
      · clear hw; go_simp
      try simp only [Act.put, s1, s2, s3]
      refine tI 3 (v := .pointer (some ⟨w.heap.size + 1, 9, none⟩)) (d := some 12) rfl rfl (fun w' hw => ?_) hS' ?_
      · clear hw; go_simp
      try simp only [Act.put, s1, s2, s3]
      refine tI 4 (v := .int .i64 g.k) (d := some 13) rfl rfl (fun w' hw => ?_) hS' ?_
      · have g0 : w'.cell? ⟨w.heap.size + 1, 9, none⟩ = some (.int .i64 g.k) := hw.r 9 _ rfl; clear hw; go_simp
      try simp only [Act.put, s1, s2, s3]
      refine tI 5 (v := .bool true) (d := some 14) rfl rfl (fun w' hw => ?_) hS' ?_
      · clear hw; go_simp <;> omega
      try simp only [Act.put, s1, s2, s3]
      refine tI 6 (v := .bool true) (d := some 15) rfl rfl (fun w' hw => ?_) hS' ?_
      · clear hw; go_simp
      try simp only [Act.put, s1, s2, s3]
      refine tI 7 (v := .pointer (some ⟨w.heap.size + 1, 9, none⟩)) (d := some 16) rfl rfl (fun w' hw => ?_) hS' ?_
      · clear hw; go_simp
      try simp only [Act.put, s1, s2, s3]
      refine tI 8 (v := .int .i64 g.k) (d := some 17) rfl rfl (fun w' hw => ?_) hS' ?_
      · have g0 : w'.cell? ⟨w.heap.size + 1, 9, none⟩ = some (.int .i64 g.k) := hw.r 9 _ rfl; clear hw; go_simp
      try simp only [Act.put, s1, s2, s3]
      refine tB 9 (v := .agg #[.int .i64 s, .int .i64 p, .int .i64 l]) (d := some 18) rfl rfl (yieldsIf_load_mid (by rfl) 62 _ rfl w.heap.size 0 rfl (ints [s, p, l]) _ (fun w hw => hw.c) Tryz.underlying62 rfl (by kernel_rfl)) hS' ?_
      try simp only [Act.put, s1, s2, s3]
      refine r1 10 rfl (fun K hK => ?_)
      go_simp
      refine (sHouse_ok s p l _ hok).mono ?_
      rintro e w1 ⟨rfl, rfl⟩
      have Q := hS'.later (below1 _ (.cells #[.int .i64 s, .int .i64 p, .int .i64 l] 62))
      clear hS'
      go_wp2_with (fail)
      refine hK.out _ _ Q (fun hS' => ?_)
      clear Q
      clear hK K
      try simp only [Act.put, s1, s2, s3]
      refine tI 11 (v := .bool true) (d := some 20) rfl rfl (fun w' hw => ?_) hS' ?_
      · clear hw; go_simp <;> omega
      try simp only [Act.put, s1, s2, s3]
      refine tI 12 (v := .bool true) (d := some 21) rfl rfl (fun w' hw => ?_) hS' ?_
      · clear hw; go_simp
      try simp only [Act.put, s1, s2, s3]
      refine tI 13 (v := .bool true) (d := some 4) rfl rfl (fun w' hw => ?_) hS' ?_
      · clear hw; go_simp
      try simp only [Act.put, s1, s2, s3]
      refine wpAnyH_done (by kernel_rfl) ?_ _
      have B := hS'.b
      clear hS'
      go_wp2_with (fail)
      go_ret
      exact ⟨ret_bool (boolOf_t H.out), B⟩
  · obtain ⟨p1, p2⟩ := hc
    have t11 : (g.pc == 11) = false := by simp; omega
    have t12 : (g.pc == 12) = true := by simp; omega
    have t13 : (g.pc == 13) = false := by simp; omega
    have t14 : (g.pc == 14) = false := by simp; omega
    rcases (by omega : ((g.snap.n : Int) < 7 + 2 * s + 17 * p) ∨ (7 + 2 * s + 17 * p < (g.snap.n : Int)) ∨ (7 + 2 * s + 17 * p ≤ (g.snap.n : Int) ∧ (g.snap.n : Int) ≤ 7 + 2 * s + 17 * p ∧ g.oa < 0) ∨ (7 + 2 * s + 17 * p ≤ (g.snap.n : Int) ∧ (g.snap.n : Int) ≤ 7 + 2 * s + 17 * p ∧ 0 ≤ g.oa ∧ s ≤ g.oa) ∨ (7 + 2 * s + 17 * p ≤ (g.snap.n : Int) ∧ (g.snap.n : Int) ≤ 7 + 2 * s + 17 * p ∧ 0 ≤ g.oa ∧ g.oa < s)) with hd | hd | hd | hd | hd
    · have d1 := hd
      clear hlast
      have H : Hid (¬ Place s p g) := fun h => by
        obtain ⟨k1, k2, k3, k4, k5⟩ := h
        unfold hS at k2; omega
      have E := Eg.start w s p l g 62 68
      have q0 := at0 E.c 0 (v := .int .i64 s) rfl
      have q1 := at0 E.c 1 (v := .int .i64 p) rfl
      have q2 := at0 E.c 2 (v := .int .i64 l) rfl
      have c_pc := at0 E.r 8 (v := .int .i64 g.pc) rfl
      have c_k := at0 E.r 9 (v := .int .i64 g.k) rfl
      have c_n := at0 E.r 10 (v := .int .i64 g.n) rfl
      have c_who := at0 E.r 13 (v := .int .i64 g.who) rfl
      have c_own := at0 E.r 15 (v := .bool g.own) rfl
      have c_oa := at0 E.r 6 (v := .int .i64 g.oa) rfl
      have c_snap := at0 E.r 21 (v := .slice g.snap.a g.snap.n g.snap.c) rfl
      have c_plan := at0 E.r 22 (v := .slice g.plan.a g.plan.n g.plan.c) rfl
      have B := E.b
      go_enter Tryz.func47, Tryz.ntmps47
      go_wp2_with (fail)
      have Q := E.drew
      clear c_pc c_k c_n c_who c_own c_oa c_snap c_plan q0 q1 q2 B E
      refine wp_region_held_drew (S := Eg w s p l g) (by kernel_rfl) Q (fun hS' => ?_)
      clear Q
      generalize World.drew _ = V at hS' ⊢
      refine tI 0 (v := .pointer (some ⟨w.heap.size + 1, 21, none⟩)) (d := some 26) rfl rfl (fun w' hw => ?_) hS' ?_
      · clear hw; go_simp
      try simp only [Act.put, s1, s2, s3]
      refine tI 1 (v := .slice g.snap.a g.snap.n g.snap.c) (d := some 27) rfl rfl (fun w' hw => ?_) hS' ?_
      · have g0 : w'.cell? ⟨w.heap.size + 1, 21, none⟩ = some (.slice g.snap.a g.snap.n g.snap.c) := hw.r 21 _ rfl; clear hw; go_simp
      try simp only [Act.put, s1, s2, s3]
      refine tI 2 (v := .int .i64 g.snap.n) (d := some 28) rfl rfl (fun w' hw => ?_) hS' ?_
      · clear hw; go_simp
      try simp only [Act.put, s1, s2, s3]
      refine tB 3 (v := .agg #[.int .i64 s, .int .i64 p, .int .i64 l]) (d := some 29) rfl rfl (yieldsIf_load_mid (by rfl) 62 _ rfl w.heap.size 0 rfl (ints [s, p, l]) _ (fun w hw => hw.c) Tryz.underlying62 rfl (by kernel_rfl)) hS' ?_
      try simp only [Act.put, s1, s2, s3]
      refine r1 4 rfl (fun K hK => ?_)
      go_simp
      refine (sHouse_ok s p l _ hok).mono ?_
      rintro e w1 ⟨rfl, rfl⟩
      have Q := hS'.later (below1 _ (.cells #[.int .i64 s, .int .i64 p, .int .i64 l] 62))
      clear hS'
      go_wp2_with (fail)
      refine hK.out _ _ Q (fun hS' => ?_)
      clear Q
      clear hK K
      try simp only [Act.put, s1, s2, s3]
      refine tI 5 (v := .bool false) (d := some 31) rfl rfl (fun w' hw => ?_) hS' ?_
      · clear hw; go_simp <;> omega
      try simp only [Act.put, s1, s2, s3]
      refine tI 6 (v := .bool false) (d := some 32) rfl rfl (fun w' hw => ?_) hS' ?_
      · clear hw; go_simp
      try simp only [Act.put, s1, s2, s3]
      refine tS 7 (d := some 33) rfl rfl hS' ?_
      try simp only [Act.put, s1, s2, s3]
      refine tS 8 (d := some 34) rfl rfl hS' ?_
      try simp only [Act.put, s1, s2, s3]
      refine tS 9 (d := some 35) rfl rfl hS' ?_
      try simp only [Act.put, s1, s2, s3]
      refine tS 10 (d := some 36) rfl rfl hS' ?_
      try simp only [Act.put, s1, s2, s3]
      refine tI 11 (v := .bool false) (d := some 37) rfl rfl (fun w' hw => ?_) hS' ?_
      · clear hw; go_simp
      try simp only [Act.put, s1, s2, s3]
      refine tI 12 (v := .bool false) (d := some 38) rfl rfl (fun w' hw => ?_) hS' ?_
      · clear hw; go_simp
      try simp only [Act.put, s1, s2, s3]
      refine tS 13 (d := some 39) rfl rfl hS' ?_
      try simp only [Act.put, s1, s2, s3]
      refine tS 14 (d := some 40) rfl rfl hS' ?_
      try simp only [Act.put, s1, s2, s3]
      refine tS 15 (d := some 41) rfl rfl hS' ?_
      try simp only [Act.put, s1, s2, s3]
      refine tS 16 (d := some 42) rfl rfl hS' ?_
      try simp only [Act.put, s1, s2, s3]
      refine tS 17 (d := some 43) rfl rfl hS' ?_
      try simp only [Act.put, s1, s2, s3]
      refine tS 18 (d := some 44) rfl rfl hS' ?_
      try simp only [Act.put, s1, s2, s3]
      refine tI 19 (v := .bool false) (d := some 45) rfl rfl (fun w' hw => ?_) hS' ?_
      · clear hw; go_simp
      try simp only [Act.put, s1, s2, s3]
      refine tI 20 (v := .bool false) (d := some 4) rfl rfl (fun w' hw => ?_) hS' ?_
      · clear hw; go_simp
      try simp only [Act.put, s1, s2, s3]
      refine wpAnyH_done (by kernel_rfl) ?_ _
      have B := hS'.b
      clear hS'
      go_wp2_with (fail)
      go_ret
      exact ⟨ret_bool (boolOf_f H.out), B⟩
    · have d1 := hd
      clear hlast
      have H : Hid (¬ Place s p g) := fun h => by
        obtain ⟨k1, k2, k3, k4, k5⟩ := h
        unfold hS at k2; omega
      have E := Eg.start w s p l g 62 68
      have q0 := at0 E.c 0 (v := .int .i64 s) rfl
      have q1 := at0 E.c 1 (v := .int .i64 p) rfl
      have q2 := at0 E.c 2 (v := .int .i64 l) rfl
      have c_pc := at0 E.r 8 (v := .int .i64 g.pc) rfl
      have c_k := at0 E.r 9 (v := .int .i64 g.k) rfl
      have c_n := at0 E.r 10 (v := .int .i64 g.n) rfl
      have c_who := at0 E.r 13 (v := .int .i64 g.who) rfl
      have c_own := at0 E.r 15 (v := .bool g.own) rfl
      have c_oa := at0 E.r 6 (v := .int .i64 g.oa) rfl
      have c_snap := at0 E.r 21 (v := .slice g.snap.a g.snap.n g.snap.c) rfl
      have c_plan := at0 E.r 22 (v := .slice g.plan.a g.plan.n g.plan.c) rfl
      have B := E.b
      go_enter Tryz.func47, Tryz.ntmps47
      go_wp2_with (fail)
      have Q := E.drew
      clear c_pc c_k c_n c_who c_own c_oa c_snap c_plan q0 q1 q2 B E
      refine wp_region_held_drew (S := Eg w s p l g) (by kernel_rfl) Q (fun hS' => ?_)
      clear Q
      generalize World.drew _ = V at hS' ⊢
      refine tI 0 (v := .pointer (some ⟨w.heap.size + 1, 21, none⟩)) (d := some 26) rfl rfl (fun w' hw => ?_) hS' ?_
      · clear hw; go_simp
      try simp only [Act.put, s1, s2, s3]
      refine tI 1 (v := .slice g.snap.a g.snap.n g.snap.c) (d := some 27) rfl rfl (fun w' hw => ?_) hS' ?_
      · have g0 : w'.cell? ⟨w.heap.size + 1, 21, none⟩ = some (.slice g.snap.a g.snap.n g.snap.c) := hw.r 21 _ rfl; clear hw; go_simp
      try simp only [Act.put, s1, s2, s3]
      refine tI 2 (v := .int .i64 g.snap.n) (d := some 28) rfl rfl (fun w' hw => ?_) hS' ?_
      · clear hw; go_simp
      try simp only [Act.put, s1, s2, s3]
      refine tB 3 (v := .agg #[.int .i64 s, .int .i64 p, .int .i64 l]) (d := some 29) rfl rfl (yieldsIf_load_mid (by rfl) 62 _ rfl w.heap.size 0 rfl (ints [s, p, l]) _ (fun w hw => hw.c) Tryz.underlying62 rfl (by kernel_rfl)) hS' ?_
      try simp only [Act.put, s1, s2, s3]
      refine r1 4 rfl (fun K hK => ?_)
      go_simp
      refine (sHouse_ok s p l _ hok).mono ?_
      rintro e w1 ⟨rfl, rfl⟩
      have Q := hS'.later (below1 _ (.cells #[.int .i64 s, .int .i64 p, .int .i64 l] 62))
      clear hS'
      go_wp2_with (fail)
      refine hK.out _ _ Q (fun hS' => ?_)
      clear Q
      clear hK K
      try simp only [Act.put, s1, s2, s3]
      refine tI 5 (v := .bool false) (d := some 31) rfl rfl (fun w' hw => ?_) hS' ?_
      · clear hw; go_simp <;> omega
      try simp only [Act.put, s1, s2, s3]
      refine tI 6 (v := .bool false) (d := some 32) rfl rfl (fun w' hw => ?_) hS' ?_
      · clear hw; go_simp
      try simp only [Act.put, s1, s2, s3]
      refine tS 7 (d := some 33) rfl rfl hS' ?_
      try simp only [Act.put, s1, s2, s3]
      refine tS 8 (d := some 34) rfl rfl hS' ?_
      try simp only [Act.put, s1, s2, s3]
      refine tS 9 (d := some 35) rfl rfl hS' ?_
      try simp only [Act.put, s1, s2, s3]
      refine tS 10 (d := some 36) rfl rfl hS' ?_
      try simp only [Act.put, s1, s2, s3]
      refine tI 11 (v := .bool false) (d := some 37) rfl rfl (fun w' hw => ?_) hS' ?_
      · clear hw; go_simp
      try simp only [Act.put, s1, s2, s3]
      refine tI 12 (v := .bool false) (d := some 38) rfl rfl (fun w' hw => ?_) hS' ?_
      · clear hw; go_simp
      try simp only [Act.put, s1, s2, s3]
      refine tS 13 (d := some 39) rfl rfl hS' ?_
      try simp only [Act.put, s1, s2, s3]
      refine tS 14 (d := some 40) rfl rfl hS' ?_
      try simp only [Act.put, s1, s2, s3]
      refine tS 15 (d := some 41) rfl rfl hS' ?_
      try simp only [Act.put, s1, s2, s3]
      refine tS 16 (d := some 42) rfl rfl hS' ?_
      try simp only [Act.put, s1, s2, s3]
      refine tS 17 (d := some 43) rfl rfl hS' ?_
      try simp only [Act.put, s1, s2, s3]
      refine tS 18 (d := some 44) rfl rfl hS' ?_
      try simp only [Act.put, s1, s2, s3]
      refine tI 19 (v := .bool false) (d := some 45) rfl rfl (fun w' hw => ?_) hS' ?_
      · clear hw; go_simp
      try simp only [Act.put, s1, s2, s3]
      refine tI 20 (v := .bool false) (d := some 4) rfl rfl (fun w' hw => ?_) hS' ?_
      · clear hw; go_simp
      try simp only [Act.put, s1, s2, s3]
      refine wpAnyH_done (by kernel_rfl) ?_ _
      have B := hS'.b
      clear hS'
      go_wp2_with (fail)
      go_ret
      exact ⟨ret_bool (boolOf_f H.out), B⟩
    · obtain ⟨d1, d2, d3⟩ := hd
      clear hlast
      have H : Hid (¬ Place s p g) := fun h => by
        obtain ⟨k1, k2, k3, k4, k5⟩ := h
        unfold hS at k2; omega
      have E := Eg.start w s p l g 62 68
      have q0 := at0 E.c 0 (v := .int .i64 s) rfl
      have q1 := at0 E.c 1 (v := .int .i64 p) rfl
      have q2 := at0 E.c 2 (v := .int .i64 l) rfl
      have c_pc := at0 E.r 8 (v := .int .i64 g.pc) rfl
      have c_k := at0 E.r 9 (v := .int .i64 g.k) rfl
      have c_n := at0 E.r 10 (v := .int .i64 g.n) rfl
      have c_who := at0 E.r 13 (v := .int .i64 g.who) rfl
      have c_own := at0 E.r 15 (v := .bool g.own) rfl
      have c_oa := at0 E.r 6 (v := .int .i64 g.oa) rfl
      have c_snap := at0 E.r 21 (v := .slice g.snap.a g.snap.n g.snap.c) rfl
      have c_plan := at0 E.r 22 (v := .slice g.plan.a g.plan.n g.plan.c) rfl
      have B := E.b
      go_enter Tryz.func47, Tryz.ntmps47
      go_wp2_with (fail)
      have Q := E.drew
      clear c_pc c_k c_n c_who c_own c_oa c_snap c_plan q0 q1 q2 B E
      refine wp_region_held_drew (S := Eg w s p l g) (by kernel_rfl) Q (fun hS' => ?_)
      clear Q
      generalize World.drew _ = V at hS' ⊢
      refine tI 0 (v := .pointer (some ⟨w.heap.size + 1, 21, none⟩)) (d := some 26) rfl rfl (fun w' hw => ?_) hS' ?_
      · clear hw; go_simp
      try simp only [Act.put, s1, s2, s3]
      refine tI 1 (v := .slice g.snap.a g.snap.n g.snap.c) (d := some 27) rfl rfl (fun w' hw => ?_) hS' ?_
      · have g0 : w'.cell? ⟨w.heap.size + 1, 21, none⟩ = some (.slice g.snap.a g.snap.n g.snap.c) := hw.r 21 _ rfl; clear hw; go_simp
      try simp only [Act.put, s1, s2, s3]
      refine tI 2 (v := .int .i64 g.snap.n) (d := some 28) rfl rfl (fun w' hw => ?_) hS' ?_
      · clear hw; go_simp
      try simp only [Act.put, s1, s2, s3]
      refine tB 3 (v := .agg #[.int .i64 s, .int .i64 p, .int .i64 l]) (d := some 29) rfl rfl (yieldsIf_load_mid (by rfl) 62 _ rfl w.heap.size 0 rfl (ints [s, p, l]) _ (fun w hw => hw.c) Tryz.underlying62 rfl (by kernel_rfl)) hS' ?_
      try simp only [Act.put, s1, s2, s3]
      refine r1 4 rfl (fun K hK => ?_)
      go_simp
      refine (sHouse_ok s p l _ hok).mono ?_
      rintro e w1 ⟨rfl, rfl⟩
      have Q := hS'.later (below1 _ (.cells #[.int .i64 s, .int .i64 p, .int .i64 l] 62))
      clear hS'
      go_wp2_with (fail)
      refine hK.out _ _ Q (fun hS' => ?_)
      clear Q
      clear hK K
      try simp only [Act.put, s1, s2, s3]
      refine tI 5 (v := .bool true) (d := some 31) rfl rfl (fun w' hw => ?_) hS' ?_
      · clear hw; go_simp <;> omega
      try simp only [Act.put, s1, s2, s3]
      refine tI 6 (v := .bool true) (d := some 32) rfl rfl (fun w' hw => ?_) hS' ?_
      · clear hw; go_simp
      try simp only [Act.put, s1, s2, s3]
      refine tI 7 (v := .pointer (some ⟨w.heap.size + 1, 4, none⟩)) (d := some 33) rfl rfl (fun w' hw => ?_) hS' ?_
      · clear hw; go_simp
      try simp only [Act.put, s1, s2, s3]
      refine tI 8 (v := .pointer (some ⟨w.heap.size + 1, 6, none⟩)) (d := some 34) rfl rfl (fun w' hw => ?_) hS' ?_
      · clear hw; go_simp
      try simp only [Act.put, s1, s2, s3]
      refine tI 9 (v := .int .i64 g.oa) (d := some 35) rfl rfl (fun w' hw => ?_) hS' ?_
      · have g0 : w'.cell? ⟨w.heap.size + 1, 6, none⟩ = some (.int .i64 g.oa) := hw.r 6 _ rfl; clear hw; go_simp
      try simp only [Act.put, s1, s2, s3]
      refine tI 10 (v := .bool false) (d := some 36) rfl rfl (fun w' hw => ?_) hS' ?_
      · clear hw; go_simp <;> omega
      try simp only [Act.put, s1, s2, s3]
      refine tI 11 (v := .bool false) (d := some 37) rfl rfl (fun w' hw => ?_) hS' ?_
      · clear hw; go_simp
      try simp only [Act.put, s1, s2, s3]
      refine tI 12 (v := .bool false) (d := some 38) rfl rfl (fun w' hw => ?_) hS' ?_
      · clear hw; go_simp
      try simp only [Act.put, s1, s2, s3]
      refine tS 13 (d := some 39) rfl rfl hS' ?_
      try simp only [Act.put, s1, s2, s3]
      refine tS 14 (d := some 40) rfl rfl hS' ?_
      try simp only [Act.put, s1, s2, s3]
      refine tS 15 (d := some 41) rfl rfl hS' ?_
      try simp only [Act.put, s1, s2, s3]
      refine tS 16 (d := some 42) rfl rfl hS' ?_
      try simp only [Act.put, s1, s2, s3]
      refine tS 17 (d := some 43) rfl rfl hS' ?_
      try simp only [Act.put, s1, s2, s3]
      refine tS 18 (d := some 44) rfl rfl hS' ?_
      try simp only [Act.put, s1, s2, s3]
      refine tI 19 (v := .bool false) (d := some 45) rfl rfl (fun w' hw => ?_) hS' ?_
      · clear hw; go_simp
      try simp only [Act.put, s1, s2, s3]
      refine tI 20 (v := .bool false) (d := some 4) rfl rfl (fun w' hw => ?_) hS' ?_
      · clear hw; go_simp
      try simp only [Act.put, s1, s2, s3]
      refine wpAnyH_done (by kernel_rfl) ?_ _
      have B := hS'.b
      clear hS'
      go_wp2_with (fail)
      go_ret
      exact ⟨ret_bool (boolOf_f H.out), B⟩
    · obtain ⟨d1, d2, d3, d4⟩ := hd
      clear hlast
      have H : Hid (¬ Place s p g) := fun h => by
        obtain ⟨k1, k2, k3, k4, k5⟩ := h
        unfold hS at k2; omega
      have E := Eg.start w s p l g 62 68
      have q0 := at0 E.c 0 (v := .int .i64 s) rfl
      have q1 := at0 E.c 1 (v := .int .i64 p) rfl
      have q2 := at0 E.c 2 (v := .int .i64 l) rfl
      have c_pc := at0 E.r 8 (v := .int .i64 g.pc) rfl
      have c_k := at0 E.r 9 (v := .int .i64 g.k) rfl
      have c_n := at0 E.r 10 (v := .int .i64 g.n) rfl
      have c_who := at0 E.r 13 (v := .int .i64 g.who) rfl
      have c_own := at0 E.r 15 (v := .bool g.own) rfl
      have c_oa := at0 E.r 6 (v := .int .i64 g.oa) rfl
      have c_snap := at0 E.r 21 (v := .slice g.snap.a g.snap.n g.snap.c) rfl
      have c_plan := at0 E.r 22 (v := .slice g.plan.a g.plan.n g.plan.c) rfl
      have B := E.b
      go_enter Tryz.func47, Tryz.ntmps47
      go_wp2_with (fail)
      have Q := E.drew
      clear c_pc c_k c_n c_who c_own c_oa c_snap c_plan q0 q1 q2 B E
      refine wp_region_held_drew (S := Eg w s p l g) (by kernel_rfl) Q (fun hS' => ?_)
      clear Q
      generalize World.drew _ = V at hS' ⊢
      refine tI 0 (v := .pointer (some ⟨w.heap.size + 1, 21, none⟩)) (d := some 26) rfl rfl (fun w' hw => ?_) hS' ?_
      · clear hw; go_simp
      try simp only [Act.put, s1, s2, s3]
      refine tI 1 (v := .slice g.snap.a g.snap.n g.snap.c) (d := some 27) rfl rfl (fun w' hw => ?_) hS' ?_
      · have g0 : w'.cell? ⟨w.heap.size + 1, 21, none⟩ = some (.slice g.snap.a g.snap.n g.snap.c) := hw.r 21 _ rfl; clear hw; go_simp
      try simp only [Act.put, s1, s2, s3]
      refine tI 2 (v := .int .i64 g.snap.n) (d := some 28) rfl rfl (fun w' hw => ?_) hS' ?_
      · clear hw; go_simp
      try simp only [Act.put, s1, s2, s3]
      refine tB 3 (v := .agg #[.int .i64 s, .int .i64 p, .int .i64 l]) (d := some 29) rfl rfl (yieldsIf_load_mid (by rfl) 62 _ rfl w.heap.size 0 rfl (ints [s, p, l]) _ (fun w hw => hw.c) Tryz.underlying62 rfl (by kernel_rfl)) hS' ?_
      try simp only [Act.put, s1, s2, s3]
      refine r1 4 rfl (fun K hK => ?_)
      go_simp
      refine (sHouse_ok s p l _ hok).mono ?_
      rintro e w1 ⟨rfl, rfl⟩
      have Q := hS'.later (below1 _ (.cells #[.int .i64 s, .int .i64 p, .int .i64 l] 62))
      clear hS'
      go_wp2_with (fail)
      refine hK.out _ _ Q (fun hS' => ?_)
      clear Q
      clear hK K
      try simp only [Act.put, s1, s2, s3]
      refine tI 5 (v := .bool true) (d := some 31) rfl rfl (fun w' hw => ?_) hS' ?_
      · clear hw; go_simp <;> omega
      try simp only [Act.put, s1, s2, s3]
      refine tI 6 (v := .bool true) (d := some 32) rfl rfl (fun w' hw => ?_) hS' ?_
      · clear hw; go_simp
      try simp only [Act.put, s1, s2, s3]
      refine tI 7 (v := .pointer (some ⟨w.heap.size + 1, 4, none⟩)) (d := some 33) rfl rfl (fun w' hw => ?_) hS' ?_
      · clear hw; go_simp
      try simp only [Act.put, s1, s2, s3]
      refine tI 8 (v := .pointer (some ⟨w.heap.size + 1, 6, none⟩)) (d := some 34) rfl rfl (fun w' hw => ?_) hS' ?_
      · clear hw; go_simp
      try simp only [Act.put, s1, s2, s3]
      refine tI 9 (v := .int .i64 g.oa) (d := some 35) rfl rfl (fun w' hw => ?_) hS' ?_
      · have g0 : w'.cell? ⟨w.heap.size + 1, 6, none⟩ = some (.int .i64 g.oa) := hw.r 6 _ rfl; clear hw; go_simp
      try simp only [Act.put, s1, s2, s3]
      refine tI 10 (v := .bool true) (d := some 36) rfl rfl (fun w' hw => ?_) hS' ?_
      · clear hw; go_simp <;> omega
      try simp only [Act.put, s1, s2, s3]
      refine tI 11 (v := .bool true) (d := some 37) rfl rfl (fun w' hw => ?_) hS' ?_
      · clear hw; go_simp
      try simp only [Act.put, s1, s2, s3]
      refine tI 12 (v := .bool true) (d := some 38) rfl rfl (fun w' hw => ?_) hS' ?_
      · clear hw; go_simp
      try simp only [Act.put, s1, s2, s3]
      refine tI 13 (v := .pointer (some ⟨w.heap.size + 1, 4, none⟩)) (d := some 39) rfl rfl (fun w' hw => ?_) hS' ?_
      · clear hw; go_simp
      try simp only [Act.put, s1, s2, s3]
      refine tI 14 (v := .pointer (some ⟨w.heap.size + 1, 6, none⟩)) (d := some 40) rfl rfl (fun w' hw => ?_) hS' ?_
      · clear hw; go_simp
      try simp only [Act.put, s1, s2, s3]
      refine tI 15 (v := .int .i64 g.oa) (d := some 41) rfl rfl (fun w' hw => ?_) hS' ?_
      · have g0 : w'.cell? ⟨w.heap.size + 1, 6, none⟩ = some (.int .i64 g.oa) := hw.r 6 _ rfl; clear hw; go_simp
      try simp only [Act.put, s1, s2, s3]
      refine tI 16 (v := .pointer (some ⟨w.heap.size, 0, none⟩)) (d := some 42) rfl rfl (fun w' hw => ?_) hS' ?_
      · clear hw; go_simp
      try simp only [Act.put, s1, s2, s3]
      refine tI 17 (v := .int .i64 s) (d := some 43) rfl rfl (fun w' hw => ?_) hS' ?_
      · have g0 : w'.cell? ⟨w.heap.size, 0, none⟩ = some (.int .i64 s) := hw.c 0 _ rfl; clear hw; go_simp
      try simp only [Act.put, s1, s2, s3]
      refine tI 18 (v := .bool false) (d := some 44) rfl rfl (fun w' hw => ?_) hS' ?_
      · clear hw; go_simp <;> omega
      try simp only [Act.put, s1, s2, s3]
      refine tI 19 (v := .bool false) (d := some 45) rfl rfl (fun w' hw => ?_) hS' ?_
      · clear hw; go_simp
      try simp only [Act.put, s1, s2, s3]
      refine tI 20 (v := .bool false) (d := some 4) rfl rfl (fun w' hw => ?_) hS' ?_
      · clear hw; go_simp
      try simp only [Act.put, s1, s2, s3]
      refine wpAnyH_done (by kernel_rfl) ?_ _
      have B := hS'.b
      clear hS'
      go_wp2_with (fail)
      go_ret
      exact ⟨ret_bool (boolOf_f H.out), B⟩
    · obtain ⟨d1, d2, d3, d4⟩ := hd
      clear hlast
      have H : Hid (Place s p g) := ⟨fun e => by omega, fun e => by unfold hS; omega, fun e => by omega, fun e => by omega, fun e => absurd e (by omega)⟩
      have E := Eg.start w s p l g 62 68
      have q0 := at0 E.c 0 (v := .int .i64 s) rfl
      have q1 := at0 E.c 1 (v := .int .i64 p) rfl
      have q2 := at0 E.c 2 (v := .int .i64 l) rfl
      have c_pc := at0 E.r 8 (v := .int .i64 g.pc) rfl
      have c_k := at0 E.r 9 (v := .int .i64 g.k) rfl
      have c_n := at0 E.r 10 (v := .int .i64 g.n) rfl
      have c_who := at0 E.r 13 (v := .int .i64 g.who) rfl
      have c_own := at0 E.r 15 (v := .bool g.own) rfl
      have c_oa := at0 E.r 6 (v := .int .i64 g.oa) rfl
      have c_snap := at0 E.r 21 (v := .slice g.snap.a g.snap.n g.snap.c) rfl
      have c_plan := at0 E.r 22 (v := .slice g.plan.a g.plan.n g.plan.c) rfl
      have B := E.b
      go_enter Tryz.func47, Tryz.ntmps47
      go_wp2_with (fail)
      have Q := E.drew
      clear c_pc c_k c_n c_who c_own c_oa c_snap c_plan q0 q1 q2 B E
      refine wp_region_held_drew (S := Eg w s p l g) (by kernel_rfl) Q (fun hS' => ?_)
      clear Q
      generalize World.drew _ = V at hS' ⊢
      refine tI 0 (v := .pointer (some ⟨w.heap.size + 1, 21, none⟩)) (d := some 26) rfl rfl (fun w' hw => ?_) hS' ?_
      · clear hw; go_simp
      try simp only [Act.put, s1, s2, s3]
      refine tI 1 (v := .slice g.snap.a g.snap.n g.snap.c) (d := some 27) rfl rfl (fun w' hw => ?_) hS' ?_
      · have g0 : w'.cell? ⟨w.heap.size + 1, 21, none⟩ = some (.slice g.snap.a g.snap.n g.snap.c) := hw.r 21 _ rfl; clear hw; go_simp
      try simp only [Act.put, s1, s2, s3]
      refine tI 2 (v := .int .i64 g.snap.n) (d := some 28) rfl rfl (fun w' hw => ?_) hS' ?_
      · clear hw; go_simp
      try simp only [Act.put, s1, s2, s3]
      refine tB 3 (v := .agg #[.int .i64 s, .int .i64 p, .int .i64 l]) (d := some 29) rfl rfl (yieldsIf_load_mid (by rfl) 62 _ rfl w.heap.size 0 rfl (ints [s, p, l]) _ (fun w hw => hw.c) Tryz.underlying62 rfl (by kernel_rfl)) hS' ?_
      try simp only [Act.put, s1, s2, s3]
      refine r1 4 rfl (fun K hK => ?_)
      go_simp
      refine (sHouse_ok s p l _ hok).mono ?_
      rintro e w1 ⟨rfl, rfl⟩
      have Q := hS'.later (below1 _ (.cells #[.int .i64 s, .int .i64 p, .int .i64 l] 62))
      clear hS'
      go_wp2_with (fail)
      refine hK.out _ _ Q (fun hS' => ?_)
      clear Q
      clear hK K
      try simp only [Act.put, s1, s2, s3]
      refine tI 5 (v := .bool true) (d := some 31) rfl rfl (fun w' hw => ?_) hS' ?_
      · clear hw; go_simp <;> omega
      try simp only [Act.put, s1, s2, s3]
      refine tI 6 (v := .bool true) (d := some 32) rfl rfl (fun w' hw => ?_) hS' ?_
      · clear hw; go_simp
      try simp only [Act.put, s1, s2, s3]
      refine tI 7 (v := .pointer (some ⟨w.heap.size + 1, 4, none⟩)) (d := some 33) rfl rfl (fun w' hw => ?_) hS' ?_
      · clear hw; go_simp
      try simp only [Act.put, s1, s2, s3]
      refine tI 8 (v := .pointer (some ⟨w.heap.size + 1, 6, none⟩)) (d := some 34) rfl rfl (fun w' hw => ?_) hS' ?_
      · clear hw; go_simp
      try simp only [Act.put, s1, s2, s3]
      refine tI 9 (v := .int .i64 g.oa) (d := some 35) rfl rfl (fun w' hw => ?_) hS' ?_
      · have g0 : w'.cell? ⟨w.heap.size + 1, 6, none⟩ = some (.int .i64 g.oa) := hw.r 6 _ rfl; clear hw; go_simp
      try simp only [Act.put, s1, s2, s3]
      refine tI 10 (v := .bool true) (d := some 36) rfl rfl (fun w' hw => ?_) hS' ?_
      · clear hw; go_simp <;> omega
      try simp only [Act.put, s1, s2, s3]
      refine tI 11 (v := .bool true) (d := some 37) rfl rfl (fun w' hw => ?_) hS' ?_
      · clear hw; go_simp
      try simp only [Act.put, s1, s2, s3]
      refine tI 12 (v := .bool true) (d := some 38) rfl rfl (fun w' hw => ?_) hS' ?_
      · clear hw; go_simp
      try simp only [Act.put, s1, s2, s3]
      refine tI 13 (v := .pointer (some ⟨w.heap.size + 1, 4, none⟩)) (d := some 39) rfl rfl (fun w' hw => ?_) hS' ?_
      · clear hw; go_simp
      try simp only [Act.put, s1, s2, s3]
      refine tI 14 (v := .pointer (some ⟨w.heap.size + 1, 6, none⟩)) (d := some 40) rfl rfl (fun w' hw => ?_) hS' ?_
      · clear hw; go_simp
      try simp only [Act.put, s1, s2, s3]
      refine tI 15 (v := .int .i64 g.oa) (d := some 41) rfl rfl (fun w' hw => ?_) hS' ?_
      · have g0 : w'.cell? ⟨w.heap.size + 1, 6, none⟩ = some (.int .i64 g.oa) := hw.r 6 _ rfl; clear hw; go_simp
      try simp only [Act.put, s1, s2, s3]
      refine tI 16 (v := .pointer (some ⟨w.heap.size, 0, none⟩)) (d := some 42) rfl rfl (fun w' hw => ?_) hS' ?_
      · clear hw; go_simp
      try simp only [Act.put, s1, s2, s3]
      refine tI 17 (v := .int .i64 s) (d := some 43) rfl rfl (fun w' hw => ?_) hS' ?_
      · have g0 : w'.cell? ⟨w.heap.size, 0, none⟩ = some (.int .i64 s) := hw.c 0 _ rfl; clear hw; go_simp
      try simp only [Act.put, s1, s2, s3]
      refine tI 18 (v := .bool true) (d := some 44) rfl rfl (fun w' hw => ?_) hS' ?_
      · clear hw; go_simp <;> omega
      try simp only [Act.put, s1, s2, s3]
      refine tI 19 (v := .bool true) (d := some 45) rfl rfl (fun w' hw => ?_) hS' ?_
      · clear hw; go_simp
      try simp only [Act.put, s1, s2, s3]
      refine tI 20 (v := .bool true) (d := some 4) rfl rfl (fun w' hw => ?_) hS' ?_
      · clear hw; go_simp
      try simp only [Act.put, s1, s2, s3]
      refine wpAnyH_done (by kernel_rfl) ?_ _
      have B := hS'.b
      clear hS'
      go_wp2_with (fail)
      go_ret
      exact ⟨ret_bool (boolOf_t H.out), B⟩
  · obtain ⟨p1, p2⟩ := hc
    have t11 : (g.pc == 11) = false := by simp; omega
    have t12 : (g.pc == 12) = false := by simp; omega
    have t13 : (g.pc == 13) = false := by simp; omega
    have t14 : (g.pc == 14) = false := by simp; omega
    rcases (by omega : (s ≤ g.who) ∨ (g.who < s)) with hd | hd
    · have d1 := hd
      clear hlast
      have H : Hid (¬ Place s p g) := fun h => by
        obtain ⟨k1, k2, k3, k4, k5⟩ := h
        omega
      have E := Eg.start w s p l g 62 68
      have q0 := at0 E.c 0 (v := .int .i64 s) rfl
      have q1 := at0 E.c 1 (v := .int .i64 p) rfl
      have q2 := at0 E.c 2 (v := .int .i64 l) rfl
      have c_pc := at0 E.r 8 (v := .int .i64 g.pc) rfl
      have c_k := at0 E.r 9 (v := .int .i64 g.k) rfl
      have c_n := at0 E.r 10 (v := .int .i64 g.n) rfl
      have c_who := at0 E.r 13 (v := .int .i64 g.who) rfl
      have c_own := at0 E.r 15 (v := .bool g.own) rfl
      have c_oa := at0 E.r 6 (v := .int .i64 g.oa) rfl
      have c_snap := at0 E.r 21 (v := .slice g.snap.a g.snap.n g.snap.c) rfl
      have c_plan := at0 E.r 22 (v := .slice g.plan.a g.plan.n g.plan.c) rfl
      have B := E.b
      clear E
      go_enter Tryz.func47, Tryz.ntmps47
      go_wp2_with (fail)
      go_ret
      exact ⟨ret_bool (by first | exact boolOf_f H.out | (rw [← boolOf_f H.out]; simp; omega)), B⟩
    · have d1 := hd
      clear hlast
      have H : Hid (Place s p g) := ⟨fun e => by omega, fun e => by omega, fun e => by omega, fun e => by omega, fun e => absurd e (by omega)⟩
      have E := Eg.start w s p l g 62 68
      have q0 := at0 E.c 0 (v := .int .i64 s) rfl
      have q1 := at0 E.c 1 (v := .int .i64 p) rfl
      have q2 := at0 E.c 2 (v := .int .i64 l) rfl
      have c_pc := at0 E.r 8 (v := .int .i64 g.pc) rfl
      have c_k := at0 E.r 9 (v := .int .i64 g.k) rfl
      have c_n := at0 E.r 10 (v := .int .i64 g.n) rfl
      have c_who := at0 E.r 13 (v := .int .i64 g.who) rfl
      have c_own := at0 E.r 15 (v := .bool g.own) rfl
      have c_oa := at0 E.r 6 (v := .int .i64 g.oa) rfl
      have c_snap := at0 E.r 21 (v := .slice g.snap.a g.snap.n g.snap.c) rfl
      have c_plan := at0 E.r 22 (v := .slice g.plan.a g.plan.n g.plan.c) rfl
      have B := E.b
      clear E
      go_enter Tryz.func47, Tryz.ntmps47
      go_wp2_with (fail)
      go_ret
      exact ⟨ret_bool (by first | exact boolOf_t H.out | (rw [← boolOf_t H.out]; simp; omega)), B⟩
  · obtain ⟨p1, p2⟩ := hc
    have t11 : (g.pc == 11) = false := by simp; omega
    have t12 : (g.pc == 12) = false := by simp; omega
    have t13 : (g.pc == 13) = true := by simp; omega
    have t14 : (g.pc == 14) = false := by simp; omega
    rcases (by omega : ((g.plan.n : Int) < g.k) ∨ (g.k ≤ (g.plan.n : Int))) with hd | hd
    · have d1 := hd
      clear hlast
      have H : Hid (¬ Place s p g) := fun h => by
        obtain ⟨k1, k2, k3, k4, k5⟩ := h
        omega
      have E := Eg.start w s p l g 62 68
      have q0 := at0 E.c 0 (v := .int .i64 s) rfl
      have q1 := at0 E.c 1 (v := .int .i64 p) rfl
      have q2 := at0 E.c 2 (v := .int .i64 l) rfl
      have c_pc := at0 E.r 8 (v := .int .i64 g.pc) rfl
      have c_k := at0 E.r 9 (v := .int .i64 g.k) rfl
      have c_n := at0 E.r 10 (v := .int .i64 g.n) rfl
      have c_who := at0 E.r 13 (v := .int .i64 g.who) rfl
      have c_own := at0 E.r 15 (v := .bool g.own) rfl
      have c_oa := at0 E.r 6 (v := .int .i64 g.oa) rfl
      have c_snap := at0 E.r 21 (v := .slice g.snap.a g.snap.n g.snap.c) rfl
      have c_plan := at0 E.r 22 (v := .slice g.plan.a g.plan.n g.plan.c) rfl
      have B := E.b
      clear E
      go_enter Tryz.func47, Tryz.ntmps47
      go_wp2_with (fail)
      go_ret
      exact ⟨ret_bool (by first | exact boolOf_f H.out | (rw [← boolOf_f H.out]; simp; omega)), B⟩
    · have d1 := hd
      clear hlast
      have H : Hid (Place s p g) := ⟨fun e => by omega, fun e => by omega, fun e => by omega, fun e => by omega, fun e => absurd e (by omega)⟩
      have E := Eg.start w s p l g 62 68
      have q0 := at0 E.c 0 (v := .int .i64 s) rfl
      have q1 := at0 E.c 1 (v := .int .i64 p) rfl
      have q2 := at0 E.c 2 (v := .int .i64 l) rfl
      have c_pc := at0 E.r 8 (v := .int .i64 g.pc) rfl
      have c_k := at0 E.r 9 (v := .int .i64 g.k) rfl
      have c_n := at0 E.r 10 (v := .int .i64 g.n) rfl
      have c_who := at0 E.r 13 (v := .int .i64 g.who) rfl
      have c_own := at0 E.r 15 (v := .bool g.own) rfl
      have c_oa := at0 E.r 6 (v := .int .i64 g.oa) rfl
      have c_snap := at0 E.r 21 (v := .slice g.snap.a g.snap.n g.snap.c) rfl
      have c_plan := at0 E.r 22 (v := .slice g.plan.a g.plan.n g.plan.c) rfl
      have B := E.b
      clear E
      go_enter Tryz.func47, Tryz.ntmps47
      go_wp2_with (fail)
      go_ret
      exact ⟨ret_bool (by first | exact boolOf_t H.out | (rw [← boolOf_t H.out]; simp; omega)), B⟩
  · obtain ⟨p1, p2⟩ := hc
    have t11 : (g.pc == 11) = false := by simp; omega
    have t12 : (g.pc == 12) = false := by simp; omega
    have t13 : (g.pc == 13) = false := by simp; omega
    have t14 : (g.pc == 14) = true := by simp; omega
    rcases (by omega : ((g.plan.n : Int) < g.k) ∨ (g.k ≤ (g.plan.n : Int))) with hd | hd
    · have d1 := hd
      clear hlast
      have H : Hid (¬ Place s p g) := fun h => by
        obtain ⟨k1, k2, k3, k4, k5⟩ := h
        omega
      have E := Eg.start w s p l g 62 68
      have q0 := at0 E.c 0 (v := .int .i64 s) rfl
      have q1 := at0 E.c 1 (v := .int .i64 p) rfl
      have q2 := at0 E.c 2 (v := .int .i64 l) rfl
      have c_pc := at0 E.r 8 (v := .int .i64 g.pc) rfl
      have c_k := at0 E.r 9 (v := .int .i64 g.k) rfl
      have c_n := at0 E.r 10 (v := .int .i64 g.n) rfl
      have c_who := at0 E.r 13 (v := .int .i64 g.who) rfl
      have c_own := at0 E.r 15 (v := .bool g.own) rfl
      have c_oa := at0 E.r 6 (v := .int .i64 g.oa) rfl
      have c_snap := at0 E.r 21 (v := .slice g.snap.a g.snap.n g.snap.c) rfl
      have c_plan := at0 E.r 22 (v := .slice g.plan.a g.plan.n g.plan.c) rfl
      have B := E.b
      clear E
      go_enter Tryz.func47, Tryz.ntmps47
      go_wp2_with (fail)
      go_ret
      exact ⟨ret_bool (by first | exact boolOf_f H.out | (rw [← boolOf_f H.out]; simp; omega)), B⟩
    · have d1 := hd
      clear hlast
      have H : Hid (Place s p g) := ⟨fun e => by omega, fun e => by omega, fun e => by omega, fun e => by omega, fun e => absurd e (by omega)⟩
      have E := Eg.start w s p l g 62 68
      have q0 := at0 E.c 0 (v := .int .i64 s) rfl
      have q1 := at0 E.c 1 (v := .int .i64 p) rfl
      have q2 := at0 E.c 2 (v := .int .i64 l) rfl
      have c_pc := at0 E.r 8 (v := .int .i64 g.pc) rfl
      have c_k := at0 E.r 9 (v := .int .i64 g.k) rfl
      have c_n := at0 E.r 10 (v := .int .i64 g.n) rfl
      have c_who := at0 E.r 13 (v := .int .i64 g.who) rfl
      have c_own := at0 E.r 15 (v := .bool g.own) rfl
      have c_oa := at0 E.r 6 (v := .int .i64 g.oa) rfl
      have c_snap := at0 E.r 21 (v := .slice g.snap.a g.snap.n g.snap.c) rfl
      have c_plan := at0 E.r 22 (v := .slice g.plan.a g.plan.n g.plan.c) rfl
      have B := E.b
      clear E
      go_enter Tryz.func47, Tryz.ntmps47
      go_wp2_with (fail)
      go_ret
      exact ⟨ret_bool (by first | exact boolOf_t H.out | (rw [← boolOf_t H.out]; simp; omega)), B⟩
  · obtain ⟨p1, p2⟩ := hc
    have t11 : (g.pc == 11) = false := by simp; omega
    have t12 : (g.pc == 12) = false := by simp; omega
    have t13 : (g.pc == 13) = false := by simp; omega
    have t14 : (g.pc == 14) = false := by simp; omega
    rcases (by omega : (g.k < 1) ∨ (1 ≤ g.k ∧ g.n < g.k) ∨ (1 ≤ g.k ∧ g.k ≤ g.n ∧ s ≤ g.who)) with hd | hd | hd
    · have d1 := hd
      clear hlast
      have H : Hid (¬ Place s p g) := fun h => by
        obtain ⟨k1, k2, k3, k4, k5⟩ := h
        have := k5 (by omega); omega
      have E := Eg.start w s p l g 62 68
      have q0 := at0 E.c 0 (v := .int .i64 s) rfl
      have q1 := at0 E.c 1 (v := .int .i64 p) rfl
      have q2 := at0 E.c 2 (v := .int .i64 l) rfl
      have c_pc := at0 E.r 8 (v := .int .i64 g.pc) rfl
      have c_k := at0 E.r 9 (v := .int .i64 g.k) rfl
      have c_n := at0 E.r 10 (v := .int .i64 g.n) rfl
      have c_who := at0 E.r 13 (v := .int .i64 g.who) rfl
      have c_own := at0 E.r 15 (v := .bool g.own) rfl
      have c_oa := at0 E.r 6 (v := .int .i64 g.oa) rfl
      have c_snap := at0 E.r 21 (v := .slice g.snap.a g.snap.n g.snap.c) rfl
      have c_plan := at0 E.r 22 (v := .slice g.plan.a g.plan.n g.plan.c) rfl
      have B := E.b
      clear E
      go_enter Tryz.func47, Tryz.ntmps47
      go_wp2_with (fail)
      go_ret
      exact ⟨ret_bool (by first | exact boolOf_f H.out | (rw [← boolOf_f H.out]; simp; omega)), B⟩
    · obtain ⟨d1, d2⟩ := hd
      clear hlast
      have H : Hid (¬ Place s p g) := fun h => by
        obtain ⟨k1, k2, k3, k4, k5⟩ := h
        have := k5 (by omega); omega
      have E := Eg.start w s p l g 62 68
      have q0 := at0 E.c 0 (v := .int .i64 s) rfl
      have q1 := at0 E.c 1 (v := .int .i64 p) rfl
      have q2 := at0 E.c 2 (v := .int .i64 l) rfl
      have c_pc := at0 E.r 8 (v := .int .i64 g.pc) rfl
      have c_k := at0 E.r 9 (v := .int .i64 g.k) rfl
      have c_n := at0 E.r 10 (v := .int .i64 g.n) rfl
      have c_who := at0 E.r 13 (v := .int .i64 g.who) rfl
      have c_own := at0 E.r 15 (v := .bool g.own) rfl
      have c_oa := at0 E.r 6 (v := .int .i64 g.oa) rfl
      have c_snap := at0 E.r 21 (v := .slice g.snap.a g.snap.n g.snap.c) rfl
      have c_plan := at0 E.r 22 (v := .slice g.plan.a g.plan.n g.plan.c) rfl
      have B := E.b
      clear E
      go_enter Tryz.func47, Tryz.ntmps47
      go_wp2_with (fail)
      go_ret
      exact ⟨ret_bool (by first | exact boolOf_f H.out | (rw [← boolOf_f H.out]; simp; omega)), B⟩
    · obtain ⟨d1, d2, d3⟩ := hd
      clear hlast
      have H : Hid (¬ Place s p g) := fun h => by
        obtain ⟨k1, k2, k3, k4, k5⟩ := h
        have := k5 (by omega); omega
      have E := Eg.start w s p l g 62 68
      have q0 := at0 E.c 0 (v := .int .i64 s) rfl
      have q1 := at0 E.c 1 (v := .int .i64 p) rfl
      have q2 := at0 E.c 2 (v := .int .i64 l) rfl
      have c_pc := at0 E.r 8 (v := .int .i64 g.pc) rfl
      have c_k := at0 E.r 9 (v := .int .i64 g.k) rfl
      have c_n := at0 E.r 10 (v := .int .i64 g.n) rfl
      have c_who := at0 E.r 13 (v := .int .i64 g.who) rfl
      have c_own := at0 E.r 15 (v := .bool g.own) rfl
      have c_oa := at0 E.r 6 (v := .int .i64 g.oa) rfl
      have c_snap := at0 E.r 21 (v := .slice g.snap.a g.snap.n g.snap.c) rfl
      have c_plan := at0 E.r 22 (v := .slice g.plan.a g.plan.n g.plan.c) rfl
      have B := E.b
      clear E
      go_enter Tryz.func47, Tryz.ntmps47
      go_wp2_with (fail)
      go_ret
      exact ⟨ret_bool (by first | exact boolOf_f H.out | (rw [← boolOf_f H.out]; simp; omega)), B⟩
  · have p1 := hc
    have t11 : (g.pc == 11) = false := by simp; omega
    have t12 : (g.pc == 12) = false := by simp; omega
    have t13 : (g.pc == 13) = false := by simp; omega
    have t14 : (g.pc == 14) = false := by simp; omega
    skip
    clear hlast
    have H : Hid (Place s p g) := ⟨fun e => by omega, fun e => by omega, fun e => by omega, fun e => by omega, fun e => absurd e (by omega)⟩
    have E := Eg.start w s p l g 62 68
    have q0 := at0 E.c 0 (v := .int .i64 s) rfl
    have q1 := at0 E.c 1 (v := .int .i64 p) rfl
    have q2 := at0 E.c 2 (v := .int .i64 l) rfl
    have c_pc := at0 E.r 8 (v := .int .i64 g.pc) rfl
    have c_k := at0 E.r 9 (v := .int .i64 g.k) rfl
    have c_n := at0 E.r 10 (v := .int .i64 g.n) rfl
    have c_who := at0 E.r 13 (v := .int .i64 g.who) rfl
    have c_own := at0 E.r 15 (v := .bool g.own) rfl
    have c_oa := at0 E.r 6 (v := .int .i64 g.oa) rfl
    have c_snap := at0 E.r 21 (v := .slice g.snap.a g.snap.n g.snap.c) rfl
    have c_plan := at0 E.r 22 (v := .slice g.plan.a g.plan.n g.plan.c) rfl
    have B := E.b
    clear E
    go_enter Tryz.func47, Tryz.ntmps47
    go_wp2_with (fail)
    go_ret
    exact ⟨ret_bool (by first | exact boolOf_t H.out | (rw [← boolOf_t H.out]; simp; omega)), B⟩
  · obtain ⟨p1, p2⟩ := hc
    have t11 : (g.pc == 11) = false := by simp; omega
    have t12 : (g.pc == 12) = false := by simp; omega
    have t13 : (g.pc == 13) = false := by simp; omega
    have t14 : (g.pc == 14) = false := by simp; omega
    skip
    clear hlast
    have H : Hid (Place s p g) := ⟨fun e => by omega, fun e => by omega, fun e => by omega, fun e => by omega, fun e => absurd e (by omega)⟩
    have E := Eg.start w s p l g 62 68
    have q0 := at0 E.c 0 (v := .int .i64 s) rfl
    have q1 := at0 E.c 1 (v := .int .i64 p) rfl
    have q2 := at0 E.c 2 (v := .int .i64 l) rfl
    have c_pc := at0 E.r 8 (v := .int .i64 g.pc) rfl
    have c_k := at0 E.r 9 (v := .int .i64 g.k) rfl
    have c_n := at0 E.r 10 (v := .int .i64 g.n) rfl
    have c_who := at0 E.r 13 (v := .int .i64 g.who) rfl
    have c_own := at0 E.r 15 (v := .bool g.own) rfl
    have c_oa := at0 E.r 6 (v := .int .i64 g.oa) rfl
    have c_snap := at0 E.r 21 (v := .slice g.snap.a g.snap.n g.snap.c) rfl
    have c_plan := at0 E.r 22 (v := .slice g.plan.a g.plan.n g.plan.c) rfl
    have B := E.b
    clear E
    go_enter Tryz.func47, Tryz.ntmps47
    go_wp2_with (fail)
    go_ret
    exact ⟨ret_bool (by first | exact boolOf_t H.out | (rw [← boolOf_t H.out]; simp; omega)), B⟩
  · have p1 := hc
    have t11 : (g.pc == 11) = false := by simp; omega
    have t12 : (g.pc == 12) = false := by simp; omega
    have t13 : (g.pc == 13) = false := by simp; omega
    have t14 : (g.pc == 14) = false := by simp; omega
    skip
    clear hlast
    have H : Hid (Place s p g) := ⟨fun e => by omega, fun e => by omega, fun e => by omega, fun e => by omega, fun e => absurd e (by omega)⟩
    have E := Eg.start w s p l g 62 68
    have q0 := at0 E.c 0 (v := .int .i64 s) rfl
    have q1 := at0 E.c 1 (v := .int .i64 p) rfl
    have q2 := at0 E.c 2 (v := .int .i64 l) rfl
    have c_pc := at0 E.r 8 (v := .int .i64 g.pc) rfl
    have c_k := at0 E.r 9 (v := .int .i64 g.k) rfl
    have c_n := at0 E.r 10 (v := .int .i64 g.n) rfl
    have c_who := at0 E.r 13 (v := .int .i64 g.who) rfl
    have c_own := at0 E.r 15 (v := .bool g.own) rfl
    have c_oa := at0 E.r 6 (v := .int .i64 g.oa) rfl
    have c_snap := at0 E.r 21 (v := .slice g.snap.a g.snap.n g.snap.c) rfl
    have c_plan := at0 E.r 22 (v := .slice g.plan.a g.plan.n g.plan.c) rfl
    have B := E.b
    clear E
    go_enter Tryz.func47, Tryz.ntmps47
    go_wp2_with (fail)
    go_ret
    exact ⟨ret_bool (by first | exact boolOf_t H.out | (rw [← boolOf_t H.out]; simp; omega)), B⟩

end Go.Proofs.YtgfbfgiohmdjmaaGreat.Gs

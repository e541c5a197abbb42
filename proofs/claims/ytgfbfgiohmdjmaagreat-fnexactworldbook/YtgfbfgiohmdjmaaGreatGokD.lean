/- The bounds of a guest's numbers, as the specification tests them (the last ones). Conditions: none. -/
import Derived.Test.YtgfbfgiohmdjmaaGreatM4
import Derived.Test.YtgfbfgiohmdjmaaGreatM6
namespace Go.Proofs.YtgfbfgiohmdjmaaGreat.Gs
open Go.ChangeShapes Go.WideShapes Go.ChangeAt Go.RowKit
open Aid Lst Plat
open Book (Sx takeB)
set_option maxRecDepth 100000
set_option linter.unusedVariables false

theorem Eg.drew {w W : World} {s p l : Int} {g : Gx} (h : Eg w s p l g W) : Eg w s p l g W.drew := ⟨h.c, h.r, h.b.drew, h.lt⟩

set_option maxHeartbeats 16000000 in
theorem sfields_D (s p l : Int) (g : Gx) (w : World) (hok : 1 ≤ s ∧ s ≤ 4 ∧ 1 ≤ p ∧ p ≤ 6 ∧ 1 ≤ l ∧ l ≤ 20)
    (h1 : ¬ (g.slot < 0))
    (h2 : ¬ (s ≤ g.slot))
    (h3 : ¬ (g.epoch < 0))
    (h4 : ¬ (4095 < g.epoch))
    (h5 : ¬ (g.next < 0))
    (h6 : ¬ (4095 < g.next))
    (h7 : ¬ (g.pc < 0))
    (h8 : ¬ (26 < g.pc))
    (h9 : ¬ (g.seq < 0))
    (h10 : ¬ (1000001 < g.seq))
    (h11 : ¬ (g.who < 0))
    (h12 : ¬ (7 < g.who))
    : Calls Tryz.prog 46 #[.agg #[.int .i64 s, .int .i64 p, .int .i64 l], .agg g.cells.toArray] w fun e w' => e = .returned (.bool (boolOf (Fields s p g))) ∧ Below w.heap.size w w' := by
  by_cases h13 : g.whoE < 0
  · have H : Hid (¬ Fields s p g) := fun h => by unfold Fields hS at h; omega
    have E := Eg.start w s p l g 62 68
    have q0 := at0 E.c 0 (v := .int .i64 s) rfl
    have q1 := at0 E.c 1 (v := .int .i64 p) rfl
    have q2 := at0 E.c 2 (v := .int .i64 l) rfl
    have c_slot := at0 E.r 1 (v := .int .i64 g.slot) rfl
    have c_epoch := at0 E.r 2 (v := .int .i64 g.epoch) rfl
    have c_next := at0 E.r 12 (v := .int .i64 g.next) rfl
    have c_pc := at0 E.r 8 (v := .int .i64 g.pc) rfl
    have c_seq := at0 E.r 11 (v := .int .i64 g.seq) rfl
    have c_who := at0 E.r 13 (v := .int .i64 g.who) rfl
    have c_whoE := at0 E.r 14 (v := .int .i64 g.whoE) rfl
    have B := E.b
    clear E
    go_enter Tryz.func46, Tryz.ntmps46
    go_wp2_with (fail)
    go_ret
    exact ⟨ret_bool (boolOf_f H.out), B⟩
  by_cases h14 : 4095 < g.whoE
  · have H : Hid (¬ Fields s p g) := fun h => by unfold Fields hS at h; omega
    have E := Eg.start w s p l g 62 68
    have q0 := at0 E.c 0 (v := .int .i64 s) rfl
    have q1 := at0 E.c 1 (v := .int .i64 p) rfl
    have q2 := at0 E.c 2 (v := .int .i64 l) rfl
    have c_slot := at0 E.r 1 (v := .int .i64 g.slot) rfl
    have c_epoch := at0 E.r 2 (v := .int .i64 g.epoch) rfl
    have c_next := at0 E.r 12 (v := .int .i64 g.next) rfl
    have c_pc := at0 E.r 8 (v := .int .i64 g.pc) rfl
    have c_seq := at0 E.r 11 (v := .int .i64 g.seq) rfl
    have c_who := at0 E.r 13 (v := .int .i64 g.who) rfl
    have c_whoE := at0 E.r 14 (v := .int .i64 g.whoE) rfl
    have B := E.b
    clear E
    go_enter Tryz.func46, Tryz.ntmps46
    go_wp2_with (fail)
    go_ret
    exact ⟨ret_bool (boolOf_f H.out), B⟩
  have E := Eg.start w s p l g 62 68
  have q0 := at0 E.c 0 (v := .int .i64 s) rfl
  have q1 := at0 E.c 1 (v := .int .i64 p) rfl
  have q2 := at0 E.c 2 (v := .int .i64 l) rfl
  have c_slot := at0 E.r 1 (v := .int .i64 g.slot) rfl
  have c_epoch := at0 E.r 2 (v := .int .i64 g.epoch) rfl
  have c_next := at0 E.r 12 (v := .int .i64 g.next) rfl
  have c_pc := at0 E.r 8 (v := .int .i64 g.pc) rfl
  have c_seq := at0 E.r 11 (v := .int .i64 g.seq) rfl
  have c_who := at0 E.r 13 (v := .int .i64 g.who) rfl
  have c_whoE := at0 E.r 14 (v := .int .i64 g.whoE) rfl
  have B := E.b
  go_enter Tryz.func46, Tryz.ntmps46
  go_wp2_with (fail)
  have Q := E.drew
  clear c_slot c_epoch c_next c_pc c_seq c_who c_whoE q0 q1 q2 B E
  refine wp_region_held_drew (S := Eg w s p l g) (by kernel_rfl) Q (fun hS' => ?_)
  clear Q
  generalize World.drew _ = V at hS' ⊢
  by_cases h15 : g.n < 0
  · have H : Hid (¬ Fields s p g) := fun h => by unfold Fields hS at h; omega
    refine tI 0 (v := .pointer (some ⟨w.heap.size + 1, 10, none⟩)) (d := some 75) rfl rfl (fun w' hw => ?_) hS' ?_
    · clear hw; go_simp
    try simp only [Act.put, s1, s2, s3]
    refine tI 1 (v := .int .i64 g.n) (d := some 76) rfl rfl (fun w' hw => ?_) hS' ?_
    · have g0 : w'.cell? ⟨w.heap.size + 1, 10, none⟩ = some (.int .i64 g.n) := hw.r 10 _ rfl; clear hw; go_simp
    try simp only [Act.put, s1, s2, s3]
    refine tI 2 (v := .bool false) (d := some 77) rfl rfl (fun w' hw => ?_) hS' ?_
    · clear hw; go_simp <;> omega
    try simp only [Act.put, s1, s2, s3]
    refine tI 3 (v := .bool false) (d := some 78) rfl rfl (fun w' hw => ?_) hS' ?_
    · clear hw; go_simp
    try simp only [Act.put, s1, s2, s3]
    refine tS 4 (d := some 79) rfl rfl hS' ?_
    try simp only [Act.put, s1, s2, s3]
    refine tS 5 (d := some 80) rfl rfl hS' ?_
    try simp only [Act.put, s1, s2, s3]
    refine tS 6 (d := some 81) rfl rfl hS' ?_
    try simp only [Act.put, s1, s2, s3]
    refine tI 7 (v := .bool false) (d := some 82) rfl rfl (fun w' hw => ?_) hS' ?_
    · clear hw; go_simp
    try simp only [Act.put, s1, s2, s3]
    refine tI 8 (v := .bool false) (d := some 83) rfl rfl (fun w' hw => ?_) hS' ?_
    · clear hw; go_simp
    try simp only [Act.put, s1, s2, s3]
    refine tS 9 (d := some 84) rfl rfl hS' ?_
    try simp only [Act.put, s1, s2, s3]
    refine tS 10 (d := some 85) rfl rfl hS' ?_
    try simp only [Act.put, s1, s2, s3]
    refine tS 11 (d := some 86) rfl rfl hS' ?_
    try simp only [Act.put, s1, s2, s3]
    refine tI 12 (v := .bool false) (d := some 87) rfl rfl (fun w' hw => ?_) hS' ?_
    · clear hw; go_simp
    try simp only [Act.put, s1, s2, s3]
    refine tI 13 (v := .bool false) (d := some 88) rfl rfl (fun w' hw => ?_) hS' ?_
    · clear hw; go_simp
    try simp only [Act.put, s1, s2, s3]
    refine tS 14 (d := some 89) rfl rfl hS' ?_
    try simp only [Act.put, s1, s2, s3]
    refine tS 15 (d := some 90) rfl rfl hS' ?_
    try simp only [Act.put, s1, s2, s3]
    refine tS 16 (d := some 91) rfl rfl hS' ?_
    try simp only [Act.put, s1, s2, s3]
    refine tS 17 (d := some 92) rfl rfl hS' ?_
    try simp only [Act.put, s1, s2, s3]
    refine tS 18 (d := some 93) rfl rfl hS' ?_
    try simp only [Act.put, s1, s2, s3]
    refine tI 19 (v := .bool false) (d := some 94) rfl rfl (fun w' hw => ?_) hS' ?_
    · clear hw; go_simp
    try simp only [Act.put, s1, s2, s3]
    refine tI 20 (v := .bool false) (d := some 95) rfl rfl (fun w' hw => ?_) hS' ?_
    · clear hw; go_simp
    try simp only [Act.put, s1, s2, s3]
    refine tS 21 (d := some 96) rfl rfl hS' ?_
    try simp only [Act.put, s1, s2, s3]
    refine tS 22 (d := some 97) rfl rfl hS' ?_
    try simp only [Act.put, s1, s2, s3]
    refine tS 23 (d := some 98) rfl rfl hS' ?_
    try simp only [Act.put, s1, s2, s3]
    refine tS 24 (d := some 99) rfl rfl hS' ?_
    try simp only [Act.put, s1, s2, s3]
    refine tS 25 (d := some 100) rfl rfl hS' ?_
    try simp only [Act.put, s1, s2, s3]
    refine tS 26 (d := some 101) rfl rfl hS' ?_
    try simp only [Act.put, s1, s2, s3]
    refine tI 27 (v := .bool false) (d := some 102) rfl rfl (fun w' hw => ?_) hS' ?_
    · clear hw; go_simp
    try simp only [Act.put, s1, s2, s3]
    refine tI 28 (v := .bool false) (d := some 103) rfl rfl (fun w' hw => ?_) hS' ?_
    · clear hw; go_simp
    try simp only [Act.put, s1, s2, s3]
    refine tS 29 (d := some 104) rfl rfl hS' ?_
    try simp only [Act.put, s1, s2, s3]
    refine tS 30 (d := some 105) rfl rfl hS' ?_
    try simp only [Act.put, s1, s2, s3]
    refine tS 31 (d := some 106) rfl rfl hS' ?_
    try simp only [Act.put, s1, s2, s3]
    refine tS 32 (d := some 107) rfl rfl hS' ?_
    try simp only [Act.put, s1, s2, s3]
    refine tI 33 (v := .bool false) (d := some 108) rfl rfl (fun w' hw => ?_) hS' ?_
    · clear hw; go_simp
    try simp only [Act.put, s1, s2, s3]
    refine tI 34 (v := .bool false) (d := some 109) rfl rfl (fun w' hw => ?_) hS' ?_
    · clear hw; go_simp
    try simp only [Act.put, s1, s2, s3]
    refine tS 35 (d := some 110) rfl rfl hS' ?_
    try simp only [Act.put, s1, s2, s3]
    refine tS 36 (d := some 111) rfl rfl hS' ?_
    try simp only [Act.put, s1, s2, s3]
    refine tS 37 (d := some 112) rfl rfl hS' ?_
    try simp only [Act.put, s1, s2, s3]
    refine tI 38 (v := .bool false) (d := some 113) rfl rfl (fun w' hw => ?_) hS' ?_
    · clear hw; go_simp
    try simp only [Act.put, s1, s2, s3]
    refine tI 39 (v := .bool false) (d := some 114) rfl rfl (fun w' hw => ?_) hS' ?_
    · clear hw; go_simp
    try simp only [Act.put, s1, s2, s3]
    refine tS 40 (d := some 115) rfl rfl hS' ?_
    try simp only [Act.put, s1, s2, s3]
    refine tS 41 (d := some 116) rfl rfl hS' ?_
    try simp only [Act.put, s1, s2, s3]
    refine tS 42 (d := some 117) rfl rfl hS' ?_
    try simp only [Act.put, s1, s2, s3]
    refine tI 43 (v := .bool false) (d := some 118) rfl rfl (fun w' hw => ?_) hS' ?_
    · clear hw; go_simp
    try simp only [Act.put, s1, s2, s3]
    refine tI 44 (v := .bool false) (d := some 4) rfl rfl (fun w' hw => ?_) hS' ?_
    · clear hw; go_simp
    try simp only [Act.put, s1, s2, s3]
    refine wpAnyH_done (by kernel_rfl) ?_ _
    have B := hS'.b
    clear hS'
    go_wp2_with (fail)
    go_ret
    exact ⟨ret_bool (boolOf_f H.out), B⟩
  by_cases h16 : 20 < g.n
  · have H : Hid (¬ Fields s p g) := fun h => by unfold Fields hS at h; omega
    refine tI 0 (v := .pointer (some ⟨w.heap.size + 1, 10, none⟩)) (d := some 75) rfl rfl (fun w' hw => ?_) hS' ?_
    · clear hw; go_simp
    try simp only [Act.put, s1, s2, s3]
    refine tI 1 (v := .int .i64 g.n) (d := some 76) rfl rfl (fun w' hw => ?_) hS' ?_
    · have g0 : w'.cell? ⟨w.heap.size + 1, 10, none⟩ = some (.int .i64 g.n) := hw.r 10 _ rfl; clear hw; go_simp
    try simp only [Act.put, s1, s2, s3]
    refine tI 2 (v := .bool true) (d := some 77) rfl rfl (fun w' hw => ?_) hS' ?_
    · clear hw; go_simp <;> omega
    try simp only [Act.put, s1, s2, s3]
    refine tI 3 (v := .bool true) (d := some 78) rfl rfl (fun w' hw => ?_) hS' ?_
    · clear hw; go_simp
    try simp only [Act.put, s1, s2, s3]
    refine tI 4 (v := .pointer (some ⟨w.heap.size + 1, 10, none⟩)) (d := some 79) rfl rfl (fun w' hw => ?_) hS' ?_
    · clear hw; go_simp
    try simp only [Act.put, s1, s2, s3]
    refine tI 5 (v := .int .i64 g.n) (d := some 80) rfl rfl (fun w' hw => ?_) hS' ?_
    · have g0 : w'.cell? ⟨w.heap.size + 1, 10, none⟩ = some (.int .i64 g.n) := hw.r 10 _ rfl; clear hw; go_simp
    try simp only [Act.put, s1, s2, s3]
    refine tI 6 (v := .bool false) (d := some 81) rfl rfl (fun w' hw => ?_) hS' ?_
    · clear hw; go_simp <;> omega
    try simp only [Act.put, s1, s2, s3]
    refine tI 7 (v := .bool false) (d := some 82) rfl rfl (fun w' hw => ?_) hS' ?_
    · clear hw; go_simp
    try simp only [Act.put, s1, s2, s3]
    refine tI 8 (v := .bool false) (d := some 83) rfl rfl (fun w' hw => ?_) hS' ?_
    · clear hw; go_simp
    try simp only [Act.put, s1, s2, s3]
    refine tS 9 (d := some 84) rfl rfl hS' ?_
    try simp only [Act.put, s1, s2, s3]
    refine tS 10 (d := some 85) rfl rfl hS' ?_
    try simp only [Act.put, s1, s2, s3]
    refine tS 11 (d := some 86) rfl rfl hS' ?_
    try simp only [Act.put, s1, s2, s3]
    refine tI 12 (v := .bool false) (d := some 87) rfl rfl (fun w' hw => ?_) hS' ?_
    · clear hw; go_simp
    try simp only [Act.put, s1, s2, s3]
    refine tI 13 (v := .bool false) (d := some 88) rfl rfl (fun w' hw => ?_) hS' ?_
    · clear hw; go_simp
    try simp only [Act.put, s1, s2, s3]
    refine tS 14 (d := some 89) rfl rfl hS' ?_
    try simp only [Act.put, s1, s2, s3]
    refine tS 15 (d := some 90) rfl rfl hS' ?_
    try simp only [Act.put, s1, s2, s3]
    refine tS 16 (d := some 91) rfl rfl hS' ?_
    try simp only [Act.put, s1, s2, s3]
    refine tS 17 (d := some 92) rfl rfl hS' ?_
    try simp only [Act.put, s1, s2, s3]
    refine tS 18 (d := some 93) rfl rfl hS' ?_
    try simp only [Act.put, s1, s2, s3]
    refine tI 19 (v := .bool false) (d := some 94) rfl rfl (fun w' hw => ?_) hS' ?_
    · clear hw; go_simp
    try simp only [Act.put, s1, s2, s3]
    refine tI 20 (v := .bool false) (d := some 95) rfl rfl (fun w' hw => ?_) hS' ?_
    · clear hw; go_simp
    try simp only [Act.put, s1, s2, s3]
    refine tS 21 (d := some 96) rfl rfl hS' ?_
    try simp only [Act.put, s1, s2, s3]
    refine tS 22 (d := some 97) rfl rfl hS' ?_
    try simp only [Act.put, s1, s2, s3]
    refine tS 23 (d := some 98) rfl rfl hS' ?_
    try simp only [Act.put, s1, s2, s3]
    refine tS 24 (d := some 99) rfl rfl hS' ?_
    try simp only [Act.put, s1, s2, s3]
    refine tS 25 (d := some 100) rfl rfl hS' ?_
    try simp only [Act.put, s1, s2, s3]
    refine tS 26 (d := some 101) rfl rfl hS' ?_
    try simp only [Act.put, s1, s2, s3]
    refine tI 27 (v := .bool false) (d := some 102) rfl rfl (fun w' hw => ?_) hS' ?_
    · clear hw; go_simp
    try simp only [Act.put, s1, s2, s3]
    refine tI 28 (v := .bool false) (d := some 103) rfl rfl (fun w' hw => ?_) hS' ?_
    · clear hw; go_simp
    try simp only [Act.put, s1, s2, s3]
    refine tS 29 (d := some 104) rfl rfl hS' ?_
    try simp only [Act.put, s1, s2, s3]
    refine tS 30 (d := some 105) rfl rfl hS' ?_
    try simp only [Act.put, s1, s2, s3]
    refine tS 31 (d := some 106) rfl rfl hS' ?_
    try simp only [Act.put, s1, s2, s3]
    refine tS 32 (d := some 107) rfl rfl hS' ?_
    try simp only [Act.put, s1, s2, s3]
    refine tI 33 (v := .bool false) (d := some 108) rfl rfl (fun w' hw => ?_) hS' ?_
    · clear hw; go_simp
    try simp only [Act.put, s1, s2, s3]
    refine tI 34 (v := .bool false) (d := some 109) rfl rfl (fun w' hw => ?_) hS' ?_
    · clear hw; go_simp
    try simp only [Act.put, s1, s2, s3]
    refine tS 35 (d := some 110) rfl rfl hS' ?_
    try simp only [Act.put, s1, s2, s3]
    refine tS 36 (d := some 111) rfl rfl hS' ?_
    try simp only [Act.put, s1, s2, s3]
    refine tS 37 (d := some 112) rfl rfl hS' ?_
    try simp only [Act.put, s1, s2, s3]
    refine tI 38 (v := .bool false) (d := some 113) rfl rfl (fun w' hw => ?_) hS' ?_
    · clear hw; go_simp
    try simp only [Act.put, s1, s2, s3]
    refine tI 39 (v := .bool false) (d := some 114) rfl rfl (fun w' hw => ?_) hS' ?_
    · clear hw; go_simp
    try simp only [Act.put, s1, s2, s3]
    refine tS 40 (d := some 115) rfl rfl hS' ?_
    try simp only [Act.put, s1, s2, s3]
    refine tS 41 (d := some 116) rfl rfl hS' ?_
    try simp only [Act.put, s1, s2, s3]
    refine tS 42 (d := some 117) rfl rfl hS' ?_
    try simp only [Act.put, s1, s2, s3]
    refine tI 43 (v := .bool false) (d := some 118) rfl rfl (fun w' hw => ?_) hS' ?_
    · clear hw; go_simp
    try simp only [Act.put, s1, s2, s3]
    refine tI 44 (v := .bool false) (d := some 4) rfl rfl (fun w' hw => ?_) hS' ?_
    · clear hw; go_simp
    try simp only [Act.put, s1, s2, s3]
    refine wpAnyH_done (by kernel_rfl) ?_ _
    have B := hS'.b
    clear hS'
    go_wp2_with (fail)
    go_ret
    exact ⟨ret_bool (boolOf_f H.out), B⟩
  by_cases h17 : g.k < 0
  · have H : Hid (¬ Fields s p g) := fun h => by unfold Fields hS at h; omega
    refine tI 0 (v := .pointer (some ⟨w.heap.size + 1, 10, none⟩)) (d := some 75) rfl rfl (fun w' hw => ?_) hS' ?_
    · clear hw; go_simp
    try simp only [Act.put, s1, s2, s3]
    refine tI 1 (v := .int .i64 g.n) (d := some 76) rfl rfl (fun w' hw => ?_) hS' ?_
    · have g0 : w'.cell? ⟨w.heap.size + 1, 10, none⟩ = some (.int .i64 g.n) := hw.r 10 _ rfl; clear hw; go_simp
    try simp only [Act.put, s1, s2, s3]
    refine tI 2 (v := .bool true) (d := some 77) rfl rfl (fun w' hw => ?_) hS' ?_
    · clear hw; go_simp <;> omega
    try simp only [Act.put, s1, s2, s3]
    refine tI 3 (v := .bool true) (d := some 78) rfl rfl (fun w' hw => ?_) hS' ?_
    · clear hw; go_simp
    try simp only [Act.put, s1, s2, s3]
    refine tI 4 (v := .pointer (some ⟨w.heap.size + 1, 10, none⟩)) (d := some 79) rfl rfl (fun w' hw => ?_) hS' ?_
    · clear hw; go_simp
    try simp only [Act.put, s1, s2, s3]
    refine tI 5 (v := .int .i64 g.n) (d := some 80) rfl rfl (fun w' hw => ?_) hS' ?_
    · have g0 : w'.cell? ⟨w.heap.size + 1, 10, none⟩ = some (.int .i64 g.n) := hw.r 10 _ rfl; clear hw; go_simp
    try simp only [Act.put, s1, s2, s3]
    refine tI 6 (v := .bool true) (d := some 81) rfl rfl (fun w' hw => ?_) hS' ?_
    · clear hw; go_simp <;> omega
    try simp only [Act.put, s1, s2, s3]
    refine tI 7 (v := .bool true) (d := some 82) rfl rfl (fun w' hw => ?_) hS' ?_
    · clear hw; go_simp
    try simp only [Act.put, s1, s2, s3]
    refine tI 8 (v := .bool true) (d := some 83) rfl rfl (fun w' hw => ?_) hS' ?_
    · clear hw; go_simp
    try simp only [Act.put, s1, s2, s3]
    refine tI 9 (v := .pointer (some ⟨w.heap.size + 1, 9, none⟩)) (d := some 84) rfl rfl (fun w' hw => ?_) hS' ?_
    · clear hw; go_simp
    try simp only [Act.put, s1, s2, s3]
    refine tI 10 (v := .int .i64 g.k) (d := some 85) rfl rfl (fun w' hw => ?_) hS' ?_
    · have g0 : w'.cell? ⟨w.heap.size + 1, 9, none⟩ = some (.int .i64 g.k) := hw.r 9 _ rfl; clear hw; go_simp
    try simp only [Act.put, s1, s2, s3]
    refine tI 11 (v := .bool false) (d := some 86) rfl rfl (fun w' hw => ?_) hS' ?_
    · clear hw; go_simp <;> omega
    try simp only [Act.put, s1, s2, s3]
    refine tI 12 (v := .bool false) (d := some 87) rfl rfl (fun w' hw => ?_) hS' ?_
    · clear hw; go_simp
    try simp only [Act.put, s1, s2, s3]
    refine tI 13 (v := .bool false) (d := some 88) rfl rfl (fun w' hw => ?_) hS' ?_
    · clear hw; go_simp
    try simp only [Act.put, s1, s2, s3]
    refine tS 14 (d := some 89) rfl rfl hS' ?_
    try simp only [Act.put, s1, s2, s3]
    refine tS 15 (d := some 90) rfl rfl hS' ?_
    try simp only [Act.put, s1, s2, s3]
    refine tS 16 (d := some 91) rfl rfl hS' ?_
    try simp only [Act.put, s1, s2, s3]
    refine tS 17 (d := some 92) rfl rfl hS' ?_
    try simp only [Act.put, s1, s2, s3]
    refine tS 18 (d := some 93) rfl rfl hS' ?_
    try simp only [Act.put, s1, s2, s3]
    refine tI 19 (v := .bool false) (d := some 94) rfl rfl (fun w' hw => ?_) hS' ?_
    · clear hw; go_simp
    try simp only [Act.put, s1, s2, s3]
    refine tI 20 (v := .bool false) (d := some 95) rfl rfl (fun w' hw => ?_) hS' ?_
    · clear hw; go_simp
    try simp only [Act.put, s1, s2, s3]
    refine tS 21 (d := some 96) rfl rfl hS' ?_
    try simp only [Act.put, s1, s2, s3]
    refine tS 22 (d := some 97) rfl rfl hS' ?_
    try simp only [Act.put, s1, s2, s3]
    refine tS 23 (d := some 98) rfl rfl hS' ?_
    try simp only [Act.put, s1, s2, s3]
    refine tS 24 (d := some 99) rfl rfl hS' ?_
    try simp only [Act.put, s1, s2, s3]
    refine tS 25 (d := some 100) rfl rfl hS' ?_
    try simp only [Act.put, s1, s2, s3]
    refine tS 26 (d := some 101) rfl rfl hS' ?_
    try simp only [Act.put, s1, s2, s3]
    refine tI 27 (v := .bool false) (d := some 102) rfl rfl (fun w' hw => ?_) hS' ?_
    · clear hw; go_simp
    try simp only [Act.put, s1, s2, s3]
    refine tI 28 (v := .bool false) (d := some 103) rfl rfl (fun w' hw => ?_) hS' ?_
    · clear hw; go_simp
    try simp only [Act.put, s1, s2, s3]
    refine tS 29 (d := some 104) rfl rfl hS' ?_
    try simp only [Act.put, s1, s2, s3]
    refine tS 30 (d := some 105) rfl rfl hS' ?_
    try simp only [Act.put, s1, s2, s3]
    refine tS 31 (d := some 106) rfl rfl hS' ?_
    try simp only [Act.put, s1, s2, s3]
    refine tS 32 (d := some 107) rfl rfl hS' ?_
    try simp only [Act.put, s1, s2, s3]
    refine tI 33 (v := .bool false) (d := some 108) rfl rfl (fun w' hw => ?_) hS' ?_
    · clear hw; go_simp
    try simp only [Act.put, s1, s2, s3]
    refine tI 34 (v := .bool false) (d := some 109) rfl rfl (fun w' hw => ?_) hS' ?_
    · clear hw; go_simp
    try simp only [Act.put, s1, s2, s3]
    refine tS 35 (d := some 110) rfl rfl hS' ?_
    try simp only [Act.put, s1, s2, s3]
    refine tS 36 (d := some 111) rfl rfl hS' ?_
    try simp only [Act.put, s1, s2, s3]
    refine tS 37 (d := some 112) rfl rfl hS' ?_
    try simp only [Act.put, s1, s2, s3]
    refine tI 38 (v := .bool false) (d := some 113) rfl rfl (fun w' hw => ?_) hS' ?_
    · clear hw; go_simp
    try simp only [Act.put, s1, s2, s3]
    refine tI 39 (v := .bool false) (d := some 114) rfl rfl (fun w' hw => ?_) hS' ?_
    · clear hw; go_simp
    try simp only [Act.put, s1, s2, s3]
    refine tS 40 (d := some 115) rfl rfl hS' ?_
    try simp only [Act.put, s1, s2, s3]
    refine tS 41 (d := some 116) rfl rfl hS' ?_
    try simp only [Act.put, s1, s2, s3]
    refine tS 42 (d := some 117) rfl rfl hS' ?_
    try simp only [Act.put, s1, s2, s3]
    refine tI 43 (v := .bool false) (d := some 118) rfl rfl (fun w' hw => ?_) hS' ?_
    · clear hw; go_simp
    try simp only [Act.put, s1, s2, s3]
    refine tI 44 (v := .bool false) (d := some 4) rfl rfl (fun w' hw => ?_) hS' ?_
    · clear hw; go_simp
    try simp only [Act.put, s1, s2, s3]
    refine wpAnyH_done (by kernel_rfl) ?_ _
    have B := hS'.b
    clear hS'
    go_wp2_with (fail)
    go_ret
    exact ⟨ret_bool (boolOf_f H.out), B⟩
  by_cases h18 : 7 + 2 * s + 17 * p < g.k
  · have H : Hid (¬ Fields s p g) := fun h => by unfold Fields hS at h; omega
    refine tI 0 (v := .pointer (some ⟨w.heap.size + 1, 10, none⟩)) (d := some 75) rfl rfl (fun w' hw => ?_) hS' ?_
    · clear hw; go_simp
    try simp only [Act.put, s1, s2, s3]
    refine tI 1 (v := .int .i64 g.n) (d := some 76) rfl rfl (fun w' hw => ?_) hS' ?_
    · have g0 : w'.cell? ⟨w.heap.size + 1, 10, none⟩ = some (.int .i64 g.n) := hw.r 10 _ rfl; clear hw; go_simp
    try simp only [Act.put, s1, s2, s3]
    refine tI 2 (v := .bool true) (d := some 77) rfl rfl (fun w' hw => ?_) hS' ?_
    · clear hw; go_simp <;> omega
    try simp only [Act.put, s1, s2, s3]
    refine tI 3 (v := .bool true) (d := some 78) rfl rfl (fun w' hw => ?_) hS' ?_
    · clear hw; go_simp
    try simp only [Act.put, s1, s2, s3]
    refine tI 4 (v := .pointer (some ⟨w.heap.size + 1, 10, none⟩)) (d := some 79) rfl rfl (fun w' hw => ?_) hS' ?_
    · clear hw; go_simp
    try simp only [Act.put, s1, s2, s3]
    refine tI 5 (v := .int .i64 g.n) (d := some 80) rfl rfl (fun w' hw => ?_) hS' ?_
    · have g0 : w'.cell? ⟨w.heap.size + 1, 10, none⟩ = some (.int .i64 g.n) := hw.r 10 _ rfl; clear hw; go_simp
    try simp only [Act.put, s1, s2, s3]
    refine tI 6 (v := .bool true) (d := some 81) rfl rfl (fun w' hw => ?_) hS' ?_
    · clear hw; go_simp <;> omega
    try simp only [Act.put, s1, s2, s3]
    refine tI 7 (v := .bool true) (d := some 82) rfl rfl (fun w' hw => ?_) hS' ?_
    · clear hw; go_simp
    try simp only [Act.put, s1, s2, s3]
    refine tI 8 (v := .bool true) (d := some 83) rfl rfl (fun w' hw => ?_) hS' ?_
    · clear hw; go_simp
    try simp only [Act.put, s1, s2, s3]
    refine tI 9 (v := .pointer (some ⟨w.heap.size + 1, 9, none⟩)) (d := some 84) rfl rfl (fun w' hw => ?_) hS' ?_
    · clear hw; go_simp
    try simp only [Act.put, s1, s2, s3]
    refine tI 10 (v := .int .i64 g.k) (d := some 85) rfl rfl (fun w' hw => ?_) hS' ?_
    · have g0 : w'.cell? ⟨w.heap.size + 1, 9, none⟩ = some (.int .i64 g.k) := hw.r 9 _ rfl; clear hw; go_simp
    try simp only [Act.put, s1, s2, s3]
    refine tI 11 (v := .bool true) (d := some 86) rfl rfl (fun w' hw => ?_) hS' ?_
    · clear hw; go_simp <;> omega
    try simp only [Act.put, s1, s2, s3]
    refine tI 12 (v := .bool true) (d := some 87) rfl rfl (fun w' hw => ?_) hS' ?_
    · clear hw; go_simp
    try simp only [Act.put, s1, s2, s3]
    refine tI 13 (v := .bool true) (d := some 88) rfl rfl (fun w' hw => ?_) hS' ?_
    · clear hw; go_simp
    try simp only [Act.put, s1, s2, s3]
    refine tI 14 (v := .pointer (some ⟨w.heap.size + 1, 9, none⟩)) (d := some 89) rfl rfl (fun w' hw => ?_) hS' ?_
    · clear hw; go_simp
    try simp only [Act.put, s1, s2, s3]
    refine tI 15 (v := .int .i64 g.k) (d := some 90) rfl rfl (fun w' hw => ?_) hS' ?_
    · have g0 : w'.cell? ⟨w.heap.size + 1, 9, none⟩ = some (.int .i64 g.k) := hw.r 9 _ rfl; clear hw; go_simp
    try simp only [Act.put, s1, s2, s3]
    refine tB 16 (v := .agg #[.int .i64 s, .int .i64 p, .int .i64 l]) (d := some 91) rfl rfl (yieldsIf_load_mid (by rfl) 62 _ rfl w.heap.size 0 rfl (ints [s, p, l]) _ (fun w hw => hw.c) Tryz.underlying62 rfl (by kernel_rfl)) hS' ?_
    try simp only [Act.put, s1, s2, s3]
    refine r1 17 rfl (fun K hK => ?_)
    go_simp
    refine (sHouse_ok s p l _ hok).mono ?_
    rintro e w1 ⟨rfl, rfl⟩
    have Q := hS'.later (below1 _ (.cells #[.int .i64 s, .int .i64 p, .int .i64 l] 62))
    clear hS'
    go_wp2_with (fail)
    refine hK.out _ _ Q (fun hS' => ?_)
    clear Q
    clear hK K
    try simp only [Act.put, s1, s2, s3]
    refine tI 18 (v := .bool false) (d := some 93) rfl rfl (fun w' hw => ?_) hS' ?_
    · clear hw; go_simp <;> omega
    try simp only [Act.put, s1, s2, s3]
    refine tI 19 (v := .bool false) (d := some 94) rfl rfl (fun w' hw => ?_) hS' ?_
    · clear hw; go_simp
    try simp only [Act.put, s1, s2, s3]
    refine tI 20 (v := .bool false) (d := some 95) rfl rfl (fun w' hw => ?_) hS' ?_
    · clear hw; go_simp
    try simp only [Act.put, s1, s2, s3]
    refine tS 21 (d := some 96) rfl rfl hS' ?_
    try simp only [Act.put, s1, s2, s3]
    refine tS 22 (d := some 97) rfl rfl hS' ?_
    try simp only [Act.put, s1, s2, s3]
    refine tS 23 (d := some 98) rfl rfl hS' ?_
    try simp only [Act.put, s1, s2, s3]
    refine tS 24 (d := some 99) rfl rfl hS' ?_
    try simp only [Act.put, s1, s2, s3]
    refine tS 25 (d := some 100) rfl rfl hS' ?_
    try simp only [Act.put, s1, s2, s3]
    refine tS 26 (d := some 101) rfl rfl hS' ?_
    try simp only [Act.put, s1, s2, s3]
    refine tI 27 (v := .bool false) (d := some 102) rfl rfl (fun w' hw => ?_) hS' ?_
    · clear hw; go_simp
    try simp only [Act.put, s1, s2, s3]
    refine tI 28 (v := .bool false) (d := some 103) rfl rfl (fun w' hw => ?_) hS' ?_
    · clear hw; go_simp
    try simp only [Act.put, s1, s2, s3]
    refine tS 29 (d := some 104) rfl rfl hS' ?_
    try simp only [Act.put, s1, s2, s3]
    refine tS 30 (d := some 105) rfl rfl hS' ?_
    try simp only [Act.put, s1, s2, s3]
    refine tS 31 (d := some 106) rfl rfl hS' ?_
    try simp only [Act.put, s1, s2, s3]
    refine tS 32 (d := some 107) rfl rfl hS' ?_
    try simp only [Act.put, s1, s2, s3]
    refine tI 33 (v := .bool false) (d := some 108) rfl rfl (fun w' hw => ?_) hS' ?_
    · clear hw; go_simp
    try simp only [Act.put, s1, s2, s3]
    refine tI 34 (v := .bool false) (d := some 109) rfl rfl (fun w' hw => ?_) hS' ?_
    · clear hw; go_simp
    try simp only [Act.put, s1, s2, s3]
    refine tS 35 (d := some 110) rfl rfl hS' ?_
    try simp only [Act.put, s1, s2, s3]
    refine tS 36 (d := some 111) rfl rfl hS' ?_
    try simp only [Act.put, s1, s2, s3]
    refine tS 37 (d := some 112) rfl rfl hS' ?_
    try simp only [Act.put, s1, s2, s3]
    refine tI 38 (v := .bool false) (d := some 113) rfl rfl (fun w' hw => ?_) hS' ?_
    · clear hw; go_simp
    try simp only [Act.put, s1, s2, s3]
    refine tI 39 (v := .bool false) (d := some 114) rfl rfl (fun w' hw => ?_) hS' ?_
    · clear hw; go_simp
    try simp only [Act.put, s1, s2, s3]
    refine tS 40 (d := some 115) rfl rfl hS' ?_
    try simp only [Act.put, s1, s2, s3]
    refine tS 41 (d := some 116) rfl rfl hS' ?_
    try simp only [Act.put, s1, s2, s3]
    refine tS 42 (d := some 117) rfl rfl hS' ?_
    try simp only [Act.put, s1, s2, s3]
    refine tI 43 (v := .bool false) (d := some 118) rfl rfl (fun w' hw => ?_) hS' ?_
    · clear hw; go_simp
    try simp only [Act.put, s1, s2, s3]
    refine tI 44 (v := .bool false) (d := some 4) rfl rfl (fun w' hw => ?_) hS' ?_
    · clear hw; go_simp
    try simp only [Act.put, s1, s2, s3]
    refine wpAnyH_done (by kernel_rfl) ?_ _
    have B := hS'.b
    clear hS'
    go_wp2_with (fail)
    go_ret
    exact ⟨ret_bool (boolOf_f H.out), B⟩
  by_cases h19 : 7 + 2 * s + 17 * p < (g.snap.n : Int)
  · have H : Hid (¬ Fields s p g) := fun h => by unfold Fields hS at h; omega
    refine tI 0 (v := .pointer (some ⟨w.heap.size + 1, 10, none⟩)) (d := some 75) rfl rfl (fun w' hw => ?_) hS' ?_
    · clear hw; go_simp
    try simp only [Act.put, s1, s2, s3]
    refine tI 1 (v := .int .i64 g.n) (d := some 76) rfl rfl (fun w' hw => ?_) hS' ?_
    · have g0 : w'.cell? ⟨w.heap.size + 1, 10, none⟩ = some (.int .i64 g.n) := hw.r 10 _ rfl; clear hw; go_simp
    try simp only [Act.put, s1, s2, s3]
    refine tI 2 (v := .bool true) (d := some 77) rfl rfl (fun w' hw => ?_) hS' ?_
    · clear hw; go_simp <;> omega
    try simp only [Act.put, s1, s2, s3]
    refine tI 3 (v := .bool true) (d := some 78) rfl rfl (fun w' hw => ?_) hS' ?_
    · clear hw; go_simp
    try simp only [Act.put, s1, s2, s3]
    refine tI 4 (v := .pointer (some ⟨w.heap.size + 1, 10, none⟩)) (d := some 79) rfl rfl (fun w' hw => ?_) hS' ?_
    · clear hw; go_simp
    try simp only [Act.put, s1, s2, s3]
    refine tI 5 (v := .int .i64 g.n) (d := some 80) rfl rfl (fun w' hw => ?_) hS' ?_
    · have g0 : w'.cell? ⟨w.heap.size + 1, 10, none⟩ = some (.int .i64 g.n) := hw.r 10 _ rfl; clear hw; go_simp
    try simp only [Act.put, s1, s2, s3]
    refine tI 6 (v := .bool true) (d := some 81) rfl rfl (fun w' hw => ?_) hS' ?_
    · clear hw; go_simp <;> omega
    try simp only [Act.put, s1, s2, s3]
    refine tI 7 (v := .bool true) (d := some 82) rfl rfl (fun w' hw => ?_) hS' ?_
    · clear hw; go_simp
    try simp only [Act.put, s1, s2, s3]
    refine tI 8 (v := .bool true) (d := some 83) rfl rfl (fun w' hw => ?_) hS' ?_
    · clear hw; go_simp
    try simp only [Act.put, s1, s2, s3]
    refine tI 9 (v := .pointer (some ⟨w.heap.size + 1, 9, none⟩)) (d := some 84) rfl rfl (fun w' hw => ?_) hS' ?_
    · clear hw; go_simp
    try simp only [Act.put, s1, s2, s3]
    refine tI 10 (v := .int .i64 g.k) (d := some 85) rfl rfl (fun w' hw => ?_) hS' ?_
    · have g0 : w'.cell? ⟨w.heap.size + 1, 9, none⟩ = some (.int .i64 g.k) := hw.r 9 _ rfl; clear hw; go_simp
    try simp only [Act.put, s1, s2, s3]
    refine tI 11 (v := .bool true) (d := some 86) rfl rfl (fun w' hw => ?_) hS' ?_
    · clear hw; go_simp <;> omega
    try simp only [Act.put, s1, s2, s3]
    refine tI 12 (v := .bool true) (d := some 87) rfl rfl (fun w' hw => ?_) hS' ?_
    · clear hw; go_simp
    try simp only [Act.put, s1, s2, s3]
    refine tI 13 (v := .bool true) (d := some 88) rfl rfl (fun w' hw => ?_) hS' ?_
    · clear hw; go_simp
    try simp only [Act.put, s1, s2, s3]
    refine tI 14 (v := .pointer (some ⟨w.heap.size + 1, 9, none⟩)) (d := some 89) rfl rfl (fun w' hw => ?_) hS' ?_
    · clear hw; go_simp
    try simp only [Act.put, s1, s2, s3]
    refine tI 15 (v := .int .i64 g.k) (d := some 90) rfl rfl (fun w' hw => ?_) hS' ?_
    · have g0 : w'.cell? ⟨w.heap.size + 1, 9, none⟩ = some (.int .i64 g.k) := hw.r 9 _ rfl; clear hw; go_simp
    try simp only [Act.put, s1, s2, s3]
    refine tB 16 (v := .agg #[.int .i64 s, .int .i64 p, .int .i64 l]) (d := some 91) rfl rfl (yieldsIf_load_mid (by rfl) 62 _ rfl w.heap.size 0 rfl (ints [s, p, l]) _ (fun w hw => hw.c) Tryz.underlying62 rfl (by kernel_rfl)) hS' ?_
    try simp only [Act.put, s1, s2, s3]
    refine r1 17 rfl (fun K hK => ?_)
    go_simp
    refine (sHouse_ok s p l _ hok).mono ?_
    rintro e w1 ⟨rfl, rfl⟩
    have Q := hS'.later (below1 _ (.cells #[.int .i64 s, .int .i64 p, .int .i64 l] 62))
    clear hS'
    go_wp2_with (fail)
    refine hK.out _ _ Q (fun hS' => ?_)
    clear Q
    clear hK K
    try simp only [Act.put, s1, s2, s3]
    refine tI 18 (v := .bool true) (d := some 93) rfl rfl (fun w' hw => ?_) hS' ?_
    · clear hw; go_simp <;> omega
    try simp only [Act.put, s1, s2, s3]
    refine tI 19 (v := .bool true) (d := some 94) rfl rfl (fun w' hw => ?_) hS' ?_
    · clear hw; go_simp
    try simp only [Act.put, s1, s2, s3]
    refine tI 20 (v := .bool true) (d := some 95) rfl rfl (fun w' hw => ?_) hS' ?_
    · clear hw; go_simp
    try simp only [Act.put, s1, s2, s3]
    refine tI 21 (v := .pointer (some ⟨w.heap.size + 1, 21, none⟩)) (d := some 96) rfl rfl (fun w' hw => ?_) hS' ?_
    · clear hw; go_simp
    try simp only [Act.put, s1, s2, s3]
    refine tI 22 (v := .slice g.snap.a g.snap.n g.snap.c) (d := some 97) rfl rfl (fun w' hw => ?_) hS' ?_
    · have g0 : w'.cell? ⟨w.heap.size + 1, 21, none⟩ = some (.slice g.snap.a g.snap.n g.snap.c) := hw.r 21 _ rfl; clear hw; go_simp
    try simp only [Act.put, s1, s2, s3]
    refine tI 23 (v := .int .i64 g.snap.n) (d := some 98) rfl rfl (fun w' hw => ?_) hS' ?_
    · clear hw; go_simp
    try simp only [Act.put, s1, s2, s3]
    refine tB 24 (v := .agg #[.int .i64 s, .int .i64 p, .int .i64 l]) (d := some 99) rfl rfl (yieldsIf_load_mid (by rfl) 62 _ rfl w.heap.size 0 rfl (ints [s, p, l]) _ (fun w hw => hw.c) Tryz.underlying62 rfl (by kernel_rfl)) hS' ?_
    try simp only [Act.put, s1, s2, s3]
    refine r1 25 rfl (fun K hK => ?_)
    go_simp
    refine (sHouse_ok s p l _ hok).mono ?_
    rintro e w2 ⟨rfl, rfl⟩
    have Q := hS'.later (below1 _ (.cells #[.int .i64 s, .int .i64 p, .int .i64 l] 62))
    clear hS'
    go_wp2_with (fail)
    refine hK.out _ _ Q (fun hS' => ?_)
    clear Q
    clear hK K
    try simp only [Act.put, s1, s2, s3]
    refine tI 26 (v := .bool false) (d := some 101) rfl rfl (fun w' hw => ?_) hS' ?_
    · clear hw; go_simp <;> omega
    try simp only [Act.put, s1, s2, s3]
    refine tI 27 (v := .bool false) (d := some 102) rfl rfl (fun w' hw => ?_) hS' ?_
    · clear hw; go_simp
    try simp only [Act.put, s1, s2, s3]
    refine tI 28 (v := .bool false) (d := some 103) rfl rfl (fun w' hw => ?_) hS' ?_
    · clear hw; go_simp
    try simp only [Act.put, s1, s2, s3]
    refine tS 29 (d := some 104) rfl rfl hS' ?_
    try simp only [Act.put, s1, s2, s3]
    refine tS 30 (d := some 105) rfl rfl hS' ?_
    try simp only [Act.put, s1, s2, s3]
    refine tS 31 (d := some 106) rfl rfl hS' ?_
    try simp only [Act.put, s1, s2, s3]
    refine tS 32 (d := some 107) rfl rfl hS' ?_
    try simp only [Act.put, s1, s2, s3]
    refine tI 33 (v := .bool false) (d := some 108) rfl rfl (fun w' hw => ?_) hS' ?_
    · clear hw; go_simp
    try simp only [Act.put, s1, s2, s3]
    refine tI 34 (v := .bool false) (d := some 109) rfl rfl (fun w' hw => ?_) hS' ?_
    · clear hw; go_simp
    try simp only [Act.put, s1, s2, s3]
    refine tS 35 (d := some 110) rfl rfl hS' ?_
    try simp only [Act.put, s1, s2, s3]
    refine tS 36 (d := some 111) rfl rfl hS' ?_
    try simp only [Act.put, s1, s2, s3]
    refine tS 37 (d := some 112) rfl rfl hS' ?_
    try simp only [Act.put, s1, s2, s3]
    refine tI 38 (v := .bool false) (d := some 113) rfl rfl (fun w' hw => ?_) hS' ?_
    · clear hw; go_simp
    try simp only [Act.put, s1, s2, s3]
    refine tI 39 (v := .bool false) (d := some 114) rfl rfl (fun w' hw => ?_) hS' ?_
    · clear hw; go_simp
    try simp only [Act.put, s1, s2, s3]
    refine tS 40 (d := some 115) rfl rfl hS' ?_
    try simp only [Act.put, s1, s2, s3]
    refine tS 41 (d := some 116) rfl rfl hS' ?_
    try simp only [Act.put, s1, s2, s3]
    refine tS 42 (d := some 117) rfl rfl hS' ?_
    try simp only [Act.put, s1, s2, s3]
    refine tI 43 (v := .bool false) (d := some 118) rfl rfl (fun w' hw => ?_) hS' ?_
    · clear hw; go_simp
    try simp only [Act.put, s1, s2, s3]
    refine tI 44 (v := .bool false) (d := some 4) rfl rfl (fun w' hw => ?_) hS' ?_
    · clear hw; go_simp
    try simp only [Act.put, s1, s2, s3]
    refine wpAnyH_done (by kernel_rfl) ?_ _
    have B := hS'.b
    clear hS'
    go_wp2_with (fail)
    go_ret
    exact ⟨ret_bool (boolOf_f H.out), B⟩
  by_cases h20 : 20 < (g.plan.n : Int)
  · have H : Hid (¬ Fields s p g) := fun h => by unfold Fields hS at h; omega
    refine tI 0 (v := .pointer (some ⟨w.heap.size + 1, 10, none⟩)) (d := some 75) rfl rfl (fun w' hw => ?_) hS' ?_
    · clear hw; go_simp
    try simp only [Act.put, s1, s2, s3]
    refine tI 1 (v := .int .i64 g.n) (d := some 76) rfl rfl (fun w' hw => ?_) hS' ?_
    · have g0 : w'.cell? ⟨w.heap.size + 1, 10, none⟩ = some (.int .i64 g.n) := hw.r 10 _ rfl; clear hw; go_simp
    try simp only [Act.put, s1, s2, s3]
    refine tI 2 (v := .bool true) (d := some 77) rfl rfl (fun w' hw => ?_) hS' ?_
    · clear hw; go_simp <;> omega
    try simp only [Act.put, s1, s2, s3]
    refine tI 3 (v := .bool true) (d := some 78) rfl rfl (fun w' hw => ?_) hS' ?_
    · clear hw; go_simp
    try simp only [Act.put, s1, s2, s3]
    refine tI 4 (v := .pointer (some ⟨w.heap.size + 1, 10, none⟩)) (d := some 79) rfl rfl (fun w' hw => ?_) hS' ?_
    · clear hw; go_simp
    try simp only [Act.put, s1, s2, s3]
    refine tI 5 (v := .int .i64 g.n) (d := some 80) rfl rfl (fun w' hw => ?_) hS' ?_
    · have g0 : w'.cell? ⟨w.heap.size + 1, 10, none⟩ = some (.int .i64 g.n) := hw.r 10 _ rfl; clear hw; go_simp
    try simp only [Act.put, s1, s2, s3]
    refine tI 6 (v := .bool true) (d := some 81) rfl rfl (fun w' hw => ?_) hS' ?_
    · clear hw; go_simp <;> omega
    try simp only [Act.put, s1, s2, s3]
    refine tI 7 (v := .bool true) (d := some 82) rfl rfl (fun w' hw => ?_) hS' ?_
    · clear hw; go_simp
    try simp only [Act.put, s1, s2, s3]
    refine tI 8 (v := .bool true) (d := some 83) rfl rfl (fun w' hw => ?_) hS' ?_
    · clear hw; go_simp
    try simp only [Act.put, s1, s2, s3]
    refine tI 9 (v := .pointer (some ⟨w.heap.size + 1, 9, none⟩)) (d := some 84) rfl rfl (fun w' hw => ?_) hS' ?_
    · clear hw; go_simp
    try simp only [Act.put, s1, s2, s3]
    refine tI 10 (v := .int .i64 g.k) (d := some 85) rfl rfl (fun w' hw => ?_) hS' ?_
    · have g0 : w'.cell? ⟨w.heap.size + 1, 9, none⟩ = some (.int .i64 g.k) := hw.r 9 _ rfl; clear hw; go_simp
    try simp only [Act.put, s1, s2, s3]
    refine tI 11 (v := .bool true) (d := some 86) rfl rfl (fun w' hw => ?_) hS' ?_
    · clear hw; go_simp <;> omega
    try simp only [Act.put, s1, s2, s3]
    refine tI 12 (v := .bool true) (d := some 87) rfl rfl (fun w' hw => ?_) hS' ?_
    · clear hw; go_simp
    try simp only [Act.put, s1, s2, s3]
    refine tI 13 (v := .bool true) (d := some 88) rfl rfl (fun w' hw => ?_) hS' ?_
    · clear hw; go_simp
    try simp only [Act.put, s1, s2, s3]
    refine tI 14 (v := .pointer (some ⟨w.heap.size + 1, 9, none⟩)) (d := some 89) rfl rfl (fun w' hw => ?_) hS' ?_
    · clear hw; go_simp
    try simp only [Act.put, s1, s2, s3]
    refine tI 15 (v := .int .i64 g.k) (d := some 90) rfl rfl (fun w' hw => ?_) hS' ?_
    · have g0 : w'.cell? ⟨w.heap.size + 1, 9, none⟩ = some (.int .i64 g.k) := hw.r 9 _ rfl; clear hw; go_simp
    try simp only [Act.put, s1, s2, s3]
    refine tB 16 (v := .agg #[.int .i64 s, .int .i64 p, .int .i64 l]) (d := some 91) rfl rfl (yieldsIf_load_mid (by rfl) 62 _ rfl w.heap.size 0 rfl (ints [s, p, l]) _ (fun w hw => hw.c) Tryz.underlying62 rfl (by kernel_rfl)) hS' ?_
    try simp only [Act.put, s1, s2, s3]
    refine r1 17 rfl (fun K hK => ?_)
    go_simp
    refine (sHouse_ok s p l _ hok).mono ?_
    rintro e w1 ⟨rfl, rfl⟩
    have Q := hS'.later (below1 _ (.cells #[.int .i64 s, .int .i64 p, .int .i64 l] 62))
    clear hS'
    go_wp2_with (fail)
    refine hK.out _ _ Q (fun hS' => ?_)
    clear Q
    clear hK K
    try simp only [Act.put, s1, s2, s3]
    refine tI 18 (v := .bool true) (d := some 93) rfl rfl (fun w' hw => ?_) hS' ?_
    · clear hw; go_simp <;> omega
    try simp only [Act.put, s1, s2, s3]
    refine tI 19 (v := .bool true) (d := some 94) rfl rfl (fun w' hw => ?_) hS' ?_
    · clear hw; go_simp
    try simp only [Act.put, s1, s2, s3]
    refine tI 20 (v := .bool true) (d := some 95) rfl rfl (fun w' hw => ?_) hS' ?_
    · clear hw; go_simp
    try simp only [Act.put, s1, s2, s3]
    refine tI 21 (v := .pointer (some ⟨w.heap.size + 1, 21, none⟩)) (d := some 96) rfl rfl (fun w' hw => ?_) hS' ?_
    · clear hw; go_simp
    try simp only [Act.put, s1, s2, s3]
    refine tI 22 (v := .slice g.snap.a g.snap.n g.snap.c) (d := some 97) rfl rfl (fun w' hw => ?_) hS' ?_
    · have g0 : w'.cell? ⟨w.heap.size + 1, 21, none⟩ = some (.slice g.snap.a g.snap.n g.snap.c) := hw.r 21 _ rfl; clear hw; go_simp
    try simp only [Act.put, s1, s2, s3]
    refine tI 23 (v := .int .i64 g.snap.n) (d := some 98) rfl rfl (fun w' hw => ?_) hS' ?_
    · clear hw; go_simp
    try simp only [Act.put, s1, s2, s3]
    refine tB 24 (v := .agg #[.int .i64 s, .int .i64 p, .int .i64 l]) (d := some 99) rfl rfl (yieldsIf_load_mid (by rfl) 62 _ rfl w.heap.size 0 rfl (ints [s, p, l]) _ (fun w hw => hw.c) Tryz.underlying62 rfl (by kernel_rfl)) hS' ?_
    try simp only [Act.put, s1, s2, s3]
    refine r1 25 rfl (fun K hK => ?_)
    go_simp
    refine (sHouse_ok s p l _ hok).mono ?_
    rintro e w2 ⟨rfl, rfl⟩
    have Q := hS'.later (below1 _ (.cells #[.int .i64 s, .int .i64 p, .int .i64 l] 62))
    clear hS'
    go_wp2_with (fail)
    refine hK.out _ _ Q (fun hS' => ?_)
    clear Q
    clear hK K
    try simp only [Act.put, s1, s2, s3]
    refine tI 26 (v := .bool true) (d := some 101) rfl rfl (fun w' hw => ?_) hS' ?_
    · clear hw; go_simp <;> omega
    try simp only [Act.put, s1, s2, s3]
    refine tI 27 (v := .bool true) (d := some 102) rfl rfl (fun w' hw => ?_) hS' ?_
    · clear hw; go_simp
    try simp only [Act.put, s1, s2, s3]
    refine tI 28 (v := .bool true) (d := some 103) rfl rfl (fun w' hw => ?_) hS' ?_
    · clear hw; go_simp
    try simp only [Act.put, s1, s2, s3]
    refine tI 29 (v := .pointer (some ⟨w.heap.size + 1, 22, none⟩)) (d := some 104) rfl rfl (fun w' hw => ?_) hS' ?_
    · clear hw; go_simp
    try simp only [Act.put, s1, s2, s3]
    refine tI 30 (v := .slice g.plan.a g.plan.n g.plan.c) (d := some 105) rfl rfl (fun w' hw => ?_) hS' ?_
    · have g0 : w'.cell? ⟨w.heap.size + 1, 22, none⟩ = some (.slice g.plan.a g.plan.n g.plan.c) := hw.r 22 _ rfl; clear hw; go_simp
    try simp only [Act.put, s1, s2, s3]
    refine tI 31 (v := .int .i64 g.plan.n) (d := some 106) rfl rfl (fun w' hw => ?_) hS' ?_
    · clear hw; go_simp
    try simp only [Act.put, s1, s2, s3]
    refine tI 32 (v := .bool false) (d := some 107) rfl rfl (fun w' hw => ?_) hS' ?_
    · clear hw; go_simp <;> omega
    try simp only [Act.put, s1, s2, s3]
    refine tI 33 (v := .bool false) (d := some 108) rfl rfl (fun w' hw => ?_) hS' ?_
    · clear hw; go_simp
    try simp only [Act.put, s1, s2, s3]
    refine tI 34 (v := .bool false) (d := some 109) rfl rfl (fun w' hw => ?_) hS' ?_
    · clear hw; go_simp
    try simp only [Act.put, s1, s2, s3]
    refine tS 35 (d := some 110) rfl rfl hS' ?_
    try simp only [Act.put, s1, s2, s3]
    refine tS 36 (d := some 111) rfl rfl hS' ?_
    try simp only [Act.put, s1, s2, s3]
    refine tS 37 (d := some 112) rfl rfl hS' ?_
    try simp only [Act.put, s1, s2, s3]
    refine tI 38 (v := .bool false) (d := some 113) rfl rfl (fun w' hw => ?_) hS' ?_
    · clear hw; go_simp
    try simp only [Act.put, s1, s2, s3]
    refine tI 39 (v := .bool false) (d := some 114) rfl rfl (fun w' hw => ?_) hS' ?_
    · clear hw; go_simp
    try simp only [Act.put, s1, s2, s3]
    refine tS 40 (d := some 115) rfl rfl hS' ?_
    try simp only [Act.put, s1, s2, s3]
    refine tS 41 (d := some 116) rfl rfl hS' ?_
    try simp only [Act.put, s1, s2, s3]
    refine tS 42 (d := some 117) rfl rfl hS' ?_
    try simp only [Act.put, s1, s2, s3]
    refine tI 43 (v := .bool false) (d := some 118) rfl rfl (fun w' hw => ?_) hS' ?_
    · clear hw; go_simp
    try simp only [Act.put, s1, s2, s3]
    refine tI 44 (v := .bool false) (d := some 4) rfl rfl (fun w' hw => ?_) hS' ?_
    · clear hw; go_simp
    try simp only [Act.put, s1, s2, s3]
    refine wpAnyH_done (by kernel_rfl) ?_ _
    have B := hS'.b
    clear hS'
    go_wp2_with (fail)
    go_ret
    exact ⟨ret_bool (boolOf_f H.out), B⟩
  by_cases h21 : g.time < 0
  · have H : Hid (¬ Fields s p g) := fun h => by unfold Fields hS at h; omega
    refine tI 0 (v := .pointer (some ⟨w.heap.size + 1, 10, none⟩)) (d := some 75) rfl rfl (fun w' hw => ?_) hS' ?_
    · clear hw; go_simp
    try simp only [Act.put, s1, s2, s3]
    refine tI 1 (v := .int .i64 g.n) (d := some 76) rfl rfl (fun w' hw => ?_) hS' ?_
    · have g0 : w'.cell? ⟨w.heap.size + 1, 10, none⟩ = some (.int .i64 g.n) := hw.r 10 _ rfl; clear hw; go_simp
    try simp only [Act.put, s1, s2, s3]
    refine tI 2 (v := .bool true) (d := some 77) rfl rfl (fun w' hw => ?_) hS' ?_
    · clear hw; go_simp <;> omega
    try simp only [Act.put, s1, s2, s3]
    refine tI 3 (v := .bool true) (d := some 78) rfl rfl (fun w' hw => ?_) hS' ?_
    · clear hw; go_simp
    try simp only [Act.put, s1, s2, s3]
    refine tI 4 (v := .pointer (some ⟨w.heap.size + 1, 10, none⟩)) (d := some 79) rfl rfl (fun w' hw => ?_) hS' ?_
    · clear hw; go_simp
    try simp only [Act.put, s1, s2, s3]
    refine tI 5 (v := .int .i64 g.n) (d := some 80) rfl rfl (fun w' hw => ?_) hS' ?_
    · have g0 : w'.cell? ⟨w.heap.size + 1, 10, none⟩ = some (.int .i64 g.n) := hw.r 10 _ rfl; clear hw; go_simp
    try simp only [Act.put, s1, s2, s3]
    refine tI 6 (v := .bool true) (d := some 81) rfl rfl (fun w' hw => ?_) hS' ?_
    · clear hw; go_simp <;> omega
    try simp only [Act.put, s1, s2, s3]
    refine tI 7 (v := .bool true) (d := some 82) rfl rfl (fun w' hw => ?_) hS' ?_
    · clear hw; go_simp
    try simp only [Act.put, s1, s2, s3]
    refine tI 8 (v := .bool true) (d := some 83) rfl rfl (fun w' hw => ?_) hS' ?_
    · clear hw; go_simp
    try simp only [Act.put, s1, s2, s3]
    refine tI 9 (v := .pointer (some ⟨w.heap.size + 1, 9, none⟩)) (d := some 84) rfl rfl (fun w' hw => ?_) hS' ?_
    · clear hw; go_simp
    try simp only [Act.put, s1, s2, s3]
    refine tI 10 (v := .int .i64 g.k) (d := some 85) rfl rfl (fun w' hw => ?_) hS' ?_
    · have g0 : w'.cell? ⟨w.heap.size + 1, 9, none⟩ = some (.int .i64 g.k) := hw.r 9 _ rfl; clear hw; go_simp
    try simp only [Act.put, s1, s2, s3]
    refine tI 11 (v := .bool true) (d := some 86) rfl rfl (fun w' hw => ?_) hS' ?_
    · clear hw; go_simp <;> omega
    try simp only [Act.put, s1, s2, s3]
    refine tI 12 (v := .bool true) (d := some 87) rfl rfl (fun w' hw => ?_) hS' ?_
    · clear hw; go_simp
    try simp only [Act.put, s1, s2, s3]
    refine tI 13 (v := .bool true) (d := some 88) rfl rfl (fun w' hw => ?_) hS' ?_
    · clear hw; go_simp
    try simp only [Act.put, s1, s2, s3]
    refine tI 14 (v := .pointer (some ⟨w.heap.size + 1, 9, none⟩)) (d := some 89) rfl rfl (fun w' hw => ?_) hS' ?_
    · clear hw; go_simp
    try simp only [Act.put, s1, s2, s3]
    refine tI 15 (v := .int .i64 g.k) (d := some 90) rfl rfl (fun w' hw => ?_) hS' ?_
    · have g0 : w'.cell? ⟨w.heap.size + 1, 9, none⟩ = some (.int .i64 g.k) := hw.r 9 _ rfl; clear hw; go_simp
    try simp only [Act.put, s1, s2, s3]
    refine tB 16 (v := .agg #[.int .i64 s, .int .i64 p, .int .i64 l]) (d := some 91) rfl rfl (yieldsIf_load_mid (by rfl) 62 _ rfl w.heap.size 0 rfl (ints [s, p, l]) _ (fun w hw => hw.c) Tryz.underlying62 rfl (by kernel_rfl)) hS' ?_
    try simp only [Act.put, s1, s2, s3]
    refine r1 17 rfl (fun K hK => ?_)
    go_simp
    refine (sHouse_ok s p l _ hok).mono ?_
    rintro e w1 ⟨rfl, rfl⟩
    have Q := hS'.later (below1 _ (.cells #[.int .i64 s, .int .i64 p, .int .i64 l] 62))
    clear hS'
    go_wp2_with (fail)
    refine hK.out _ _ Q (fun hS' => ?_)
    clear Q
    clear hK K
    try simp only [Act.put, s1, s2, s3]
    refine tI 18 (v := .bool true) (d := some 93) rfl rfl (fun w' hw => ?_) hS' ?_
    · clear hw; go_simp <;> omega
    try simp only [Act.put, s1, s2, s3]
    refine tI 19 (v := .bool true) (d := some 94) rfl rfl (fun w' hw => ?_) hS' ?_
    · clear hw; go_simp
    try simp only [Act.put, s1, s2, s3]
    refine tI 20 (v := .bool true) (d := some 95) rfl rfl (fun w' hw => ?_) hS' ?_
    · clear hw; go_simp
    try simp only [Act.put, s1, s2, s3]
    refine tI 21 (v := .pointer (some ⟨w.heap.size + 1, 21, none⟩)) (d := some 96) rfl rfl (fun w' hw => ?_) hS' ?_
    · clear hw; go_simp
    try simp only [Act.put, s1, s2, s3]
    refine tI 22 (v := .slice g.snap.a g.snap.n g.snap.c) (d := some 97) rfl rfl (fun w' hw => ?_) hS' ?_
    · have g0 : w'.cell? ⟨w.heap.size + 1, 21, none⟩ = some (.slice g.snap.a g.snap.n g.snap.c) := hw.r 21 _ rfl; clear hw; go_simp
    try simp only [Act.put, s1, s2, s3]
    refine tI 23 (v := .int .i64 g.snap.n) (d := some 98) rfl rfl (fun w' hw => ?_) hS' ?_
    · clear hw; go_simp
    try simp only [Act.put, s1, s2, s3]
    refine tB 24 (v := .agg #[.int .i64 s, .int .i64 p, .int .i64 l]) (d := some 99) rfl rfl (yieldsIf_load_mid (by rfl) 62 _ rfl w.heap.size 0 rfl (ints [s, p, l]) _ (fun w hw => hw.c) Tryz.underlying62 rfl (by kernel_rfl)) hS' ?_
    try simp only [Act.put, s1, s2, s3]
    refine r1 25 rfl (fun K hK => ?_)
    go_simp
    refine (sHouse_ok s p l _ hok).mono ?_
    rintro e w2 ⟨rfl, rfl⟩
    have Q := hS'.later (below1 _ (.cells #[.int .i64 s, .int .i64 p, .int .i64 l] 62))
    clear hS'
    go_wp2_with (fail)
    refine hK.out _ _ Q (fun hS' => ?_)
    clear Q
    clear hK K
    try simp only [Act.put, s1, s2, s3]
    refine tI 26 (v := .bool true) (d := some 101) rfl rfl (fun w' hw => ?_) hS' ?_
    · clear hw; go_simp <;> omega
    try simp only [Act.put, s1, s2, s3]
    refine tI 27 (v := .bool true) (d := some 102) rfl rfl (fun w' hw => ?_) hS' ?_
    · clear hw; go_simp
    try simp only [Act.put, s1, s2, s3]
    refine tI 28 (v := .bool true) (d := some 103) rfl rfl (fun w' hw => ?_) hS' ?_
    · clear hw; go_simp
    try simp only [Act.put, s1, s2, s3]
    refine tI 29 (v := .pointer (some ⟨w.heap.size + 1, 22, none⟩)) (d := some 104) rfl rfl (fun w' hw => ?_) hS' ?_
    · clear hw; go_simp
    try simp only [Act.put, s1, s2, s3]
    refine tI 30 (v := .slice g.plan.a g.plan.n g.plan.c) (d := some 105) rfl rfl (fun w' hw => ?_) hS' ?_
    · have g0 : w'.cell? ⟨w.heap.size + 1, 22, none⟩ = some (.slice g.plan.a g.plan.n g.plan.c) := hw.r 22 _ rfl; clear hw; go_simp
    try simp only [Act.put, s1, s2, s3]
    refine tI 31 (v := .int .i64 g.plan.n) (d := some 106) rfl rfl (fun w' hw => ?_) hS' ?_
    · clear hw; go_simp
    try simp only [Act.put, s1, s2, s3]
    refine tI 32 (v := .bool true) (d := some 107) rfl rfl (fun w' hw => ?_) hS' ?_
    · clear hw; go_simp <;> omega
    try simp only [Act.put, s1, s2, s3]
    refine tI 33 (v := .bool true) (d := some 108) rfl rfl (fun w' hw => ?_) hS' ?_
    · clear hw; go_simp
    try simp only [Act.put, s1, s2, s3]
    refine tI 34 (v := .bool true) (d := some 109) rfl rfl (fun w' hw => ?_) hS' ?_
    · clear hw; go_simp
    try simp only [Act.put, s1, s2, s3]
    refine tI 35 (v := .pointer (some ⟨w.heap.size + 1, 16, none⟩)) (d := some 110) rfl rfl (fun w' hw => ?_) hS' ?_
    · clear hw; go_simp
    try simp only [Act.put, s1, s2, s3]
    refine tI 36 (v := .int .i64 g.time) (d := some 111) rfl rfl (fun w' hw => ?_) hS' ?_
    · have g0 : w'.cell? ⟨w.heap.size + 1, 16, none⟩ = some (.int .i64 g.time) := hw.r 16 _ rfl; clear hw; go_simp
    try simp only [Act.put, s1, s2, s3]
    refine tI 37 (v := .bool false) (d := some 112) rfl rfl (fun w' hw => ?_) hS' ?_
    · clear hw; go_simp <;> omega
    try simp only [Act.put, s1, s2, s3]
    refine tI 38 (v := .bool false) (d := some 113) rfl rfl (fun w' hw => ?_) hS' ?_
    · clear hw; go_simp
    try simp only [Act.put, s1, s2, s3]
    refine tI 39 (v := .bool false) (d := some 114) rfl rfl (fun w' hw => ?_) hS' ?_
    · clear hw; go_simp
    try simp only [Act.put, s1, s2, s3]
    refine tS 40 (d := some 115) rfl rfl hS' ?_
    try simp only [Act.put, s1, s2, s3]
    refine tS 41 (d := some 116) rfl rfl hS' ?_
    try simp only [Act.put, s1, s2, s3]
    refine tS 42 (d := some 117) rfl rfl hS' ?_
    try simp only [Act.put, s1, s2, s3]
    refine tI 43 (v := .bool false) (d := some 118) rfl rfl (fun w' hw => ?_) hS' ?_
    · clear hw; go_simp
    try simp only [Act.put, s1, s2, s3]
    refine tI 44 (v := .bool false) (d := some 4) rfl rfl (fun w' hw => ?_) hS' ?_
    · clear hw; go_simp
    try simp only [Act.put, s1, s2, s3]
    refine wpAnyH_done (by kernel_rfl) ?_ _
    have B := hS'.b
    clear hS'
    go_wp2_with (fail)
    go_ret
    exact ⟨ret_bool (boolOf_f H.out), B⟩
  by_cases h22 : 1048575 < g.time
  · have H : Hid (¬ Fields s p g) := fun h => by unfold Fields hS at h; omega
    refine tI 0 (v := .pointer (some ⟨w.heap.size + 1, 10, none⟩)) (d := some 75) rfl rfl (fun w' hw => ?_) hS' ?_
    · clear hw; go_simp
    try simp only [Act.put, s1, s2, s3]
    refine tI 1 (v := .int .i64 g.n) (d := some 76) rfl rfl (fun w' hw => ?_) hS' ?_
    · have g0 : w'.cell? ⟨w.heap.size + 1, 10, none⟩ = some (.int .i64 g.n) := hw.r 10 _ rfl; clear hw; go_simp
    try simp only [Act.put, s1, s2, s3]
    refine tI 2 (v := .bool true) (d := some 77) rfl rfl (fun w' hw => ?_) hS' ?_
    · clear hw; go_simp <;> omega
    try simp only [Act.put, s1, s2, s3]
    refine tI 3 (v := .bool true) (d := some 78) rfl rfl (fun w' hw => ?_) hS' ?_
    · clear hw; go_simp
    try simp only [Act.put, s1, s2, s3]
    refine tI 4 (v := .pointer (some ⟨w.heap.size + 1, 10, none⟩)) (d := some 79) rfl rfl (fun w' hw => ?_) hS' ?_
    · clear hw; go_simp
    try simp only [Act.put, s1, s2, s3]
    refine tI 5 (v := .int .i64 g.n) (d := some 80) rfl rfl (fun w' hw => ?_) hS' ?_
    · have g0 : w'.cell? ⟨w.heap.size + 1, 10, none⟩ = some (.int .i64 g.n) := hw.r 10 _ rfl; clear hw; go_simp
    try simp only [Act.put, s1, s2, s3]
    refine tI 6 (v := .bool true) (d := some 81) rfl rfl (fun w' hw => ?_) hS' ?_
    · clear hw; go_simp <;> omega
    try simp only [Act.put, s1, s2, s3]
    refine tI 7 (v := .bool true) (d := some 82) rfl rfl (fun w' hw => ?_) hS' ?_
    · clear hw; go_simp
    try simp only [Act.put, s1, s2, s3]
    refine tI 8 (v := .bool true) (d := some 83) rfl rfl (fun w' hw => ?_) hS' ?_
    · clear hw; go_simp
    try simp only [Act.put, s1, s2, s3]
    refine tI 9 (v := .pointer (some ⟨w.heap.size + 1, 9, none⟩)) (d := some 84) rfl rfl (fun w' hw => ?_) hS' ?_
    · clear hw; go_simp
    try simp only [Act.put, s1, s2, s3]
    refine tI 10 (v := .int .i64 g.k) (d := some 85) rfl rfl (fun w' hw => ?_) hS' ?_
    · have g0 : w'.cell? ⟨w.heap.size + 1, 9, none⟩ = some (.int .i64 g.k) := hw.r 9 _ rfl; clear hw; go_simp
    try simp only [Act.put, s1, s2, s3]
    refine tI 11 (v := .bool true) (d := some 86) rfl rfl (fun w' hw => ?_) hS' ?_
    · clear hw; go_simp <;> omega
    try simp only [Act.put, s1, s2, s3]
    refine tI 12 (v := .bool true) (d := some 87) rfl rfl (fun w' hw => ?_) hS' ?_
    · clear hw; go_simp
    try simp only [Act.put, s1, s2, s3]
    refine tI 13 (v := .bool true) (d := some 88) rfl rfl (fun w' hw => ?_) hS' ?_
    · clear hw; go_simp
    try simp only [Act.put, s1, s2, s3]
    refine tI 14 (v := .pointer (some ⟨w.heap.size + 1, 9, none⟩)) (d := some 89) rfl rfl (fun w' hw => ?_) hS' ?_
    · clear hw; go_simp
    try simp only [Act.put, s1, s2, s3]
    refine tI 15 (v := .int .i64 g.k) (d := some 90) rfl rfl (fun w' hw => ?_) hS' ?_
    · have g0 : w'.cell? ⟨w.heap.size + 1, 9, none⟩ = some (.int .i64 g.k) := hw.r 9 _ rfl; clear hw; go_simp
    try simp only [Act.put, s1, s2, s3]
    refine tB 16 (v := .agg #[.int .i64 s, .int .i64 p, .int .i64 l]) (d := some 91) rfl rfl (yieldsIf_load_mid (by rfl) 62 _ rfl w.heap.size 0 rfl (ints [s, p, l]) _ (fun w hw => hw.c) Tryz.underlying62 rfl (by kernel_rfl)) hS' ?_
    try simp only [Act.put, s1, s2, s3]
    refine r1 17 rfl (fun K hK => ?_)
    go_simp
    refine (sHouse_ok s p l _ hok).mono ?_
    rintro e w1 ⟨rfl, rfl⟩
    have Q := hS'.later (below1 _ (.cells #[.int .i64 s, .int .i64 p, .int .i64 l] 62))
    clear hS'
    go_wp2_with (fail)
    refine hK.out _ _ Q (fun hS' => ?_)
    clear Q
    clear hK K
    try simp only [Act.put, s1, s2, s3]
    refine tI 18 (v := .bool true) (d := some 93) rfl rfl (fun w' hw => ?_) hS' ?_
    · clear hw; go_simp <;> omega
    try simp only [Act.put, s1, s2, s3]
    refine tI 19 (v := .bool true) (d := some 94) rfl rfl (fun w' hw => ?_) hS' ?_
    · clear hw; go_simp
    try simp only [Act.put, s1, s2, s3]
    refine tI 20 (v := .bool true) (d := some 95) rfl rfl (fun w' hw => ?_) hS' ?_
    · clear hw; go_simp
    try simp only [Act.put, s1, s2, s3]
    refine tI 21 (v := .pointer (some ⟨w.heap.size + 1, 21, none⟩)) (d := some 96) rfl rfl (fun w' hw => ?_) hS' ?_
    · clear hw; go_simp
    try simp only [Act.put, s1, s2, s3]
    refine tI 22 (v := .slice g.snap.a g.snap.n g.snap.c) (d := some 97) rfl rfl (fun w' hw => ?_) hS' ?_
    · have g0 : w'.cell? ⟨w.heap.size + 1, 21, none⟩ = some (.slice g.snap.a g.snap.n g.snap.c) := hw.r 21 _ rfl; clear hw; go_simp
    try simp only [Act.put, s1, s2, s3]
    refine tI 23 (v := .int .i64 g.snap.n) (d := some 98) rfl rfl (fun w' hw => ?_) hS' ?_
    · clear hw; go_simp
    try simp only [Act.put, s1, s2, s3]
    refine tB 24 (v := .agg #[.int .i64 s, .int .i64 p, .int .i64 l]) (d := some 99) rfl rfl (yieldsIf_load_mid (by rfl) 62 _ rfl w.heap.size 0 rfl (ints [s, p, l]) _ (fun w hw => hw.c) Tryz.underlying62 rfl (by kernel_rfl)) hS' ?_
    try simp only [Act.put, s1, s2, s3]
    refine r1 25 rfl (fun K hK => ?_)
    go_simp
    refine (sHouse_ok s p l _ hok).mono ?_
    rintro e w2 ⟨rfl, rfl⟩
    have Q := hS'.later (below1 _ (.cells #[.int .i64 s, .int .i64 p, .int .i64 l] 62))
    clear hS'
    go_wp2_with (fail)
    refine hK.out _ _ Q (fun hS' => ?_)
    clear Q
    clear hK K
    try simp only [Act.put, s1, s2, s3]
    refine tI 26 (v := .bool true) (d := some 101) rfl rfl (fun w' hw => ?_) hS' ?_
    · clear hw; go_simp <;> omega
    try simp only [Act.put, s1, s2, s3]
    refine tI 27 (v := .bool true) (d := some 102) rfl rfl (fun w' hw => ?_) hS' ?_
    · clear hw; go_simp
    try simp only [Act.put, s1, s2, s3]
    refine tI 28 (v := .bool true) (d := some 103) rfl rfl (fun w' hw => ?_) hS' ?_
    · clear hw; go_simp
    try simp only [Act.put, s1, s2, s3]
    refine tI 29 (v := .pointer (some ⟨w.heap.size + 1, 22, none⟩)) (d := some 104) rfl rfl (fun w' hw => ?_) hS' ?_
    · clear hw; go_simp
    try simp only [Act.put, s1, s2, s3]
    refine tI 30 (v := .slice g.plan.a g.plan.n g.plan.c) (d := some 105) rfl rfl (fun w' hw => ?_) hS' ?_
    · have g0 : w'.cell? ⟨w.heap.size + 1, 22, none⟩ = some (.slice g.plan.a g.plan.n g.plan.c) := hw.r 22 _ rfl; clear hw; go_simp
    try simp only [Act.put, s1, s2, s3]
    refine tI 31 (v := .int .i64 g.plan.n) (d := some 106) rfl rfl (fun w' hw => ?_) hS' ?_
    · clear hw; go_simp
    try simp only [Act.put, s1, s2, s3]
    refine tI 32 (v := .bool true) (d := some 107) rfl rfl (fun w' hw => ?_) hS' ?_
    · clear hw; go_simp <;> omega
    try simp only [Act.put, s1, s2, s3]
    refine tI 33 (v := .bool true) (d := some 108) rfl rfl (fun w' hw => ?_) hS' ?_
    · clear hw; go_simp
    try simp only [Act.put, s1, s2, s3]
    refine tI 34 (v := .bool true) (d := some 109) rfl rfl (fun w' hw => ?_) hS' ?_
    · clear hw; go_simp
    try simp only [Act.put, s1, s2, s3]
    refine tI 35 (v := .pointer (some ⟨w.heap.size + 1, 16, none⟩)) (d := some 110) rfl rfl (fun w' hw => ?_) hS' ?_
    · clear hw; go_simp
    try simp only [Act.put, s1, s2, s3]
    refine tI 36 (v := .int .i64 g.time) (d := some 111) rfl rfl (fun w' hw => ?_) hS' ?_
    · have g0 : w'.cell? ⟨w.heap.size + 1, 16, none⟩ = some (.int .i64 g.time) := hw.r 16 _ rfl; clear hw; go_simp
    try simp only [Act.put, s1, s2, s3]
    refine tI 37 (v := .bool true) (d := some 112) rfl rfl (fun w' hw => ?_) hS' ?_
    · clear hw; go_simp <;> omega
    try simp only [Act.put, s1, s2, s3]
    refine tI 38 (v := .bool true) (d := some 113) rfl rfl (fun w' hw => ?_) hS' ?_
    · clear hw; go_simp
    try simp only [Act.put, s1, s2, s3]
    refine tI 39 (v := .bool true) (d := some 114) rfl rfl (fun w' hw => ?_) hS' ?_
    · clear hw; go_simp
    try simp only [Act.put, s1, s2, s3]
    refine tI 40 (v := .pointer (some ⟨w.heap.size + 1, 16, none⟩)) (d := some 115) rfl rfl (fun w' hw => ?_) hS' ?_
    · clear hw; go_simp
    try simp only [Act.put, s1, s2, s3]
    refine tI 41 (v := .int .i64 g.time) (d := some 116) rfl rfl (fun w' hw => ?_) hS' ?_
    · have g0 : w'.cell? ⟨w.heap.size + 1, 16, none⟩ = some (.int .i64 g.time) := hw.r 16 _ rfl; clear hw; go_simp
    try simp only [Act.put, s1, s2, s3]
    refine tI 42 (v := .bool false) (d := some 117) rfl rfl (fun w' hw => ?_) hS' ?_
    · clear hw; go_simp <;> omega
    try simp only [Act.put, s1, s2, s3]
    refine tI 43 (v := .bool false) (d := some 118) rfl rfl (fun w' hw => ?_) hS' ?_
    · clear hw; go_simp
    try simp only [Act.put, s1, s2, s3]
    refine tI 44 (v := .bool false) (d := some 4) rfl rfl (fun w' hw => ?_) hS' ?_
    · clear hw; go_simp
    try simp only [Act.put, s1, s2, s3]
    refine wpAnyH_done (by kernel_rfl) ?_ _
    have B := hS'.b
    clear hS'
    go_wp2_with (fail)
    go_ret
    exact ⟨ret_bool (boolOf_f H.out), B⟩
  have H : Hid (Fields s p g) := ⟨by omega, by omega, by omega, by omega, by omega, by omega, by omega, by omega, by omega, by omega, by omega, by omega, by omega, by omega, by omega, by omega, by omega, by unfold hS; omega, by unfold hS; omega, by omega, by omega, by omega⟩
  refine tI 0 (v := .pointer (some ⟨w.heap.size + 1, 10, none⟩)) (d := some 75) rfl rfl (fun w' hw => ?_) hS' ?_
  · clear hw; go_simp
  try simp only [Act.put, s1, s2, s3]
  refine tI 1 (v := .int .i64 g.n) (d := some 76) rfl rfl (fun w' hw => ?_) hS' ?_
  · have g0 : w'.cell? ⟨w.heap.size + 1, 10, none⟩ = some (.int .i64 g.n) := hw.r 10 _ rfl; clear hw; go_simp
  try simp only [Act.put, s1, s2, s3]
  refine tI 2 (v := .bool true) (d := some 77) rfl rfl (fun w' hw => ?_) hS' ?_
  · clear hw; go_simp <;> omega
  try simp only [Act.put, s1, s2, s3]
  refine tI 3 (v := .bool true) (d := some 78) rfl rfl (fun w' hw => ?_) hS' ?_
  · clear hw; go_simp
  try simp only [Act.put, s1, s2, s3]
  refine tI 4 (v := .pointer (some ⟨w.heap.size + 1, 10, none⟩)) (d := some 79) rfl rfl (fun w' hw => ?_) hS' ?_
  · clear hw; go_simp
  try simp only [Act.put, s1, s2, s3]
  refine tI 5 (v := .int .i64 g.n) (d := some 80) rfl rfl (fun w' hw => ?_) hS' ?_
  · have g0 : w'.cell? ⟨w.heap.size + 1, 10, none⟩ = some (.int .i64 g.n) := hw.r 10 _ rfl; clear hw; go_simp
  try simp only [Act.put, s1, s2, s3]
  refine tI 6 (v := .bool true) (d := some 81) rfl rfl (fun w' hw => ?_) hS' ?_
  · clear hw; go_simp <;> omega
  try simp only [Act.put, s1, s2, s3]
  refine tI 7 (v := .bool true) (d := some 82) rfl rfl (fun w' hw => ?_) hS' ?_
  · clear hw; go_simp
  try simp only [Act.put, s1, s2, s3]
  refine tI 8 (v := .bool true) (d := some 83) rfl rfl (fun w' hw => ?_) hS' ?_
  · clear hw; go_simp
  try simp only [Act.put, s1, s2, s3]
  refine tI 9 (v := .pointer (some ⟨w.heap.size + 1, 9, none⟩)) (d := some 84) rfl rfl (fun w' hw => ?_) hS' ?_
  · clear hw; go_simp
  try simp only [Act.put, s1, s2, s3]
  refine tI 10 (v := .int .i64 g.k) (d := some 85) rfl rfl (fun w' hw => ?_) hS' ?_
  · have g0 : w'.cell? ⟨w.heap.size + 1, 9, none⟩ = some (.int .i64 g.k) := hw.r 9 _ rfl; clear hw; go_simp
  try simp only [Act.put, s1, s2, s3]
  refine tI 11 (v := .bool true) (d := some 86) rfl rfl (fun w' hw => ?_) hS' ?_
  · clear hw; go_simp <;> omega
  try simp only [Act.put, s1, s2, s3]
  refine tI 12 (v := .bool true) (d := some 87) rfl rfl (fun w' hw => ?_) hS' ?_
  · clear hw; go_simp
  try simp only [Act.put, s1, s2, s3]
  refine tI 13 (v := .bool true) (d := some 88) rfl rfl (fun w' hw => ?_) hS' ?_
  · clear hw; go_simp
  try simp only [Act.put, s1, s2, s3]
  refine tI 14 (v := .pointer (some ⟨w.heap.size + 1, 9, none⟩)) (d := some 89) rfl rfl (fun w' hw => ?_) hS' ?_
  · clear hw; go_simp
  try simp only [Act.put, s1, s2, s3]
  refine tI 15 (v := .int .i64 g.k) (d := some 90) rfl rfl (fun w' hw => ?_) hS' ?_
  · have g0 : w'.cell? ⟨w.heap.size + 1, 9, none⟩ = some (.int .i64 g.k) := hw.r 9 _ rfl; clear hw; go_simp
  try simp only [Act.put, s1, s2, s3]
  refine tB 16 (v := .agg #[.int .i64 s, .int .i64 p, .int .i64 l]) (d := some 91) rfl rfl (yieldsIf_load_mid (by rfl) 62 _ rfl w.heap.size 0 rfl (ints [s, p, l]) _ (fun w hw => hw.c) Tryz.underlying62 rfl (by kernel_rfl)) hS' ?_
  try simp only [Act.put, s1, s2, s3]
  refine r1 17 rfl (fun K hK => ?_)
  go_simp
  refine (sHouse_ok s p l _ hok).mono ?_
  rintro e w1 ⟨rfl, rfl⟩
  have Q := hS'.later (below1 _ (.cells #[.int .i64 s, .int .i64 p, .int .i64 l] 62))
  clear hS'
  go_wp2_with (fail)
  refine hK.out _ _ Q (fun hS' => ?_)
  clear Q
  clear hK K
  try simp only [Act.put, s1, s2, s3]
  refine tI 18 (v := .bool true) (d := some 93) rfl rfl (fun w' hw => ?_) hS' ?_
  · clear hw; go_simp <;> omega
  try simp only [Act.put, s1, s2, s3]
  refine tI 19 (v := .bool true) (d := some 94) rfl rfl (fun w' hw => ?_) hS' ?_
  · clear hw; go_simp
  try simp only [Act.put, s1, s2, s3]
  refine tI 20 (v := .bool true) (d := some 95) rfl rfl (fun w' hw => ?_) hS' ?_
  · clear hw; go_simp
  try simp only [Act.put, s1, s2, s3]
  refine tI 21 (v := .pointer (some ⟨w.heap.size + 1, 21, none⟩)) (d := some 96) rfl rfl (fun w' hw => ?_) hS' ?_
  · clear hw; go_simp
  try simp only [Act.put, s1, s2, s3]
  refine tI 22 (v := .slice g.snap.a g.snap.n g.snap.c) (d := some 97) rfl rfl (fun w' hw => ?_) hS' ?_
  · have g0 : w'.cell? ⟨w.heap.size + 1, 21, none⟩ = some (.slice g.snap.a g.snap.n g.snap.c) := hw.r 21 _ rfl; clear hw; go_simp
  try simp only [Act.put, s1, s2, s3]
  refine tI 23 (v := .int .i64 g.snap.n) (d := some 98) rfl rfl (fun w' hw => ?_) hS' ?_
  · clear hw; go_simp
  try simp only [Act.put, s1, s2, s3]
  refine tB 24 (v := .agg #[.int .i64 s, .int .i64 p, .int .i64 l]) (d := some 99) rfl rfl (yieldsIf_load_mid (by rfl) 62 _ rfl w.heap.size 0 rfl (ints [s, p, l]) _ (fun w hw => hw.c) Tryz.underlying62 rfl (by kernel_rfl)) hS' ?_
  try simp only [Act.put, s1, s2, s3]
  refine r1 25 rfl (fun K hK => ?_)
  go_simp
  refine (sHouse_ok s p l _ hok).mono ?_
  rintro e w2 ⟨rfl, rfl⟩
  have Q := hS'.later (below1 _ (.cells #[.int .i64 s, .int .i64 p, .int .i64 l] 62))
  clear hS'
  go_wp2_with (fail)
  refine hK.out _ _ Q (fun hS' => ?_)
  clear Q
  clear hK K
  try simp only [Act.put, s1, s2, s3]
  refine tI 26 (v := .bool true) (d := some 101) rfl rfl (fun w' hw => ?_) hS' ?_
  · clear hw; go_simp <;> omega
  try simp only [Act.put, s1, s2, s3]
  refine tI 27 (v := .bool true) (d := some 102) rfl rfl (fun w' hw => ?_) hS' ?_
  · clear hw; go_simp
  try simp only [Act.put, s1, s2, s3]
  refine tI 28 (v := .bool true) (d := some 103) rfl rfl (fun w' hw => ?_) hS' ?_
  · clear hw; go_simp
  try simp only [Act.put, s1, s2, s3]
  refine tI 29 (v := .pointer (some ⟨w.heap.size + 1, 22, none⟩)) (d := some 104) rfl rfl (fun w' hw => ?_) hS' ?_
  · clear hw; go_simp
  try simp only [Act.put, s1, s2, s3]
  refine tI 30 (v := .slice g.plan.a g.plan.n g.plan.c) (d := some 105) rfl rfl (fun w' hw => ?_) hS' ?_
  · have g0 : w'.cell? ⟨w.heap.size + 1, 22, none⟩ = some (.slice g.plan.a g.plan.n g.plan.c) := hw.r 22 _ rfl; clear hw; go_simp
  try simp only [Act.put, s1, s2, s3]
  refine tI 31 (v := .int .i64 g.plan.n) (d := some 106) rfl rfl (fun w' hw => ?_) hS' ?_
  · clear hw; go_simp
  try simp only [Act.put, s1, s2, s3]
  refine tI 32 (v := .bool true) (d := some 107) rfl rfl (fun w' hw => ?_) hS' ?_
  · clear hw; go_simp <;> omega
  try simp only [Act.put, s1, s2, s3]
  refine tI 33 (v := .bool true) (d := some 108) rfl rfl (fun w' hw => ?_) hS' ?_
  · clear hw; go_simp
  try simp only [Act.put, s1, s2, s3]
  refine tI 34 (v := .bool true) (d := some 109) rfl rfl (fun w' hw => ?_) hS' ?_
  · clear hw; go_simp
  try simp only [Act.put, s1, s2, s3]
  refine tI 35 (v := .pointer (some ⟨w.heap.size + 1, 16, none⟩)) (d := some 110) rfl rfl (fun w' hw => ?_) hS' ?_
  · clear hw; go_simp
  try simp only [Act.put, s1, s2, s3]
  refine tI 36 (v := .int .i64 g.time) (d := some 111) rfl rfl (fun w' hw => ?_) hS' ?_
  · have g0 : w'.cell? ⟨w.heap.size + 1, 16, none⟩ = some (.int .i64 g.time) := hw.r 16 _ rfl; clear hw; go_simp
  try simp only [Act.put, s1, s2, s3]
  refine tI 37 (v := .bool true) (d := some 112) rfl rfl (fun w' hw => ?_) hS' ?_
  · clear hw; go_simp <;> omega
  try simp only [Act.put, s1, s2, s3]
  refine tI 38 (v := .bool true) (d := some 113) rfl rfl (fun w' hw => ?_) hS' ?_
  · clear hw; go_simp
  try simp only [Act.put, s1, s2, s3]
  refine tI 39 (v := .bool true) (d := some 114) rfl rfl (fun w' hw => ?_) hS' ?_
  · clear hw; go_simp
  try simp only [Act.put, s1, s2, s3]
  refine tI 40 (v := .pointer (some ⟨w.heap.size + 1, 16, none⟩)) (d := some 115) rfl rfl (fun w' hw => ?_) hS' ?_
  · clear hw; go_simp
  try simp only [Act.put, s1, s2, s3]
  refine tI 41 (v := .int .i64 g.time) (d := some 116) rfl rfl (fun w' hw => ?_) hS' ?_
  · have g0 : w'.cell? ⟨w.heap.size + 1, 16, none⟩ = some (.int .i64 g.time) := hw.r 16 _ rfl; clear hw; go_simp
  try simp only [Act.put, s1, s2, s3]
  refine tI 42 (v := .bool true) (d := some 117) rfl rfl (fun w' hw => ?_) hS' ?_
  · clear hw; go_simp <;> omega
  try simp only [Act.put, s1, s2, s3]
  refine tI 43 (v := .bool true) (d := some 118) rfl rfl (fun w' hw => ?_) hS' ?_
  · clear hw; go_simp
  try simp only [Act.put, s1, s2, s3]
  refine tI 44 (v := .bool true) (d := some 4) rfl rfl (fun w' hw => ?_) hS' ?_
  · clear hw; go_simp
  try simp only [Act.put, s1, s2, s3]
  refine wpAnyH_done (by kernel_rfl) ?_ _
  have B := hS'.b
  clear hS'
  go_wp2_with (fail)
  go_ret
  exact ⟨ret_bool (boolOf_t H.out), B⟩

end Go.Proofs.YtgfbfgiohmdjmaaGreat.Gs

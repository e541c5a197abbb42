import Derived.Test.YtgfbfgiohmdjmaaGreatM4

/- The bounds of a guest's numbers, as the specification tests them (1 to 4). Conditions: none. -/
namespace Go.Proofs.YtgfbfgiohmdjmaaGreat.Gs
open Go.ChangeShapes Go.WideShapes Go.ChangeAt Go.RowKit
open Aid Lst Plat
open Book (Sx)
set_option maxRecDepth 100000
set_option linter.unusedVariables false

set_option maxHeartbeats 8000000 in
theorem sfields_A (s p l : Int) (g : Gx) (w : World) (hok : 1 ≤ s ∧ s ≤ 4 ∧ 1 ≤ p ∧ p ≤ 6 ∧ 1 ≤ l ∧ l ≤ 20)
    (hx : g.slot < 0 ∨ s ≤ g.slot ∨ g.epoch < 0 ∨ 4095 < g.epoch) :
    Calls Tryz.prog 46 #[.agg #[.int .i64 s, .int .i64 p, .int .i64 l], .agg g.cells.toArray] w fun e w' => e = .returned (.bool (boolOf (Fields s p g))) ∧ Below w.heap.size w w' := by
  by_cases h1 : g.slot < 0
  · have H : Hid (¬ Fields s p g) := fun h => by unfold Fields at h; omega
    have E := Eg.start w s p l g 62 68
    have q0 := at0 E.c 0 (v := .int .i64 s) rfl
    have q1 := at0 E.c 1 (v := .int .i64 p) rfl
    have q2 := at0 E.c 2 (v := .int .i64 l) rfl
    have c_slot := at0 E.r 1 (v := .int .i64 g.slot) rfl
    have c_epoch := at0 E.r 2 (v := .int .i64 g.epoch) rfl
    have c_next := at0 E.r 12 (v := .int .i64 g.next) rfl
    have c_pc := at0 E.r 8 (v := .int .i64 g.pc) rfl
    have c_seq := at0 E.r 11 (v := .int .i64 g.seq) rfl
    have c_who := at0 E.r 13 (v := .int .i64 g.who) rfl
    have c_whoE := at0 E.r 14 (v := .int .i64 g.whoE) rfl
    have B := E.b
    clear E
    go_enter Tryz.func46, Tryz.ntmps46
    go_wp2_with (fail)
    go_ret
    exact ⟨ret_bool (boolOf_f H.out), B⟩
  by_cases h2 : s ≤ g.slot
  · have H : Hid (¬ Fields s p g) := fun h => by unfold Fields at h; omega
    have E := Eg.start w s p l g 62 68
    have q0 := at0 E.c 0 (v := .int .i64 s) rfl
    have q1 := at0 E.c 1 (v := .int .i64 p) rfl
    have q2 := at0 E.c 2 (v := .int .i64 l) rfl
    have c_slot := at0 E.r 1 (v := .int .i64 g.slot) rfl
    have c_epoch := at0 E.r 2 (v := .int .i64 g.epoch) rfl
    have c_next := at0 E.r 12 (v := .int .i64 g.next) rfl
    have c_pc := at0 E.r 8 (v := .int .i64 g.pc) rfl
    have c_seq := at0 E.r 11 (v := .int .i64 g.seq) rfl
    have c_who := at0 E.r 13 (v := .int .i64 g.who) rfl
    have c_whoE := at0 E.r 14 (v := .int .i64 g.whoE) rfl
    have B := E.b
    clear E
    go_enter Tryz.func46, Tryz.ntmps46
    go_wp2_with (fail)
    go_ret
    exact ⟨ret_bool (boolOf_f H.out), B⟩
  by_cases h3 : g.epoch < 0
  · have H : Hid (¬ Fields s p g) := fun h => by unfold Fields at h; omega
    have E := Eg.start w s p l g 62 68
    have q0 := at0 E.c 0 (v := .int .i64 s) rfl
    have q1 := at0 E.c 1 (v := .int .i64 p) rfl
    have q2 := at0 E.c 2 (v := .int .i64 l) rfl
    have c_slot := at0 E.r 1 (v := .int .i64 g.slot) rfl
    have c_epoch := at0 E.r 2 (v := .int .i64 g.epoch) rfl
    have c_next := at0 E.r 12 (v := .int .i64 g.next) rfl
    have c_pc := at0 E.r 8 (v := .int .i64 g.pc) rfl
    have c_seq := at0 E.r 11 (v := .int .i64 g.seq) rfl
    have c_who := at0 E.r 13 (v := .int .i64 g.who) rfl
    have c_whoE := at0 E.r 14 (v := .int .i64 g.whoE) rfl
    have B := E.b
    clear E
    go_enter Tryz.func46, Tryz.ntmps46
    go_wp2_with (fail)
    go_ret
    exact ⟨ret_bool (boolOf_f H.out), B⟩
  have h4 : 4095 < g.epoch := by omega
  have H : Hid (¬ Fields s p g) := fun h => by unfold Fields at h; omega
  have E := Eg.start w s p l g 62 68
  have q0 := at0 E.c 0 (v := .int .i64 s) rfl
  have q1 := at0 E.c 1 (v := .int .i64 p) rfl
  have q2 := at0 E.c 2 (v := .int .i64 l) rfl
  have c_slot := at0 E.r 1 (v := .int .i64 g.slot) rfl
  have c_epoch := at0 E.r 2 (v := .int .i64 g.epoch) rfl
  have c_next := at0 E.r 12 (v := .int .i64 g.next) rfl
  have c_pc := at0 E.r 8 (v := .int .i64 g.pc) rfl
  have c_seq := at0 E.r 11 (v := .int .i64 g.seq) rfl
  have c_who := at0 E.r 13 (v := .int .i64 g.who) rfl
  have c_whoE := at0 E.r 14 (v := .int .i64 g.whoE) rfl
  have B := E.b
  clear E
  go_enter Tryz.func46, Tryz.ntmps46
  go_wp2_with (fail)
  go_ret
  exact ⟨ret_bool (boolOf_f H.out), B⟩

set_option maxHeartbeats 8000000 in
theorem sfields_B (s p l : Int) (g : Gx) (w : World) (hok : 1 ≤ s ∧ s ≤ 4 ∧ 1 ≤ p ∧ p ≤ 6 ∧ 1 ≤ l ∧ l ≤ 20)
    (h1 : ¬ (g.slot < 0))
    (h2 : ¬ (s ≤ g.slot))
    (h3 : ¬ (g.epoch < 0))
    (h4 : ¬ (4095 < g.epoch))
    (hx : g.next < 0 ∨ 4095 < g.next ∨ g.pc < 0 ∨ 26 < g.pc) :
    Calls Tryz.prog 46 #[.agg #[.int .i64 s, .int .i64 p, .int .i64 l], .agg g.cells.toArray] w fun e w' => e = .returned (.bool (boolOf (Fields s p g))) ∧ Below w.heap.size w w' := by
  by_cases h5 : g.next < 0
  · have H : Hid (¬ Fields s p g) := fun h => by unfold Fields at h; omega
    have E := Eg.start w s p l g 62 68
    have q0 := at0 E.c 0 (v := .int .i64 s) rfl
    have q1 := at0 E.c 1 (v := .int .i64 p) rfl
    have q2 := at0 E.c 2 (v := .int .i64 l) rfl
    have c_slot := at0 E.r 1 (v := .int .i64 g.slot) rfl
    have c_epoch := at0 E.r 2 (v := .int .i64 g.epoch) rfl
    have c_next := at0 E.r 12 (v := .int .i64 g.next) rfl
    have c_pc := at0 E.r 8 (v := .int .i64 g.pc) rfl
    have c_seq := at0 E.r 11 (v := .int .i64 g.seq) rfl
    have c_who := at0 E.r 13 (v := .int .i64 g.who) rfl
    have c_whoE := at0 E.r 14 (v := .int .i64 g.whoE) rfl
    have B := E.b
    clear E
    go_enter Tryz.func46, Tryz.ntmps46
    go_wp2_with (fail)
    go_ret
    exact ⟨ret_bool (boolOf_f H.out), B⟩
  by_cases h6 : 4095 < g.next
  · have H : Hid (¬ Fields s p g) := fun h => by unfold Fields at h; omega
    have E := Eg.start w s p l g 62 68
    have q0 := at0 E.c 0 (v := .int .i64 s) rfl
    have q1 := at0 E.c 1 (v := .int .i64 p) rfl
    have q2 := at0 E.c 2 (v := .int .i64 l) rfl
    have c_slot := at0 E.r 1 (v := .int .i64 g.slot) rfl
    have c_epoch := at0 E.r 2 (v := .int .i64 g.epoch) rfl
    have c_next := at0 E.r 12 (v := .int .i64 g.next) rfl
    have c_pc := at0 E.r 8 (v := .int .i64 g.pc) rfl
    have c_seq := at0 E.r 11 (v := .int .i64 g.seq) rfl
    have c_who := at0 E.r 13 (v := .int .i64 g.who) rfl
    have c_whoE := at0 E.r 14 (v := .int .i64 g.whoE) rfl
    have B := E.b
    clear E
    go_enter Tryz.func46, Tryz.ntmps46
    go_wp2_with (fail)
    go_ret
    exact ⟨ret_bool (boolOf_f H.out), B⟩
  by_cases h7 : g.pc < 0
  · have H : Hid (¬ Fields s p g) := fun h => by unfold Fields at h; omega
    have E := Eg.start w s p l g 62 68
    have q0 := at0 E.c 0 (v := .int .i64 s) rfl
    have q1 := at0 E.c 1 (v := .int .i64 p) rfl
    have q2 := at0 E.c 2 (v := .int .i64 l) rfl
    have c_slot := at0 E.r 1 (v := .int .i64 g.slot) rfl
    have c_epoch := at0 E.r 2 (v := .int .i64 g.epoch) rfl
    have c_next := at0 E.r 12 (v := .int .i64 g.next) rfl
    have c_pc := at0 E.r 8 (v := .int .i64 g.pc) rfl
    have c_seq := at0 E.r 11 (v := .int .i64 g.seq) rfl
    have c_who := at0 E.r 13 (v := .int .i64 g.who) rfl
    have c_whoE := at0 E.r 14 (v := .int .i64 g.whoE) rfl
    have B := E.b
    clear E
    go_enter Tryz.func46, Tryz.ntmps46
    go_wp2_with (fail)
    go_ret
    exact ⟨ret_bool (boolOf_f H.out), B⟩
  have h8 : 26 < g.pc := by omega
  have H : Hid (¬ Fields s p g) := fun h => by unfold Fields at h; omega
  have E := Eg.start w s p l g 62 68
  have q0 := at0 E.c 0 (v := .int .i64 s) rfl
  have q1 := at0 E.c 1 (v := .int .i64 p) rfl
  have q2 := at0 E.c 2 (v := .int .i64 l) rfl
  have c_slot := at0 E.r 1 (v := .int .i64 g.slot) rfl
  have c_epoch := at0 E.r 2 (v := .int .i64 g.epoch) rfl
  have c_next := at0 E.r 12 (v := .int .i64 g.next) rfl
  have c_pc := at0 E.r 8 (v := .int .i64 g.pc) rfl
  have c_seq := at0 E.r 11 (v := .int .i64 g.seq) rfl
  have c_who := at0 E.r 13 (v := .int .i64 g.who) rfl
  have c_whoE := at0 E.r 14 (v := .int .i64 g.whoE) rfl
  have B := E.b
  clear E
  go_enter Tryz.func46, Tryz.ntmps46
  go_wp2_with (fail)
  go_ret
  exact ⟨ret_bool (boolOf_f H.out), B⟩

set_option maxHeartbeats 8000000 in
theorem sfields_C (s p l : Int) (g : Gx) (w : World) (hok : 1 ≤ s ∧ s ≤ 4 ∧ 1 ≤ p ∧ p ≤ 6 ∧ 1 ≤ l ∧ l ≤ 20)
    (h1 : ¬ (g.slot < 0))
    (h2 : ¬ (s ≤ g.slot))
    (h3 : ¬ (g.epoch < 0))
    (h4 : ¬ (4095 < g.epoch))
    (h5 : ¬ (g.next < 0))
    (h6 : ¬ (4095 < g.next))
    (h7 : ¬ (g.pc < 0))
    (h8 : ¬ (26 < g.pc))
    (hx : g.seq < 0 ∨ 1000001 < g.seq ∨ g.who < 0 ∨ 7 < g.who) :
    Calls Tryz.prog 46 #[.agg #[.int .i64 s, .int .i64 p, .int .i64 l], .agg g.cells.toArray] w fun e w' => e = .returned (.bool (boolOf (Fields s p g))) ∧ Below w.heap.size w w' := by
  by_cases h9 : g.seq < 0
  · have H : Hid (¬ Fields s p g) := fun h => by unfold Fields at h; omega
    have E := Eg.start w s p l g 62 68
    have q0 := at0 E.c 0 (v := .int .i64 s) rfl
    have q1 := at0 E.c 1 (v := .int .i64 p) rfl
    have q2 := at0 E.c 2 (v := .int .i64 l) rfl
    have c_slot := at0 E.r 1 (v := .int .i64 g.slot) rfl
    have c_epoch := at0 E.r 2 (v := .int .i64 g.epoch) rfl
    have c_next := at0 E.r 12 (v := .int .i64 g.next) rfl
    have c_pc := at0 E.r 8 (v := .int .i64 g.pc) rfl
    have c_seq := at0 E.r 11 (v := .int .i64 g.seq) rfl
    have c_who := at0 E.r 13 (v := .int .i64 g.who) rfl
    have c_whoE := at0 E.r 14 (v := .int .i64 g.whoE) rfl
    have B := E.b
    clear E
    go_enter Tryz.func46, Tryz.ntmps46
    go_wp2_with (fail)
    go_ret
    exact ⟨ret_bool (boolOf_f H.out), B⟩
  by_cases h10 : 1000001 < g.seq
  · have H : Hid (¬ Fields s p g) := fun h => by unfold Fields at h; omega
    have E := Eg.start w s p l g 62 68
    have q0 := at0 E.c 0 (v := .int .i64 s) rfl
    have q1 := at0 E.c 1 (v := .int .i64 p) rfl
    have q2 := at0 E.c 2 (v := .int .i64 l) rfl
    have c_slot := at0 E.r 1 (v := .int .i64 g.slot) rfl
    have c_epoch := at0 E.r 2 (v := .int .i64 g.epoch) rfl
    have c_next := at0 E.r 12 (v := .int .i64 g.next) rfl
    have c_pc := at0 E.r 8 (v := .int .i64 g.pc) rfl
    have c_seq := at0 E.r 11 (v := .int .i64 g.seq) rfl
    have c_who := at0 E.r 13 (v := .int .i64 g.who) rfl
    have c_whoE := at0 E.r 14 (v := .int .i64 g.whoE) rfl
    have B := E.b
    clear E
    go_enter Tryz.func46, Tryz.ntmps46
    go_wp2_with (fail)
    go_ret
    exact ⟨ret_bool (boolOf_f H.out), B⟩
  by_cases h11 : g.who < 0
  · have H : Hid (¬ Fields s p g) := fun h => by unfold Fields at h; omega
    have E := Eg.start w s p l g 62 68
    have q0 := at0 E.c 0 (v := .int .i64 s) rfl
    have q1 := at0 E.c 1 (v := .int .i64 p) rfl
    have q2 := at0 E.c 2 (v := .int .i64 l) rfl
    have c_slot := at0 E.r 1 (v := .int .i64 g.slot) rfl
    have c_epoch := at0 E.r 2 (v := .int .i64 g.epoch) rfl
    have c_next := at0 E.r 12 (v := .int .i64 g.next) rfl
    have c_pc := at0 E.r 8 (v := .int .i64 g.pc) rfl
    have c_seq := at0 E.r 11 (v := .int .i64 g.seq) rfl
    have c_who := at0 E.r 13 (v := .int .i64 g.who) rfl
    have c_whoE := at0 E.r 14 (v := .int .i64 g.whoE) rfl
    have B := E.b
    clear E
    go_enter Tryz.func46, Tryz.ntmps46
    go_wp2_with (fail)
    go_ret
    exact ⟨ret_bool (boolOf_f H.out), B⟩
  have h12 : 7 < g.who := by omega
  have H : Hid (¬ Fields s p g) := fun h => by unfold Fields at h; omega
  have E := Eg.start w s p l g 62 68
  have q0 := at0 E.c 0 (v := .int .i64 s) rfl
  have q1 := at0 E.c 1 (v := .int .i64 p) rfl
  have q2 := at0 E.c 2 (v := .int .i64 l) rfl
  have c_slot := at0 E.r 1 (v := .int .i64 g.slot) rfl
  have c_epoch := at0 E.r 2 (v := .int .i64 g.epoch) rfl
  have c_next := at0 E.r 12 (v := .int .i64 g.next) rfl
  have c_pc := at0 E.r 8 (v := .int .i64 g.pc) rfl
  have c_seq := at0 E.r 11 (v := .int .i64 g.seq) rfl
  have c_who := at0 E.r 13 (v := .int .i64 g.who) rfl
  have c_whoE := at0 E.r 14 (v := .int .i64 g.whoE) rfl
  have B := E.b
  clear E
  go_enter Tryz.func46, Tryz.ntmps46
  go_wp2_with (fail)
  go_ret
  exact ⟨ret_bool (boolOf_f H.out), B⟩

end Go.Proofs.YtgfbfgiohmdjmaaGreat.Gs

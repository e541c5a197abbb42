/- The bounds of a guest's numbers, as the program tests them. Conditions: none. -/
import Derived.Test.YtgfbfgiohmdjmaaGreatM4
namespace Go.Proofs.YtgfbfgiohmdjmaaGreat.Gs
open Go.ChangeShapes Go.WideShapes Go.ChangeAt Go.RowKit
open Aid Lst Plat
open Book (Sx)
set_option maxRecDepth 100000
set_option linter.unusedVariables false

/- A call with a layout and a guest in structs of its own. -/
structure El (w : World) (s p : Int) (g : Gx) (W : World) : Prop where
  c : W.rangeAt w.heap.size 0 (ints (layL s p))
  r : W.rangeAt (w.heap.size + 1) 0 g.cells
  b : Below w.heap.size w W
  lt : w.heap.size + 1 < W.heap.size
theorem El.start (w : World) (s p : Int) (g : Gx) (t t' : TypeId) : El w s p g ((w.alloc (.cells (ints (layL s p)).toArray t)).alloc (.cells g.cells.toArray t')) :=
  ⟨range_lit (ints (layL s p)).toArray (heap2_0 w _ _), range_lit g.cells.toArray (heap2_1 w _ _), below2 w _ _, by simp⟩
theorem El.later {w W W1 : World} {s p : Int} {g : Gx} (h : El w s p g W) (hb : Below W.heap.size W W1) : El w s p g W1 :=
  ⟨range_below hb h.c (Nat.lt_of_succ_lt h.lt), range_below hb h.r h.lt, h.b.trans (hb.mono h.b.size), Nat.lt_of_lt_of_le h.lt hb.size⟩
theorem El.s {w W : World} {s p : Int} {g : Gx} (h : El w s p g W) : W.cell? ⟨w.heap.size, 1, none⟩ = some (.int .i64 s) := h.c 1 _ (by rw [ints_get _ _ (by rw [layL_len]; omega), layL_get _ _ _ (by omega)]; rfl)
theorem El.d {w W : World} {s p : Int} {g : Gx} (h : El w s p g W) : W.cell? ⟨w.heap.size, 23, none⟩ = some (.int .i64 (7 + 2 * s + 17 * p)) := h.c 23 _ (by
  rw [ints_get _ _ (by rw [layL_len]; omega), layL_get _ _ _ (by omega)]
  show some (Value.int .i64 (3 + s + s + 4 + p + p * 8 + p * 8)) = _
  congr 2; omega)

set_option maxHeartbeats 16000000 in
theorem fits_any (s p : Int) (g : Gx) (w : World) (hk : 1 ≤ s ∧ s ≤ 4 ∧ 1 ≤ p ∧ p ≤ 6) :
    Calls Tryz.prog 64 #[.agg (ints (layL s p)).toArray, .agg g.cells.toArray] w fun e w' => e = .returned (.bool (boolOf (Fields s p g))) ∧ Below w.heap.size w w' := by
  have ix0 : ∀ w : World, (Instr.index 117 (.agg #[.int .i64 g.slot, .int .i64 (s - 1), .int .i64 g.epoch, .int .i64 4095, .int .i64 g.next, .int .i64 4095, .int .i64 g.pc, .int .i64 26, .int .i64 g.seq, .int .i64 1000001, .int .i64 g.who, .int .i64 7, .int .i64 g.whoE, .int .i64 4095, .int .i64 g.n, .int .i64 20, .int .i64 g.k, .int .i64 (7 + 2 * s + 17 * p), .int .i64 g.time, .int .i64 1048575, .int .i64 (g.snap.n : Int), .int .i64 (7 + 2 * s + 17 * p), .int .i64 (g.plan.n : Int), .int .i64 20]) (.int .i64 0)).run Tryz.prog w = .ok (.agg #[.int .i64 g.slot, .int .i64 (s - 1)]) w := fun _ => by kernel_rfl
  have ix1 : ∀ w : World, (Instr.index 117 (.agg #[.int .i64 g.slot, .int .i64 (s - 1), .int .i64 g.epoch, .int .i64 4095, .int .i64 g.next, .int .i64 4095, .int .i64 g.pc, .int .i64 26, .int .i64 g.seq, .int .i64 1000001, .int .i64 g.who, .int .i64 7, .int .i64 g.whoE, .int .i64 4095, .int .i64 g.n, .int .i64 20, .int .i64 g.k, .int .i64 (7 + 2 * s + 17 * p), .int .i64 g.time, .int .i64 1048575, .int .i64 (g.snap.n : Int), .int .i64 (7 + 2 * s + 17 * p), .int .i64 (g.plan.n : Int), .int .i64 20]) (.int .i64 1)).run Tryz.prog w = .ok (.agg #[.int .i64 g.epoch, .int .i64 4095]) w := fun _ => by kernel_rfl
  have ix2 : ∀ w : World, (Instr.index 117 (.agg #[.int .i64 g.slot, .int .i64 (s - 1), .int .i64 g.epoch, .int .i64 4095, .int .i64 g.next, .int .i64 4095, .int .i64 g.pc, .int .i64 26, .int .i64 g.seq, .int .i64 1000001, .int .i64 g.who, .int .i64 7, .int .i64 g.whoE, .int .i64 4095, .int .i64 g.n, .int .i64 20, .int .i64 g.k, .int .i64 (7 + 2 * s + 17 * p), .int .i64 g.time, .int .i64 1048575, .int .i64 (g.snap.n : Int), .int .i64 (7 + 2 * s + 17 * p), .int .i64 (g.plan.n : Int), .int .i64 20]) (.int .i64 2)).run Tryz.prog w = .ok (.agg #[.int .i64 g.next, .int .i64 4095]) w := fun _ => by kernel_rfl
  have ix3 : ∀ w : World, (Instr.index 117 (.agg #[.int .i64 g.slot, .int .i64 (s - 1), .int .i64 g.epoch, .int .i64 4095, .int .i64 g.next, .int .i64 4095, .int .i64 g.pc, .int .i64 26, .int .i64 g.seq, .int .i64 1000001, .int .i64 g.who, .int .i64 7, .int .i64 g.whoE, .int .i64 4095, .int .i64 g.n, .int .i64 20, .int .i64 g.k, .int .i64 (7 + 2 * s + 17 * p), .int .i64 g.time, .int .i64 1048575, .int .i64 (g.snap.n : Int), .int .i64 (7 + 2 * s + 17 * p), .int .i64 (g.plan.n : Int), .int .i64 20]) (.int .i64 3)).run Tryz.prog w = .ok (.agg #[.int .i64 g.pc, .int .i64 26]) w := fun _ => by kernel_rfl
  have ix4 : ∀ w : World, (Instr.index 117 (.agg #[.int .i64 g.slot, .int .i64 (s - 1), .int .i64 g.epoch, .int .i64 4095, .int .i64 g.next, .int .i64 4095, .int .i64 g.pc, .int .i64 26, .int .i64 g.seq, .int .i64 1000001, .int .i64 g.who, .int .i64 7, .int .i64 g.whoE, .int .i64 4095, .int .i64 g.n, .int .i64 20, .int .i64 g.k, .int .i64 (7 + 2 * s + 17 * p), .int .i64 g.time, .int .i64 1048575, .int .i64 (g.snap.n : Int), .int .i64 (7 + 2 * s + 17 * p), .int .i64 (g.plan.n : Int), .int .i64 20]) (.int .i64 4)).run Tryz.prog w = .ok (.agg #[.int .i64 g.seq, .int .i64 1000001]) w := fun _ => by kernel_rfl
  have ix5 : ∀ w : World, (Instr.index 117 (.agg #[.int .i64 g.slot, .int .i64 (s - 1), .int .i64 g.epoch, .int .i64 4095, .int .i64 g.next, .int .i64 4095, .int .i64 g.pc, .int .i64 26, .int .i64 g.seq, .int .i64 1000001, .int .i64 g.who, .int .i64 7, .int .i64 g.whoE, .int .i64 4095, .int .i64 g.n, .int .i64 20, .int .i64 g.k, .int .i64 (7 + 2 * s + 17 * p), .int .i64 g.time, .int .i64 1048575, .int .i64 (g.snap.n : Int), .int .i64 (7 + 2 * s + 17 * p), .int .i64 (g.plan.n : Int), .int .i64 20]) (.int .i64 5)).run Tryz.prog w = .ok (.agg #[.int .i64 g.who, .int .i64 7]) w := fun _ => by kernel_rfl
  have ix6 : ∀ w : World, (Instr.index 117 (.agg #[.int .i64 g.slot, .int .i64 (s - 1), .int .i64 g.epoch, .int .i64 4095, .int .i64 g.next, .int .i64 4095, .int .i64 g.pc, .int .i64 26, .int .i64 g.seq, .int .i64 1000001, .int .i64 g.who, .int .i64 7, .int .i64 g.whoE, .int .i64 4095, .int .i64 g.n, .int .i64 20, .int .i64 g.k, .int .i64 (7 + 2 * s + 17 * p), .int .i64 g.time, .int .i64 1048575, .int .i64 (g.snap.n : Int), .int .i64 (7 + 2 * s + 17 * p), .int .i64 (g.plan.n : Int), .int .i64 20]) (.int .i64 6)).run Tryz.prog w = .ok (.agg #[.int .i64 g.whoE, .int .i64 4095]) w := fun _ => by kernel_rfl
  have ix7 : ∀ w : World, (Instr.index 117 (.agg #[.int .i64 g.slot, .int .i64 (s - 1), .int .i64 g.epoch, .int .i64 4095, .int .i64 g.next, .int .i64 4095, .int .i64 g.pc, .int .i64 26, .int .i64 g.seq, .int .i64 1000001, .int .i64 g.who, .int .i64 7, .int .i64 g.whoE, .int .i64 4095, .int .i64 g.n, .int .i64 20, .int .i64 g.k, .int .i64 (7 + 2 * s + 17 * p), .int .i64 g.time, .int .i64 1048575, .int .i64 (g.snap.n : Int), .int .i64 (7 + 2 * s + 17 * p), .int .i64 (g.plan.n : Int), .int .i64 20]) (.int .i64 7)).run Tryz.prog w = .ok (.agg #[.int .i64 g.n, .int .i64 20]) w := fun _ => by kernel_rfl
  have ix8 : ∀ w : World, (Instr.index 117 (.agg #[.int .i64 g.slot, .int .i64 (s - 1), .int .i64 g.epoch, .int .i64 4095, .int .i64 g.next, .int .i64 4095, .int .i64 g.pc, .int .i64 26, .int .i64 g.seq, .int .i64 1000001, .int .i64 g.who, .int .i64 7, .int .i64 g.whoE, .int .i64 4095, .int .i64 g.n, .int .i64 20, .int .i64 g.k, .int .i64 (7 + 2 * s + 17 * p), .int .i64 g.time, .int .i64 1048575, .int .i64 (g.snap.n : Int), .int .i64 (7 + 2 * s + 17 * p), .int .i64 (g.plan.n : Int), .int .i64 20]) (.int .i64 8)).run Tryz.prog w = .ok (.agg #[.int .i64 g.k, .int .i64 (7 + 2 * s + 17 * p)]) w := fun _ => by kernel_rfl
  have ix9 : ∀ w : World, (Instr.index 117 (.agg #[.int .i64 g.slot, .int .i64 (s - 1), .int .i64 g.epoch, .int .i64 4095, .int .i64 g.next, .int .i64 4095, .int .i64 g.pc, .int .i64 26, .int .i64 g.seq, .int .i64 1000001, .int .i64 g.who, .int .i64 7, .int .i64 g.whoE, .int .i64 4095, .int .i64 g.n, .int .i64 20, .int .i64 g.k, .int .i64 (7 + 2 * s + 17 * p), .int .i64 g.time, .int .i64 1048575, .int .i64 (g.snap.n : Int), .int .i64 (7 + 2 * s + 17 * p), .int .i64 (g.plan.n : Int), .int .i64 20]) (.int .i64 9)).run Tryz.prog w = .ok (.agg #[.int .i64 g.time, .int .i64 1048575]) w := fun _ => by kernel_rfl
  have ix10 : ∀ w : World, (Instr.index 117 (.agg #[.int .i64 g.slot, .int .i64 (s - 1), .int .i64 g.epoch, .int .i64 4095, .int .i64 g.next, .int .i64 4095, .int .i64 g.pc, .int .i64 26, .int .i64 g.seq, .int .i64 1000001, .int .i64 g.who, .int .i64 7, .int .i64 g.whoE, .int .i64 4095, .int .i64 g.n, .int .i64 20, .int .i64 g.k, .int .i64 (7 + 2 * s + 17 * p), .int .i64 g.time, .int .i64 1048575, .int .i64 (g.snap.n : Int), .int .i64 (7 + 2 * s + 17 * p), .int .i64 (g.plan.n : Int), .int .i64 20]) (.int .i64 10)).run Tryz.prog w = .ok (.agg #[.int .i64 (g.snap.n : Int), .int .i64 (7 + 2 * s + 17 * p)]) w := fun _ => by kernel_rfl
  have ix11 : ∀ w : World, (Instr.index 117 (.agg #[.int .i64 g.slot, .int .i64 (s - 1), .int .i64 g.epoch, .int .i64 4095, .int .i64 g.next, .int .i64 4095, .int .i64 g.pc, .int .i64 26, .int .i64 g.seq, .int .i64 1000001, .int .i64 g.who, .int .i64 7, .int .i64 g.whoE, .int .i64 4095, .int .i64 g.n, .int .i64 20, .int .i64 g.k, .int .i64 (7 + 2 * s + 17 * p), .int .i64 g.time, .int .i64 1048575, .int .i64 (g.snap.n : Int), .int .i64 (7 + 2 * s + 17 * p), .int .i64 (g.plan.n : Int), .int .i64 20]) (.int .i64 11)).run Tryz.prog w = .ok (.agg #[.int .i64 (g.plan.n : Int), .int .i64 20]) w := fun _ => by kernel_rfl
  have E := El.start w s p g 86 68
  have q1 := E.s
  have q23 := E.d
  have c_slot := at0 E.r 1 (v := .int .i64 g.slot) rfl
  have c_epoch := at0 E.r 2 (v := .int .i64 g.epoch) rfl
  have c_next := at0 E.r 12 (v := .int .i64 g.next) rfl
  have c_pc := at0 E.r 8 (v := .int .i64 g.pc) rfl
  have c_seq := at0 E.r 11 (v := .int .i64 g.seq) rfl
  have c_who := at0 E.r 13 (v := .int .i64 g.who) rfl
  have c_whoE := at0 E.r 14 (v := .int .i64 g.whoE) rfl
  have c_n := at0 E.r 10 (v := .int .i64 g.n) rfl
  have c_k := at0 E.r 9 (v := .int .i64 g.k) rfl
  have c_time := at0 E.r 16 (v := .int .i64 g.time) rfl
  have c_snap := at0 E.r 21 (v := .slice g.snap.a g.snap.n g.snap.c) rfl
  have c_plan := at0 E.r 22 (v := .slice g.plan.a g.plan.n g.plan.c) rfl
  have HB : Hid (Below w.heap.size w ((w.alloc (.cells (ints (layL s p)).toArray 86)).alloc (.cells g.cells.toArray 68))) := E.b
  clear E
  go_enter Tryz.func64, Tryz.ntmps64
  go_wp2_with (fail)
  generalize ((w.alloc (.cells (ints (layL s p)).toArray 86)).alloc (.cells g.cells.toArray 68)) = W at HB ⊢
  clear q1 q23 c_slot c_epoch c_next c_pc c_seq c_who c_whoE c_n c_k c_time c_snap c_plan
  refine wp_loop_rounds 13 ?_
  have B0 : Hid (Below w.heap.size w W) := HB
  have zw : w.heap.size ≤ W.heap.size := HB.out.size
  clear HB
  rw [rounds_succ]
  have B1 : Hid (Below w.heap.size w (W.alloc (.cells #[.int .i64 g.slot, .int .i64 (s - 1)] 116))) := B0.out.trans ((below1 W _).mono zw)
  have z1 : w.heap.size ≤ (W.alloc (.cells #[.int .i64 g.slot, .int .i64 (s - 1)] 116)).heap.size := Nat.le_trans zw (below1 W _).size
  go_wp2_with (fail)
  refine (Gst.within_any _ _ _ _).mono ?_
  rintro e w' ⟨rfl, rfl⟩
  generalize W.alloc (.cells #[.int .i64 g.slot, .int .i64 (s - 1)] 116) = W1 at B1 z1 ⊢
  clear B0 zw ix0
  have zw := z1
  clear z1
  by_cases h1 : 0 ≤ g.slot ∧ g.slot ≤ (s - 1)
  case neg =>
    have H : Hid (¬ Fields s p g) := fun h => by unfold Fields hS at h; omega
    rw [show (decide (0 ≤ g.slot) && decide (g.slot ≤ (s - 1))) = false from by simp; omega]
    go_wp2_with (fail)
    go_ret
    exact ⟨ret_bool (boolOf_f H.out), B1.out⟩
  rw [show (decide (0 ≤ g.slot) && decide (g.slot ≤ (s - 1))) = true from by simp; omega]
  go_wp2_with (fail)
  rw [rounds_succ]
  have B2 : Hid (Below w.heap.size w (W1.alloc (.cells #[.int .i64 g.epoch, .int .i64 4095] 116))) := B1.out.trans ((below1 W1 _).mono zw)
  have z2 : w.heap.size ≤ (W1.alloc (.cells #[.int .i64 g.epoch, .int .i64 4095] 116)).heap.size := Nat.le_trans zw (below1 W1 _).size
  go_wp2_with (fail)
  refine (Gst.within_any _ _ _ _).mono ?_
  rintro e w' ⟨rfl, rfl⟩
  generalize W1.alloc (.cells #[.int .i64 g.epoch, .int .i64 4095] 116) = W2 at B2 z2 ⊢
  clear B1 zw ix1
  have zw := z2
  clear z2
  by_cases h2 : 0 ≤ g.epoch ∧ g.epoch ≤ 4095
  case neg =>
    have H : Hid (¬ Fields s p g) := fun h => by unfold Fields hS at h; omega
    rw [show (decide (0 ≤ g.epoch) && decide (g.epoch ≤ 4095)) = false from by simp; omega]
    go_wp2_with (fail)
    go_ret
    exact ⟨ret_bool (boolOf_f H.out), B2.out⟩
  rw [show (decide (0 ≤ g.epoch) && decide (g.epoch ≤ 4095)) = true from by simp; omega]
  go_wp2_with (fail)
  rw [rounds_succ]
  have B3 : Hid (Below w.heap.size w (W2.alloc (.cells #[.int .i64 g.next, .int .i64 4095] 116))) := B2.out.trans ((below1 W2 _).mono zw)
  have z3 : w.heap.size ≤ (W2.alloc (.cells #[.int .i64 g.next, .int .i64 4095] 116)).heap.size := Nat.le_trans zw (below1 W2 _).size
  go_wp2_with (fail)
  refine (Gst.within_any _ _ _ _).mono ?_
  rintro e w' ⟨rfl, rfl⟩
  generalize W2.alloc (.cells #[.int .i64 g.next, .int .i64 4095] 116) = W3 at B3 z3 ⊢
  clear B2 zw ix2
  have zw := z3
  clear z3
  by_cases h3 : 0 ≤ g.next ∧ g.next ≤ 4095
  case neg =>
    have H : Hid (¬ Fields s p g) := fun h => by unfold Fields hS at h; omega
    rw [show (decide (0 ≤ g.next) && decide (g.next ≤ 4095)) = false from by simp; omega]
    go_wp2_with (fail)
    go_ret
    exact ⟨ret_bool (boolOf_f H.out), B3.out⟩
  rw [show (decide (0 ≤ g.next) && decide (g.next ≤ 4095)) = true from by simp; omega]
  go_wp2_with (fail)
  rw [rounds_succ]
  have B4 : Hid (Below w.heap.size w (W3.alloc (.cells #[.int .i64 g.pc, .int .i64 26] 116))) := B3.out.trans ((below1 W3 _).mono zw)
  have z4 : w.heap.size ≤ (W3.alloc (.cells #[.int .i64 g.pc, .int .i64 26] 116)).heap.size := Nat.le_trans zw (below1 W3 _).size
  go_wp2_with (fail)
  refine (Gst.within_any _ _ _ _).mono ?_
  rintro e w' ⟨rfl, rfl⟩
  generalize W3.alloc (.cells #[.int .i64 g.pc, .int .i64 26] 116) = W4 at B4 z4 ⊢
  clear B3 zw ix3
  have zw := z4
  clear z4
  by_cases h4 : 0 ≤ g.pc ∧ g.pc ≤ 26
  case neg =>
    have H : Hid (¬ Fields s p g) := fun h => by unfold Fields hS at h; omega
    rw [show (decide (0 ≤ g.pc) && decide (g.pc ≤ 26)) = false from by simp; omega]
    go_wp2_with (fail)
    go_ret
    exact ⟨ret_bool (boolOf_f H.out), B4.out⟩
  rw [show (decide (0 ≤ g.pc) && decide (g.pc ≤ 26)) = true from by simp; omega]
  go_wp2_with (fail)
  rw [rounds_succ]
  have B5 : Hid (Below w.heap.size w (W4.alloc (.cells #[.int .i64 g.seq, .int .i64 1000001] 116))) := B4.out.trans ((below1 W4 _).mono zw)
  have z5 : w.heap.size ≤ (W4.alloc (.cells #[.int .i64 g.seq, .int .i64 1000001] 116)).heap.size := Nat.le_trans zw (below1 W4 _).size
  go_wp2_with (fail)
  refine (Gst.within_any _ _ _ _).mono ?_
  rintro e w' ⟨rfl, rfl⟩
  generalize W4.alloc (.cells #[.int .i64 g.seq, .int .i64 1000001] 116) = W5 at B5 z5 ⊢
  clear B4 zw ix4
  have zw := z5
  clear z5
  by_cases h5 : 0 ≤ g.seq ∧ g.seq ≤ 1000001
  case neg =>
    have H : Hid (¬ Fields s p g) := fun h => by unfold Fields hS at h; omega
    rw [show (decide (0 ≤ g.seq) && decide (g.seq ≤ 1000001)) = false from by simp; omega]
    go_wp2_with (fail)
    go_ret
    exact ⟨ret_bool (boolOf_f H.out), B5.out⟩
  rw [show (decide (0 ≤ g.seq) && decide (g.seq ≤ 1000001)) = true from by simp; omega]
  go_wp2_with (fail)
  rw [rounds_succ]
  have B6 : Hid (Below w.heap.size w (W5.alloc (.cells #[.int .i64 g.who, .int .i64 7] 116))) := B5.out.trans ((below1 W5 _).mono zw)
  have z6 : w.heap.size ≤ (W5.alloc (.cells #[.int .i64 g.who, .int .i64 7] 116)).heap.size := Nat.le_trans zw (below1 W5 _).size
  go_wp2_with (fail)
  refine (Gst.within_any _ _ _ _).mono ?_
  rintro e w' ⟨rfl, rfl⟩
  generalize W5.alloc (.cells #[.int .i64 g.who, .int .i64 7] 116) = W6 at B6 z6 ⊢
  clear B5 zw ix5
  have zw := z6
  clear z6
  by_cases h6 : 0 ≤ g.who ∧ g.who ≤ 7
  case neg =>
    have H : Hid (¬ Fields s p g) := fun h => by unfold Fields hS at h; omega
    rw [show (decide (0 ≤ g.who) && decide (g.who ≤ 7)) = false from by simp; omega]
    go_wp2_with (fail)
    go_ret
    exact ⟨ret_bool (boolOf_f H.out), B6.out⟩
  rw [show (decide (0 ≤ g.who) && decide (g.who ≤ 7)) = true from by simp; omega]
  go_wp2_with (fail)
  rw [rounds_succ]
  have B7 : Hid (Below w.heap.size w (W6.alloc (.cells #[.int .i64 g.whoE, .int .i64 4095] 116))) := B6.out.trans ((below1 W6 _).mono zw)
  have z7 : w.heap.size ≤ (W6.alloc (.cells #[.int .i64 g.whoE, .int .i64 4095] 116)).heap.size := Nat.le_trans zw (below1 W6 _).size
  go_wp2_with (fail)
  refine (Gst.within_any _ _ _ _).mono ?_
  rintro e w' ⟨rfl, rfl⟩
  generalize W6.alloc (.cells #[.int .i64 g.whoE, .int .i64 4095] 116) = W7 at B7 z7 ⊢
  clear B6 zw ix6
  have zw := z7
  clear z7
  by_cases h7 : 0 ≤ g.whoE ∧ g.whoE ≤ 4095
  case neg =>
    have H : Hid (¬ Fields s p g) := fun h => by unfold Fields hS at h; omega
    rw [show (decide (0 ≤ g.whoE) && decide (g.whoE ≤ 4095)) = false from by simp; omega]
    go_wp2_with (fail)
    go_ret
    exact ⟨ret_bool (boolOf_f H.out), B7.out⟩
  rw [show (decide (0 ≤ g.whoE) && decide (g.whoE ≤ 4095)) = true from by simp; omega]
  go_wp2_with (fail)
  rw [rounds_succ]
  have B8 : Hid (Below w.heap.size w (W7.alloc (.cells #[.int .i64 g.n, .int .i64 20] 116))) := B7.out.trans ((below1 W7 _).mono zw)
  have z8 : w.heap.size ≤ (W7.alloc (.cells #[.int .i64 g.n, .int .i64 20] 116)).heap.size := Nat.le_trans zw (below1 W7 _).size
  go_wp2_with (fail)
  refine (Gst.within_any _ _ _ _).mono ?_
  rintro e w' ⟨rfl, rfl⟩
  generalize W7.alloc (.cells #[.int .i64 g.n, .int .i64 20] 116) = W8 at B8 z8 ⊢
  clear B7 zw ix7
  have zw := z8
  clear z8
  by_cases h8 : 0 ≤ g.n ∧ g.n ≤ 20
  case neg =>
    have H : Hid (¬ Fields s p g) := fun h => by unfold Fields hS at h; omega
    rw [show (decide (0 ≤ g.n) && decide (g.n ≤ 20)) = false from by simp; omega]
    go_wp2_with (fail)
    go_ret
    exact ⟨ret_bool (boolOf_f H.out), B8.out⟩
  rw [show (decide (0 ≤ g.n) && decide (g.n ≤ 20)) = true from by simp; omega]
  go_wp2_with (fail)
  rw [rounds_succ]
  have B9 : Hid (Below w.heap.size w (W8.alloc (.cells #[.int .i64 g.k, .int .i64 (7 + 2 * s + 17 * p)] 116))) := B8.out.trans ((below1 W8 _).mono zw)
  have z9 : w.heap.size ≤ (W8.alloc (.cells #[.int .i64 g.k, .int .i64 (7 + 2 * s + 17 * p)] 116)).heap.size := Nat.le_trans zw (below1 W8 _).size
  go_wp2_with (fail)
  refine (Gst.within_any _ _ _ _).mono ?_
  rintro e w' ⟨rfl, rfl⟩
  generalize W8.alloc (.cells #[.int .i64 g.k, .int .i64 (7 + 2 * s + 17 * p)] 116) = W9 at B9 z9 ⊢
  clear B8 zw ix8
  have zw := z9
  clear z9
  by_cases h9 : 0 ≤ g.k ∧ g.k ≤ (7 + 2 * s + 17 * p)
  case neg =>
    have H : Hid (¬ Fields s p g) := fun h => by unfold Fields hS at h; omega
    rw [show (decide (0 ≤ g.k) && decide (g.k ≤ (7 + 2 * s + 17 * p))) = false from by simp; omega]
    go_wp2_with (fail)
    go_ret
    exact ⟨ret_bool (boolOf_f H.out), B9.out⟩
  rw [show (decide (0 ≤ g.k) && decide (g.k ≤ (7 + 2 * s + 17 * p))) = true from by simp; omega]
  go_wp2_with (fail)
  rw [rounds_succ]
  have B10 : Hid (Below w.heap.size w (W9.alloc (.cells #[.int .i64 g.time, .int .i64 1048575] 116))) := B9.out.trans ((below1 W9 _).mono zw)
  have z10 : w.heap.size ≤ (W9.alloc (.cells #[.int .i64 g.time, .int .i64 1048575] 116)).heap.size := Nat.le_trans zw (below1 W9 _).size
  go_wp2_with (fail)
  refine (Gst.within_any _ _ _ _).mono ?_
  rintro e w' ⟨rfl, rfl⟩
  generalize W9.alloc (.cells #[.int .i64 g.time, .int .i64 1048575] 116) = W10 at B10 z10 ⊢
  clear B9 zw ix9
  have zw := z10
  clear z10
  by_cases h10 : 0 ≤ g.time ∧ g.time ≤ 1048575
  case neg =>
    have H : Hid (¬ Fields s p g) := fun h => by unfold Fields hS at h; omega
    rw [show (decide (0 ≤ g.time) && decide (g.time ≤ 1048575)) = false from by simp; omega]
    go_wp2_with (fail)
    go_ret
    exact ⟨ret_bool (boolOf_f H.out), B10.out⟩
  rw [show (decide (0 ≤ g.time) && decide (g.time ≤ 1048575)) = true from by simp; omega]
  go_wp2_with (fail)
  rw [rounds_succ]
  have B11 : Hid (Below w.heap.size w (W10.alloc (.cells #[.int .i64 (g.snap.n : Int), .int .i64 (7 + 2 * s + 17 * p)] 116))) := B10.out.trans ((below1 W10 _).mono zw)
  have z11 : w.heap.size ≤ (W10.alloc (.cells #[.int .i64 (g.snap.n : Int), .int .i64 (7 + 2 * s + 17 * p)] 116)).heap.size := Nat.le_trans zw (below1 W10 _).size
  go_wp2_with (fail)
  refine (Gst.within_any _ _ _ _).mono ?_
  rintro e w' ⟨rfl, rfl⟩
  generalize W10.alloc (.cells #[.int .i64 (g.snap.n : Int), .int .i64 (7 + 2 * s + 17 * p)] 116) = W11 at B11 z11 ⊢
  clear B10 zw ix10
  have zw := z11
  clear z11
  by_cases h11 : 0 ≤ (g.snap.n : Int) ∧ (g.snap.n : Int) ≤ (7 + 2 * s + 17 * p)
  case neg =>
    have H : Hid (¬ Fields s p g) := fun h => by unfold Fields hS at h; omega
    rw [show (decide (0 ≤ (g.snap.n : Int)) && decide ((g.snap.n : Int) ≤ (7 + 2 * s + 17 * p))) = false from by simp; omega]
    go_wp2_with (fail)
    go_ret
    exact ⟨ret_bool (boolOf_f H.out), B11.out⟩
  rw [show (decide (0 ≤ (g.snap.n : Int)) && decide ((g.snap.n : Int) ≤ (7 + 2 * s + 17 * p))) = true from by simp; omega]
  go_wp2_with (fail)
  rw [rounds_succ]
  have B12 : Hid (Below w.heap.size w (W11.alloc (.cells #[.int .i64 (g.plan.n : Int), .int .i64 20] 116))) := B11.out.trans ((below1 W11 _).mono zw)
  have z12 : w.heap.size ≤ (W11.alloc (.cells #[.int .i64 (g.plan.n : Int), .int .i64 20] 116)).heap.size := Nat.le_trans zw (below1 W11 _).size
  go_wp2_with (fail)
  refine (Gst.within_any _ _ _ _).mono ?_
  rintro e w' ⟨rfl, rfl⟩
  generalize W11.alloc (.cells #[.int .i64 (g.plan.n : Int), .int .i64 20] 116) = W12 at B12 z12 ⊢
  clear B11 zw ix11
  have zw := z12
  clear z12
  by_cases h12 : 0 ≤ (g.plan.n : Int) ∧ (g.plan.n : Int) ≤ 20
  case neg =>
    have H : Hid (¬ Fields s p g) := fun h => by unfold Fields hS at h; omega
    rw [show (decide (0 ≤ (g.plan.n : Int)) && decide ((g.plan.n : Int) ≤ 20)) = false from by simp; omega]
    go_wp2_with (fail)
    go_ret
    exact ⟨ret_bool (boolOf_f H.out), B12.out⟩
  rw [show (decide (0 ≤ (g.plan.n : Int)) && decide ((g.plan.n : Int) ≤ 20)) = true from by simp; omega]
  go_wp2_with (fail)
  have H : Hid (Fields s p g) := ⟨by omega, by omega, by omega, by omega, by omega, by omega, by omega, by omega, by omega, by omega, by omega, by omega, by omega, by omega, by omega, by omega, by omega, by unfold hS; omega, by unfold hS; omega, by omega, by omega, by omega⟩
  rw [rounds_succ]
  go_wp2_with (fail)
  go_ret
  exact ⟨ret_bool (boolOf_t H.out), B12.out⟩

end Go.Proofs.YtgfbfgiohmdjmaaGreat.Gs

import Derived.Test.YtbipolfbkemmpaaDoorM3

/- Whether two books are the same in all parts, of both. Conditions: at most 1,000,000,000 numbers a list. -/
namespace Go.Proofs.YtbipolfbkemmpaaDoor.Book
open Go.ChangeShapes Go.WideShapes Go.ChangeAt Go.RowKit
open Aid Lst
set_option maxRecDepth 100000

def eqL (x y : Nat × (Nat → Int)) : Bool := decide (x.1 = y.1 ∧ ∀ j, j < x.1 → x.2 j = y.2 j)
def sameM (x y : Bm) : Bool := eqL x.h0 y.h0 && eqL x.h1 y.h1 && eqL x.h2 y.h2 && eqL x.h3 y.h3 && decide (x.s = y.s) && eqL x.p y.p && eqL x.o y.o && eqL x.i y.i && eqL x.e y.e

theorem ix4 (a0 a1 a2 a3 : Option Addr) (n0 c0 n1 c1 n2 c2 n3 c3 : Nat) : (∀ w : World, (Instr.index 24 (.agg #[.slice a0 n0 c0, .slice a1 n1 c1, .slice a2 n2 c2, .slice a3 n3 c3]) (.int .i64 0)).run Tryd.prog w = .ok (.slice a0 n0 c0) w) ∧
    (∀ w : World, (Instr.index 24 (.agg #[.slice a0 n0 c0, .slice a1 n1 c1, .slice a2 n2 c2, .slice a3 n3 c3]) (.int .i64 1)).run Tryd.prog w = .ok (.slice a1 n1 c1) w) ∧
    (∀ w : World, (Instr.index 24 (.agg #[.slice a0 n0 c0, .slice a1 n1 c1, .slice a2 n2 c2, .slice a3 n3 c3]) (.int .i64 2)).run Tryd.prog w = .ok (.slice a2 n2 c2) w) ∧
    (∀ w : World, (Instr.index 24 (.agg #[.slice a0 n0 c0, .slice a1 n1 c1, .slice a2 n2 c2, .slice a3 n3 c3]) (.int .i64 3)).run Tryd.prog w = .ok (.slice a3 n3 c3) w) :=
  ⟨fun _ => by kernel_rfl, fun _ => by kernel_rfl, fun _ => by kernel_rfl, fun _ => by kernel_rfl⟩

set_option maxHeartbeats 2000000 in
theorem int_any (x y : Sx) (w : World) (hx : x.At w) (hy : y.At w) (hn : x.n ≤ 1000000000) (hm : y.n ≤ 1000000000) :
    Calls Tryd.prog 33 #[.slice x.a x.n x.c, .slice y.a y.n y.c] w fun e w' => e = .returned (.bool (eqL x.m y.m)) ∧ ∃ q, w' = w.drewN q := by
  obtain ⟨xa, n, xc, f⟩ := x
  obtain ⟨ya, m, yc, g⟩ := y
  simp only [Sx.At, Sx.m] at hx hy hn hm ⊢
  by_cases hl : n = m
  · subst hl
    go_enter Tryd.func33, Tryd.ntmps33
    go_wp2_with (fail)
    go_loopw [13] (fun i wr => ∃ k : Nat, k ≤ n ∧ i = .int .i64 k ∧ (∀ j, j < k → f j = g j) ∧ ∃ q, wr = w.drewN q) (fun i _ => n - (intOf i).toNat)
    case atStart => exact ⟨0, by omega, rfl, fun j h => by omega, 0, rfl⟩
    case round =>
      obtain ⟨k, hk, rfl, hj, q, rfl⟩ := hrel
      by_cases hlt : (k : Int) < n
      · rcases hx with h | ⟨b1, o1, rfl, hx⟩
        · omega
        rcases hy with h | ⟨b2, o2, rfl, hy⟩
        · omega
        have c1 : (w.drewN q).cell? ⟨b1, o1 + k, none⟩ = some (.int .i64 (f k)) := hx k (by omega)
        have c2 : (w.drewN q).cell? ⟨b2, o2 + k, none⟩ = some (.int .i64 (g k)) := hy k (by omega)
        generalize hW : w.drewN q = W at c1 c2 ⊢
        have HW : Hid (w.drewN q = W) := hW
        have HJ : Hid (∀ j, j < k → f j = g j) := hj
        clear hx hy hj hW
        by_cases e : f k = g k
        · rw [e] at c1
          have E : Hid (f k = g k) := e
          clear e
          go_wp2_with (fail)
          go_quiet (fail)
          go_wp2_with (fail)
          go_roundw
          case rel => exact ⟨k + 1, by omega, by go_num, fun j h => (by
            by_cases e : j = k
            · subst e; exact E.out
            · exact HJ.out j (by omega)), q + nq, by rw [← HW.out]; exact World.drewN_drewN _ _ _⟩
          case measure => simp [intOf]; omega
        · go_wp2_with (fail)
          go_quiet (fail)
          go_wp2_with (fail)
          go_ret
          exact ⟨ret_bool (Eq.symm (decide_eq_false (fun h => e (h.2 k (by show k < n; omega))))), q + nq, by rw [← HW.out]; exact World.drewN_drewN _ _ _⟩
      · go_wp2_with (fail)
        go_ret
        exact ⟨ret_bool (Eq.symm (decide_eq_true ⟨rfl, fun j h => hj j (by have : j < n := h; omega)⟩)), q, rfl⟩
  · have hl' : ¬ (n : Int) = m := by omega
    go_enter Tryd.func33, Tryd.ntmps33
    go_wp2_with (fail)
    go_ret
    exact ⟨ret_bool (Eq.symm (decide_eq_false (fun h => hl h.1))), 0, rfl⟩

set_option maxHeartbeats 8000000 in
theorem same_any (x y : Bx) (w : World) (hx : x.At w) (hy : y.At w) (hn : x.total ≤ 1000000000) (hm : y.total ≤ 1000000000) :
    Calls Tryd.prog 13 #[.agg x.cells.toArray, .agg y.cells.toArray] w fun e w' => e = .returned (.bool (sameM x.m y.m)) ∧ Below w.heap.size w w' := by
  have gx := hx
  have gy := hy
  simp only [Bx.At, Bx.lists, List.forall_mem_cons, List.not_mem_nil, false_implies, implies_true, and_true] at gx gy
  simp only [Bx.total] at hn hm
  simp only [Bx.cells]
  go_enter Tryd.func13, Tryd.ntmps13
  go_wp2_with (fail)
  have R0 : World.rangeAt _ w.heap.size 0 [.int .i64 x.s, .slice x.p.a x.p.n x.p.c, .slice x.h0.a x.h0.n x.h0.c, .slice x.h1.a x.h1.n x.h1.c, .slice x.h2.a x.h2.n x.h2.c, .slice x.h3.a x.h3.n x.h3.c, .slice x.o.a x.o.n x.o.c, .slice x.i.a x.i.n x.i.c, .slice x.e.a x.e.n x.e.c] := range_lit #[.int .i64 x.s, .slice x.p.a x.p.n x.p.c, .slice x.h0.a x.h0.n x.h0.c, .slice x.h1.a x.h1.n x.h1.c, .slice x.h2.a x.h2.n x.h2.c, .slice x.h3.a x.h3.n x.h3.c, .slice x.o.a x.o.n x.o.c, .slice x.i.a x.i.n x.i.c, .slice x.e.a x.e.n x.e.c] (heap2_0 w (.cells #[.int .i64 x.s, .slice x.p.a x.p.n x.p.c, .slice x.h0.a x.h0.n x.h0.c, .slice x.h1.a x.h1.n x.h1.c, .slice x.h2.a x.h2.n x.h2.c, .slice x.h3.a x.h3.n x.h3.c, .slice x.o.a x.o.n x.o.c, .slice x.i.a x.i.n x.i.c, .slice x.e.a x.e.n x.e.c] 26) (.cells #[.int .i64 y.s, .slice y.p.a y.p.n y.p.c, .slice y.h0.a y.h0.n y.h0.c, .slice y.h1.a y.h1.n y.h1.c, .slice y.h2.a y.h2.n y.h2.c, .slice y.h3.a y.h3.n y.h3.c, .slice y.o.a y.o.n y.o.c, .slice y.i.a y.i.n y.i.c, .slice y.e.a y.e.n y.e.c] 26))
  have S0 : World.rangeAt _ (w.heap.size + 1) 0 [.int .i64 y.s, .slice y.p.a y.p.n y.p.c, .slice y.h0.a y.h0.n y.h0.c, .slice y.h1.a y.h1.n y.h1.c, .slice y.h2.a y.h2.n y.h2.c, .slice y.h3.a y.h3.n y.h3.c, .slice y.o.a y.o.n y.o.c, .slice y.i.a y.i.n y.i.c, .slice y.e.a y.e.n y.e.c] := range_lit #[.int .i64 y.s, .slice y.p.a y.p.n y.p.c, .slice y.h0.a y.h0.n y.h0.c, .slice y.h1.a y.h1.n y.h1.c, .slice y.h2.a y.h2.n y.h2.c, .slice y.h3.a y.h3.n y.h3.c, .slice y.o.a y.o.n y.o.c, .slice y.i.a y.i.n y.i.c, .slice y.e.a y.e.n y.e.c] (heap2_1 w (.cells #[.int .i64 x.s, .slice x.p.a x.p.n x.p.c, .slice x.h0.a x.h0.n x.h0.c, .slice x.h1.a x.h1.n x.h1.c, .slice x.h2.a x.h2.n x.h2.c, .slice x.h3.a x.h3.n x.h3.c, .slice x.o.a x.o.n x.o.c, .slice x.i.a x.i.n x.i.c, .slice x.e.a x.e.n x.e.c] 26) (.cells #[.int .i64 y.s, .slice y.p.a y.p.n y.p.c, .slice y.h0.a y.h0.n y.h0.c, .slice y.h1.a y.h1.n y.h1.c, .slice y.h2.a y.h2.n y.h2.c, .slice y.h3.a y.h3.n y.h3.c, .slice y.o.a y.o.n y.o.c, .slice y.i.a y.i.n y.i.c, .slice y.e.a y.e.n y.e.c] 26))
  have B0 := below2 w (.cells #[.int .i64 x.s, .slice x.p.a x.p.n x.p.c, .slice x.h0.a x.h0.n x.h0.c, .slice x.h1.a x.h1.n x.h1.c, .slice x.h2.a x.h2.n x.h2.c, .slice x.h3.a x.h3.n x.h3.c, .slice x.o.a x.o.n x.o.c, .slice x.i.a x.i.n x.i.c, .slice x.e.a x.e.n x.e.c] 26) (.cells #[.int .i64 y.s, .slice y.p.a y.p.n y.p.c, .slice y.h0.a y.h0.n y.h0.c, .slice y.h1.a y.h1.n y.h1.c, .slice y.h2.a y.h2.n y.h2.c, .slice y.h3.a y.h3.n y.h3.c, .slice y.o.a y.o.n y.o.c, .slice y.i.a y.i.n y.i.c, .slice y.e.a y.e.n y.e.c] 26)
  generalize (w.alloc (.cells #[.int .i64 x.s, .slice x.p.a x.p.n x.p.c, .slice x.h0.a x.h0.n x.h0.c, .slice x.h1.a x.h1.n x.h1.c, .slice x.h2.a x.h2.n x.h2.c, .slice x.h3.a x.h3.n x.h3.c, .slice x.o.a x.o.n x.o.c, .slice x.i.a x.i.n x.i.c, .slice x.e.a x.e.n x.e.c] 26)).alloc (.cells #[.int .i64 y.s, .slice y.p.a y.p.n y.p.c, .slice y.h0.a y.h0.n y.h0.c, .slice y.h1.a y.h1.n y.h1.c, .slice y.h2.a y.h2.n y.h2.c, .slice y.h3.a y.h3.n y.h3.c, .slice y.o.a y.o.n y.o.c, .slice y.i.a y.i.n y.i.c, .slice y.e.a y.e.n y.e.c] 26) = W0 at R0 S0 B0 ⊢
  have xp := Sx.At.later gx.1 B0
  have yp := Sx.At.later gy.1 B0
  have xh0 := Sx.At.later gx.2.1 B0
  have yh0 := Sx.At.later gy.2.1 B0
  have xh1 := Sx.At.later gx.2.2.1 B0
  have yh1 := Sx.At.later gy.2.2.1 B0
  have xh2 := Sx.At.later gx.2.2.2.1 B0
  have yh2 := Sx.At.later gy.2.2.2.1 B0
  have xh3 := Sx.At.later gx.2.2.2.2.1 B0
  have yh3 := Sx.At.later gy.2.2.2.2.1 B0
  have xo := Sx.At.later gx.2.2.2.2.2.1 B0
  have yo := Sx.At.later gy.2.2.2.2.2.1 B0
  have xi := Sx.At.later gx.2.2.2.2.2.2.1 B0
  have yi := Sx.At.later gy.2.2.2.2.2.2.1 B0
  have xe := Sx.At.later gx.2.2.2.2.2.2.2 B0
  have ye := Sx.At.later gy.2.2.2.2.2.2.2 B0
  clear gx gy hx hy
  have r0 := at0 R0 0 (v := .int .i64 x.s) rfl
  have s0 := at0 S0 0 (v := .int .i64 y.s) rfl
  have r1 := at0 R0 1 (v := .slice x.p.a x.p.n x.p.c) rfl
  have s1 := at0 S0 1 (v := .slice y.p.a y.p.n y.p.c) rfl
  have r2 := at0 R0 2 (v := .slice x.h0.a x.h0.n x.h0.c) rfl
  have s2 := at0 S0 2 (v := .slice y.h0.a y.h0.n y.h0.c) rfl
  have r3 := at0 R0 3 (v := .slice x.h1.a x.h1.n x.h1.c) rfl
  have s3 := at0 S0 3 (v := .slice y.h1.a y.h1.n y.h1.c) rfl
  have r4 := at0 R0 4 (v := .slice x.h2.a x.h2.n x.h2.c) rfl
  have s4 := at0 S0 4 (v := .slice y.h2.a y.h2.n y.h2.c) rfl
  have r5 := at0 R0 5 (v := .slice x.h3.a x.h3.n x.h3.c) rfl
  have s5 := at0 S0 5 (v := .slice y.h3.a y.h3.n y.h3.c) rfl
  have r6 := at0 R0 6 (v := .slice x.o.a x.o.n x.o.c) rfl
  have s6 := at0 S0 6 (v := .slice y.o.a y.o.n y.o.c) rfl
  have r7 := at0 R0 7 (v := .slice x.i.a x.i.n x.i.c) rfl
  have s7 := at0 S0 7 (v := .slice y.i.a y.i.n y.i.c) rfl
  have r8 := at0 R0 8 (v := .slice x.e.a x.e.n x.e.c) rfl
  have s8 := at0 S0 8 (v := .slice y.e.a y.e.n y.e.c) rfl
  clear R0 S0
  obtain ⟨ix0, ix1, ix2, ix3⟩ := ix4 x.h0.a x.h1.a x.h2.a x.h3.a x.h0.n x.h0.c x.h1.n x.h1.c x.h2.n x.h2.c x.h3.n x.h3.c
  refine wp_loop_rounds 5 ?_
  rw [rounds_succ]
  go_wp2_with (fail)
  refine (int_any x.h0 y.h0 _ xh0 yh0 (by omega) (by omega)).mono ?_
  rintro e w1 ⟨rfl, nq, rfl⟩
  cases ch0 : eqL x.h0.m y.h0.m
  · go_wp2_with (fail)
    go_ret
    exact ⟨ret_bool (by simp only [sameM, Bx.m, ch0]; simp), ⟨B0.os, B0.tape, B0.output, B0.size, B0.block⟩⟩
  go_wp2_with (fail)
  replace r0 : (W0.drewN nq).cell? ⟨w.heap.size, 0, none⟩ = some (.int .i64 x.s) := r0
  replace s0 : (W0.drewN nq).cell? ⟨w.heap.size + 1, 0, none⟩ = some (.int .i64 y.s) := s0
  replace r1 : (W0.drewN nq).cell? ⟨w.heap.size, 1, none⟩ = some (.slice x.p.a x.p.n x.p.c) := r1
  replace s1 : (W0.drewN nq).cell? ⟨w.heap.size + 1, 1, none⟩ = some (.slice y.p.a y.p.n y.p.c) := s1
  replace xp := xp.drewN nq
  replace yp := yp.drewN nq
  replace r3 : (W0.drewN nq).cell? ⟨w.heap.size, 3, none⟩ = some (.slice x.h1.a x.h1.n x.h1.c) := r3
  replace s3 : (W0.drewN nq).cell? ⟨w.heap.size + 1, 3, none⟩ = some (.slice y.h1.a y.h1.n y.h1.c) := s3
  replace xh1 := xh1.drewN nq
  replace yh1 := yh1.drewN nq
  replace r4 : (W0.drewN nq).cell? ⟨w.heap.size, 4, none⟩ = some (.slice x.h2.a x.h2.n x.h2.c) := r4
  replace s4 : (W0.drewN nq).cell? ⟨w.heap.size + 1, 4, none⟩ = some (.slice y.h2.a y.h2.n y.h2.c) := s4
  replace xh2 := xh2.drewN nq
  replace yh2 := yh2.drewN nq
  replace r5 : (W0.drewN nq).cell? ⟨w.heap.size, 5, none⟩ = some (.slice x.h3.a x.h3.n x.h3.c) := r5
  replace s5 : (W0.drewN nq).cell? ⟨w.heap.size + 1, 5, none⟩ = some (.slice y.h3.a y.h3.n y.h3.c) := s5
  replace xh3 := xh3.drewN nq
  replace yh3 := yh3.drewN nq
  replace r6 : (W0.drewN nq).cell? ⟨w.heap.size, 6, none⟩ = some (.slice x.o.a x.o.n x.o.c) := r6
  replace s6 : (W0.drewN nq).cell? ⟨w.heap.size + 1, 6, none⟩ = some (.slice y.o.a y.o.n y.o.c) := s6
  replace xo := xo.drewN nq
  replace yo := yo.drewN nq
  replace r7 : (W0.drewN nq).cell? ⟨w.heap.size, 7, none⟩ = some (.slice x.i.a x.i.n x.i.c) := r7
  replace s7 : (W0.drewN nq).cell? ⟨w.heap.size + 1, 7, none⟩ = some (.slice y.i.a y.i.n y.i.c) := s7
  replace xi := xi.drewN nq
  replace yi := yi.drewN nq
  replace r8 : (W0.drewN nq).cell? ⟨w.heap.size, 8, none⟩ = some (.slice x.e.a x.e.n x.e.c) := r8
  replace s8 : (W0.drewN nq).cell? ⟨w.heap.size + 1, 8, none⟩ = some (.slice y.e.a y.e.n y.e.c) := s8
  replace xe := xe.drewN nq
  replace ye := ye.drewN nq
  have B1 : Below w.heap.size w (W0.drewN nq) := ⟨B0.os, B0.tape, B0.output, B0.size, B0.block⟩
  clear B0
  generalize W0.drewN nq = W1 at B1 r0 s0 r1 s1 xp yp r3 s3 xh1 yh1 r4 s4 xh2 yh2 r5 s5 xh3 yh3 r6 s6 xo yo r7 s7 xi yi r8 s8 xe ye ⊢
  rw [rounds_succ]
  go_wp2_with (fail)
  refine (int_any x.h1 y.h1 _ xh1 yh1 (by omega) (by omega)).mono ?_
  rintro e w1 ⟨rfl, nq, rfl⟩
  cases ch1 : eqL x.h1.m y.h1.m
  · go_wp2_with (fail)
    go_ret
    exact ⟨ret_bool (by simp only [sameM, Bx.m, ch1]; simp), ⟨B1.os, B1.tape, B1.output, B1.size, B1.block⟩⟩
  go_wp2_with (fail)
  replace r0 : (W1.drewN nq).cell? ⟨w.heap.size, 0, none⟩ = some (.int .i64 x.s) := r0
  replace s0 : (W1.drewN nq).cell? ⟨w.heap.size + 1, 0, none⟩ = some (.int .i64 y.s) := s0
  replace r1 : (W1.drewN nq).cell? ⟨w.heap.size, 1, none⟩ = some (.slice x.p.a x.p.n x.p.c) := r1
  replace s1 : (W1.drewN nq).cell? ⟨w.heap.size + 1, 1, none⟩ = some (.slice y.p.a y.p.n y.p.c) := s1
  replace xp := xp.drewN nq
  replace yp := yp.drewN nq
  replace r4 : (W1.drewN nq).cell? ⟨w.heap.size, 4, none⟩ = some (.slice x.h2.a x.h2.n x.h2.c) := r4
  replace s4 : (W1.drewN nq).cell? ⟨w.heap.size + 1, 4, none⟩ = some (.slice y.h2.a y.h2.n y.h2.c) := s4
  replace xh2 := xh2.drewN nq
  replace yh2 := yh2.drewN nq
  replace r5 : (W1.drewN nq).cell? ⟨w.heap.size, 5, none⟩ = some (.slice x.h3.a x.h3.n x.h3.c) := r5
  replace s5 : (W1.drewN nq).cell? ⟨w.heap.size + 1, 5, none⟩ = some (.slice y.h3.a y.h3.n y.h3.c) := s5
  replace xh3 := xh3.drewN nq
  replace yh3 := yh3.drewN nq
  replace r6 : (W1.drewN nq).cell? ⟨w.heap.size, 6, none⟩ = some (.slice x.o.a x.o.n x.o.c) := r6
  replace s6 : (W1.drewN nq).cell? ⟨w.heap.size + 1, 6, none⟩ = some (.slice y.o.a y.o.n y.o.c) := s6
  replace xo := xo.drewN nq
  replace yo := yo.drewN nq
  replace r7 : (W1.drewN nq).cell? ⟨w.heap.size, 7, none⟩ = some (.slice x.i.a x.i.n x.i.c) := r7
  replace s7 : (W1.drewN nq).cell? ⟨w.heap.size + 1, 7, none⟩ = some (.slice y.i.a y.i.n y.i.c) := s7
  replace xi := xi.drewN nq
  replace yi := yi.drewN nq
  replace r8 : (W1.drewN nq).cell? ⟨w.heap.size, 8, none⟩ = some (.slice x.e.a x.e.n x.e.c) := r8
  replace s8 : (W1.drewN nq).cell? ⟨w.heap.size + 1, 8, none⟩ = some (.slice y.e.a y.e.n y.e.c) := s8
  replace xe := xe.drewN nq
  replace ye := ye.drewN nq
  have B2 : Below w.heap.size w (W1.drewN nq) := ⟨B1.os, B1.tape, B1.output, B1.size, B1.block⟩
  clear B1
  generalize W1.drewN nq = W2 at B2 r0 s0 r1 s1 xp yp r4 s4 xh2 yh2 r5 s5 xh3 yh3 r6 s6 xo yo r7 s7 xi yi r8 s8 xe ye ⊢
  rw [rounds_succ]
  go_wp2_with (fail)
  refine (int_any x.h2 y.h2 _ xh2 yh2 (by omega) (by omega)).mono ?_
  rintro e w1 ⟨rfl, nq, rfl⟩
  cases ch2 : eqL x.h2.m y.h2.m
  · go_wp2_with (fail)
    go_ret
    exact ⟨ret_bool (by simp only [sameM, Bx.m, ch2]; simp), ⟨B2.os, B2.tape, B2.output, B2.size, B2.block⟩⟩
  go_wp2_with (fail)
  replace r0 : (W2.drewN nq).cell? ⟨w.heap.size, 0, none⟩ = some (.int .i64 x.s) := r0
  replace s0 : (W2.drewN nq).cell? ⟨w.heap.size + 1, 0, none⟩ = some (.int .i64 y.s) := s0
  replace r1 : (W2.drewN nq).cell? ⟨w.heap.size, 1, none⟩ = some (.slice x.p.a x.p.n x.p.c) := r1
  replace s1 : (W2.drewN nq).cell? ⟨w.heap.size + 1, 1, none⟩ = some (.slice y.p.a y.p.n y.p.c) := s1
  replace xp := xp.drewN nq
  replace yp := yp.drewN nq
  replace r5 : (W2.drewN nq).cell? ⟨w.heap.size, 5, none⟩ = some (.slice x.h3.a x.h3.n x.h3.c) := r5
  replace s5 : (W2.drewN nq).cell? ⟨w.heap.size + 1, 5, none⟩ = some (.slice y.h3.a y.h3.n y.h3.c) := s5
  replace xh3 := xh3.drewN nq
  replace yh3 := yh3.drewN nq
  replace r6 : (W2.drewN nq).cell? ⟨w.heap.size, 6, none⟩ = some (.slice x.o.a x.o.n x.o.c) := r6
  replace s6 : (W2.drewN nq).cell? ⟨w.heap.size + 1, 6, none⟩ = some (.slice y.o.a y.o.n y.o.c) := s6
  replace xo := xo.drewN nq
  replace yo := yo.drewN nq
  replace r7 : (W2.drewN nq).cell? ⟨w.heap.size, 7, none⟩ = some (.slice x.i.a x.i.n x.i.c) := r7
  replace s7 : (W2.drewN nq).cell? ⟨w.heap.size + 1, 7, none⟩ = some (.slice y.i.a y.i.n y.i.c) := s7
  replace xi := xi.drewN nq
  replace yi := yi.drewN nq
  replace r8 : (W2.drewN nq).cell? ⟨w.heap.size, 8, none⟩ = some (.slice x.e.a x.e.n x.e.c) := r8
  replace s8 : (W2.drewN nq).cell? ⟨w.heap.size + 1, 8, none⟩ = some (.slice y.e.a y.e.n y.e.c) := s8
  replace xe := xe.drewN nq
  replace ye := ye.drewN nq
  have B3 : Below w.heap.size w (W2.drewN nq) := ⟨B2.os, B2.tape, B2.output, B2.size, B2.block⟩
  clear B2
  generalize W2.drewN nq = W3 at B3 r0 s0 r1 s1 xp yp r5 s5 xh3 yh3 r6 s6 xo yo r7 s7 xi yi r8 s8 xe ye ⊢
  rw [rounds_succ]
  go_wp2_with (fail)
  refine (int_any x.h3 y.h3 _ xh3 yh3 (by omega) (by omega)).mono ?_
  rintro e w1 ⟨rfl, nq, rfl⟩
  cases ch3 : eqL x.h3.m y.h3.m
  · go_wp2_with (fail)
    go_ret
    exact ⟨ret_bool (by simp only [sameM, Bx.m, ch3]; simp), ⟨B3.os, B3.tape, B3.output, B3.size, B3.block⟩⟩
  go_wp2_with (fail)
  replace r0 : (W3.drewN nq).cell? ⟨w.heap.size, 0, none⟩ = some (.int .i64 x.s) := r0
  replace s0 : (W3.drewN nq).cell? ⟨w.heap.size + 1, 0, none⟩ = some (.int .i64 y.s) := s0
  replace r1 : (W3.drewN nq).cell? ⟨w.heap.size, 1, none⟩ = some (.slice x.p.a x.p.n x.p.c) := r1
  replace s1 : (W3.drewN nq).cell? ⟨w.heap.size + 1, 1, none⟩ = some (.slice y.p.a y.p.n y.p.c) := s1
  replace xp := xp.drewN nq
  replace yp := yp.drewN nq
  replace r6 : (W3.drewN nq).cell? ⟨w.heap.size, 6, none⟩ = some (.slice x.o.a x.o.n x.o.c) := r6
  replace s6 : (W3.drewN nq).cell? ⟨w.heap.size + 1, 6, none⟩ = some (.slice y.o.a y.o.n y.o.c) := s6
  replace xo := xo.drewN nq
  replace yo := yo.drewN nq
  replace r7 : (W3.drewN nq).cell? ⟨w.heap.size, 7, none⟩ = some (.slice x.i.a x.i.n x.i.c) := r7
  replace s7 : (W3.drewN nq).cell? ⟨w.heap.size + 1, 7, none⟩ = some (.slice y.i.a y.i.n y.i.c) := s7
  replace xi := xi.drewN nq
  replace yi := yi.drewN nq
  replace r8 : (W3.drewN nq).cell? ⟨w.heap.size, 8, none⟩ = some (.slice x.e.a x.e.n x.e.c) := r8
  replace s8 : (W3.drewN nq).cell? ⟨w.heap.size + 1, 8, none⟩ = some (.slice y.e.a y.e.n y.e.c) := s8
  replace xe := xe.drewN nq
  replace ye := ye.drewN nq
  have B4 : Below w.heap.size w (W3.drewN nq) := ⟨B3.os, B3.tape, B3.output, B3.size, B3.block⟩
  clear B3
  generalize W3.drewN nq = W4 at B4 r0 s0 r1 s1 xp yp r6 s6 xo yo r7 s7 xi yi r8 s8 xe ye ⊢
  by_cases hs : x.s = y.s
  case neg =>
    rw [rounds_succ]
    go_wp2_with (fail)
    go_ret
    exact ⟨ret_bool (by simp only [sameM, Bx.m]; simp [hs]), B4⟩
  rw [hs] at r0
  have HS : Hid (x.s = y.s) := hs
  clear hs
  rw [rounds_succ]
  go_wp2_with (fail)
  refine (int_any x.p y.p _ xp yp (by omega) (by omega)).mono ?_
  rintro e w1 ⟨rfl, nq, rfl⟩
  cases cp : eqL x.p.m y.p.m
  · go_wp2_with (fail)
    go_ret
    exact ⟨ret_bool (by simp only [sameM, Bx.m, cp]; simp), ⟨B4.os, B4.tape, B4.output, B4.size, B4.block⟩⟩
  replace r6 : (W4.drewN nq).cell? ⟨w.heap.size, 6, none⟩ = some (.slice x.o.a x.o.n x.o.c) := r6
  replace s6 : (W4.drewN nq).cell? ⟨w.heap.size + 1, 6, none⟩ = some (.slice y.o.a y.o.n y.o.c) := s6
  replace xo := xo.drewN nq
  replace yo := yo.drewN nq
  replace r7 : (W4.drewN nq).cell? ⟨w.heap.size, 7, none⟩ = some (.slice x.i.a x.i.n x.i.c) := r7
  replace s7 : (W4.drewN nq).cell? ⟨w.heap.size + 1, 7, none⟩ = some (.slice y.i.a y.i.n y.i.c) := s7
  replace xi := xi.drewN nq
  replace yi := yi.drewN nq
  replace r8 : (W4.drewN nq).cell? ⟨w.heap.size, 8, none⟩ = some (.slice x.e.a x.e.n x.e.c) := r8
  replace s8 : (W4.drewN nq).cell? ⟨w.heap.size + 1, 8, none⟩ = some (.slice y.e.a y.e.n y.e.c) := s8
  replace xe := xe.drewN nq
  replace ye := ye.drewN nq
  have B5 : Below w.heap.size w (W4.drewN nq) := ⟨B4.os, B4.tape, B4.output, B4.size, B4.block⟩
  clear B4
  generalize W4.drewN nq = W5 at B5 r6 s6 xo yo r7 s7 xi yi r8 s8 xe ye ⊢
  go_wp2_with (fail)
  refine (int_any x.o y.o _ xo yo (by omega) (by omega)).mono ?_
  rintro e w1 ⟨rfl, nq, rfl⟩
  cases co : eqL x.o.m y.o.m
  · go_wp2_with (fail)
    go_ret
    exact ⟨ret_bool (by simp only [sameM, Bx.m, co]; simp), ⟨B5.os, B5.tape, B5.output, B5.size, B5.block⟩⟩
  replace r7 : (W5.drewN nq).cell? ⟨w.heap.size, 7, none⟩ = some (.slice x.i.a x.i.n x.i.c) := r7
  replace s7 : (W5.drewN nq).cell? ⟨w.heap.size + 1, 7, none⟩ = some (.slice y.i.a y.i.n y.i.c) := s7
  replace xi := xi.drewN nq
  replace yi := yi.drewN nq
  replace r8 : (W5.drewN nq).cell? ⟨w.heap.size, 8, none⟩ = some (.slice x.e.a x.e.n x.e.c) := r8
  replace s8 : (W5.drewN nq).cell? ⟨w.heap.size + 1, 8, none⟩ = some (.slice y.e.a y.e.n y.e.c) := s8
  replace xe := xe.drewN nq
  replace ye := ye.drewN nq
  have B6 : Below w.heap.size w (W5.drewN nq) := ⟨B5.os, B5.tape, B5.output, B5.size, B5.block⟩
  clear B5
  generalize W5.drewN nq = W6 at B6 r7 s7 xi yi r8 s8 xe ye ⊢
  go_wp2_with (fail)
  refine (int_any x.i y.i _ xi yi (by omega) (by omega)).mono ?_
  rintro e w1 ⟨rfl, nq, rfl⟩
  cases ci : eqL x.i.m y.i.m
  · go_wp2_with (fail)
    go_ret
    exact ⟨ret_bool (by simp only [sameM, Bx.m, ci]; simp), ⟨B6.os, B6.tape, B6.output, B6.size, B6.block⟩⟩
  replace r8 : (W6.drewN nq).cell? ⟨w.heap.size, 8, none⟩ = some (.slice x.e.a x.e.n x.e.c) := r8
  replace s8 : (W6.drewN nq).cell? ⟨w.heap.size + 1, 8, none⟩ = some (.slice y.e.a y.e.n y.e.c) := s8
  replace xe := xe.drewN nq
  replace ye := ye.drewN nq
  have B7 : Below w.heap.size w (W6.drewN nq) := ⟨B6.os, B6.tape, B6.output, B6.size, B6.block⟩
  clear B6
  generalize W6.drewN nq = W7 at B7 r8 s8 xe ye ⊢
  go_wp2_with (fail)
  refine (int_any x.e y.e _ xe ye (by omega) (by omega)).mono ?_
  rintro e w1 ⟨rfl, nq, rfl⟩
  cases ce : eqL x.e.m y.e.m
  · go_wp2_with (fail)
    go_ret
    exact ⟨ret_bool (by simp only [sameM, Bx.m, ce]; simp), ⟨B7.os, B7.tape, B7.output, B7.size, B7.block⟩⟩
  have B8 : Below w.heap.size w (W7.drewN nq) := ⟨B7.os, B7.tape, B7.output, B7.size, B7.block⟩
  clear B7
  generalize W7.drewN nq = W8 at B8  ⊢
  go_wp2_with (fail)
  go_ret
  exact ⟨ret_bool (by simp only [sameM, Bx.m, ch0, ch1, ch2, ch3, cp, co, ci, ce, HS.out]; simp), B8⟩

end Go.Proofs.YtbipolfbkemmpaaDoor.Book

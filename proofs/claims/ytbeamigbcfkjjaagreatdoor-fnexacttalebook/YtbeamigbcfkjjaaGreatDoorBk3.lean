import Derived.Test.YtbeamigbcfkjjaaGreatDoorBk2

/- Books that are held against each other, marked, and looked at. Conditions: at most 1,000,000,000 numbers in all. -/
namespace Go.Proofs.YtbeamigbcfkjjaaGreatDoor.Book
open Go.ChangeShapes Go.WideShapes Go.ChangeAt Go.RowKit
open Go.Proofs.YtbeamigbcfkjjaaGreatDoor.Aid Go.Proofs.YtbeamigbcfkjjaaGreatDoor.Lst

theorem eq1_any (x y : Sx) (w : World) (hx : x.At w) (hy : y.At w) (e : x.m = y.m) (hn : x.n ≤ 1000000000) :
    Calls Tryz.prog 27 #[.slice x.a x.n x.c, .slice y.a y.n y.c] w fun e w' => e = .returned (.bool true) ∧ ∃ q, w' = w.drewN q := by
  obtain ⟨xa, xn, xc, xf⟩ := x
  obtain ⟨ya, yn, yc, yf⟩ := y
  simp only [Sx.m, Prod.mk.injEq] at e
  obtain ⟨rfl, rfl⟩ := e
  exact eqInt_any xa ya xn xc yc xf xf w hx hy (fun _ _ => rfl) hn

set_option maxHeartbeats 2000000 in
theorem eq4_any (x0 x1 x2 x3 y0 y1 y2 y3 : Sx) (w : World) (hx0 : x0.At w) (hx1 : x1.At w) (hx2 : x2.At w) (hx3 : x3.At w) (hy0 : y0.At w) (hy1 : y1.At w) (hy2 : y2.At w) (hy3 : y3.At w) (e0 : x0.m = y0.m) (e1 : x1.m = y1.m) (e2 : x2.m = y2.m) (e3 : x3.m = y3.m) (hn0 : x0.n ≤ 1000000000) (hn1 : x1.n ≤ 1000000000) (hn2 : x2.n ≤ 1000000000) (hn3 : x3.n ≤ 1000000000) :
    Calls Tryz.prog 28 #[.agg #[.slice x0.a x0.n x0.c, .slice x1.a x1.n x1.c, .slice x2.a x2.n x2.c, .slice x3.a x3.n x3.c], .agg #[.slice y0.a y0.n y0.c, .slice y1.a y1.n y1.c, .slice y2.a y2.n y2.c, .slice y3.a y3.n y3.c]] w fun e w' => e = .returned (.bool true) ∧ Below w.heap.size w w' := by
  go_enter Tryz.func28, Tryz.ntmps28
  go_wp2_with (fail)
  have R0 : World.rangeAt _ w.heap.size 0 [.slice x0.a x0.n x0.c, .slice x1.a x1.n x1.c, .slice x2.a x2.n x2.c, .slice x3.a x3.n x3.c] := range_lit #[.slice x0.a x0.n x0.c, .slice x1.a x1.n x1.c, .slice x2.a x2.n x2.c, .slice x3.a x3.n x3.c] (heap2_0 w (.cells #[.slice x0.a x0.n x0.c, .slice x1.a x1.n x1.c, .slice x2.a x2.n x2.c, .slice x3.a x3.n x3.c] 23) (.cells #[.slice y0.a y0.n y0.c, .slice y1.a y1.n y1.c, .slice y2.a y2.n y2.c, .slice y3.a y3.n y3.c] 23))
  have S0 : World.rangeAt _ (w.heap.size + 1) 0 [.slice y0.a y0.n y0.c, .slice y1.a y1.n y1.c, .slice y2.a y2.n y2.c, .slice y3.a y3.n y3.c] := range_lit #[.slice y0.a y0.n y0.c, .slice y1.a y1.n y1.c, .slice y2.a y2.n y2.c, .slice y3.a y3.n y3.c] (heap2_1 w (.cells #[.slice x0.a x0.n x0.c, .slice x1.a x1.n x1.c, .slice x2.a x2.n x2.c, .slice x3.a x3.n x3.c] 23) (.cells #[.slice y0.a y0.n y0.c, .slice y1.a y1.n y1.c, .slice y2.a y2.n y2.c, .slice y3.a y3.n y3.c] 23))
  have B0 := below2 w (.cells #[.slice x0.a x0.n x0.c, .slice x1.a x1.n x1.c, .slice x2.a x2.n x2.c, .slice x3.a x3.n x3.c] 23) (.cells #[.slice y0.a y0.n y0.c, .slice y1.a y1.n y1.c, .slice y2.a y2.n y2.c, .slice y3.a y3.n y3.c] 23)
  generalize (w.alloc (.cells #[.slice x0.a x0.n x0.c, .slice x1.a x1.n x1.c, .slice x2.a x2.n x2.c, .slice x3.a x3.n x3.c] 23)).alloc (.cells #[.slice y0.a y0.n y0.c, .slice y1.a y1.n y1.c, .slice y2.a y2.n y2.c, .slice y3.a y3.n y3.c] 23) = W0 at R0 S0 B0 ⊢
  have gx0 := hx0.later B0
  have gy0 := hy0.later B0
  have gx1 := hx1.later B0
  have gy1 := hy1.later B0
  have gx2 := hx2.later B0
  have gy2 := hy2.later B0
  have gx3 := hx3.later B0
  have gy3 := hy3.later B0
  clear hx0 hy0 hx1 hy1 hx2 hy2 hx3 hy3
  have r0 : W0.cell? ⟨w.heap.size, 0, none⟩ = some (.slice x0.a x0.n x0.c) := R0 0 _ rfl
  have s0 : W0.cell? ⟨w.heap.size + 1, 0, none⟩ = some (.slice y0.a y0.n y0.c) := S0 0 _ rfl
  have r1 : W0.cell? ⟨w.heap.size, 1, none⟩ = some (.slice x1.a x1.n x1.c) := R0 1 _ rfl
  have s1 : W0.cell? ⟨w.heap.size + 1, 1, none⟩ = some (.slice y1.a y1.n y1.c) := S0 1 _ rfl
  have r2 : W0.cell? ⟨w.heap.size, 2, none⟩ = some (.slice x2.a x2.n x2.c) := R0 2 _ rfl
  have s2 : W0.cell? ⟨w.heap.size + 1, 2, none⟩ = some (.slice y2.a y2.n y2.c) := S0 2 _ rfl
  have r3 : W0.cell? ⟨w.heap.size, 3, none⟩ = some (.slice x3.a x3.n x3.c) := R0 3 _ rfl
  have s3 : W0.cell? ⟨w.heap.size + 1, 3, none⟩ = some (.slice y3.a y3.n y3.c) := S0 3 _ rfl
  clear R0 S0
  refine wp_loop_rounds 5 ?_
  rw [rounds_succ]
  go_wp2_with (fail)
  go_quiet (first | (go_at_call 27; exact Calls.quiet_of (eq1_any x0 y0 _ gx0 gy0 e0 hn0)))
  go_wp2_with (fail)
  replace r1 : (W0.drewN nq).cell? ⟨w.heap.size, 1, none⟩ = some (.slice x1.a x1.n x1.c) := r1
  replace s1 : (W0.drewN nq).cell? ⟨w.heap.size + 1, 1, none⟩ = some (.slice y1.a y1.n y1.c) := s1
  replace gx1 := gx1.drewN nq
  replace gy1 := gy1.drewN nq
  replace r2 : (W0.drewN nq).cell? ⟨w.heap.size, 2, none⟩ = some (.slice x2.a x2.n x2.c) := r2
  replace s2 : (W0.drewN nq).cell? ⟨w.heap.size + 1, 2, none⟩ = some (.slice y2.a y2.n y2.c) := s2
  replace gx2 := gx2.drewN nq
  replace gy2 := gy2.drewN nq
  replace r3 : (W0.drewN nq).cell? ⟨w.heap.size, 3, none⟩ = some (.slice x3.a x3.n x3.c) := r3
  replace s3 : (W0.drewN nq).cell? ⟨w.heap.size + 1, 3, none⟩ = some (.slice y3.a y3.n y3.c) := s3
  replace gx3 := gx3.drewN nq
  replace gy3 := gy3.drewN nq
  have B1 : Below w.heap.size w (W0.drewN nq) := ⟨B0.os, B0.tape, B0.output, B0.size, B0.block⟩
  clear B0 r0 s0 gx0 gy0
  generalize W0.drewN nq = W1 at B1 r1 s1 gx1 gy1 r2 s2 gx2 gy2 r3 s3 gx3 gy3 ⊢
  rw [rounds_succ]
  go_wp2_with (fail)
  go_quiet (first | (go_at_call 27; exact Calls.quiet_of (eq1_any x1 y1 _ gx1 gy1 e1 hn1)))
  go_wp2_with (fail)
  replace r2 : (W1.drewN nq).cell? ⟨w.heap.size, 2, none⟩ = some (.slice x2.a x2.n x2.c) := r2
  replace s2 : (W1.drewN nq).cell? ⟨w.heap.size + 1, 2, none⟩ = some (.slice y2.a y2.n y2.c) := s2
  replace gx2 := gx2.drewN nq
  replace gy2 := gy2.drewN nq
  replace r3 : (W1.drewN nq).cell? ⟨w.heap.size, 3, none⟩ = some (.slice x3.a x3.n x3.c) := r3
  replace s3 : (W1.drewN nq).cell? ⟨w.heap.size + 1, 3, none⟩ = some (.slice y3.a y3.n y3.c) := s3
  replace gx3 := gx3.drewN nq
  replace gy3 := gy3.drewN nq
  have B2 : Below w.heap.size w (W1.drewN nq) := ⟨B1.os, B1.tape, B1.output, B1.size, B1.block⟩
  clear B1 r1 s1 gx1 gy1
  generalize W1.drewN nq = W2 at B2 r2 s2 gx2 gy2 r3 s3 gx3 gy3 ⊢
  rw [rounds_succ]
  go_wp2_with (fail)
  go_quiet (first | (go_at_call 27; exact Calls.quiet_of (eq1_any x2 y2 _ gx2 gy2 e2 hn2)))
  go_wp2_with (fail)
  replace r3 : (W2.drewN nq).cell? ⟨w.heap.size, 3, none⟩ = some (.slice x3.a x3.n x3.c) := r3
  replace s3 : (W2.drewN nq).cell? ⟨w.heap.size + 1, 3, none⟩ = some (.slice y3.a y3.n y3.c) := s3
  replace gx3 := gx3.drewN nq
  replace gy3 := gy3.drewN nq
  have B3 : Below w.heap.size w (W2.drewN nq) := ⟨B2.os, B2.tape, B2.output, B2.size, B2.block⟩
  clear B2 r2 s2 gx2 gy2
  generalize W2.drewN nq = W3 at B3 r3 s3 gx3 gy3 ⊢
  rw [rounds_succ]
  go_wp2_with (fail)
  go_quiet (first | (go_at_call 27; exact Calls.quiet_of (eq1_any x3 y3 _ gx3 gy3 e3 hn3)))
  go_wp2_with (fail)
  have B4 : Below w.heap.size w (W3.drewN nq) := ⟨B3.os, B3.tape, B3.output, B3.size, B3.block⟩
  clear B3 r3 s3 gx3 gy3
  generalize W3.drewN nq = W4 at B4  ⊢
  rw [rounds_succ]
  go_wp2_with (fail)
  go_ret
  exact ⟨rfl, B4⟩

set_option maxHeartbeats 4000000 in
theorem eq_any (x y : Bx) (w : World) (hx : x.At w) (hy : y.At w) (e : x.m = y.m) (hn : x.total ≤ 1000000000) :
    Calls Tryz.prog 10 #[.agg x.cells.toArray, .agg y.cells.toArray] w fun e w' => e = .returned (.bool true) ∧ Below w.heap.size w w' := by
  have gx := hx
  have gy := hy
  simp only [Bx.At, Bx.lists, List.forall_mem_cons, List.not_mem_nil, false_implies, implies_true, and_true] at gx gy
  simp only [Bx.m, Bm.mk.injEq] at e
  simp only [Bx.total] at hn
  simp only [Bx.cells]
  obtain ⟨es, ep, e0, e1, e2, e3, eo, ei, ee⟩ := e
  rw [← es]
  clear es
  go_enter Tryz.func10, Tryz.ntmps10
  go_wp2_with (fail)
  have R0 : World.rangeAt _ w.heap.size 0 [.int .i64 x.s, .slice x.p.a x.p.n x.p.c, .slice x.h0.a x.h0.n x.h0.c, .slice x.h1.a x.h1.n x.h1.c, .slice x.h2.a x.h2.n x.h2.c, .slice x.h3.a x.h3.n x.h3.c, .slice x.o.a x.o.n x.o.c, .slice x.i.a x.i.n x.i.c, .slice x.e.a x.e.n x.e.c] := range_lit #[.int .i64 x.s, .slice x.p.a x.p.n x.p.c, .slice x.h0.a x.h0.n x.h0.c, .slice x.h1.a x.h1.n x.h1.c, .slice x.h2.a x.h2.n x.h2.c, .slice x.h3.a x.h3.n x.h3.c, .slice x.o.a x.o.n x.o.c, .slice x.i.a x.i.n x.i.c, .slice x.e.a x.e.n x.e.c] (heap2_0 w (.cells #[.int .i64 x.s, .slice x.p.a x.p.n x.p.c, .slice x.h0.a x.h0.n x.h0.c, .slice x.h1.a x.h1.n x.h1.c, .slice x.h2.a x.h2.n x.h2.c, .slice x.h3.a x.h3.n x.h3.c, .slice x.o.a x.o.n x.o.c, .slice x.i.a x.i.n x.i.c, .slice x.e.a x.e.n x.e.c] 29) (.cells #[.int .i64 x.s, .slice y.p.a y.p.n y.p.c, .slice y.h0.a y.h0.n y.h0.c, .slice y.h1.a y.h1.n y.h1.c, .slice y.h2.a y.h2.n y.h2.c, .slice y.h3.a y.h3.n y.h3.c, .slice y.o.a y.o.n y.o.c, .slice y.i.a y.i.n y.i.c, .slice y.e.a y.e.n y.e.c] 29))
  have S0 : World.rangeAt _ (w.heap.size + 1) 0 [.int .i64 x.s, .slice y.p.a y.p.n y.p.c, .slice y.h0.a y.h0.n y.h0.c, .slice y.h1.a y.h1.n y.h1.c, .slice y.h2.a y.h2.n y.h2.c, .slice y.h3.a y.h3.n y.h3.c, .slice y.o.a y.o.n y.o.c, .slice y.i.a y.i.n y.i.c, .slice y.e.a y.e.n y.e.c] := range_lit #[.int .i64 x.s, .slice y.p.a y.p.n y.p.c, .slice y.h0.a y.h0.n y.h0.c, .slice y.h1.a y.h1.n y.h1.c, .slice y.h2.a y.h2.n y.h2.c, .slice y.h3.a y.h3.n y.h3.c, .slice y.o.a y.o.n y.o.c, .slice y.i.a y.i.n y.i.c, .slice y.e.a y.e.n y.e.c] (heap2_1 w (.cells #[.int .i64 x.s, .slice x.p.a x.p.n x.p.c, .slice x.h0.a x.h0.n x.h0.c, .slice x.h1.a x.h1.n x.h1.c, .slice x.h2.a x.h2.n x.h2.c, .slice x.h3.a x.h3.n x.h3.c, .slice x.o.a x.o.n x.o.c, .slice x.i.a x.i.n x.i.c, .slice x.e.a x.e.n x.e.c] 29) (.cells #[.int .i64 x.s, .slice y.p.a y.p.n y.p.c, .slice y.h0.a y.h0.n y.h0.c, .slice y.h1.a y.h1.n y.h1.c, .slice y.h2.a y.h2.n y.h2.c, .slice y.h3.a y.h3.n y.h3.c, .slice y.o.a y.o.n y.o.c, .slice y.i.a y.i.n y.i.c, .slice y.e.a y.e.n y.e.c] 29))
  have B0 := below2 w (.cells #[.int .i64 x.s, .slice x.p.a x.p.n x.p.c, .slice x.h0.a x.h0.n x.h0.c, .slice x.h1.a x.h1.n x.h1.c, .slice x.h2.a x.h2.n x.h2.c, .slice x.h3.a x.h3.n x.h3.c, .slice x.o.a x.o.n x.o.c, .slice x.i.a x.i.n x.i.c, .slice x.e.a x.e.n x.e.c] 29) (.cells #[.int .i64 x.s, .slice y.p.a y.p.n y.p.c, .slice y.h0.a y.h0.n y.h0.c, .slice y.h1.a y.h1.n y.h1.c, .slice y.h2.a y.h2.n y.h2.c, .slice y.h3.a y.h3.n y.h3.c, .slice y.o.a y.o.n y.o.c, .slice y.i.a y.i.n y.i.c, .slice y.e.a y.e.n y.e.c] 29)
  have Z0 : w.heap.size + 2 ≤ ((w.alloc (.cells #[.int .i64 x.s, .slice x.p.a x.p.n x.p.c, .slice x.h0.a x.h0.n x.h0.c, .slice x.h1.a x.h1.n x.h1.c, .slice x.h2.a x.h2.n x.h2.c, .slice x.h3.a x.h3.n x.h3.c, .slice x.o.a x.o.n x.o.c, .slice x.i.a x.i.n x.i.c, .slice x.e.a x.e.n x.e.c] 29)).alloc (.cells #[.int .i64 x.s, .slice y.p.a y.p.n y.p.c, .slice y.h0.a y.h0.n y.h0.c, .slice y.h1.a y.h1.n y.h1.c, .slice y.h2.a y.h2.n y.h2.c, .slice y.h3.a y.h3.n y.h3.c, .slice y.o.a y.o.n y.o.c, .slice y.i.a y.i.n y.i.c, .slice y.e.a y.e.n y.e.c] 29)).heap.size := by simp
  generalize (w.alloc (.cells #[.int .i64 x.s, .slice x.p.a x.p.n x.p.c, .slice x.h0.a x.h0.n x.h0.c, .slice x.h1.a x.h1.n x.h1.c, .slice x.h2.a x.h2.n x.h2.c, .slice x.h3.a x.h3.n x.h3.c, .slice x.o.a x.o.n x.o.c, .slice x.i.a x.i.n x.i.c, .slice x.e.a x.e.n x.e.c] 29)).alloc (.cells #[.int .i64 x.s, .slice y.p.a y.p.n y.p.c, .slice y.h0.a y.h0.n y.h0.c, .slice y.h1.a y.h1.n y.h1.c, .slice y.h2.a y.h2.n y.h2.c, .slice y.h3.a y.h3.n y.h3.c, .slice y.o.a y.o.n y.o.c, .slice y.i.a y.i.n y.i.c, .slice y.e.a y.e.n y.e.c] 29) = W0 at R0 S0 B0 Z0 ⊢
  refine (eq1_any x.p y.p W0 (Sx.At.later gx.1 B0) (Sx.At.later gy.1 B0) ep (by omega)).mono ?_
  rintro e w1 ⟨rfl, q, rfl⟩
  have hb : Below W0.heap.size W0 (W0.drewN q) := ⟨rfl, rfl, rfl, Nat.le_refl _, fun _ _ => rfl⟩
  have B1 := B0.trans (hb.mono (by omega))
  have R1 := range_below hb R0 (by omega)
  have S1 := range_below hb S0 (by omega)
  have Z1 := Nat.le_trans Z0 hb.size
  clear hb B0 R0 S0 Z0
  generalize W0.drewN q = W1 at B1 R1 S1 Z1 ⊢
  have r2 : W1.cell? ⟨w.heap.size, 2, none⟩ = some (.slice x.h0.a x.h0.n x.h0.c) := R1 2 _ rfl
  have s2 : W1.cell? ⟨w.heap.size + 1, 2, none⟩ = some (.slice y.h0.a y.h0.n y.h0.c) := S1 2 _ rfl
  have r3 : W1.cell? ⟨w.heap.size, 3, none⟩ = some (.slice x.h1.a x.h1.n x.h1.c) := R1 3 _ rfl
  have s3 : W1.cell? ⟨w.heap.size + 1, 3, none⟩ = some (.slice y.h1.a y.h1.n y.h1.c) := S1 3 _ rfl
  have r4 : W1.cell? ⟨w.heap.size, 4, none⟩ = some (.slice x.h2.a x.h2.n x.h2.c) := R1 4 _ rfl
  have s4 : W1.cell? ⟨w.heap.size + 1, 4, none⟩ = some (.slice y.h2.a y.h2.n y.h2.c) := S1 4 _ rfl
  have r5 : W1.cell? ⟨w.heap.size, 5, none⟩ = some (.slice x.h3.a x.h3.n x.h3.c) := R1 5 _ rfl
  have s5 : W1.cell? ⟨w.heap.size + 1, 5, none⟩ = some (.slice y.h3.a y.h3.n y.h3.c) := S1 5 _ rfl
  go_wp2_with (fail)
  clear r2 s2 r3 s3 r4 s4 r5 s5
  refine (eq4_any x.h0 x.h1 x.h2 x.h3 y.h0 y.h1 y.h2 y.h3 W1 (Sx.At.later gx.2.1 B1) (Sx.At.later gx.2.2.1 B1) (Sx.At.later gx.2.2.2.1 B1) (Sx.At.later gx.2.2.2.2.1 B1) (Sx.At.later gy.2.1 B1) (Sx.At.later gy.2.2.1 B1) (Sx.At.later gy.2.2.2.1 B1) (Sx.At.later gy.2.2.2.2.1 B1) e0 e1 e2 e3 (by omega) (by omega) (by omega) (by omega)).mono ?_
  rintro e W2 ⟨rfl, hb⟩
  have B2 := B1.trans (hb.mono (by omega))
  have R2 := range_below hb R1 (by omega)
  have S2 := range_below hb S1 (by omega)
  have Z2 := Nat.le_trans Z1 hb.size
  clear hb B1 R1 S1 Z1
  have r6 : W2.cell? ⟨w.heap.size, 6, none⟩ = some (.slice x.o.a x.o.n x.o.c) := R2 6 _ rfl
  have s6 : W2.cell? ⟨w.heap.size + 1, 6, none⟩ = some (.slice y.o.a y.o.n y.o.c) := S2 6 _ rfl
  go_wp2_with (fail)
  clear r6 s6
  refine (eq1_any x.o y.o W2 (Sx.At.later gx.2.2.2.2.2.1 B2) (Sx.At.later gy.2.2.2.2.2.1 B2) eo (by omega)).mono ?_
  rintro e w1 ⟨rfl, q, rfl⟩
  have hb : Below W2.heap.size W2 (W2.drewN q) := ⟨rfl, rfl, rfl, Nat.le_refl _, fun _ _ => rfl⟩
  have B3 := B2.trans (hb.mono (by omega))
  have R3 := range_below hb R2 (by omega)
  have S3 := range_below hb S2 (by omega)
  have Z3 := Nat.le_trans Z2 hb.size
  clear hb B2 R2 S2 Z2
  generalize W2.drewN q = W3 at B3 R3 S3 Z3 ⊢
  have r7 : W3.cell? ⟨w.heap.size, 7, none⟩ = some (.slice x.i.a x.i.n x.i.c) := R3 7 _ rfl
  have s7 : W3.cell? ⟨w.heap.size + 1, 7, none⟩ = some (.slice y.i.a y.i.n y.i.c) := S3 7 _ rfl
  go_wp2_with (fail)
  clear r7 s7
  refine (eq1_any x.i y.i W3 (Sx.At.later gx.2.2.2.2.2.2.1 B3) (Sx.At.later gy.2.2.2.2.2.2.1 B3) ei (by omega)).mono ?_
  rintro e w1 ⟨rfl, q, rfl⟩
  have hb : Below W3.heap.size W3 (W3.drewN q) := ⟨rfl, rfl, rfl, Nat.le_refl _, fun _ _ => rfl⟩
  have B4 := B3.trans (hb.mono (by omega))
  have R4 := range_below hb R3 (by omega)
  have S4 := range_below hb S3 (by omega)
  have Z4 := Nat.le_trans Z3 hb.size
  clear hb B3 R3 S3 Z3
  generalize W3.drewN q = W4 at B4 R4 S4 Z4 ⊢
  have r8 : W4.cell? ⟨w.heap.size, 8, none⟩ = some (.slice x.e.a x.e.n x.e.c) := R4 8 _ rfl
  have s8 : W4.cell? ⟨w.heap.size + 1, 8, none⟩ = some (.slice y.e.a y.e.n y.e.c) := S4 8 _ rfl
  go_wp2_with (fail)
  clear r8 s8
  refine (eq1_any x.e y.e W4 (Sx.At.later gx.2.2.2.2.2.2.2 B4) (Sx.At.later gy.2.2.2.2.2.2.2 B4) ee (by omega)).mono ?_
  rintro e w1 ⟨rfl, q, rfl⟩
  have hb : Below W4.heap.size W4 (W4.drewN q) := ⟨rfl, rfl, rfl, Nat.le_refl _, fun _ _ => rfl⟩
  have B5 := B4.trans (hb.mono (by omega))
  have R5 := range_below hb R4 (by omega)
  have S5 := range_below hb S4 (by omega)
  have Z5 := Nat.le_trans Z4 hb.size
  clear hb B4 R4 S4 Z4
  generalize W4.drewN q = W5 at B5 R5 S5 Z5 ⊢
  go_wp2_with (fail)
  go_ret
  exact ⟨rfl, B5⟩

end Go.Proofs.YtbeamigbcfkjjaaGreatDoor.Book

import Derived.Test.YtgfbfgiohmdjmaaGreatBk2
import Derived.Test.YtgfbfgiohmdjmaaGreatM2
import Derived.OpenShut
import Derived.Lib.SmallJoins
import Derived.Laws.IdiomArrays

/- Books that are held against each other, marked, and looked at. Conditions: at most 1,000,000,000 numbers in all. -/
namespace Go.Proofs.YtgfbfgiohmdjmaaGreat.Book
open Go.ChangeShapes Go.WideShapes Go.ChangeAt Go.RowKit
open Aid Lst

theorem eq1_any (x y : Sx) (w : World) (hx : x.At w) (hy : y.At w) (e : x.m = y.m) (hn : x.n ≤ 1000000000) :
    Calls Tryz.prog 21 #[.slice x.a x.n x.c, .slice y.a y.n y.c] w fun e w' => e = .returned (.bool true) ∧ ∃ q, w' = w.drewN q := by
  obtain ⟨xa, xn, xc, xf⟩ := x
  obtain ⟨ya, yn, yc, yf⟩ := y
  simp only [Sx.m, Prod.mk.injEq] at e
  obtain ⟨rfl, rfl⟩ := e
  exact eqInt_any xa ya xn xc yc xf xf w hx hy (fun _ _ => rfl) hn

set_option maxHeartbeats 2000000 in
theorem eq4_any (x0 x1 x2 x3 y0 y1 y2 y3 : Sx) (w : World) (hx0 : x0.At w) (hx1 : x1.At w) (hx2 : x2.At w) (hx3 : x3.At w) (hy0 : y0.At w) (hy1 : y1.At w) (hy2 : y2.At w) (hy3 : y3.At w) (e0 : x0.m = y0.m) (e1 : x1.m = y1.m) (e2 : x2.m = y2.m) (e3 : x3.m = y3.m) (hn0 : x0.n ≤ 1000000000) (hn1 : x1.n ≤ 1000000000) (hn2 : x2.n ≤ 1000000000) (hn3 : x3.n ≤ 1000000000) :
    Calls Tryz.prog 22 #[.agg #[.slice x0.a x0.n x0.c, .slice x1.a x1.n x1.c, .slice x2.a x2.n x2.c, .slice x3.a x3.n x3.c], .agg #[.slice y0.a y0.n y0.c, .slice y1.a y1.n y1.c, .slice y2.a y2.n y2.c, .slice y3.a y3.n y3.c]] w fun e w' => e = .returned (.bool true) ∧ Below w.heap.size w w' := by
  go_enter Tryz.func22, Tryz.ntmps22
  go_wp2_with (fail)
  have R0 : World.rangeAt _ w.heap.size 0 [.slice x0.a x0.n x0.c, .slice x1.a x1.n x1.c, .slice x2.a x2.n x2.c, .slice x3.a x3.n x3.c] := range_lit #[.slice x0.a x0.n x0.c, .slice x1.a x1.n x1.c, .slice x2.a x2.n x2.c, .slice x3.a x3.n x3.c] (heap2_0 w (.cells #[.slice x0.a x0.n x0.c, .slice x1.a x1.n x1.c, .slice x2.a x2.n x2.c, .slice x3.a x3.n x3.c] 28) (.cells #[.slice y0.a y0.n y0.c, .slice y1.a y1.n y1.c, .slice y2.a y2.n y2.c, .slice y3.a y3.n y3.c] 28))
  have S0 : World.rangeAt _ (w.heap.size + 1) 0 [.slice y0.a y0.n y0.c, .slice y1.a y1.n y1.c, .slice y2.a y2.n y2.c, .slice y3.a y3.n y3.c] := range_lit #[.slice y0.a y0.n y0.c, .slice y1.a y1.n y1.c, .slice y2.a y2.n y2.c, .slice y3.a y3.n y3.c] (heap2_1 w (.cells #[.slice x0.a x0.n x0.c, .slice x1.a x1.n x1.c, .slice x2.a x2.n x2.c, .slice x3.a x3.n x3.c] 28) (.cells #[.slice y0.a y0.n y0.c, .slice y1.a y1.n y1.c, .slice y2.a y2.n y2.c, .slice y3.a y3.n y3.c] 28))
  have B0 := below2 w (.cells #[.slice x0.a x0.n x0.c, .slice x1.a x1.n x1.c, .slice x2.a x2.n x2.c, .slice x3.a x3.n x3.c] 28) (.cells #[.slice y0.a y0.n y0.c, .slice y1.a y1.n y1.c, .slice y2.a y2.n y2.c, .slice y3.a y3.n y3.c] 28)
  generalize (w.alloc (.cells #[.slice x0.a x0.n x0.c, .slice x1.a x1.n x1.c, .slice x2.a x2.n x2.c, .slice x3.a x3.n x3.c] 28)).alloc (.cells #[.slice y0.a y0.n y0.c, .slice y1.a y1.n y1.c, .slice y2.a y2.n y2.c, .slice y3.a y3.n y3.c] 28) = W0 at R0 S0 B0 ⊢
  have gx0 := hx0.later B0
  have gy0 := hy0.later B0
  have gx1 := hx1.later B0
  have gy1 := hy1.later B0
  have gx2 := hx2.later B0
  have gy2 := hy2.later B0
  have gx3 := hx3.later B0
  have gy3 := hy3.later B0
  clear hx0 hy0 hx1 hy1 hx2 hy2 hx3 hy3
  have r0 := at0 R0 0 (v := .slice x0.a x0.n x0.c) rfl
  have s0 := at0 S0 0 (v := .slice y0.a y0.n y0.c) rfl
  have r1 := at0 R0 1 (v := .slice x1.a x1.n x1.c) rfl
  have s1 := at0 S0 1 (v := .slice y1.a y1.n y1.c) rfl
  have r2 := at0 R0 2 (v := .slice x2.a x2.n x2.c) rfl
  have s2 := at0 S0 2 (v := .slice y2.a y2.n y2.c) rfl
  have r3 := at0 R0 3 (v := .slice x3.a x3.n x3.c) rfl
  have s3 := at0 S0 3 (v := .slice y3.a y3.n y3.c) rfl
  clear R0 S0
  refine wp_loop_rounds 5 ?_
  rw [rounds_succ]
  go_wp2_with (fail)
  go_quiet (first | (go_at_call 21; exact Calls.quiet_of (eq1_any x0 y0 _ gx0 gy0 e0 hn0)))
  go_wp2_with (fail)
  replace r1 : (W0.drewN nq).cell? ⟨w.heap.size, 1, none⟩ = some (.slice x1.a x1.n x1.c) := r1
  replace s1 : (W0.drewN nq).cell? ⟨w.heap.size + 1, 1, none⟩ = some (.slice y1.a y1.n y1.c) := s1
  replace gx1 := gx1.drewN nq
  replace gy1 := gy1.drewN nq
  replace r2 : (W0.drewN nq).cell? ⟨w.heap.size, 2, none⟩ = some (.slice x2.a x2.n x2.c) := r2
  replace s2 : (W0.drewN nq).cell? ⟨w.heap.size + 1, 2, none⟩ = some (.slice y2.a y2.n y2.c) := s2
  replace gx2 := gx2.drewN nq
  replace gy2 := gy2.drewN nq
  replace r3 : (W0.drewN nq).cell? ⟨w.heap.size, 3, none⟩ = some (.slice x3.a x3.n x3.c) := r3
  replace s3 : (W0.drewN nq).cell? ⟨w.heap.size + 1, 3, none⟩ = some (.slice y3.a y3.n y3.c) := s3
  replace gx3 := gx3.drewN nq
  replace gy3 := gy3.drewN nq
  have B1 : Below w.heap.size w (W0.drewN nq) := ⟨B0.os, B0.tape, B0.output, B0.size, B0.block⟩
  clear B0 r0 s0 gx0 gy0
  generalize W0.drewN nq = W1 at B1 r1 s1 gx1 gy1 r2 s2 gx2 gy2 r3 s3 gx3 gy3 ⊢
  rw [rounds_succ]
  go_wp2_with (fail)
  go_quiet (first | (go_at_call 21; exact Calls.quiet_of (eq1_any x1 y1 _ gx1 gy1 e1 hn1)))
  go_wp2_with (fail)
  replace r2 : (W1.drewN nq).cell? ⟨w.heap.size, 2, none⟩ = some (.slice x2.a x2.n x2.c) := r2
  replace s2 : (W1.drewN nq).cell? ⟨w.heap.size + 1, 2, none⟩ = some (.slice y2.a y2.n y2.c) := s2
  replace gx2 := gx2.drewN nq
  replace gy2 := gy2.drewN nq
  replace r3 : (W1.drewN nq).cell? ⟨w.heap.size, 3, none⟩ = some (.slice x3.a x3.n x3.c) := r3
  replace s3 : (W1.drewN nq).cell? ⟨w.heap.size + 1, 3, none⟩ = some (.slice y3.a y3.n y3.c) := s3
  replace gx3 := gx3.drewN nq
  replace gy3 := gy3.drewN nq
  have B2 : Below w.heap.size w (W1.drewN nq) := ⟨B1.os, B1.tape, B1.output, B1.size, B1.block⟩
  clear B1 r1 s1 gx1 gy1
  generalize W1.drewN nq = W2 at B2 r2 s2 gx2 gy2 r3 s3 gx3 gy3 ⊢
  rw [rounds_succ]
  go_wp2_with (fail)
  go_quiet (first | (go_at_call 21; exact Calls.quiet_of (eq1_any x2 y2 _ gx2 gy2 e2 hn2)))
  go_wp2_with (fail)
  replace r3 : (W2.drewN nq).cell? ⟨w.heap.size, 3, none⟩ = some (.slice x3.a x3.n x3.c) := r3
  replace s3 : (W2.drewN nq).cell? ⟨w.heap.size + 1, 3, none⟩ = some (.slice y3.a y3.n y3.c) := s3
  replace gx3 := gx3.drewN nq
  replace gy3 := gy3.drewN nq
  have B3 : Below w.heap.size w (W2.drewN nq) := ⟨B2.os, B2.tape, B2.output, B2.size, B2.block⟩
  clear B2 r2 s2 gx2 gy2
  generalize W2.drewN nq = W3 at B3 r3 s3 gx3 gy3 ⊢
  rw [rounds_succ]
  go_wp2_with (fail)
  go_quiet (first | (go_at_call 21; exact Calls.quiet_of (eq1_any x3 y3 _ gx3 gy3 e3 hn3)))
  go_wp2_with (fail)
  have B4 : Below w.heap.size w (W3.drewN nq) := ⟨B3.os, B3.tape, B3.output, B3.size, B3.block⟩
  clear B3 r3 s3 gx3 gy3
  generalize W3.drewN nq = W4 at B4  ⊢
  rw [rounds_succ]
  go_wp2_with (fail)
  go_ret
  exact ⟨rfl, B4⟩

set_option maxHeartbeats 4000000 in
theorem eq_any (x y : Bx) (w : World) (hx : x.At w) (hy : y.At w) (e : x.m = y.m) (hn : x.total ≤ 1000000000) :
    Calls Tryz.prog 8 #[.agg x.cells.toArray, .agg y.cells.toArray] w fun e w' => e = .returned (.bool true) ∧ Below w.heap.size w w' := by
  have gx := hx
  have gy := hy
  simp only [Bx.At, Bx.lists, List.forall_mem_cons, List.not_mem_nil, false_implies, implies_true, and_true] at gx gy
  simp only [Bx.m, Bm.mk.injEq] at e
  simp only [Bx.total] at hn
  simp only [Bx.cells]
  obtain ⟨es, ep, e0, e1, e2, e3, eo, ei, ee⟩ := e
  rw [← es]
  clear es
  go_enter Tryz.func8, Tryz.ntmps8
  go_wp2_with (fail)
  have R0 : World.rangeAt _ w.heap.size 0 [.int .i64 x.s, .slice x.p.a x.p.n x.p.c, .slice x.h0.a x.h0.n x.h0.c, .slice x.h1.a x.h1.n x.h1.c, .slice x.h2.a x.h2.n x.h2.c, .slice x.h3.a x.h3.n x.h3.c, .slice x.o.a x.o.n x.o.c, .slice x.i.a x.i.n x.i.c, .slice x.e.a x.e.n x.e.c] := range_lit #[.int .i64 x.s, .slice x.p.a x.p.n x.p.c, .slice x.h0.a x.h0.n x.h0.c, .slice x.h1.a x.h1.n x.h1.c, .slice x.h2.a x.h2.n x.h2.c, .slice x.h3.a x.h3.n x.h3.c, .slice x.o.a x.o.n x.o.c, .slice x.i.a x.i.n x.i.c, .slice x.e.a x.e.n x.e.c] (heap2_0 w (.cells #[.int .i64 x.s, .slice x.p.a x.p.n x.p.c, .slice x.h0.a x.h0.n x.h0.c, .slice x.h1.a x.h1.n x.h1.c, .slice x.h2.a x.h2.n x.h2.c, .slice x.h3.a x.h3.n x.h3.c, .slice x.o.a x.o.n x.o.c, .slice x.i.a x.i.n x.i.c, .slice x.e.a x.e.n x.e.c] 30) (.cells #[.int .i64 x.s, .slice y.p.a y.p.n y.p.c, .slice y.h0.a y.h0.n y.h0.c, .slice y.h1.a y.h1.n y.h1.c, .slice y.h2.a y.h2.n y.h2.c, .slice y.h3.a y.h3.n y.h3.c, .slice y.o.a y.o.n y.o.c, .slice y.i.a y.i.n y.i.c, .slice y.e.a y.e.n y.e.c] 30))
  have S0 : World.rangeAt _ (w.heap.size + 1) 0 [.int .i64 x.s, .slice y.p.a y.p.n y.p.c, .slice y.h0.a y.h0.n y.h0.c, .slice y.h1.a y.h1.n y.h1.c, .slice y.h2.a y.h2.n y.h2.c, .slice y.h3.a y.h3.n y.h3.c, .slice y.o.a y.o.n y.o.c, .slice y.i.a y.i.n y.i.c, .slice y.e.a y.e.n y.e.c] := range_lit #[.int .i64 x.s, .slice y.p.a y.p.n y.p.c, .slice y.h0.a y.h0.n y.h0.c, .slice y.h1.a y.h1.n y.h1.c, .slice y.h2.a y.h2.n y.h2.c, .slice y.h3.a y.h3.n y.h3.c, .slice y.o.a y.o.n y.o.c, .slice y.i.a y.i.n y.i.c, .slice y.e.a y.e.n y.e.c] (heap2_1 w (.cells #[.int .i64 x.s, .slice x.p.a x.p.n x.p.c, .slice x.h0.a x.h0.n x.h0.c, .slice x.h1.a x.h1.n x.h1.c, .slice x.h2.a x.h2.n x.h2.c, .slice x.h3.a x.h3.n x.h3.c, .slice x.o.a x.o.n x.o.c, .slice x.i.a x.i.n x.i.c, .slice x.e.a x.e.n x.e.c] 30) (.cells #[.int .i64 x.s, .slice y.p.a y.p.n y.p.c, .slice y.h0.a y.h0.n y.h0.c, .slice y.h1.a y.h1.n y.h1.c, .slice y.h2.a y.h2.n y.h2.c, .slice y.h3.a y.h3.n y.h3.c, .slice y.o.a y.o.n y.o.c, .slice y.i.a y.i.n y.i.c, .slice y.e.a y.e.n y.e.c] 30))
  have B0 := below2 w (.cells #[.int .i64 x.s, .slice x.p.a x.p.n x.p.c, .slice x.h0.a x.h0.n x.h0.c, .slice x.h1.a x.h1.n x.h1.c, .slice x.h2.a x.h2.n x.h2.c, .slice x.h3.a x.h3.n x.h3.c, .slice x.o.a x.o.n x.o.c, .slice x.i.a x.i.n x.i.c, .slice x.e.a x.e.n x.e.c] 30) (.cells #[.int .i64 x.s, .slice y.p.a y.p.n y.p.c, .slice y.h0.a y.h0.n y.h0.c, .slice y.h1.a y.h1.n y.h1.c, .slice y.h2.a y.h2.n y.h2.c, .slice y.h3.a y.h3.n y.h3.c, .slice y.o.a y.o.n y.o.c, .slice y.i.a y.i.n y.i.c, .slice y.e.a y.e.n y.e.c] 30)
  have Z0 : w.heap.size + 2 ≤ ((w.alloc (.cells #[.int .i64 x.s, .slice x.p.a x.p.n x.p.c, .slice x.h0.a x.h0.n x.h0.c, .slice x.h1.a x.h1.n x.h1.c, .slice x.h2.a x.h2.n x.h2.c, .slice x.h3.a x.h3.n x.h3.c, .slice x.o.a x.o.n x.o.c, .slice x.i.a x.i.n x.i.c, .slice x.e.a x.e.n x.e.c] 30)).alloc (.cells #[.int .i64 x.s, .slice y.p.a y.p.n y.p.c, .slice y.h0.a y.h0.n y.h0.c, .slice y.h1.a y.h1.n y.h1.c, .slice y.h2.a y.h2.n y.h2.c, .slice y.h3.a y.h3.n y.h3.c, .slice y.o.a y.o.n y.o.c, .slice y.i.a y.i.n y.i.c, .slice y.e.a y.e.n y.e.c] 30)).heap.size := by simp
  generalize (w.alloc (.cells #[.int .i64 x.s, .slice x.p.a x.p.n x.p.c, .slice x.h0.a x.h0.n x.h0.c, .slice x.h1.a x.h1.n x.h1.c, .slice x.h2.a x.h2.n x.h2.c, .slice x.h3.a x.h3.n x.h3.c, .slice x.o.a x.o.n x.o.c, .slice x.i.a x.i.n x.i.c, .slice x.e.a x.e.n x.e.c] 30)).alloc (.cells #[.int .i64 x.s, .slice y.p.a y.p.n y.p.c, .slice y.h0.a y.h0.n y.h0.c, .slice y.h1.a y.h1.n y.h1.c, .slice y.h2.a y.h2.n y.h2.c, .slice y.h3.a y.h3.n y.h3.c, .slice y.o.a y.o.n y.o.c, .slice y.i.a y.i.n y.i.c, .slice y.e.a y.e.n y.e.c] 30) = W0 at R0 S0 B0 Z0 ⊢
  refine (eq1_any x.p y.p W0 (Sx.At.later gx.1 B0) (Sx.At.later gy.1 B0) ep (by omega)).mono ?_
  rintro e w1 ⟨rfl, q, rfl⟩
  have hb : Below W0.heap.size W0 (W0.drewN q) := ⟨rfl, rfl, rfl, Nat.le_refl _, fun _ _ => rfl⟩
  have B1 := B0.trans (hb.mono (by omega))
  have R1 := range_below hb R0 (by omega)
  have S1 := range_below hb S0 (by omega)
  have Z1 := Nat.le_trans Z0 hb.size
  clear hb B0 R0 S0 Z0
  generalize W0.drewN q = W1 at B1 R1 S1 Z1 ⊢
  have r2 := at0 R1 2 (v := .slice x.h0.a x.h0.n x.h0.c) rfl
  have s2 := at0 S1 2 (v := .slice y.h0.a y.h0.n y.h0.c) rfl
  have r3 := at0 R1 3 (v := .slice x.h1.a x.h1.n x.h1.c) rfl
  have s3 := at0 S1 3 (v := .slice y.h1.a y.h1.n y.h1.c) rfl
  have r4 := at0 R1 4 (v := .slice x.h2.a x.h2.n x.h2.c) rfl
  have s4 := at0 S1 4 (v := .slice y.h2.a y.h2.n y.h2.c) rfl
  have r5 := at0 R1 5 (v := .slice x.h3.a x.h3.n x.h3.c) rfl
  have s5 := at0 S1 5 (v := .slice y.h3.a y.h3.n y.h3.c) rfl
  go_wp2_with (fail)
  clear r2 s2 r3 s3 r4 s4 r5 s5
  refine (eq4_any x.h0 x.h1 x.h2 x.h3 y.h0 y.h1 y.h2 y.h3 W1 (Sx.At.later gx.2.1 B1) (Sx.At.later gx.2.2.1 B1) (Sx.At.later gx.2.2.2.1 B1) (Sx.At.later gx.2.2.2.2.1 B1) (Sx.At.later gy.2.1 B1) (Sx.At.later gy.2.2.1 B1) (Sx.At.later gy.2.2.2.1 B1) (Sx.At.later gy.2.2.2.2.1 B1) e0 e1 e2 e3 (by omega) (by omega) (by omega) (by omega)).mono ?_
  rintro e W2 ⟨rfl, hb⟩
  have B2 := B1.trans (hb.mono (by omega))
  have R2 := range_below hb R1 (by omega)
  have S2 := range_below hb S1 (by omega)
  have Z2 := Nat.le_trans Z1 hb.size
  clear hb B1 R1 S1 Z1
  have r6 := at0 R2 6 (v := .slice x.o.a x.o.n x.o.c) rfl
  have s6 := at0 S2 6 (v := .slice y.o.a y.o.n y.o.c) rfl
  go_wp2_with (fail)
  clear r6 s6
  refine (eq1_any x.o y.o W2 (Sx.At.later gx.2.2.2.2.2.1 B2) (Sx.At.later gy.2.2.2.2.2.1 B2) eo (by omega)).mono ?_
  rintro e w1 ⟨rfl, q, rfl⟩
  have hb : Below W2.heap.size W2 (W2.drewN q) := ⟨rfl, rfl, rfl, Nat.le_refl _, fun _ _ => rfl⟩
  have B3 := B2.trans (hb.mono (by omega))
  have R3 := range_below hb R2 (by omega)
  have S3 := range_below hb S2 (by omega)
  have Z3 := Nat.le_trans Z2 hb.size
  clear hb B2 R2 S2 Z2
  generalize W2.drewN q = W3 at B3 R3 S3 Z3 ⊢
  have r7 := at0 R3 7 (v := .slice x.i.a x.i.n x.i.c) rfl
  have s7 := at0 S3 7 (v := .slice y.i.a y.i.n y.i.c) rfl
  go_wp2_with (fail)
  clear r7 s7
  refine (eq1_any x.i y.i W3 (Sx.At.later gx.2.2.2.2.2.2.1 B3) (Sx.At.later gy.2.2.2.2.2.2.1 B3) ei (by omega)).mono ?_
  rintro e w1 ⟨rfl, q, rfl⟩
  have hb : Below W3.heap.size W3 (W3.drewN q) := ⟨rfl, rfl, rfl, Nat.le_refl _, fun _ _ => rfl⟩
  have B4 := B3.trans (hb.mono (by omega))
  have R4 := range_below hb R3 (by omega)
  have S4 := range_below hb S3 (by omega)
  have Z4 := Nat.le_trans Z3 hb.size
  clear hb B3 R3 S3 Z3
  generalize W3.drewN q = W4 at B4 R4 S4 Z4 ⊢
  have r8 := at0 R4 8 (v := .slice x.e.a x.e.n x.e.c) rfl
  have s8 := at0 S4 8 (v := .slice y.e.a y.e.n y.e.c) rfl
  go_wp2_with (fail)
  clear r8 s8
  refine (eq1_any x.e y.e W4 (Sx.At.later gx.2.2.2.2.2.2.2 B4) (Sx.At.later gy.2.2.2.2.2.2.2 B4) ee (by omega)).mono ?_
  rintro e w1 ⟨rfl, q, rfl⟩
  have hb : Below W4.heap.size W4 (W4.drewN q) := ⟨rfl, rfl, rfl, Nat.le_refl _, fun _ _ => rfl⟩
  have B5 := B4.trans (hb.mono (by omega))
  have R5 := range_below hb R4 (by omega)
  have S5 := range_below hb S4 (by omega)
  have Z5 := Nat.le_trans Z4 hb.size
  clear hb B4 R4 S4 Z4
  generalize W4.drewN q = W5 at B5 R5 S5 Z5 ⊢
  go_wp2_with (fail)
  go_ret
  exact ⟨rfl, B5⟩

set_option maxRecDepth 100000
def Sx.Good (x : Sx) (w : World) : Prop := x.At w ∧ x.n ≤ maxLen ∧ ∀ j, (Lit.int .i64 (x.f j)).wf = true
structure Bx.Good (b : Bx) (w : World) : Prop where
  s : (Lit.int .i64 b.s).wf = true
  each : ∀ x ∈ b.lists, x.Good w

theorem Bx.Good.at {b : Bx} {w : World} (h : b.Good w) : b.At w := fun x hx => (h.each x hx).1
theorem Bx.Good.short {b : Bx} {w : World} (h : b.Good w) : ∀ x ∈ b.lists, (x.n : Int) ≤ maxLen := fun x hx => by have := (h.each x hx).2.1; omega

theorem open_list {H : Type} {enc : TypeId × Value → H} {w : World} {n : Nat} {v : Value} {y : DataW H × List MemPlace} (h : DataW.trod enc Tryz.prog w 0 (fun _ => true) true n 27 [v] = some y) : ∃ x : Sx, v = .slice x.a x.n x.c ∧ x.Good w := by
  rcases open_ints Tryz.underlying27 Tryz.underlying3 (by kernel_rfl) h with ⟨hcs, _⟩ | ⟨x, l, c, zs, hcs, _, hl, hm, hz, _, hcell, hwz⟩
  · simp at hcs
    obtain ⟨g1, g2, g3⟩ := sl_of (k := .i64) (w := w) (a := none) (len := 0) (cap := 0) (zs := []) (.inl ⟨rfl, rfl, rfl, rfl⟩)
    exact ⟨⟨none, 0, 0, fun j => ([] : List Int).getD j 0⟩, hcs, g1, g2, g3⟩
  · simp at hcs
    obtain ⟨g1, g2, g3⟩ := sl_of (k := .i64) (w := w) (a := some x) (len := l) (cap := c) (zs := zs) (.inr ⟨x, rfl, hl, hm, by simpa using hz, hcell, hwz⟩)
    exact ⟨⟨some x, l, c, fun j => zs.getD j 0⟩, hcs, g1, g2, g3⟩

theorem array9 {α : Type} {cs : Array α} (h : cs.size = 9) : ∃ c0 c1 c2 c3 c4 c5 c6 c7 c8, cs = #[c0, c1, c2, c3, c4, c5, c6, c7, c8] := by
  obtain ⟨l⟩ := cs
  match l, h with
  | [c0, c1, c2, c3, c4, c5, c6, c7, c8], _ => exact ⟨c0, c1, c2, c3, c4, c5, c6, c7, c8, rfl⟩

theorem takeB {P : Program} {md : Region.Mode} {ops : Array Oper} {Q : Exit → Act → World → Prop} {S : World → Prop} {i : Nat} {oi : Oper} {v : Value} {d : Option Tmp} {fuel : Nat} {listed : Array Bool} {a : Act} {w : World} (hi : ops[i]? = some oi) (hd : oi.dst = d)
    (hs : Region.noSelect ops = true) (hf : Region.free md ops listed i = true) (hr : (Region.ready md ops listed).contains i = true)
    (hQ : ∀ c a w, Q (.panic c) (a.put d v) w → Q (.panic c) a w) (hy : YieldsIf P ops S oi v a) (hS : S w)
    (h : wpAnyH P md ops Q S fuel (listed.setIfInBounds i true) (a.put d v) w) : wpAnyH P md ops Q S (fuel + 1) listed a w := by
  subst hd
  exact wpAnyH_take hi hs hf hr hQ hy hS h

structure St (w0 : World) (rs : List (Nat × List Value)) (bs : List Bx) (w : World) : Prop where
  r : ∀ p ∈ rs, w.rangeAt p.1 0 p.2 ∧ p.1 < w.heap.size
  a : ∀ b ∈ bs, b.At w
  b : Below w0.heap.size w0 w

theorem St.later {w0 w w1 : World} {rs : List (Nat × List Value)} {bs : List Bx} (h : St w0 rs bs w) (hb : Below w.heap.size w w1) : St w0 rs bs w1 :=
  ⟨fun p hp => ⟨range_below hb (h.r p hp).1 (h.r p hp).2, Nat.lt_of_lt_of_le (h.r p hp).2 hb.size⟩, fun b hi => (h.a b hi).later hb, h.b.trans (hb.mono h.b.size)⟩
theorem St.drew {w0 w : World} {rs : List (Nat × List Value)} {bs : List Bx} (h : St w0 rs bs w) : St w0 rs bs w.drew := ⟨h.r, h.a, ⟨h.b.os, h.b.tape, h.b.output, h.b.size, h.b.block⟩⟩
theorem St.book {w0 w : World} {rs : List (Nat × List Value)} {bs : List Bx} (h : St w0 rs bs w) {b : Bx} (hb : b.At w) : St w0 rs (b :: bs) w :=
  ⟨h.r, fun x hx => by
    rcases List.mem_cons.1 hx with rfl | hx
    · exact hb
    · exact h.a x hx, h.b⟩
theorem St.row {w0 w : World} {rs : List (Nat × List Value)} {bs : List Bx} (h : St w0 rs bs w) (C : Array Value) (t : TypeId) : St w0 ((w.heap.size, C.toList) :: rs) bs (w.alloc (.cells C t)) :=
  ⟨fun p hp => by
    rcases List.mem_cons.1 hp with rfl | hp
    · exact ⟨range_lit C (heap1_0 _ _), by simp⟩
    · exact ⟨range_below (below1 w _) (h.r p hp).1 (h.r p hp).2, by have := (h.r p hp).2; simp; omega⟩, fun b hi => (h.a b hi).later (below1 w _), h.b.trans ((below1 w _).mono h.b.size)⟩
theorem St.start {w : World} {bs : List Bx} (h : ∀ b ∈ bs, b.At w) : St w [] bs w := ⟨fun p hp => by simp at hp, h, Below.refl _ _⟩
theorem St.take {w0 w : World} {rs rs' : List (Nat × List Value)} {bs bs' : List Bx} (h : St w0 rs bs w) (hr : ∀ p ∈ rs', p ∈ rs) (hb : ∀ b ∈ bs', b ∈ bs) : St w0 rs' bs' w := ⟨fun p hp => h.r p (hr p hp), fun b hi => h.a b (hb b hi), h.b⟩

theorem total_m {x y : Bx} (h : x.m = y.m) : x.total = y.total := by
  simp only [Bx.m, Bm.mk.injEq, Sx.m, Prod.mk.injEq] at h
  simp only [Bx.total]
  obtain ⟨_, ⟨h1, _⟩, ⟨h2, _⟩, ⟨h3, _⟩, ⟨h4, _⟩, ⟨h5, _⟩, ⟨h6, _⟩, ⟨h7, _⟩, ⟨h8, _⟩⟩ := h
  omega

theorem nine {w : World} {k : Nat} {x : Bx} (h : w.rangeAt k 0 x.cells) : w.cell? ⟨k, 0, none⟩ = some (.int .i64 x.s) ∧ w.cell? ⟨k, 1, none⟩ = some (.slice x.p.a x.p.n x.p.c) ∧ w.cell? ⟨k, 2, none⟩ = some (.slice x.h0.a x.h0.n x.h0.c) ∧ w.cell? ⟨k, 3, none⟩ = some (.slice x.h1.a x.h1.n x.h1.c) ∧ w.cell? ⟨k, 4, none⟩ = some (.slice x.h2.a x.h2.n x.h2.c) ∧ w.cell? ⟨k, 5, none⟩ = some (.slice x.h3.a x.h3.n x.h3.c) ∧ w.cell? ⟨k, 6, none⟩ = some (.slice x.o.a x.o.n x.o.c) ∧ w.cell? ⟨k, 7, none⟩ = some (.slice x.i.a x.i.n x.i.c) ∧ w.cell? ⟨k, 8, none⟩ = some (.slice x.e.a x.e.n x.e.c) :=
  ⟨h 0 _ rfl, h 1 _ rfl, h 2 _ rfl, h 3 _ rfl, h 4 _ rfl, h 5 _ rfl, h 6 _ rfl, h 7 _ rfl, h 8 _ rfl⟩

end Go.Proofs.YtgfbfgiohmdjmaaGreat.Book

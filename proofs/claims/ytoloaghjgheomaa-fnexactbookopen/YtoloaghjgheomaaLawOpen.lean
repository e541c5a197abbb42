/- Of every house, the book of an empty one, held against the specification; in new memory of its own. Conditions: none. -/
import Derived.Test.YtoloaghjgheomaaLaw
import Derived.Test.YtoloaghjgheomaaBk5
import Derived.Test.YtoloaghjgheomaaIOpen
namespace Go.Proofs.Ytoloaghjgheomaa.Book
open Go.ChangeShapes Go.WideShapes Go.ChangeAt Go.RowKit
open Go.Proofs.Ytoloaghjgheomaa.Aid Go.Proofs.Ytoloaghjgheomaa.Lst

theorem three {w : World} {k : Nat} {s p l : Int} (h : w.rangeAt k 0 [.int .i64 s, .int .i64 p, .int .i64 l]) : w.cell? ⟨k, 0, none⟩ = some (.int .i64 s) ∧ w.cell? ⟨k, 1, none⟩ = some (.int .i64 p) ∧ w.cell? ⟨k, 2, none⟩ = some (.int .i64 l) := ⟨h 0 _ rfl, h 1 _ rfl, h 2 _ rfl⟩
theorem open_short (s p l : Int) {b : Bx} (h : b.m = openM s p l) : b.total ≤ 1000 := by
  unfold openM at h
  split at h
  · rename_i ok
    obtain ⟨k1, k2, k3, k4, k5, k6⟩ := Plat.okB_of ok
    simp only [Bx.m, Bm.mk.injEq, Sx.m, Prod.mk.injEq, nilL] at h
    obtain ⟨_, ⟨h1, _⟩, ⟨h2, _⟩, ⟨h3, _⟩, ⟨h4, _⟩, ⟨h5, _⟩, ⟨h6, _⟩, ⟨h7, _⟩, ⟨h8, _⟩⟩ := h
    simp only [Bx.total]
    omega
  · simp only [Bx.m, Bm.mk.injEq, Sx.m, Prod.mk.injEq, nilL] at h
    obtain ⟨_, ⟨h1, _⟩, ⟨h2, _⟩, ⟨h3, _⟩, ⟨h4, _⟩, ⟨h5, _⟩, ⟨h6, _⟩, ⟨h7, _⟩, ⟨h8, _⟩⟩ := h
    simp only [Bx.total]
    omega
theorem St.only {w0 w w1 : World} {rs : List (Nat × List Value)} {bs : List Bx} {B C : Nat} (h : St w0 rs bs w) (ho : Only B C w w1) (hr : ∀ p ∈ rs, p.1 < B ∨ C ≤ p.1) (hB : w0.heap.size ≤ B) (hbs : ∀ b ∈ bs, b.At w1) : St w0 rs bs w1 :=
  ⟨fun p hp => ⟨fun j x hx => by rw [ho.cell (h.r p hp).2 (hr p hp)]; exact (h.r p hp).1 j x hx, Nat.lt_of_lt_of_le (h.r p hp).2 ho.size⟩, hbs, h.b.trans ⟨ho.os, ho.tape, ho.output, ho.size, fun k hk => ho.block k (Nat.lt_of_lt_of_le hk h.b.size) (.inl (by omega))⟩⟩

set_option maxRecDepth 100000 in
set_option maxHeartbeats 8000000 in
theorem law_open (s p l : Int) (w : World) :
    Calls Try.prog 4 #[.agg #[.int .i64 s, .int .i64 p, .int .i64 l]] w fun e w' => e = .returned (.bool true) ∧ Below w.heap.size w w' := by
  have T0 : St w [(w.heap.size, [.int .i64 s, .int .i64 p, .int .i64 l])] [] (w.alloc (.cells #[.int .i64 s, .int .i64 p, .int .i64 l] 34)) := (St.start (w := w) (bs := []) (by simp)).row #[.int .i64 s, .int .i64 p, .int .i64 l] 34
  go_enter Try.func4, Try.ntmps4
  go_wp2_with (fail)
  generalize (w.alloc (.cells #[.int .i64 s, .int .i64 p, .int .i64 l] 34)) = W0 at T0 ⊢
  refine (Plat.to_any s p l W0).mono ?_
  rintro e Y1 ⟨rfl, hb⟩
  replace T0 := T0.later hb
  clear hb
  go_wp2_with (fail)
  refine (sopen_any s p l Y1).mono ?_
  rintro e Y2 ⟨c0, rfl, kc, oc, hb⟩
  have T1 := (T0.later hb).book oc.at
  have zc := hb.size
  have z0 := (T0.r (w.heap.size, [.int .i64 s, .int .i64 p, .int .i64 l]) (by simp)).2
  simp only at z0
  clear hb T0
  obtain ⟨u0, u1, u2⟩ := three (T1.r (w.heap.size, [.int .i64 s, .int .i64 p, .int .i64 l]) (by simp)).1
  have lt0 := (T1.r (w.heap.size, [.int .i64 s, .int .i64 p, .int .i64 l]) (by simp)).2
  have mc : c0.total ≤ 1000 := open_short s p l kc
  simp only [Bx.cells]
  go_wp2_with (fail)
  have T2 : St w [(Y2.heap.size, c0.cells), (w.heap.size, [.int .i64 s, .int .i64 p, .int .i64 l])] [c0] _ := T1.row #[.int .i64 c0.s, .slice c0.p.a c0.p.n c0.p.c, .slice c0.h0.a c0.h0.n c0.h0.c, .slice c0.h1.a c0.h1.n c0.h1.c, .slice c0.h2.a c0.h2.n c0.h2.c, .slice c0.h3.a c0.h3.n c0.h3.c, .slice c0.o.a c0.o.n c0.o.c, .slice c0.i.a c0.i.n c0.i.c, .slice c0.e.a c0.e.n c0.e.c] 26
  replace oc := oc.later (below1 Y2 (.cells #[.int .i64 c0.s, .slice c0.p.a c0.p.n c0.p.c, .slice c0.h0.a c0.h0.n c0.h0.c, .slice c0.h1.a c0.h1.n c0.h1.c, .slice c0.h2.a c0.h2.n c0.h2.c, .slice c0.h3.a c0.h3.n c0.h3.c, .slice c0.o.a c0.o.n c0.o.c, .slice c0.i.a c0.i.n c0.i.c, .slice c0.e.a c0.e.n c0.e.c] 26))
  have y2 : Y2.heap.size < (Y2.alloc (.cells #[.int .i64 c0.s, .slice c0.p.a c0.p.n c0.p.c, .slice c0.h0.a c0.h0.n c0.h0.c, .slice c0.h1.a c0.h1.n c0.h1.c, .slice c0.h2.a c0.h2.n c0.h2.c, .slice c0.h3.a c0.h3.n c0.h3.c, .slice c0.o.a c0.o.n c0.o.c, .slice c0.i.a c0.i.n c0.i.c, .slice c0.e.a c0.e.n c0.e.c] 26)).heap.size := by simp
  generalize Y2.alloc (.cells #[.int .i64 c0.s, .slice c0.p.a c0.p.n c0.p.c, .slice c0.h0.a c0.h0.n c0.h0.c, .slice c0.h1.a c0.h1.n c0.h1.c, .slice c0.h2.a c0.h2.n c0.h2.c, .slice c0.h3.a c0.h3.n c0.h3.c, .slice c0.o.a c0.o.n c0.o.c, .slice c0.i.a c0.i.n c0.i.c, .slice c0.e.a c0.e.n c0.e.c] 26) = V1 at T2 oc y2 ⊢
  clear u0 u1 u2 lt0 T1
  refine (Plat.to_any s p l V1).mono ?_
  rintro e Y3 ⟨rfl, hb⟩
  replace T2 := T2.later hb
  replace oc := oc.later hb
  have y3 := hb.size
  clear hb
  go_wp2_with (fail)
  refine (open_any s p l Y3).mono ?_
  rintro e Y4 ⟨g0, rfl, kg, og, hb⟩
  have T3 := T2.later hb
  replace oc := oc.later hb
  have y4 := hb.size
  have mg : g0.total ≤ 1000 := open_short s p l kg
  clear hb T2
  obtain ⟨u0, u1, u2, u3, u4, u5, u6, u7, u8⟩ := nine (T3.r (Y2.heap.size, c0.cells) (by simp)).1
  have lt0 := (T3.r (Y2.heap.size, c0.cells) (by simp)).2
  simp only [Bx.cells]
  go_wp2_with (fail)
  have T4 : St w [(Y4.heap.size, g0.cells), (Y2.heap.size, c0.cells), (w.heap.size, [.int .i64 s, .int .i64 p, .int .i64 l])] [c0] _ := T3.row #[.int .i64 g0.s, .slice g0.p.a g0.p.n g0.p.c, .slice g0.h0.a g0.h0.n g0.h0.c, .slice g0.h1.a g0.h1.n g0.h1.c, .slice g0.h2.a g0.h2.n g0.h2.c, .slice g0.h3.a g0.h3.n g0.h3.c, .slice g0.o.a g0.o.n g0.o.c, .slice g0.i.a g0.i.n g0.i.c, .slice g0.e.a g0.e.n g0.e.c] 26
  replace oc := oc.later (below1 Y4 (.cells #[.int .i64 g0.s, .slice g0.p.a g0.p.n g0.p.c, .slice g0.h0.a g0.h0.n g0.h0.c, .slice g0.h1.a g0.h1.n g0.h1.c, .slice g0.h2.a g0.h2.n g0.h2.c, .slice g0.h3.a g0.h3.n g0.h3.c, .slice g0.o.a g0.o.n g0.o.c, .slice g0.i.a g0.i.n g0.i.c, .slice g0.e.a g0.e.n g0.e.c] 26))
  replace og := og.later (below1 Y4 (.cells #[.int .i64 g0.s, .slice g0.p.a g0.p.n g0.p.c, .slice g0.h0.a g0.h0.n g0.h0.c, .slice g0.h1.a g0.h1.n g0.h1.c, .slice g0.h2.a g0.h2.n g0.h2.c, .slice g0.h3.a g0.h3.n g0.h3.c, .slice g0.o.a g0.o.n g0.o.c, .slice g0.i.a g0.i.n g0.i.c, .slice g0.e.a g0.e.n g0.e.c] 26))
  have y5 : Y4.heap.size < (Y4.alloc (.cells #[.int .i64 g0.s, .slice g0.p.a g0.p.n g0.p.c, .slice g0.h0.a g0.h0.n g0.h0.c, .slice g0.h1.a g0.h1.n g0.h1.c, .slice g0.h2.a g0.h2.n g0.h2.c, .slice g0.h3.a g0.h3.n g0.h3.c, .slice g0.o.a g0.o.n g0.o.c, .slice g0.i.a g0.i.n g0.i.c, .slice g0.e.a g0.e.n g0.e.c] 26)).heap.size := by simp
  generalize Y4.alloc (.cells #[.int .i64 g0.s, .slice g0.p.a g0.p.n g0.p.c, .slice g0.h0.a g0.h0.n g0.h0.c, .slice g0.h1.a g0.h1.n g0.h1.c, .slice g0.h2.a g0.h2.n g0.h2.c, .slice g0.h3.a g0.h3.n g0.h3.c, .slice g0.o.a g0.o.n g0.o.c, .slice g0.i.a g0.i.n g0.i.c, .slice g0.e.a g0.e.n g0.e.c] 26) = V2 at T4 oc og y5 ⊢
  clear u0 u1 u2 u3 u4 u5 u6 u7 u8 lt0 T3
  refine (eq_any g0 c0 V2 og.at oc.at (kg.trans kc.symm) (by omega)).mono ?_
  rintro e Y5 ⟨rfl, hb⟩
  replace T4 := T4.later hb
  replace oc := oc.later hb
  replace og := og.later hb
  have y6 := hb.size
  clear hb
  obtain ⟨u0, u1, u2, u3, u4, u5, u6, u7, u8⟩ := nine (T4.r (Y4.heap.size, g0.cells) (by exact List.mem_cons_self)).1
  go_wp2_with (fail)
  clear u0 u1 u2 u3 u4 u5 u6 u7 u8
  refine (mark_any g0 1 Y3.heap.size Y4.heap.size Y5 (by omega) og (by omega) (by omega) (by omega)).mono ?_
  rintro e Y6 ⟨rfl, om, on⟩
  have y7 := on.size
  replace oc := oc.only on (.inl (by omega))
  have T5 := T4.only on (by
    simp only [List.forall_mem_cons, List.not_mem_nil, false_implies, implies_true, and_true]
    exact ⟨.inr (Nat.le_refl _), .inl (by omega), .inl (by omega)⟩) (by omega) (by
    simp only [List.forall_mem_cons, List.not_mem_nil, false_implies, implies_true, and_true]
    exact oc.at)
  clear T4 og on
  obtain ⟨u0, u1, u2, u3, u4, u5, u6, u7, u8⟩ := nine (T5.r (Y4.heap.size, g0.cells) (by exact List.mem_cons_self)).1
  go_wp2_with (fail)
  clear u0 u1 u2 u3 u4 u5 u6 u7 u8
  refine (held_any g0 1 Y6 om.at (by omega) (by omega) (by omega)).mono ?_
  rintro e Y7 ⟨rfl, hb⟩
  have T6 := T5.later hb
  replace oc := oc.later hb
  replace om := om.later hb
  have y8 := hb.size
  clear hb T5
  obtain ⟨u0, u1, u2⟩ := three (T6.r (w.heap.size, [.int .i64 s, .int .i64 p, .int .i64 l]) (by simp)).1
  have nn : ¬ ((1 : Int) + g0.total < 0) := by omega
  go_wp2_with (fail)
  clear u0 u1 u2
  refine (Plat.to_any s p l Y7).mono ?_
  rintro e Y8 ⟨rfl, hb⟩
  replace T6 := T6.later hb
  replace oc := oc.later hb
  replace om := om.later hb
  have y9 := hb.size
  clear hb
  go_wp2_with (fail)
  refine (open_any s p l Y8).mono ?_
  rintro e Y9 ⟨h0, rfl, kh, oh, hb⟩
  have T7 := T6.later hb
  replace oc := oc.later hb
  replace om := om.later hb
  have y10 := hb.size
  have mh : h0.total ≤ 1000 := open_short s p l kh
  clear hb T6
  obtain ⟨u0, u1, u2, u3, u4, u5, u6, u7, u8⟩ := nine (T7.r (Y2.heap.size, c0.cells) (by simp)).1
  have lt0 := (T7.r (Y2.heap.size, c0.cells) (by simp)).2
  simp only [Bx.cells]
  go_wp2_with (fail)
  have T8 : St w [(Y9.heap.size, h0.cells), (Y4.heap.size, g0.cells), (Y2.heap.size, c0.cells), (w.heap.size, [.int .i64 s, .int .i64 p, .int .i64 l])] [c0] _ := T7.row #[.int .i64 h0.s, .slice h0.p.a h0.p.n h0.p.c, .slice h0.h0.a h0.h0.n h0.h0.c, .slice h0.h1.a h0.h1.n h0.h1.c, .slice h0.h2.a h0.h2.n h0.h2.c, .slice h0.h3.a h0.h3.n h0.h3.c, .slice h0.o.a h0.o.n h0.o.c, .slice h0.i.a h0.i.n h0.i.c, .slice h0.e.a h0.e.n h0.e.c] 26
  replace oc := oc.later (below1 Y9 (.cells #[.int .i64 h0.s, .slice h0.p.a h0.p.n h0.p.c, .slice h0.h0.a h0.h0.n h0.h0.c, .slice h0.h1.a h0.h1.n h0.h1.c, .slice h0.h2.a h0.h2.n h0.h2.c, .slice h0.h3.a h0.h3.n h0.h3.c, .slice h0.o.a h0.o.n h0.o.c, .slice h0.i.a h0.i.n h0.i.c, .slice h0.e.a h0.e.n h0.e.c] 26))
  replace om := om.later (below1 Y9 (.cells #[.int .i64 h0.s, .slice h0.p.a h0.p.n h0.p.c, .slice h0.h0.a h0.h0.n h0.h0.c, .slice h0.h1.a h0.h1.n h0.h1.c, .slice h0.h2.a h0.h2.n h0.h2.c, .slice h0.h3.a h0.h3.n h0.h3.c, .slice h0.o.a h0.o.n h0.o.c, .slice h0.i.a h0.i.n h0.i.c, .slice h0.e.a h0.e.n h0.e.c] 26))
  replace oh := oh.later (below1 Y9 (.cells #[.int .i64 h0.s, .slice h0.p.a h0.p.n h0.p.c, .slice h0.h0.a h0.h0.n h0.h0.c, .slice h0.h1.a h0.h1.n h0.h1.c, .slice h0.h2.a h0.h2.n h0.h2.c, .slice h0.h3.a h0.h3.n h0.h3.c, .slice h0.o.a h0.o.n h0.o.c, .slice h0.i.a h0.i.n h0.i.c, .slice h0.e.a h0.e.n h0.e.c] 26))
  generalize Y9.alloc (.cells #[.int .i64 h0.s, .slice h0.p.a h0.p.n h0.p.c, .slice h0.h0.a h0.h0.n h0.h0.c, .slice h0.h1.a h0.h1.n h0.h1.c, .slice h0.h2.a h0.h2.n h0.h2.c, .slice h0.h3.a h0.h3.n h0.h3.c, .slice h0.o.a h0.o.n h0.o.c, .slice h0.i.a h0.i.n h0.i.c, .slice h0.e.a h0.e.n h0.e.c] 26) = V3 at T8 oc om oh ⊢
  clear u0 u1 u2 u3 u4 u5 u6 u7 u8 lt0 T7
  refine (eq_any h0 c0 V3 oh.at oc.at (kh.trans kc.symm) (by omega)).mono ?_
  rintro e Y10 ⟨rfl, hb⟩
  replace T8 := T8.later hb
  replace om := om.later hb
  clear hb
  obtain ⟨u0, u1, u2, u3, u4, u5, u6, u7, u8⟩ := nine (T8.r (Y4.heap.size, g0.cells) (by simp)).1
  go_wp2_with (fail)
  clear u0 u1 u2 u3 u4 u5 u6 u7 u8
  refine (held_any g0 1 Y10 om.at (by omega) (by omega) (by omega)).mono ?_
  rintro e Y11 ⟨rfl, hb⟩
  have T9 := T8.later hb
  clear hb
  go_wp2_with (fail)
  go_ret
  exact ⟨rfl, T9.b⟩

end Go.Proofs.Ytoloaghjgheomaa.Book

/- Of every list of words, the book that they stand for, with what is done carried out, held against the specification; in new memory of its own. Conditions: none. -/
import Derived.Test.YtipbijcmpbefpaaGreatM2
import Derived.Test.YtipbijcmpbefpaaGreatM3
import Derived.Test.YtipbijcmpbefpaaGreatCt
namespace Go.Proofs.YtipbijcmpbefpaaGreat.Book
open Go.ChangeShapes Go.WideShapes Go.ChangeAt Go.RowKit
open Go.Proofs.YtipbijcmpbefpaaGreat.Aid Go.Proofs.YtipbijcmpbefpaaGreat.Lst Go.Proofs.YtipbijcmpbefpaaGreat.Words
open Go.Proofs.YtipbijcmpbefpaaGreat.Plat (W64 okB_of)
set_option maxRecDepth 100000
set_option linter.unusedVariables false

theorem cbq_total {n : Nat} {f : Nat → Int} {c : Bx} {r : Bool} (h : CbQ n f c r) : c.total ≤ 1000 := by
  rcases h with ⟨_, S, P, l, hs, hr, _⟩ | ⟨_, h, _⟩
  · obtain ⟨k1, k2, k3, k4, k5, k6⟩ := okB_of hs.2.2.1
    exact rd_total hr (by omega) (by omega)
  · simp only [noneM, none1, Bx.m, Bm.mk.injEq, Sx.m, Prod.mk.injEq] at h
    obtain ⟨_, ⟨h1, _⟩, ⟨h2, _⟩, ⟨h3, _⟩, ⟨h4, _⟩, ⟨h5, _⟩, ⟨h6, _⟩, ⟨h7, _⟩, ⟨h8, _⟩⟩ := h
    simp only [Bx.total]
    omega
theorem St.drewN {w0 w : World} {rs : List (Nat × List Value)} {bs : List Bx} (h : St w0 rs bs w) (q : Nat) : St w0 rs bs (w.drewN q) := ⟨h.r, h.a, ⟨h.b.os, h.b.tape, h.b.output, h.b.size, h.b.block⟩⟩
theorem St.onlyN {w0 w w1 : World} {rs : List (Nat × List Value)} {B C : Nat} (h : St w0 rs [] w) (ho : Only B C w w1) (hr : ∀ p ∈ rs, p.1 < B ∨ C ≤ p.1) (hB : w0.heap.size ≤ B) : St w0 rs [] w1 :=
  ⟨fun p hp => ⟨fun j x hx => by rw [ho.cell (h.r p hp).2 (hr p hp)]; exact (h.r p hp).1 j x hx, Nat.lt_of_lt_of_le (h.r p hp).2 ho.size⟩, by simp, h.b.trans ⟨ho.os, ho.tape, ho.output, ho.size, fun k hk => ho.block k (Nat.lt_of_lt_of_le hk h.b.size) (.inl (by omega))⟩⟩

theorem ctq_total {n : Nat} {f : Nat → Int} {c : Bx} {r : Bool} (h : CtQ n f c r) : c.total ≤ 1000 := by
  rcases h with ⟨_, g, _, h⟩ | ⟨_, _, h⟩
  · exact cbq_total h
  · simp only [noneM, none1, Bx.m, Bm.mk.injEq, Sx.m, Prod.mk.injEq] at h
    obtain ⟨_, ⟨h1, _⟩, ⟨h2, _⟩, ⟨h3, _⟩, ⟨h4, _⟩, ⟨h5, _⟩, ⟨h6, _⟩, ⟨h7, _⟩, ⟨h8, _⟩⟩ := h
    simp only [Bx.total]
    omega

set_option maxHeartbeats 8000000 in
theorem law_ct (a0 : Option Addr) (len0 cap0 : Nat) (f : Nat → Int) (w : World) (hs : Sl .u64 w a0 len0 f) (hl : len0 ≤ 1048576) (hw : W64 f) :
    Calls Tryz.prog 6 #[.slice a0 len0 cap0] w fun e w' => e = .returned (.bool true) ∧ Below w.heap.size w w' := by
  have HW : Hid (W64 f) := hw
  have HSL : Hid (Sl .u64 w a0 len0 f) := hs
  have hli : ¬ (1048576 : Int) < len0 := by omega
  clear hw hs
  go_enter Tryz.func6, Tryz.ntmps6
  go_wp2_with (fail)
  refine (toUint64_any a0 len0 cap0 f w HSL.out (by omega)).mono ?_
  rintro e u1 ⟨rfl, f1, B1, z1⟩
  clear hli
  go_wp2_with (fail)
  refine (sctrue_any w.heap.size 0 len0 len0 f u1 (fun j hj => by simpa using (f1 j hj).1) (fun _ => z1) (by omega) HW.out).mono ?_
  rintro e u2 ⟨s0, r0, rfl, sq, so, B2⟩
  have SQ : Hid (CtQ len0 f s0 r0) := sq
  have ts := ctq_total sq
  have z2 := B2.size
  have T2' : St w [] [] u2 := ⟨by simp, by simp, B1.trans (B2.mono (by omega))⟩
  clear sq B1 B2 f1
  simp only [Bx.cells]
  have T2 : St w [(u2.heap.size, s0.cells)] [] (u2.alloc (.cells #[.int .i64 s0.s, .slice s0.p.a s0.p.n s0.p.c, .slice s0.h0.a s0.h0.n s0.h0.c, .slice s0.h1.a s0.h1.n s0.h1.c, .slice s0.h2.a s0.h2.n s0.h2.c, .slice s0.h3.a s0.h3.n s0.h3.c, .slice s0.o.a s0.o.n s0.o.c, .slice s0.i.a s0.i.n s0.i.c, .slice s0.e.a s0.e.n s0.e.c] 28)) := T2'.row #[.int .i64 s0.s, .slice s0.p.a s0.p.n s0.p.c, .slice s0.h0.a s0.h0.n s0.h0.c, .slice s0.h1.a s0.h1.n s0.h1.c, .slice s0.h2.a s0.h2.n s0.h2.c, .slice s0.h3.a s0.h3.n s0.h3.c, .slice s0.o.a s0.o.n s0.o.c, .slice s0.i.a s0.i.n s0.i.c, .slice s0.e.a s0.e.n s0.e.c] 28
  replace so := so.later (below1 u2 (.cells #[.int .i64 s0.s, .slice s0.p.a s0.p.n s0.p.c, .slice s0.h0.a s0.h0.n s0.h0.c, .slice s0.h1.a s0.h1.n s0.h1.c, .slice s0.h2.a s0.h2.n s0.h2.c, .slice s0.h3.a s0.h3.n s0.h3.c, .slice s0.o.a s0.o.n s0.o.c, .slice s0.i.a s0.i.n s0.i.c, .slice s0.e.a s0.e.n s0.e.c] 28))
  have y2 : u2.heap.size < (u2.alloc (.cells #[.int .i64 s0.s, .slice s0.p.a s0.p.n s0.p.c, .slice s0.h0.a s0.h0.n s0.h0.c, .slice s0.h1.a s0.h1.n s0.h1.c, .slice s0.h2.a s0.h2.n s0.h2.c, .slice s0.h3.a s0.h3.n s0.h3.c, .slice s0.o.a s0.o.n s0.o.c, .slice s0.i.a s0.i.n s0.i.c, .slice s0.e.a s0.e.n s0.e.c] 28)).heap.size := by simp
  clear T2'
  obtain ⟨k3, hk3⟩ : ∃ k, k = u2.heap.size := ⟨_, rfl⟩
  go_wp2_with (fail)
  rw [← hk3] at T2 so y2 z2 ⊢
  clear hk3
  generalize u2.alloc (.cells #[.int .i64 s0.s, .slice s0.p.a s0.p.n s0.p.c, .slice s0.h0.a s0.h0.n s0.h0.c, .slice s0.h1.a s0.h1.n s0.h1.c, .slice s0.h2.a s0.h2.n s0.h2.c, .slice s0.h3.a s0.h3.n s0.h3.c, .slice s0.o.a s0.o.n s0.o.c, .slice s0.i.a s0.i.n s0.i.c, .slice s0.e.a s0.e.n s0.e.c] 28) = V2 at T2 so y2 ⊢
  refine (toUint64_any a0 len0 cap0 f V2 (HSL.out.later T2.b) (by omega)).mono ?_
  rintro e u3 ⟨rfl, f3, B3, z3⟩
  have T3 := T2.later B3
  replace so := so.later B3
  obtain ⟨X, hX⟩ : ∃ X, X = V2.heap.size := ⟨_, rfl⟩
  rw [← hX] at f3 z3 ⊢
  have x1 : k3 < X := by omega
  clear T2 B3 hX y2
  go_wp2_with (fail)
  refine (ctrue_any (some ⟨X, 0, none⟩) len0 len0 f u3 f3.sl (by omega) (Nat.le_refl _) HW.out).mono ?_
  rintro e u4 ⟨g, r1, rfl, gq, go, B4⟩
  obtain ⟨gm, er⟩ := ctq_one gq SQ.out
  subst er
  have tg := total_m gm
  have T4' := T3.later B4
  replace so := so.later B4
  have f4 := f3.later B4
  have z4 := B4.size
  clear T3 B4 gq f3
  simp only [Bx.cells]
  have T4 : St w [(u4.heap.size, g.cells), (k3, s0.cells)] [] (u4.alloc (.cells #[.int .i64 g.s, .slice g.p.a g.p.n g.p.c, .slice g.h0.a g.h0.n g.h0.c, .slice g.h1.a g.h1.n g.h1.c, .slice g.h2.a g.h2.n g.h2.c, .slice g.h3.a g.h3.n g.h3.c, .slice g.o.a g.o.n g.o.c, .slice g.i.a g.i.n g.i.c, .slice g.e.a g.e.n g.e.c] 28)) := T4'.row #[.int .i64 g.s, .slice g.p.a g.p.n g.p.c, .slice g.h0.a g.h0.n g.h0.c, .slice g.h1.a g.h1.n g.h1.c, .slice g.h2.a g.h2.n g.h2.c, .slice g.h3.a g.h3.n g.h3.c, .slice g.o.a g.o.n g.o.c, .slice g.i.a g.i.n g.i.c, .slice g.e.a g.e.n g.e.c] 28
  replace so := so.later (below1 u4 (.cells #[.int .i64 g.s, .slice g.p.a g.p.n g.p.c, .slice g.h0.a g.h0.n g.h0.c, .slice g.h1.a g.h1.n g.h1.c, .slice g.h2.a g.h2.n g.h2.c, .slice g.h3.a g.h3.n g.h3.c, .slice g.o.a g.o.n g.o.c, .slice g.i.a g.i.n g.i.c, .slice g.e.a g.e.n g.e.c] 28))
  replace go := go.later (below1 u4 (.cells #[.int .i64 g.s, .slice g.p.a g.p.n g.p.c, .slice g.h0.a g.h0.n g.h0.c, .slice g.h1.a g.h1.n g.h1.c, .slice g.h2.a g.h2.n g.h2.c, .slice g.h3.a g.h3.n g.h3.c, .slice g.o.a g.o.n g.o.c, .slice g.i.a g.i.n g.i.c, .slice g.e.a g.e.n g.e.c] 28))
  have f5 := f4.later (below1 u4 (.cells #[.int .i64 g.s, .slice g.p.a g.p.n g.p.c, .slice g.h0.a g.h0.n g.h0.c, .slice g.h1.a g.h1.n g.h1.c, .slice g.h2.a g.h2.n g.h2.c, .slice g.h3.a g.h3.n g.h3.c, .slice g.o.a g.o.n g.o.c, .slice g.i.a g.i.n g.i.c, .slice g.e.a g.e.n g.e.c] 28))
  have y4 : u4.heap.size < (u4.alloc (.cells #[.int .i64 g.s, .slice g.p.a g.p.n g.p.c, .slice g.h0.a g.h0.n g.h0.c, .slice g.h1.a g.h1.n g.h1.c, .slice g.h2.a g.h2.n g.h2.c, .slice g.h3.a g.h3.n g.h3.c, .slice g.o.a g.o.n g.o.c, .slice g.i.a g.i.n g.i.c, .slice g.e.a g.e.n g.e.c] 28)).heap.size := by simp
  clear T4' f4
  obtain ⟨k5, hk5⟩ : ∃ k, k = u4.heap.size := ⟨_, rfl⟩
  obtain ⟨q0, q1, q2, q3, q4, q5, q6, q7, q8⟩ := nine (T4.r (k3, s0.cells) (by simp)).1
  have hlt3 := (T4.r (k3, s0.cells) (by simp)).2
  have nrr : (r1 != r1) = false := by simp
  go_wp2_with (fail)
  rw [← hk5] at T4 y4 go z4 ⊢
  clear hk5
  generalize u4.alloc (.cells #[.int .i64 g.s, .slice g.p.a g.p.n g.p.c, .slice g.h0.a g.h0.n g.h0.c, .slice g.h1.a g.h1.n g.h1.c, .slice g.h2.a g.h2.n g.h2.c, .slice g.h3.a g.h3.n g.h3.c, .slice g.o.a g.o.n g.o.c, .slice g.i.a g.i.n g.i.c, .slice g.e.a g.e.n g.e.c] 28) = V4 at T4 so go f5 y4 ⊢
  clear q0 q1 q2 q3 q4 q5 q6 q7 q8
  clear hlt3
  obtain ⟨GB, hGB⟩ : ∃ GB, GB = u3.heap.size := ⟨_, rfl⟩
  rw [← hGB] at go z3 z4
  clear hGB
  refine (eq_any g s0 V4 go.at so.at gm (by omega)).mono ?_
  rintro e u6 ⟨rfl, hb⟩
  replace T4 := T4.later hb
  replace so := so.later hb
  replace go := go.later hb
  have f6 := f5.later hb
  have z6 := hb.size
  clear hb f5
  go_wp2_with (fail)
  refine (toUint64_any a0 len0 cap0 f u6 (HSL.out.later T4.b) (by omega)).mono ?_
  rintro e u7 ⟨rfl, f7, hb, z7⟩
  replace T4 := T4.later hb
  replace so := so.later hb
  replace go := go.later hb
  have f8 := f6.later hb
  clear hb f6
  go_wp2_with (fail)
  refine (eqUint64_any _ _ _ _ _ f f u7 f8.sl f7.sl (fun _ _ => rfl) (by omega)).mono ?_
  rintro e w' ⟨rfl, q, rfl⟩
  replace T4 := T4.drewN q
  replace so := so.drewN q
  replace go := go.drewN q
  replace f8 := f8.drewN q
  have z8 : u7.heap.size ≤ (u7.drewN q).heap.size := Nat.le_of_eq rfl
  clear f7
  generalize u7.drewN q = u8 at T4 so go f8 z8 ⊢
  go_wp2_with (fail)
  refine (markUint64_any X _ _ f 1 u8 f8 (by omega) (by omega) (by omega)).mono ?_
  rintro e u9 ⟨rfl, f9, hbut⟩
  have on := Only.but hbut
  have wx : w.heap.size ≤ X := by omega
  replace so := so.only on (.inl (by omega))
  replace go := go.only on (.inr (by omega))
  have z9 := on.size
  replace T4 := T4.onlyN on (by
    simp only [List.forall_mem_cons, List.not_mem_nil, false_implies, implies_true, and_true]
    exact ⟨.inr (by omega), .inl (by omega)⟩) wx
  clear hbut on f9 f8
  have nk : ¬ ((1 : Int) + len0 < 0) := by omega
  have nkb : decide ((1 : Int) + len0 < 0) = false := by simpa using nk
  obtain ⟨q0, q1, q2, q3, q4, q5, q6, q7, q8⟩ := nine (T4.r (k5, g.cells) (by simp)).1
  obtain ⟨v0, v1, v2, v3, v4, v5, v6, v7, v8⟩ := nine (T4.r (k3, s0.cells) (by simp)).1
  go_wp2_with (fail)
  clear q0 q1 q2 q3 q4 q5 q6 q7 q8
  clear v0 v1 v2 v3 v4 v5 v6 v7 v8
  clear nk nkb
  refine (eq_any g s0 u9 go.at so.at gm (by omega)).mono ?_
  rintro e u10 ⟨rfl, hb⟩
  replace T4 := T4.later hb
  replace so := so.later hb
  replace go := go.later hb
  have z10 := hb.size
  clear hb
  obtain ⟨q0, q1, q2, q3, q4, q5, q6, q7, q8⟩ := nine (T4.r (k5, g.cells) (by simp)).1
  go_wp2_with (fail)
  clear q0 q1 q2 q3 q4 q5 q6 q7 q8
  refine (mark_any g 1 GB k5 u10 (by omega) go (by omega) (by omega) (by omega)).mono ?_
  rintro e u11 ⟨rfl, gk, on⟩
  replace so := so.only on (.inl (by omega))
  have z11 := on.size
  replace T4 := T4.onlyN on (by
    simp only [List.forall_mem_cons, List.not_mem_nil, false_implies, implies_true, and_true]
    exact ⟨.inr (by omega), .inl (by omega)⟩) (by omega)
  clear go on
  obtain ⟨q0, q1, q2, q3, q4, q5, q6, q7, q8⟩ := nine (T4.r (k5, g.cells) (by simp)).1
  go_wp2_with (fail)
  clear q0 q1 q2 q3 q4 q5 q6 q7 q8
  refine (held_any g 1 u11 gk.at (by omega) (by omega) (by omega)).mono ?_
  rintro e u12 ⟨rfl, hb⟩
  replace T4 := T4.later hb
  replace so := so.later hb
  replace gk := gk.later hb
  clear hb
  have nk : ¬ ((1 : Int) + g.total < 0) := by omega
  go_wp2_with (fail)
  clear nk
  refine (toUint64_any a0 len0 cap0 f u12 (HSL.out.later T4.b) (by omega)).mono ?_
  rintro e u13 ⟨rfl, f13, hb, z13⟩
  replace T4 := T4.later hb
  replace so := so.later hb
  replace gk := gk.later hb
  clear hb
  go_wp2_with (fail)
  refine (ctrue_any _ len0 len0 f u13 f13.sl (by omega) (Nat.le_refl _) HW.out).mono ?_
  rintro e u14 ⟨h0, r2, rfl, hq, ho, hb⟩
  obtain ⟨hm, er⟩ := ctq_one hq SQ.out
  subst er
  have th := total_m hm
  have T5' := T4.later hb
  replace so := so.later hb
  replace gk := gk.later hb
  clear hb hq T4 f13
  simp only [Bx.cells]
  have T5 : St w [(u14.heap.size, h0.cells), (k5, g.cells), (k3, s0.cells)] [] (u14.alloc (.cells #[.int .i64 h0.s, .slice h0.p.a h0.p.n h0.p.c, .slice h0.h0.a h0.h0.n h0.h0.c, .slice h0.h1.a h0.h1.n h0.h1.c, .slice h0.h2.a h0.h2.n h0.h2.c, .slice h0.h3.a h0.h3.n h0.h3.c, .slice h0.o.a h0.o.n h0.o.c, .slice h0.i.a h0.i.n h0.i.c, .slice h0.e.a h0.e.n h0.e.c] 28)) := T5'.row #[.int .i64 h0.s, .slice h0.p.a h0.p.n h0.p.c, .slice h0.h0.a h0.h0.n h0.h0.c, .slice h0.h1.a h0.h1.n h0.h1.c, .slice h0.h2.a h0.h2.n h0.h2.c, .slice h0.h3.a h0.h3.n h0.h3.c, .slice h0.o.a h0.o.n h0.o.c, .slice h0.i.a h0.i.n h0.i.c, .slice h0.e.a h0.e.n h0.e.c] 28
  replace so := so.later (below1 u14 (.cells #[.int .i64 h0.s, .slice h0.p.a h0.p.n h0.p.c, .slice h0.h0.a h0.h0.n h0.h0.c, .slice h0.h1.a h0.h1.n h0.h1.c, .slice h0.h2.a h0.h2.n h0.h2.c, .slice h0.h3.a h0.h3.n h0.h3.c, .slice h0.o.a h0.o.n h0.o.c, .slice h0.i.a h0.i.n h0.i.c, .slice h0.e.a h0.e.n h0.e.c] 28))
  replace gk := gk.later (below1 u14 (.cells #[.int .i64 h0.s, .slice h0.p.a h0.p.n h0.p.c, .slice h0.h0.a h0.h0.n h0.h0.c, .slice h0.h1.a h0.h1.n h0.h1.c, .slice h0.h2.a h0.h2.n h0.h2.c, .slice h0.h3.a h0.h3.n h0.h3.c, .slice h0.o.a h0.o.n h0.o.c, .slice h0.i.a h0.i.n h0.i.c, .slice h0.e.a h0.e.n h0.e.c] 28))
  replace ho := ho.later (below1 u14 (.cells #[.int .i64 h0.s, .slice h0.p.a h0.p.n h0.p.c, .slice h0.h0.a h0.h0.n h0.h0.c, .slice h0.h1.a h0.h1.n h0.h1.c, .slice h0.h2.a h0.h2.n h0.h2.c, .slice h0.h3.a h0.h3.n h0.h3.c, .slice h0.o.a h0.o.n h0.o.c, .slice h0.i.a h0.i.n h0.i.c, .slice h0.e.a h0.e.n h0.e.c] 28))
  clear T5'
  obtain ⟨q0, q1, q2, q3, q4, q5, q6, q7, q8⟩ := nine (T5.r (k3, s0.cells) (by simp)).1
  have hlt3 := (T5.r (k3, s0.cells) (by simp)).2
  have nrr : (r2 != r2) = false := by simp
  go_wp2_with (fail)
  generalize u14.alloc (.cells #[.int .i64 h0.s, .slice h0.p.a h0.p.n h0.p.c, .slice h0.h0.a h0.h0.n h0.h0.c, .slice h0.h1.a h0.h1.n h0.h1.c, .slice h0.h2.a h0.h2.n h0.h2.c, .slice h0.h3.a h0.h3.n h0.h3.c, .slice h0.o.a h0.o.n h0.o.c, .slice h0.i.a h0.i.n h0.i.c, .slice h0.e.a h0.e.n h0.e.c] 28) = V14 at T5 so gk ho ⊢
  clear q0 q1 q2 q3 q4 q5 q6 q7 q8
  clear hlt3
  refine (eq_any h0 s0 V14 ho.at so.at hm (by omega)).mono ?_
  rintro e u15 ⟨rfl, hb⟩
  replace T5 := T5.later hb
  replace gk := gk.later hb
  clear hb
  obtain ⟨q0, q1, q2, q3, q4, q5, q6, q7, q8⟩ := nine (T5.r (k5, g.cells) (by simp)).1
  go_wp2_with (fail)
  clear q0 q1 q2 q3 q4 q5 q6 q7 q8
  refine (held_any g 1 u15 gk.at (by omega) (by omega) (by omega)).mono ?_
  rintro e u16 ⟨rfl, hb⟩
  replace T5 := T5.later hb
  have nk : ¬ ((1 : Int) + g.total < 0) := by omega
  go_wp2_with (fail)
  go_ret
  exact ⟨rfl, T5.b⟩

end Go.Proofs.YtipbijcmpbefpaaGreat.Book

/- Of every book and slot, the book behind a cutting off, held against the specification; in new memory of its own. Conditions: none. -/
import Derived.Test.YtfijhclocncplaaLaw
import Derived.Test.YtfijhclocncplaaCut2
namespace Go.Proofs.Ytfijhclocncplaa.Book
open Go.ChangeShapes Go.WideShapes Go.ChangeAt Go.RowKit
open Go.Proofs.Ytfijhclocncplaa.Aid Go.Proofs.Ytfijhclocncplaa.Lst
set_option maxRecDepth 100000
set_option linter.unusedVariables false

theorem cutq_total {b c : Bx} {t : Int} (h : CutQ b t c.m) : c.total ≤ b.total := by
  rcases h with ⟨_, h⟩ | ⟨_, h⟩
  · simp only [cutM, Bx.m, Bm.mk.injEq, Sx.m, Prod.mk.injEq] at h
    obtain ⟨_, ⟨h1, _⟩, ⟨h2, _⟩, ⟨h3, _⟩, ⟨h4, _⟩, ⟨h5, _⟩, ⟨h6, _⟩, ⟨h7, _⟩, ⟨h8, _⟩⟩ := h
    simp only [Bx.total]
    omega
  · simp only [noneM, none1, Bx.m, Bm.mk.injEq, Sx.m, Prod.mk.injEq] at h
    obtain ⟨_, ⟨h1, _⟩, ⟨h2, _⟩, ⟨h3, _⟩, ⟨h4, _⟩, ⟨h5, _⟩, ⟨h6, _⟩, ⟨h7, _⟩, ⟨h8, _⟩⟩ := h
    simp only [Bx.total]
    omega
structure StB (w0 : World) (rs : List (Nat × List Value)) (bs : List Bx) (v w : World) : Prop where
  st : St w0 rs bs w
  be : Below v.heap.size v w
theorem StB.later {w0 v w w1 : World} {rs : List (Nat × List Value)} {bs : List Bx} (h : StB w0 rs bs v w) (hb : Below w.heap.size w w1) : StB w0 rs bs v w1 := ⟨h.st.later hb, h.be.trans (hb.mono h.be.size)⟩
theorem StB.drew {w0 v w : World} {rs : List (Nat × List Value)} {bs : List Bx} (h : StB w0 rs bs v w) : StB w0 rs bs v w.drew := ⟨h.st.drew, ⟨h.be.os, h.be.tape, h.be.output, h.be.size, h.be.block⟩⟩
theorem StB.r {w0 v w : World} {rs : List (Nat × List Value)} {bs : List Bx} (h : StB w0 rs bs v w) : ∀ p ∈ rs, w.rangeAt p.1 0 p.2 ∧ p.1 < w.heap.size := h.st.r
theorem StB.a {w0 v w : World} {rs : List (Nat × List Value)} {bs : List Bx} (h : StB w0 rs bs v w) : ∀ b ∈ bs, b.At w := h.st.a
theorem St.only {w0 w w1 : World} {rs : List (Nat × List Value)} {bs : List Bx} {B C : Nat} (h : St w0 rs bs w) (ho : Only B C w w1) (hr : ∀ p ∈ rs, p.1 < B ∨ C ≤ p.1) (hB : w0.heap.size ≤ B) (hbs : ∀ b ∈ bs, b.At w1) : St w0 rs bs w1 :=
  ⟨fun p hp => ⟨fun j x hx => by rw [ho.cell (h.r p hp).2 (hr p hp)]; exact (h.r p hp).1 j x hx, Nat.lt_of_lt_of_le (h.r p hp).2 ho.size⟩, hbs, h.b.trans ⟨ho.os, ho.tape, ho.output, ho.size, fun k hk => ho.block k (Nat.lt_of_lt_of_le hk h.b.size) (.inl (by omega))⟩⟩

set_option maxRecDepth 100000 in
set_option maxHeartbeats 8000000 in
theorem law_cut (b0 : Bx) (a1 : Int) (w : World) (g0 : b0.Good w) :
    Calls Try.prog 6 #[.agg b0.cells.toArray, .int .i64 a1] w fun e w' => e = .returned (.bool true) ∧ Below w.heap.size w w' := by
  have n0 := g0.short
  have HWf : Hid b0.Wf := g0.wf
  have T0 : St w [(w.heap.size, b0.cells)] [b0] (w.alloc (.cells #[.int .i64 b0.s, .slice b0.p.a b0.p.n b0.p.c, .slice b0.h0.a b0.h0.n b0.h0.c, .slice b0.h1.a b0.h1.n b0.h1.c, .slice b0.h2.a b0.h2.n b0.h2.c, .slice b0.h3.a b0.h3.n b0.h3.c, .slice b0.o.a b0.o.n b0.o.c, .slice b0.i.a b0.i.n b0.i.c, .slice b0.e.a b0.e.n b0.e.c] 47)) := (St.start (bs := [b0]) (by simp; exact g0.at)).row #[.int .i64 b0.s, .slice b0.p.a b0.p.n b0.p.c, .slice b0.h0.a b0.h0.n b0.h0.c, .slice b0.h1.a b0.h1.n b0.h1.c, .slice b0.h2.a b0.h2.n b0.h2.c, .slice b0.h3.a b0.h3.n b0.h3.c, .slice b0.o.a b0.o.n b0.o.c, .slice b0.i.a b0.i.n b0.i.c, .slice b0.e.a b0.e.n b0.e.c] 47
  have HB : Hid (b0.At w) := g0.at
  simp only [Bx.cells]
  go_enter Try.func6, Try.ntmps6
  go_wp2_with (fail)
  generalize (w.alloc (.cells #[.int .i64 b0.s, .slice b0.p.a b0.p.n b0.p.c, .slice b0.h0.a b0.h0.n b0.h0.c, .slice b0.h1.a b0.h1.n b0.h1.c, .slice b0.h2.a b0.h2.n b0.h2.c, .slice b0.h3.a b0.h3.n b0.h3.c, .slice b0.o.a b0.o.n b0.o.c, .slice b0.i.a b0.i.n b0.i.c, .slice b0.e.a b0.e.n b0.e.c] 47)) = W0 at T0 ⊢
  refine (sz_any b0 1048576 W0 n0 (by omega) (by omega)).mono ?_
  rintro e W1 ⟨⟨l1, rfl, t1, t2, t3⟩, hb⟩
  have T1 := T0.later hb
  clear hb T0
  by_cases h1 : l1 < 0
  · go_wp2_with (fail)
    go_ret
    exact ⟨rfl, T1.b⟩
  replace t1 := t1 (by omega)
  have m0 : b0.total ≤ 1000000000 := by omega
  clear t1 t2 t3 n0
  obtain ⟨u0, u1, u2, u3, u4, u5, u6, u7, u8⟩ := nine (T1.r (w.heap.size, b0.cells) (by simp)).1
  go_wp2_with (fail)
  clear u0 u1 u2 u3 u4 u5 u6 u7 u8
  refine (to_any b0 _ (T1.a b0 (by simp)) m0).mono ?_
  rintro e W2 ⟨c0, rfl, k0, o0, hb⟩
  have T2 := T1.later hb
  have z0 := total_m k0
  have y2 := hb.size
  have zw : w.heap.size < W1.heap.size := (T1.r (w.heap.size, b0.cells) (by simp)).2
  clear hb T1
  simp only [Bx.cells]
  go_wp2_with (fail)
  refine (scut_any c0 a1 W2 o0.at (by omega) ((wf_m k0).2 HWf.out)).mono ?_
  rintro e W3 ⟨s0, rfl, hq, so, hb⟩
  have HQ : Hid (CutQ b0 a1 s0.m) := (cutq_m k0 a1 s0.m).1 hq
  have ts := cutq_total HQ.out
  have y3 := hb.size
  have T2' := T2.later hb
  clear hb T2 o0 z0 k0 hq
  have T3 : St w [(W3.heap.size, s0.cells), (w.heap.size, b0.cells)] [b0] (W3.alloc (.cells #[.int .i64 s0.s, .slice s0.p.a s0.p.n s0.p.c, .slice s0.h0.a s0.h0.n s0.h0.c, .slice s0.h1.a s0.h1.n s0.h1.c, .slice s0.h2.a s0.h2.n s0.h2.c, .slice s0.h3.a s0.h3.n s0.h3.c, .slice s0.o.a s0.o.n s0.o.c, .slice s0.i.a s0.i.n s0.i.c, .slice s0.e.a s0.e.n s0.e.c] 37)) := T2'.row #[.int .i64 s0.s, .slice s0.p.a s0.p.n s0.p.c, .slice s0.h0.a s0.h0.n s0.h0.c, .slice s0.h1.a s0.h1.n s0.h1.c, .slice s0.h2.a s0.h2.n s0.h2.c, .slice s0.h3.a s0.h3.n s0.h3.c, .slice s0.o.a s0.o.n s0.o.c, .slice s0.i.a s0.i.n s0.i.c, .slice s0.e.a s0.e.n s0.e.c] 37
  replace so := so.later (below1 W3 (.cells #[.int .i64 s0.s, .slice s0.p.a s0.p.n s0.p.c, .slice s0.h0.a s0.h0.n s0.h0.c, .slice s0.h1.a s0.h1.n s0.h1.c, .slice s0.h2.a s0.h2.n s0.h2.c, .slice s0.h3.a s0.h3.n s0.h3.c, .slice s0.o.a s0.o.n s0.o.c, .slice s0.i.a s0.i.n s0.i.c, .slice s0.e.a s0.e.n s0.e.c] 37))
  have zV3 : W3.heap.size < (W3.alloc (.cells #[.int .i64 s0.s, .slice s0.p.a s0.p.n s0.p.c, .slice s0.h0.a s0.h0.n s0.h0.c, .slice s0.h1.a s0.h1.n s0.h1.c, .slice s0.h2.a s0.h2.n s0.h2.c, .slice s0.h3.a s0.h3.n s0.h3.c, .slice s0.o.a s0.o.n s0.o.c, .slice s0.i.a s0.i.n s0.i.c, .slice s0.e.a s0.e.n s0.e.c] 37)).heap.size := by simp
  clear T2'
  simp only [Bx.cells]
  obtain ⟨u0, u1, u2, u3, u4, u5, u6, u7, u8⟩ := nine (T3.r (w.heap.size, b0.cells) (by simp)).1
  have hlt3 := (T3.r (w.heap.size, b0.cells) (by simp)).2
  go_wp2_with (fail)
  generalize W3.alloc (.cells #[.int .i64 s0.s, .slice s0.p.a s0.p.n s0.p.c, .slice s0.h0.a s0.h0.n s0.h0.c, .slice s0.h1.a s0.h1.n s0.h1.c, .slice s0.h2.a s0.h2.n s0.h2.c, .slice s0.h3.a s0.h3.n s0.h3.c, .slice s0.o.a s0.o.n s0.o.c, .slice s0.i.a s0.i.n s0.i.c, .slice s0.e.a s0.e.n s0.e.c] 37) = V3 at T3 zV3 so ⊢
  clear u0 u1 u2 u3 u4 u5 u6 u7 u8
  refine (to_any b0 V3 (T3.a b0 (by simp)) m0).mono ?_
  rintro e W4 ⟨d0, rfl, k1, o1, hb⟩
  have T3' := T3.later hb
  replace so := so.later hb
  have z1 := total_m k1
  have cp := o1.cap
  have y4 := hb.size
  clear hb T3 hlt3
  have T4 : St w [(W4.heap.size, d0.cells), (W3.heap.size, s0.cells), (w.heap.size, b0.cells)] [b0] (W4.alloc (.cells #[.int .i64 d0.s, .slice d0.p.a d0.p.n d0.p.c, .slice d0.h0.a d0.h0.n d0.h0.c, .slice d0.h1.a d0.h1.n d0.h1.c, .slice d0.h2.a d0.h2.n d0.h2.c, .slice d0.h3.a d0.h3.n d0.h3.c, .slice d0.o.a d0.o.n d0.o.c, .slice d0.i.a d0.i.n d0.i.c, .slice d0.e.a d0.e.n d0.e.c] 37)) := T3'.row #[.int .i64 d0.s, .slice d0.p.a d0.p.n d0.p.c, .slice d0.h0.a d0.h0.n d0.h0.c, .slice d0.h1.a d0.h1.n d0.h1.c, .slice d0.h2.a d0.h2.n d0.h2.c, .slice d0.h3.a d0.h3.n d0.h3.c, .slice d0.o.a d0.o.n d0.o.c, .slice d0.i.a d0.i.n d0.i.c, .slice d0.e.a d0.e.n d0.e.c] 37
  replace so := so.later (below1 W4 (.cells #[.int .i64 d0.s, .slice d0.p.a d0.p.n d0.p.c, .slice d0.h0.a d0.h0.n d0.h0.c, .slice d0.h1.a d0.h1.n d0.h1.c, .slice d0.h2.a d0.h2.n d0.h2.c, .slice d0.h3.a d0.h3.n d0.h3.c, .slice d0.o.a d0.o.n d0.o.c, .slice d0.i.a d0.i.n d0.i.c, .slice d0.e.a d0.e.n d0.e.c] 37))
  replace o1 := o1.later (below1 W4 (.cells #[.int .i64 d0.s, .slice d0.p.a d0.p.n d0.p.c, .slice d0.h0.a d0.h0.n d0.h0.c, .slice d0.h1.a d0.h1.n d0.h1.c, .slice d0.h2.a d0.h2.n d0.h2.c, .slice d0.h3.a d0.h3.n d0.h3.c, .slice d0.o.a d0.o.n d0.o.c, .slice d0.i.a d0.i.n d0.i.c, .slice d0.e.a d0.e.n d0.e.c] 37))
  have zV4 : W4.heap.size < (W4.alloc (.cells #[.int .i64 d0.s, .slice d0.p.a d0.p.n d0.p.c, .slice d0.h0.a d0.h0.n d0.h0.c, .slice d0.h1.a d0.h1.n d0.h1.c, .slice d0.h2.a d0.h2.n d0.h2.c, .slice d0.h3.a d0.h3.n d0.h3.c, .slice d0.o.a d0.o.n d0.o.c, .slice d0.i.a d0.i.n d0.i.c, .slice d0.e.a d0.e.n d0.e.c] 37)).heap.size := by simp
  clear T3'
  simp only [Bx.cells]
  go_wp2_with (fail)
  generalize W4.alloc (.cells #[.int .i64 d0.s, .slice d0.p.a d0.p.n d0.p.c, .slice d0.h0.a d0.h0.n d0.h0.c, .slice d0.h1.a d0.h1.n d0.h1.c, .slice d0.h2.a d0.h2.n d0.h2.c, .slice d0.h3.a d0.h3.n d0.h3.c, .slice d0.o.a d0.o.n d0.o.c, .slice d0.i.a d0.i.n d0.i.c, .slice d0.e.a d0.e.n d0.e.c] 37) = V4 at T4 zV4 so o1 ⊢
  refine (cut_any d0 a1 V4 o1.at (by omega) cp).mono ?_
  rintro e W5 ⟨g, rfl, hq, go, hb⟩
  have gm : g.m = s0.m := cutq_one ((cutq_m k1 a1 g.m).1 hq) HQ.out
  have tg := total_m gm
  have T4' := T4.later hb
  replace so := so.later hb
  replace o1 := o1.later hb
  have y5 := hb.size
  clear hb T4 hq
  have T5 : St w [(W5.heap.size, g.cells), (W4.heap.size, d0.cells), (W3.heap.size, s0.cells), (w.heap.size, b0.cells)] [b0] (W5.alloc (.cells #[.int .i64 g.s, .slice g.p.a g.p.n g.p.c, .slice g.h0.a g.h0.n g.h0.c, .slice g.h1.a g.h1.n g.h1.c, .slice g.h2.a g.h2.n g.h2.c, .slice g.h3.a g.h3.n g.h3.c, .slice g.o.a g.o.n g.o.c, .slice g.i.a g.i.n g.i.c, .slice g.e.a g.e.n g.e.c] 37)) := T4'.row #[.int .i64 g.s, .slice g.p.a g.p.n g.p.c, .slice g.h0.a g.h0.n g.h0.c, .slice g.h1.a g.h1.n g.h1.c, .slice g.h2.a g.h2.n g.h2.c, .slice g.h3.a g.h3.n g.h3.c, .slice g.o.a g.o.n g.o.c, .slice g.i.a g.i.n g.i.c, .slice g.e.a g.e.n g.e.c] 37
  replace so := so.later (below1 W5 (.cells #[.int .i64 g.s, .slice g.p.a g.p.n g.p.c, .slice g.h0.a g.h0.n g.h0.c, .slice g.h1.a g.h1.n g.h1.c, .slice g.h2.a g.h2.n g.h2.c, .slice g.h3.a g.h3.n g.h3.c, .slice g.o.a g.o.n g.o.c, .slice g.i.a g.i.n g.i.c, .slice g.e.a g.e.n g.e.c] 37))
  replace o1 := o1.later (below1 W5 (.cells #[.int .i64 g.s, .slice g.p.a g.p.n g.p.c, .slice g.h0.a g.h0.n g.h0.c, .slice g.h1.a g.h1.n g.h1.c, .slice g.h2.a g.h2.n g.h2.c, .slice g.h3.a g.h3.n g.h3.c, .slice g.o.a g.o.n g.o.c, .slice g.i.a g.i.n g.i.c, .slice g.e.a g.e.n g.e.c] 37))
  replace go := go.later (below1 W5 (.cells #[.int .i64 g.s, .slice g.p.a g.p.n g.p.c, .slice g.h0.a g.h0.n g.h0.c, .slice g.h1.a g.h1.n g.h1.c, .slice g.h2.a g.h2.n g.h2.c, .slice g.h3.a g.h3.n g.h3.c, .slice g.o.a g.o.n g.o.c, .slice g.i.a g.i.n g.i.c, .slice g.e.a g.e.n g.e.c] 37))
  have zV5 : W5.heap.size < (W5.alloc (.cells #[.int .i64 g.s, .slice g.p.a g.p.n g.p.c, .slice g.h0.a g.h0.n g.h0.c, .slice g.h1.a g.h1.n g.h1.c, .slice g.h2.a g.h2.n g.h2.c, .slice g.h3.a g.h3.n g.h3.c, .slice g.o.a g.o.n g.o.c, .slice g.i.a g.i.n g.i.c, .slice g.e.a g.e.n g.e.c] 37)).heap.size := by simp
  clear T4'
  simp only [Bx.cells]
  obtain ⟨u0, u1, u2, u3, u4, u5, u6, u7, u8⟩ := nine (T5.r (W3.heap.size, s0.cells) (by simp)).1
  have hlt3 := (T5.r (W3.heap.size, s0.cells) (by simp)).2
  go_wp2_with (fail)
  generalize W5.alloc (.cells #[.int .i64 g.s, .slice g.p.a g.p.n g.p.c, .slice g.h0.a g.h0.n g.h0.c, .slice g.h1.a g.h1.n g.h1.c, .slice g.h2.a g.h2.n g.h2.c, .slice g.h3.a g.h3.n g.h3.c, .slice g.o.a g.o.n g.o.c, .slice g.i.a g.i.n g.i.c, .slice g.e.a g.e.n g.e.c] 37) = V5 at T5 zV5 so o1 go ⊢
  clear u0 u1 u2 u3 u4 u5 u6 u7 u8
  refine (eq_any g s0 V5 go.at so.at gm (by omega)).mono ?_
  rintro e W6 ⟨rfl, hb⟩
  replace T5 := T5.later hb
  replace so := so.later hb
  replace o1 := o1.later hb
  replace go := go.later hb
  have y6 := hb.size
  have S5 : StB w [(W5.heap.size, g.cells), (W4.heap.size, d0.cells), (W3.heap.size, s0.cells), (w.heap.size, b0.cells)] [d0, b0] W6 W6 := ⟨T5.book o1.at, Below.refl _ _⟩
  clear hb T5 hlt3
  go_wp2_with (fail)
  refine wp_region_held_drew (S := StB w [(W5.heap.size, g.cells), (W4.heap.size, d0.cells), (W3.heap.size, s0.cells), (w.heap.size, b0.cells)] [d0, b0] W6) (by kernel_rfl) S5.drew (fun hS => ?_)
  refine takeB (i := 0) (v := .agg #[.int .i64 d0.s, .slice d0.p.a d0.p.n d0.p.c, .slice d0.h0.a d0.h0.n d0.h0.c, .slice d0.h1.a d0.h1.n d0.h1.c, .slice d0.h2.a d0.h2.n d0.h2.c, .slice d0.h3.a d0.h3.n d0.h3.c, .slice d0.o.a d0.o.n d0.o.c, .slice d0.i.a d0.i.n d0.i.c, .slice d0.e.a d0.e.n d0.e.c]) (d := some 31) rfl rfl (by kernel_rfl) (by kernel_rfl) (by kernel_rfl) (fun _ _ _ h => h) (Or.inl ⟨by rfl, fun w' hw => ?_⟩) (by assumption) ?_
  · obtain ⟨u0, u1, u2, u3, u4, u5, u6, u7, u8⟩ := nine (hw.r (W4.heap.size, d0.cells) (by simp)).1; go_simp
  simp only [Act.put, List.setIfInBounds_toArray, List.set_cons_zero, List.set_cons_succ]
  refine takeB (i := 1) (v := .agg #[.int .i64 b0.s, .slice b0.p.a b0.p.n b0.p.c, .slice b0.h0.a b0.h0.n b0.h0.c, .slice b0.h1.a b0.h1.n b0.h1.c, .slice b0.h2.a b0.h2.n b0.h2.c, .slice b0.h3.a b0.h3.n b0.h3.c, .slice b0.o.a b0.o.n b0.o.c, .slice b0.i.a b0.i.n b0.i.c, .slice b0.e.a b0.e.n b0.e.c]) (d := some 32) rfl rfl (by kernel_rfl) (by kernel_rfl) (by kernel_rfl) (fun _ _ _ h => h) (Or.inl ⟨by rfl, fun w' hw => ?_⟩) (by assumption) ?_
  · obtain ⟨u0, u1, u2, u3, u4, u5, u6, u7, u8⟩ := nine (hw.r (w.heap.size, b0.cells) (by simp)).1; go_simp
  simp only [Act.put, List.setIfInBounds_toArray, List.set_cons_zero, List.set_cons_succ]
  generalize World.drew _ = V at hS ⊢
  refine wpAnyH_ready (rs := [2]) (by kernel_rfl) (by simp) ?_
  refine AllReadyH.cons rfl (fun K hK => ?_) AllReadyH.nil
  go_simp
  refine (to_any b0 V (hS.a b0 (by simp)) m0).mono ?_
  rintro e Y1 ⟨ff, rfl, qf, pf, hy⟩
  go_wp2_with (fail)
  refine hK.out _ _ (hS.later hy) (fun hS => ?_)
  clear hK K
  refine wpAnyH_ready (rs := [3]) (by kernel_rfl) (by simp) ?_
  refine AllReadyH.cons rfl (fun K hK => ?_) AllReadyH.nil
  go_simp
  refine (eq_any d0 ff Y1 (hS.a d0 (by simp)) pf.at (k1.trans qf.symm) (by omega)).mono ?_
  rintro e Y2 ⟨rfl, hy⟩
  go_wp2_with (fail)
  refine hK.out _ _ (hS.later hy) (fun hS => ?_)
  clear hK K
  refine takeB (i := 4) (v := .bool false) (d := some 35) rfl rfl (by kernel_rfl) (by kernel_rfl) (by kernel_rfl) (fun _ _ _ h => h) (Or.inl ⟨by rfl, fun w' hw => ?_⟩) (by assumption) ?_
  · go_simp
  simp only [Act.put, List.setIfInBounds_toArray, List.set_cons_zero, List.set_cons_succ]
  refine wpAnyH_done (by kernel_rfl) ?_ _
  clear pf hy
  replace so := so.later hS.be
  replace o1 := o1.later hS.be
  replace go := go.later hS.be
  have y7 := hS.be.size
  have T6 : St w [(W5.heap.size, g.cells), (W4.heap.size, d0.cells), (W3.heap.size, s0.cells), (w.heap.size, b0.cells)] [b0] Y2 := hS.st.take (by simp) (by simp)
  clear hS S5
  obtain ⟨u0, u1, u2, u3, u4, u5, u6, u7, u8⟩ := nine (T6.r (W4.heap.size, d0.cells) (by simp)).1
  go_wp2_with (fail)
  clear u0 u1 u2 u3 u4 u5 u6 u7 u8
  refine (mark_any d0 1 V3.heap.size W4.heap.size Y2 (by omega) o1 (by omega) (by omega) (by omega)).mono ?_
  rintro e Z1 ⟨rfl, om, on⟩
  replace so := so.only on (.inl (by omega))
  replace go := go.only on (.inr (by omega))
  have y8 := on.size
  have BT7 : Below w.heap.size w _ := T6.b.trans (on.below (by omega) |>.mono (by omega))
  have T7 := T6.only on (by
    simp only [List.forall_mem_cons, List.not_mem_nil, false_implies, implies_true, and_true]
    exact ⟨.inr (by omega), .inr (by omega), .inl (by omega), .inl (by omega)⟩) (by omega) (by
    simp only [List.forall_mem_cons, List.not_mem_nil, false_implies, implies_true, and_true]
    exact HB.out.later BT7)
  clear T6 BT7
  clear o1 om on
  have nk : ¬ ((1 : Int) + d0.total < 0) := by omega
  have nkb : decide ((1 : Int) + d0.total < 0) = false := by simpa using nk
  obtain ⟨u0, u1, u2, u3, u4, u5, u6, u7, u8⟩ := nine (T7.r (W5.heap.size, g.cells) (by simp)).1
  obtain ⟨v0, v1, v2, v3, v4, v5, v6, v7, v8⟩ := nine (T7.r (W3.heap.size, s0.cells) (by simp)).1
  go_wp2_with (fail)
  clear u0 u1 u2 u3 u4 u5 u6 u7 u8
  clear v0 v1 v2 v3 v4 v5 v6 v7 v8 nk nkb
  refine (eq_any g s0 Z1 go.at so.at gm (by omega)).mono ?_
  rintro e Z2 ⟨rfl, hb⟩
  replace T7 := T7.later hb
  replace so := so.later hb
  replace go := go.later hb
  have y9 := hb.size
  clear hb
  obtain ⟨u0, u1, u2, u3, u4, u5, u6, u7, u8⟩ := nine (T7.r (W5.heap.size, g.cells) (by simp)).1
  go_wp2_with (fail)
  clear u0 u1 u2 u3 u4 u5 u6 u7 u8
  refine (mark_any g 1 V4.heap.size W5.heap.size Z2 (by omega) go (by omega) (by omega) (by omega)).mono ?_
  rintro e Z3 ⟨rfl, gk, on⟩
  replace so := so.only on (.inl (by omega))
  have y10 := on.size
  have BT8 : Below w.heap.size w _ := T7.b.trans (on.below (by omega) |>.mono (by omega))
  have T8 := T7.only on (by
    simp only [List.forall_mem_cons, List.not_mem_nil, false_implies, implies_true, and_true]
    exact ⟨.inr (by omega), .inl (by omega), .inl (by omega), .inl (by omega)⟩) (by omega) (by
    simp only [List.forall_mem_cons, List.not_mem_nil, false_implies, implies_true, and_true]
    exact HB.out.later BT8)
  clear T7 BT8
  clear go on
  obtain ⟨u0, u1, u2, u3, u4, u5, u6, u7, u8⟩ := nine (T8.r (W5.heap.size, g.cells) (by simp)).1
  go_wp2_with (fail)
  clear u0 u1 u2 u3 u4 u5 u6 u7 u8
  refine (held_any g 1 Z3 gk.at (by omega) (by omega) (by omega)).mono ?_
  rintro e Z4 ⟨rfl, hb⟩
  replace T8 := T8.later hb
  replace so := so.later hb
  replace gk := gk.later hb
  clear hb
  have nk : ¬ ((1 : Int) + g.total < 0) := by omega
  obtain ⟨u0, u1, u2, u3, u4, u5, u6, u7, u8⟩ := nine (T8.r (w.heap.size, b0.cells) (by simp)).1
  go_wp2_with (fail)
  clear u0 u1 u2 u3 u4 u5 u6 u7 u8
  clear nk
  refine (to_any b0 _ (T8.a b0 (by simp)) m0).mono ?_
  rintro e Z5 ⟨e0, rfl, k2, o2, hb⟩
  replace T8 := T8.later hb
  replace so := so.later hb
  replace gk := gk.later hb
  have z2 := total_m k2
  have cp2 := o2.cap
  clear hb
  simp only [Bx.cells]
  go_wp2_with (fail)
  refine (cut_any e0 a1 Z5 o2.at (by omega) cp2).mono ?_
  rintro e Z6 ⟨h0, rfl, hq, ho, hb⟩
  have hm : h0.m = s0.m := cutq_one ((cutq_m k2 a1 h0.m).1 hq) HQ.out
  have th := total_m hm
  have T9' := T8.later hb
  replace so := so.later hb
  replace gk := gk.later hb
  clear hb hq T8 o2
  have T9 : St w [(Z6.heap.size, h0.cells), (W5.heap.size, g.cells), (W4.heap.size, d0.cells), (W3.heap.size, s0.cells), (w.heap.size, b0.cells)] [b0] (Z6.alloc (.cells #[.int .i64 h0.s, .slice h0.p.a h0.p.n h0.p.c, .slice h0.h0.a h0.h0.n h0.h0.c, .slice h0.h1.a h0.h1.n h0.h1.c, .slice h0.h2.a h0.h2.n h0.h2.c, .slice h0.h3.a h0.h3.n h0.h3.c, .slice h0.o.a h0.o.n h0.o.c, .slice h0.i.a h0.i.n h0.i.c, .slice h0.e.a h0.e.n h0.e.c] 37)) := T9'.row #[.int .i64 h0.s, .slice h0.p.a h0.p.n h0.p.c, .slice h0.h0.a h0.h0.n h0.h0.c, .slice h0.h1.a h0.h1.n h0.h1.c, .slice h0.h2.a h0.h2.n h0.h2.c, .slice h0.h3.a h0.h3.n h0.h3.c, .slice h0.o.a h0.o.n h0.o.c, .slice h0.i.a h0.i.n h0.i.c, .slice h0.e.a h0.e.n h0.e.c] 37
  replace so := so.later (below1 Z6 (.cells #[.int .i64 h0.s, .slice h0.p.a h0.p.n h0.p.c, .slice h0.h0.a h0.h0.n h0.h0.c, .slice h0.h1.a h0.h1.n h0.h1.c, .slice h0.h2.a h0.h2.n h0.h2.c, .slice h0.h3.a h0.h3.n h0.h3.c, .slice h0.o.a h0.o.n h0.o.c, .slice h0.i.a h0.i.n h0.i.c, .slice h0.e.a h0.e.n h0.e.c] 37))
  replace gk := gk.later (below1 Z6 (.cells #[.int .i64 h0.s, .slice h0.p.a h0.p.n h0.p.c, .slice h0.h0.a h0.h0.n h0.h0.c, .slice h0.h1.a h0.h1.n h0.h1.c, .slice h0.h2.a h0.h2.n h0.h2.c, .slice h0.h3.a h0.h3.n h0.h3.c, .slice h0.o.a h0.o.n h0.o.c, .slice h0.i.a h0.i.n h0.i.c, .slice h0.e.a h0.e.n h0.e.c] 37))
  replace ho := ho.later (below1 Z6 (.cells #[.int .i64 h0.s, .slice h0.p.a h0.p.n h0.p.c, .slice h0.h0.a h0.h0.n h0.h0.c, .slice h0.h1.a h0.h1.n h0.h1.c, .slice h0.h2.a h0.h2.n h0.h2.c, .slice h0.h3.a h0.h3.n h0.h3.c, .slice h0.o.a h0.o.n h0.o.c, .slice h0.i.a h0.i.n h0.i.c, .slice h0.e.a h0.e.n h0.e.c] 37))
  have zV6 : Z6.heap.size < (Z6.alloc (.cells #[.int .i64 h0.s, .slice h0.p.a h0.p.n h0.p.c, .slice h0.h0.a h0.h0.n h0.h0.c, .slice h0.h1.a h0.h1.n h0.h1.c, .slice h0.h2.a h0.h2.n h0.h2.c, .slice h0.h3.a h0.h3.n h0.h3.c, .slice h0.o.a h0.o.n h0.o.c, .slice h0.i.a h0.i.n h0.i.c, .slice h0.e.a h0.e.n h0.e.c] 37)).heap.size := by simp
  clear T9'
  simp only [Bx.cells]
  obtain ⟨u0, u1, u2, u3, u4, u5, u6, u7, u8⟩ := nine (T9.r (W3.heap.size, s0.cells) (by simp)).1
  have hlt3 := (T9.r (W3.heap.size, s0.cells) (by simp)).2
  go_wp2_with (fail)
  generalize Z6.alloc (.cells #[.int .i64 h0.s, .slice h0.p.a h0.p.n h0.p.c, .slice h0.h0.a h0.h0.n h0.h0.c, .slice h0.h1.a h0.h1.n h0.h1.c, .slice h0.h2.a h0.h2.n h0.h2.c, .slice h0.h3.a h0.h3.n h0.h3.c, .slice h0.o.a h0.o.n h0.o.c, .slice h0.i.a h0.i.n h0.i.c, .slice h0.e.a h0.e.n h0.e.c] 37) = V6 at T9 zV6 so gk ho ⊢
  clear u0 u1 u2 u3 u4 u5 u6 u7 u8
  refine (eq_any h0 s0 V6 ho.at so.at hm (by omega)).mono ?_
  rintro e Z7 ⟨rfl, hb⟩
  replace T9 := T9.later hb
  replace gk := gk.later hb
  clear hb
  obtain ⟨u0, u1, u2, u3, u4, u5, u6, u7, u8⟩ := nine (T9.r (W5.heap.size, g.cells) (by simp)).1
  go_wp2_with (fail)
  clear u0 u1 u2 u3 u4 u5 u6 u7 u8
  refine (held_any g 1 Z7 gk.at (by omega) (by omega) (by omega)).mono ?_
  rintro e Z8 ⟨rfl, hb⟩
  replace T9 := T9.later hb
  have nk : ¬ ((1 : Int) + g.total < 0) := by omega
  go_wp2_with (fail)
  go_ret
  exact ⟨rfl, T9.b⟩

end Go.Proofs.Ytfijhclocncplaa.Book

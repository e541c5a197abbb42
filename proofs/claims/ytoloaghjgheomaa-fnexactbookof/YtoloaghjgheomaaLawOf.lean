/- Of every book and slot, its rooms, held against the specification; in new memory of their own. Conditions: none. -/
import Derived.Test.YtoloaghjgheomaaLaw
import Derived.Test.YtoloaghjgheomaaBkOf3
namespace Go.Proofs.Ytoloaghjgheomaa.Book
open Go.ChangeShapes Go.WideShapes Go.ChangeAt Go.RowKit
open Go.Proofs.Ytoloaghjgheomaa.Aid Go.Proofs.Ytoloaghjgheomaa.Lst

theorem own_sx {w : World} {base : Nat} {v : Value} {L : List Int} (h : w.ownsRow base 3 1 v L.length (vals L)) : ∃ x : Sx, v = .slice x.a x.n x.c ∧ x.m = (L.length, fun j => L.getD j 0) ∧ x.Own base w.heap.size w := by
  obtain ⟨q, ⟨rfl, h0⟩ | ⟨g, cap, cur, rfl, hb, hg, h1, h2, h3, h4⟩⟩ := h
  · refine ⟨⟨none, 0, 0, fun j => L.getD j 0⟩, rfl, ?_, .inl rfl⟩
    show (0, fun j => L.getD j 0) = _
    rw [h0]
  · refine ⟨⟨some ⟨g, 0, none⟩, L.length, cap, fun j => L.getD j 0⟩, rfl, rfl, .inr ⟨g, rfl, hb, Nat.lt_of_not_le fun hle => (by rw [Array.getElem?_eq_none hle] at hg; cases hg), fun j hj => ?_⟩⟩
    rw [cell_of_row _ _ j _ _ _ hg, frozen_of_row _ _ j _ _ hg]
    refine ⟨?_, rfl⟩
    have hj : j < L.length := hj
    have e : (cur.toList.take (L.length * 1))[j]? = (vals L)[j]? := by rw [h4]
    rw [List.getElem?_take_of_lt (by omega)] at e
    rw [← Array.getElem?_toList, e]
    simp [vals, hj]
theorem ofl_len {b : Bx} {t : Int} {L : List Int} (h : OfL b t L) : L.length ≤ 48 := by
  rcases h with ⟨h, ⟨h1, rfl⟩ | ⟨h1, rfl⟩⟩ | ⟨h, rfl⟩
  · have := selL_len b.o.f (t + 1) b.o.n
    have := h.nums.2.2.2.2
    omega
  · simp
  · simp
structure StB (w0 : World) (rs : List (Nat × List Value)) (bs : List Bx) (v w : World) : Prop where
  st : St w0 rs bs w
  be : Below v.heap.size v w
theorem StB.later {w0 v w w1 : World} {rs : List (Nat × List Value)} {bs : List Bx} (h : StB w0 rs bs v w) (hb : Below w.heap.size w w1) : StB w0 rs bs v w1 := ⟨h.st.later hb, h.be.trans (hb.mono h.be.size)⟩
theorem StB.drew {w0 v w : World} {rs : List (Nat × List Value)} {bs : List Bx} (h : StB w0 rs bs v w) : StB w0 rs bs v w.drew := ⟨h.st.drew, ⟨h.be.os, h.be.tape, h.be.output, h.be.size, h.be.block⟩⟩
theorem StB.r {w0 v w : World} {rs : List (Nat × List Value)} {bs : List Bx} (h : StB w0 rs bs v w) : ∀ p ∈ rs, w.rangeAt p.1 0 p.2 ∧ p.1 < w.heap.size := h.st.r
theorem StB.a {w0 v w : World} {rs : List (Nat × List Value)} {bs : List Bx} (h : StB w0 rs bs v w) : ∀ b ∈ bs, b.At w := h.st.a
theorem Sx.Own.later {x : Sx} {B C : Nat} {w w' : World} (hx : x.Own B C w) (h : Below w.heap.size w w') : x.Own B C w' := hx.only (Only.of (B := C) (C := C) h) (.inl (Nat.le_refl _))
theorem St.only {w0 w w1 : World} {rs : List (Nat × List Value)} {bs : List Bx} {B C : Nat} (h : St w0 rs bs w) (ho : Only B C w w1) (hr : ∀ p ∈ rs, p.1 < B ∨ C ≤ p.1) (hB : w0.heap.size ≤ B) (hbs : ∀ b ∈ bs, b.At w1) : St w0 rs bs w1 :=
  ⟨fun p hp => ⟨fun j x hx => by rw [ho.cell (h.r p hp).2 (hr p hp)]; exact (h.r p hp).1 j x hx, Nat.lt_of_lt_of_le (h.r p hp).2 ho.size⟩, hbs, h.b.trans ⟨ho.os, ho.tape, ho.output, ho.size, fun k hk => ho.block k (Nat.lt_of_lt_of_le hk h.b.size) (.inl (by omega))⟩⟩

set_option maxRecDepth 100000 in
set_option maxHeartbeats 8000000 in
theorem law_of (b0 : Bx) (a1 : Int) (ha : (Lit.int .i64 a1).wf = true) (w : World) (g0 : b0.Good w) :
    Calls Try.prog 9 #[.agg b0.cells.toArray, .int .i64 a1] w fun e w' => e = .returned (.bool true) ∧ Below w.heap.size w w' := by
  have n0 := g0.short
  have HWf : Hid b0.Wf := g0.wf
  have T0 : St w [(w.heap.size, b0.cells)] [b0] (w.alloc (.cells #[.int .i64 b0.s, .slice b0.p.a b0.p.n b0.p.c, .slice b0.h0.a b0.h0.n b0.h0.c, .slice b0.h1.a b0.h1.n b0.h1.c, .slice b0.h2.a b0.h2.n b0.h2.c, .slice b0.h3.a b0.h3.n b0.h3.c, .slice b0.o.a b0.o.n b0.o.c, .slice b0.i.a b0.i.n b0.i.c, .slice b0.e.a b0.e.n b0.e.c] 40)) := (St.start (bs := [b0]) (by simp; exact g0.at)).row #[.int .i64 b0.s, .slice b0.p.a b0.p.n b0.p.c, .slice b0.h0.a b0.h0.n b0.h0.c, .slice b0.h1.a b0.h1.n b0.h1.c, .slice b0.h2.a b0.h2.n b0.h2.c, .slice b0.h3.a b0.h3.n b0.h3.c, .slice b0.o.a b0.o.n b0.o.c, .slice b0.i.a b0.i.n b0.i.c, .slice b0.e.a b0.e.n b0.e.c] 40
  obtain ⟨ta, tb⟩ := bounds_i64 ha
  have HB : Hid (b0.At w) := g0.at
  simp only [Bx.cells]
  go_enter Try.func9, Try.ntmps9
  go_wp2_with (fail)
  generalize (w.alloc (.cells #[.int .i64 b0.s, .slice b0.p.a b0.p.n b0.p.c, .slice b0.h0.a b0.h0.n b0.h0.c, .slice b0.h1.a b0.h1.n b0.h1.c, .slice b0.h2.a b0.h2.n b0.h2.c, .slice b0.h3.a b0.h3.n b0.h3.c, .slice b0.o.a b0.o.n b0.o.c, .slice b0.i.a b0.i.n b0.i.c, .slice b0.e.a b0.e.n b0.e.c] 40)) = W0 at T0 ⊢
  refine (sz_any b0 1048576 W0 n0 (by omega) (by omega)).mono ?_
  rintro e W1 ⟨⟨l1, rfl, t1, t2, t3⟩, hb⟩
  have T1 := T0.later hb
  clear hb T0
  by_cases h1 : l1 < 0
  · go_wp2_with (fail)
    go_ret
    exact ⟨rfl, T1.b⟩
  replace t1 := t1 (by omega)
  have m0 : b0.total ≤ 1000000000 := by omega
  clear t1 t2 t3 n0
  obtain ⟨u0, u1, u2, u3, u4, u5, u6, u7, u8⟩ := nine (T1.r (w.heap.size, b0.cells) (by simp)).1
  go_wp2_with (fail)
  clear u0 u1 u2 u3 u4 u5 u6 u7 u8
  refine (to_any b0 _ (T1.a b0 (by simp)) m0).mono ?_
  rintro e W2 ⟨c0, rfl, k0, o0, hb⟩
  have T2 := T1.later hb
  have z0 := total_m k0
  have zz0 : w.heap.size < W2.heap.size := (T2.r (w.heap.size, b0.cells) (by simp)).2
  clear hb T1
  simp only [Bx.cells]
  go_wp2_with (fail)
  refine (sof_any c0 a1 W2 o0.at (by omega) ((wf_m k0).2 HWf.out) ta tb).mono ?_
  rintro e W3 ⟨⟨vv, L, rfl, hown, hL⟩, hb⟩
  obtain ⟨x, rfl, xm, xo⟩ := own_sx hown
  have T3 := T2.later hb
  have y3 := hb.size
  have HL : Hid (OfL b0 a1 L) := (ofl_m k0 a1 L).1 hL
  have ln : L.length ≤ 48 := ofl_len hL
  have xn : x.n ≤ 48 := by have e : x.n = L.length := congrArg (·.1) xm; omega
  clear hb T2 o0 z0 k0 hL hown
  obtain ⟨u0, u1, u2, u3, u4, u5, u6, u7, u8⟩ := nine (T3.r (w.heap.size, b0.cells) (by simp)).1
  go_wp2_with (fail)
  clear u0 u1 u2 u3 u4 u5 u6 u7 u8
  refine (to_any b0 _ (T3.a b0 (by simp)) m0).mono ?_
  rintro e W4 ⟨d0, rfl, k0, o0, hb⟩
  have T4 : St w [(W4.heap.size, d0.cells), (w.heap.size, b0.cells)] [b0] _ := (T3.later hb).row #[.int .i64 d0.s, .slice d0.p.a d0.p.n d0.p.c, .slice d0.h0.a d0.h0.n d0.h0.c, .slice d0.h1.a d0.h1.n d0.h1.c, .slice d0.h2.a d0.h2.n d0.h2.c, .slice d0.h3.a d0.h3.n d0.h3.c, .slice d0.o.a d0.o.n d0.o.c, .slice d0.i.a d0.i.n d0.i.c, .slice d0.e.a d0.e.n d0.e.c] 26
  have z0 := total_m k0
  have cp := o0.cap
  replace xo := (xo.later hb).later (below1 W4 (.cells #[.int .i64 d0.s, .slice d0.p.a d0.p.n d0.p.c, .slice d0.h0.a d0.h0.n d0.h0.c, .slice d0.h1.a d0.h1.n d0.h1.c, .slice d0.h2.a d0.h2.n d0.h2.c, .slice d0.h3.a d0.h3.n d0.h3.c, .slice d0.o.a d0.o.n d0.o.c, .slice d0.i.a d0.i.n d0.i.c, .slice d0.e.a d0.e.n d0.e.c] 26))
  have y4 := hb.size
  replace o0 := o0.later (below1 W4 (.cells #[.int .i64 d0.s, .slice d0.p.a d0.p.n d0.p.c, .slice d0.h0.a d0.h0.n d0.h0.c, .slice d0.h1.a d0.h1.n d0.h1.c, .slice d0.h2.a d0.h2.n d0.h2.c, .slice d0.h3.a d0.h3.n d0.h3.c, .slice d0.o.a d0.o.n d0.o.c, .slice d0.i.a d0.i.n d0.i.c, .slice d0.e.a d0.e.n d0.e.c] 26))
  have y5 : W4.heap.size < (W4.alloc (.cells #[.int .i64 d0.s, .slice d0.p.a d0.p.n d0.p.c, .slice d0.h0.a d0.h0.n d0.h0.c, .slice d0.h1.a d0.h1.n d0.h1.c, .slice d0.h2.a d0.h2.n d0.h2.c, .slice d0.h3.a d0.h3.n d0.h3.c, .slice d0.o.a d0.o.n d0.o.c, .slice d0.i.a d0.i.n d0.i.c, .slice d0.e.a d0.e.n d0.e.c] 26)).heap.size := by simp
  clear hb T3
  simp only [Bx.cells]
  go_wp2_with (fail)
  generalize W4.alloc (.cells #[.int .i64 d0.s, .slice d0.p.a d0.p.n d0.p.c, .slice d0.h0.a d0.h0.n d0.h0.c, .slice d0.h1.a d0.h1.n d0.h1.c, .slice d0.h2.a d0.h2.n d0.h2.c, .slice d0.h3.a d0.h3.n d0.h3.c, .slice d0.o.a d0.o.n d0.o.c, .slice d0.i.a d0.i.n d0.i.c, .slice d0.e.a d0.e.n d0.e.c] 26) = V4 at T4 xo o0 y5 ⊢
  refine (of_any d0 a1 V4 o0.at (by omega) cp).mono ?_
  rintro e W5 ⟨⟨vv, L2, rfl, hown, hL⟩, hb⟩
  obtain ⟨y, rfl, ym, yo⟩ := own_sx hown
  obtain rfl : L2 = L := ofl_one ((ofl_m k0 a1 L2).1 hL) HL.out
  replace T4 := T4.later hb
  replace xo := xo.later hb
  replace o0 := o0.later hb
  have y6 := hb.size
  have yn : y.n ≤ 48 := by have e : y.n = L2.length := congrArg (·.1) ym; omega
  clear hb hown hL
  go_wp2_with (fail)
  refine (eq1_any y x W5 yo.at xo.at (ym.trans xm.symm) (by omega)).mono ?_
  rintro e w5 ⟨rfl, q, rfl⟩
  have hq : Below W5.heap.size W5 (W5.drewN q) := ⟨rfl, rfl, rfl, Nat.le_refl _, fun _ _ => rfl⟩
  have S5 : StB w [(W4.heap.size, d0.cells), (w.heap.size, b0.cells)] [d0, b0] W5 (W5.drewN q) := ⟨(T4.later hq).book (o0.later hq).at, hq⟩
  clear hq T4
  generalize W5.drewN q = V5 at S5 ⊢
  go_wp2_with (fail)
  refine wp_region_held_drew (S := StB w [(W4.heap.size, d0.cells), (w.heap.size, b0.cells)] [d0, b0] W5) (by kernel_rfl) S5.drew (fun hS => ?_)
  refine takeB (i := 0) (v := .agg #[.int .i64 d0.s, .slice d0.p.a d0.p.n d0.p.c, .slice d0.h0.a d0.h0.n d0.h0.c, .slice d0.h1.a d0.h1.n d0.h1.c, .slice d0.h2.a d0.h2.n d0.h2.c, .slice d0.h3.a d0.h3.n d0.h3.c, .slice d0.o.a d0.o.n d0.o.c, .slice d0.i.a d0.i.n d0.i.c, .slice d0.e.a d0.e.n d0.e.c]) (d := some 31) rfl rfl (by kernel_rfl) (by kernel_rfl) (by kernel_rfl) (fun _ _ _ h => h) (Or.inl ⟨by rfl, fun w' hw => ?_⟩) (by assumption) ?_
  · obtain ⟨u0, u1, u2, u3, u4, u5, u6, u7, u8⟩ := nine (hw.r (W4.heap.size, d0.cells) (by simp)).1; go_simp
  simp only [Act.put, List.setIfInBounds_toArray, List.set_cons_zero, List.set_cons_succ]
  refine takeB (i := 1) (v := .agg #[.int .i64 b0.s, .slice b0.p.a b0.p.n b0.p.c, .slice b0.h0.a b0.h0.n b0.h0.c, .slice b0.h1.a b0.h1.n b0.h1.c, .slice b0.h2.a b0.h2.n b0.h2.c, .slice b0.h3.a b0.h3.n b0.h3.c, .slice b0.o.a b0.o.n b0.o.c, .slice b0.i.a b0.i.n b0.i.c, .slice b0.e.a b0.e.n b0.e.c]) (d := some 32) rfl rfl (by kernel_rfl) (by kernel_rfl) (by kernel_rfl) (fun _ _ _ h => h) (Or.inl ⟨by rfl, fun w' hw => ?_⟩) (by assumption) ?_
  · obtain ⟨u0, u1, u2, u3, u4, u5, u6, u7, u8⟩ := nine (hw.r (w.heap.size, b0.cells) (by simp)).1; go_simp
  simp only [Act.put, List.setIfInBounds_toArray, List.set_cons_zero, List.set_cons_succ]
  generalize World.drew _ = V at hS ⊢
  refine wpAnyH_ready (rs := [2]) (by kernel_rfl) (by simp) ?_
  refine AllReadyH.cons rfl (fun K hK => ?_) AllReadyH.nil
  go_simp
  refine (to_any b0 V (hS.a b0 (by simp)) m0).mono ?_
  rintro e Y1 ⟨ff, rfl, qf, pf, hy⟩
  go_wp2_with (fail)
  refine hK.out _ _ (hS.later hy) (fun hS => ?_)
  clear hK K
  refine wpAnyH_ready (rs := [3]) (by kernel_rfl) (by simp) ?_
  refine AllReadyH.cons rfl (fun K hK => ?_) AllReadyH.nil
  go_simp
  refine (eq_any d0 ff Y1 (hS.a d0 (by simp)) pf.at (k0.trans qf.symm) (by omega)).mono ?_
  rintro e Y2 ⟨rfl, hy⟩
  go_wp2_with (fail)
  refine hK.out _ _ (hS.later hy) (fun hS => ?_)
  clear hK K
  refine takeB (i := 4) (v := .bool false) (d := some 35) rfl rfl (by kernel_rfl) (by kernel_rfl) (by kernel_rfl) (fun _ _ _ h => h) (Or.inl ⟨by rfl, fun w' hw => ?_⟩) (by assumption) ?_
  · go_simp
  simp only [Act.put, List.setIfInBounds_toArray, List.set_cons_zero, List.set_cons_succ]
  refine wpAnyH_done (by kernel_rfl) ?_ _
  clear pf hy
  replace xo := xo.later hS.be
  replace yo := yo.later hS.be
  replace o0 := o0.later hS.be
  have y7 := hS.be.size
  have T6 : St w [(W4.heap.size, d0.cells), (w.heap.size, b0.cells)] [b0] Y2 := hS.st.take (by simp) (by simp)
  clear hS S5
  obtain ⟨u0, u1, u2, u3, u4, u5, u6, u7, u8⟩ := nine (T6.r (W4.heap.size, d0.cells) (by simp)).1
  go_wp2_with (fail)
  clear u0 u1 u2 u3 u4 u5 u6 u7 u8
  refine (mark_any d0 1 W3.heap.size W4.heap.size Y2 (by omega) o0 (by omega) (by omega) (by omega)).mono ?_
  rintro e Z1 ⟨rfl, om, on⟩
  replace xo := xo.only on (.inl (Nat.le_refl _))
  replace yo := yo.only on (.inr (by omega))
  have y8 := on.size
  have B7 : Below w.heap.size w Z1 := T6.b.trans (on.below (by omega) |>.mono (by omega))
  have T7 := T6.only on (by
    simp only [List.forall_mem_cons, List.not_mem_nil, false_implies, implies_true, and_true]
    exact ⟨.inr (Nat.le_refl _), .inl (by omega)⟩) (by omega) (by
    simp only [List.forall_mem_cons, List.not_mem_nil, false_implies, implies_true, and_true]
    exact HB.out.later B7)
  clear T6 o0 om on B7
  have nk : ¬ ((1 : Int) + d0.total < 0) := by omega
  go_wp2_with (fail)
  refine (eq1_any y x Z1 yo.at xo.at (ym.trans xm.symm) (by omega)).mono ?_
  rintro e w5 ⟨rfl, q2, rfl⟩
  have hq : Below Z1.heap.size Z1 (Z1.drewN q2) := ⟨rfl, rfl, rfl, Nat.le_refl _, fun _ _ => rfl⟩
  replace T7 := T7.later hq
  replace xo := xo.later hq
  replace yo := yo.later hq
  have y9 := hq.size
  clear hq nk
  generalize Z1.drewN q2 = Z2 at T7 xo yo y9 ⊢
  go_wp2_with (fail)
  refine (mark1_any y 1 V4.heap.size W5.heap.size Z2 yo (by omega) (by omega) (by omega)).mono ?_
  rintro e Z3 ⟨rfl, yk, sp⟩
  have on := sp.only (B := V4.heap.size) (C := W5.heap.size) (v := Z2) (by simp only [List.forall_mem_cons, List.not_mem_nil, false_implies, implies_true, and_true]; exact yo)
  replace xo := xo.only on (.inl (by omega))
  have y10 := on.size
  have B8 : Below w.heap.size w Z3 := T7.b.trans (on.below (by omega) |>.mono (by omega))
  have T8 := T7.only on (by
    simp only [List.forall_mem_cons, List.not_mem_nil, false_implies, implies_true, and_true]
    exact ⟨.inl (by omega), .inl (by omega)⟩) (by omega) (by
    simp only [List.forall_mem_cons, List.not_mem_nil, false_implies, implies_true, and_true]
    exact HB.out.later B8)
  clear T7 yo on sp B8
  go_wp2_with (fail)
  refine (held1_any y 1 Z3 yk.at (by omega) (by omega) (by omega)).mono ?_
  rintro e Z3' ⟨rfl, rfl⟩
  have nk : ¬ ((1 : Int) + y.n < 0) := by omega
  obtain ⟨u0, u1, u2, u3, u4, u5, u6, u7, u8⟩ := nine (T8.r (w.heap.size, b0.cells) (by simp)).1
  go_wp2_with (fail)
  clear u0 u1 u2 u3 u4 u5 u6 u7 u8
  refine (to_any b0 _ (T8.a b0 (by simp)) m0).mono ?_
  rintro e Z4 ⟨e0, rfl, k2, o2, hb⟩
  have T9 := T8.later hb
  replace xo := xo.later hb
  replace yk := yk.later hb
  have z2 := total_m k2
  have cp2 := o2.cap
  clear hb T8
  simp only [Bx.cells]
  go_wp2_with (fail)
  refine (of_any e0 a1 Z4 o2.at (by omega) cp2).mono ?_
  rintro e Z5 ⟨⟨vv, L3, rfl, hown, hL⟩, hb⟩
  obtain ⟨z, rfl, zm, zo⟩ := own_sx hown
  obtain rfl : L3 = L2 := ofl_one ((ofl_m k2 a1 L3).1 hL) HL.out
  have T10 := T9.later hb
  replace xo := xo.later hb
  replace yk := yk.later hb
  have zn : z.n ≤ 48 := by have e : z.n = L3.length := congrArg (·.1) zm; omega
  clear hb hown hL T9
  go_wp2_with (fail)
  refine (eq1_any z x Z5 zo.at xo.at (zm.trans xm.symm) (by omega)).mono ?_
  rintro e w6 ⟨rfl, q3, rfl⟩
  have hq : Below Z5.heap.size Z5 (Z5.drewN q3) := ⟨rfl, rfl, rfl, Nat.le_refl _, fun _ _ => rfl⟩
  replace T10 := T10.later hq
  replace yk := yk.later hq
  clear hq
  generalize Z5.drewN q3 = Z6 at T10 yk ⊢
  go_wp2_with (fail)
  refine (held1_any y 1 Z6 yk.at (by omega) (by omega) (by omega)).mono ?_
  rintro e Z7 ⟨rfl, rfl⟩
  go_wp2_with (fail)
  go_ret
  exact ⟨rfl, T10.b⟩

end Go.Proofs.Ytoloaghjgheomaa.Book

import Derived.Test.YtipbijcmpbefpaaLay9
import Derived.Test.YtipbijcmpbefpaaM2
import Derived.Test.YtipbijcmpbefpaaM7
import Derived.Test.YtipbijcmpbefpaaM3

/- CensLay of the specification. -/
namespace Go.Proofs.Ytipbijcmpbefpaa.Book
open Go.ChangeShapes Go.WideShapes Go.ChangeAt Go.RowKit
open Go.Proofs.Ytipbijcmpbefpaa.Aid Go.Proofs.Ytipbijcmpbefpaa.Lst
open Go.Proofs.Ytipbijcmpbefpaa.Plat (okB okB_of fnd)
set_option maxRecDepth 100000
set_option linter.unusedVariables false

set_option maxHeartbeats 8000000 in
theorem sfit_any (s p l : Int) (b : Bx) (w : World) (h : b.At w) (hn : b.total ≤ 1000000000) (hw : b.Wf) :
    Calls Try.prog 46 #[.agg #[.int .i64 s, .int .i64 p, .int .i64 l], .agg b.cells.toArray] w fun e w' => Says e (FitP s p l b) ∧ Below w.heap.size w w' := by
  have S0 : HB w s p l b ((w.alloc (.cells #[.int .i64 s, .int .i64 p, .int .i64 l] 38)).alloc (.cells #[.int .i64 b.s, .slice b.p.a b.p.n b.p.c, .slice b.h0.a b.h0.n b.h0.c, .slice b.h1.a b.h1.n b.h1.c, .slice b.h2.a b.h2.n b.h2.c, .slice b.h3.a b.h3.n b.h3.c, .slice b.o.a b.o.n b.o.c, .slice b.i.a b.i.n b.i.c, .slice b.e.a b.e.n b.e.c] 26)) := ⟨range_lit (ints [s, p, l]).toArray (heap2_0 w _ _), ⟨range_lit #[.int .i64 b.s, .slice b.p.a b.p.n b.p.c, .slice b.h0.a b.h0.n b.h0.c, .slice b.h1.a b.h1.n b.h1.c, .slice b.h2.a b.h2.n b.h2.c, .slice b.h3.a b.h3.n b.h3.c, .slice b.o.a b.o.n b.o.c, .slice b.i.a b.i.n b.i.c, .slice b.e.a b.e.n b.e.c] (heap2_1 w _ _), h.later (below2 _ _ _)⟩, below2 _ _ _, by simp⟩
  have HW : Hid b.Wf := hw
  clear hw
  simp only [Bx.cells]
  go_enter Try.func46, Try.ntmps46
  go_wp2_with (fail)
  generalize (w.alloc (.cells #[.int .i64 s, .int .i64 p, .int .i64 l] 38)).alloc (.cells #[.int .i64 b.s, .slice b.p.a b.p.n b.p.c, .slice b.h0.a b.h0.n b.h0.c, .slice b.h1.a b.h1.n b.h1.c, .slice b.h2.a b.h2.n b.h2.c, .slice b.h3.a b.h3.n b.h3.c, .slice b.o.a b.o.n b.o.c, .slice b.i.a b.i.n b.i.c, .slice b.e.a b.e.n b.e.c] 26) = W at S0 ⊢
  refine (Plat.sok_any s p l W).mono ?_
  rintro e w1 ⟨rfl, hb⟩
  have hS := S0.later hb
  clear hb S0
  by_cases hok : okB s p l = true
  case neg =>
    have hok' : okB s p l = false := by simpa using hok
    have NF : Hid (¬ FitP s p l b) := fun g => hok g.1
    rw [hok']
    clear hok hok'
    go_wp2_with (fail)
    go_ret
    exact ⟨Says.no NF.out, hS.b⟩
  rw [hok]
  have OKB : Hid (okB s p l = true) := hok
  clear hok
  have HS : Hid (HB w s p l b w1) := hS
  obtain ⟨u0, u1, u2, u3, u4, u5, u6, u7, u8⟩ := nine hS.e.r
  have z1 := hS.z
  clear hS
  go_wp2_with (fail)
  clear u0 u1 u2 u3 u4 u5 u6 u7 u8
  refine (sok_any b w1 HS.out.e.a hn HW.out).mono ?_
  rintro e w2 ⟨⟨r, rfl, hr⟩, hb⟩
  have hS := HS.out.later hb
  clear hb HS z1
  cases r
  · have NF : Hid (¬ FitP s p l b) := fun g => hr.f g.2.1
    clear hr
    go_wp2_with (fail)
    go_ret
    exact ⟨Says.no NF.out, hS.b⟩
  have OKP : Hid (OkP b) := hr.t
  clear hr
  obtain ⟨u0, u1, u2, u3, u4, u5, u6, u7, u8⟩ := nine hS.e.r
  have c0 : w2.cell? ⟨w.heap.size, 0, none⟩ = some (.int .i64 s) := hS.c 0 _ rfl
  have c1 : w2.cell? ⟨w.heap.size, 1, none⟩ = some (.int .i64 p) := hS.c 1 _ rfl
  have c2 : w2.cell? ⟨w.heap.size, 2, none⟩ = some (.int .i64 l) := hS.c 2 _ rfl
  have HS : Hid (HB w s p l b w2) := hS
  have z2 := hS.z
  clear hS
  by_cases e1 : b.s = s
  case neg =>
    have e1b : (b.s == s) = false := by simpa using e1
    have NF : Hid (¬ FitP s p l b) := fun g => e1 g.2.2.1
    clear e1
    go_wp2_with (fail)
    go_ret
    exact ⟨Says.no NF.out, HS.out.b⟩
  have e1b : (b.s == s) = true := by simp [e1]
  have E1 : Hid (b.s = s) := e1
  clear e1
  by_cases e2 : (b.p.n : Int) = p
  case neg =>
    have e2b : ((b.p.n : Int) == p) = false := by simpa using e2
    have NF : Hid (¬ FitP s p l b) := fun g => e2 g.2.2.2
    clear e2
    go_wp2_with (fail)
    go_ret
    exact ⟨Says.no NF.out, HS.out.b⟩
  have e2b : ((b.p.n : Int) == p) = true := by simp [e2]
  have E2 : Hid ((b.p.n : Int) = p) := e2
  clear e2
  go_wp2_with (fail)
  go_ret
  exact ⟨Says.yes ⟨OKB.out, OKP.out, E1.out, E2.out⟩, HS.out.b⟩

set_option maxHeartbeats 8000000 in
theorem scl_any (s p l : Int) (b : Bx) (w : World) (h : b.At w) (hn : b.total ≤ 1000000000) (hw : b.Wf) :
    Calls Try.prog 14 #[.agg #[.int .i64 s, .int .i64 p, .int .i64 l], .agg b.cells.toArray] w fun e w' => LayQ s p l b w.heap.size w' e ∧ Below w.heap.size w w' := by
  have S0 : HB w s p l b ((w.alloc (.cells #[.int .i64 s, .int .i64 p, .int .i64 l] 38)).alloc (.cells #[.int .i64 b.s, .slice b.p.a b.p.n b.p.c, .slice b.h0.a b.h0.n b.h0.c, .slice b.h1.a b.h1.n b.h1.c, .slice b.h2.a b.h2.n b.h2.c, .slice b.h3.a b.h3.n b.h3.c, .slice b.o.a b.o.n b.o.c, .slice b.i.a b.i.n b.i.c, .slice b.e.a b.e.n b.e.c] 26)) := ⟨range_lit (ints [s, p, l]).toArray (heap2_0 w _ _), ⟨range_lit #[.int .i64 b.s, .slice b.p.a b.p.n b.p.c, .slice b.h0.a b.h0.n b.h0.c, .slice b.h1.a b.h1.n b.h1.c, .slice b.h2.a b.h2.n b.h2.c, .slice b.h3.a b.h3.n b.h3.c, .slice b.o.a b.o.n b.o.c, .slice b.i.a b.i.n b.i.c, .slice b.e.a b.e.n b.e.c] (heap2_1 w _ _), h.later (below2 _ _ _)⟩, below2 _ _ _, by simp⟩
  have HW : Hid b.Wf := hw
  clear hw
  simp only [Bx.cells]
  go_enter Try.func14, Try.ntmps14
  go_wp2_with (fail)
  generalize (w.alloc (.cells #[.int .i64 s, .int .i64 p, .int .i64 l] 38)).alloc (.cells #[.int .i64 b.s, .slice b.p.a b.p.n b.p.c, .slice b.h0.a b.h0.n b.h0.c, .slice b.h1.a b.h1.n b.h1.c, .slice b.h2.a b.h2.n b.h2.c, .slice b.h3.a b.h3.n b.h3.c, .slice b.o.a b.o.n b.o.c, .slice b.i.a b.i.n b.i.c, .slice b.e.a b.e.n b.e.c] 26) = W at S0 ⊢
  refine (sfit_any s p l b W S0.e.a hn HW.out).mono ?_
  rintro e w1 ⟨⟨r, rfl, hr⟩, hb⟩
  have HS : Hid (HB w s p l b w1) := S0.later hb
  clear S0 hb
  cases r
  · have NF : Hid (¬ FitP s p l b) := hr.f
    clear hr
    go_wp2_with (fail)
    go_ret
    exact ⟨.inr ⟨NF.out, rfl⟩, HS.out.b⟩
  obtain ⟨ok, okp, es, ep⟩ := hr.t
  obtain ⟨k1, k2, k3, k4, k5, k6⟩ := okB_of ok
  obtain ⟨S, rfl⟩ := Int.eq_ofNat_of_zero_le (show 0 ≤ s by omega)
  obtain ⟨P, rfl⟩ := Int.eq_ofNat_of_zero_le (show 0 ≤ p by omega)
  have FT : Hid (FitP S P l b) := hr.t
  have OK : Hid (okB S P l = true) := ok
  have OKP : Hid (OkP b) := okp
  have ES : Hid (b.s = S) := es
  have EP : Hid (b.p.n = P) := by unfold Hid; omega
  obtain ⟨u0, u1, u2, u3, u4, u5, u6, u7, u8⟩ := nine HS.out.e.r
  have c0 : w1.cell? ⟨w.heap.size, 0, none⟩ = some (.int .i64 S) := HS.out.c 0 _ rfl
  have c1 : w1.cell? ⟨w.heap.size, 1, none⟩ = some (.int .i64 P) := HS.out.c 1 _ rfl
  have c2 : w1.cell? ⟨w.heap.size, 2, none⟩ = some (.int .i64 l) := HS.out.c 2 _ rfl
  have z1 := HS.out.z
  clear ok okp es ep hr k1 k2 k3 k4 k5 k6
  go_wp2_with (fail)
  refine (slay_any S P l b w1 HS.out.e.a OK.out OKP.out ES.out EP.out).mono ?_
  clear u0 u1 u2 u3 u4 u5 u6 u7 u8 c0 c1 c2
  rintro e w2 ⟨k, rfl, q0, q1, ff, hb2⟩
  have hb := HS.out.b
  go_wp2_with (fail)
  go_ret
  exact ⟨.inl ⟨FT.out, S, P, k, rfl, rfl, rfl, by omega, q1, ff⟩, hb.trans (hb2.mono hb.size)⟩

end Go.Proofs.Ytipbijcmpbefpaa.Book

/- Of every house and book, the values, held against the specification; in new memory of their own. Conditions: none. -/
namespace Go.Proofs.Ytipbijcmpbefpaa.Book
open Go.ChangeShapes Go.WideShapes Go.ChangeAt Go.RowKit
open Go.Proofs.Ytipbijcmpbefpaa.Aid Go.Proofs.Ytipbijcmpbefpaa.Lst
open Go.Proofs.Ytipbijcmpbefpaa.Plat (okB okB_of)
set_option linter.unusedVariables false

theorem lk_norm (b : Bx) : ∀ k, lkK b.norm k = lkK b k
  | 0 => rfl
  | k + 1 => by
    simp only [lkK]
    rw [lk_norm b k, hd_norm]
    exact lk1_m none (b.hd k).a (b.hd k).n 0 (b.hd k).c (b.hd k).f (lkK b k) (b.hd k).n
theorem lay_norm (b : Bx) (s p : Nat) : layF b.norm s p = layF b s p := by
  funext j
  unfold layF
  simp only [hd_norm, lk_norm]
  rfl
theorem lay_m {b c : Bx} (h : b.m = c.m) (s p : Nat) : layF b s p = layF c s p := by rw [← lay_norm b, ← lay_norm c, norm_m h]
theorem fit_m {b c : Bx} (h : b.m = c.m) (s p l : Int) : FitP s p l b ↔ FitP s p l c := by
  unfold FitP
  rw [ok_m h]
  simp only [Bx.m, Bm.mk.injEq, Sx.m, Prod.mk.injEq] at h
  obtain ⟨h0, ⟨h1, _⟩, _⟩ := h
  rw [h0, h1]
/- The values as a list, wherever it lies. -/
def LayM (s p l : Int) (b : Bx) (m : Nat × (Nat → Int)) : Prop :=
  (FitP s p l b ∧ ∃ S P : Nat, s = S ∧ p = P ∧ m = (3 + S + S + 4 + P + P * 8 + P * 8, layF b S P)) ∨ (¬ FitP s p l b ∧ m = (0, fun _ => 0))
theorem laym_m {b c : Bx} (h : b.m = c.m) {s p l : Int} {m : Nat × (Nat → Int)} (g : LayM s p l b m) : LayM s p l c m := by
  rcases g with ⟨g, S, P, e1, e2, e3⟩ | ⟨g, e⟩
  · exact .inl ⟨(fit_m h s p l).1 g, S, P, e1, e2, by rw [← lay_m h]; exact e3⟩
  · exact .inr ⟨fun q => g ((fit_m h s p l).2 q), e⟩
theorem laym_one {b : Bx} {s p l : Int} {m m' : Nat × (Nat → Int)} (g : LayM s p l b m) (g' : LayM s p l b m') : m = m' := by
  rcases g with ⟨g, S, P, rfl, rfl, rfl⟩ | ⟨g, rfl⟩ <;> rcases g' with ⟨g', S', P', e1, e2, rfl⟩ | ⟨g', rfl⟩
  · obtain rfl : S = S' := by omega
    obtain rfl : P = P' := by omega
    rfl
  · exact absurd g g'
  · exact absurd g' g
  · rfl
theorem laym_len {b : Bx} {s p l : Int} {m : Nat × (Nat → Int)} (g : LayM s p l b m) : m.1 ≤ 300 := by
  rcases g with ⟨g, S, P, rfl, rfl, rfl⟩ | ⟨g, rfl⟩
  · obtain ⟨k1, k2, k3, k4, _, _⟩ := okB_of g.1
    simp only
    omega
  · simp
theorem lay_sx {s p l : Int} {b : Bx} {base : Nat} {w' : World} {e : Ending} (h : LayQ s p l b base w' e) : ∃ x : Sx, e = .returned (.slice x.a x.n x.c) ∧ LayM s p l b x.m ∧ x.Own base w'.heap.size w' := by
  rcases h with ⟨g, S, P, k, e1, e2, rfl, q0, q1, ff⟩ | ⟨g, rfl⟩
  · exact ⟨⟨some ⟨k, 0, none⟩, _, _, layF b S P⟩, rfl, .inl ⟨g, S, P, e1, e2, rfl⟩, .inr ⟨k, rfl, q0, q1, ff⟩⟩
  · exact ⟨⟨none, 0, 0, fun _ => 0⟩, rfl, .inr ⟨g, rfl⟩, .inl rfl⟩
theorem three {w : World} {b : Nat} {x y z : Value} (h : w.rangeAt b 0 [x, y, z]) : w.cell? ⟨b, 0, none⟩ = some x ∧ w.cell? ⟨b, 1, none⟩ = some y ∧ w.cell? ⟨b, 2, none⟩ = some z := by
  have h0 := h 0 _ rfl
  have h1 := h 1 _ rfl
  have h2 := h 2 _ rfl
  exact ⟨h0, h1, h2⟩
structure StB (w0 : World) (rs : List (Nat × List Value)) (bs : List Bx) (v w : World) : Prop where
  st : St w0 rs bs w
  be : Below v.heap.size v w
theorem StB.later {w0 v w w1 : World} {rs : List (Nat × List Value)} {bs : List Bx} (h : StB w0 rs bs v w) (hb : Below w.heap.size w w1) : StB w0 rs bs v w1 := ⟨h.st.later hb, h.be.trans (hb.mono h.be.size)⟩
theorem StB.drew {w0 v w : World} {rs : List (Nat × List Value)} {bs : List Bx} (h : StB w0 rs bs v w) : StB w0 rs bs v w.drew := ⟨h.st.drew, ⟨h.be.os, h.be.tape, h.be.output, h.be.size, h.be.block⟩⟩
theorem StB.r {w0 v w : World} {rs : List (Nat × List Value)} {bs : List Bx} (h : StB w0 rs bs v w) : ∀ p ∈ rs, w.rangeAt p.1 0 p.2 ∧ p.1 < w.heap.size := h.st.r
theorem StB.a {w0 v w : World} {rs : List (Nat × List Value)} {bs : List Bx} (h : StB w0 rs bs v w) : ∀ b ∈ bs, b.At w := h.st.a
theorem Sx.Own.later {x : Sx} {B C : Nat} {w w' : World} (hx : x.Own B C w) (h : Below w.heap.size w w') : x.Own B C w' := hx.only (Only.of (B := C) (C := C) h) (.inl (Nat.le_refl _))
theorem St.only {w0 w w1 : World} {rs : List (Nat × List Value)} {bs : List Bx} {B C : Nat} (h : St w0 rs bs w) (ho : Only B C w w1) (hr : ∀ p ∈ rs, p.1 < B ∨ C ≤ p.1) (hB : w0.heap.size ≤ B) (hbs : ∀ b ∈ bs, b.At w1) : St w0 rs bs w1 :=
  ⟨fun p hp => ⟨fun j x hx => by rw [ho.cell (h.r p hp).2 (hr p hp)]; exact (h.r p hp).1 j x hx, Nat.lt_of_lt_of_le (h.r p hp).2 ho.size⟩, hbs, h.b.trans ⟨ho.os, ho.tape, ho.output, ho.size, fun k hk => ho.block k (Nat.lt_of_lt_of_le hk h.b.size) (.inl (by omega))⟩⟩

set_option maxRecDepth 100000 in
set_option maxHeartbeats 16000000 in
theorem law_lay (s p l : Int) (b0 : Bx) (w : World) (g0 : b0.Good w) :
    Calls Try.prog 4 #[.agg #[.int .i64 s, .int .i64 p, .int .i64 l], .agg b0.cells.toArray] w fun e w' => e = .returned (.bool true) ∧ Below w.heap.size w w' := by
  have n0 := g0.short
  have HWf : Hid b0.Wf := g0.wf
  have T0 : St w [(w.heap.size + 1, b0.cells), (w.heap.size, [.int .i64 s, .int .i64 p, .int .i64 l])] [b0] ((w.alloc (.cells #[.int .i64 s, .int .i64 p, .int .i64 l] 34)).alloc (.cells #[.int .i64 b0.s, .slice b0.p.a b0.p.n b0.p.c, .slice b0.h0.a b0.h0.n b0.h0.c, .slice b0.h1.a b0.h1.n b0.h1.c, .slice b0.h2.a b0.h2.n b0.h2.c, .slice b0.h3.a b0.h3.n b0.h3.c, .slice b0.o.a b0.o.n b0.o.c, .slice b0.i.a b0.i.n b0.i.c, .slice b0.e.a b0.e.n b0.e.c] 35)) := by
    have q := ((St.start (bs := [b0]) (by simp; exact g0.at)).row #[.int .i64 s, .int .i64 p, .int .i64 l] 34).row #[.int .i64 b0.s, .slice b0.p.a b0.p.n b0.p.c, .slice b0.h0.a b0.h0.n b0.h0.c, .slice b0.h1.a b0.h1.n b0.h1.c, .slice b0.h2.a b0.h2.n b0.h2.c, .slice b0.h3.a b0.h3.n b0.h3.c, .slice b0.o.a b0.o.n b0.o.c, .slice b0.i.a b0.i.n b0.i.c, .slice b0.e.a b0.e.n b0.e.c] 35
    have e : (w.alloc (.cells #[.int .i64 s, .int .i64 p, .int .i64 l] 34)).heap.size = w.heap.size + 1 := by simp
    rw [e] at q
    exact q
  have HB : Hid (b0.At w) := g0.at
  simp only [Bx.cells]
  go_enter Try.func4, Try.ntmps4
  go_wp2_with (fail)
  generalize ((w.alloc (.cells #[.int .i64 s, .int .i64 p, .int .i64 l] 34)).alloc (.cells #[.int .i64 b0.s, .slice b0.p.a b0.p.n b0.p.c, .slice b0.h0.a b0.h0.n b0.h0.c, .slice b0.h1.a b0.h1.n b0.h1.c, .slice b0.h2.a b0.h2.n b0.h2.c, .slice b0.h3.a b0.h3.n b0.h3.c, .slice b0.o.a b0.o.n b0.o.c, .slice b0.i.a b0.i.n b0.i.c, .slice b0.e.a b0.e.n b0.e.c] 35)) = W0 at T0 ⊢
  refine (sz_any b0 1048576 W0 n0 (by omega) (by omega)).mono ?_
  rintro e W1 ⟨⟨l1, rfl, t1, t2, t3⟩, hb⟩
  have T1 := T0.later hb
  clear hb T0
  by_cases h1 : l1 < 0
  · go_wp2_with (fail)
    go_ret
    exact ⟨rfl, T1.b⟩
  replace t1 := t1 (by omega)
  have m0 : b0.total ≤ 1000000000 := by omega
  clear t1 t2 t3 n0
  have zW1 : w.heap.size + 1 < W1.heap.size := (T1.r (w.heap.size + 1, b0.cells) (by simp)).2
  obtain ⟨u0, u1, u2, u3, u4, u5, u6, u7, u8⟩ := nine (T1.r (w.heap.size + 1, b0.cells) (by simp)).1
  obtain ⟨c0, c1, c2⟩ := three (T1.r (w.heap.size, [.int .i64 s, .int .i64 p, .int .i64 l]) (by simp)).1
  have lt9 := (T1.r (w.heap.size, [.int .i64 s, .int .i64 p, .int .i64 l]) (by simp)).2
  have lt8 := (T1.r (w.heap.size + 1, b0.cells) (by simp)).2
  go_wp2_with (fail)
  clear u0 u1 u2 u3 u4 u5 u6 u7 u8
  clear c0 c1 c2 lt9 lt8
  have S1 : StB w [(w.heap.size + 1, b0.cells), (w.heap.size, [.int .i64 s, .int .i64 p, .int .i64 l])] [b0] W1 W1 := ⟨T1, Below.refl _ _⟩
  refine wp_region_held_drew (S := StB w [(w.heap.size + 1, b0.cells), (w.heap.size, [.int .i64 s, .int .i64 p, .int .i64 l])] [b0] W1) (by kernel_rfl) S1.drew (fun hS => ?_)
  clear S1 T1
  refine takeB (i := 0) (v := .agg #[.int .i64 s, .int .i64 p, .int .i64 l]) (d := some 18) rfl rfl (by kernel_rfl) (by kernel_rfl) (by kernel_rfl) (fun _ _ _ h => h) (Or.inl ⟨by rfl, fun w' hw => ?_⟩) (by assumption) ?_
  · obtain ⟨c0, c1, c2⟩ := three (hw.r (w.heap.size, [.int .i64 s, .int .i64 p, .int .i64 l]) (by simp)).1; clear hw; go_simp
  simp only [Act.put, List.setIfInBounds_toArray, List.set_cons_zero, List.set_cons_succ]
  refine takeB (i := 2) (v := .agg #[.int .i64 b0.s, .slice b0.p.a b0.p.n b0.p.c, .slice b0.h0.a b0.h0.n b0.h0.c, .slice b0.h1.a b0.h1.n b0.h1.c, .slice b0.h2.a b0.h2.n b0.h2.c, .slice b0.h3.a b0.h3.n b0.h3.c, .slice b0.o.a b0.o.n b0.o.c, .slice b0.i.a b0.i.n b0.i.c, .slice b0.e.a b0.e.n b0.e.c]) (d := some 20) rfl rfl (by kernel_rfl) (by kernel_rfl) (by kernel_rfl) (fun _ _ _ h => h) (Or.inl ⟨by rfl, fun w' hw => ?_⟩) (by assumption) ?_
  · obtain ⟨u0, u1, u2, u3, u4, u5, u6, u7, u8⟩ := nine (hw.r (w.heap.size + 1, b0.cells) (by simp)).1; clear hw; go_simp
  simp only [Act.put, List.setIfInBounds_toArray, List.set_cons_zero, List.set_cons_succ]
  generalize World.drew _ = V at hS ⊢
  refine wpAnyH_ready (rs := [1]) (by kernel_rfl) (by simp) ?_
  refine AllReadyH.cons rfl (fun K hK => ?_) AllReadyH.nil
  go_simp
  refine (Plat.to_any s p l V).mono ?_
  rintro e Y1 ⟨rfl, hy⟩
  go_wp2_with (fail)
  refine hK.out _ _ (hS.later hy) (fun hS => ?_)
  clear hK K
  clear hy
  refine wpAnyH_ready (rs := [3]) (by kernel_rfl) (by simp) ?_
  refine AllReadyH.cons rfl (fun K hK => ?_) AllReadyH.nil
  go_simp
  refine (to_any b0 Y1 (hS.a b0 (by simp)) m0).mono ?_
  rintro e Y2 ⟨c0, rfl, k0, o0, hy⟩
  have z0 := total_m k0
  go_wp2_with (fail)
  refine hK.out _ _ (hS.later hy) (fun hS => ?_)
  clear hK K
  clear hy
  refine wpAnyH_ready (rs := [4]) (by kernel_rfl) (by simp) ?_
  refine AllReadyH.cons rfl (fun K hK => ?_) AllReadyH.nil
  go_simp
  refine (scl_any s p l c0 Y2 o0.at (by omega) ((wf_m k0).2 HWf.out)).mono ?_
  rintro e W3 ⟨hq, hy⟩
  obtain ⟨x, rfl, xm, xo⟩ := lay_sx hq
  have zy := hy.size
  have zy2 := hS.be.size
  go_wp2_with (fail)
  refine hK.out _ _ (hS.later hy) (fun hS => ?_)
  clear hK K
  refine takeB (i := 5) (v := .slice x.a x.n x.c) (d := some 6) rfl rfl (by kernel_rfl) (by kernel_rfl) (by kernel_rfl) (fun _ _ _ h => h) (Or.inl ⟨by rfl, fun w' hw => ?_⟩) (by assumption) ?_
  · clear hw; go_simp
  simp only [Act.put, List.setIfInBounds_toArray, List.set_cons_zero, List.set_cons_succ]
  refine wpAnyH_done (by kernel_rfl) ?_ _
  have HL : Hid (LayM s p l b0 x.m) := laym_m k0 xm
  have xn : x.n ≤ 300 := laym_len HL.out
  have T3 := hS.st
  have zw : w.heap.size + 1 < Y2.heap.size := Nat.lt_of_lt_of_le zW1 zy2
  clear hS hy hq xm o0 z0 k0 zy2
  obtain ⟨u0, u1, u2, u3, u4, u5, u6, u7, u8⟩ := nine (T3.r (w.heap.size + 1, b0.cells) (by simp)).1
  obtain ⟨c0, c1, c2⟩ := three (T3.r (w.heap.size, [.int .i64 s, .int .i64 p, .int .i64 l]) (by simp)).1
  have lt9 := (T3.r (w.heap.size, [.int .i64 s, .int .i64 p, .int .i64 l]) (by simp)).2
  have lt8 := (T3.r (w.heap.size + 1, b0.cells) (by simp)).2
  go_wp2_with (fail)
  clear u0 u1 u2 u3 u4 u5 u6 u7 u8
  clear c0 c1 c2 lt9 lt8
  refine (to_any b0 _ (T3.a b0 (by simp)) m0).mono ?_
  rintro e W4 ⟨d0, rfl, k0, o0, hb⟩
  have T4 : St w [(W4.heap.size, d0.cells), (w.heap.size + 1, b0.cells), (w.heap.size, [.int .i64 s, .int .i64 p, .int .i64 l])] [b0] _ := (T3.later hb).row #[.int .i64 d0.s, .slice d0.p.a d0.p.n d0.p.c, .slice d0.h0.a d0.h0.n d0.h0.c, .slice d0.h1.a d0.h1.n d0.h1.c, .slice d0.h2.a d0.h2.n d0.h2.c, .slice d0.h3.a d0.h3.n d0.h3.c, .slice d0.o.a d0.o.n d0.o.c, .slice d0.i.a d0.i.n d0.i.c, .slice d0.e.a d0.e.n d0.e.c] 26
  have z0 := total_m k0
  have cp := o0.cap
  replace xo := (xo.later hb).later (below1 W4 (.cells #[.int .i64 d0.s, .slice d0.p.a d0.p.n d0.p.c, .slice d0.h0.a d0.h0.n d0.h0.c, .slice d0.h1.a d0.h1.n d0.h1.c, .slice d0.h2.a d0.h2.n d0.h2.c, .slice d0.h3.a d0.h3.n d0.h3.c, .slice d0.o.a d0.o.n d0.o.c, .slice d0.i.a d0.i.n d0.i.c, .slice d0.e.a d0.e.n d0.e.c] 26))
  have y4 := hb.size
  replace o0 := o0.later (below1 W4 (.cells #[.int .i64 d0.s, .slice d0.p.a d0.p.n d0.p.c, .slice d0.h0.a d0.h0.n d0.h0.c, .slice d0.h1.a d0.h1.n d0.h1.c, .slice d0.h2.a d0.h2.n d0.h2.c, .slice d0.h3.a d0.h3.n d0.h3.c, .slice d0.o.a d0.o.n d0.o.c, .slice d0.i.a d0.i.n d0.i.c, .slice d0.e.a d0.e.n d0.e.c] 26))
  have y5 : W4.heap.size < (W4.alloc (.cells #[.int .i64 d0.s, .slice d0.p.a d0.p.n d0.p.c, .slice d0.h0.a d0.h0.n d0.h0.c, .slice d0.h1.a d0.h1.n d0.h1.c, .slice d0.h2.a d0.h2.n d0.h2.c, .slice d0.h3.a d0.h3.n d0.h3.c, .slice d0.o.a d0.o.n d0.o.c, .slice d0.i.a d0.i.n d0.i.c, .slice d0.e.a d0.e.n d0.e.c] 26)).heap.size := by simp
  clear hb T3
  simp only [Bx.cells]
  obtain ⟨c0, c1, c2⟩ := three (T4.r (w.heap.size, [.int .i64 s, .int .i64 p, .int .i64 l]) (by simp)).1
  have lt9 := (T4.r (w.heap.size, [.int .i64 s, .int .i64 p, .int .i64 l]) (by simp)).2
  have lt8 := (T4.r (w.heap.size + 1, b0.cells) (by simp)).2
  go_wp2_with (fail)
  clear c0 c1 c2 lt9 lt8
  generalize W4.alloc (.cells #[.int .i64 d0.s, .slice d0.p.a d0.p.n d0.p.c, .slice d0.h0.a d0.h0.n d0.h0.c, .slice d0.h1.a d0.h1.n d0.h1.c, .slice d0.h2.a d0.h2.n d0.h2.c, .slice d0.h3.a d0.h3.n d0.h3.c, .slice d0.o.a d0.o.n d0.o.c, .slice d0.i.a d0.i.n d0.i.c, .slice d0.e.a d0.e.n d0.e.c] 26) = V4 at T4 xo o0 y5 ⊢
  have S4 : StB w [(W4.heap.size, d0.cells), (w.heap.size + 1, b0.cells), (w.heap.size, [.int .i64 s, .int .i64 p, .int .i64 l])] [d0, b0] V4 V4 := ⟨T4.book o0.at, Below.refl _ _⟩
  refine wp_region_held_drew (S := StB w [(W4.heap.size, d0.cells), (w.heap.size + 1, b0.cells), (w.heap.size, [.int .i64 s, .int .i64 p, .int .i64 l])] [d0, b0] V4) (by kernel_rfl) S4.drew (fun hS => ?_)
  clear S4 T4
  refine takeB (i := 0) (v := .agg #[.int .i64 s, .int .i64 p, .int .i64 l]) (d := some 25) rfl rfl (by kernel_rfl) (by kernel_rfl) (by kernel_rfl) (fun _ _ _ h => h) (Or.inl ⟨by rfl, fun w' hw => ?_⟩) (by assumption) ?_
  · obtain ⟨c0, c1, c2⟩ := three (hw.r (w.heap.size, [.int .i64 s, .int .i64 p, .int .i64 l]) (by simp)).1; clear hw; go_simp
  simp only [Act.put, List.setIfInBounds_toArray, List.set_cons_zero, List.set_cons_succ]
  refine takeB (i := 2) (v := .agg #[.int .i64 d0.s, .slice d0.p.a d0.p.n d0.p.c, .slice d0.h0.a d0.h0.n d0.h0.c, .slice d0.h1.a d0.h1.n d0.h1.c, .slice d0.h2.a d0.h2.n d0.h2.c, .slice d0.h3.a d0.h3.n d0.h3.c, .slice d0.o.a d0.o.n d0.o.c, .slice d0.i.a d0.i.n d0.i.c, .slice d0.e.a d0.e.n d0.e.c]) (d := some 27) rfl rfl (by kernel_rfl) (by kernel_rfl) (by kernel_rfl) (fun _ _ _ h => h) (Or.inl ⟨by rfl, fun w' hw => ?_⟩) (by assumption) ?_
  · obtain ⟨u0, u1, u2, u3, u4, u5, u6, u7, u8⟩ := nine (hw.r (W4.heap.size, d0.cells) (by simp)).1; clear hw; go_simp
  simp only [Act.put, List.setIfInBounds_toArray, List.set_cons_zero, List.set_cons_succ]
  generalize World.drew _ = V at hS ⊢
  refine wpAnyH_ready (rs := [1]) (by kernel_rfl) (by simp) ?_
  refine AllReadyH.cons rfl (fun K hK => ?_) AllReadyH.nil
  go_simp
  refine (Plat.to_any s p l V).mono ?_
  rintro e Y1 ⟨rfl, hy⟩
  go_wp2_with (fail)
  refine hK.out _ _ (hS.later hy) (fun hS => ?_)
  clear hK K
  clear hy
  have zy3 := hS.be.size
  refine wpAnyH_ready (rs := [3]) (by kernel_rfl) (by simp) ?_
  refine AllReadyH.cons rfl (fun K hK => ?_) AllReadyH.nil
  go_simp
  refine (lay_any s p l d0 Y1 (hS.a d0 (by simp)) (by omega) cp).mono ?_
  rintro e W5 ⟨hq, hy⟩
  obtain ⟨y, rfl, ym, yo⟩ := lay_sx hq
  have zyy := hy.size
  go_wp2_with (fail)
  refine hK.out _ _ (hS.later hy) (fun hS => ?_)
  clear hK K
  refine takeB (i := 4) (v := .slice y.a y.n y.c) (d := some 8) rfl rfl (by kernel_rfl) (by kernel_rfl) (by kernel_rfl) (fun _ _ _ h => h) (Or.inl ⟨by rfl, fun w' hw => ?_⟩) (by assumption) ?_
  · clear hw; go_simp
  simp only [Act.put, List.setIfInBounds_toArray, List.set_cons_zero, List.set_cons_succ]
  refine wpAnyH_done (by kernel_rfl) ?_ _
  have em : y.m = x.m := laym_one (laym_m k0 ym) HL.out
  have yn : y.n ≤ 300 := by have e : y.n = x.n := congrArg (·.1) em; omega
  replace xo := xo.later hS.be
  replace o0 := o0.later hS.be
  have T5 := hS.st
  have y6 := hS.be.size
  clear hS hy hq ym
  go_wp2_with (fail)
  refine (eq1_any y x W5 yo.at xo.at em (by omega)).mono ?_
  rintro e w5 ⟨rfl, q, rfl⟩
  have hq : Below W5.heap.size W5 (W5.drewN q) := ⟨rfl, rfl, rfl, Nat.le_refl _, fun _ _ => rfl⟩
  have S5 : StB w [(W4.heap.size, d0.cells), (w.heap.size + 1, b0.cells), (w.heap.size, [.int .i64 s, .int .i64 p, .int .i64 l])] [d0, b0] W5 (W5.drewN q) := ⟨T5.later hq, hq⟩
  clear hq T5
  generalize W5.drewN q = V5 at S5 ⊢
  go_wp2_with (fail)
  refine wp_region_held_drew (S := StB w [(W4.heap.size, d0.cells), (w.heap.size + 1, b0.cells), (w.heap.size, [.int .i64 s, .int .i64 p, .int .i64 l])] [d0, b0] W5) (by kernel_rfl) S5.drew (fun hS => ?_)
  refine takeB (i := 0) (v := .agg #[.int .i64 d0.s, .slice d0.p.a d0.p.n d0.p.c, .slice d0.h0.a d0.h0.n d0.h0.c, .slice d0.h1.a d0.h1.n d0.h1.c, .slice d0.h2.a d0.h2.n d0.h2.c, .slice d0.h3.a d0.h3.n d0.h3.c, .slice d0.o.a d0.o.n d0.o.c, .slice d0.i.a d0.i.n d0.i.c, .slice d0.e.a d0.e.n d0.e.c]) (d := some 33) rfl rfl (by kernel_rfl) (by kernel_rfl) (by kernel_rfl) (fun _ _ _ h => h) (Or.inl ⟨by rfl, fun w' hw => ?_⟩) (by assumption) ?_
  · obtain ⟨u0, u1, u2, u3, u4, u5, u6, u7, u8⟩ := nine (hw.r (W4.heap.size, d0.cells) (by simp)).1; clear hw; go_simp
  simp only [Act.put, List.setIfInBounds_toArray, List.set_cons_zero, List.set_cons_succ]
  refine takeB (i := 1) (v := .agg #[.int .i64 b0.s, .slice b0.p.a b0.p.n b0.p.c, .slice b0.h0.a b0.h0.n b0.h0.c, .slice b0.h1.a b0.h1.n b0.h1.c, .slice b0.h2.a b0.h2.n b0.h2.c, .slice b0.h3.a b0.h3.n b0.h3.c, .slice b0.o.a b0.o.n b0.o.c, .slice b0.i.a b0.i.n b0.i.c, .slice b0.e.a b0.e.n b0.e.c]) (d := some 34) rfl rfl (by kernel_rfl) (by kernel_rfl) (by kernel_rfl) (fun _ _ _ h => h) (Or.inl ⟨by rfl, fun w' hw => ?_⟩) (by assumption) ?_
  · obtain ⟨u0, u1, u2, u3, u4, u5, u6, u7, u8⟩ := nine (hw.r (w.heap.size + 1, b0.cells) (by simp)).1; clear hw; go_simp
  simp only [Act.put, List.setIfInBounds_toArray, List.set_cons_zero, List.set_cons_succ]
  generalize World.drew _ = V at hS ⊢
  refine wpAnyH_ready (rs := [2]) (by kernel_rfl) (by simp) ?_
  refine AllReadyH.cons rfl (fun K hK => ?_) AllReadyH.nil
  go_simp
  refine (to_any b0 V (hS.a b0 (by simp)) m0).mono ?_
  rintro e Y4 ⟨ff, rfl, qf, pf, hy⟩
  go_wp2_with (fail)
  refine hK.out _ _ (hS.later hy) (fun hS => ?_)
  clear hK K
  refine wpAnyH_ready (rs := [3]) (by kernel_rfl) (by simp) ?_
  refine AllReadyH.cons rfl (fun K hK => ?_) AllReadyH.nil
  go_simp
  refine (eq_any d0 ff Y4 (hS.a d0 (by simp)) pf.at (k0.trans qf.symm) (by omega)).mono ?_
  rintro e Y2' ⟨rfl, hy⟩
  go_wp2_with (fail)
  refine hK.out _ _ (hS.later hy) (fun hS => ?_)
  clear hK K
  refine takeB (i := 4) (v := .bool false) (d := some 37) rfl rfl (by kernel_rfl) (by kernel_rfl) (by kernel_rfl) (fun _ _ _ h => h) (Or.inl ⟨by rfl, fun w' hw => ?_⟩) (by assumption) ?_
  · clear hw; go_simp
  simp only [Act.put, List.setIfInBounds_toArray, List.set_cons_zero, List.set_cons_succ]
  refine wpAnyH_done (by kernel_rfl) ?_ _
  clear pf hy
  replace xo := xo.later hS.be
  replace yo := yo.later hS.be
  replace o0 := o0.later hS.be
  have y7 := hS.be.size
  have T6 : St w [(W4.heap.size, d0.cells), (w.heap.size + 1, b0.cells), (w.heap.size, [.int .i64 s, .int .i64 p, .int .i64 l])] [b0] Y2' := hS.st.take (by simp) (by simp)
  clear hS S5
  obtain ⟨u0, u1, u2, u3, u4, u5, u6, u7, u8⟩ := nine (T6.r (W4.heap.size, d0.cells) (by simp)).1
  go_wp2_with (fail)
  clear u0 u1 u2 u3 u4 u5 u6 u7 u8
  refine (mark_any d0 1 W3.heap.size W4.heap.size Y2' (by omega) o0 (by omega) (by omega) (by omega)).mono ?_
  rintro e Z1 ⟨rfl, om, on⟩
  replace xo := xo.only on (.inl (Nat.le_refl _))
  replace yo := yo.only on (.inr (by omega))
  have y8 := on.size
  have B7 : Below w.heap.size w Z1 := T6.b.trans (on.below (by omega) |>.mono (by omega))
  have T7 := T6.only on (by
    simp only [List.forall_mem_cons, List.not_mem_nil, false_implies, implies_true, and_true]
    exact ⟨.inr (Nat.le_refl _), .inl (by omega), .inl (by omega)⟩) (by omega) (by
    simp only [List.forall_mem_cons, List.not_mem_nil, false_implies, implies_true, and_true]
    exact HB.out.later B7)
  clear T6 o0 om on B7
  have nk : ¬ ((1 : Int) + d0.total < 0) := by omega
  go_wp2_with (fail)
  refine (eq1_any y x Z1 yo.at xo.at em (by omega)).mono ?_
  rintro e w5 ⟨rfl, q2, rfl⟩
  have hq : Below Z1.heap.size Z1 (Z1.drewN q2) := ⟨rfl, rfl, rfl, Nat.le_refl _, fun _ _ => rfl⟩
  replace T7 := T7.later hq
  replace xo := xo.later hq
  replace yo := yo.later hq
  have y9 := hq.size
  clear hq nk
  generalize Z1.drewN q2 = Z2 at T7 xo yo y9 ⊢
  go_wp2_with (fail)
  refine (mark1_any y 1 Y1.heap.size W5.heap.size Z2 yo (by omega) (by omega) (by omega)).mono ?_
  rintro e Z3 ⟨rfl, yk, sp⟩
  have on := sp.only (B := Y1.heap.size) (C := W5.heap.size) (v := Z2) (by simp only [List.forall_mem_cons, List.not_mem_nil, false_implies, implies_true, and_true]; exact yo)
  replace xo := xo.only on (.inl (by omega))
  have y10 := on.size
  have B8 : Below w.heap.size w Z3 := T7.b.trans (on.below (by omega) |>.mono (by omega))
  have T8 := T7.only on (by
    simp only [List.forall_mem_cons, List.not_mem_nil, false_implies, implies_true, and_true]
    exact ⟨.inl (by omega), .inl (by omega), .inl (by omega)⟩) (by omega) (by
    simp only [List.forall_mem_cons, List.not_mem_nil, false_implies, implies_true, and_true]
    exact HB.out.later B8)
  clear T7 yo on sp B8
  go_wp2_with (fail)
  refine (held1_any y 1 Z3 yk.at (by omega) (by omega) (by omega)).mono ?_
  rintro e Z3' ⟨rfl, rfl⟩
  have nk : ¬ ((1 : Int) + y.n < 0) := by omega
  obtain ⟨u0, u1, u2, u3, u4, u5, u6, u7, u8⟩ := nine (T8.r (w.heap.size + 1, b0.cells) (by simp)).1
  obtain ⟨c0, c1, c2⟩ := three (T8.r (w.heap.size, [.int .i64 s, .int .i64 p, .int .i64 l]) (by simp)).1
  have lt9 := (T8.r (w.heap.size, [.int .i64 s, .int .i64 p, .int .i64 l]) (by simp)).2
  have lt8 := (T8.r (w.heap.size + 1, b0.cells) (by simp)).2
  go_wp2_with (fail)
  clear u0 u1 u2 u3 u4 u5 u6 u7 u8
  clear c0 c1 c2 lt9 lt8
  have S8 : StB w [(W4.heap.size, d0.cells), (w.heap.size + 1, b0.cells), (w.heap.size, [.int .i64 s, .int .i64 p, .int .i64 l])] [b0] Z3' Z3' := ⟨T8, Below.refl _ _⟩
  refine wp_region_held_drew (S := StB w [(W4.heap.size, d0.cells), (w.heap.size + 1, b0.cells), (w.heap.size, [.int .i64 s, .int .i64 p, .int .i64 l])] [b0] Z3') (by kernel_rfl) S8.drew (fun hS => ?_)
  clear S8 T8
  refine takeB (i := 0) (v := .agg #[.int .i64 s, .int .i64 p, .int .i64 l]) (d := some 60) rfl rfl (by kernel_rfl) (by kernel_rfl) (by kernel_rfl) (fun _ _ _ h => h) (Or.inl ⟨by rfl, fun w' hw => ?_⟩) (by assumption) ?_
  · obtain ⟨c0, c1, c2⟩ := three (hw.r (w.heap.size, [.int .i64 s, .int .i64 p, .int .i64 l]) (by simp)).1; clear hw; go_simp
  simp only [Act.put, List.setIfInBounds_toArray, List.set_cons_zero, List.set_cons_succ]
  refine takeB (i := 2) (v := .agg #[.int .i64 b0.s, .slice b0.p.a b0.p.n b0.p.c, .slice b0.h0.a b0.h0.n b0.h0.c, .slice b0.h1.a b0.h1.n b0.h1.c, .slice b0.h2.a b0.h2.n b0.h2.c, .slice b0.h3.a b0.h3.n b0.h3.c, .slice b0.o.a b0.o.n b0.o.c, .slice b0.i.a b0.i.n b0.i.c, .slice b0.e.a b0.e.n b0.e.c]) (d := some 62) rfl rfl (by kernel_rfl) (by kernel_rfl) (by kernel_rfl) (fun _ _ _ h => h) (Or.inl ⟨by rfl, fun w' hw => ?_⟩) (by assumption) ?_
  · obtain ⟨u0, u1, u2, u3, u4, u5, u6, u7, u8⟩ := nine (hw.r (w.heap.size + 1, b0.cells) (by simp)).1; clear hw; go_simp
  simp only [Act.put, List.setIfInBounds_toArray, List.set_cons_zero, List.set_cons_succ]
  generalize World.drew _ = V8 at hS ⊢
  refine wpAnyH_ready (rs := [1]) (by kernel_rfl) (by simp) ?_
  refine AllReadyH.cons rfl (fun K hK => ?_) AllReadyH.nil
  go_simp
  refine (Plat.to_any s p l V8).mono ?_
  rintro e Y6 ⟨rfl, hy⟩
  go_wp2_with (fail)
  refine hK.out _ _ (hS.later hy) (fun hS => ?_)
  clear hK K
  clear hy
  refine wpAnyH_ready (rs := [3]) (by kernel_rfl) (by simp) ?_
  refine AllReadyH.cons rfl (fun K hK => ?_) AllReadyH.nil
  go_simp
  refine (to_any b0 Y6 (hS.a b0 (by simp)) m0).mono ?_
  rintro e Y7 ⟨e0, rfl, k2, o2, hy⟩
  have z2 := total_m k2
  have cp2 := o2.cap
  go_wp2_with (fail)
  refine hK.out _ _ (hS.later hy) (fun hS => ?_)
  clear hK K
  clear hy
  refine wpAnyH_ready (rs := [4]) (by kernel_rfl) (by simp) ?_
  refine AllReadyH.cons rfl (fun K hK => ?_) AllReadyH.nil
  go_simp
  refine (lay_any s p l e0 Y7 o2.at (by omega) cp2).mono ?_
  rintro e Y8 ⟨hq, hy⟩
  obtain ⟨z, rfl, zm, zo⟩ := lay_sx hq
  go_wp2_with (fail)
  refine hK.out _ _ (hS.later hy) (fun hS => ?_)
  clear hK K
  refine takeB (i := 5) (v := .slice z.a z.n z.c) (d := some 12) rfl rfl (by kernel_rfl) (by kernel_rfl) (by kernel_rfl) (fun _ _ _ h => h) (Or.inl ⟨by rfl, fun w' hw => ?_⟩) (by assumption) ?_
  · clear hw; go_simp
  simp only [Act.put, List.setIfInBounds_toArray, List.set_cons_zero, List.set_cons_succ]
  refine wpAnyH_done (by kernel_rfl) ?_ _
  have em2 : z.m = x.m := laym_one (laym_m k2 zm) HL.out
  have zn : z.n ≤ 300 := by have e : z.n = x.n := congrArg (·.1) em2; omega
  replace xo := xo.later hS.be
  replace yk := yk.later hS.be
  have T10 := hS.st
  clear hS hy hq
  go_wp2_with (fail)
  refine (eq1_any z x Y8 zo.at xo.at em2 (by omega)).mono ?_
  rintro e w6 ⟨rfl, q3, rfl⟩
  have hq : Below Y8.heap.size Y8 (Y8.drewN q3) := ⟨rfl, rfl, rfl, Nat.le_refl _, fun _ _ => rfl⟩
  replace T10 := T10.later hq
  replace yk := yk.later hq
  clear hq
  generalize Y8.drewN q3 = Z6 at T10 yk ⊢
  go_wp2_with (fail)
  refine (held1_any y 1 Z6 yk.at (by omega) (by omega) (by omega)).mono ?_
  rintro e Z7 ⟨rfl, rfl⟩
  go_wp2_with (fail)
  go_ret
  exact ⟨rfl, T10.b⟩

end Go.Proofs.Ytipbijcmpbefpaa.Book

import Derived.Test.YtipbijcmpbefpaaGreatLay9
import Derived.Test.YtipbijcmpbefpaaGreatM2
import Derived.Test.YtipbijcmpbefpaaGreatM7
import Derived.Test.YtipbijcmpbefpaaGreatM3

/- CensLay of the specification. -/
namespace Go.Proofs.YtipbijcmpbefpaaGreat.Book
open Go.ChangeShapes Go.WideShapes Go.ChangeAt Go.RowKit
open Go.Proofs.YtipbijcmpbefpaaGreat.Aid Go.Proofs.YtipbijcmpbefpaaGreat.Lst
open Go.Proofs.YtipbijcmpbefpaaGreat.Plat (okB okB_of fnd)
set_option maxRecDepth 100000
set_option linter.unusedVariables false

set_option maxHeartbeats 8000000 in
theorem sfit_any (s p l : Int) (b : Bx) (w : World) (h : b.At w) (hn : b.total ≤ 1000000000) (hw : b.Wf) :
    Calls Tryz.prog 52 #[.agg #[.int .i64 s, .int .i64 p, .int .i64 l], .agg b.cells.toArray] w fun e w' => Says e (FitP s p l b) ∧ Below w.heap.size w w' := by
  have S0 : HB w s p l b ((w.alloc (.cells #[.int .i64 s, .int .i64 p, .int .i64 l] 24)).alloc (.cells #[.int .i64 b.s, .slice b.p.a b.p.n b.p.c, .slice b.h0.a b.h0.n b.h0.c, .slice b.h1.a b.h1.n b.h1.c, .slice b.h2.a b.h2.n b.h2.c, .slice b.h3.a b.h3.n b.h3.c, .slice b.o.a b.o.n b.o.c, .slice b.i.a b.i.n b.i.c, .slice b.e.a b.e.n b.e.c] 28)) := ⟨range_lit (ints [s, p, l]).toArray (heap2_0 w _ _), ⟨range_lit #[.int .i64 b.s, .slice b.p.a b.p.n b.p.c, .slice b.h0.a b.h0.n b.h0.c, .slice b.h1.a b.h1.n b.h1.c, .slice b.h2.a b.h2.n b.h2.c, .slice b.h3.a b.h3.n b.h3.c, .slice b.o.a b.o.n b.o.c, .slice b.i.a b.i.n b.i.c, .slice b.e.a b.e.n b.e.c] (heap2_1 w _ _), h.later (below2 _ _ _)⟩, below2 _ _ _, by simp⟩
  have HW : Hid b.Wf := hw
  clear hw
  simp only [Bx.cells]
  go_enter Tryz.func52, Tryz.ntmps52
  go_wp2_with (fail)
  generalize (w.alloc (.cells #[.int .i64 s, .int .i64 p, .int .i64 l] 24)).alloc (.cells #[.int .i64 b.s, .slice b.p.a b.p.n b.p.c, .slice b.h0.a b.h0.n b.h0.c, .slice b.h1.a b.h1.n b.h1.c, .slice b.h2.a b.h2.n b.h2.c, .slice b.h3.a b.h3.n b.h3.c, .slice b.o.a b.o.n b.o.c, .slice b.i.a b.i.n b.i.c, .slice b.e.a b.e.n b.e.c] 28) = W at S0 ⊢
  refine (Plat.sok_any s p l W).mono ?_
  rintro e w1 ⟨rfl, hb⟩
  have hS := S0.later hb
  clear hb S0
  by_cases hok : okB s p l = true
  case neg =>
    have hok' : okB s p l = false := by simpa using hok
    have NF : Hid (¬ FitP s p l b) := fun g => hok g.1
    rw [hok']
    clear hok hok'
    go_wp2_with (fail)
    go_ret
    exact ⟨Says.no NF.out, hS.b⟩
  rw [hok]
  have OKB : Hid (okB s p l = true) := hok
  clear hok
  have HS : Hid (HB w s p l b w1) := hS
  obtain ⟨u0, u1, u2, u3, u4, u5, u6, u7, u8⟩ := nine hS.e.r
  have z1 := hS.z
  clear hS
  go_wp2_with (fail)
  clear u0 u1 u2 u3 u4 u5 u6 u7 u8
  refine (sok_any b w1 HS.out.e.a hn HW.out).mono ?_
  rintro e w2 ⟨⟨r, rfl, hr⟩, hb⟩
  have hS := HS.out.later hb
  clear hb HS z1
  cases r
  · have NF : Hid (¬ FitP s p l b) := fun g => hr.f g.2.1
    clear hr
    go_wp2_with (fail)
    go_ret
    exact ⟨Says.no NF.out, hS.b⟩
  have OKP : Hid (OkP b) := hr.t
  clear hr
  obtain ⟨u0, u1, u2, u3, u4, u5, u6, u7, u8⟩ := nine hS.e.r
  have c0 : w2.cell? ⟨w.heap.size, 0, none⟩ = some (.int .i64 s) := hS.c 0 _ rfl
  have c1 : w2.cell? ⟨w.heap.size, 1, none⟩ = some (.int .i64 p) := hS.c 1 _ rfl
  have c2 : w2.cell? ⟨w.heap.size, 2, none⟩ = some (.int .i64 l) := hS.c 2 _ rfl
  have HS : Hid (HB w s p l b w2) := hS
  have z2 := hS.z
  clear hS
  by_cases e1 : b.s = s
  case neg =>
    have e1b : (b.s == s) = false := by simpa using e1
    have NF : Hid (¬ FitP s p l b) := fun g => e1 g.2.2.1
    clear e1
    go_wp2_with (fail)
    go_ret
    exact ⟨Says.no NF.out, HS.out.b⟩
  have e1b : (b.s == s) = true := by simp [e1]
  have E1 : Hid (b.s = s) := e1
  clear e1
  by_cases e2 : (b.p.n : Int) = p
  case neg =>
    have e2b : ((b.p.n : Int) == p) = false := by simpa using e2
    have NF : Hid (¬ FitP s p l b) := fun g => e2 g.2.2.2
    clear e2
    go_wp2_with (fail)
    go_ret
    exact ⟨Says.no NF.out, HS.out.b⟩
  have e2b : ((b.p.n : Int) == p) = true := by simp [e2]
  have E2 : Hid ((b.p.n : Int) = p) := e2
  clear e2
  go_wp2_with (fail)
  go_ret
  exact ⟨Says.yes ⟨OKB.out, OKP.out, E1.out, E2.out⟩, HS.out.b⟩

set_option maxHeartbeats 8000000 in
theorem scl_any (s p l : Int) (b : Bx) (w : World) (h : b.At w) (hn : b.total ≤ 1000000000) (hw : b.Wf) :
    Calls Tryz.prog 12 #[.agg #[.int .i64 s, .int .i64 p, .int .i64 l], .agg b.cells.toArray] w fun e w' => LayQ s p l b w.heap.size w' e ∧ Below w.heap.size w w' := by
  have S0 : HB w s p l b ((w.alloc (.cells #[.int .i64 s, .int .i64 p, .int .i64 l] 24)).alloc (.cells #[.int .i64 b.s, .slice b.p.a b.p.n b.p.c, .slice b.h0.a b.h0.n b.h0.c, .slice b.h1.a b.h1.n b.h1.c, .slice b.h2.a b.h2.n b.h2.c, .slice b.h3.a b.h3.n b.h3.c, .slice b.o.a b.o.n b.o.c, .slice b.i.a b.i.n b.i.c, .slice b.e.a b.e.n b.e.c] 28)) := ⟨range_lit (ints [s, p, l]).toArray (heap2_0 w _ _), ⟨range_lit #[.int .i64 b.s, .slice b.p.a b.p.n b.p.c, .slice b.h0.a b.h0.n b.h0.c, .slice b.h1.a b.h1.n b.h1.c, .slice b.h2.a b.h2.n b.h2.c, .slice b.h3.a b.h3.n b.h3.c, .slice b.o.a b.o.n b.o.c, .slice b.i.a b.i.n b.i.c, .slice b.e.a b.e.n b.e.c] (heap2_1 w _ _), h.later (below2 _ _ _)⟩, below2 _ _ _, by simp⟩
  have HW : Hid b.Wf := hw
  clear hw
  simp only [Bx.cells]
  go_enter Tryz.func12, Tryz.ntmps12
  go_wp2_with (fail)
  generalize (w.alloc (.cells #[.int .i64 s, .int .i64 p, .int .i64 l] 24)).alloc (.cells #[.int .i64 b.s, .slice b.p.a b.p.n b.p.c, .slice b.h0.a b.h0.n b.h0.c, .slice b.h1.a b.h1.n b.h1.c, .slice b.h2.a b.h2.n b.h2.c, .slice b.h3.a b.h3.n b.h3.c, .slice b.o.a b.o.n b.o.c, .slice b.i.a b.i.n b.i.c, .slice b.e.a b.e.n b.e.c] 28) = W at S0 ⊢
  refine (sfit_any s p l b W S0.e.a hn HW.out).mono ?_
  rintro e w1 ⟨⟨r, rfl, hr⟩, hb⟩
  have HS : Hid (HB w s p l b w1) := S0.later hb
  clear S0 hb
  cases r
  · have NF : Hid (¬ FitP s p l b) := hr.f
    clear hr
    go_wp2_with (fail)
    go_ret
    exact ⟨.inr ⟨NF.out, rfl⟩, HS.out.b⟩
  obtain ⟨ok, okp, es, ep⟩ := hr.t
  obtain ⟨k1, k2, k3, k4, k5, k6⟩ := okB_of ok
  obtain ⟨S, rfl⟩ := Int.eq_ofNat_of_zero_le (show 0 ≤ s by omega)
  obtain ⟨P, rfl⟩ := Int.eq_ofNat_of_zero_le (show 0 ≤ p by omega)
  have FT : Hid (FitP S P l b) := hr.t
  have OK : Hid (okB S P l = true) := ok
  have OKP : Hid (OkP b) := okp
  have ES : Hid (b.s = S) := es
  have EP : Hid (b.p.n = P) := by unfold Hid; omega
  obtain ⟨u0, u1, u2, u3, u4, u5, u6, u7, u8⟩ := nine HS.out.e.r
  have c0 : w1.cell? ⟨w.heap.size, 0, none⟩ = some (.int .i64 S) := HS.out.c 0 _ rfl
  have c1 : w1.cell? ⟨w.heap.size, 1, none⟩ = some (.int .i64 P) := HS.out.c 1 _ rfl
  have c2 : w1.cell? ⟨w.heap.size, 2, none⟩ = some (.int .i64 l) := HS.out.c 2 _ rfl
  have z1 := HS.out.z
  clear ok okp es ep hr k1 k2 k3 k4 k5 k6
  go_wp2_with (fail)
  refine (slay_any S P l b w1 HS.out.e.a OK.out OKP.out ES.out EP.out).mono ?_
  clear u0 u1 u2 u3 u4 u5 u6 u7 u8 c0 c1 c2
  rintro e w2 ⟨k, rfl, q0, q1, ff, hb2⟩
  have hb := HS.out.b
  go_wp2_with (fail)
  go_ret
  exact ⟨.inl ⟨FT.out, S, P, k, rfl, rfl, rfl, by omega, q1, ff⟩, hb.trans (hb2.mono hb.size)⟩

end Go.Proofs.YtipbijcmpbefpaaGreat.Book

/- Of every house and book, the values, held against the specification; in new memory of their own. Conditions: none. -/
namespace Go.Proofs.YtipbijcmpbefpaaGreat.Book
open Go.ChangeShapes Go.WideShapes Go.ChangeAt Go.RowKit
open Go.Proofs.YtipbijcmpbefpaaGreat.Aid Go.Proofs.YtipbijcmpbefpaaGreat.Lst
open Go.Proofs.YtipbijcmpbefpaaGreat.Plat (okB okB_of)
set_option linter.unusedVariables false

theorem lk_norm (b : Bx) : ∀ k, lkK b.norm k = lkK b k
  | 0 => rfl
  | k + 1 => by
    simp only [lkK]
    rw [lk_norm b k, hd_norm]
    exact lk1_m none (b.hd k).a (b.hd k).n 0 (b.hd k).c (b.hd k).f (lkK b k) (b.hd k).n
theorem lay_norm (b : Bx) (s p : Nat) : layF b.norm s p = layF b s p := by
  funext j
  unfold layF
  simp only [hd_norm, lk_norm]
  rfl
theorem lay_m {b c : Bx} (h : b.m = c.m) (s p : Nat) : layF b s p = layF c s p := by rw [← lay_norm b, ← lay_norm c, norm_m h]
theorem fit_m {b c : Bx} (h : b.m = c.m) (s p l : Int) : FitP s p l b ↔ FitP s p l c := by
  unfold FitP
  rw [ok_m h]
  simp only [Bx.m, Bm.mk.injEq, Sx.m, Prod.mk.injEq] at h
  obtain ⟨h0, ⟨h1, _⟩, _⟩ := h
  rw [h0, h1]
/- The values as a list, wherever it lies. -/
def LayM (s p l : Int) (b : Bx) (m : Nat × (Nat → Int)) : Prop :=
  (FitP s p l b ∧ ∃ S P : Nat, s = S ∧ p = P ∧ m = (3 + S + S + 4 + P + P * 8 + P * 8, layF b S P)) ∨ (¬ FitP s p l b ∧ m = (0, fun _ => 0))
theorem laym_m {b c : Bx} (h : b.m = c.m) {s p l : Int} {m : Nat × (Nat → Int)} (g : LayM s p l b m) : LayM s p l c m := by
  rcases g with ⟨g, S, P, e1, e2, e3⟩ | ⟨g, e⟩
  · exact .inl ⟨(fit_m h s p l).1 g, S, P, e1, e2, by rw [← lay_m h]; exact e3⟩
  · exact .inr ⟨fun q => g ((fit_m h s p l).2 q), e⟩
theorem laym_one {b : Bx} {s p l : Int} {m m' : Nat × (Nat → Int)} (g : LayM s p l b m) (g' : LayM s p l b m') : m = m' := by
  rcases g with ⟨g, S, P, rfl, rfl, rfl⟩ | ⟨g, rfl⟩ <;> rcases g' with ⟨g', S', P', e1, e2, rfl⟩ | ⟨g', rfl⟩
  · obtain rfl : S = S' := by omega
    obtain rfl : P = P' := by omega
    rfl
  · exact absurd g g'
  · exact absurd g' g
  · rfl
theorem laym_len {b : Bx} {s p l : Int} {m : Nat × (Nat → Int)} (g : LayM s p l b m) : m.1 ≤ 300 := by
  rcases g with ⟨g, S, P, rfl, rfl, rfl⟩ | ⟨g, rfl⟩
  · obtain ⟨k1, k2, k3, k4, _, _⟩ := okB_of g.1
    simp only
    omega
  · simp
theorem lay_sx {s p l : Int} {b : Bx} {base : Nat} {w' : World} {e : Ending} (h : LayQ s p l b base w' e) : ∃ x : Sx, e = .returned (.slice x.a x.n x.c) ∧ LayM s p l b x.m ∧ x.Own base w'.heap.size w' := by
  rcases h with ⟨g, S, P, k, e1, e2, rfl, q0, q1, ff⟩ | ⟨g, rfl⟩
  · exact ⟨⟨some ⟨k, 0, none⟩, _, _, layF b S P⟩, rfl, .inl ⟨g, S, P, e1, e2, rfl⟩, .inr ⟨k, rfl, q0, q1, ff⟩⟩
  · exact ⟨⟨none, 0, 0, fun _ => 0⟩, rfl, .inr ⟨g, rfl⟩, .inl rfl⟩
theorem three {w : World} {b : Nat} {x y z : Value} (h : w.rangeAt b 0 [x, y, z]) : w.cell? ⟨b, 0, none⟩ = some x ∧ w.cell? ⟨b, 1, none⟩ = some y ∧ w.cell? ⟨b, 2, none⟩ = some z := by
  have h0 := h 0 _ rfl
  have h1 := h 1 _ rfl
  have h2 := h 2 _ rfl
  exact ⟨h0, h1, h2⟩
structure StB (w0 : World) (rs : List (Nat × List Value)) (bs : List Bx) (v w : World) : Prop where
  st : St w0 rs bs w
  be : Below v.heap.size v w
theorem StB.later {w0 v w w1 : World} {rs : List (Nat × List Value)} {bs : List Bx} (h : StB w0 rs bs v w) (hb : Below w.heap.size w w1) : StB w0 rs bs v w1 := ⟨h.st.later hb, h.be.trans (hb.mono h.be.size)⟩
theorem StB.drew {w0 v w : World} {rs : List (Nat × List Value)} {bs : List Bx} (h : StB w0 rs bs v w) : StB w0 rs bs v w.drew := ⟨h.st.drew, ⟨h.be.os, h.be.tape, h.be.output, h.be.size, h.be.block⟩⟩
theorem StB.r {w0 v w : World} {rs : List (Nat × List Value)} {bs : List Bx} (h : StB w0 rs bs v w) : ∀ p ∈ rs, w.rangeAt p.1 0 p.2 ∧ p.1 < w.heap.size := h.st.r
theorem StB.a {w0 v w : World} {rs : List (Nat × List Value)} {bs : List Bx} (h : StB w0 rs bs v w) : ∀ b ∈ bs, b.At w := h.st.a
theorem Sx.Own.later {x : Sx} {B C : Nat} {w w' : World} (hx : x.Own B C w) (h : Below w.heap.size w w') : x.Own B C w' := hx.only (Only.of (B := C) (C := C) h) (.inl (Nat.le_refl _))
theorem St.only {w0 w w1 : World} {rs : List (Nat × List Value)} {bs : List Bx} {B C : Nat} (h : St w0 rs bs w) (ho : Only B C w w1) (hr : ∀ p ∈ rs, p.1 < B ∨ C ≤ p.1) (hB : w0.heap.size ≤ B) (hbs : ∀ b ∈ bs, b.At w1) : St w0 rs bs w1 :=
  ⟨fun p hp => ⟨fun j x hx => by rw [ho.cell (h.r p hp).2 (hr p hp)]; exact (h.r p hp).1 j x hx, Nat.lt_of_lt_of_le (h.r p hp).2 ho.size⟩, hbs, h.b.trans ⟨ho.os, ho.tape, ho.output, ho.size, fun k hk => ho.block k (Nat.lt_of_lt_of_le hk h.b.size) (.inl (by omega))⟩⟩

end Go.Proofs.YtipbijcmpbefpaaGreat.Book

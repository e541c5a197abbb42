/- CensLay of the specification. -/
import Derived.Test.YtipbijcmpbefpaaLay9
namespace Go.Proofs.Ytipbijcmpbefpaa.Book
open Go.ChangeShapes Go.WideShapes Go.ChangeAt Go.RowKit
open Go.Proofs.Ytipbijcmpbefpaa.Aid Go.Proofs.Ytipbijcmpbefpaa.Lst
open Go.Proofs.Ytipbijcmpbefpaa.Plat (okB okB_of fnd)
set_option maxRecDepth 100000
set_option linter.unusedVariables false

set_option maxHeartbeats 8000000 in
theorem sfit_any (s p l : Int) (b : Bx) (w : World) (h : b.At w) (hn : b.total ≤ 1000000000) (hw : b.Wf) :
    Calls Try.prog 46 #[.agg #[.int .i64 s, .int .i64 p, .int .i64 l], .agg b.cells.toArray] w fun e w' => Says e (FitP s p l b) ∧ Below w.heap.size w w' := by
  have S0 : HB w s p l b ((w.alloc (.cells #[.int .i64 s, .int .i64 p, .int .i64 l] 38)).alloc (.cells #[.int .i64 b.s, .slice b.p.a b.p.n b.p.c, .slice b.h0.a b.h0.n b.h0.c, .slice b.h1.a b.h1.n b.h1.c, .slice b.h2.a b.h2.n b.h2.c, .slice b.h3.a b.h3.n b.h3.c, .slice b.o.a b.o.n b.o.c, .slice b.i.a b.i.n b.i.c, .slice b.e.a b.e.n b.e.c] 26)) := ⟨range_lit (ints [s, p, l]).toArray (heap2_0 w _ _), ⟨range_lit #[.int .i64 b.s, .slice b.p.a b.p.n b.p.c, .slice b.h0.a b.h0.n b.h0.c, .slice b.h1.a b.h1.n b.h1.c, .slice b.h2.a b.h2.n b.h2.c, .slice b.h3.a b.h3.n b.h3.c, .slice b.o.a b.o.n b.o.c, .slice b.i.a b.i.n b.i.c, .slice b.e.a b.e.n b.e.c] (heap2_1 w _ _), h.later (below2 _ _ _)⟩, below2 _ _ _, by simp⟩
  have HW : Hid b.Wf := hw
  clear hw
  simp only [Bx.cells]
  go_enter Try.func46, Try.ntmps46
  go_wp2_with (fail)
  generalize (w.alloc (.cells #[.int .i64 s, .int .i64 p, .int .i64 l] 38)).alloc (.cells #[.int .i64 b.s, .slice b.p.a b.p.n b.p.c, .slice b.h0.a b.h0.n b.h0.c, .slice b.h1.a b.h1.n b.h1.c, .slice b.h2.a b.h2.n b.h2.c, .slice b.h3.a b.h3.n b.h3.c, .slice b.o.a b.o.n b.o.c, .slice b.i.a b.i.n b.i.c, .slice b.e.a b.e.n b.e.c] 26) = W at S0 ⊢
  refine (Plat.sok_any s p l W).mono ?_
  rintro e w1 ⟨rfl, hb⟩
  have hS := S0.later hb
  clear hb S0
  by_cases hok : okB s p l = true
  case neg =>
    have hok' : okB s p l = false := by simpa using hok
    have NF : Hid (¬ FitP s p l b) := fun g => hok g.1
    rw [hok']
    clear hok hok'
    go_wp2_with (fail)
    go_ret
    exact ⟨Says.no NF.out, hS.b⟩
  rw [hok]
  have OKB : Hid (okB s p l = true) := hok
  clear hok
  have HS : Hid (HB w s p l b w1) := hS
  obtain ⟨u0, u1, u2, u3, u4, u5, u6, u7, u8⟩ := nine hS.e.r
  have z1 := hS.z
  clear hS
  go_wp2_with (fail)
  clear u0 u1 u2 u3 u4 u5 u6 u7 u8
  refine (sok_any b w1 HS.out.e.a hn HW.out).mono ?_
  rintro e w2 ⟨⟨r, rfl, hr⟩, hb⟩
  have hS := HS.out.later hb
  clear hb HS z1
  cases r
  · have NF : Hid (¬ FitP s p l b) := fun g => hr.f g.2.1
    clear hr
    go_wp2_with (fail)
    go_ret
    exact ⟨Says.no NF.out, hS.b⟩
  have OKP : Hid (OkP b) := hr.t
  clear hr
  obtain ⟨u0, u1, u2, u3, u4, u5, u6, u7, u8⟩ := nine hS.e.r
  have c0 : w2.cell? ⟨w.heap.size, 0, none⟩ = some (.int .i64 s) := hS.c 0 _ rfl
  have c1 : w2.cell? ⟨w.heap.size, 1, none⟩ = some (.int .i64 p) := hS.c 1 _ rfl
  have c2 : w2.cell? ⟨w.heap.size, 2, none⟩ = some (.int .i64 l) := hS.c 2 _ rfl
  have HS : Hid (HB w s p l b w2) := hS
  have z2 := hS.z
  clear hS
  by_cases e1 : b.s = s
  case neg =>
    have e1b : (b.s == s) = false := by simpa using e1
    have NF : Hid (¬ FitP s p l b) := fun g => e1 g.2.2.1
    clear e1
    go_wp2_with (fail)
    go_ret
    exact ⟨Says.no NF.out, HS.out.b⟩
  have e1b : (b.s == s) = true := by simp [e1]
  have E1 : Hid (b.s = s) := e1
  clear e1
  by_cases e2 : (b.p.n : Int) = p
  case neg =>
    have e2b : ((b.p.n : Int) == p) = false := by simpa using e2
    have NF : Hid (¬ FitP s p l b) := fun g => e2 g.2.2.2
    clear e2
    go_wp2_with (fail)
    go_ret
    exact ⟨Says.no NF.out, HS.out.b⟩
  have e2b : ((b.p.n : Int) == p) = true := by simp [e2]
  have E2 : Hid ((b.p.n : Int) = p) := e2
  clear e2
  go_wp2_with (fail)
  go_ret
  exact ⟨Says.yes ⟨OKB.out, OKP.out, E1.out, E2.out⟩, HS.out.b⟩

set_option maxHeartbeats 8000000 in
theorem scl_any (s p l : Int) (b : Bx) (w : World) (h : b.At w) (hn : b.total ≤ 1000000000) (hw : b.Wf) :
    Calls Try.prog 14 #[.agg #[.int .i64 s, .int .i64 p, .int .i64 l], .agg b.cells.toArray] w fun e w' => LayQ s p l b w.heap.size w' e ∧ Below w.heap.size w w' := by
  have S0 : HB w s p l b ((w.alloc (.cells #[.int .i64 s, .int .i64 p, .int .i64 l] 38)).alloc (.cells #[.int .i64 b.s, .slice b.p.a b.p.n b.p.c, .slice b.h0.a b.h0.n b.h0.c, .slice b.h1.a b.h1.n b.h1.c, .slice b.h2.a b.h2.n b.h2.c, .slice b.h3.a b.h3.n b.h3.c, .slice b.o.a b.o.n b.o.c, .slice b.i.a b.i.n b.i.c, .slice b.e.a b.e.n b.e.c] 26)) := ⟨range_lit (ints [s, p, l]).toArray (heap2_0 w _ _), ⟨range_lit #[.int .i64 b.s, .slice b.p.a b.p.n b.p.c, .slice b.h0.a b.h0.n b.h0.c, .slice b.h1.a b.h1.n b.h1.c, .slice b.h2.a b.h2.n b.h2.c, .slice b.h3.a b.h3.n b.h3.c, .slice b.o.a b.o.n b.o.c, .slice b.i.a b.i.n b.i.c, .slice b.e.a b.e.n b.e.c] (heap2_1 w _ _), h.later (below2 _ _ _)⟩, below2 _ _ _, by simp⟩
  have HW : Hid b.Wf := hw
  clear hw
  simp only [Bx.cells]
  go_enter Try.func14, Try.ntmps14
  go_wp2_with (fail)
  generalize (w.alloc (.cells #[.int .i64 s, .int .i64 p, .int .i64 l] 38)).alloc (.cells #[.int .i64 b.s, .slice b.p.a b.p.n b.p.c, .slice b.h0.a b.h0.n b.h0.c, .slice b.h1.a b.h1.n b.h1.c, .slice b.h2.a b.h2.n b.h2.c, .slice b.h3.a b.h3.n b.h3.c, .slice b.o.a b.o.n b.o.c, .slice b.i.a b.i.n b.i.c, .slice b.e.a b.e.n b.e.c] 26) = W at S0 ⊢
  refine (sfit_any s p l b W S0.e.a hn HW.out).mono ?_
  rintro e w1 ⟨⟨r, rfl, hr⟩, hb⟩
  have HS : Hid (HB w s p l b w1) := S0.later hb
  clear S0 hb
  cases r
  · have NF : Hid (¬ FitP s p l b) := hr.f
    clear hr
    go_wp2_with (fail)
    go_ret
    exact ⟨.inr ⟨NF.out, rfl⟩, HS.out.b⟩
  obtain ⟨ok, okp, es, ep⟩ := hr.t
  obtain ⟨k1, k2, k3, k4, k5, k6⟩ := okB_of ok
  obtain ⟨S, rfl⟩ := Int.eq_ofNat_of_zero_le (show 0 ≤ s by omega)
  obtain ⟨P, rfl⟩ := Int.eq_ofNat_of_zero_le (show 0 ≤ p by omega)
  have FT : Hid (FitP S P l b) := hr.t
  have OK : Hid (okB S P l = true) := ok
  have OKP : Hid (OkP b) := okp
  have ES : Hid (b.s = S) := es
  have EP : Hid (b.p.n = P) := by unfold Hid; omega
  obtain ⟨u0, u1, u2, u3, u4, u5, u6, u7, u8⟩ := nine HS.out.e.r
  have c0 : w1.cell? ⟨w.heap.size, 0, none⟩ = some (.int .i64 S) := HS.out.c 0 _ rfl
  have c1 : w1.cell? ⟨w.heap.size, 1, none⟩ = some (.int .i64 P) := HS.out.c 1 _ rfl
  have c2 : w1.cell? ⟨w.heap.size, 2, none⟩ = some (.int .i64 l) := HS.out.c 2 _ rfl
  have z1 := HS.out.z
  clear ok okp es ep hr k1 k2 k3 k4 k5 k6
  go_wp2_with (fail)
  refine (slay_any S P l b w1 HS.out.e.a OK.out OKP.out ES.out EP.out).mono ?_
  clear u0 u1 u2 u3 u4 u5 u6 u7 u8 c0 c1 c2
  rintro e w2 ⟨k, rfl, q0, q1, ff, hb2⟩
  have hb := HS.out.b
  go_wp2_with (fail)
  go_ret
  exact ⟨.inl ⟨FT.out, S, P, k, rfl, rfl, rfl, by omega, q1, ff⟩, hb.trans (hb2.mono hb.size)⟩

end Go.Proofs.Ytipbijcmpbefpaa.Book

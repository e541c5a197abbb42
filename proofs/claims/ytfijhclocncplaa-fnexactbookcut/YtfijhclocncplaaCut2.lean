/- Somebody is cut off: BookCut of both. -/
import Derived.Test.YtfijhclocncplaaCut
import Derived.Test.YtfijhclocncplaaWr
import Derived.Test.YtfijhclocncplaaRoom
namespace Go.Proofs.Ytfijhclocncplaa.Book
open Go.ChangeShapes Go.WideShapes Go.ChangeAt Go.RowKit
open Go.Proofs.Ytfijhclocncplaa.Aid Go.Proofs.Ytfijhclocncplaa.Lst
set_option maxRecDepth 100000
set_option linter.unusedVariables false

set_option maxHeartbeats 40000000 in
theorem scut_any (b : Bx) (t : Int) (w : World) (h : b.At w) (hn : b.total ≤ 1000000000) (hw : b.Wf) :
    Calls Try.prog 34 #[.agg b.cells.toArray, .int .i64 t] w fun e w' => ∃ c : Bx, e = .returned (.agg c.cells.toArray) ∧ CutQ b t c.m ∧ c.Own w.heap.size w'.heap.size w' ∧ Below w.heap.size w w' := by
  have S0 : CO w b ((w.alloc (.cells #[.int .i64 b.s, .slice b.p.a b.p.n b.p.c, .slice b.h0.a b.h0.n b.h0.c, .slice b.h1.a b.h1.n b.h1.c, .slice b.h2.a b.h2.n b.h2.c, .slice b.h3.a b.h3.n b.h3.c, .slice b.o.a b.o.n b.o.c, .slice b.i.a b.i.n b.i.c, .slice b.e.a b.e.n b.e.c] 37)).alloc (.cells #[.int .i64 0, .slice none 0 0, .slice none 0 0, .slice none 0 0, .slice none 0 0, .slice none 0 0, .slice none 0 0, .slice none 0 0, .slice none 0 0] 37)) := ⟨(Ent.start h 37).later (below1 _ _), ck_lit #[.int .i64 0, .slice none 0 0, .slice none 0 0, .slice none 0 0, .slice none 0 0, .slice none 0 0, .slice none 0 0, .slice none 0 0, .slice none 0 0] (heap2_1 w _ _), by simp⟩
  have A0 : Ck ((w.alloc (.cells #[.int .i64 b.s, .slice b.p.a b.p.n b.p.c, .slice b.h0.a b.h0.n b.h0.c, .slice b.h1.a b.h1.n b.h1.c, .slice b.h2.a b.h2.n b.h2.c, .slice b.h3.a b.h3.n b.h3.c, .slice b.o.a b.o.n b.o.c, .slice b.i.a b.i.n b.i.c, .slice b.e.a b.e.n b.e.c] 37)).alloc (.cells #[.int .i64 0, .slice none 0 0, .slice none 0 0, .slice none 0 0, .slice none 0 0, .slice none 0 0, .slice none 0 0, .slice none 0 0, .slice none 0 0] 37)) w.heap.size #[.int .i64 b.s, .slice b.p.a b.p.n b.p.c, .slice b.h0.a b.h0.n b.h0.c, .slice b.h1.a b.h1.n b.h1.c, .slice b.h2.a b.h2.n b.h2.c, .slice b.h3.a b.h3.n b.h3.c, .slice b.o.a b.o.n b.o.c, .slice b.i.a b.i.n b.i.c, .slice b.e.a b.e.n b.e.c].toList := ck_lit #[.int .i64 b.s, .slice b.p.a b.p.n b.p.c, .slice b.h0.a b.h0.n b.h0.c, .slice b.h1.a b.h1.n b.h1.c, .slice b.h2.a b.h2.n b.h2.c, .slice b.h3.a b.h3.n b.h3.c, .slice b.o.a b.o.n b.o.c, .slice b.i.a b.i.n b.i.c, .slice b.e.a b.e.n b.e.c] (heap2_0 w _ _)
  simp only [Bx.cells]
  go_enter Try.func34, Try.ntmps34
  go_wp2_with (fail)
  generalize (w.alloc (.cells #[.int .i64 b.s, .slice b.p.a b.p.n b.p.c, .slice b.h0.a b.h0.n b.h0.c, .slice b.h1.a b.h1.n b.h1.c, .slice b.h2.a b.h2.n b.h2.c, .slice b.h3.a b.h3.n b.h3.c, .slice b.o.a b.o.n b.o.c, .slice b.i.a b.i.n b.i.c, .slice b.e.a b.e.n b.e.c] 37)).alloc (.cells #[.int .i64 0, .slice none 0 0, .slice none 0 0, .slice none 0 0, .slice none 0 0, .slice none 0 0, .slice none 0 0, .slice none 0 0, .slice none 0 0] 37) = W at S0 A0 ⊢
  refine (sok_any b W S0.e.a hn hw).mono ?_
  rintro e w1 ⟨⟨r, rfl, hr⟩, hb⟩
  have hc := S0.later hb
  replace A0 := A0.below hb (by have := S0.z; omega)
  have HA0 : Hid (Ck w1 w.heap.size _) := A0
  clear hb S0 A0
  cases r
  · obtain ⟨w9, e9, ck9, ow9, be9⟩ := ans hc.t hc.z hc.e.b (none_own w1.heap.size w1.heap.size w1) hc.z (Nat.le_refl _)
    simp only [noneB] at e9
    have tk0 := hc.t 0 _ rfl
    have tk1 := hc.t 1 _ rfl
    have tk2 := hc.t 2 _ rfl
    have tk3 := hc.t 3 _ rfl
    have tk4 := hc.t 4 _ rfl
    have tk5 := hc.t 5 _ rfl
    have tk6 := hc.t 6 _ rfl
    have tk7 := hc.t 7 _ rfl
    have tk8 := hc.t 8 _ rfl
    have NO : Hid (¬ OkP b) := hr.f
    have HC : Hid (CO w b w1) := hc
    have HE : Hid (w9 = _) := e9
    clear hc hr e9
    go_wp2_with (fail)
    rw [← HE.out]
    exact bodyPost_ret (results_cell_mid rfl _ _ (w.heap.size + 1) 0 _ _ rfl ck9.range Try.underlying37 rfl (by kernel_rfl)) rfl ⟨noneB, rfl, .inr ⟨NO.out, rfl⟩, ow9, be9⟩
  have OK : Hid (OkP b) := hr.t
  have l1 := OK.out.1.1.1
  have l2 := OK.out.1.1.2.1
  have l3 := OK.out.1.1.2.2.1
  obtain ⟨u0, u1, u2, u3, u4, u5, u6, u7, u8⟩ := nine hc.e.r
  have HC : Hid (CO w b w1) := hc
  clear hr hc
  go_wp2_with (fail)
  clear u0 u1 u2 u3 u4 u5 u6 u7 u8
  refine (scopy_any b w1 HC.out.e.a hn h.nil).mono ?_
  rintro e w2 ⟨c, rfl, cm, co, hb⟩
  have es : c.s = b.s := congrArg (·.s) cm
  have ei : c.i.n = b.i.n := congrArg (fun m => m.i.1) cm
  have hc := HC.out.later hb
  have z1 := HC.out.z
  have z2 := hb.size
  obtain ⟨k, hk, hk1, hk2, hf⟩ : ∃ k, c.i.a = some ⟨k, 0, none⟩ ∧ w1.heap.size ≤ k ∧ k < w2.heap.size ∧ Fk .i64 c.i.n w2 k c.i.f := by
    rcases co.each c.i (by simp [Bx.lists]) with h0 | h0
    · omega
    · exact h0
  have ES : Hid (c.s = b.s) := es
  have EI : Hid (c.i.n = b.i.n) := ei
  have HK : Hid (c.i.a = some ⟨k, 0, none⟩) := hk
  have ca := HA0.out.below hb (by omega)
  clear HC hb es ei hk HA0
  simp only [Bx.cells]
  obtain ⟨ck3, oy3⟩ := put9 ca (.int .i64 c.s) (.slice c.p.a c.p.n c.p.c) (.slice c.h0.a c.h0.n c.h0.c) (.slice c.h1.a c.h1.n c.h1.c) (.slice c.h2.a c.h2.n c.h2.c) (.slice c.h3.a c.h3.n c.h3.c) (.slice c.o.a c.o.n c.o.c) (.slice c.i.a c.i.n c.i.c) (.slice c.e.a c.e.n c.e.c)
  have t3 := fun j v hv => (And.intro ((oy3.cell (o := j) (by omega) (.inr (by omega))).trans (hc.t j v hv).1) ((oy3.frozen (o := j) (by omega) (.inr (by omega))).trans (hc.t j v hv).2))
  have b3 := hc.e.b.trans (oy3.below (by omega))
  have co3 := co.only oy3 (.inr (by omega))
  have hf3 := oy3.fk (.inr (by omega)) hf
  have z3 := oy3.size
  have ca0 := ca 0 _ rfl
  have tk0 := hc.t 0 _ rfl
  have ca1 := ca 1 _ rfl
  have tk1 := hc.t 1 _ rfl
  have ca2 := ca 2 _ rfl
  have tk2 := hc.t 2 _ rfl
  have ca3 := ca 3 _ rfl
  have tk3 := hc.t 3 _ rfl
  have ca4 := ca 4 _ rfl
  have tk4 := hc.t 4 _ rfl
  have ca5 := ca 5 _ rfl
  have tk5 := hc.t 5 _ rfl
  have ca6 := ca 6 _ rfl
  have tk6 := hc.t 6 _ rfl
  have ca7 := ca 7 _ rfl
  have tk7 := hc.t 7 _ rfl
  have ca8 := ca 8 _ rfl
  have tk8 := hc.t 8 _ rfl
  have HC : Hid (Ck _ (w.heap.size + 1) _) := t3
  have HB : Hid (Below w.heap.size w _) := b3
  have HO : Hid (c.Own _ _ _) := co3
  have HE : Hid (Ck _ w.heap.size _) := ck3
  have HF : Hid (Fk _ _ _ _ _) := hf3
  have HG : Hid (Fk .i64 c.i.n w2 k c.i.f) := hf
  clear hc co t3 b3 co3 ck3 hf3 oy3 ca hf
  by_cases ht0 : 0 ≤ t
  case neg =>
    obtain ⟨w9, e9, ck9, ow9, be9⟩ := ans HC.out (by omega) HB.out HO.out (by omega) (by omega)
    have NO : Hid (¬ ((0 ≤ t ∧ t < b.s) ∧ c.i.f t.toNat = 1)) := fun g => ht0 g.1.1
    have HE9 : Hid (w9 = _) := e9
    clear e9 z3
    go_wp2_with (fail)
    rw [← HE9.out]
    exact bodyPost_ret (results_cell_mid rfl _ _ (w.heap.size + 1) 0 _ _ rfl ck9.range Try.underlying37 rfl (by kernel_rfl)) rfl ⟨c, by simp [Bx.cells], .inl ⟨OK.out, cut_miss cm NO.out⟩, ow9, be9⟩
  by_cases ht1 : t < c.s
  case neg =>
    obtain ⟨w9, e9, ck9, ow9, be9⟩ := ans HC.out (by omega) HB.out HO.out (by omega) (by omega)
    have NO : Hid (¬ ((0 ≤ t ∧ t < b.s) ∧ c.i.f t.toNat = 1)) := fun g => ht1 (by rw [ES.out]; exact g.1.2)
    have HE9 : Hid (w9 = _) := e9
    clear e9 z3
    go_wp2_with (fail)
    rw [← HE9.out]
    exact bodyPost_ret (results_cell_mid rfl _ _ (w.heap.size + 1) 0 _ _ rfl ck9.range Try.underlying37 rfl (by kernel_rfl)) rfl ⟨c, by simp [Bx.cells], .inl ⟨OK.out, cut_miss cm NO.out⟩, ow9, be9⟩
  obtain ⟨j, rfl⟩ := Int.eq_ofNat_of_zero_le ht0
  have hj : j < c.i.n := by have := ES.out; have := EI.out; omega
  have hjI : (j : Int) < c.i.n := by omega
  have c0 := HG.out j hj
  have kne : k ≠ w.heap.size := by omega
  have kne' : w.heap.size ≠ k := by omega
  have kne2 : k ≠ w.heap.size + 1 := by omega
  by_cases one : c.i.f j = 1
  case neg =>
    have oneb : (c.i.f j == 1) = false := by simpa using one
    obtain ⟨w9, e9, ck9, ow9, be9⟩ := ans HC.out (by omega) HB.out HO.out (by omega) (by omega)
    simp only [HK.out] at e9
    have NO : Hid (¬ ((0 ≤ (j : Int) ∧ (j : Int) < b.s) ∧ c.i.f (j : Int).toNat = 1)) := fun g => one (by simpa using g.2)
    have HE9 : Hid (w9 = _) := e9
    clear e9 z3
    rw [HK.out]
    go_wp2_with (fail)
    rw [← HE9.out]
    exact bodyPost_ret (results_cell_mid rfl _ _ (w.heap.size + 1) 0 _ _ rfl ck9.range Try.underlying37 rfl (by kernel_rfl)) rfl ⟨c, by simp [Bx.cells, HK.out], .inl ⟨OK.out, cut_miss cm NO.out⟩, ow9, be9⟩
  have ow := HO.out.write (b' := c.seti j 2) 6 c.i rfl k j HK.out hj 2 rfl
  have t5 := HC.out.far ⟨k, j, none⟩ kne2 (.int .i64 2)
  have b5 := HB.out.setCell (p := ⟨k, j, none⟩) (by simp; omega) (.int .i64 2)
  have oz := fun W => ((Only.refl k (k + 1) W).setCell k j (Nat.le_refl _) (by omega) (.int .i64 2)).size
  obtain ⟨w9, e9, ck9, ow9, be9⟩ := ans t5 (Nat.le_trans (Nat.le_trans (by omega) z3) (oz _)) b5 ow (by omega) (Nat.le_trans z3 (oz _))
  simp only [Bx.seti, Sx.put, HK.out] at e9
  have CM : Hid ((c.seti j 2).m = cutM b.m j) := cut_hit cm (by rw [← ES.out]; exact ht1) one
  have HE9 : Hid (w9 = _) := e9
  clear e9 z3 t5 b5 ow oz
  rw [one] at c0
  clear one
  rw [HK.out]
  go_wp2_with (fail)
  rw [← HE9.out]
  exact bodyPost_ret (results_cell_mid rfl _ _ (w.heap.size + 1) 0 _ _ rfl ck9.range Try.underlying37 rfl (by kernel_rfl)) rfl ⟨c.seti j 2, by simp [Bx.cells, Bx.seti, Sx.put, HK.out], .inl ⟨OK.out, CM.out⟩, ow9, be9⟩

end Go.Proofs.Ytfijhclocncplaa.Book

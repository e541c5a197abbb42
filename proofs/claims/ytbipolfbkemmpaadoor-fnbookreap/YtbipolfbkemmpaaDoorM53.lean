import Derived.Test.YtbipolfbkemmpaaDoorM36
import Derived.Test.YtbipolfbkemmpaaDoorM13
import Derived.Test.YtbipolfbkemmpaaDoorM14
import Derived.Test.YtbipolfbkemmpaaDoorM11
import Derived.Test.YtbipolfbkemmpaaDoorM43
import Derived.Test.YtbipolfbkemmpaaDoorM45
import Derived.Test.YtbipolfbkemmpaaDoorM52

/- Somebody is cut off: BookCut of both. -/
namespace Go.Proofs.YtbipolfbkemmpaaDoor.Book
open Go.ChangeShapes Go.WideShapes Go.ChangeAt Go.RowKit
open Aid Lst
set_option maxRecDepth 100000
set_option linter.unusedVariables false

/- Who is in, behind a cutting off. -/
def cutF (f : Nat → Int) (t : Int) : Nat → Int := fun j => if (j : Int) = t ∧ f j = 1 then 2 else f j
def cutM (m : Bm) (t : Int) : Bm := ⟨m.s, m.p, m.h0, m.h1, m.h2, m.h3, m.o, (m.i.1, if 0 ≤ t ∧ t < m.s then cutF m.i.2 t else m.i.2), m.e⟩
def CutQ (b : Bx) (t : Int) (m : Bm) : Prop := (OkP b ∧ m = cutM b.m t) ∨ (¬ OkP b ∧ m = noneM)
theorem cutq_one {b : Bx} {t : Int} {m m' : Bm} (h : CutQ b t m) (g : CutQ b t m') : m = m' := by
  rcases h with ⟨h, rfl⟩ | ⟨h, rfl⟩ <;> rcases g with ⟨g, rfl⟩ | ⟨g, rfl⟩
  · rfl
  · exact absurd h g
  · exact absurd g h
  · rfl
theorem cutq_m {b c : Bx} (h : b.m = c.m) (t : Int) (m : Bm) : CutQ b t m ↔ CutQ c t m := by
  unfold CutQ
  rw [ok_m h, h]
theorem cut_hit {c b : Bx} {j : Nat} (hm : c.m = b.m) (h0 : (j : Int) < b.s) (h1 : c.i.f j = 1) : (c.seti j 2).m = cutM b.m j := by
  have e : c.i.f = b.i.f := congrArg (fun m => m.i.2) hm
  rw [← hm]
  unfold cutM Bx.seti Bx.m Sx.m Sx.put
  have hs : b.s = c.s := congrArg (·.s) hm.symm
  simp only [Bm.mk.injEq, true_and, and_true, Prod.mk.injEq]
  rw [if_pos ⟨by omega, by omega⟩]
  funext i
  unfold upd cutF
  by_cases hi : i = j
  · subst hi; rw [if_pos rfl, if_pos ⟨rfl, h1⟩]
  · rw [if_neg hi, if_neg (fun q => hi (by have := q.1; omega))]
theorem cut_miss {c b : Bx} {t : Int} (hm : c.m = b.m) (h : ¬ ((0 ≤ t ∧ t < b.s) ∧ c.i.f t.toNat = 1)) : c.m = cutM b.m t := by
  have e : c.i.f = b.i.f := congrArg (fun m => m.i.2) hm
  rw [hm]
  unfold cutM
  by_cases g : 0 ≤ t ∧ t < b.m.s
  · rw [if_pos g]
    have : cutF b.m.i.2 t = b.m.i.2 := by
      funext i
      unfold cutF
      rw [if_neg]
      rintro ⟨q1, q2⟩
      refine h ⟨g, ?_⟩
      rw [e, ← q1, Int.toNat_natCast]
      exact q2
    rw [this]
  · rw [if_neg g]

set_option maxHeartbeats 40000000 in
theorem cut_any (b : Bx) (t : Int) (w : World) (h : b.At w) (hn : b.total ≤ 1000000000) (hcap : b.o.n ≤ b.o.c) :
    Calls Tryd.prog 16 #[.agg b.cells.toArray, .int .i64 t] w fun e w' => ∃ c : Bx, e = .returned (.agg c.cells.toArray) ∧ CutQ b t c.m ∧ c.Own w.heap.size w'.heap.size w' ∧ Below w.heap.size w w' := by
  have S0 : CO w b ((w.alloc (.cells #[.int .i64 b.s, .slice b.p.a b.p.n b.p.c, .slice b.h0.a b.h0.n b.h0.c, .slice b.h1.a b.h1.n b.h1.c, .slice b.h2.a b.h2.n b.h2.c, .slice b.h3.a b.h3.n b.h3.c, .slice b.o.a b.o.n b.o.c, .slice b.i.a b.i.n b.i.c, .slice b.e.a b.e.n b.e.c] 26)).alloc (.cells #[.int .i64 0, .slice none 0 0, .slice none 0 0, .slice none 0 0, .slice none 0 0, .slice none 0 0, .slice none 0 0, .slice none 0 0, .slice none 0 0] 26)) := ⟨(Ent.start h 26).later (below1 _ _), ck_lit #[.int .i64 0, .slice none 0 0, .slice none 0 0, .slice none 0 0, .slice none 0 0, .slice none 0 0, .slice none 0 0, .slice none 0 0, .slice none 0 0] (heap2_1 w _ _), by simp⟩
  simp only [Bx.cells]
  go_enter Tryd.func16, Tryd.ntmps16
  go_wp2_with (fail)
  generalize (w.alloc (.cells #[.int .i64 b.s, .slice b.p.a b.p.n b.p.c, .slice b.h0.a b.h0.n b.h0.c, .slice b.h1.a b.h1.n b.h1.c, .slice b.h2.a b.h2.n b.h2.c, .slice b.h3.a b.h3.n b.h3.c, .slice b.o.a b.o.n b.o.c, .slice b.i.a b.i.n b.i.c, .slice b.e.a b.e.n b.e.c] 26)).alloc (.cells #[.int .i64 0, .slice none 0 0, .slice none 0 0, .slice none 0 0, .slice none 0 0, .slice none 0 0, .slice none 0 0, .slice none 0 0, .slice none 0 0] 26) = W at S0 ⊢
  refine (ok_any b W S0.e.a hn hcap).mono ?_
  rintro e w1 ⟨⟨r, rfl, hr⟩, hb⟩
  have hc := S0.later hb
  clear hb S0
  cases r
  · obtain ⟨w9, e9, ck9, ow9, be9⟩ := ans hc.t hc.z hc.e.b (none_own w1.heap.size w1.heap.size w1) hc.z (Nat.le_refl _)
    simp only [noneB] at e9
    have tk0 := hc.t 0 _ rfl
    have tk1 := hc.t 1 _ rfl
    have tk2 := hc.t 2 _ rfl
    have tk3 := hc.t 3 _ rfl
    have tk4 := hc.t 4 _ rfl
    have tk5 := hc.t 5 _ rfl
    have tk6 := hc.t 6 _ rfl
    have tk7 := hc.t 7 _ rfl
    have tk8 := hc.t 8 _ rfl
    have NO : Hid (¬ OkP b) := hr.f
    have HC : Hid (CO w b w1) := hc
    have HE : Hid (w9 = _) := e9
    clear hc hr e9
    go_wp2_with (fail)
    rw [← HE.out]
    exact bodyPost_ret (results_cell_mid rfl _ _ (w.heap.size + 1) 0 _ _ rfl ck9.range Tryd.underlying26 rfl (by kernel_rfl)) rfl ⟨noneB, rfl, .inr ⟨NO.out, rfl⟩, ow9, be9⟩
  have OK : Hid (OkP b) := hr.t
  have l1 := OK.out.1.1.1
  have l2 := OK.out.1.1.2.1
  have l3 := OK.out.1.1.2.2.1
  obtain ⟨u0, u1, u2, u3, u4, u5, u6, u7, u8⟩ := nine hc.e.r
  have HC : Hid (CO w b w1) := hc
  clear hr hc
  go_wp2_with (fail)
  clear u0 u1 u2 u3 u4 u5 u6 u7 u8
  refine (copy_any b w1 HC.out.e.a hn h.nil).mono ?_
  rintro e w2 ⟨c, rfl, cm, co, hb⟩
  have es : c.s = b.s := congrArg (·.s) cm
  have ei : c.i.n = b.i.n := congrArg (fun m => m.i.1) cm
  have hc := HC.out.later hb
  have z1 := HC.out.z
  have z2 := hb.size
  obtain ⟨k, hk, hk1, hk2, hf⟩ : ∃ k, c.i.a = some ⟨k, 0, none⟩ ∧ w1.heap.size ≤ k ∧ k < w2.heap.size ∧ Fk .i64 c.i.n w2 k c.i.f := by
    rcases co.each c.i (by simp [Bx.lists]) with h0 | h0
    · omega
    · exact h0
  have ES : Hid (c.s = b.s) := es
  have EI : Hid (c.i.n = b.i.n) := ei
  have HK : Hid (c.i.a = some ⟨k, 0, none⟩) := hk
  clear HC hb es ei hk
  simp only [Bx.cells]
  have hc3 := hc.later (below1 w2 (.cells #[.int .i64 c.s, .slice c.p.a c.p.n c.p.c, .slice c.h0.a c.h0.n c.h0.c, .slice c.h1.a c.h1.n c.h1.c, .slice c.h2.a c.h2.n c.h2.c, .slice c.h3.a c.h3.n c.h3.c, .slice c.o.a c.o.n c.o.c, .slice c.i.a c.i.n c.i.c, .slice c.e.a c.e.n c.e.c] 26))
  have co3 := co.later (below1 w2 (.cells #[.int .i64 c.s, .slice c.p.a c.p.n c.p.c, .slice c.h0.a c.h0.n c.h0.c, .slice c.h1.a c.h1.n c.h1.c, .slice c.h2.a c.h2.n c.h2.c, .slice c.h3.a c.h3.n c.h3.c, .slice c.o.a c.o.n c.o.c, .slice c.i.a c.i.n c.i.c, .slice c.e.a c.e.n c.e.c] 26))
  have E3 : Ent w2 c (w2.alloc (.cells #[.int .i64 c.s, .slice c.p.a c.p.n c.p.c, .slice c.h0.a c.h0.n c.h0.c, .slice c.h1.a c.h1.n c.h1.c, .slice c.h2.a c.h2.n c.h2.c, .slice c.h3.a c.h3.n c.h3.c, .slice c.o.a c.o.n c.o.c, .slice c.i.a c.i.n c.i.c, .slice c.e.a c.e.n c.e.c] 26)) := Ent.start co.at 26
  have z3 : w2.heap.size < (w2.alloc (.cells #[.int .i64 c.s, .slice c.p.a c.p.n c.p.c, .slice c.h0.a c.h0.n c.h0.c, .slice c.h1.a c.h1.n c.h1.c, .slice c.h2.a c.h2.n c.h2.c, .slice c.h3.a c.h3.n c.h3.c, .slice c.o.a c.o.n c.o.c, .slice c.i.a c.i.n c.i.c, .slice c.e.a c.e.n c.e.c] 26)).heap.size := by simp
  have hf3 := hf.later (below1 w2 (.cells #[.int .i64 c.s, .slice c.p.a c.p.n c.p.c, .slice c.h0.a c.h0.n c.h0.c, .slice c.h1.a c.h1.n c.h1.c, .slice c.h2.a c.h2.n c.h2.c, .slice c.h3.a c.h3.n c.h3.c, .slice c.o.a c.o.n c.o.c, .slice c.i.a c.i.n c.i.c, .slice c.e.a c.e.n c.e.c] 26))
  have HC : Hid (CO w b _) := hc3
  have HO : Hid (c.Own _ _ _) := co3
  have HE : Hid (Ent w2 c _) := E3
  have HF : Hid (Fk _ _ _ _ _) := hf3
  clear hc hc3 co co3 E3 hf hf3
  go_wp2_with (fail)
  generalize w2.alloc (.cells #[.int .i64 c.s, .slice c.p.a c.p.n c.p.c, .slice c.h0.a c.h0.n c.h0.c, .slice c.h1.a c.h1.n c.h1.c, .slice c.h2.a c.h2.n c.h2.c, .slice c.h3.a c.h3.n c.h3.c, .slice c.o.a c.o.n c.o.c, .slice c.i.a c.i.n c.i.c, .slice c.e.a c.e.n c.e.c] 26) = W3 at HC HO HE HF z3 ⊢
  refine (isin_any c t W3 HE.out.a (by have := ES.out; have := EI.out; omega)).mono ?_
  rintro e w4 ⟨⟨r, rfl, hr⟩, hb⟩
  have hc := HC.out.later hb
  have co := HO.out.later hb
  have E := HE.out.later hb
  have hf := HF.out.later hb
  have z4 := hb.size
  clear HC HO HE HF hb
  cases r
  · obtain ⟨w9, e9, ck9, ow9, be9⟩ := ans hc.t hc.z hc.e.b co (by omega) (by omega)
    have NO : Hid (¬ ((0 ≤ t ∧ t < b.s) ∧ c.i.f t.toNat = 1)) := fun g => hr.f ⟨⟨g.1.1, by rw [ES.out]; exact g.1.2⟩, by rw [g.2]; decide⟩
    have tk0 := hc.t 0 _ rfl
    have tk1 := hc.t 1 _ rfl
    have tk2 := hc.t 2 _ rfl
    have tk3 := hc.t 3 _ rfl
    have tk4 := hc.t 4 _ rfl
    have tk5 := hc.t 5 _ rfl
    have tk6 := hc.t 6 _ rfl
    have tk7 := hc.t 7 _ rfl
    have tk8 := hc.t 8 _ rfl
    obtain ⟨u0, u1, u2, u3, u4, u5, u6, u7, u8⟩ := nine E.r
    have HE : Hid (w9 = _) := e9
    clear hc co E hf hr e9
    go_wp2_with (fail)
    rw [← HE.out]
    exact bodyPost_ret (results_cell_mid rfl _ _ (w.heap.size + 1) 0 _ _ rfl ck9.range Tryd.underlying26 rfl (by kernel_rfl)) rfl ⟨c, rfl, .inl ⟨OK.out, cut_miss cm NO.out⟩, ow9, be9⟩
  · obtain ⟨⟨ht0, ht1⟩, hne⟩ := hr.t
    obtain ⟨j, rfl⟩ := Int.eq_ofNat_of_zero_le ht0
    simp only [Int.toNat_natCast] at hne
    have hj : j < c.i.n := by have := ES.out; have := EI.out; omega
    have c1 := hf j hj
    by_cases one : c.i.f j = 1
    · have ow := co.write (b' := c.seti j 2) 6 c.i rfl k j HK.out hj 2 rfl
      have oo : Only k (k + 1) w4 (w4.setCell ⟨k, j, none⟩ (.int .i64 2)) := (Only.refl _ _ _).setCell k j (Nat.le_refl _) (by omega) _
      have hc5 := hc.only h oo (by omega)
      obtain ⟨w9, e9, ck9, ow9, be9⟩ := ans hc5.t hc5.z hc5.e.b ow (by omega) (by have := oo.size; omega)
      simp only [Bx.seti, Sx.put, HK.out] at e9
      have tk0 := hc5.t 0 _ rfl
      have tk1 := hc5.t 1 _ rfl
      have tk2 := hc5.t 2 _ rfl
      have tk3 := hc5.t 3 _ rfl
      have tk4 := hc5.t 4 _ rfl
      have tk5 := hc5.t 5 _ rfl
      have tk6 := hc5.t 6 _ rfl
      have tk7 := hc5.t 7 _ rfl
      have tk8 := hc5.t 8 _ rfl
      obtain ⟨u0, u1, u2, u3, u4, u5, u6, u7, u8⟩ := nine E.r
      have CM : Hid ((c.seti j 2).m = cutM b.m j) := cut_hit cm (by rw [← ES.out]; exact ht1) one
      have HE : Hid (w9 = _) := e9
      have kne : k ≠ w2.heap.size := by omega
      have kne2 : k ≠ w.heap.size + 1 := by omega
      have hjI : (j : Int) < c.i.n := by omega
      rw [one] at c1
      rw [HK.out] at u7
      clear hc co E hf hr e9 ow oo hc5 hne one
      go_wp2_with (fail)
      rw [← HE.out]
      exact bodyPost_ret (results_cell_mid rfl _ _ (w.heap.size + 1) 0 _ _ rfl ck9.range Tryd.underlying26 rfl (by kernel_rfl)) rfl ⟨c.seti j 2, by simp [Bx.cells, Bx.seti, Sx.put, HK.out], .inl ⟨OK.out, CM.out⟩, ow9, be9⟩
    · obtain ⟨w9, e9, ck9, ow9, be9⟩ := ans hc.t hc.z hc.e.b co (by omega) (by omega)
      simp only [HK.out] at e9
      have NO : Hid (¬ ((0 ≤ (j : Int) ∧ (j : Int) < b.s) ∧ c.i.f (j : Int).toNat = 1)) := fun g => one (by simpa using g.2)
      have tk0 := hc.t 0 _ rfl
      have tk1 := hc.t 1 _ rfl
      have tk2 := hc.t 2 _ rfl
      have tk3 := hc.t 3 _ rfl
      have tk4 := hc.t 4 _ rfl
      have tk5 := hc.t 5 _ rfl
      have tk6 := hc.t 6 _ rfl
      have tk7 := hc.t 7 _ rfl
      have tk8 := hc.t 8 _ rfl
      obtain ⟨u0, u1, u2, u3, u4, u5, u6, u7, u8⟩ := nine E.r
      have HE : Hid (w9 = _) := e9
      have oneb : (c.i.f j == 1) = false := by simpa using one
      have hjI : (j : Int) < c.i.n := by omega
      rw [HK.out] at u7
      clear hc co E hf hr e9 hne
      go_wp2_with (fail)
      rw [← HE.out]
      exact bodyPost_ret (results_cell_mid rfl _ _ (w.heap.size + 1) 0 _ _ rfl ck9.range Tryd.underlying26 rfl (by kernel_rfl)) rfl ⟨c, by simp [Bx.cells, HK.out], .inl ⟨OK.out, cut_miss cm NO.out⟩, ow9, be9⟩

end Go.Proofs.YtbipolfbkemmpaaDoor.Book
/- Who is cut off leaves a book that is ok: over no program. -/
namespace Go.Proofs.YtbipolfbkemmpaaDoor.Dra
open Go.ChangeShapes Go.WideShapes Go.ChangeAt Go.RowKit
open Aid Lst Book
set_option maxRecDepth 100000
set_option linter.unusedVariables false

/- Who is cut off leaves a book that is ok. -/
theorem cut_ok {b c : Bx} {t : Int} (h : OkP b) (e : c.m = cutM b.m t) : OkP c := by
  by_cases ht : 0 ≤ t ∧ t < b.s
  · obtain ⟨k, rfl⟩ : ∃ k : Nat, t = k := ⟨t.toNat, by omega⟩
    have ht' : (0 : Int) ≤ (k : Int) ∧ (k : Int) < b.m.s := ht
    by_cases hi : b.i.f k = 1
    · have q : c.m = (b.ine k 2 (b.e.f k)).m := by
        rw [e]
        unfold cutM
        rw [if_pos ht']
        simp only [Bx.ine, Bx.m, Sx.m, Sx.put, Bm.mk.injEq, Prod.mk.injEq, true_and]
        refine ⟨?_, ?_⟩
        · funext j
          unfold cutF upd
          by_cases hj : j = k
          · subst hj
            simp [hi]
          · have : ¬ (j : Int) = (k : Int) := by omega
            simp [hj, this]
        · funext j
          unfold upd
          split
          · rename_i hj; rw [hj]
          · rfl
      have l3 := h.1.1.2.2.1
      have u := h.1.2.1 k (by omega)
      unfold InU at u
      obtain ⟨u1, u2, u3, u4, u5⟩ := u
      exact (ok_m q).2 (keep_in h k 2 _ (by omega) (by omega) u3 u4 (fun z => by have := u5 z; omega) (fun z => by omega))
    · have q : c.m = b.m := by
        rw [e]
        unfold cutM
        rw [if_pos ht']
        have z : cutF b.m.i.2 k = b.m.i.2 := by
          funext j
          unfold cutF
          by_cases hj : (j : Int) = (k : Int)
          · have : j = k := by omega
            subst this
            have hi' : ¬ b.m.i.2 j = 1 := hi
            simp [hi']
          · simp [hj]
        rw [z]
      exact (ok_m q).2 h
  · have q : c.m = b.m := by
      rw [e]
      unfold cutM
      have ht' : ¬ ((0 : Int) ≤ t ∧ t < b.m.s) := ht
      rw [if_neg ht']
    exact (ok_m q).2 h

set_option linter.unusedSimpArgs false
/- A code that is handed in. -/
def Bytes (w : World) (a : Option Addr) (len cap : Nat) (zs : List Int) : Prop := (a = none ∧ len = 0 ∧ cap = 0 ∧ zs = []) ∨
  ∃ x, a = some x ∧ len ≤ cap ∧ cap ≤ maxLen ∧ zs.length = cap ∧ (∀ i, i < zs.length → w.cell? (x.add i) = some (.int .u8 (zs.getD i 0))) ∧ ∀ n ∈ zs, (Lit.int .u8 n).wf = true
/- A book is laid into a struct of its own. -/
theorem mk_bk (W : World) (T : TypeId) (c : Bx) : (W.alloc (.cells #[.int .i64 0, .slice none 0 0, .slice none 0 0, .slice none 0 0, .slice none 0 0, .slice none 0 0, .slice none 0 0, .slice none 0 0, .slice none 0 0] T)).there W.heap.size 0 c.cells.toArray.toList.length ∧ Ck ((W.alloc (.cells #[.int .i64 0, .slice none 0 0, .slice none 0 0, .slice none 0 0, .slice none 0 0, .slice none 0 0, .slice none 0 0, .slice none 0 0, .slice none 0 0] T)).setCells W.heap.size 0 c.cells.toArray.toList) W.heap.size c.cells ∧ Below W.heap.size W ((W.alloc (.cells #[.int .i64 0, .slice none 0 0, .slice none 0 0, .slice none 0 0, .slice none 0 0, .slice none 0 0, .slice none 0 0, .slice none 0 0, .slice none 0 0] T)).setCells W.heap.size 0 c.cells.toArray.toList) := by
  have hz : Ck (W.alloc (.cells #[.int .i64 0, .slice none 0 0, .slice none 0 0, .slice none 0 0, .slice none 0 0, .slice none 0 0, .slice none 0 0, .slice none 0 0, .slice none 0 0] T)) W.heap.size [.int .i64 0, .slice none 0 0, .slice none 0 0, .slice none 0 0, .slice none 0 0, .slice none 0 0, .slice none 0 0, .slice none 0 0, .slice none 0 0] := ck_lit #[.int .i64 0, .slice none 0 0, .slice none 0 0, .slice none 0 0, .slice none 0 0, .slice none 0 0, .slice none 0 0, .slice none 0 0, .slice none 0 0] (heap1_0 W _)
  exact ⟨there9 hz, (put9s hz _ _ _ _ _ _ _ _ _).1, below_setCells (below1 W _) (Nat.le_refl _) _ _⟩
theorem laid {w W : World} {rs : List (Nat × List Value)} {bs : List Bx} (h : St w rs bs W) (d : Bx) (T : TypeId) : St w ((W.heap.size, d.cells) :: rs) bs ((W.alloc (.cells #[.int .i64 0, .slice none 0 0, .slice none 0 0, .slice none 0 0, .slice none 0 0, .slice none 0 0, .slice none 0 0, .slice none 0 0, .slice none 0 0] T)).setCells W.heap.size 0 d.cells.toArray.toList) := by
  obtain ⟨m1, m2, m3⟩ := mk_bk W T d
  have g := h.later m3
  exact ⟨fun p hp => by
    rcases List.mem_cons.1 hp with rfl | hp
    · exact ⟨m2.range, m2.lt⟩
    · exact g.r p hp, g.a, g.b⟩
/- A book and a call, in two structs. -/
theorem laid2 {w W : World} {bs : List Bx} (h : St w [] bs W) (d : Bx) (o : Ox) (T U : TypeId) :
    ((W.alloc (.cells #[.int .i64 0, .slice none 0 0, .slice none 0 0, .slice none 0 0, .slice none 0 0, .slice none 0 0, .slice none 0 0, .slice none 0 0, .slice none 0 0] T)).alloc (.cells #[.int .i64 0, .int .i64 0, .int .i64 0, .int .i64 0] U)).there W.heap.size 0 d.cells.toArray.toList.length ∧
    (((W.alloc (.cells #[.int .i64 0, .slice none 0 0, .slice none 0 0, .slice none 0 0, .slice none 0 0, .slice none 0 0, .slice none 0 0, .slice none 0 0, .slice none 0 0] T)).alloc (.cells #[.int .i64 0, .int .i64 0, .int .i64 0, .int .i64 0] U)).setCells W.heap.size 0 d.cells.toArray.toList).there (W.heap.size + 1) 0 o.cells.toArray.toList.length ∧
    Ck ((((W.alloc (.cells #[.int .i64 0, .slice none 0 0, .slice none 0 0, .slice none 0 0, .slice none 0 0, .slice none 0 0, .slice none 0 0, .slice none 0 0, .slice none 0 0] T)).alloc (.cells #[.int .i64 0, .int .i64 0, .int .i64 0, .int .i64 0] U)).setCells W.heap.size 0 d.cells.toArray.toList).setCells (W.heap.size + 1) 0 o.cells.toArray.toList) (W.heap.size + 1) o.cells ∧
    ((((W.alloc (.cells #[.int .i64 0, .slice none 0 0, .slice none 0 0, .slice none 0 0, .slice none 0 0, .slice none 0 0, .slice none 0 0, .slice none 0 0, .slice none 0 0] T)).alloc (.cells #[.int .i64 0, .int .i64 0, .int .i64 0, .int .i64 0] U)).setCells W.heap.size 0 d.cells.toArray.toList).setCells (W.heap.size + 1) 0 o.cells.toArray.toList).rangeAt W.heap.size 0 d.cells ∧
    Below W.heap.size W ((((W.alloc (.cells #[.int .i64 0, .slice none 0 0, .slice none 0 0, .slice none 0 0, .slice none 0 0, .slice none 0 0, .slice none 0 0, .slice none 0 0, .slice none 0 0] T)).alloc (.cells #[.int .i64 0, .int .i64 0, .int .i64 0, .int .i64 0] U)).setCells W.heap.size 0 d.cells.toArray.toList).setCells (W.heap.size + 1) 0 o.cells.toArray.toList) := by
  have hz : Ck ((W.alloc (.cells #[.int .i64 0, .slice none 0 0, .slice none 0 0, .slice none 0 0, .slice none 0 0, .slice none 0 0, .slice none 0 0, .slice none 0 0, .slice none 0 0] T)).alloc (.cells #[.int .i64 0, .int .i64 0, .int .i64 0, .int .i64 0] U)) W.heap.size [.int .i64 0, .slice none 0 0, .slice none 0 0, .slice none 0 0, .slice none 0 0, .slice none 0 0, .slice none 0 0, .slice none 0 0, .slice none 0 0] := ck_lit #[.int .i64 0, .slice none 0 0, .slice none 0 0, .slice none 0 0, .slice none 0 0, .slice none 0 0, .slice none 0 0, .slice none 0 0, .slice none 0 0] (heap2_0 W _ _)
  have hu : Ck ((W.alloc (.cells #[.int .i64 0, .slice none 0 0, .slice none 0 0, .slice none 0 0, .slice none 0 0, .slice none 0 0, .slice none 0 0, .slice none 0 0, .slice none 0 0] T)).alloc (.cells #[.int .i64 0, .int .i64 0, .int .i64 0, .int .i64 0] U)) (W.heap.size + 1) [.int .i64 0, .int .i64 0, .int .i64 0, .int .i64 0] := ck_lit #[.int .i64 0, .int .i64 0, .int .i64 0, .int .i64 0] (heap2_1 W _ _)
  have zz : W.heap.size + 2 ≤ ((W.alloc (.cells #[.int .i64 0, .slice none 0 0, .slice none 0 0, .slice none 0 0, .slice none 0 0, .slice none 0 0, .slice none 0 0, .slice none 0 0, .slice none 0 0] T)).alloc (.cells #[.int .i64 0, .int .i64 0, .int .i64 0, .int .i64 0] U)).heap.size := by simp
  have th : ((W.alloc (.cells #[.int .i64 0, .slice none 0 0, .slice none 0 0, .slice none 0 0, .slice none 0 0, .slice none 0 0, .slice none 0 0, .slice none 0 0, .slice none 0 0] T)).alloc (.cells #[.int .i64 0, .int .i64 0, .int .i64 0, .int .i64 0] U)).there W.heap.size 0 d.cells.toArray.toList.length := there9 hz
  obtain ⟨p1, p2⟩ := put9s hz (.int .i64 d.s) (.slice d.p.a d.p.n d.p.c) (.slice d.h0.a d.h0.n d.h0.c) (.slice d.h1.a d.h1.n d.h1.c) (.slice d.h2.a d.h2.n d.h2.c) (.slice d.h3.a d.h3.n d.h3.c) (.slice d.o.a d.o.n d.o.c) (.slice d.i.a d.i.n d.i.c) (.slice d.e.a d.e.n d.e.c)
  have hu1 : Ck (((W.alloc (.cells #[.int .i64 0, .slice none 0 0, .slice none 0 0, .slice none 0 0, .slice none 0 0, .slice none 0 0, .slice none 0 0, .slice none 0 0, .slice none 0 0] T)).alloc (.cells #[.int .i64 0, .int .i64 0, .int .i64 0, .int .i64 0] U)).setCells W.heap.size 0 d.cells.toArray.toList) (W.heap.size + 1) [.int .i64 0, .int .i64 0, .int .i64 0, .int .i64 0] := fun j v hv => by
    have k1 := hu j v hv
    have lt : W.heap.size + 1 < ((W.alloc (.cells #[.int .i64 0, .slice none 0 0, .slice none 0 0, .slice none 0 0, .slice none 0 0, .slice none 0 0, .slice none 0 0, .slice none 0 0, .slice none 0 0] T)).alloc (.cells #[.int .i64 0, .int .i64 0, .int .i64 0, .int .i64 0] U)).heap.size := by omega
    exact ⟨(p2.cell (k := W.heap.size + 1) lt (.inr (by omega))).trans k1.1, (p2.frozen (k := W.heap.size + 1) lt (.inr (by omega))).trans k1.2⟩
  have th4 : (((W.alloc (.cells #[.int .i64 0, .slice none 0 0, .slice none 0 0, .slice none 0 0, .slice none 0 0, .slice none 0 0, .slice none 0 0, .slice none 0 0, .slice none 0 0] T)).alloc (.cells #[.int .i64 0, .int .i64 0, .int .i64 0, .int .i64 0] U)).setCells W.heap.size 0 d.cells.toArray.toList).there (W.heap.size + 1) 0 o.cells.toArray.toList.length := fun j hj => by
    have g := hu1 j _ (List.getElem?_eq_getElem (show j < [.int .i64 0, .int .i64 0, .int .i64 0, .int .i64 0].length from hj))
    rw [Nat.zero_add, g.1]
    exact ⟨rfl, g.2⟩
  refine ⟨th, th4, ?_, World.rangeAt_setCells_apart (World.rangeAt_setCells_same _ _ _ _ th) _ _ _ (.inl (by omega)), below_setCells (below_setCells (below2 W _ _) (Nat.le_refl _) _ _) (Nat.le_add_right _ _) _ _⟩
  have s4 : ∀ {X : World}, Ck X (W.heap.size + 1) [.int .i64 0, .int .i64 0, .int .i64 0, .int .i64 0] → Ck (X.setCells (W.heap.size + 1) 0 o.cells.toArray.toList) (W.heap.size + 1) o.cells := fun {X} hx => by
    have := (((hx.set 0 (.int .i64 o.k)).set 1 (.int .i64 o.s)).set 2 (.int .i64 o.a)).set 3 (.int .i64 o.b)
    simp only [List.set] at this
    simp only [Ox.cells, World.setCells, Nat.zero_add, Nat.reduceAdd]
    exact this
  exact s4 hu1
theorem st_two {w W V : World} {bs : List Bx} {d : Bx} {o : Ox} (h : St w [] bs W) (h1 : Ck V (W.heap.size + 1) o.cells) (h2 : V.rangeAt W.heap.size 0 d.cells) (hb : Below W.heap.size W V) : St w [(W.heap.size + 1, o.cells), (W.heap.size, d.cells)] bs V := by
  have g := h.later hb
  refine ⟨fun p hp => ?_, g.a, g.b⟩
  simp only [List.mem_cons, List.not_mem_nil, or_false] at hp
  rcases hp with rfl | rfl
  · exact ⟨h1.range, h1.lt⟩
  · exact ⟨h2, by have := h1.lt; show W.heap.size < _; omega⟩
/- Its kind is another one now. -/
theorem kind_set {W V : World} {d : Bx} {o : Ox} (k : Int) (h1 : Ck V (W.heap.size + 1) o.cells) (h2 : V.rangeAt W.heap.size 0 d.cells) (hb : Below W.heap.size W V) :
    Ck (V.setCell ⟨W.heap.size + 1, 0, none⟩ (.int .i64 k)) (W.heap.size + 1) (⟨k, o.s, o.a, o.b⟩ : Ox).cells ∧ (V.setCell ⟨W.heap.size + 1, 0, none⟩ (.int .i64 k)).rangeAt W.heap.size 0 d.cells ∧ Below W.heap.size W (V.setCell ⟨W.heap.size + 1, 0, none⟩ (.int .i64 k)) := by
  refine ⟨h1.set 0 _, fun j v hv => ?_, hb.setCell (by show W.heap.size ≤ W.heap.size + 1; omega) _⟩
  rw [World.cell?_setCell_far _ _ _ _ (by show W.heap.size + 1 ≠ W.heap.size; omega)]
  exact h2 j v hv
/- The program's functions of books, of what is within the lists' ends. -/
theorem bdo_t {a : Nat → Addr} (b : Bx) (o : Ox) (w : World) (h : b.At w) (hn : b.total ≤ 1000000000) (hcap : b.o.n ≤ b.o.c) (he : Ea a w) :
    Calls Tryd.prog 11 #[.agg b.cells.toArray, .agg o.cells.toArray] w fun e w' => ∃ c x y, e = .returned (.tuple #[.agg c.cells.toArray, .int .i64 x, .int .i64 y]) ∧ BdQ b.trim o c x y ∧ c.Own w.heap.size w'.heap.size w' ∧ Below w.heap.size w w' := bookdo_any b.trim o w (trim_at h) hn (at_nil (trim_at h)) hcap he
theorem bok_t (b : Bx) (w : World) (h : b.At w) (hn : b.total ≤ 1000000000) (hcap : b.o.n ≤ b.o.c) :
    Calls Tryd.prog 14 #[.agg b.cells.toArray] w fun e w' => Says e (OkP b.trim) ∧ Below w.heap.size w w' := Book.ok_any b.trim w (trim_at h) hn hcap

theorem broom_t (b : Bx) (u : Int) (w : World) (h : b.At w) (hn : b.total ≤ 1000000000) (hx : b.o.n ≤ b.o.c) :
    Calls Tryd.prog 17 #[.agg b.cells.toArray, .int .i64 u] w fun e w' => (∃ r, e = .returned (.int .i64 r) ∧ RoomQ b.trim u r) ∧ Below w.heap.size w w' := room_any b.trim u w (trim_at h) hn hx

theorem bsame_t (x y : Bx) (w : World) (hx : x.At w) (hy : y.At w) (hn : x.total ≤ 1000000000) (hm : y.total ≤ 1000000000) (e : x.trim.m = y.trim.m) :
    Calls Tryd.prog 13 #[.agg x.cells.toArray, .agg y.cells.toArray] w fun e w' => e = .returned (.bool true) ∧ Below w.heap.size w w' :=
  (same_any x y w hx hy hn hm).mono fun _ _ h => ⟨by rw [h.1, sameM_trim e], h.2⟩
/- A book told by another one's numbers, where they are alike. -/
def asS (x y : Sx) : Sx := ⟨x.a, x.n, x.c, y.f⟩
theorem asS_m {x y : Sx} (e : x.trim.m = y.trim.m) : (asS x y).m = y.m := by
  obtain ⟨h1, _⟩ := sx_trim e
  simp only [asS, Sx.m, h1]
theorem asS_at {x y : Sx} {w : World} (e : x.trim.m = y.trim.m) (h : x.At w) : (asS x y).At w := by
  obtain ⟨h1, h2⟩ := sx_trim e
  rcases h with q | ⟨k, o, e, g⟩
  · exact .inl q
  · refine .inr ⟨k, o, e, fun j hj => ?_⟩
    have hj' : j < x.n := hj
    show _ = some (Value.int .i64 (y.f j))
    rw [← h2 j hj']
    exact g j hj'
theorem as_ex {x y : Bx} (e : x.trim.m = y.trim.m) : ∃ x1 : Bx, x1.cells = x.cells ∧ x1.m = y.m ∧ (∀ W, x.At W → x1.At W) ∧ x1.o.n = x.o.n ∧ x1.o.c = x.o.c := by
  obtain ⟨e0, e1, e2, e3, e4, e5, e6, e7, e8⟩ := bx_trim e
  refine ⟨⟨x.s, asS x.p y.p, asS x.h0 y.h0, asS x.h1 y.h1, asS x.h2 y.h2, asS x.h3 y.h3, asS x.o y.o, asS x.i y.i, asS x.e y.e⟩, rfl, ?_, fun W h z hz => ?_, rfl, rfl⟩
  · simp only [Bx.m, asS_m e1, asS_m e2, asS_m e3, asS_m e4, asS_m e5, asS_m e6, asS_m e7, asS_m e8, e0]
  · simp only [Bx.lists, List.mem_cons, List.not_mem_nil, or_false] at hz
    rcases hz with rfl | rfl | rfl | rfl | rfl | rfl | rfl | rfl
    · exact asS_at e1 (h _ (by simp [Bx.lists]))
    · exact asS_at e2 (h _ (by simp [Bx.lists]))
    · exact asS_at e3 (h _ (by simp [Bx.lists]))
    · exact asS_at e4 (h _ (by simp [Bx.lists]))
    · exact asS_at e5 (h _ (by simp [Bx.lists]))
    · exact asS_at e6 (h _ (by simp [Bx.lists]))
    · exact asS_at e7 (h _ (by simp [Bx.lists]))
    · exact asS_at e8 (h _ (by simp [Bx.lists]))
/- Two calls beside each other. -/
theorem met_sb {b x y : Bx} {o : Ox} {c d n m : Int} (h1 : BdQ b o x c n) (h2 : SbQ b o y d m) : x.trim.m = y.trim.m ∧ c = d ∧ n = m := met_all h1 h2
theorem met_do {x y z e : Bx} {o : Ox} {c n d m : Int} (hm : x.trim.m = y.trim.m) (hk : OkP y) (h1 : BdQ x.trim o z c n) (h2 : DoP y.trim o e d m) : z.trim.m = e.trim.m ∧ c = d ∧ n = m :=
  met_all h1 (.inr ⟨(ok_m hm).2 (ok_trim hk), y.trim, hm.symm, h2⟩)
theorem sb_total {b d : Bx} {o : Ox} {x y : Int} (h : SbQ b o d x y) : d.total ≤ 1000 := sbq_total h
theorem okx {x y : Bx} (e : x.trim.m = y.trim.m) (h : OkP y) : OkP x.trim := (ok_m e).2 (ok_trim h)

end Go.Proofs.YtbipolfbkemmpaaDoor.Dra

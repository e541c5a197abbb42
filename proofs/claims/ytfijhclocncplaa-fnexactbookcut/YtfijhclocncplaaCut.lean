/- Somebody is cut off: BookCut of both. -/
import Derived.Test.YtfijhclocncplaaCpy3
import Derived.Test.YtfijhclocncplaaWr
import Derived.Test.YtfijhclocncplaaRoom
namespace Go.Proofs.Ytfijhclocncplaa.Book
open Go.ChangeShapes Go.WideShapes Go.ChangeAt Go.RowKit
open Go.Proofs.Ytfijhclocncplaa.Aid Go.Proofs.Ytfijhclocncplaa.Lst
set_option maxRecDepth 100000
set_option linter.unusedVariables false

def none1 : Nat × (Nat → Int) := (0, fun _ => 0)
def noneM : Bm := ⟨0, none1, none1, none1, none1, none1, none1, none1, none1⟩
def noneB : Bx := ⟨0, ⟨none, 0, 0, fun _ => 0⟩, ⟨none, 0, 0, fun _ => 0⟩, ⟨none, 0, 0, fun _ => 0⟩, ⟨none, 0, 0, fun _ => 0⟩, ⟨none, 0, 0, fun _ => 0⟩, ⟨none, 0, 0, fun _ => 0⟩, ⟨none, 0, 0, fun _ => 0⟩, ⟨none, 0, 0, fun _ => 0⟩⟩
theorem none_own (B C : Nat) (w : World) : noneB.Own B C w := by
  refine ⟨?_, ?_, ?_⟩
  · simp only [noneB, Bx.lists, List.forall_mem_cons, List.not_mem_nil, false_implies, implies_true, and_true]
    exact ⟨.inl rfl, .inl rfl, .inl rfl, .inl rfl, .inl rfl, .inl rfl, .inl rfl, .inl rfl⟩
  · simp only [noneB, Bx.lists, List.pairwise_cons, List.forall_mem_cons, List.not_mem_nil, false_implies, implies_true, and_true, List.Pairwise.nil]
    refine ⟨⟨?_, ?_, ?_, ?_, ?_, ?_, ?_⟩, ⟨?_, ?_, ?_, ?_, ?_, ?_⟩, ⟨?_, ?_, ?_, ?_, ?_⟩, ⟨?_, ?_, ?_, ?_⟩, ⟨?_, ?_, ?_⟩, ⟨?_, ?_⟩, ?_⟩
    all_goals exact .inl rfl
  · simp only [noneB, Bx.lists, List.forall_mem_cons, List.not_mem_nil, false_implies, implies_true, and_true]
    exact ⟨Nat.le_refl _, Nat.le_refl _, Nat.le_refl _, Nat.le_refl _, Nat.le_refl _, Nat.le_refl _, Nat.le_refl _, Nat.le_refl _⟩
theorem Bx.At.nil {b : Bx} {w : World} (h : b.At w) : ∀ x ∈ b.lists, x.a = none → x.n = 0 := fun x hx e => by
  rcases h x hx with h | ⟨k, o, e', _⟩
  · exact h
  · rw [e] at e'; cases e'

/- Who is in, behind a cutting off. -/
def cutF (f : Nat → Int) (t : Int) : Nat → Int := fun j => if (j : Int) = t ∧ f j = 1 then 2 else f j
def cutM (m : Bm) (t : Int) : Bm := ⟨m.s, m.p, m.h0, m.h1, m.h2, m.h3, m.o, (m.i.1, if 0 ≤ t ∧ t < m.s then cutF m.i.2 t else m.i.2), m.e⟩
def CutQ (b : Bx) (t : Int) (m : Bm) : Prop := (OkP b ∧ m = cutM b.m t) ∨ (¬ OkP b ∧ m = noneM)
theorem cutq_one {b : Bx} {t : Int} {m m' : Bm} (h : CutQ b t m) (g : CutQ b t m') : m = m' := by
  rcases h with ⟨h, rfl⟩ | ⟨h, rfl⟩ <;> rcases g with ⟨g, rfl⟩ | ⟨g, rfl⟩
  · rfl
  · exact absurd h g
  · exact absurd g h
  · rfl
theorem cutq_m {b c : Bx} (h : b.m = c.m) (t : Int) (m : Bm) : CutQ b t m ↔ CutQ c t m := by
  unfold CutQ
  rw [ok_m h, h]
def Bx.seti (b : Bx) (j : Nat) (v : Int) : Bx := ⟨b.s, b.p, b.h0, b.h1, b.h2, b.h3, b.o, b.i.put j v, b.e⟩
theorem cut_hit {c b : Bx} {j : Nat} (hm : c.m = b.m) (h0 : (j : Int) < b.s) (h1 : c.i.f j = 1) : (c.seti j 2).m = cutM b.m j := by
  have e : c.i.f = b.i.f := congrArg (fun m => m.i.2) hm
  rw [← hm]
  unfold cutM Bx.seti Bx.m Sx.m Sx.put
  have hs : b.s = c.s := congrArg (·.s) hm.symm
  simp only [Bm.mk.injEq, true_and, and_true, Prod.mk.injEq]
  rw [if_pos ⟨by omega, by omega⟩]
  funext i
  unfold upd cutF
  by_cases hi : i = j
  · subst hi; rw [if_pos rfl, if_pos ⟨rfl, h1⟩]
  · rw [if_neg hi, if_neg (fun q => hi (by have := q.1; omega))]
theorem cut_miss {c b : Bx} {t : Int} (hm : c.m = b.m) (h : ¬ ((0 ≤ t ∧ t < b.s) ∧ c.i.f t.toNat = 1)) : c.m = cutM b.m t := by
  have e : c.i.f = b.i.f := congrArg (fun m => m.i.2) hm
  rw [hm]
  unfold cutM
  by_cases g : 0 ≤ t ∧ t < b.m.s
  · rw [if_pos g]
    have : cutF b.m.i.2 t = b.m.i.2 := by
      funext i
      unfold cutF
      rw [if_neg]
      rintro ⟨q1, q2⟩
      refine h ⟨g, ?_⟩
      rw [e, ← q1, Int.toNat_natCast]
      exact q2
    rw [this]
  · rw [if_neg g]
theorem seti_lists (b : Bx) (j : Nat) (v : Int) : (b.seti j v).lists = b.lists.set 6 (b.i.put j v) := rfl

theorem put9s {w : World} {k : Nat} {c0 c1 c2 c3 c4 c5 c6 c7 c8 : Value} (h : Ck w k [c0, c1, c2, c3, c4, c5, c6, c7, c8]) (v0 v1 v2 v3 v4 v5 v6 v7 v8 : Value) : Ck (w.setCells k 0 [v0, v1, v2, v3, v4, v5, v6, v7, v8]) k [v0, v1, v2, v3, v4, v5, v6, v7, v8] ∧ Only k (k + 1) w (w.setCells k 0 [v0, v1, v2, v3, v4, v5, v6, v7, v8]) := by
  have e := put9 h v0 v1 v2 v3 v4 v5 v6 v7 v8
  simp only [World.setCells, Nat.zero_add, Nat.reduceAdd]
  exact e

theorem there9 {w : World} {k : Nat} {c0 c1 c2 c3 c4 c5 c6 c7 c8 : Value} (h : Ck w k [c0, c1, c2, c3, c4, c5, c6, c7, c8]) : w.there k 0 9 := fun j hj => by
  have hl : j < [c0, c1, c2, c3, c4, c5, c6, c7, c8].length := hj
  have := h j _ (List.getElem?_eq_getElem hl)
  rw [Nat.zero_add, this.1]
  exact ⟨rfl, this.2⟩

/- The end: a book out of a variable is the answer. -/
theorem ans {w0 w : World} {c : Bx} {B C : Nat} (ht : Ck w (w0.heap.size + 1) [.int .i64 0, .slice none 0 0, .slice none 0 0, .slice none 0 0, .slice none 0 0, .slice none 0 0, .slice none 0 0, .slice none 0 0, .slice none 0 0]) (z : w0.heap.size + 2 ≤ w.heap.size) (hb : Below w0.heap.size w0 w) (ho : c.Own B C w) (hB : w0.heap.size + 2 ≤ B) (hC : C ≤ w.heap.size) :
    ∃ w1 : World, w1 = (((((((((w.setCell ⟨w0.heap.size + 1, 0, none⟩ (.int .i64 c.s)).setCell ⟨w0.heap.size + 1, 1, none⟩ (.slice c.p.a c.p.n c.p.c)).setCell ⟨w0.heap.size + 1, 2, none⟩ (.slice c.h0.a c.h0.n c.h0.c)).setCell ⟨w0.heap.size + 1, 3, none⟩ (.slice c.h1.a c.h1.n c.h1.c)).setCell ⟨w0.heap.size + 1, 4, none⟩ (.slice c.h2.a c.h2.n c.h2.c)).setCell ⟨w0.heap.size + 1, 5, none⟩ (.slice c.h3.a c.h3.n c.h3.c)).setCell ⟨w0.heap.size + 1, 6, none⟩ (.slice c.o.a c.o.n c.o.c)).setCell ⟨w0.heap.size + 1, 7, none⟩ (.slice c.i.a c.i.n c.i.c)).setCell ⟨w0.heap.size + 1, 8, none⟩ (.slice c.e.a c.e.n c.e.c)) ∧ Ck w1 (w0.heap.size + 1) c.cells ∧ c.Own w0.heap.size w1.heap.size w1 ∧ Below w0.heap.size w0 w1 := by
  obtain ⟨ck, oy⟩ := put9 ht (.int .i64 c.s) (.slice c.p.a c.p.n c.p.c) (.slice c.h0.a c.h0.n c.h0.c) (.slice c.h1.a c.h1.n c.h1.c) (.slice c.h2.a c.h2.n c.h2.c) (.slice c.h3.a c.h3.n c.h3.c) (.slice c.o.a c.o.n c.o.c) (.slice c.i.a c.i.n c.i.c) (.slice c.e.a c.e.n c.e.c)
  have zl := oy.size
  refine ⟨_, rfl, ck, ?_, hb.trans (oy.below (by omega) |>.mono (by omega))⟩
  exact (ho.only oy (.inr (by omega))).mono (by omega) (by omega)

set_option maxHeartbeats 40000000 in
theorem cut_any (b : Bx) (t : Int) (w : World) (h : b.At w) (hn : b.total ≤ 1000000000) (hcap : b.o.n ≤ b.o.c) :
    Calls Try.prog 36 #[.agg b.cells.toArray, .int .i64 t] w fun e w' => ∃ c : Bx, e = .returned (.agg c.cells.toArray) ∧ CutQ b t c.m ∧ c.Own w.heap.size w'.heap.size w' ∧ Below w.heap.size w w' := by
  have S0 : CO w b ((w.alloc (.cells #[.int .i64 b.s, .slice b.p.a b.p.n b.p.c, .slice b.h0.a b.h0.n b.h0.c, .slice b.h1.a b.h1.n b.h1.c, .slice b.h2.a b.h2.n b.h2.c, .slice b.h3.a b.h3.n b.h3.c, .slice b.o.a b.o.n b.o.c, .slice b.i.a b.i.n b.i.c, .slice b.e.a b.e.n b.e.c] 37)).alloc (.cells #[.int .i64 0, .slice none 0 0, .slice none 0 0, .slice none 0 0, .slice none 0 0, .slice none 0 0, .slice none 0 0, .slice none 0 0, .slice none 0 0] 37)) := ⟨(Ent.start h 37).later (below1 _ _), ck_lit #[.int .i64 0, .slice none 0 0, .slice none 0 0, .slice none 0 0, .slice none 0 0, .slice none 0 0, .slice none 0 0, .slice none 0 0, .slice none 0 0] (heap2_1 w _ _), by simp⟩
  simp only [Bx.cells]
  go_enter Try.func36, Try.ntmps36
  go_wp2_with (fail)
  generalize (w.alloc (.cells #[.int .i64 b.s, .slice b.p.a b.p.n b.p.c, .slice b.h0.a b.h0.n b.h0.c, .slice b.h1.a b.h1.n b.h1.c, .slice b.h2.a b.h2.n b.h2.c, .slice b.h3.a b.h3.n b.h3.c, .slice b.o.a b.o.n b.o.c, .slice b.i.a b.i.n b.i.c, .slice b.e.a b.e.n b.e.c] 37)).alloc (.cells #[.int .i64 0, .slice none 0 0, .slice none 0 0, .slice none 0 0, .slice none 0 0, .slice none 0 0, .slice none 0 0, .slice none 0 0, .slice none 0 0] 37) = W at S0 ⊢
  refine (ok_any b W S0.e.a hn hcap).mono ?_
  rintro e w1 ⟨⟨r, rfl, hr⟩, hb⟩
  have hc := S0.later hb
  clear hb S0
  cases r
  · obtain ⟨w9, e9, ck9, ow9, be9⟩ := ans hc.t hc.z hc.e.b (none_own w1.heap.size w1.heap.size w1) hc.z (Nat.le_refl _)
    simp only [noneB] at e9
    have tk0 := hc.t 0 _ rfl
    have tk1 := hc.t 1 _ rfl
    have tk2 := hc.t 2 _ rfl
    have tk3 := hc.t 3 _ rfl
    have tk4 := hc.t 4 _ rfl
    have tk5 := hc.t 5 _ rfl
    have tk6 := hc.t 6 _ rfl
    have tk7 := hc.t 7 _ rfl
    have tk8 := hc.t 8 _ rfl
    have NO : Hid (¬ OkP b) := hr.f
    have HC : Hid (CO w b w1) := hc
    have HE : Hid (w9 = _) := e9
    clear hc hr e9
    go_wp2_with (fail)
    rw [← HE.out]
    exact bodyPost_ret (results_cell_mid rfl _ _ (w.heap.size + 1) 0 _ _ rfl ck9.range Try.underlying37 rfl (by kernel_rfl)) rfl ⟨noneB, rfl, .inr ⟨NO.out, rfl⟩, ow9, be9⟩
  have OK : Hid (OkP b) := hr.t
  have l1 := OK.out.1.1.1
  have l2 := OK.out.1.1.2.1
  have l3 := OK.out.1.1.2.2.1
  obtain ⟨u0, u1, u2, u3, u4, u5, u6, u7, u8⟩ := nine hc.e.r
  have HC : Hid (CO w b w1) := hc
  clear hr hc
  go_wp2_with (fail)
  clear u0 u1 u2 u3 u4 u5 u6 u7 u8
  refine (copy_any b w1 HC.out.e.a hn h.nil).mono ?_
  rintro e w2 ⟨c, rfl, cm, co, hb⟩
  have es : c.s = b.s := congrArg (·.s) cm
  have ei : c.i.n = b.i.n := congrArg (fun m => m.i.1) cm
  have hc := HC.out.later hb
  have z1 := HC.out.z
  have z2 := hb.size
  obtain ⟨k, hk, hk1, hk2, hf⟩ : ∃ k, c.i.a = some ⟨k, 0, none⟩ ∧ w1.heap.size ≤ k ∧ k < w2.heap.size ∧ Fk .i64 c.i.n w2 k c.i.f := by
    rcases co.each c.i (by simp [Bx.lists]) with h0 | h0
    · omega
    · exact h0
  have ES : Hid (c.s = b.s) := es
  have EI : Hid (c.i.n = b.i.n) := ei
  have HK : Hid (c.i.a = some ⟨k, 0, none⟩) := hk
  clear HC hb es ei hk
  simp only [Bx.cells]
  have hc3 := hc.later (below1 w2 (.cells #[.int .i64 c.s, .slice c.p.a c.p.n c.p.c, .slice c.h0.a c.h0.n c.h0.c, .slice c.h1.a c.h1.n c.h1.c, .slice c.h2.a c.h2.n c.h2.c, .slice c.h3.a c.h3.n c.h3.c, .slice c.o.a c.o.n c.o.c, .slice c.i.a c.i.n c.i.c, .slice c.e.a c.e.n c.e.c] 37))
  have co3 := co.later (below1 w2 (.cells #[.int .i64 c.s, .slice c.p.a c.p.n c.p.c, .slice c.h0.a c.h0.n c.h0.c, .slice c.h1.a c.h1.n c.h1.c, .slice c.h2.a c.h2.n c.h2.c, .slice c.h3.a c.h3.n c.h3.c, .slice c.o.a c.o.n c.o.c, .slice c.i.a c.i.n c.i.c, .slice c.e.a c.e.n c.e.c] 37))
  have E3 : Ent w2 c (w2.alloc (.cells #[.int .i64 c.s, .slice c.p.a c.p.n c.p.c, .slice c.h0.a c.h0.n c.h0.c, .slice c.h1.a c.h1.n c.h1.c, .slice c.h2.a c.h2.n c.h2.c, .slice c.h3.a c.h3.n c.h3.c, .slice c.o.a c.o.n c.o.c, .slice c.i.a c.i.n c.i.c, .slice c.e.a c.e.n c.e.c] 37)) := Ent.start co.at 37
  have z3 : w2.heap.size < (w2.alloc (.cells #[.int .i64 c.s, .slice c.p.a c.p.n c.p.c, .slice c.h0.a c.h0.n c.h0.c, .slice c.h1.a c.h1.n c.h1.c, .slice c.h2.a c.h2.n c.h2.c, .slice c.h3.a c.h3.n c.h3.c, .slice c.o.a c.o.n c.o.c, .slice c.i.a c.i.n c.i.c, .slice c.e.a c.e.n c.e.c] 37)).heap.size := by simp
  have hf3 := hf.later (below1 w2 (.cells #[.int .i64 c.s, .slice c.p.a c.p.n c.p.c, .slice c.h0.a c.h0.n c.h0.c, .slice c.h1.a c.h1.n c.h1.c, .slice c.h2.a c.h2.n c.h2.c, .slice c.h3.a c.h3.n c.h3.c, .slice c.o.a c.o.n c.o.c, .slice c.i.a c.i.n c.i.c, .slice c.e.a c.e.n c.e.c] 37))
  have HC : Hid (CO w b _) := hc3
  have HO : Hid (c.Own _ _ _) := co3
  have HE : Hid (Ent w2 c _) := E3
  have HF : Hid (Fk _ _ _ _ _) := hf3
  clear hc hc3 co co3 E3 hf hf3
  go_wp2_with (fail)
  generalize w2.alloc (.cells #[.int .i64 c.s, .slice c.p.a c.p.n c.p.c, .slice c.h0.a c.h0.n c.h0.c, .slice c.h1.a c.h1.n c.h1.c, .slice c.h2.a c.h2.n c.h2.c, .slice c.h3.a c.h3.n c.h3.c, .slice c.o.a c.o.n c.o.c, .slice c.i.a c.i.n c.i.c, .slice c.e.a c.e.n c.e.c] 37) = W3 at HC HO HE HF z3 ⊢
  refine (isin_any c t W3 HE.out.a (by have := ES.out; have := EI.out; omega)).mono ?_
  rintro e w4 ⟨⟨r, rfl, hr⟩, hb⟩
  have hc := HC.out.later hb
  have co := HO.out.later hb
  have E := HE.out.later hb
  have hf := HF.out.later hb
  have z4 := hb.size
  clear HC HO HE HF hb
  cases r
  · obtain ⟨w9, e9, ck9, ow9, be9⟩ := ans hc.t hc.z hc.e.b co (by omega) (by omega)
    have NO : Hid (¬ ((0 ≤ t ∧ t < b.s) ∧ c.i.f t.toNat = 1)) := fun g => hr.f ⟨⟨g.1.1, by rw [ES.out]; exact g.1.2⟩, by rw [g.2]; decide⟩
    have tk0 := hc.t 0 _ rfl
    have tk1 := hc.t 1 _ rfl
    have tk2 := hc.t 2 _ rfl
    have tk3 := hc.t 3 _ rfl
    have tk4 := hc.t 4 _ rfl
    have tk5 := hc.t 5 _ rfl
    have tk6 := hc.t 6 _ rfl
    have tk7 := hc.t 7 _ rfl
    have tk8 := hc.t 8 _ rfl
    obtain ⟨u0, u1, u2, u3, u4, u5, u6, u7, u8⟩ := nine E.r
    have HE : Hid (w9 = _) := e9
    clear hc co E hf hr e9
    go_wp2_with (fail)
    rw [← HE.out]
    exact bodyPost_ret (results_cell_mid rfl _ _ (w.heap.size + 1) 0 _ _ rfl ck9.range Try.underlying37 rfl (by kernel_rfl)) rfl ⟨c, rfl, .inl ⟨OK.out, cut_miss cm NO.out⟩, ow9, be9⟩
  · obtain ⟨⟨ht0, ht1⟩, hne⟩ := hr.t
    obtain ⟨j, rfl⟩ := Int.eq_ofNat_of_zero_le ht0
    simp only [Int.toNat_natCast] at hne
    have hj : j < c.i.n := by have := ES.out; have := EI.out; omega
    have c1 := hf j hj
    by_cases one : c.i.f j = 1
    · have ow := co.write (b' := c.seti j 2) 6 c.i rfl k j HK.out hj 2 rfl
      have oo : Only k (k + 1) w4 (w4.setCell ⟨k, j, none⟩ (.int .i64 2)) := (Only.refl _ _ _).setCell k j (Nat.le_refl _) (by omega) _
      have hc5 := hc.only h oo (by omega)
      obtain ⟨w9, e9, ck9, ow9, be9⟩ := ans hc5.t hc5.z hc5.e.b ow (by omega) (by have := oo.size; omega)
      simp only [Bx.seti, Sx.put, HK.out] at e9
      have tk0 := hc5.t 0 _ rfl
      have tk1 := hc5.t 1 _ rfl
      have tk2 := hc5.t 2 _ rfl
      have tk3 := hc5.t 3 _ rfl
      have tk4 := hc5.t 4 _ rfl
      have tk5 := hc5.t 5 _ rfl
      have tk6 := hc5.t 6 _ rfl
      have tk7 := hc5.t 7 _ rfl
      have tk8 := hc5.t 8 _ rfl
      obtain ⟨u0, u1, u2, u3, u4, u5, u6, u7, u8⟩ := nine E.r
      have CM : Hid ((c.seti j 2).m = cutM b.m j) := cut_hit cm (by rw [← ES.out]; exact ht1) one
      have HE : Hid (w9 = _) := e9
      have kne : k ≠ w2.heap.size := by omega
      have kne2 : k ≠ w.heap.size + 1 := by omega
      have hjI : (j : Int) < c.i.n := by omega
      rw [one] at c1
      rw [HK.out] at u7
      clear hc co E hf hr e9 ow oo hc5 hne one
      go_wp2_with (fail)
      rw [← HE.out]
      exact bodyPost_ret (results_cell_mid rfl _ _ (w.heap.size + 1) 0 _ _ rfl ck9.range Try.underlying37 rfl (by kernel_rfl)) rfl ⟨c.seti j 2, by simp [Bx.cells, Bx.seti, Sx.put, HK.out], .inl ⟨OK.out, CM.out⟩, ow9, be9⟩
    · obtain ⟨w9, e9, ck9, ow9, be9⟩ := ans hc.t hc.z hc.e.b co (by omega) (by omega)
      simp only [HK.out] at e9
      have NO : Hid (¬ ((0 ≤ (j : Int) ∧ (j : Int) < b.s) ∧ c.i.f (j : Int).toNat = 1)) := fun g => one (by simpa using g.2)
      have tk0 := hc.t 0 _ rfl
      have tk1 := hc.t 1 _ rfl
      have tk2 := hc.t 2 _ rfl
      have tk3 := hc.t 3 _ rfl
      have tk4 := hc.t 4 _ rfl
      have tk5 := hc.t 5 _ rfl
      have tk6 := hc.t 6 _ rfl
      have tk7 := hc.t 7 _ rfl
      have tk8 := hc.t 8 _ rfl
      obtain ⟨u0, u1, u2, u3, u4, u5, u6, u7, u8⟩ := nine E.r
      have HE : Hid (w9 = _) := e9
      have oneb : (c.i.f j == 1) = false := by simpa using one
      have hjI : (j : Int) < c.i.n := by omega
      rw [HK.out] at u7
      clear hc co E hf hr e9 hne
      go_wp2_with (fail)
      rw [← HE.out]
      exact bodyPost_ret (results_cell_mid rfl _ _ (w.heap.size + 1) 0 _ _ rfl ck9.range Try.underlying37 rfl (by kernel_rfl)) rfl ⟨c, by simp [Bx.cells, HK.out], .inl ⟨OK.out, cut_miss cm NO.out⟩, ow9, be9⟩

end Go.Proofs.Ytfijhclocncplaa.Book

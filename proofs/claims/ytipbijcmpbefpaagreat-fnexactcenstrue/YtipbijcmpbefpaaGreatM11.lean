import Derived.Test.YtipbijcmpbefpaaGreatM10

/- The values of a book: what they are; each function of the writing visitor lays one more. -/
namespace Go.Proofs.YtipbijcmpbefpaaGreat.Book
open Go.ChangeShapes Go.WideShapes Go.ChangeAt Go.RowKit
open Go.Proofs.YtipbijcmpbefpaaGreat.Aid Go.Proofs.YtipbijcmpbefpaaGreat.Lst
set_option maxRecDepth 100000
set_option linter.unusedVariables false

/- The value of each word ahead of the desks. -/
def layF (b : Bx) (s p : Nat) (j : Nat) : Int :=
  if j < 3 then 0 else if j < 3 + s then b.i.f (j - 3) + b.e.f (j - 3) * 4 else if j < 3 + s + s then 0 else if j < 3 + s + s + 4 then nx (b.hd (j - (3 + s + s))) 0 else
  if j < 3 + s + s + 4 + p then b.p.f (j - (3 + s + s + 4)) else if j < 3 + s + s + 4 + p + p * 8 then b.o.f (j - (3 + s + s + 4 + p)) else lkK b 4 (j - (3 + s + s + 4 + p + p * 8))
def cutv (b : Bx) (s p T : Nat) (j : Nat) : Int := if j < T then layF b s p j else 0
theorem cut_up {b : Bx} {s p T : Nat} {v : Int} (h : layF b s p T = v) : upd (cutv b s p T) T v = cutv b s p (T + 1) := by
  funext j
  unfold upd cutv
  by_cases e : j = T
  · subst e; rw [if_pos rfl, if_pos (by omega), h]
  · rw [if_neg e]
    by_cases g : j < T
    · rw [if_pos g, if_pos (by omega)]
    · rw [if_neg g, if_neg (by omega)]
theorem cut_beats {b : Bx} {s p : Nat} : cutv b s p (3 + s) = cutv b s p (3 + s + s) := by
  funext j
  unfold cutv
  by_cases g : j < 3 + s
  · rw [if_pos g, if_pos (by omega)]
  · rw [if_neg g]
    split
    · unfold layF
      rw [if_neg (by omega), if_neg g, if_pos (by assumption)]
    · rfl
theorem cut_zero {b : Bx} {s p : Nat} : cutv b s p 3 = fun _ => 0 := by
  funext j
  unfold cutv
  split
  · unfold layF; rw [if_pos (by assumption)]
  · rfl
theorem lay_reg {b : Bx} {s p n : Nat} (h : n < s) : layF b s p (3 + n) = b.i.f n + b.e.f n * 4 := by
  unfold layF; rw [if_neg (by omega), if_pos (by omega), show 3 + n - 3 = n by omega]
theorem lay_head {b : Bx} {s p n : Nat} (h : n < 4) : layF b s p (3 + s + s + n) = nx (b.hd n) 0 := by
  unfold layF; rw [if_neg (by omega), if_neg (by omega), if_neg (by omega), if_pos (by omega), show 3 + s + s + n - (3 + s + s) = n by omega]
theorem lay_page {b : Bx} {s p n : Nat} (h : n < p) : layF b s p (3 + s + s + 4 + n) = b.p.f n := by
  unfold layF; rw [if_neg (by omega), if_neg (by omega), if_neg (by omega), if_neg (by omega), if_pos (by omega), show 3 + s + s + 4 + n - (3 + s + s + 4) = n by omega]
theorem lay_tag {b : Bx} {s p n : Nat} (h : n < p * 8) : layF b s p (3 + s + s + 4 + p + n) = b.o.f n := by
  unfold layF; rw [if_neg (by omega), if_neg (by omega), if_neg (by omega), if_neg (by omega), if_neg (by omega), if_pos (by omega), show 3 + s + s + 4 + p + n - (3 + s + s + 4 + p) = n by omega]
theorem lay_link {b : Bx} {s p n : Nat} : layF b s p (3 + s + s + 4 + p + p * 8 + n) = lkK b 4 n := by
  unfold layF; rw [if_neg (by omega), if_neg (by omega), if_neg (by omega), if_neg (by omega), if_neg (by omega), if_neg (by omega), show 3 + s + s + 4 + p + p * 8 + n - (3 + s + s + 4 + p + p * 8) = n by omega]

theorem Sx.At.only {x : Sx} {w w1 : World} {vk : Nat} (h : x.At w) (ho : Only vk (vk + 1) w w1) (aw : ∀ k o, x.a = some ⟨k, o, none⟩ → 0 < x.n → k ≠ vk) : x.At w1 := by
  rcases h with h | ⟨k, o, e, h⟩
  · exact .inl h
  · exact .inr ⟨k, o, e, fun j hj => by
      have hc := h j hj
      have := aw k o e (by omega)
      rw [ho.cell (k := k) (o := o + j) (World.block_lt_of_cell? w _ hc) (by omega)]; exact hc⟩
theorem BB.only {bb vk : Nat} {b : Bx} {w w1 : World} (h : BB bb b w) (ho : Only vk (vk + 1) w w1) (aw : Away b vk) (hb : bb ≠ vk) : BB bb b w1 :=
  ⟨fun j v hv => by have hc := h.r j v hv; rw [ho.cell (k := bb) (o := 0 + j) (World.block_lt_of_cell? w _ hc) (by omega)]; exact hc, fun x hx => (h.a x hx).only ho (aw x hx)⟩
theorem LB.only {lb vk : Nat} {x : Sx} {w w1 : World} (h : LB lb x w) (ho : Only vk (vk + 1) w w1) (aw : ∀ k o, x.a = some ⟨k, o, none⟩ → 0 < x.n → k ≠ vk) (hb : lb ≠ vk) : LB lb x w1 :=
  ⟨by have hc := h.b; rw [ho.cell (k := lb) (o := 0) (World.block_lt_of_cell? w _ hc) (by omega)]; exact hc, h.a.only ho aw⟩

/- What holds while values are laid, all below T having been. -/
structure Lays (b : Bx) (lk : Sx) (s p bb vb vk l1 l2 l3 : Nat) (T : Nat) (w : World) : Prop where
  v : VB vb vk (3 + s + s + 4 + p + p * 8 + p * 8) (cutv b s p T) w
  e : BB bb b w
  x1 : LB l1 b.p w
  x2 : LB l2 b.o w
  x3 : LB l3 lk w
theorem Lays.later {b : Bx} {lk : Sx} {s p bb vb vk l1 l2 l3 T : Nat} {w w1 : World} (h : Lays b lk s p bb vb vk l1 l2 l3 T w) (hb : Below w.heap.size w w1) : Lays b lk s p bb vb vk l1 l2 l3 T w1 :=
  ⟨h.v.later hb, h.e.later hb, h.x1.later hb, h.x2.later hb, h.x3.later hb⟩
/- Where nothing lies in the values' own row. -/
structure Aways (b : Bx) (lk : Sx) (bb vb vk l1 l2 l3 : Nat) : Prop where
  a : Away b vk
  k : ∀ k o, lk.a = some ⟨k, o, none⟩ → 0 < lk.n → k ≠ vk
  bb : bb ≠ vk
  vb : vb ≠ vk
  l1 : l1 ≠ vk
  l2 : l2 ≠ vk
  l3 : l3 ≠ vk
theorem Lays.up {b : Bx} {lk : Sx} {s p bb vb vk l1 l2 l3 T : Nat} {w w1 : World} (h : Lays b lk s p bb vb vk l1 l2 l3 T w) (aw : Aways b lk bb vb vk l1 l2 l3) (ho : Only vk (vk + 1) w w1) {v : Int} (hv : layF b s p T = v) (hf : Fk .i64 (3 + s + s + 4 + p + p * 8 + p * 8) w1 vk (upd (cutv b s p T) T v)) : Lays b lk s p bb vb vk l1 l2 l3 (T + 1) w1 :=
  ⟨⟨by have hc := h.v.b; rw [ho.cell (k := vb) (o := 0) (World.block_lt_of_cell? w _ hc) (by have := aw.vb; omega)]; exact hc, by rw [← cut_up hv]; exact hf⟩, h.e.only ho aw.a aw.bb, h.x1.only ho (aw.a b.p (by simp [Bx.lists])) aw.l1, h.x2.only ho (aw.a b.o (by simp [Bx.lists])) aw.l2, h.x3.only ho aw.k aw.l3⟩

theorem sees_reg {b : Bx} {lk : Sx} {s p bb vb vk l1 l2 l3 : Nat} (ok : OkP b) (es : b.s = s) (ep : b.p.n = p) (aw : Aways b lk bb vb vk l1 l2 l3) :
    Sees (Lays b lk s p bb vb vk l1 l2 l3) vk (vk + 1) 94 #[.pointer (some ⟨bb, 0, none⟩), .pointer (some ⟨vb, 0, none⟩)] 3 s := fun n w hn _ hi => by
  have li := ok.1.1.2.2.1
  have le := ok.1.1.2.2.2.1
  have l4 := ok.1.1.2.1
  obtain ⟨i0, i1, p0, p1, -⟩ := ok.1.2.1 n (by omega)
  have := ok.nums
  exact (wreg_any bb vb vk _ n (3 + n) b _ w hi.e hi.v (by omega) (by omega) (by omega) (by omega) (by omega) (by omega) aw.bb aw.vb aw.a i0 i1 p0 p1).mono fun e w' ⟨he, hf, ho⟩ => ⟨he, hi.up aw ho (lay_reg hn) hf, ho⟩
theorem hd_small {b : Bx} (ok : OkP b) (k : Nat) (hk : k < 4) : (b.hd k).n ≤ b.o.n ∧ ∀ i, i < (b.hd k).n → 0 ≤ (b.hd k).f i ∧ (b.hd k).f i < b.o.n :=
  ⟨(ok.2.1 k hk).1, fun i hi => ⟨((ok.2.1 k hk).2 i hi).1, ((ok.2.1 k hk).2 i hi).2.1⟩⟩
theorem sees_head {b : Bx} {lk : Sx} {s p bb vb vk l1 l2 l3 : Nat} (ok : OkP b) (es : b.s = s) (ep : b.p.n = p) (aw : Aways b lk bb vb vk l1 l2 l3) :
    Sees (Lays b lk s p bb vb vk l1 l2 l3) vk (vk + 1) 95 #[.pointer (some ⟨bb, 0, none⟩), .pointer (some ⟨vb, 0, none⟩)] (3 + s + s) 4 := fun n w hn _ hi => by
  have l4 := ok.1.1.2.1
  have := ok.nums
  obtain ⟨h1, h2⟩ := hd_small ok n hn
  exact (whead_any bb vb vk _ n (3 + s + s + n) b _ w hi.e hi.v hn (by omega) (fun i hi => ⟨(h2 i hi).1, by have := (h2 i hi).2; omega⟩) (by omega) (by omega) aw.bb aw.vb aw.a).mono fun e w' ⟨he, hf, ho⟩ => ⟨he, hi.up aw ho (lay_head hn) hf, ho⟩
theorem sees_page {b : Bx} {lk : Sx} {s p bb vb vk l1 l2 l3 : Nat} (ok : OkP b) (es : b.s = s) (ep : b.p.n = p) (aw : Aways b lk bb vb vk l1 l2 l3) :
    Sees (Lays b lk s p bb vb vk l1 l2 l3) vk (vk + 1) 93 #[.pointer (some ⟨l1, 0, none⟩), .pointer (some ⟨vb, 0, none⟩)] (3 + s + s + 4) p := fun n w hn _ hi => by
  have l4 := ok.1.1.2.1
  have := ok.nums
  exact (wcopy_any l1 vb vk _ n (3 + s + s + 4 + n) b.p _ w hi.x1 hi.v (by omega) (by omega) (by omega) (by omega) aw.l1 aw.vb (fun k o e => aw.a b.p (by simp [Bx.lists]) k o e (by omega))).mono fun e w' ⟨he, hf, ho⟩ => ⟨he, hi.up aw ho (lay_page hn) hf, ho⟩
theorem sees_tag {b : Bx} {lk : Sx} {s p bb vb vk l1 l2 l3 : Nat} (ok : OkP b) (es : b.s = s) (ep : b.p.n = p) (aw : Aways b lk bb vb vk l1 l2 l3) :
    Sees (Lays b lk s p bb vb vk l1 l2 l3) vk (vk + 1) 93 #[.pointer (some ⟨l2, 0, none⟩), .pointer (some ⟨vb, 0, none⟩)] (3 + s + s + 4 + p) (p * 8) := fun n w hn _ hi => by
  have l4 := ok.1.1.2.1
  have := ok.nums
  exact (wcopy_any l2 vb vk _ n (3 + s + s + 4 + p + n) b.o _ w hi.x2 hi.v (by omega) (by omega) (by omega) (by omega) aw.l2 aw.vb (fun k o e => aw.a b.o (by simp [Bx.lists]) k o e (by omega))).mono fun e w' ⟨he, hf, ho⟩ => ⟨he, hi.up aw ho (lay_tag hn) hf, ho⟩
theorem sees_link {b : Bx} {lk : Sx} {s p bb vb vk l1 l2 l3 : Nat} (ok : OkP b) (es : b.s = s) (ep : b.p.n = p) (aw : Aways b lk bb vb vk l1 l2 l3) (hl : lk.n = b.o.n) (hf : lk.f = lkK b 4) :
    Sees (Lays b lk s p bb vb vk l1 l2 l3) vk (vk + 1) 93 #[.pointer (some ⟨l3, 0, none⟩), .pointer (some ⟨vb, 0, none⟩)] (3 + s + s + 4 + p + p * 8) (p * 8) := fun n w hn _ hi => by
  have l4 := ok.1.1.2.1
  have := ok.nums
  exact (wcopy_any l3 vb vk _ n (3 + s + s + 4 + p + p * 8 + n) lk _ w hi.x3 hi.v (by omega) (by omega) (by omega) (by omega) aw.l3 aw.vb (fun k o e => aw.k k o e (by omega))).mono fun e w' ⟨he, hg, ho⟩ => ⟨he, hi.up aw ho (by rw [hf]; exact lay_link) hg, ho⟩

end Go.Proofs.YtipbijcmpbefpaaGreat.Book

/- CensLay of the program. -/
namespace Go.Proofs.YtipbijcmpbefpaaGreat.Book
open Go.ChangeShapes Go.WideShapes Go.ChangeAt Go.RowKit
open Go.Proofs.YtipbijcmpbefpaaGreat.Aid Go.Proofs.YtipbijcmpbefpaaGreat.Lst
open Go.Proofs.YtipbijcmpbefpaaGreat.Plat (okB okB_of layL layL_len layL_get)
set_option maxRecDepth 100000
set_option linter.unusedVariables false

/- Whether a book is one of a house. -/
def FitP (s p l : Int) (b : Bx) : Prop := okB s p l = true ∧ OkP b ∧ b.s = s ∧ (b.p.n : Int) = p
def LayQ (s p l : Int) (b : Bx) (base : Nat) (w' : World) (e : Ending) : Prop :=
  (FitP s p l b ∧ ∃ (S P k : Nat), s = S ∧ p = P ∧ e = .returned (.slice (some ⟨k, 0, none⟩) (3 + S + S + 4 + P + P * 8 + P * 8) (3 + S + S + 4 + P + P * 8 + P * 8)) ∧ base ≤ k ∧ k < w'.heap.size ∧ Fk .i64 (3 + S + S + 4 + P + P * 8 + P * 8) w' k (layF b S P)) ∨
  (¬ FitP s p l b ∧ e = .returned (.slice none 0 0))

/- A house and a book, each in a box. -/
structure HB (w0 : World) (s p l : Int) (b : Bx) (w : World) : Prop where
  c : w.rangeAt w0.heap.size 0 (ints [s, p, l])
  e : BB (w0.heap.size + 1) b w
  b : Below w0.heap.size w0 w
  z : w0.heap.size + 2 ≤ w.heap.size
theorem HB.later {w0 w w1 : World} {s p l : Int} {b : Bx} (h : HB w0 s p l b w) (hb : Below w.heap.size w w1) : HB w0 s p l b w1 :=
  ⟨range_below hb h.c (by have := h.z; omega), h.e.later hb, h.b.trans (hb.mono h.b.size), Nat.le_trans h.z hb.size⟩

theorem HB.drew {w0 w : World} {s p l : Int} {b : Bx} (h : HB w0 s p l b w) : HB w0 s p l b w.drew := ⟨h.c, ⟨h.e.r, h.e.a⟩, ⟨h.b.os, h.b.tape, h.b.output, h.b.size, h.b.block⟩, h.z⟩
theorem HB.only {w0 w w1 : World} {s p l : Int} {b : Bx} {k : Nat} (h : HB w0 s p l b w) (hA : b.At w0) (ho : Only k (k + 1) w w1) (hk : w0.heap.size + 2 ≤ k) : HB w0 s p l b w1 :=
  have hz := h.z
  have hb : Below (w0.heap.size + 2) w w1 := ⟨ho.os, ho.tape, ho.output, ho.size, fun i hi => ho.block i (by omega) (.inl (by omega))⟩
  have hw : Below w0.heap.size w0 w1 := h.b.trans (hb.mono (by omega))
  ⟨range_below hb h.c (by omega), ⟨range_below hb h.e.r (by omega), hA.later hw⟩, hw, Nat.le_trans hz ho.size⟩
theorem away_of {b : Bx} {w : World} {vk : Nat} (h : b.At w) (hv : w.heap.size ≤ vk) : Away b vk := fun x hx k o e hp hk => by
  rcases h x hx with h0 | ⟨k', o', e', hc⟩
  · omega
  · rw [e] at e'
    cases e'
    have := World.block_lt_of_cell? w _ (hc 0 hp)
    simp at this
    omega

set_option maxHeartbeats 16000000 in
theorem lay_any (s p l : Int) (b : Bx) (w : World) (h : b.At w) (hn : b.total ≤ 1000000000) (hcap : b.o.n ≤ b.o.c) :
    Calls Tryz.prog 8 #[.agg #[.int .i64 s, .int .i64 p, .int .i64 l], .agg b.cells.toArray] w fun e w' => LayQ s p l b w.heap.size w' e ∧ Below w.heap.size w w' := by
  have S0 : HB w s p l b ((w.alloc (.cells #[.int .i64 s, .int .i64 p, .int .i64 l] 24)).alloc (.cells #[.int .i64 b.s, .slice b.p.a b.p.n b.p.c, .slice b.h0.a b.h0.n b.h0.c, .slice b.h1.a b.h1.n b.h1.c, .slice b.h2.a b.h2.n b.h2.c, .slice b.h3.a b.h3.n b.h3.c, .slice b.o.a b.o.n b.o.c, .slice b.i.a b.i.n b.i.c, .slice b.e.a b.e.n b.e.c] 28)) := ⟨range_lit (ints [s, p, l]).toArray (heap2_0 w _ _), ⟨range_lit #[.int .i64 b.s, .slice b.p.a b.p.n b.p.c, .slice b.h0.a b.h0.n b.h0.c, .slice b.h1.a b.h1.n b.h1.c, .slice b.h2.a b.h2.n b.h2.c, .slice b.h3.a b.h3.n b.h3.c, .slice b.o.a b.o.n b.o.c, .slice b.i.a b.i.n b.i.c, .slice b.e.a b.e.n b.e.c] (heap2_1 w _ _), h.later (below2 _ _ _)⟩, below2 _ _ _, by simp⟩
  simp only [Bx.cells]
  go_enter Tryz.func8, Tryz.ntmps8
  go_wp2_with (fail)
  generalize (w.alloc (.cells #[.int .i64 s, .int .i64 p, .int .i64 l] 24)).alloc (.cells #[.int .i64 b.s, .slice b.p.a b.p.n b.p.c, .slice b.h0.a b.h0.n b.h0.c, .slice b.h1.a b.h1.n b.h1.c, .slice b.h2.a b.h2.n b.h2.c, .slice b.h3.a b.h3.n b.h3.c, .slice b.o.a b.o.n b.o.c, .slice b.i.a b.i.n b.i.c, .slice b.e.a b.e.n b.e.c] 28) = W at S0 ⊢
  refine (Plat.ok_any s p l W).mono ?_
  rintro e w1 ⟨rfl, hb⟩
  have hS := S0.later hb
  clear hb S0
  by_cases hok : okB s p l = true
  case neg =>
    have hok' : okB s p l = false := by simpa using hok
    have NF : Hid (¬ FitP s p l b) := fun g => hok g.1
    rw [hok']
    clear hok hok'
    go_wp2_with (fail)
    go_ret
    exact ⟨.inr ⟨NF.out, rfl⟩, hS.b⟩
  rw [hok]
  have OKB : Hid (okB s p l = true) := hok
  clear hok
  have HS : Hid (HB w s p l b w1) := hS
  obtain ⟨u0, u1, u2, u3, u4, u5, u6, u7, u8⟩ := nine hS.e.r
  have z1 := hS.z
  clear hS
  go_wp2_with (fail)
  clear u0 u1 u2 u3 u4 u5 u6 u7 u8
  refine (ok_any b w1 HS.out.e.a hn hcap).mono ?_
  rintro e w2 ⟨⟨r, rfl, hr⟩, hb⟩
  have hS := HS.out.later hb
  clear hb HS z1
  cases r
  · have NF : Hid (¬ FitP s p l b) := fun g => hr.f g.2.1
    clear hr
    go_wp2_with (fail)
    go_ret
    exact ⟨.inr ⟨NF.out, rfl⟩, hS.b⟩
  have OKP : Hid (OkP b) := hr.t
  clear hr
  obtain ⟨u0, u1, u2, u3, u4, u5, u6, u7, u8⟩ := nine hS.e.r
  have c0 : w2.cell? ⟨w.heap.size, 0, none⟩ = some (.int .i64 s) := hS.c 0 _ rfl
  have c1 : w2.cell? ⟨w.heap.size, 1, none⟩ = some (.int .i64 p) := hS.c 1 _ rfl
  have c2 : w2.cell? ⟨w.heap.size, 2, none⟩ = some (.int .i64 l) := hS.c 2 _ rfl
  have HS : Hid (HB w s p l b w2) := hS
  have z2 := hS.z
  clear hS
  by_cases e1 : b.s = s
  case neg =>
    have e1b : (b.s != s) = true := by simpa using e1
    have NF : Hid (¬ FitP s p l b) := fun g => e1 g.2.2.1
    clear e1
    go_wp2_with (fail)
    go_ret
    exact ⟨.inr ⟨NF.out, rfl⟩, HS.out.b⟩
  have e1b : (b.s != s) = false := by simp [e1]
  have E1 : Hid (b.s = s) := e1
  clear e1
  by_cases e2 : (b.p.n : Int) = p
  case neg =>
    have e2b : ((b.p.n : Int) != p) = true := by simpa using e2
    have NF : Hid (¬ FitP s p l b) := fun g => e2 g.2.2.2
    clear e2
    go_wp2_with (fail)
    go_ret
    exact ⟨.inr ⟨NF.out, rfl⟩, HS.out.b⟩
  have e2b : ((b.p.n : Int) != p) = false := by simp [e2]
  have E2 : Hid ((b.p.n : Int) = p) := e2
  clear e2
  go_wp2_with (fail)
  clear u0 u1 u2 u3 u4 u5 u6 u7 u8 c0 c1 c2 e1b e2b
  obtain ⟨k1, k2, k3, k4, k5, k6⟩ := okB_of OKB.out
  obtain ⟨S, rfl⟩ := Int.eq_ofNat_of_zero_le (show 0 ≤ s by omega)
  obtain ⟨P, rfl⟩ := Int.eq_ofNat_of_zero_le (show 0 ≤ p by omega)
  refine (Plat.lay_ok S P l w2 OKB.out).mono ?_
  rintro e w3 ⟨rfl, hb⟩
  have hS := HS.out.later hb
  have sz25 : (ints (layL S P)).toArray.size = 25 := by simp [ints, layL]
  have T3 : (w3.alloc (.cells (ints Plat.zeroL).toArray 61)).there w3.heap.size 0 (ints (layL S P)).toArray.size := by
    rw [sz25]; exact there_lit (ints Plat.zeroL).toArray (heap1_0 _ _)
  have b4 : Below w3.heap.size w3 ((w3.alloc (.cells (ints Plat.zeroL).toArray 61)).setCells w3.heap.size 0 (ints (layL S P)).toArray.toList) := below_setCells (below1 _ _) (Nat.le_refl _) _ _
  have r4 : ((w3.alloc (.cells (ints Plat.zeroL).toArray 61)).setCells w3.heap.size 0 (ints (layL S P)).toArray.toList).rangeAt w3.heap.size 0 (ints (layL S P)) := World.rangeAt_setCells_same _ _ _ _ (by simpa using T3)
  have y4 : w3.heap.size < ((w3.alloc (.cells (ints Plat.zeroL).toArray 61)).setCells w3.heap.size 0 (ints (layL S P)).toArray.toList).heap.size := Nat.lt_of_lt_of_le (by simp) (below_setCells (Below.refl (w3.alloc (.cells (ints Plat.zeroL).toArray 61)).heap.size _ |>.mono (by simp)) (Nat.le_refl _) (ints (layL S P)).toArray.toList 0 : Below w3.heap.size _ _).size
  have HT : Hid (World.there _ _ _ _) := T3
  have HS4 : Hid (HB w S P l b _) := hS.later b4
  have HR4 : Hid (World.rangeAt _ _ _ _) := r4
  have HY4 : Hid (_ < _) := y4
  have z3 := hS.z
  clear hb HS z2 hS T3 b4 r4 y4 sz25
  obtain ⟨H, hH⟩ : ∃ H : Nat, H = 3 + S + S + 4 + P + P * 8 + P * 8 := ⟨_, rfl⟩
  have nH : H ≤ 300 := by omega
  have HH : Hid (H = 3 + S + S + 4 + P + P * 8 + P * 8) := hH
  clear hH
  have hmk := fun w => run_make_row' (P := Tryz.prog) 25 3 (.int .i64 0) 8 Tryz.underlying25 infoInt rfl .i64 .i64 H (by omega) (by omega) w
  go_wp2_with (refine wpList_store_mid rfl 61 _ _ rfl _ _ _ rfl rfl HT.out (by kernel_rfl) (ints_one _) ?_; generalize hW : World.setCells _ _ _ _ = W4; replace HS4 : Hid (HB w S P l b W4) := (by rw [← hW]; exact HS4.out); replace HR4 : Hid (W4.rangeAt w3.heap.size 0 (ints (layL S P))) := (by rw [← hW]; exact HR4.out); replace HY4 : Hid (w3.heap.size < W4.heap.size) := (by rw [← hW]; exact HY4.out); clear hW HT; have c23 : W4.cell? ⟨w3.heap.size, 23, none⟩ = some (.int .i64 (H : Int)) := (by rw [HH.out]; have := HR4.out 23 (.int .i64 (Plat.cell2 S P 8 23)) (by rw [ints_get _ _ (by rw [layL_len]; omega), layL_get _ _ _ (by omega)]); exact this))
  clear c23 hmk
  have b5 := below1 W4 (.cells (madeCells #[.int .i64 0] H) 3)
  have f5 : Hid (Fk .i64 H _ W4.heap.size (fun _ => 0)) := fk_made .i64 W4 H 3
  have HS5 : Hid (HB w S P l b _) := HS4.out.later b5
  have HR5 : Hid (World.rangeAt _ w3.heap.size 0 (ints (layL S P))) := range_below b5 HR4.out HY4.out
  have y5 : W4.heap.size < (W4.alloc (.cells (madeCells #[.int .i64 0] H) 3)).heap.size := by simp
  have y4 : w3.heap.size < W4.heap.size := HY4.out
  clear b5 HS4 HR4 HY4
  generalize W4.alloc (.cells (madeCells #[.int .i64 0] H) 3) = W5 at f5 HS5 HR5 y5 ⊢
  obtain ⟨vk, hvk⟩ : ∃ vk, vk = W4.heap.size := ⟨_, rfl⟩
  rw [← hvk] at f5 y5 y4 ⊢
  clear hvk
  have S1 : (fun w' : World => HB w S P l b w' ∧ w'.rangeAt w3.heap.size 0 (ints (layL S P))) W5.drew := ⟨HS5.out.drew, HR5.out⟩
  have f6 : Hid (Fk .i64 H W5.drew vk (fun _ => 0)) := f5.out
  have y6 : vk < W5.drew.heap.size := y5
  clear HS5 HR5 f5 y5
  refine wp_region_held_drew (S := (fun w' : World => HB w S P l b w' ∧ w'.rangeAt w3.heap.size 0 (ints (layL S P)))) (by kernel_rfl) S1 (fun hS => ?_)
  clear S1
  refine takeB (i := 0) (v := .agg #[.int .i64 b.s, .slice b.p.a b.p.n b.p.c, .slice b.h0.a b.h0.n b.h0.c, .slice b.h1.a b.h1.n b.h1.c, .slice b.h2.a b.h2.n b.h2.c, .slice b.h3.a b.h3.n b.h3.c, .slice b.o.a b.o.n b.o.c, .slice b.i.a b.i.n b.i.c, .slice b.e.a b.e.n b.e.c]) (d := some 36) rfl rfl (by kernel_rfl) (by kernel_rfl) (by kernel_rfl) (fun _ _ _ h => h) (Or.inl ⟨by rfl, fun w' hw => ?_⟩) (by assumption) ?_
  · obtain ⟨u0, u1, u2, u3, u4, u5, u6, u7, u8⟩ := nine hw.1.e.r; clear hw; go_simp
  simp only [Act.put, List.setIfInBounds_toArray, List.set_cons_zero, List.set_cons_succ]
  refine takeB (i := 1) (v := .agg #[.int .i64 b.s, .slice b.p.a b.p.n b.p.c, .slice b.h0.a b.h0.n b.h0.c, .slice b.h1.a b.h1.n b.h1.c, .slice b.h2.a b.h2.n b.h2.c, .slice b.h3.a b.h3.n b.h3.c, .slice b.o.a b.o.n b.o.c, .slice b.i.a b.i.n b.i.c, .slice b.e.a b.e.n b.e.c]) (d := some 37) rfl rfl (by kernel_rfl) (by kernel_rfl) (by kernel_rfl) (fun _ _ _ h => h) (Or.inl ⟨by rfl, fun w' hw => ?_⟩) (by assumption) ?_
  · obtain ⟨u0, u1, u2, u3, u4, u5, u6, u7, u8⟩ := nine hw.1.e.r; clear hw; go_simp
  simp only [Act.put, List.setIfInBounds_toArray, List.set_cons_zero, List.set_cons_succ]
  refine takeB (i := 3) (v := .slice (some ⟨vk, 0, none⟩) H H) (d := some 39) rfl rfl (by kernel_rfl) (by kernel_rfl) (by kernel_rfl) (fun _ _ _ h => h) (Or.inl ⟨by rfl, fun w' hw => ?_⟩) (by assumption) ?_
  · clear hw; go_simp
  simp only [Act.put, List.setIfInBounds_toArray, List.set_cons_zero, List.set_cons_succ]
  refine takeB (i := 5) (v := .agg (ints (layL S P)).toArray) (d := some 41) rfl rfl (by kernel_rfl) (by kernel_rfl) (by kernel_rfl) (fun _ _ _ h => h) (yieldsIf_load_mid (by rfl) 61 _ rfl w3.heap.size 0 rfl (ints (layL S P)) _ (fun w' hw => hw.2) Tryz.underlying61 rfl (by kernel_rfl)) (by assumption) ?_
  simp only [Act.put, List.setIfInBounds_toArray, List.set_cons_zero, List.set_cons_succ]
  generalize World.drew _ = V at hS f6 y6 ⊢
  have n48 := OKP.out.nums
  have n3 : b.o.n ≤ 48 := n48.2.2.2.2
  clear n48
  refine wpAnyH_ready (rs := [2]) (by kernel_rfl) (by simp) ?_
  refine AllReadyH.cons rfl (fun K hK => ?_) AllReadyH.nil
  have HS : Hid (_ ∧ _) := hS
  clear hS
  go_simp
  refine (links_any b V HS.out.1.e.a n3 (fun k hk => hd_small OKP.out k hk)).mono ?_
  rintro e V1 ⟨rfl, fl, hb, zl⟩
  have S2 : (fun w' : World => HB w S P l b w' ∧ w'.rangeAt w3.heap.size 0 (ints (layL S P))) V1 := ⟨HS.out.1.later hb, range_below hb HS.out.2 (by have := y6; omega)⟩
  have f7 : Hid (Fk .i64 H V1 vk (fun _ => 0)) := f6.out.later hb
  have FL : Hid ((⟨some ⟨V.heap.size + 1, 0, none⟩, b.o.n, b.o.n, lkK b 4⟩ : Sx).At V1) := fl.sl
  have y7 : vk < V.heap.size + 1 := by omega
  have y8 := hb.size
  have SS : Hid (_ ∧ _) := S2
  clear fl hb HS S2 f6
  go_simp
  refine hK.out _ _ SS.out (fun hS => ?_)
  clear hK K SS
  refine wpAnyH_ready (rs := [4]) (by kernel_rfl) (by simp) ?_
  refine AllReadyH.cons rfl (fun K hK => ?_) AllReadyH.nil
  have HS : Hid (_ ∧ _) := hS
  clear hS
  go_simp
  refine (writer_any b (⟨some ⟨V.heap.size + 1, 0, none⟩, b.o.n, b.o.n, lkK b 4⟩ : Sx) (some ⟨vk, 0, none⟩) H H V1 HS.out.1.e.a FL.out).mono ?_
  rintro e V2 ⟨l1, l2, l3, rfl, xb, xv, x1, x2, x3, g1, g2, g3, hb⟩
  have S2 : (fun w' : World => HB w S P l b w' ∧ w'.rangeAt w3.heap.size 0 (ints (layL S P))) V2 := ⟨HS.out.1.later hb, range_below hb HS.out.2 (by have := y8; omega)⟩
  have f8 : Hid (Fk .i64 H V2 vk (fun _ => 0)) := f7.out.later hb
  have z8 := hb.size
  have LY : Hid (Lays b (⟨some ⟨V.heap.size + 1, 0, none⟩, b.o.n, b.o.n, lkK b 4⟩ : Sx) S P V1.heap.size (V1.heap.size + 1) vk l1 l2 l3 3 V2) := ⟨⟨by rw [← HH.out]; exact xv, by rw [← HH.out, cut_zero]; exact f8.out⟩, xb, x1, x2, x3⟩
  have AW : Hid (Aways b (⟨some ⟨V.heap.size + 1, 0, none⟩, b.o.n, b.o.n, lkK b 4⟩ : Sx) V1.heap.size (V1.heap.size + 1) vk l1 l2 l3) := ⟨away_of h (by have := HS.out.1.b.size; omega), fun k o e _ => by simp at e; omega, by omega, by omega, by omega, by omega, by omega⟩
  have SS : Hid (_ ∧ _) := S2
  clear xb xv x1 x2 x3 hb HS S2 f7 f8 FL
  go_simp
  refine hK.out _ _ SS.out (fun hS => ?_)
  clear hK K SS
  refine wpAnyH_ready (rs := [6]) (by kernel_rfl) (by simp) ?_
  refine AllReadyH.cons rfl (fun K hK => ?_) AllReadyH.nil
  have HS : Hid (_ ∧ _) := hS
  clear hS
  have es : b.s = S := E1.out
  have ep : b.p.n = P := by have := E2.out; omega
  have vis := visit_any (Lays b (⟨some ⟨V.heap.size + 1, 0, none⟩, b.o.n, b.o.n, lkK b 4⟩ : Sx) S P V1.heap.size (V1.heap.size + 1) vk l1 l2 l3) (fun T w w1 h hb => h.later hb) vk (vk + 1) S P 94 95 93 93 93 _ _ _ _ _ (by omega) (by omega) (fun _ _ => by kernel_rfl) (fun _ _ => by kernel_rfl) (fun _ _ => by kernel_rfl) (fun _ _ => by kernel_rfl) (fun _ _ => by kernel_rfl) (sees_reg OKP.out es ep AW.out) (sees_head OKP.out es ep AW.out) (sees_page OKP.out es ep AW.out) (sees_tag OKP.out es ep AW.out) (sees_link OKP.out es ep AW.out rfl rfl) (fun w h => ⟨⟨h.v.b, by rw [← cut_beats]; exact h.v.f⟩, h.e, h.x1, h.x2, h.x3⟩) V2 (by omega) LY.out
  have VI : Hid (Calls _ _ _ _ _) := vis
  clear vis es ep
  go_simp
  refine VI.out.mono ?_
  rintro e V3 ⟨rfl, ly, ho⟩
  have S3 : (fun w' : World => HB w S P l b w' ∧ w'.rangeAt w3.heap.size 0 (ints (layL S P))) V3 := ⟨HS.out.1.only h ho (by omega), fun j v hv => (ho.cell (k := w3.heap.size) (o := 0 + j) (by omega) (.inl (by omega))).trans (HS.out.2 j v hv)⟩
  have FV : Hid (Fk .i64 H V3 vk (layF b S P)) := by
    unfold Hid
    rw [HH.out]
    exact ly.v.f.congr (fun j hj => by unfold cutv; rw [if_pos hj])
  have FIT : Hid (FitP S P l b) := ⟨OKB.out, OKP.out, E1.out, E2.out⟩
  have y9 := ho.size
  have yb := HS.out.1.b.size
  have SS : Hid (_ ∧ _) := S3
  clear ly ho S3 HS VI LY AW
  go_simp
  refine hK.out _ _ SS.out (fun hS => ?_)
  clear hK K hS
  refine wpAnyH_done (by kernel_rfl) ?_ _
  go_wp2_with (fail)
  go_ret
  exact ⟨.inl ⟨FIT.out, S, P, vk, rfl, rfl, by rw [← HH.out]; rfl, by omega, by omega, by rw [← HH.out]; exact FV.out⟩, SS.out.1.b⟩

end Go.Proofs.YtipbijcmpbefpaaGreat.Book

/- The values of a book: what they are; each function of the writing visitor lays one more. -/
import Derived.Test.YtipbijcmpbefpaaLay3
import Derived.Test.YtipbijcmpbefpaaLay4
namespace Go.Proofs.Ytipbijcmpbefpaa.Book
open Go.ChangeShapes Go.WideShapes Go.ChangeAt Go.RowKit
open Go.Proofs.Ytipbijcmpbefpaa.Aid Go.Proofs.Ytipbijcmpbefpaa.Lst
set_option maxRecDepth 100000
set_option linter.unusedVariables false

/- The value of each word ahead of the desks. -/
def layF (b : Bx) (s p : Nat) (j : Nat) : Int :=
  if j < 3 then 0 else if j < 3 + s then b.i.f (j - 3) + b.e.f (j - 3) * 4 else if j < 3 + s + s then 0 else if j < 3 + s + s + 4 then nx (b.hd (j - (3 + s + s))) 0 else
  if j < 3 + s + s + 4 + p then b.p.f (j - (3 + s + s + 4)) else if j < 3 + s + s + 4 + p + p * 8 then b.o.f (j - (3 + s + s + 4 + p)) else lkK b 4 (j - (3 + s + s + 4 + p + p * 8))
def cutv (b : Bx) (s p T : Nat) (j : Nat) : Int := if j < T then layF b s p j else 0
theorem cut_up {b : Bx} {s p T : Nat} {v : Int} (h : layF b s p T = v) : upd (cutv b s p T) T v = cutv b s p (T + 1) := by
  funext j
  unfold upd cutv
  by_cases e : j = T
  · subst e; rw [if_pos rfl, if_pos (by omega), h]
  · rw [if_neg e]
    by_cases g : j < T
    · rw [if_pos g, if_pos (by omega)]
    · rw [if_neg g, if_neg (by omega)]
theorem cut_beats {b : Bx} {s p : Nat} : cutv b s p (3 + s) = cutv b s p (3 + s + s) := by
  funext j
  unfold cutv
  by_cases g : j < 3 + s
  · rw [if_pos g, if_pos (by omega)]
  · rw [if_neg g]
    split
    · unfold layF
      rw [if_neg (by omega), if_neg g, if_pos (by assumption)]
    · rfl
theorem cut_zero {b : Bx} {s p : Nat} : cutv b s p 3 = fun _ => 0 := by
  funext j
  unfold cutv
  split
  · unfold layF; rw [if_pos (by assumption)]
  · rfl
theorem lay_reg {b : Bx} {s p n : Nat} (h : n < s) : layF b s p (3 + n) = b.i.f n + b.e.f n * 4 := by
  unfold layF; rw [if_neg (by omega), if_pos (by omega), show 3 + n - 3 = n by omega]
theorem lay_head {b : Bx} {s p n : Nat} (h : n < 4) : layF b s p (3 + s + s + n) = nx (b.hd n) 0 := by
  unfold layF; rw [if_neg (by omega), if_neg (by omega), if_neg (by omega), if_pos (by omega), show 3 + s + s + n - (3 + s + s) = n by omega]
theorem lay_page {b : Bx} {s p n : Nat} (h : n < p) : layF b s p (3 + s + s + 4 + n) = b.p.f n := by
  unfold layF; rw [if_neg (by omega), if_neg (by omega), if_neg (by omega), if_neg (by omega), if_pos (by omega), show 3 + s + s + 4 + n - (3 + s + s + 4) = n by omega]
theorem lay_tag {b : Bx} {s p n : Nat} (h : n < p * 8) : layF b s p (3 + s + s + 4 + p + n) = b.o.f n := by
  unfold layF; rw [if_neg (by omega), if_neg (by omega), if_neg (by omega), if_neg (by omega), if_neg (by omega), if_pos (by omega), show 3 + s + s + 4 + p + n - (3 + s + s + 4 + p) = n by omega]
theorem lay_link {b : Bx} {s p n : Nat} : layF b s p (3 + s + s + 4 + p + p * 8 + n) = lkK b 4 n := by
  unfold layF; rw [if_neg (by omega), if_neg (by omega), if_neg (by omega), if_neg (by omega), if_neg (by omega), if_neg (by omega), show 3 + s + s + 4 + p + p * 8 + n - (3 + s + s + 4 + p + p * 8) = n by omega]

theorem Sx.At.only {x : Sx} {w w1 : World} {vk : Nat} (h : x.At w) (ho : Only vk (vk + 1) w w1) (aw : ∀ k o, x.a = some ⟨k, o, none⟩ → 0 < x.n → k ≠ vk) : x.At w1 := by
  rcases h with h | ⟨k, o, e, h⟩
  · exact .inl h
  · exact .inr ⟨k, o, e, fun j hj => by
      have hc := h j hj
      have := aw k o e (by omega)
      rw [ho.cell (k := k) (o := o + j) (World.block_lt_of_cell? w _ hc) (by omega)]; exact hc⟩
theorem BB.only {bb vk : Nat} {b : Bx} {w w1 : World} (h : BB bb b w) (ho : Only vk (vk + 1) w w1) (aw : Away b vk) (hb : bb ≠ vk) : BB bb b w1 :=
  ⟨fun j v hv => by have hc := h.r j v hv; rw [ho.cell (k := bb) (o := 0 + j) (World.block_lt_of_cell? w _ hc) (by omega)]; exact hc, fun x hx => (h.a x hx).only ho (aw x hx)⟩
theorem LB.only {lb vk : Nat} {x : Sx} {w w1 : World} (h : LB lb x w) (ho : Only vk (vk + 1) w w1) (aw : ∀ k o, x.a = some ⟨k, o, none⟩ → 0 < x.n → k ≠ vk) (hb : lb ≠ vk) : LB lb x w1 :=
  ⟨by have hc := h.b; rw [ho.cell (k := lb) (o := 0) (World.block_lt_of_cell? w _ hc) (by omega)]; exact hc, h.a.only ho aw⟩

/- What holds while values are laid, all below T having been. -/
structure Lays (b : Bx) (lk : Sx) (s p bb vb vk l1 l2 l3 : Nat) (T : Nat) (w : World) : Prop where
  v : VB vb vk (3 + s + s + 4 + p + p * 8 + p * 8) (cutv b s p T) w
  e : BB bb b w
  x1 : LB l1 b.p w
  x2 : LB l2 b.o w
  x3 : LB l3 lk w
theorem Lays.later {b : Bx} {lk : Sx} {s p bb vb vk l1 l2 l3 T : Nat} {w w1 : World} (h : Lays b lk s p bb vb vk l1 l2 l3 T w) (hb : Below w.heap.size w w1) : Lays b lk s p bb vb vk l1 l2 l3 T w1 :=
  ⟨h.v.later hb, h.e.later hb, h.x1.later hb, h.x2.later hb, h.x3.later hb⟩
/- Where nothing lies in the values' own row. -/
structure Aways (b : Bx) (lk : Sx) (bb vb vk l1 l2 l3 : Nat) : Prop where
  a : Away b vk
  k : ∀ k o, lk.a = some ⟨k, o, none⟩ → 0 < lk.n → k ≠ vk
  bb : bb ≠ vk
  vb : vb ≠ vk
  l1 : l1 ≠ vk
  l2 : l2 ≠ vk
  l3 : l3 ≠ vk
theorem Lays.up {b : Bx} {lk : Sx} {s p bb vb vk l1 l2 l3 T : Nat} {w w1 : World} (h : Lays b lk s p bb vb vk l1 l2 l3 T w) (aw : Aways b lk bb vb vk l1 l2 l3) (ho : Only vk (vk + 1) w w1) {v : Int} (hv : layF b s p T = v) (hf : Fk .i64 (3 + s + s + 4 + p + p * 8 + p * 8) w1 vk (upd (cutv b s p T) T v)) : Lays b lk s p bb vb vk l1 l2 l3 (T + 1) w1 :=
  ⟨⟨by have hc := h.v.b; rw [ho.cell (k := vb) (o := 0) (World.block_lt_of_cell? w _ hc) (by have := aw.vb; omega)]; exact hc, by rw [← cut_up hv]; exact hf⟩, h.e.only ho aw.a aw.bb, h.x1.only ho (aw.a b.p (by simp [Bx.lists])) aw.l1, h.x2.only ho (aw.a b.o (by simp [Bx.lists])) aw.l2, h.x3.only ho aw.k aw.l3⟩

theorem sees_reg {b : Bx} {lk : Sx} {s p bb vb vk l1 l2 l3 : Nat} (ok : OkP b) (es : b.s = s) (ep : b.p.n = p) (aw : Aways b lk bb vb vk l1 l2 l3) :
    Sees (Lays b lk s p bb vb vk l1 l2 l3) vk (vk + 1) 93 #[.pointer (some ⟨bb, 0, none⟩), .pointer (some ⟨vb, 0, none⟩)] 3 s := fun n w hn _ hi => by
  have li := ok.1.1.2.2.1
  have le := ok.1.1.2.2.2.1
  have l4 := ok.1.1.2.1
  obtain ⟨i0, i1, p0, p1, -⟩ := ok.1.2.1 n (by omega)
  have := ok.nums
  exact (wreg_any bb vb vk _ n (3 + n) b _ w hi.e hi.v (by omega) (by omega) (by omega) (by omega) (by omega) (by omega) aw.bb aw.vb aw.a i0 i1 p0 p1).mono fun e w' ⟨he, hf, ho⟩ => ⟨he, hi.up aw ho (lay_reg hn) hf, ho⟩
theorem hd_small {b : Bx} (ok : OkP b) (k : Nat) (hk : k < 4) : (b.hd k).n ≤ b.o.n ∧ ∀ i, i < (b.hd k).n → 0 ≤ (b.hd k).f i ∧ (b.hd k).f i < b.o.n :=
  ⟨(ok.2.1 k hk).1, fun i hi => ⟨((ok.2.1 k hk).2 i hi).1, ((ok.2.1 k hk).2 i hi).2.1⟩⟩
theorem sees_head {b : Bx} {lk : Sx} {s p bb vb vk l1 l2 l3 : Nat} (ok : OkP b) (es : b.s = s) (ep : b.p.n = p) (aw : Aways b lk bb vb vk l1 l2 l3) :
    Sees (Lays b lk s p bb vb vk l1 l2 l3) vk (vk + 1) 94 #[.pointer (some ⟨bb, 0, none⟩), .pointer (some ⟨vb, 0, none⟩)] (3 + s + s) 4 := fun n w hn _ hi => by
  have l4 := ok.1.1.2.1
  have := ok.nums
  obtain ⟨h1, h2⟩ := hd_small ok n hn
  exact (whead_any bb vb vk _ n (3 + s + s + n) b _ w hi.e hi.v hn (by omega) (fun i hi => ⟨(h2 i hi).1, by have := (h2 i hi).2; omega⟩) (by omega) (by omega) aw.bb aw.vb aw.a).mono fun e w' ⟨he, hf, ho⟩ => ⟨he, hi.up aw ho (lay_head hn) hf, ho⟩
theorem sees_page {b : Bx} {lk : Sx} {s p bb vb vk l1 l2 l3 : Nat} (ok : OkP b) (es : b.s = s) (ep : b.p.n = p) (aw : Aways b lk bb vb vk l1 l2 l3) :
    Sees (Lays b lk s p bb vb vk l1 l2 l3) vk (vk + 1) 92 #[.pointer (some ⟨l1, 0, none⟩), .pointer (some ⟨vb, 0, none⟩)] (3 + s + s + 4) p := fun n w hn _ hi => by
  have l4 := ok.1.1.2.1
  have := ok.nums
  exact (wcopy_any l1 vb vk _ n (3 + s + s + 4 + n) b.p _ w hi.x1 hi.v (by omega) (by omega) (by omega) (by omega) aw.l1 aw.vb (fun k o e => aw.a b.p (by simp [Bx.lists]) k o e (by omega))).mono fun e w' ⟨he, hf, ho⟩ => ⟨he, hi.up aw ho (lay_page hn) hf, ho⟩
theorem sees_tag {b : Bx} {lk : Sx} {s p bb vb vk l1 l2 l3 : Nat} (ok : OkP b) (es : b.s = s) (ep : b.p.n = p) (aw : Aways b lk bb vb vk l1 l2 l3) :
    Sees (Lays b lk s p bb vb vk l1 l2 l3) vk (vk + 1) 92 #[.pointer (some ⟨l2, 0, none⟩), .pointer (some ⟨vb, 0, none⟩)] (3 + s + s + 4 + p) (p * 8) := fun n w hn _ hi => by
  have l4 := ok.1.1.2.1
  have := ok.nums
  exact (wcopy_any l2 vb vk _ n (3 + s + s + 4 + p + n) b.o _ w hi.x2 hi.v (by omega) (by omega) (by omega) (by omega) aw.l2 aw.vb (fun k o e => aw.a b.o (by simp [Bx.lists]) k o e (by omega))).mono fun e w' ⟨he, hf, ho⟩ => ⟨he, hi.up aw ho (lay_tag hn) hf, ho⟩
theorem sees_link {b : Bx} {lk : Sx} {s p bb vb vk l1 l2 l3 : Nat} (ok : OkP b) (es : b.s = s) (ep : b.p.n = p) (aw : Aways b lk bb vb vk l1 l2 l3) (hl : lk.n = b.o.n) (hf : lk.f = lkK b 4) :
    Sees (Lays b lk s p bb vb vk l1 l2 l3) vk (vk + 1) 92 #[.pointer (some ⟨l3, 0, none⟩), .pointer (some ⟨vb, 0, none⟩)] (3 + s + s + 4 + p + p * 8) (p * 8) := fun n w hn _ hi => by
  have l4 := ok.1.1.2.1
  have := ok.nums
  exact (wcopy_any l3 vb vk _ n (3 + s + s + 4 + p + p * 8 + n) lk _ w hi.x3 hi.v (by omega) (by omega) (by omega) (by omega) aw.l3 aw.vb (fun k o e => aw.k k o e (by omega))).mono fun e w' ⟨he, hg, ho⟩ => ⟨he, hi.up aw ho (by rw [hf]; exact lay_link) hg, ho⟩

end Go.Proofs.Ytipbijcmpbefpaa.Book

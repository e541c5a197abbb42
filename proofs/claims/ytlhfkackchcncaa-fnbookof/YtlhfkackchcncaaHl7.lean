/- A call of a book of one's own and of what is called: its two variables, its answer: over no program. -/
import Derived.Test.YtlhfkackchcncaaKw4
import Derived.Test.YtlhfkackchcncaaKw3
namespace Go.Proofs.Ytlhfkackchcncaa.Book
open Go.ChangeShapes Go.WideShapes Go.ChangeAt Go.RowKit
open Go.Proofs.Ytlhfkackchcncaa.Aid Go.Proofs.Ytlhfkackchcncaa.Lst
set_option maxRecDepth 100000
set_option linter.unusedVariables false

/- What is called: four numbers. -/
structure Ox where
  k : Int
  s : Int
  a : Int
  b : Int
def Ox.cells (o : Ox) : List Value := [.int .i64 o.k, .int .i64 o.s, .int .i64 o.a, .int .i64 o.b]
def z9 : List Value := [.int .i64 0, .slice none 0 0, .slice none 0 0, .slice none 0 0, .slice none 0 0, .slice none 0 0, .slice none 0 0, .slice none 0 0, .slice none 0 0]

structure Dq (w0 : World) (b0 : Bx) (B : Nat) (o : Ox) (b : Bx) (w : World) : Prop where
  e : Ck w w0.heap.size b.cells
  p : Ck w (w0.heap.size + 1) o.cells
  t : Ck w (w0.heap.size + 2) z9
  h : b.Hl B w
  k : ∀ i, b.Lies i → b0.Lies i ∨ w0.heap.size + 3 ≤ i
  l : ∀ i, b0.Lies i → i < w0.heap.size
  f : Fr b0 w0 w
  z : w0.heap.size + 3 ≤ w.heap.size

theorem Dq.start {w0 : World} {b : Bx} {B : Nat} (h : b.Hl B w0) (o : Ox) (t t' : TypeId) : Dq w0 b B o b (((w0.alloc (.cells b.cells.toArray t)).alloc (.cells o.cells.toArray t')).alloc (.cells z9.toArray t)) := by
  have hb := below3 w0 (.cells b.cells.toArray t) (.cells o.cells.toArray t') (.cells z9.toArray t)
  exact ⟨by have := ck_lit b.cells.toArray (heap3_0 w0 (.cells b.cells.toArray t) (.cells o.cells.toArray t') (.cells z9.toArray t)); simpa using this,
    by have := ck_lit o.cells.toArray (heap3_1 w0 (.cells b.cells.toArray t) (.cells o.cells.toArray t') (.cells z9.toArray t)); simpa using this,
    by have := ck_lit z9.toArray (heap3_2 w0 (.cells b.cells.toArray t) (.cells o.cells.toArray t') (.cells z9.toArray t)); simpa using this,
    h.later hb, fun i hi => .inl hi, fun i hi => (h.lies hi).2, Fr.of hb, by simp⟩
theorem Dq.later {w0 w w1 : World} {b0 b : Bx} {B : Nat} {o : Ox} (h : Dq w0 b0 B o b w) (hb : Below w.heap.size w w1) : Dq w0 b0 B o b w1 := by
  have z := h.z
  exact ⟨h.e.below hb (by omega), h.p.below hb (by omega), h.t.below hb (by omega), h.h.later hb, h.k, h.l, h.f.trans (c := b0) (Fr.of hb) (fun i _ g => g), Nat.le_trans z hb.size⟩
theorem Dq.write {w0 w : World} {b0 b b' : Bx} {B : Nat} {op : Ox} (h : Dq w0 b0 B op b w) (q : Nat) (x : Sx) (hx : b.lists[q]? = some x) (k o j : Nat) (ha : x.a = some ⟨k, o, none⟩) (hj : j < x.n) (v : Int) (hl : b'.lists = b.lists.set q (x.put j v)) (hc : b'.cells = b.cells) (hL : ∀ i, b'.Lies i → b.Lies i) :
    Dq w0 b0 B op b' (w.setCell ⟨k, o + j, none⟩ (.int .i64 v)) := by
  have hm : x ∈ b.lists := List.mem_of_getElem? hx
  have xc := (h.h.each x hm).1
  have lk : b.Lies k := ⟨x, hm, by omega, o, ha⟩
  have kk := h.k k lk
  have kl := fun g => h.l k g
  have z := h.z
  have nk : k ≠ w0.heap.size ∧ k ≠ w0.heap.size + 1 ∧ k ≠ w0.heap.size + 2 := by
    rcases kk with g | g
    · have := kl g; omega
    · omega
  refine ⟨?_, h.p.far _ nk.2.1 _, h.t.far _ nk.2.2 _, h.h.write q x hx k o j ha hj v hl, fun i hi => h.k i (hL i hi), h.l, ?_, by simpa using z⟩
  · rw [hc]
    exact h.e.far _ nk.1 _
  · have f := h.f
    refine ⟨f.os, f.tape, f.output, by simpa using f.size, fun i hi hn => ?_⟩
    refine Eq.trans ?_ (f.block i hi hn)
    have hne : k ≠ i := fun e => by
      subst e
      rcases kk with g | g
      · exact hn g
      · omega
    exact (Only.setCell (Only.refl k (k + 1) w) k (o + j) (Nat.le_refl _) (by omega) _).block i (by have := f.size; omega) (by omega)
theorem Dq.fre {w0 w : World} {b0 b : Bx} {B : Nat} {op : Ox} (h : Dq w0 b0 B op b w) {x : Sx} (hx : x ∈ b.lists) {k o : Nat} (e : x.a = some ⟨k, o, none⟩) {j : Nat} (hj : j < x.n) : ∃ y, w.cell? ⟨k, o + j, none⟩ = some y ∧ w.frozen? ⟨k, o + j, none⟩ = false := by
  obtain ⟨g0, g | ⟨k', o', e', g1, g2, g3, g4⟩⟩ := h.h.each x hx
  · omega
  · rw [e] at e'
    cases e'
    obtain ⟨y1, y2⟩ := g3 j (by omega)
    obtain ⟨y, hy⟩ := Option.isSome_iff_exists.1 y1
    exact ⟨y, hy, y2⟩

/- A call has answered; its book is this call's answer. -/
structure Ret2 (w0 : World) (b0 : Bx) (B : Nat) (b : Bx) (w1 : World) : Prop where
  c : w1.rangeAt (w0.heap.size + 2) 0 b.cells
  h : b.Hl B w1
  f : Fr b0 w0 w1
  l : ∀ i, b.Lies i → b0.Lies i ∨ w0.heap.size ≤ i
structure Miq (w0 : World) (b0 : Bx) (B : Nat) (c : Bx) (w : World) : Prop where
  t : Ck w (w0.heap.size + 2) z9
  h : c.Hl B w
  k : ∀ i, c.Lies i → b0.Lies i ∨ w0.heap.size + 3 ≤ i
  l : ∀ i, b0.Lies i → i < w0.heap.size
  f : Fr b0 w0 w
  z : w0.heap.size + 3 ≤ w.heap.size
theorem Dq.mid {w0 w : World} {b0 b : Bx} {B : Nat} {o : Ox} (h : Dq w0 b0 B o b w) : Miq w0 b0 B b w := ⟨h.t, h.h, h.k, h.l, h.f, h.z⟩
theorem Dq.call {w0 w w' : World} {b0 b c : Bx} {B : Nat} {o : Ox} (h : Dq w0 b0 B o b w) (hc : c.Hl B w') (f : Fr b w w') (l : ∀ i, c.Lies i → b.Lies i ∨ w.heap.size ≤ i) : Miq w0 b0 B c w' := by
  have z := h.z
  have nl : ∀ i, i = w0.heap.size + 2 → ¬ b.Lies i := fun i hi g => by
    rcases h.k i g with q | q
    · have := h.l i q; omega
    · omega
  refine ⟨ck_block h.t (f.block _ (by omega) (nl _ rfl)), hc, fun i hi => ?_, h.l, h.f.trans f (fun i hi g => ?_), Nat.le_trans z f.size⟩
  · rcases l i hi with g | g
    · exact h.k i g
    · exact .inr (by omega)
  · rcases h.k i g with q | q
    · exact q
    · omega
theorem Miq.theret {w0 w : World} {b0 c : Bx} {B : Nat} (h : Miq w0 b0 B c w) : w.there (w0.heap.size + 2) 0 9 := there9 h.t
theorem Miq.anss {w0 w : World} {b0 b : Bx} {B : Nat} (h : Miq w0 b0 B b w) : Ret2 w0 b0 B b (w.setCells (w0.heap.size + 2) 0 b.cells.toArray.toList) := by
  obtain ⟨ck, oy⟩ := put9s h.t (.int .i64 b.s) (.slice b.p.a b.p.n b.p.c) (.slice b.h0.a b.h0.n b.h0.c) (.slice b.h1.a b.h1.n b.h1.c) (.slice b.h2.a b.h2.n b.h2.c) (.slice b.h3.a b.h3.n b.h3.c) (.slice b.o.a b.o.n b.o.c) (.slice b.i.a b.i.n b.i.c) (.slice b.e.a b.e.n b.e.c)
  have zl := oy.size
  have z := h.z
  have f := h.f
  refine ⟨ck.range, ⟨fun x hx => (h.h.each x hx).same zl (fun k o hc e => ?_), h.h.apart⟩, ?_, fun i hi => (h.k i hi).imp id (by omega)⟩
  · have lk : b.Lies k := ⟨x, hx, hc, o, e⟩
    have := (h.h.lies lk).2
    refine oy.block k this ?_
    rcases h.k k lk with g | g
    · have := h.l k g; omega
    · omega
  · exact ⟨oy.os.trans f.os, oy.tape.trans f.tape, oy.output.trans f.output, Nat.le_trans f.size zl, fun i hi hn => (oy.block i (by have := f.size; omega) (by omega)).trans (f.block i hi hn)⟩
theorem Ret2.ans3 {w0 w1 : World} {b0 b : Bx} {B : Nat} (h : Ret2 w0 b0 B b w1) {P : Bx → Int → Int → Prop} {x y : Int} (p : P b x y) : Ans3 b0 B w0 P (.returned (.tuple #[.agg b.cells.toArray, .int .i64 x, .int .i64 y])) w1 := ⟨b, x, y, rfl, p, h.h, h.f, h.l⟩

/- Who is in. -/
theorem keep_seti {b : Bx} (h : OkP b) (t : Nat) (v : Int) (v0 : 0 ≤ v) (v2 : v ≤ 2) (he : b.e.f t = 0 → v ≤ 0) (ht : t < b.e.n) (ho : v = 0 → ∀ u, u < b.o.n → b.o.f u ≠ (t : Int) + 1) : OkP (b.seti t v) := by
  have g := h.1.2.1 t (by have := h.1.1.2.2.1; have := h.1.1.2.2.2.1; omega)
  have e : b.ine t v (b.e.f t) = b.seti t v := by
    have : b.e.put t (b.e.f t) = b.e := by
      have e : upd b.e.f t (b.e.f t) = b.e.f := by
        funext j; simp only [upd]; split
        · rename_i e; rw [e]
        · rfl
      simp only [Sx.put, e]
    simp only [Bx.ine, Bx.seti, this]
  rw [← e]
  exact keep_in h t v (b.e.f t) v0 v2 g.2.2.1 g.2.2.2.1 he ho

theorem Ck.four {w : World} {k : Nat} {o : Ox} (h : Ck w k o.cells) : w.cell? ⟨k, 0, none⟩ = some (.int .i64 o.k) ∧ w.cell? ⟨k, 1, none⟩ = some (.int .i64 o.s) ∧ w.cell? ⟨k, 2, none⟩ = some (.int .i64 o.a) ∧ w.cell? ⟨k, 3, none⟩ = some (.int .i64 o.b) :=
  ⟨(h 0 _ rfl).1, (h 1 _ rfl).1, (h 2 _ rfl).1, (h 3 _ rfl).1⟩
theorem at_cell {x : Sx} {w : World} (h : x.At w) {k o j : Nat} (ha : x.a = some ⟨k, o, none⟩) (hj : j < x.n) : w.cell? ⟨k, o + j, none⟩ = some (.int .i64 (x.f j)) := by
  rcases h with h | ⟨b, off, e, h⟩
  · omega
  · rw [ha] at e; cases e; exact h j hj

end Go.Proofs.Ytlhfkackchcncaa.Book

import Derived.Test.YtbipolfbkemmpaaDoorM19
import Derived.Test.YtbipolfbkemmpaaDoorM13

/- A call of a book of one's own and of what is called: its two variables, its answer: over no program. -/
namespace Go.Proofs.YtbipolfbkemmpaaDoor.Book
open Go.ChangeShapes Go.WideShapes Go.ChangeAt Go.RowKit
open Aid Lst
set_option maxRecDepth 100000
set_option linter.unusedVariables false

/- What is called: four numbers. -/
structure Ox where
  k : Int
  s : Int
  a : Int
  b : Int
def Ox.cells (o : Ox) : List Value := [.int .i64 o.k, .int .i64 o.s, .int .i64 o.a, .int .i64 o.b]
def z9 : List Value := [.int .i64 0, .slice none 0 0, .slice none 0 0, .slice none 0 0, .slice none 0 0, .slice none 0 0, .slice none 0 0, .slice none 0 0, .slice none 0 0]

structure Dq (w0 : World) (b0 : Bx) (B : Nat) (o : Ox) (b : Bx) (w : World) : Prop where
  e : Ck w w0.heap.size b.cells
  p : Ck w (w0.heap.size + 1) o.cells
  t : Ck w (w0.heap.size + 2) z9
  h : b.Hl B w
  k : ∀ i, b.Lies i → b0.Lies i ∨ w0.heap.size + 3 ≤ i
  l : ∀ i, b0.Lies i → i < w0.heap.size
  f : Fr b0 w0 w
  z : w0.heap.size + 3 ≤ w.heap.size

theorem Dq.start {w0 : World} {b : Bx} {B : Nat} (h : b.Hl B w0) (o : Ox) (t t' : TypeId) : Dq w0 b B o b (((w0.alloc (.cells b.cells.toArray t)).alloc (.cells o.cells.toArray t')).alloc (.cells z9.toArray t)) := by
  have hb := below3 w0 (.cells b.cells.toArray t) (.cells o.cells.toArray t') (.cells z9.toArray t)
  exact ⟨by have := ck_lit b.cells.toArray (heap3_0 w0 (.cells b.cells.toArray t) (.cells o.cells.toArray t') (.cells z9.toArray t)); simpa using this,
    by have := ck_lit o.cells.toArray (heap3_1 w0 (.cells b.cells.toArray t) (.cells o.cells.toArray t') (.cells z9.toArray t)); simpa using this,
    by have := ck_lit z9.toArray (heap3_2 w0 (.cells b.cells.toArray t) (.cells o.cells.toArray t') (.cells z9.toArray t)); simpa using this,
    h.later hb, fun i hi => .inl hi, fun i hi => (h.lies hi).2, Fr.of hb, by simp⟩
theorem Dq.later {w0 w w1 : World} {b0 b : Bx} {B : Nat} {o : Ox} (h : Dq w0 b0 B o b w) (hb : Below w.heap.size w w1) : Dq w0 b0 B o b w1 := by
  have z := h.z
  exact ⟨h.e.below hb (by omega), h.p.below hb (by omega), h.t.below hb (by omega), h.h.later hb, h.k, h.l, h.f.trans (c := b0) (Fr.of hb) (fun i _ g => g), Nat.le_trans z hb.size⟩
theorem Dq.write {w0 w : World} {b0 b b' : Bx} {B : Nat} {op : Ox} (h : Dq w0 b0 B op b w) (q : Nat) (x : Sx) (hx : b.lists[q]? = some x) (k o j : Nat) (ha : x.a = some ⟨k, o, none⟩) (hj : j < x.n) (v : Int) (hl : b'.lists = b.lists.set q (x.put j v)) (hc : b'.cells = b.cells) (hL : ∀ i, b'.Lies i → b.Lies i) :
    Dq w0 b0 B op b' (w.setCell ⟨k, o + j, none⟩ (.int .i64 v)) := by
  have hm : x ∈ b.lists := List.mem_of_getElem? hx
  have xc := (h.h.each x hm).1
  have lk : b.Lies k := ⟨x, hm, by omega, o, ha⟩
  have kk := h.k k lk
  have kl := fun g => h.l k g
  have z := h.z
  have nk : k ≠ w0.heap.size ∧ k ≠ w0.heap.size + 1 ∧ k ≠ w0.heap.size + 2 := by
    rcases kk with g | g
    · have := kl g; omega
    · omega
  refine ⟨?_, h.p.far _ nk.2.1 _, h.t.far _ nk.2.2 _, h.h.write q x hx k o j ha hj v hl, fun i hi => h.k i (hL i hi), h.l, ?_, by simpa using z⟩
  · rw [hc]
    exact h.e.far _ nk.1 _
  · have f := h.f
    refine ⟨f.os, f.tape, f.output, by simpa using f.size, fun i hi hn => ?_⟩
    refine Eq.trans ?_ (f.block i hi hn)
    have hne : k ≠ i := fun e => by
      subst e
      rcases kk with g | g
      · exact hn g
      · omega
    exact (Only.setCell (Only.refl k (k + 1) w) k (o + j) (Nat.le_refl _) (by omega) _).block i (by have := f.size; omega) (by omega)
theorem Dq.fre {w0 w : World} {b0 b : Bx} {B : Nat} {op : Ox} (h : Dq w0 b0 B op b w) {x : Sx} (hx : x ∈ b.lists) {k o : Nat} (e : x.a = some ⟨k, o, none⟩) {j : Nat} (hj : j < x.n) : ∃ y, w.cell? ⟨k, o + j, none⟩ = some y ∧ w.frozen? ⟨k, o + j, none⟩ = false := by
  obtain ⟨g0, g | ⟨k', o', e', g1, g2, g3, g4⟩⟩ := h.h.each x hx
  · omega
  · rw [e] at e'
    cases e'
    obtain ⟨y1, y2⟩ := g3 j (by omega)
    obtain ⟨y, hy⟩ := Option.isSome_iff_exists.1 y1
    exact ⟨y, hy, y2⟩

/- A call has answered; its book is this call's answer. -/
structure Ret2 (w0 : World) (b0 : Bx) (B : Nat) (b : Bx) (w1 : World) : Prop where
  c : w1.rangeAt (w0.heap.size + 2) 0 b.cells
  h : b.Hl B w1
  f : Fr b0 w0 w1
  l : ∀ i, b.Lies i → b0.Lies i ∨ w0.heap.size ≤ i
structure Miq (w0 : World) (b0 : Bx) (B : Nat) (c : Bx) (w : World) : Prop where
  t : Ck w (w0.heap.size + 2) z9
  h : c.Hl B w
  k : ∀ i, c.Lies i → b0.Lies i ∨ w0.heap.size + 3 ≤ i
  l : ∀ i, b0.Lies i → i < w0.heap.size
  f : Fr b0 w0 w
  z : w0.heap.size + 3 ≤ w.heap.size
theorem Dq.mid {w0 w : World} {b0 b : Bx} {B : Nat} {o : Ox} (h : Dq w0 b0 B o b w) : Miq w0 b0 B b w := ⟨h.t, h.h, h.k, h.l, h.f, h.z⟩
theorem Dq.call {w0 w w' : World} {b0 b c : Bx} {B : Nat} {o : Ox} (h : Dq w0 b0 B o b w) (hc : c.Hl B w') (f : Fr b w w') (l : ∀ i, c.Lies i → b.Lies i ∨ w.heap.size ≤ i) : Miq w0 b0 B c w' := by
  have z := h.z
  have nl : ∀ i, i = w0.heap.size + 2 → ¬ b.Lies i := fun i hi g => by
    rcases h.k i g with q | q
    · have := h.l i q; omega
    · omega
  refine ⟨ck_block h.t (f.block _ (by omega) (nl _ rfl)), hc, fun i hi => ?_, h.l, h.f.trans f (fun i hi g => ?_), Nat.le_trans z f.size⟩
  · rcases l i hi with g | g
    · exact h.k i g
    · exact .inr (by omega)
  · rcases h.k i g with q | q
    · exact q
    · omega
theorem Miq.theret {w0 w : World} {b0 c : Bx} {B : Nat} (h : Miq w0 b0 B c w) : w.there (w0.heap.size + 2) 0 9 := there9 h.t
theorem Miq.anss {w0 w : World} {b0 b : Bx} {B : Nat} (h : Miq w0 b0 B b w) : Ret2 w0 b0 B b (w.setCells (w0.heap.size + 2) 0 b.cells.toArray.toList) := by
  obtain ⟨ck, oy⟩ := put9s h.t (.int .i64 b.s) (.slice b.p.a b.p.n b.p.c) (.slice b.h0.a b.h0.n b.h0.c) (.slice b.h1.a b.h1.n b.h1.c) (.slice b.h2.a b.h2.n b.h2.c) (.slice b.h3.a b.h3.n b.h3.c) (.slice b.o.a b.o.n b.o.c) (.slice b.i.a b.i.n b.i.c) (.slice b.e.a b.e.n b.e.c)
  have zl := oy.size
  have z := h.z
  have f := h.f
  refine ⟨ck.range, ⟨fun x hx => (h.h.each x hx).same zl (fun k o hc e => ?_), h.h.apart⟩, ?_, fun i hi => (h.k i hi).imp id (by omega)⟩
  · have lk : b.Lies k := ⟨x, hx, hc, o, e⟩
    have := (h.h.lies lk).2
    refine oy.block k this ?_
    rcases h.k k lk with g | g
    · have := h.l k g; omega
    · omega
  · exact ⟨oy.os.trans f.os, oy.tape.trans f.tape, oy.output.trans f.output, Nat.le_trans f.size zl, fun i hi hn => (oy.block i (by have := f.size; omega) (by omega)).trans (f.block i hi hn)⟩
theorem Ret2.ans3 {w0 w1 : World} {b0 b : Bx} {B : Nat} (h : Ret2 w0 b0 B b w1) {P : Bx → Int → Int → Prop} {x y : Int} (p : P b x y) : Ans3 b0 B w0 P (.returned (.tuple #[.agg b.cells.toArray, .int .i64 x, .int .i64 y])) w1 := ⟨b, x, y, rfl, p, h.h, h.f, h.l⟩

/- Who is in. -/
theorem keep_seti {b : Bx} (h : OkP b) (t : Nat) (v : Int) (v0 : 0 ≤ v) (v2 : v ≤ 2) (he : b.e.f t = 0 → v ≤ 0) (ht : t < b.e.n) (ho : v = 0 → ∀ u, u < b.o.n → b.o.f u ≠ (t : Int) + 1) : OkP (b.seti t v) := by
  have g := h.1.2.1 t (by have := h.1.1.2.2.1; have := h.1.1.2.2.2.1; omega)
  have e : b.ine t v (b.e.f t) = b.seti t v := by
    have : b.e.put t (b.e.f t) = b.e := by
      have e : upd b.e.f t (b.e.f t) = b.e.f := by
        funext j; simp only [upd]; split
        · rename_i e; rw [e]
        · rfl
      simp only [Sx.put, e]
    simp only [Bx.ine, Bx.seti, this]
  rw [← e]
  exact keep_in h t v (b.e.f t) v0 v2 g.2.2.1 g.2.2.2.1 he ho

theorem Ck.four {w : World} {k : Nat} {o : Ox} (h : Ck w k o.cells) : w.cell? ⟨k, 0, none⟩ = some (.int .i64 o.k) ∧ w.cell? ⟨k, 1, none⟩ = some (.int .i64 o.s) ∧ w.cell? ⟨k, 2, none⟩ = some (.int .i64 o.a) ∧ w.cell? ⟨k, 3, none⟩ = some (.int .i64 o.b) :=
  ⟨(h 0 _ rfl).1, (h 1 _ rfl).1, (h 2 _ rfl).1, (h 3 _ rfl).1⟩
theorem at_cell {x : Sx} {w : World} (h : x.At w) {k o j : Nat} (ha : x.a = some ⟨k, o, none⟩) (hj : j < x.n) : w.cell? ⟨k, o + j, none⟩ = some (.int .i64 (x.f j)) := by
  rcases h with h | ⟨b, off, e, h⟩
  · omega
  · rw [ha] at e; cases e; exact h j hj

end Go.Proofs.YtbipolfbkemmpaaDoor.Book
/- A draft in memory: a book and four rings of free rooms: over no program. -/
namespace Go.Proofs.YtbipolfbkemmpaaDoor.Dra
open Go.ChangeShapes Go.WideShapes Go.ChangeAt Go.RowKit
open Aid Lst Book Rin
set_option maxRecDepth 100000
set_option linter.unusedVariables false

def rp (s : Nat → Nat) : List Value := [.pointer (some ⟨s 0, 0, none⟩), .pointer (some ⟨s 1, 0, none⟩), .pointer (some ⟨s 2, 0, none⟩), .pointer (some ⟨s 3, 0, none⟩)]
/- t: what a block is: 1 the struct, 2 of the book's lists, 3 + k of the ring k, 0 none of these. -/
structure Dr (B D : Nat) (s t : Nat → Nat) (b : Bx) (U : Nat → List Int) (w : World) : Prop where
  c : Ck w D (b.cells ++ rp s)
  h : b.Hl B w
  tD : t D = 1
  tL : ∀ i, b.Lies i → t i = 2
  r : ∀ k, k < 4 → ∃ un nx pv l, Rg w B (s k) (U k) un nx pv l ∧ ∀ x ∈ s k :: l, t x = 3 + k
  z : ∀ i, t i ≠ 0 → B ≤ i ∧ i < w.heap.size
theorem Ck.same {w w1 : World} {D : Nat} {cs : List Value} (h : Ck w D cs) (hb : w1.heap[D]? = w.heap[D]?) : Ck w1 D cs := fun j v hv => by
  rw [World.cell?_of_block (w := w) hb, World.frozen?_of_block (w := w) hb]; exact h j v hv
theorem Rg.same {w w1 : World} {B s : Nat} {U : List Int} {un : Nat → Int} {nx pv : Nat → Nat} {l : List Nat} (h : Rg w B s U un nx pv l) (hb : ∀ x ∈ s :: l, w1.heap[x]? = w.heap[x]?) : Rg w1 B s U un nx pv l :=
  ⟨h.r, fun k hk => (h.m k hk).of_block (hb k hk), h.u, h.b⟩
theorem Dr.same {B D : Nat} {s t : Nat → Nat} {b : Bx} {U : Nat → List Int} {w w1 : World} (h : Dr B D s t b U w) (hs : w.heap.size ≤ w1.heap.size) (hb : ∀ i, t i ≠ 0 → w1.heap[i]? = w.heap[i]?) : Dr B D s t b U w1 := by
  refine ⟨Ck.same h.c (hb D (by rw [h.tD]; omega)), ⟨fun x hx => (h.h.each x hx).same hs (fun k o hc e => hb k (by rw [h.tL k ⟨x, hx, hc, o, e⟩]; omega)), h.h.apart⟩, h.tD, h.tL, fun k hk => ?_, fun i hi => ⟨(h.z i hi).1, Nat.lt_of_lt_of_le (h.z i hi).2 hs⟩⟩
  obtain ⟨un, nx, pv, l, g, ht⟩ := h.r k hk
  exact ⟨un, nx, pv, l, Rg.same g (fun x hx => hb x (by rw [ht x hx]; omega)), ht⟩
theorem Dr.later {B D : Nat} {s t : Nat → Nat} {b : Bx} {U : Nat → List Int} {w w1 : World} (h : Dr B D s t b U w) (hb : Below w.heap.size w w1) : Dr B D s t b U w1 :=
  h.same hb.size (fun i hi => hb.block i (h.z i hi).2)
theorem Dr.far {B D : Nat} {s t : Nat → Nat} {b : Bx} {U : Nat → List Int} {w : World} (h : Dr B D s t b U w) (k o : Nat) (hk : t k = 0) (v : Value) : Dr B D s t b U (w.setCell ⟨k, o, none⟩ v) :=
  h.same (by simp) (fun i hi => Below.heap_setCell w ⟨k, o, none⟩ v i (fun e => hi (by rw [show i = k from e]; exact hk)))
theorem Dr.drewN {B D : Nat} {s t : Nat → Nat} {b : Bx} {U : Nat → List Int} {w : World} (h : Dr B D s t b U w) (n : Nat) : Dr B D s t b U (w.drewN n) := h.same (Nat.le_refl _) (fun _ _ => rfl)
theorem Dr.cell {B D : Nat} {s t : Nat → Nat} {b : Bx} {U : Nat → List Int} {w : World} (h : Dr B D s t b U w) (j : Nat) (v : Value) (hv : (b.cells ++ rp s)[j]? = some v) : w.cell? ⟨D, j, none⟩ = some v := (h.c j v hv).1
theorem Dr.range {B D : Nat} {s t : Nat → Nat} {b : Bx} {U : Nat → List Int} {w : World} (h : Dr B D s t b U w) : w.rangeAt D 0 b.cells := fun j v hv => by
  have := (h.c j v (by rw [List.getElem?_append_left (List.getElem?_eq_some_iff.1 hv).1]; exact hv)).1
  simpa using this
theorem Dr.rcell {B D : Nat} {s t : Nat → Nat} {b : Bx} {U : Nat → List Int} {w : World} (h : Dr B D s t b U w) (k : Nat) (hk : k < 4) : w.cell? ⟨D, 9 + k, none⟩ = some (.pointer (some ⟨s k, 0, none⟩)) := by
  refine h.cell _ _ ?_
  obtain rfl | rfl | rfl | rfl : k = 0 ∨ k = 1 ∨ k = 2 ∨ k = 3 := by omega
  all_goals rfl

/- A number of a list is written. -/
theorem Dr.write {B D : Nat} {s t : Nat → Nat} {b b' : Bx} {U : Nat → List Int} {w : World} (h : Dr B D s t b U w) (q : Nat) (x : Sx) (hx : b.lists[q]? = some x) (k o j : Nat) (ha : x.a = some ⟨k, o, none⟩) (hj : j < x.n) (v : Int) (hl : b'.lists = b.lists.set q (x.put j v)) (hc : b'.cells = b.cells) (hL : ∀ i, b'.Lies i → b.Lies i) :
    Dr B D s t b' U (w.setCell ⟨k, o + j, none⟩ (.int .i64 v)) ∧ t k = 2 := by
  have hm : x ∈ b.lists := List.mem_of_getElem? hx
  have xc := (h.h.each x hm).1
  have lk : b.Lies k := ⟨x, hm, by omega, o, ha⟩
  have tk := h.tL k lk
  have off : ∀ i, t i ≠ 2 → (w.setCell ⟨k, o + j, none⟩ (.int .i64 v)).heap[i]? = w.heap[i]? := fun i hi => Below.heap_setCell w ⟨k, o + j, none⟩ _ i (fun e => hi (by rw [show i = k from e]; exact tk))
  refine ⟨⟨?_, h.h.write q x hx k o j ha hj v hl, h.tD, fun i hi => h.tL i (hL i hi), fun m hm => ?_, fun i hi => by simpa using h.z i hi⟩, tk⟩
  · rw [hc]
    exact Ck.same h.c (off D (by rw [h.tD]; omega))
  · obtain ⟨un, nx, pv, l, g, ht⟩ := h.r m hm
    exact ⟨un, nx, pv, l, Rg.same g (fun y hy => off y (by rw [ht y hy]; omega)), ht⟩

def updL (U : Nat → List Int) (k : Nat) (v : List Int) : Nat → List Int := fun i => if i = k then v else U i
theorem updL_same (U : Nat → List Int) (k : Nat) (v : List Int) : updL U k v k = v := by simp [updL]
theorem updL_ne {U : Nat → List Int} {k i : Nat} {v : List Int} (h : i ≠ k) : updL U k v i = U i := by simp [updL, h]
/- A ring has turned. -/
theorem Dr.ring {B D : Nat} {s t : Nat → Nat} {b : Bx} {U : Nat → List Int} {w w1 : World} (h : Dr B D s t b U w) (k : Nat) (hk : k < 4) {un un' : Nat → Int} {nx pv nx' pv' : Nat → Nat} {l l' : List Nat} {V : List Int}
    (hl : ∀ x ∈ s k :: l, t x = 3 + k) (hs : w.heap.size ≤ w1.heap.size) (hf : ∀ i, i < w.heap.size → ¬ i ∈ s k :: l → w1.heap[i]? = w.heap[i]?) (g : Rg w1 B (s k) V un' nx' pv' l') (hn : ∀ x ∈ l', x ∈ s k :: l ∨ w.heap.size ≤ x) :
    ∃ t', Dr B D s t' b (updL U k V) w1 ∧ ∀ i, i < w.heap.size → t' i = t i := by
  have off : ∀ i, t i ≠ 0 → t i ≠ 3 + k → w1.heap[i]? = w.heap[i]? := fun i h0 hi => hf i (h.z i h0).2 (fun m => hi (hl i m))
  have old : ∀ i, t i ≠ 0 → (if w.heap.size ≤ i ∧ i ∈ l' then 3 + k else t i) = t i := fun i hi => by rw [if_neg (by have := (h.z i hi).2; omega)]
  refine ⟨fun i => if w.heap.size ≤ i ∧ i ∈ l' then 3 + k else t i, ⟨Ck.same h.c (off D (by rw [h.tD]; omega) (by rw [h.tD]; omega)), ⟨fun x hx => (h.h.each x hx).same hs (fun m o hc e => ?_), h.h.apart⟩, by show (if _ then _ else _) = 1; rw [old D (by rw [h.tD]; omega)]; exact h.tD, fun i hi => by show (if _ then _ else _) = 2; rw [old i (by rw [h.tL i hi]; omega)]; exact h.tL i hi, fun m hm => ?_, fun i hi => ?_⟩, fun i hi => by show (if _ then _ else _) = _; rw [if_neg (by omega)]⟩
  · have := h.tL m ⟨x, hx, hc, o, e⟩
    exact off m (by omega) (by omega)
  · by_cases e : m = k
    · subst e
      rw [updL_same]
      refine ⟨un', nx', pv', l', g, fun x hx => ?_⟩
      show (if _ then _ else _) = _
      by_cases q : w.heap.size ≤ x ∧ x ∈ l'
      · rw [if_pos q]
      · rw [if_neg q]
        rcases List.mem_cons.1 hx with e | e
        · exact hl x (by rw [e]; exact List.mem_cons_self)
        · rcases hn x e with q' | q'
          · exact hl x q'
          · exact absurd ⟨q', e⟩ q
    · rw [updL_ne e]
      obtain ⟨un, nx, pv, l, g, ht⟩ := h.r m hm
      refine ⟨un, nx, pv, l, Rg.same g (fun y hy => off y (by rw [ht y hy]; omega) (by rw [ht y hy]; omega)), fun x hx => ?_⟩
      show (if _ then _ else _) = _
      rw [old x (by rw [ht x hx]; omega)]
      exact ht x hx
  · have q : (if w.heap.size ≤ i ∧ i ∈ l' then 3 + k else t i) ≠ 0 := hi
    by_cases e : w.heap.size ≤ i ∧ i ∈ l'
    · exact ⟨g.b i (List.mem_cons_of_mem _ e.2), (g.m i (List.mem_cons_of_mem _ e.2)).lt⟩
    · rw [if_neg e] at q
      exact ⟨(h.z i q).1, Nat.lt_of_lt_of_le (h.z i q).2 hs⟩

/- In the course of a call that was made at w0 with the blocks t0. -/
structure Du (B D : Nat) (s t0 : Nat → Nat) (w0 : World) (t : Nat → Nat) (b : Bx) (U : Nat → List Int) (w : World) : Prop where
  d : Dr B D s t b U w
  f : Fq (fun i => t0 i ≠ 0) w0 w
  a : ∀ i, i < w0.heap.size → t i = t0 i
theorem Du.start {B D : Nat} {s t : Nat → Nat} {b : Bx} {U : Nat → List Int} {w : World} (h : Dr B D s t b U w) : Du B D s t w t b U w := ⟨h, Fq.refl _ _, fun _ _ => rfl⟩
theorem Du.trans {B D : Nat} {s t0 t t' : Nat → Nat} {b b' : Bx} {U U' : Nat → List Int} {w0 w w1 : World} (h : Du B D s t0 w0 t b U w) (g : Du B D s t w t' b' U' w1) : Du B D s t0 w0 t' b' U' w1 :=
  ⟨g.d, h.f.trans g.f (fun i hi q => by rw [← h.a i hi]; exact q), fun i hi => (g.a i (Nat.lt_of_lt_of_le hi h.f.size)).trans (h.a i hi)⟩
theorem Du.later {B D : Nat} {s t0 t : Nat → Nat} {b : Bx} {U : Nat → List Int} {w0 w w1 : World} (h : Du B D s t0 w0 t b U w) (hb : Below w.heap.size w w1) : Du B D s t0 w0 t b U w1 :=
  ⟨h.d.later hb, h.f.trans (Fq.of (S := fun i => t0 i ≠ 0) hb) (fun _ _ q => q), h.a⟩
theorem Du.write {B D : Nat} {s t0 t : Nat → Nat} {b b' : Bx} {U : Nat → List Int} {w0 w : World} (h : Du B D s t0 w0 t b U w) (q : Nat) (x : Sx) (hx : b.lists[q]? = some x) (k o j : Nat) (ha : x.a = some ⟨k, o, none⟩) (hj : j < x.n) (v : Int) (hl : b'.lists = b.lists.set q (x.put j v)) (hc : b'.cells = b.cells) (hL : ∀ i, b'.Lies i → b.Lies i) :
    Du B D s t0 w0 t b' U (w.setCell ⟨k, o + j, none⟩ (.int .i64 v)) := by
  obtain ⟨g, tk⟩ := h.d.write q x hx k o j ha hj v hl hc hL
  exact ⟨g, h.f.trans (Fq.set (fun i => t i ≠ 0) w k (o + j) (by show t k ≠ 0; omega) _) (fun i hi q => by rw [← h.a i hi]; exact q), h.a⟩
theorem Du.ring {B D : Nat} {s t0 t : Nat → Nat} {b : Bx} {U : Nat → List Int} {w0 w w1 : World} (h : Du B D s t0 w0 t b U w) (k : Nat) (hk : k < 4) {un' : Nat → Int} {nx' pv' : Nat → Nat} {l l' : List Nat} {V : List Int}
    (hl : ∀ x ∈ s k :: l, t x = 3 + k) (hf : Fq (fun i => i ∈ s k :: l) w w1) (g : Rg w1 B (s k) V un' nx' pv' l') (hn : ∀ x ∈ l', x ∈ s k :: l ∨ w.heap.size ≤ x) :
    ∃ t', Du B D s t0 w0 t' b (updL U k V) w1 := by
  obtain ⟨t', d, ha⟩ := h.d.ring (un := un') (nx := nx') (pv := pv') k hk hl hf.size hf.block g hn
  exact ⟨t', d, h.f.trans hf (fun i hi q => by rw [← h.a i hi, hl i q]; omega), fun i hi => (ha i (Nat.lt_of_lt_of_le hi h.f.size)).trans (h.a i hi)⟩
theorem Du.far {B D : Nat} {s t0 t : Nat → Nat} {b : Bx} {U : Nat → List Int} {w0 w : World} (h : Du B D s t0 w0 t b U w) (k o : Nat) (hk : w0.heap.size ≤ k) (ht : t k = 0) (v : Value) : Du B D s t0 w0 t b U (w.setCell ⟨k, o, none⟩ v) :=
  ⟨h.d.far k o ht v, ⟨h.f.os, h.f.tape, h.f.output, by simpa using h.f.size, fun i hi hn => (Below.heap_setCell w ⟨k, o, none⟩ v i (fun e => by have : i = k := e; omega)).trans (h.f.block i hi hn)⟩, h.a⟩

/- Where a number of a list lies, and that it may be written. -/
theorem Dr.at {B D : Nat} {s t : Nat → Nat} {b : Bx} {U : Nat → List Int} {w : World} (h : Dr B D s t b U w) {x : Sx} (hx : x ∈ b.lists) {k o j : Nat} (e : x.a = some ⟨k, o, none⟩) (hj : j < x.n) : w.cell? ⟨k, o + j, none⟩ = some (.int .i64 (x.f j)) ∧ w.frozen? ⟨k, o + j, none⟩ = false := by
  obtain ⟨h1, h3 | ⟨k', o', e', g1, g2, g3, g4⟩⟩ := h.h.each x hx
  · omega
  · rw [e] at e'
    cases e'
    exact ⟨g4 j hj, (g3 j (by omega)).2⟩
theorem Dr.addr {B D : Nat} {s t : Nat → Nat} {b : Bx} {U : Nat → List Int} {w : World} (h : Dr B D s t b U w) {x : Sx} (hx : x ∈ b.lists) (hn : 0 < x.n) : ∃ k o, x.a = some ⟨k, o, none⟩ ∧ t k = 2 := by
  obtain ⟨h1, h3 | ⟨k, o, e, _⟩⟩ := h.h.each x hx
  · omega
  · exact ⟨k, o, e, h.tL k ⟨x, hx, by omega, o, e⟩⟩

/- Cells that are known. -/
def CsL (L : List (Addr × Value)) (w : World) : Prop := ∀ x ∈ L, w.cell? x.1 = some x.2
theorem CsL.at {L : List (Addr × Value)} {w : World} (h : CsL L w) (i : Nat) (a : Addr) (v : Value) (hi : L[i]? = some (a, v)) : w.cell? a = some v := h (a, v) (List.mem_of_getElem? hi)
theorem CsL.nil (w : World) : CsL [] w := fun x hx => by cases hx
theorem CsL.cons {L : List (Addr × Value)} {w : World} {a : Addr} {v : Value} (h : w.cell? a = some v) (g : CsL L w) : CsL ((a, v) :: L) w := fun x hx => by
  rcases List.mem_cons.1 hx with rfl | e
  · exact h
  · exact g x e
theorem CsL.set {L : List (Addr × Value)} {w : World} (h : CsL L w) (p : Addr) (v : Value) (hp : ∀ x ∈ L, x.1.block ≠ p.block) : CsL L (w.setCell p v) := fun x hx => by
  rw [World.cell?_setCell_far _ _ _ _ (Ne.symm (hp x hx))]; exact h x hx
theorem CsL.later {L : List (Addr × Value)} {w w1 : World} (h : CsL L w) (hb : Below w.heap.size w w1) : CsL L w1 := fun x hx => (hb.cell (World.block_lt_of_cell? w _ (h x hx))).trans (h x hx)

end Go.Proofs.YtbipolfbkemmpaaDoor.Dra

import Derived.Test.YtlhfkackchcncaaM1
import Derived.Deep.MidRow
import Derived.OpenShut
import Derived.Lib.SmallJoins
import Derived.Laws.IdiomArrays

/- Books in memory: what comes in, measured; copied, held against each other, marked. Conditions: at most 1,048,576 numbers in all where it is said. -/
namespace Go.Proofs.Ytlhfkackchcncaa.Book
open Go.ChangeShapes Go.WideShapes Go.ChangeAt Go.RowKit
open Go.Proofs.Ytlhfkackchcncaa.Aid Go.Proofs.Ytlhfkackchcncaa.Lst

/- A list: where it lies, how long it is, its numbers. -/
structure Sx where
  a : Option Addr
  n : Nat
  c : Nat
  f : Nat → Int

/- A book: a number and eight lists. -/
structure Bx where
  s : Int
  p : Sx
  h0 : Sx
  h1 : Sx
  h2 : Sx
  h3 : Sx
  o : Sx
  i : Sx
  e : Sx

def Sx.At (x : Sx) (w : World) : Prop := Sl .i64 w x.a x.n x.f
theorem Sx.At.later {x : Sx} {w w1 : World} (h : x.At w) (hb : Below w.heap.size w w1) : x.At w1 := Sl.later h hb
theorem Sx.At.drewN {x : Sx} {w : World} (h : x.At w) (q : Nat) : x.At (w.drewN q) := Sl.drewN h q

def Bx.lists (b : Bx) : List Sx := [b.p, b.h0, b.h1, b.h2, b.h3, b.o, b.i, b.e]
def Bx.At (b : Bx) (w : World) : Prop := ∀ x ∈ b.lists, x.At w
theorem Bx.At.later {b : Bx} {w w1 : World} (h : b.At w) (hb : Below w.heap.size w w1) : b.At w1 := fun x hx => (h x hx).later hb
theorem Bx.At.drewN {b : Bx} {w : World} (h : b.At w) (q : Nat) : b.At (w.drewN q) := fun x hx => (h x hx).drewN q
def Bx.cells (b : Bx) : List Value := [.int .i64 b.s, .slice b.p.a b.p.n b.p.c, .slice b.h0.a b.h0.n b.h0.c, .slice b.h1.a b.h1.n b.h1.c, .slice b.h2.a b.h2.n b.h2.c, .slice b.h3.a b.h3.n b.h3.c, .slice b.o.a b.o.n b.o.c, .slice b.i.a b.i.n b.i.c, .slice b.e.a b.e.n b.e.c]

/- What a book is, wherever it lies. -/
structure Bm where
  s : Int
  p : Nat × (Nat → Int)
  h0 : Nat × (Nat → Int)
  h1 : Nat × (Nat → Int)
  h2 : Nat × (Nat → Int)
  h3 : Nat × (Nat → Int)
  o : Nat × (Nat → Int)
  i : Nat × (Nat → Int)
  e : Nat × (Nat → Int)
def Sx.m (x : Sx) : Nat × (Nat → Int) := (x.n, x.f)
def Bx.m (b : Bx) : Bm := ⟨b.s, b.p.m, b.h0.m, b.h1.m, b.h2.m, b.h3.m, b.o.m, b.i.m, b.e.m⟩

/- A list in memory of its own, in blocks from B on, below C. -/
def Sx.Own (x : Sx) (B C : Nat) (w : World) : Prop := x.n = 0 ∨ ∃ k, x.a = some ⟨k, 0, none⟩ ∧ B ≤ k ∧ k < C ∧ Fk .i64 x.n w k x.f
def Apart (x y : Sx) : Prop := x.n = 0 ∨ y.n = 0 ∨ ∃ j k, x.a = some ⟨j, 0, none⟩ ∧ y.a = some ⟨k, 0, none⟩ ∧ j ≠ k
structure Bx.Own (b : Bx) (B C : Nat) (w : World) : Prop where
  each : ∀ x ∈ b.lists, x.Own B C w
  apart : b.lists.Pairwise Apart
  caps : ∀ x ∈ b.lists, x.n ≤ x.c

theorem Sx.Own.at {x : Sx} {B C : Nat} {w : World} (h : x.Own B C w) : x.At w := by
  rcases h with h | ⟨k, e, _, _, h⟩
  · exact .inl h
  · unfold Sx.At; rw [e]; exact h.sl
theorem Bx.Own.at {b : Bx} {B C : Nat} {w : World} (h : b.Own B C w) : b.At w := fun x hx => (h.each x hx).at

/- Only blocks from B on, below C, have turned, of those that were there. -/
structure Only (B C : Nat) (w w' : World) : Prop where
  os : w'.os = w.os
  tape : w'.tape = w.tape
  output : w'.output = w.output
  size : w.heap.size ≤ w'.heap.size
  block : ∀ i, i < w.heap.size → (i < B ∨ C ≤ i) → w'.heap[i]? = w.heap[i]?

theorem Only.cell {B C : Nat} {w w' : World} (h : Only B C w w') {k o : Nat} (hk : k < w.heap.size) (ho : k < B ∨ C ≤ k) : w'.cell? ⟨k, o, none⟩ = w.cell? ⟨k, o, none⟩ := World.cell?_of_block (w := w) (h.block k hk ho)
theorem Only.frozen {B C : Nat} {w w' : World} (h : Only B C w w') {k o : Nat} (hk : k < w.heap.size) (ho : k < B ∨ C ≤ k) : w'.frozen? ⟨k, o, none⟩ = w.frozen? ⟨k, o, none⟩ := World.frozen?_of_block (w := w) (h.block k hk ho)
theorem Only.below {B C : Nat} {w w' : World} (h : Only B C w w') (hB : B ≤ w.heap.size) : Below B w w' := ⟨h.os, h.tape, h.output, h.size, fun k hk => h.block k (by omega) (.inl hk)⟩
theorem Only.of {B C : Nat} {w w' : World} (h : Below w.heap.size w w') : Only B C w w' := ⟨h.os, h.tape, h.output, h.size, fun k hk _ => h.block k hk⟩
theorem Only.trans {B C : Nat} {a w w' : World} (h : Only B C a w) (h' : Only B C w w') : Only B C a w' := ⟨h'.os.trans h.os, h'.tape.trans h.tape, h'.output.trans h.output, Nat.le_trans h.size h'.size, fun k hk ho => (h'.block k (Nat.lt_of_lt_of_le hk h.size) ho).trans (h.block k hk ho)⟩
theorem Only.mono {B C B' C' : Nat} {w w' : World} (h : Only B C w w') (hB : B' ≤ B) (hC : C ≤ C') : Only B' C' w w' := ⟨h.os, h.tape, h.output, h.size, fun k hk ho => h.block k hk (by omega)⟩
theorem Only.but {b : Nat} {w w' : World} (h : But b w w') : Only b (b + 1) w w' := ⟨h.os, h.tape, h.output, Nat.le_of_eq h.size.symm, fun k _ ho => h.block k (by omega)⟩
theorem Only.fk {B C n k : Nat} {w w' : World} {f : Nat → Int} (h : Only B C w w') (ho : k < B ∨ C ≤ k) (hf : Fk .i64 n w k f) : Fk .i64 n w' k f := fun j hj => by
  have hlt := World.block_lt_of_cell? w _ (hf j hj).1
  rw [h.cell hlt ho, h.frozen hlt ho]; exact hf j hj
theorem Sx.Own.only {x : Sx} {B C B' C' : Nat} {w w' : World} (hx : x.Own B C w) (h : Only B' C' w w') (ho : C ≤ B' ∨ C' ≤ B) : x.Own B C w' := by
  rcases hx with hx | ⟨k, e, h1, h2, hx⟩
  · exact .inl hx
  · exact .inr ⟨k, e, h1, h2, h.fk (by omega) hx⟩
theorem Bx.Own.only {b : Bx} {B C B' C' : Nat} {w w' : World} (hx : b.Own B C w) (h : Only B' C' w w') (ho : C ≤ B' ∨ C' ≤ B) : b.Own B C w' := ⟨fun x hi => (hx.each x hi).only h ho, hx.apart, hx.caps⟩
theorem Bx.Own.later {b : Bx} {B C : Nat} {w w' : World} (hx : b.Own B C w) (h : Below w.heap.size w w') : b.Own B C w' := hx.only (Only.of (B := C) (C := C) h) (.inl (Nat.le_refl _))
theorem Bx.Own.drewN {b : Bx} {B C : Nat} {w : World} (hx : b.Own B C w) (q : Nat) : b.Own B C (w.drewN q) := ⟨fun x hi => by
  rcases hx.each x hi with h | ⟨k, e, h1, h2, h⟩
  · exact .inl h
  · exact .inr ⟨k, e, h1, h2, h.drewN q⟩, hx.apart, hx.caps⟩
theorem Bx.Own.mono {b : Bx} {B C B' C' : Nat} {w : World} (hx : b.Own B C w) (hB : B' ≤ B) (hC : C ≤ C') : b.Own B' C' w := ⟨fun x hi => by
  rcases hx.each x hi with h | ⟨k, e, h1, h2, h⟩
  · exact .inl h
  · exact .inr ⟨k, e, by omega, by omega, h⟩, hx.apart, hx.caps⟩

/- Not too long, all of it. -/
def Bx.total (b : Bx) : Nat := b.p.n + b.h0.n + b.h1.n + b.h2.n + b.h3.n + b.o.n + b.i.n + b.e.n

def szM (l n : Int) : Int := if l - n < 0 then -1 else l - n

theorem szM_neg {l n : Int} (h : l < n) : szM l n = -1 := by simp only [szM]; rw [if_pos (by omega)]
theorem szM_pos {l n : Int} (h : ¬ l < n) : szM l n = l - n := by simp only [szM]; rw [if_neg (by omega)]

end Go.Proofs.Ytlhfkackchcncaa.Book

/- Books that are copied. Conditions: at most 1,000,000,000 numbers a list. -/
namespace Go.Proofs.Ytlhfkackchcncaa.Book
open Go.ChangeShapes Go.WideShapes Go.ChangeAt Go.RowKit
open Go.Proofs.Ytlhfkackchcncaa.Aid Go.Proofs.Ytlhfkackchcncaa.Lst

/- A row of cells that may be written. -/
def Ck (w : World) (b : Nat) (cs : List Value) : Prop := ∀ j v, cs[j]? = some v → w.cell? ⟨b, j, none⟩ = some v ∧ w.frozen? ⟨b, j, none⟩ = false

theorem ck_lit {w : World} {b : Nat} (C : Array Value) {t : TypeId} (hb : w.heap[b]? = some (.cells C t (0, 0))) : Ck w b C.toList := fun j v hv => by
  rw [cell_of_row w b j C t (0, 0) hb, frozen_of_row w b j C t hb]; exact ⟨by simpa using hv, rfl⟩

theorem Ck.set {w : World} {b : Nat} {cs : List Value} (h : Ck w b cs) (i : Nat) (x : Value) : Ck (w.setCell ⟨b, i, none⟩ x) b (cs.set i x) := fun j v hv => by
  by_cases e : j = i
  · subst e
    have hl : j < cs.length := by
      have := (List.getElem?_eq_some_iff.1 hv).1
      simpa using this
    have g := h j cs[j] (List.getElem?_eq_getElem hl)
    rw [World.cell?_setCell_same _ _ _ g.1]
    rw [List.getElem?_set_self hl] at hv
    refine ⟨hv, ?_⟩
    have := g.2
    simp [this]
  · rw [List.getElem?_set_ne (Ne.symm e)] at hv
    have g := h j v hv
    have hne : (⟨b, i, none⟩ : Addr) ≠ ⟨b, j, none⟩ := fun h => e (by injection h with _ h2 _; exact h2.symm)
    rw [World.cell?_setCell_other _ _ _ _ hne]
    have g2 := g.2
    exact ⟨g.1, by simp [g2]⟩

theorem Ck.below {B : Nat} {W w1 : World} (hb : Below B W w1) {b : Nat} {cs : List Value} (h : Ck W b cs) (hB : b < B) : Ck w1 b cs := fun j v hv => by
  rw [hb.cell (p := ⟨b, j, none⟩) hB, hb.frozen (p := ⟨b, j, none⟩) hB]; exact h j v hv
theorem Ck.far {w : World} {b : Nat} {cs : List Value} (h : Ck w b cs) (p : Addr) (hp : p.block ≠ b) (x : Value) : Ck (w.setCell p x) b cs := fun j v hv => by
  have g := h j v hv
  rw [World.cell?_setCell_far _ _ _ _ hp]
  have g2 := g.2
  exact ⟨g.1, by simp [g2]⟩
theorem Only.setCell {B C : Nat} {a w : World} (h : Only B C a w) (b o : Nat) (hB : B ≤ b) (hC : b < C) (x : Value) : Only B C a (w.setCell ⟨b, o, none⟩ x) :=
  ⟨h.os, h.tape, h.output, by simpa [World.setCell] using h.size, fun i hi ho => (Below.heap_setCell w ⟨b, o, none⟩ x i (by show i ≠ b; omega)).trans (h.block i hi ho)⟩
theorem Only.refl (B C : Nat) (w : World) : Only B C w w := ⟨rfl, rfl, rfl, Nat.le_refl _, fun _ _ _ => rfl⟩
theorem apart_of (j k : Nat) (h : j ≠ k) (n n' c c' : Nat) (f f' : Nat → Int) : Apart ⟨some ⟨j, 0, none⟩, n, c, f⟩ ⟨some ⟨k, 0, none⟩, n', c', f'⟩ := .inr (.inr ⟨j, k, rfl, rfl, h⟩)
theorem Ck.lt {w : World} {b : Nat} {v : Value} {cs : List Value} (h : Ck w b (v :: cs)) : b < w.heap.size := World.block_lt_of_cell? w _ (h 0 v rfl).1
theorem Ck.range {w : World} {b : Nat} {cs : List Value} (h : Ck w b cs) : w.rangeAt b 0 cs := fun j v hv => by simpa using (h j v hv).1
theorem Ck.to {w w' : World} {b : Nat} {cs cs' : List Value} (h : Ck w b cs) (hw : w' = w) (e : cs' = cs) : Ck w' b cs' := by subst hw; subst e; exact h

end Go.Proofs.Ytlhfkackchcncaa.Book

/- Books that are held against each other, marked, and looked at. Conditions: at most 1,000,000,000 numbers in all. -/
namespace Go.Proofs.Ytlhfkackchcncaa.Book
open Go.ChangeShapes Go.WideShapes Go.ChangeAt Go.RowKit
open Go.Proofs.Ytlhfkackchcncaa.Aid Go.Proofs.Ytlhfkackchcncaa.Lst

end Go.Proofs.Ytlhfkackchcncaa.Book

/- A book that is handed in, opened. -/
namespace Go.Proofs.Ytlhfkackchcncaa.Book
open Go.ChangeShapes Go.WideShapes Go.ChangeAt Go.RowKit
open Go.Proofs.Ytlhfkackchcncaa.Aid Go.Proofs.Ytlhfkackchcncaa.Lst
set_option maxRecDepth 100000

def Sx.Good (x : Sx) (w : World) : Prop := x.At w ∧ x.n ≤ maxLen ∧ ∀ j, (Lit.int .i64 (x.f j)).wf = true
structure Bx.Good (b : Bx) (w : World) : Prop where
  s : (Lit.int .i64 b.s).wf = true
  each : ∀ x ∈ b.lists, x.Good w

theorem Bx.Good.at {b : Bx} {w : World} (h : b.Good w) : b.At w := fun x hx => (h.each x hx).1
theorem Bx.Good.short {b : Bx} {w : World} (h : b.Good w) : ∀ x ∈ b.lists, (x.n : Int) ≤ maxLen := fun x hx => by have := (h.each x hx).2.1; omega

theorem open_list {H : Type} {enc : TypeId × Value → H} {w : World} {n : Nat} {v : Value} {y : DataW H × List MemPlace} (h : DataW.trod enc Try.prog w 0 (fun _ => true) true n 23 [v] = some y) : ∃ x : Sx, v = .slice x.a x.n x.c ∧ x.Good w := by
  rcases open_ints Try.underlying23 Try.underlying3 (by kernel_rfl) h with ⟨hcs, _⟩ | ⟨x, l, c, zs, hcs, _, hl, hm, hz, _, hcell, hwz⟩
  · simp at hcs
    obtain ⟨g1, g2, g3⟩ := sl_of (k := .i64) (w := w) (a := none) (len := 0) (cap := 0) (zs := []) (.inl ⟨rfl, rfl, rfl, rfl⟩)
    exact ⟨⟨none, 0, 0, fun j => ([] : List Int).getD j 0⟩, hcs, g1, g2, g3⟩
  · simp at hcs
    obtain ⟨g1, g2, g3⟩ := sl_of (k := .i64) (w := w) (a := some x) (len := l) (cap := c) (zs := zs) (.inr ⟨x, rfl, hl, hm, by simpa using hz, hcell, hwz⟩)
    exact ⟨⟨some x, l, c, fun j => zs.getD j 0⟩, hcs, g1, g2, g3⟩

theorem array9 {α : Type} {cs : Array α} (h : cs.size = 9) : ∃ c0 c1 c2 c3 c4 c5 c6 c7 c8, cs = #[c0, c1, c2, c3, c4, c5, c6, c7, c8] := by
  obtain ⟨l⟩ := cs
  match l, h with
  | [c0, c1, c2, c3, c4, c5, c6, c7, c8], _ => exact ⟨c0, c1, c2, c3, c4, c5, c6, c7, c8, rfl⟩

end Go.Proofs.Ytlhfkackchcncaa.Book

/- What a law of books rests on while it goes: structs of its own, and books in memory. -/
namespace Go.Proofs.Ytlhfkackchcncaa.Book
open Go.ChangeShapes Go.WideShapes Go.ChangeAt Go.RowKit
open Go.Proofs.Ytlhfkackchcncaa.Aid Go.Proofs.Ytlhfkackchcncaa.Lst
set_option maxRecDepth 100000

theorem takeB {P : Program} {md : Region.Mode} {ops : Array Oper} {Q : Exit → Act → World → Prop} {S : World → Prop} {i : Nat} {oi : Oper} {v : Value} {d : Option Tmp} {fuel : Nat} {listed : Array Bool} {a : Act} {w : World} (hi : ops[i]? = some oi) (hd : oi.dst = d)
    (hs : Region.noSelect ops = true) (hf : Region.free md ops listed i = true) (hr : (Region.ready md ops listed).contains i = true)
    (hQ : ∀ c a w, Q (.panic c) (a.put d v) w → Q (.panic c) a w) (hy : YieldsIf P ops S oi v a) (hS : S w)
    (h : wpAnyH P md ops Q S fuel (listed.setIfInBounds i true) (a.put d v) w) : wpAnyH P md ops Q S (fuel + 1) listed a w := by
  subst hd
  exact wpAnyH_take hi hs hf hr hQ hy hS h

structure St (w0 : World) (rs : List (Nat × List Value)) (bs : List Bx) (w : World) : Prop where
  r : ∀ p ∈ rs, w.rangeAt p.1 0 p.2 ∧ p.1 < w.heap.size
  a : ∀ b ∈ bs, b.At w
  b : Below w0.heap.size w0 w

theorem St.later {w0 w w1 : World} {rs : List (Nat × List Value)} {bs : List Bx} (h : St w0 rs bs w) (hb : Below w.heap.size w w1) : St w0 rs bs w1 :=
  ⟨fun p hp => ⟨range_below hb (h.r p hp).1 (h.r p hp).2, Nat.lt_of_lt_of_le (h.r p hp).2 hb.size⟩, fun b hi => (h.a b hi).later hb, h.b.trans (hb.mono h.b.size)⟩
theorem St.drew {w0 w : World} {rs : List (Nat × List Value)} {bs : List Bx} (h : St w0 rs bs w) : St w0 rs bs w.drew := ⟨h.r, h.a, ⟨h.b.os, h.b.tape, h.b.output, h.b.size, h.b.block⟩⟩
theorem St.book {w0 w : World} {rs : List (Nat × List Value)} {bs : List Bx} (h : St w0 rs bs w) {b : Bx} (hb : b.At w) : St w0 rs (b :: bs) w :=
  ⟨h.r, fun x hx => by
    rcases List.mem_cons.1 hx with rfl | hx
    · exact hb
    · exact h.a x hx, h.b⟩
theorem St.row {w0 w : World} {rs : List (Nat × List Value)} {bs : List Bx} (h : St w0 rs bs w) (C : Array Value) (t : TypeId) : St w0 ((w.heap.size, C.toList) :: rs) bs (w.alloc (.cells C t)) :=
  ⟨fun p hp => by
    rcases List.mem_cons.1 hp with rfl | hp
    · exact ⟨range_lit C (heap1_0 _ _), by simp⟩
    · exact ⟨range_below (below1 w _) (h.r p hp).1 (h.r p hp).2, by have := (h.r p hp).2; simp; omega⟩, fun b hi => (h.a b hi).later (below1 w _), h.b.trans ((below1 w _).mono h.b.size)⟩
theorem St.start {w : World} {bs : List Bx} (h : ∀ b ∈ bs, b.At w) : St w [] bs w := ⟨fun p hp => by simp at hp, h, Below.refl _ _⟩
theorem St.take {w0 w : World} {rs rs' : List (Nat × List Value)} {bs bs' : List Bx} (h : St w0 rs bs w) (hr : ∀ p ∈ rs', p ∈ rs) (hb : ∀ b ∈ bs', b ∈ bs) : St w0 rs' bs' w := ⟨fun p hp => h.r p (hr p hp), fun b hi => h.a b (hb b hi), h.b⟩

theorem total_m {x y : Bx} (h : x.m = y.m) : x.total = y.total := by
  simp only [Bx.m, Bm.mk.injEq, Sx.m, Prod.mk.injEq] at h
  simp only [Bx.total]
  obtain ⟨_, ⟨h1, _⟩, ⟨h2, _⟩, ⟨h3, _⟩, ⟨h4, _⟩, ⟨h5, _⟩, ⟨h6, _⟩, ⟨h7, _⟩, ⟨h8, _⟩⟩ := h
  omega

theorem nine {w : World} {k : Nat} {x : Bx} (h : w.rangeAt k 0 x.cells) : w.cell? ⟨k, 0, none⟩ = some (.int .i64 x.s) ∧ w.cell? ⟨k, 1, none⟩ = some (.slice x.p.a x.p.n x.p.c) ∧ w.cell? ⟨k, 2, none⟩ = some (.slice x.h0.a x.h0.n x.h0.c) ∧ w.cell? ⟨k, 3, none⟩ = some (.slice x.h1.a x.h1.n x.h1.c) ∧ w.cell? ⟨k, 4, none⟩ = some (.slice x.h2.a x.h2.n x.h2.c) ∧ w.cell? ⟨k, 5, none⟩ = some (.slice x.h3.a x.h3.n x.h3.c) ∧ w.cell? ⟨k, 6, none⟩ = some (.slice x.o.a x.o.n x.o.c) ∧ w.cell? ⟨k, 7, none⟩ = some (.slice x.i.a x.i.n x.i.c) ∧ w.cell? ⟨k, 8, none⟩ = some (.slice x.e.a x.e.n x.e.c) :=
  ⟨h 0 _ rfl, h 1 _ rfl, h 2 _ rfl, h 3 _ rfl, h 4 _ rfl, h 5 _ rfl, h 6 _ rfl, h 7 _ rfl, h 8 _ rfl⟩

end Go.Proofs.Ytlhfkackchcncaa.Book

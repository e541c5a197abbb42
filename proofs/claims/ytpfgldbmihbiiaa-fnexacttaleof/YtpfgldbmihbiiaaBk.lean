/- Books in memory: what comes in, measured; copied, held against each other, marked. Conditions: at most 1,048,576 numbers in all where it is said. -/
import Derived.Test.YtpfgldbmihbiiaaLst
import Derived.Deep.MidRow
namespace Go.Proofs.Ytpfgldbmihbiiaa.Book
open Go.ChangeShapes Go.WideShapes Go.ChangeAt Go.RowKit
open Go.Proofs.Ytpfgldbmihbiiaa.Aid Go.Proofs.Ytpfgldbmihbiiaa.Lst

/- A list: where it lies, how long it is, its numbers. -/
structure Sx where
  a : Option Addr
  n : Nat
  c : Nat
  f : Nat → Int

/- A book: a number and eight lists. -/
structure Bx where
  s : Int
  p : Sx
  h0 : Sx
  h1 : Sx
  h2 : Sx
  h3 : Sx
  o : Sx
  i : Sx
  e : Sx

def Sx.At (x : Sx) (w : World) : Prop := Sl .i64 w x.a x.n x.f
theorem Sx.At.later {x : Sx} {w w1 : World} (h : x.At w) (hb : Below w.heap.size w w1) : x.At w1 := Sl.later h hb
theorem Sx.At.drewN {x : Sx} {w : World} (h : x.At w) (q : Nat) : x.At (w.drewN q) := Sl.drewN h q

def Bx.lists (b : Bx) : List Sx := [b.p, b.h0, b.h1, b.h2, b.h3, b.o, b.i, b.e]
def Bx.At (b : Bx) (w : World) : Prop := ∀ x ∈ b.lists, x.At w
theorem Bx.At.later {b : Bx} {w w1 : World} (h : b.At w) (hb : Below w.heap.size w w1) : b.At w1 := fun x hx => (h x hx).later hb
theorem Bx.At.drewN {b : Bx} {w : World} (h : b.At w) (q : Nat) : b.At (w.drewN q) := fun x hx => (h x hx).drewN q
def Bx.cells (b : Bx) : List Value := [.int .i64 b.s, .slice b.p.a b.p.n b.p.c, .slice b.h0.a b.h0.n b.h0.c, .slice b.h1.a b.h1.n b.h1.c, .slice b.h2.a b.h2.n b.h2.c, .slice b.h3.a b.h3.n b.h3.c, .slice b.o.a b.o.n b.o.c, .slice b.i.a b.i.n b.i.c, .slice b.e.a b.e.n b.e.c]

/- What a book is, wherever it lies. -/
structure Bm where
  s : Int
  p : Nat × (Nat → Int)
  h0 : Nat × (Nat → Int)
  h1 : Nat × (Nat → Int)
  h2 : Nat × (Nat → Int)
  h3 : Nat × (Nat → Int)
  o : Nat × (Nat → Int)
  i : Nat × (Nat → Int)
  e : Nat × (Nat → Int)
def Sx.m (x : Sx) : Nat × (Nat → Int) := (x.n, x.f)
def Bx.m (b : Bx) : Bm := ⟨b.s, b.p.m, b.h0.m, b.h1.m, b.h2.m, b.h3.m, b.o.m, b.i.m, b.e.m⟩

/- A list in memory of its own, in blocks from B on, below C. -/
def Sx.Own (x : Sx) (B C : Nat) (w : World) : Prop := x.n = 0 ∨ ∃ k, x.a = some ⟨k, 0, none⟩ ∧ B ≤ k ∧ k < C ∧ Fk .i64 x.n w k x.f
def Apart (x y : Sx) : Prop := x.n = 0 ∨ y.n = 0 ∨ ∃ j k, x.a = some ⟨j, 0, none⟩ ∧ y.a = some ⟨k, 0, none⟩ ∧ j ≠ k
structure Bx.Own (b : Bx) (B C : Nat) (w : World) : Prop where
  each : ∀ x ∈ b.lists, x.Own B C w
  apart : b.lists.Pairwise Apart
  caps : ∀ x ∈ b.lists, x.n ≤ x.c

theorem Sx.Own.at {x : Sx} {B C : Nat} {w : World} (h : x.Own B C w) : x.At w := by
  rcases h with h | ⟨k, e, _, _, h⟩
  · exact .inl h
  · unfold Sx.At; rw [e]; exact h.sl
theorem Bx.Own.at {b : Bx} {B C : Nat} {w : World} (h : b.Own B C w) : b.At w := fun x hx => (h.each x hx).at

/- Only blocks from B on, below C, have turned, of those that were there. -/
structure Only (B C : Nat) (w w' : World) : Prop where
  os : w'.os = w.os
  tape : w'.tape = w.tape
  output : w'.output = w.output
  size : w.heap.size ≤ w'.heap.size
  block : ∀ i, i < w.heap.size → (i < B ∨ C ≤ i) → w'.heap[i]? = w.heap[i]?

theorem Only.cell {B C : Nat} {w w' : World} (h : Only B C w w') {k o : Nat} (hk : k < w.heap.size) (ho : k < B ∨ C ≤ k) : w'.cell? ⟨k, o, none⟩ = w.cell? ⟨k, o, none⟩ := World.cell?_of_block (w := w) (h.block k hk ho)
theorem Only.frozen {B C : Nat} {w w' : World} (h : Only B C w w') {k o : Nat} (hk : k < w.heap.size) (ho : k < B ∨ C ≤ k) : w'.frozen? ⟨k, o, none⟩ = w.frozen? ⟨k, o, none⟩ := World.frozen?_of_block (w := w) (h.block k hk ho)
theorem Only.below {B C : Nat} {w w' : World} (h : Only B C w w') (hB : B ≤ w.heap.size) : Below B w w' := ⟨h.os, h.tape, h.output, h.size, fun k hk => h.block k (by omega) (.inl hk)⟩
theorem Only.of {B C : Nat} {w w' : World} (h : Below w.heap.size w w') : Only B C w w' := ⟨h.os, h.tape, h.output, h.size, fun k hk _ => h.block k hk⟩
theorem Only.trans {B C : Nat} {a w w' : World} (h : Only B C a w) (h' : Only B C w w') : Only B C a w' := ⟨h'.os.trans h.os, h'.tape.trans h.tape, h'.output.trans h.output, Nat.le_trans h.size h'.size, fun k hk ho => (h'.block k (Nat.lt_of_lt_of_le hk h.size) ho).trans (h.block k hk ho)⟩
theorem Only.mono {B C B' C' : Nat} {w w' : World} (h : Only B C w w') (hB : B' ≤ B) (hC : C ≤ C') : Only B' C' w w' := ⟨h.os, h.tape, h.output, h.size, fun k hk ho => h.block k hk (by omega)⟩
theorem Only.but {b : Nat} {w w' : World} (h : But b w w') : Only b (b + 1) w w' := ⟨h.os, h.tape, h.output, Nat.le_of_eq h.size.symm, fun k _ ho => h.block k (by omega)⟩
theorem Only.fk {B C n k : Nat} {w w' : World} {f : Nat → Int} (h : Only B C w w') (ho : k < B ∨ C ≤ k) (hf : Fk .i64 n w k f) : Fk .i64 n w' k f := fun j hj => by
  have hlt := World.block_lt_of_cell? w _ (hf j hj).1
  rw [h.cell hlt ho, h.frozen hlt ho]; exact hf j hj
theorem Sx.Own.only {x : Sx} {B C B' C' : Nat} {w w' : World} (hx : x.Own B C w) (h : Only B' C' w w') (ho : C ≤ B' ∨ C' ≤ B) : x.Own B C w' := by
  rcases hx with hx | ⟨k, e, h1, h2, hx⟩
  · exact .inl hx
  · exact .inr ⟨k, e, h1, h2, h.fk (by omega) hx⟩
theorem Bx.Own.only {b : Bx} {B C B' C' : Nat} {w w' : World} (hx : b.Own B C w) (h : Only B' C' w w') (ho : C ≤ B' ∨ C' ≤ B) : b.Own B C w' := ⟨fun x hi => (hx.each x hi).only h ho, hx.apart, hx.caps⟩
theorem Bx.Own.later {b : Bx} {B C : Nat} {w w' : World} (hx : b.Own B C w) (h : Below w.heap.size w w') : b.Own B C w' := hx.only (Only.of (B := C) (C := C) h) (.inl (Nat.le_refl _))
theorem Bx.Own.drewN {b : Bx} {B C : Nat} {w : World} (hx : b.Own B C w) (q : Nat) : b.Own B C (w.drewN q) := ⟨fun x hi => by
  rcases hx.each x hi with h | ⟨k, e, h1, h2, h⟩
  · exact .inl h
  · exact .inr ⟨k, e, h1, h2, h.drewN q⟩, hx.apart, hx.caps⟩
theorem Bx.Own.mono {b : Bx} {B C B' C' : Nat} {w : World} (hx : b.Own B C w) (hB : B' ≤ B) (hC : C ≤ C') : b.Own B' C' w := ⟨fun x hi => by
  rcases hx.each x hi with h | ⟨k, e, h1, h2, h⟩
  · exact .inl h
  · exact .inr ⟨k, e, by omega, by omega, h⟩, hx.apart, hx.caps⟩

/- Not too long, all of it. -/
def Bx.total (b : Bx) : Nat := b.p.n + b.h0.n + b.h1.n + b.h2.n + b.h3.n + b.o.n + b.i.n + b.e.n

def szM (l n : Int) : Int := if l - n < 0 then -1 else l - n

theorem szM_neg {l n : Int} (h : l < n) : szM l n = -1 := by simp only [szM]; rw [if_pos (by omega)]
theorem szM_pos {l n : Int} (h : ¬ l < n) : szM l n = l - n := by simp only [szM]; rw [if_neg (by omega)]

end Go.Proofs.Ytpfgldbmihbiiaa.Book

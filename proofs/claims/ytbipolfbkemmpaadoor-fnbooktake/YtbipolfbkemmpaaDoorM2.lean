import Derived.Test.YtbipolfbkemmpaaDoorM1
import Derived.Deep.OwnRows
import Derived.Deep.MidRow

/- Lists of words and of ints in memory: copied, held against each other, marked. Conditions: at most 1,000,000,000 elements. -/
namespace Go.Proofs.YtbipolfbkemmpaaDoor.Lst
open Go.ChangeShapes Go.WideShapes Go.ChangeAt Go.RowKit
open Aid

/- The first n cells of a block are the numbers f and may be written. -/
def Fk (k : IntKind) (n : Nat) (w : World) (b : Nat) (f : Nat → Int) : Prop := ∀ j, j < n → w.cell? ⟨b, j, none⟩ = some (.int k (f j)) ∧ w.frozen? ⟨b, j, none⟩ = false

/- A slice that leads to the numbers f. -/
def Sl (k : IntKind) (w : World) (a : Option Addr) (n : Nat) (f : Nat → Int) : Prop := n = 0 ∨ ∃ b off, a = some ⟨b, off, none⟩ ∧ ∀ j, j < n → w.cell? ⟨b, off + j, none⟩ = some (.int k (f j))

theorem Fk.set {k : IntKind} {n : Nat} {w : World} {b : Nat} {f : Nat → Int} (h : Fk k n w b f) (i : Nat) (x : Int) (g : Nat → Int) (hg : g i = x) (ho : ∀ j, j < n → j ≠ i → g j = f j) : Fk k n (w.setCell ⟨b, i, none⟩ (.int k x)) b g := fun j hj => by
  refine ⟨?_, ?_⟩
  · by_cases e : j = i
    · subst e
      rw [World.cell?_setCell_same _ _ _ (h j hj).1, hg]
    · have hne : (⟨b, i, none⟩ : Addr) ≠ ⟨b, j, none⟩ := fun h => e (by injection h with _ h2 _; exact h2.symm)
      rw [World.cell?_setCell_other _ _ _ _ hne, ho j hj e]; exact (h j hj).1
  · have := (h j hj).2
    simp [this]

theorem Fk.far {k : IntKind} {n : Nat} {w : World} {b : Nat} {f : Nat → Int} (h : Fk k n w b f) (p : Addr) (hp : p.block ≠ b) (x : Value) : Fk k n (w.setCell p x) b f := fun j hj => by
  refine ⟨?_, ?_⟩
  · rw [World.cell?_setCell_far _ _ _ _ hp]; exact (h j hj).1
  · have := (h j hj).2
    simp [this]

theorem Fk.drew {k : IntKind} {n : Nat} {w : World} {b : Nat} {f : Nat → Int} (h : Fk k n w b f) : Fk k n w.drew b f := h
theorem Fk.drewN {k : IntKind} {n : Nat} {w : World} {b : Nat} {f : Nat → Int} (h : Fk k n w b f) (q : Nat) : Fk k n (w.drewN q) b f := h
theorem Fk.congr {k : IntKind} {n : Nat} {w : World} {b : Nat} {f g : Nat → Int} (h : Fk k n w b f) (e : ∀ j, j < n → g j = f j) : Fk k n w b g := fun j hj => by rw [e j hj]; exact h j hj
theorem Fk.sl {k : IntKind} {n : Nat} {w : World} {b : Nat} {f : Nat → Int} (h : Fk k n w b f) : Sl k w (some ⟨b, 0, none⟩) n f := .inr ⟨b, 0, rfl, fun j hj => by simpa using (h j hj).1⟩

theorem Fk.below {k : IntKind} {n B : Nat} {W w1 : World} (hb : Below B W w1) {b : Nat} {f : Nat → Int} (h : Fk k n W b f) (hB : b < B) : Fk k n w1 b f := fun j hj => by
  rw [hb.cell (p := ⟨b, j, none⟩) hB, hb.frozen (p := ⟨b, j, none⟩) hB]; exact h j hj

theorem Fk.later {k : IntKind} {n : Nat} {W w1 : World} {b : Nat} {f : Nat → Int} (h : Fk k n W b f) (hb : Below W.heap.size W w1) : Fk k n w1 b f := fun j hj => by
  have hlt := World.block_lt_of_cell? W _ (h j hj).1
  rw [hb.cell (p := ⟨b, j, none⟩) hlt, hb.frozen (p := ⟨b, j, none⟩) hlt]; exact h j hj

theorem Fk.alloc {k : IntKind} {n : Nat} {w : World} {b : Nat} {f : Nat → Int} (h : Fk k n w b f) (o : Obj) : Fk k n (w.alloc o) b f := h.later (below1 w o)

theorem Sl.later {k : IntKind} {W w1 : World} {a : Option Addr} {n : Nat} {f : Nat → Int} (h : Sl k W a n f) (hb : Below W.heap.size W w1) : Sl k w1 a n f := by
  rcases h with h | ⟨b, off, e, h⟩
  · exact .inl h
  · exact .inr ⟨b, off, e, fun j hj => by
      have := h j hj
      rw [hb.cell (p := ⟨b, off + j, none⟩) (World.block_lt_of_cell? W _ this)]; exact this⟩

theorem Sl.congr {k : IntKind} {w : World} {a : Option Addr} {n : Nat} {f g : Nat → Int} (h : Sl k w a n f) (e : ∀ j, j < n → g j = f j) : Sl k w a n g := by
  rcases h with h | ⟨b, off, ea, h⟩
  · exact .inl h
  · exact .inr ⟨b, off, ea, fun j hj => by rw [e j hj]; exact h j hj⟩

theorem Sl.drewN {k : IntKind} {w : World} {a : Option Addr} {n : Nat} {f : Nat → Int} (h : Sl k w a n f) (q : Nat) : Sl k (w.drewN q) a n f := h

/- Only block b has turned, and nothing was made. -/
structure But (b : Nat) (w w' : World) : Prop where
  os : w'.os = w.os
  tape : w'.tape = w.tape
  output : w'.output = w.output
  size : w'.heap.size = w.heap.size
  block : ∀ i, i ≠ b → w'.heap[i]? = w.heap[i]?

theorem But.refl (b : Nat) (w : World) : But b w w := ⟨rfl, rfl, rfl, rfl, fun _ _ => rfl⟩
theorem But.setCell {b : Nat} {w w' : World} (h : But b w w') (o : Nat) (x : Value) : But b w (w'.setCell ⟨b, o, none⟩ x) :=
  ⟨h.os, h.tape, h.output, by rw [← h.size]; simp [World.setCell], fun i hi => (Below.heap_setCell w' ⟨b, o, none⟩ x i hi).trans (h.block i hi)⟩
theorem But.drewN {b : Nat} {w w' : World} (h : But b w w') (q : Nat) : But b w (w'.drewN q) := ⟨h.os, h.tape, h.output, h.size, h.block⟩
theorem But.below {b B : Nat} {w w' : World} (h : But b w w') (hB : B ≤ b) : Below B w w' := ⟨h.os, h.tape, h.output, Nat.le_of_eq h.size.symm, fun k hk => h.block k (by omega)⟩
theorem But.fk {k : IntKind} {n b c : Nat} {w w' : World} {f : Nat → Int} (h : But b w w') (hc : c ≠ b) (hf : Fk k n w c f) : Fk k n w' c f := fun j hj => by
  rw [show w'.cell? ⟨c, j, none⟩ = w.cell? ⟨c, j, none⟩ from World.cell?_of_block (w := w) (h.block c hc), show w'.frozen? ⟨c, j, none⟩ = w.frozen? ⟨c, j, none⟩ from World.frozen?_of_block (w := w) (h.block c hc)]; exact hf j hj
theorem But.sl {k : IntKind} {n b : Nat} {w w' : World} {a : Option Addr} {f : Nat → Int} (h : But b w w') (hc : ∀ x, a = some x → x.block ≠ b) (hf : Sl k w a n f) : Sl k w' a n f := by
  rcases hf with hf | ⟨c, off, e, hf⟩
  · exact .inl hf
  · exact .inr ⟨c, off, e, fun j hj => by
      rw [show w'.cell? ⟨c, off + j, none⟩ = w.cell? ⟨c, off + j, none⟩ from World.cell?_of_block (w := w) (h.block c (hc _ e))]; exact hf j hj⟩

theorem made_get (z : Value) (n j : Nat) (h : j < n) : (madeCells #[z] n)[j]? = some z := by
  unfold madeCells
  rw [Array.getElem?_map, Array.getElem?_range]
  simp [h, Nat.mod_one]

theorem fk_made (k : IntKind) (w : World) (n : Nat) (t : TypeId) : Fk k n (w.alloc (.cells (madeCells #[.int k 0] n) t)) w.heap.size (fun _ => 0) := fun j hj => by
  rw [cell_of_row _ _ j _ _ _ (heap1_0 w _), frozen_of_row _ _ j _ _ (heap1_0 w _)]; exact ⟨made_get _ _ _ hj, rfl⟩

/- What a row that came in is. -/
theorem sl_of {k : IntKind} {w : World} {a : Option Addr} {len cap : Nat} {zs : List Int} (h : (a = none ∧ len = 0 ∧ cap = 0 ∧ zs = []) ∨
    ∃ x, a = some x ∧ len ≤ cap ∧ cap ≤ maxLen ∧ zs.length = cap ∧ (∀ i, i < zs.length → w.cell? (x.add i) = some (.int k (zs.getD i 0))) ∧ ∀ n ∈ zs, (Lit.int k n).wf = true) :
    Sl k w a len (fun j => zs.getD j 0) ∧ len ≤ maxLen ∧ ∀ j, (Lit.int k (zs.getD j 0)).wf = true := by
  rcases h with ⟨rfl, rfl, rfl, rfl⟩ | ⟨x, rfl, hl, hm, hz, hc, hw⟩
  · exact ⟨.inl rfl, Nat.zero_le _, fun j => by cases k <;> rfl⟩
  · refine ⟨?_, Nat.le_trans hl hm, fun j => ?_⟩
    · by_cases h0 : len = 0
      · exact .inl h0
      · obtain ⟨b, off, spot⟩ := x
        have h1 := hc 0 (by omega)
        have hspot : spot = none := by simpa [Addr.add] using World.cell?_spot h1
        subst hspot
        exact .inr ⟨b, off, rfl, fun i hi => by have := hc i (by omega); simp only [Addr.add] at this; split at this <;> simp_all⟩
    · by_cases hj : j < zs.length
      · exact hw _ (by simp [hj])
      · rw [List.getD_eq_getElem?_getD, List.getElem?_eq_none (by omega)]; cases k <;> rfl

theorem infoUint64 : (Tryd.prog.info? 141).map (fun i => (i.zero, i.size, i.bytes)) = some (some (.int .u64 0), 1, 8) := by kernel_rfl

theorem infoInt : (Tryd.prog.info? 3).map (fun i => (i.zero, i.size, i.bytes)) = some (some (.int .i64 0), 1, 8) := by kernel_rfl

end Go.Proofs.YtbipolfbkemmpaaDoor.Lst
/- Books in memory: what comes in, measured; copied, held against each other, marked. Conditions: at most 1,048,576 numbers in all where it is said. -/
namespace Go.Proofs.YtbipolfbkemmpaaDoor.Book
open Go.ChangeShapes Go.WideShapes Go.ChangeAt Go.RowKit
open Aid Lst

/- A list: where it lies, how long it is, its numbers. -/
structure Sx where
  a : Option Addr
  n : Nat
  c : Nat
  f : Nat → Int

/- A book: a number and eight lists. -/
structure Bx where
  s : Int
  p : Sx
  h0 : Sx
  h1 : Sx
  h2 : Sx
  h3 : Sx
  o : Sx
  i : Sx
  e : Sx

def Sx.At (x : Sx) (w : World) : Prop := Sl .i64 w x.a x.n x.f
theorem Sx.At.later {x : Sx} {w w1 : World} (h : x.At w) (hb : Below w.heap.size w w1) : x.At w1 := Sl.later h hb
theorem Sx.At.drewN {x : Sx} {w : World} (h : x.At w) (q : Nat) : x.At (w.drewN q) := Sl.drewN h q

def Bx.lists (b : Bx) : List Sx := [b.p, b.h0, b.h1, b.h2, b.h3, b.o, b.i, b.e]
def Bx.At (b : Bx) (w : World) : Prop := ∀ x ∈ b.lists, x.At w
theorem Bx.At.later {b : Bx} {w w1 : World} (h : b.At w) (hb : Below w.heap.size w w1) : b.At w1 := fun x hx => (h x hx).later hb
theorem Bx.At.drewN {b : Bx} {w : World} (h : b.At w) (q : Nat) : b.At (w.drewN q) := fun x hx => (h x hx).drewN q
def Bx.cells (b : Bx) : List Value := [.int .i64 b.s, .slice b.p.a b.p.n b.p.c, .slice b.h0.a b.h0.n b.h0.c, .slice b.h1.a b.h1.n b.h1.c, .slice b.h2.a b.h2.n b.h2.c, .slice b.h3.a b.h3.n b.h3.c, .slice b.o.a b.o.n b.o.c, .slice b.i.a b.i.n b.i.c, .slice b.e.a b.e.n b.e.c]

/- What a book is, wherever it lies. -/
structure Bm where
  s : Int
  p : Nat × (Nat → Int)
  h0 : Nat × (Nat → Int)
  h1 : Nat × (Nat → Int)
  h2 : Nat × (Nat → Int)
  h3 : Nat × (Nat → Int)
  o : Nat × (Nat → Int)
  i : Nat × (Nat → Int)
  e : Nat × (Nat → Int)
def Sx.m (x : Sx) : Nat × (Nat → Int) := (x.n, x.f)
def Bx.m (b : Bx) : Bm := ⟨b.s, b.p.m, b.h0.m, b.h1.m, b.h2.m, b.h3.m, b.o.m, b.i.m, b.e.m⟩

/- A list in memory of its own, in blocks from B on, below C. -/
def Sx.Own (x : Sx) (B C : Nat) (w : World) : Prop := x.n = 0 ∨ ∃ k, x.a = some ⟨k, 0, none⟩ ∧ B ≤ k ∧ k < C ∧ Fk .i64 x.n w k x.f
def Apart (x y : Sx) : Prop := x.n = 0 ∨ y.n = 0 ∨ ∃ j k, x.a = some ⟨j, 0, none⟩ ∧ y.a = some ⟨k, 0, none⟩ ∧ j ≠ k
structure Bx.Own (b : Bx) (B C : Nat) (w : World) : Prop where
  each : ∀ x ∈ b.lists, x.Own B C w
  apart : b.lists.Pairwise Apart
  caps : ∀ x ∈ b.lists, x.n ≤ x.c

theorem Sx.Own.at {x : Sx} {B C : Nat} {w : World} (h : x.Own B C w) : x.At w := by
  rcases h with h | ⟨k, e, _, _, h⟩
  · exact .inl h
  · unfold Sx.At; rw [e]; exact h.sl
theorem Bx.Own.at {b : Bx} {B C : Nat} {w : World} (h : b.Own B C w) : b.At w := fun x hx => (h.each x hx).at

/- Only blocks from B on, below C, have turned, of those that were there. -/
structure Only (B C : Nat) (w w' : World) : Prop where
  os : w'.os = w.os
  tape : w'.tape = w.tape
  output : w'.output = w.output
  size : w.heap.size ≤ w'.heap.size
  block : ∀ i, i < w.heap.size → (i < B ∨ C ≤ i) → w'.heap[i]? = w.heap[i]?

theorem Only.cell {B C : Nat} {w w' : World} (h : Only B C w w') {k o : Nat} (hk : k < w.heap.size) (ho : k < B ∨ C ≤ k) : w'.cell? ⟨k, o, none⟩ = w.cell? ⟨k, o, none⟩ := World.cell?_of_block (w := w) (h.block k hk ho)
theorem Only.frozen {B C : Nat} {w w' : World} (h : Only B C w w') {k o : Nat} (hk : k < w.heap.size) (ho : k < B ∨ C ≤ k) : w'.frozen? ⟨k, o, none⟩ = w.frozen? ⟨k, o, none⟩ := World.frozen?_of_block (w := w) (h.block k hk ho)
theorem Only.below {B C : Nat} {w w' : World} (h : Only B C w w') (hB : B ≤ w.heap.size) : Below B w w' := ⟨h.os, h.tape, h.output, h.size, fun k hk => h.block k (by omega) (.inl hk)⟩
theorem Only.of {B C : Nat} {w w' : World} (h : Below w.heap.size w w') : Only B C w w' := ⟨h.os, h.tape, h.output, h.size, fun k hk _ => h.block k hk⟩
theorem Only.trans {B C : Nat} {a w w' : World} (h : Only B C a w) (h' : Only B C w w') : Only B C a w' := ⟨h'.os.trans h.os, h'.tape.trans h.tape, h'.output.trans h.output, Nat.le_trans h.size h'.size, fun k hk ho => (h'.block k (Nat.lt_of_lt_of_le hk h.size) ho).trans (h.block k hk ho)⟩
theorem Only.mono {B C B' C' : Nat} {w w' : World} (h : Only B C w w') (hB : B' ≤ B) (hC : C ≤ C') : Only B' C' w w' := ⟨h.os, h.tape, h.output, h.size, fun k hk ho => h.block k hk (by omega)⟩
theorem Only.but {b : Nat} {w w' : World} (h : But b w w') : Only b (b + 1) w w' := ⟨h.os, h.tape, h.output, Nat.le_of_eq h.size.symm, fun k _ ho => h.block k (by omega)⟩
theorem Only.fk {B C n k : Nat} {w w' : World} {f : Nat → Int} (h : Only B C w w') (ho : k < B ∨ C ≤ k) (hf : Fk .i64 n w k f) : Fk .i64 n w' k f := fun j hj => by
  have hlt := World.block_lt_of_cell? w _ (hf j hj).1
  rw [h.cell hlt ho, h.frozen hlt ho]; exact hf j hj
theorem Sx.Own.only {x : Sx} {B C B' C' : Nat} {w w' : World} (hx : x.Own B C w) (h : Only B' C' w w') (ho : C ≤ B' ∨ C' ≤ B) : x.Own B C w' := by
  rcases hx with hx | ⟨k, e, h1, h2, hx⟩
  · exact .inl hx
  · exact .inr ⟨k, e, h1, h2, h.fk (by omega) hx⟩
theorem Bx.Own.only {b : Bx} {B C B' C' : Nat} {w w' : World} (hx : b.Own B C w) (h : Only B' C' w w') (ho : C ≤ B' ∨ C' ≤ B) : b.Own B C w' := ⟨fun x hi => (hx.each x hi).only h ho, hx.apart, hx.caps⟩
theorem Bx.Own.later {b : Bx} {B C : Nat} {w w' : World} (hx : b.Own B C w) (h : Below w.heap.size w w') : b.Own B C w' := hx.only (Only.of (B := C) (C := C) h) (.inl (Nat.le_refl _))
theorem Bx.Own.drewN {b : Bx} {B C : Nat} {w : World} (hx : b.Own B C w) (q : Nat) : b.Own B C (w.drewN q) := ⟨fun x hi => by
  rcases hx.each x hi with h | ⟨k, e, h1, h2, h⟩
  · exact .inl h
  · exact .inr ⟨k, e, h1, h2, h.drewN q⟩, hx.apart, hx.caps⟩
theorem Bx.Own.mono {b : Bx} {B C B' C' : Nat} {w : World} (hx : b.Own B C w) (hB : B' ≤ B) (hC : C ≤ C') : b.Own B' C' w := ⟨fun x hi => by
  rcases hx.each x hi with h | ⟨k, e, h1, h2, h⟩
  · exact .inl h
  · exact .inr ⟨k, e, by omega, by omega, h⟩, hx.apart, hx.caps⟩

/- Not too long, all of it. -/
def Bx.total (b : Bx) : Nat := b.p.n + b.h0.n + b.h1.n + b.h2.n + b.h3.n + b.o.n + b.i.n + b.e.n

def szM (l n : Int) : Int := if l - n < 0 then -1 else l - n

theorem szM_neg {l n : Int} (h : l < n) : szM l n = -1 := by simp only [szM]; rw [if_pos (by omega)]
theorem szM_pos {l n : Int} (h : ¬ l < n) : szM l n = l - n := by simp only [szM]; rw [if_neg (by omega)]

end Go.Proofs.YtbipolfbkemmpaaDoor.Book
/- Rings of links in memory: over no program. -/
namespace Go.Proofs.YtbipolfbkemmpaaDoor.Rin
open Go.ChangeShapes Go.WideShapes Go.ChangeAt Go.RowKit
open Aid
set_option linter.unusedVariables false

def ptr (k : Nat) : Value := .pointer (some ⟨k, 0, none⟩)
def updI (f : Nat → Int) (k : Nat) (v : Int) : Nat → Int := fun i => if i = k then v else f i
theorem updI_same (f : Nat → Int) (k : Nat) (v : Int) : updI f k v k = v := by simp [updI]
theorem updI_ne {f : Nat → Int} {k i : Nat} {v : Int} (h : i ≠ k) : updI f k v i = f i := by simp [updI, h]

/- A link: a room, the next one, the one ahead. -/
structure Lk (w : World) (un : Nat → Int) (nx pv : Nat → Nat) (k : Nat) : Prop where
  u : w.cell? ⟨k, 0, none⟩ = some (.int .i64 (un k))
  n : w.cell? ⟨k, 1, none⟩ = some (ptr (nx k))
  p : w.cell? ⟨k, 2, none⟩ = some (ptr (pv k))
  fn : w.frozen? ⟨k, 1, none⟩ = false
  fp : w.frozen? ⟨k, 2, none⟩ = false
  o : ∃ C t, w.heap[k]? = some (.cells C t (0, 0))
theorem Lk.lt {w : World} {un : Nat → Int} {nx pv : Nat → Nat} {k : Nat} (h : Lk w un nx pv k) : k < w.heap.size := World.block_lt_of_cell? w _ h.u
theorem Lk.of_block {w w1 : World} {un : Nat → Int} {nx pv : Nat → Nat} {k : Nat} (h : Lk w un nx pv k) (hb : w1.heap[k]? = w.heap[k]?) : Lk w1 un nx pv k :=
  ⟨(World.cell?_of_block (w := w) hb).trans h.u, (World.cell?_of_block (w := w) hb).trans h.n, (World.cell?_of_block (w := w) hb).trans h.p, (World.frozen?_of_block (w := w) hb).trans h.fn, (World.frozen?_of_block (w := w) hb).trans h.fp, by rw [hb]; exact h.o⟩
theorem Lk.setN {w : World} {un : Nat → Int} {nx pv : Nat → Nat} {k : Nat} (h : Lk w un nx pv k) (v : Nat) : Lk (w.setCell ⟨k, 1, none⟩ (ptr v)) un (upd nx k v) pv k :=
  ⟨by rw [World.cell?_setCell_other _ _ _ _ (by simp)]; exact h.u, by rw [World.cell?_setCell_same _ _ _ h.n, upd_same], by rw [World.cell?_setCell_other _ _ _ _ (by simp)]; exact h.p, by simp [h.fn], by simp [h.fp], by obtain ⟨C, t, e⟩ := h.o; exact ⟨_, t, heap_setCell_same w k 1 C t _ e⟩⟩
theorem Lk.setP {w : World} {un : Nat → Int} {nx pv : Nat → Nat} {k : Nat} (h : Lk w un nx pv k) (v : Nat) : Lk (w.setCell ⟨k, 2, none⟩ (ptr v)) un nx (upd pv k v) k :=
  ⟨by rw [World.cell?_setCell_other _ _ _ _ (by simp)]; exact h.u, by rw [World.cell?_setCell_other _ _ _ _ (by simp)]; exact h.n, by rw [World.cell?_setCell_same _ _ _ h.p, upd_same], by simp [h.fn], by simp [h.fp], by obtain ⟨C, t, e⟩ := h.o; exact ⟨_, t, heap_setCell_same w k 2 C t _ e⟩⟩
theorem Lk.far {w : World} {un : Nat → Int} {nx pv : Nat → Nat} {k b o : Nat} (h : Lk w un nx pv k) (hb : b ≠ k) (x : Value) : Lk (w.setCell ⟨b, o, none⟩ x) un nx pv k :=
  h.of_block (Below.heap_setCell w ⟨b, o, none⟩ x k (Ne.symm hb))
theorem Lk.congr {w : World} {un un' : Nat → Int} {nx pv nx' pv' : Nat → Nat} {k : Nat} (h : Lk w un nx pv k) (eu : un' k = un k) (en : nx' k = nx k) (ep : pv' k = pv k) : Lk w un' nx' pv' k :=
  ⟨by rw [eu]; exact h.u, by rw [en]; exact h.n, by rw [ep]; exact h.p, h.fn, h.fp, h.o⟩

def Mem (w : World) (un : Nat → Int) (nx pv : Nat → Nat) (ks : List Nat) : Prop := ∀ k ∈ ks, Lk w un nx pv k
theorem Mem.setN {w : World} {un : Nat → Int} {nx pv : Nat → Nat} {ks : List Nat} (h : Mem w un nx pv ks) (a v : Nat) : Mem (w.setCell ⟨a, 1, none⟩ (ptr v)) un (upd nx a v) pv ks := fun k hk => by
  by_cases e : k = a
  · subst e; exact (h k hk).setN v
  · exact ((h k hk).far (Ne.symm e) _).congr rfl (upd_ne e) rfl
theorem Mem.setP {w : World} {un : Nat → Int} {nx pv : Nat → Nat} {ks : List Nat} (h : Mem w un nx pv ks) (a v : Nat) : Mem (w.setCell ⟨a, 2, none⟩ (ptr v)) un nx (upd pv a v) ks := fun k hk => by
  by_cases e : k = a
  · subst e; exact (h k hk).setP v
  · exact ((h k hk).far (Ne.symm e) _).congr rfl rfl (upd_ne e)
theorem Mem.later {w w1 : World} {un : Nat → Int} {nx pv : Nat → Nat} {ks : List Nat} (h : Mem w un nx pv ks) (hb : Below w.heap.size w w1) : Mem w1 un nx pv ks := fun k hk => (h k hk).of_block (hb.block k (h k hk).lt)
/- A new link. -/
theorem Mem.make {w : World} {un : Nat → Int} {nx pv : Nat → Nat} {ks : List Nat} (h : Mem w un nx pv ks) (u : Int) (b a : Nat) (t : TypeId) :
    Mem (w.alloc (.cells #[.int .i64 u, ptr b, ptr a] t)) (updI un w.heap.size u) (upd nx w.heap.size b) (upd pv w.heap.size a) (w.heap.size :: ks) := fun k hk => by
  rcases List.mem_cons.1 hk with rfl | hk
  · have hb := heap1_0 w (.cells #[.int .i64 u, ptr b, ptr a] t)
    exact ⟨by rw [cell_of_row _ _ 0 _ _ _ hb, updI_same]; rfl, by rw [cell_of_row _ _ 1 _ _ _ hb, upd_same]; rfl, by rw [cell_of_row _ _ 2 _ _ _ hb, upd_same]; rfl, frozen_of_row _ _ 1 _ _ hb, frozen_of_row _ _ 2 _ _ hb, ⟨_, _, hb⟩⟩
  · have l := (h k hk).lt
    exact ((h k hk).of_block ((below1 w _).block k l)).congr (updI_ne (by omega)) (upd_ne (by omega)) (upd_ne (by omega))

/- A ring in memory, and the rooms in their order. -/
structure Rg (w : World) (B : Nat) (s : Nat) (U : List Int) (un : Nat → Int) (nx pv : Nat → Nat) (l : List Nat) : Prop where
  r : Ring nx pv s l
  m : Mem w un nx pv (s :: l)
  u : l.map un = U
  b : ∀ k ∈ s :: l, B ≤ k
theorem Rg.later {w w1 : World} {B s : Nat} {U : List Int} {un : Nat → Int} {nx pv : Nat → Nat} {l : List Nat} (h : Rg w B s U un nx pv l) (hb : Below w.heap.size w w1) : Rg w1 B s U un nx pv l := ⟨h.r, h.m.later hb, h.u, h.b⟩
theorem Rg.fresh {w : World} {B s : Nat} {U : List Int} {un : Nat → Int} {nx pv : Nat → Nat} {l : List Nat} (h : Rg w B s U un nx pv l) : w.heap.size ∉ s :: l := fun m => Nat.lt_irrefl _ (h.m _ m).lt
/- In front: 'ring.follow'. -/
theorem Rg.follow {w : World} {B s : Nat} {U : List Int} {un : Nat → Int} {nx pv : Nat → Nat} {l : List Nat} (h : Rg w B s U un nx pv l) (hB : B ≤ w.heap.size) (u : Int) (t : TypeId) :
    Rg (((w.alloc (.cells #[.int .i64 u, ptr (nx s), ptr s] t)).setCell ⟨nx s, 2, none⟩ (ptr w.heap.size)).setCell ⟨s, 1, none⟩ (ptr w.heap.size)) B s (u :: U) (updI un w.heap.size u) (upd (upd nx w.heap.size (nx s)) s w.heap.size) (upd (upd pv w.heap.size s) (nx s) w.heap.size) (w.heap.size :: l) := by
  refine ⟨h.r.follow h.fresh, fun k hk => (((h.m.make u (nx s) s t).setP (nx s) w.heap.size).setN s w.heap.size) k ?_, ?_, fun k hk => ?_⟩
  · simp only [List.mem_cons] at hk ⊢
    rcases hk with h1 | h1 | h1
    · exact .inr (.inl h1)
    · exact .inl h1
    · exact .inr (.inr h1)
  · rw [List.map_cons, updI_same, ← h.u]
    congr 1
    exact List.map_congr_left (fun k hk => updI_ne (fun e => h.fresh (by rw [← e]; exact List.mem_cons_of_mem _ hk)))
  · simp only [List.mem_cons] at hk
    rcases hk with rfl | rfl | h1
    · exact h.b _ List.mem_cons_self
    · exact hB
    · exact h.b k (List.mem_cons_of_mem _ h1)
/- Behind the last one: 'ring.prev.follow'. -/
theorem Rg.append {w : World} {B s : Nat} {U : List Int} {un : Nat → Int} {nx pv : Nat → Nat} {l : List Nat} (h : Rg w B s U un nx pv l) (hB : B ≤ w.heap.size) (u : Int) (t : TypeId) :
    nx (pv s) = s ∧ Rg (((w.alloc (.cells #[.int .i64 u, ptr s, ptr (pv s)] t)).setCell ⟨s, 2, none⟩ (ptr w.heap.size)).setCell ⟨pv s, 1, none⟩ (ptr w.heap.size)) B s (U ++ [u]) (updI un w.heap.size u) (upd (upd nx w.heap.size s) (pv s) w.heap.size) (upd (upd pv w.heap.size (pv s)) s w.heap.size) (l ++ [w.heap.size]) := by
  obtain ⟨e, r⟩ := h.r.append h.fresh
  refine ⟨e, r, fun k hk => (((h.m.make u s (pv s) t).setP s w.heap.size).setN (pv s) w.heap.size) k ?_, ?_, fun k hk => ?_⟩
  · simp only [List.mem_cons, List.mem_append, List.not_mem_nil, or_false] at hk ⊢
    rcases hk with h1 | h1 | h1
    · exact .inr (.inl h1)
    · exact .inr (.inr h1)
    · exact .inl h1
  · rw [List.map_append, List.map_cons, List.map_nil, updI_same, ← h.u]
    congr 1
    exact List.map_congr_left (fun k hk => updI_ne (fun e => h.fresh (by rw [← e]; exact List.mem_cons_of_mem _ hk)))
  · simp only [List.mem_cons, List.mem_append, List.not_mem_nil, or_false] at hk
    rcases hk with rfl | h1 | rfl
    · exact h.b _ List.mem_cons_self
    · exact h.b k (List.mem_cons_of_mem _ h1)
    · exact hB
/- A link leaves: its own next stays. -/
theorem Rg.leave {w : World} {B s x : Nat} {U : List Int} {un : Nat → Int} {nx pv : Nat → Nat} {l1 l2 : List Nat} (h : Rg w B s U un nx pv (l1 ++ x :: l2)) :
    nx x = l2.headD s ∧ pv x = l1.getLastD s ∧ x ≠ pv x ∧
    Rg ((w.setCell ⟨pv x, 1, none⟩ (ptr (nx x))).setCell ⟨nx x, 2, none⟩ (ptr (pv x))) B s ((l1 ++ l2).map un) un (upd nx (pv x) (nx x)) (upd pv (nx x) (pv x)) (l1 ++ l2) := by
  obtain ⟨e1, e2, r, e3⟩ := h.r.leave
  refine ⟨e1, e2, e3, r, fun k hk => (((h.m.setN (pv x) (nx x)).setP (nx x) (pv x)) k ?_), rfl, fun k hk => h.b k ?_⟩
  all_goals
    simp only [List.mem_cons, List.mem_append] at hk ⊢
    rcases hk with h1 | h1 | h1
    · exact .inl h1
    · exact .inr (.inl h1)
    · exact .inr (.inr (.inr h1))

end Go.Proofs.YtbipolfbkemmpaaDoor.Rin

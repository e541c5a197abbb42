import Derived.Test.YtoaopapnpndklaaDoorM1
import Derived.Deep.MidRow

/- Books in memory: what comes in, measured; copied, held against each other, marked. Conditions: at most 1,048,576 numbers in all where it is said. -/
namespace Go.Proofs.YtoaopapnpndklaaDoor.Book
open Go.ChangeShapes Go.WideShapes Go.ChangeAt Go.RowKit
open Go.Proofs.YtoaopapnpndklaaDoor.Aid Go.Proofs.YtoaopapnpndklaaDoor.Lst

/- A list: where it lies, how long it is, its numbers. -/
structure Sx where
  a : Option Addr
  n : Nat
  c : Nat
  f : Nat → Int

/- A book: a number and eight lists. -/
structure Bx where
  s : Int
  p : Sx
  h0 : Sx
  h1 : Sx
  h2 : Sx
  h3 : Sx
  o : Sx
  i : Sx
  e : Sx

def Sx.At (x : Sx) (w : World) : Prop := Sl .i64 w x.a x.n x.f
theorem Sx.At.later {x : Sx} {w w1 : World} (h : x.At w) (hb : Below w.heap.size w w1) : x.At w1 := Sl.later h hb
theorem Sx.At.drewN {x : Sx} {w : World} (h : x.At w) (q : Nat) : x.At (w.drewN q) := Sl.drewN h q

def Bx.lists (b : Bx) : List Sx := [b.p, b.h0, b.h1, b.h2, b.h3, b.o, b.i, b.e]
def Bx.At (b : Bx) (w : World) : Prop := ∀ x ∈ b.lists, x.At w
theorem Bx.At.later {b : Bx} {w w1 : World} (h : b.At w) (hb : Below w.heap.size w w1) : b.At w1 := fun x hx => (h x hx).later hb
theorem Bx.At.drewN {b : Bx} {w : World} (h : b.At w) (q : Nat) : b.At (w.drewN q) := fun x hx => (h x hx).drewN q
def Bx.cells (b : Bx) : List Value := [.int .i64 b.s, .slice b.p.a b.p.n b.p.c, .slice b.h0.a b.h0.n b.h0.c, .slice b.h1.a b.h1.n b.h1.c, .slice b.h2.a b.h2.n b.h2.c, .slice b.h3.a b.h3.n b.h3.c, .slice b.o.a b.o.n b.o.c, .slice b.i.a b.i.n b.i.c, .slice b.e.a b.e.n b.e.c]

/- What a book is, wherever it lies. -/
structure Bm where
  s : Int
  p : Nat × (Nat → Int)
  h0 : Nat × (Nat → Int)
  h1 : Nat × (Nat → Int)
  h2 : Nat × (Nat → Int)
  h3 : Nat × (Nat → Int)
  o : Nat × (Nat → Int)
  i : Nat × (Nat → Int)
  e : Nat × (Nat → Int)
def Sx.m (x : Sx) : Nat × (Nat → Int) := (x.n, x.f)
def Bx.m (b : Bx) : Bm := ⟨b.s, b.p.m, b.h0.m, b.h1.m, b.h2.m, b.h3.m, b.o.m, b.i.m, b.e.m⟩

/- A list in memory of its own, in blocks from B on, below C. -/
def Sx.Own (x : Sx) (B C : Nat) (w : World) : Prop := x.n = 0 ∨ ∃ k, x.a = some ⟨k, 0, none⟩ ∧ B ≤ k ∧ k < C ∧ Fk .i64 x.n w k x.f
def Apart (x y : Sx) : Prop := x.n = 0 ∨ y.n = 0 ∨ ∃ j k, x.a = some ⟨j, 0, none⟩ ∧ y.a = some ⟨k, 0, none⟩ ∧ j ≠ k
structure Bx.Own (b : Bx) (B C : Nat) (w : World) : Prop where
  each : ∀ x ∈ b.lists, x.Own B C w
  apart : b.lists.Pairwise Apart
  caps : ∀ x ∈ b.lists, x.n ≤ x.c

theorem Sx.Own.at {x : Sx} {B C : Nat} {w : World} (h : x.Own B C w) : x.At w := by
  rcases h with h | ⟨k, e, _, _, h⟩
  · exact .inl h
  · unfold Sx.At; rw [e]; exact h.sl
theorem Bx.Own.at {b : Bx} {B C : Nat} {w : World} (h : b.Own B C w) : b.At w := fun x hx => (h.each x hx).at

/- Only blocks from B on, below C, have turned, of those that were there. -/
structure Only (B C : Nat) (w w' : World) : Prop where
  os : w'.os = w.os
  tape : w'.tape = w.tape
  output : w'.output = w.output
  size : w.heap.size ≤ w'.heap.size
  block : ∀ i, i < w.heap.size → (i < B ∨ C ≤ i) → w'.heap[i]? = w.heap[i]?

theorem Only.cell {B C : Nat} {w w' : World} (h : Only B C w w') {k o : Nat} (hk : k < w.heap.size) (ho : k < B ∨ C ≤ k) : w'.cell? ⟨k, o, none⟩ = w.cell? ⟨k, o, none⟩ := World.cell?_of_block (w := w) (h.block k hk ho)
theorem Only.frozen {B C : Nat} {w w' : World} (h : Only B C w w') {k o : Nat} (hk : k < w.heap.size) (ho : k < B ∨ C ≤ k) : w'.frozen? ⟨k, o, none⟩ = w.frozen? ⟨k, o, none⟩ := World.frozen?_of_block (w := w) (h.block k hk ho)
theorem Only.below {B C : Nat} {w w' : World} (h : Only B C w w') (hB : B ≤ w.heap.size) : Below B w w' := ⟨h.os, h.tape, h.output, h.size, fun k hk => h.block k (by omega) (.inl hk)⟩
theorem Only.of {B C : Nat} {w w' : World} (h : Below w.heap.size w w') : Only B C w w' := ⟨h.os, h.tape, h.output, h.size, fun k hk _ => h.block k hk⟩
theorem Only.trans {B C : Nat} {a w w' : World} (h : Only B C a w) (h' : Only B C w w') : Only B C a w' := ⟨h'.os.trans h.os, h'.tape.trans h.tape, h'.output.trans h.output, Nat.le_trans h.size h'.size, fun k hk ho => (h'.block k (Nat.lt_of_lt_of_le hk h.size) ho).trans (h.block k hk ho)⟩
theorem Only.mono {B C B' C' : Nat} {w w' : World} (h : Only B C w w') (hB : B' ≤ B) (hC : C ≤ C') : Only B' C' w w' := ⟨h.os, h.tape, h.output, h.size, fun k hk ho => h.block k hk (by omega)⟩
theorem Only.but {b : Nat} {w w' : World} (h : But b w w') : Only b (b + 1) w w' := ⟨h.os, h.tape, h.output, Nat.le_of_eq h.size.symm, fun k _ ho => h.block k (by omega)⟩
theorem Only.fk {B C n k : Nat} {w w' : World} {f : Nat → Int} (h : Only B C w w') (ho : k < B ∨ C ≤ k) (hf : Fk .i64 n w k f) : Fk .i64 n w' k f := fun j hj => by
  have hlt := World.block_lt_of_cell? w _ (hf j hj).1
  rw [h.cell hlt ho, h.frozen hlt ho]; exact hf j hj
theorem Sx.Own.only {x : Sx} {B C B' C' : Nat} {w w' : World} (hx : x.Own B C w) (h : Only B' C' w w') (ho : C ≤ B' ∨ C' ≤ B) : x.Own B C w' := by
  rcases hx with hx | ⟨k, e, h1, h2, hx⟩
  · exact .inl hx
  · exact .inr ⟨k, e, h1, h2, h.fk (by omega) hx⟩
theorem Bx.Own.only {b : Bx} {B C B' C' : Nat} {w w' : World} (hx : b.Own B C w) (h : Only B' C' w w') (ho : C ≤ B' ∨ C' ≤ B) : b.Own B C w' := ⟨fun x hi => (hx.each x hi).only h ho, hx.apart, hx.caps⟩
theorem Bx.Own.later {b : Bx} {B C : Nat} {w w' : World} (hx : b.Own B C w) (h : Below w.heap.size w w') : b.Own B C w' := hx.only (Only.of (B := C) (C := C) h) (.inl (Nat.le_refl _))
theorem Bx.Own.drewN {b : Bx} {B C : Nat} {w : World} (hx : b.Own B C w) (q : Nat) : b.Own B C (w.drewN q) := ⟨fun x hi => by
  rcases hx.each x hi with h | ⟨k, e, h1, h2, h⟩
  · exact .inl h
  · exact .inr ⟨k, e, h1, h2, h.drewN q⟩, hx.apart, hx.caps⟩
theorem Bx.Own.mono {b : Bx} {B C B' C' : Nat} {w : World} (hx : b.Own B C w) (hB : B' ≤ B) (hC : C ≤ C') : b.Own B' C' w := ⟨fun x hi => by
  rcases hx.each x hi with h | ⟨k, e, h1, h2, h⟩
  · exact .inl h
  · exact .inr ⟨k, e, by omega, by omega, h⟩, hx.apart, hx.caps⟩

/- Not too long, all of it. -/
def Bx.total (b : Bx) : Nat := b.p.n + b.h0.n + b.h1.n + b.h2.n + b.h3.n + b.o.n + b.i.n + b.e.n

def szM (l n : Int) : Int := if l - n < 0 then -1 else l - n

theorem sz1_any (x : Option Addr) (n c : Nat) (l : Int) (w : World) (hn : (n : Int) ≤ maxLen) (h0 : 0 ≤ l) (h1 : l ≤ 1048576) :
    Calls Tryd.prog 12 #[.slice x n c, .int .i64 l] w fun e w' => e = .returned (.int .i64 (szM l n)) ∧ w' = w := by
  have hm : (maxLen : Int) ≤ 9223372036854775807 := by decide
  by_cases h : l - n < 0
  all_goals
    go_enter Tryd.func12, Tryd.ntmps12
    go_wp2_with (fail)
    go_ret
    exact ⟨by simp only [szM]; first | (rw [if_pos h]; rfl) | (rw [if_neg (by omega)]; rfl), rfl⟩

theorem szM_neg {l n : Int} (h : l < n) : szM l n = -1 := by simp only [szM]; rw [if_pos (by omega)]
theorem szM_pos {l n : Int} (h : ¬ l < n) : szM l n = l - n := by simp only [szM]; rw [if_neg (by omega)]

set_option maxHeartbeats 1000000 in
theorem sz4_any (x0 x1 x2 x3 : Option Addr) (n0 c0 n1 c1 n2 c2 n3 c3 : Nat) (l : Int) (w : World) (hn0 : (n0 : Int) ≤ maxLen) (hn1 : (n1 : Int) ≤ maxLen) (hn2 : (n2 : Int) ≤ maxLen) (hn3 : (n3 : Int) ≤ maxLen) (h0 : 0 ≤ l) (h1 : l ≤ 1048576) :
    Calls Tryd.prog 13 #[.agg #[.slice x0 n0 c0, .slice x1 n1 c1, .slice x2 n2 c2, .slice x3 n3 c3], .int .i64 l] w fun e w' => (∃ r, e = .returned (.int .i64 r) ∧ (0 ≤ r → r + n0 + n1 + n2 + n3 = l) ∧ r ≤ l ∧ -1 ≤ r) ∧ Below w.heap.size w w' := by
  go_enter Tryd.func13, Tryd.ntmps13
  go_wp2_with (fail)
  refine wp_loop_rounds 5 ?_
  rw [rounds_succ]
  go_wp2_with (fail)
  refine (sz1_any _ _ _ _ _ hn0 h0 h1).mono ?_
  rintro e w1 ⟨rfl, rfl⟩
  by_cases e0 : l < n0
  · rw [szM_neg e0]
    go_wp2_with (fail)
    go_ret
    exact ⟨⟨-1, rfl, fun h => by omega, by omega, by omega⟩, below1 _ _⟩
  rw [szM_pos e0]
  go_wp2_with (fail)
  rw [rounds_succ]
  go_wp2_with (fail)
  refine (sz1_any _ _ _ _ _ hn1 (by omega) (by omega)).mono ?_
  rintro e w1 ⟨rfl, rfl⟩
  by_cases e1 : l - n0 < n1
  · rw [szM_neg e1]
    go_wp2_with (fail)
    go_ret
    exact ⟨⟨-1, rfl, fun h => by omega, by omega, by omega⟩, below1 _ _⟩
  rw [szM_pos e1]
  go_wp2_with (fail)
  rw [rounds_succ]
  go_wp2_with (fail)
  refine (sz1_any _ _ _ _ _ hn2 (by omega) (by omega)).mono ?_
  rintro e w1 ⟨rfl, rfl⟩
  by_cases e2 : l - n0 - n1 < n2
  · rw [szM_neg e2]
    go_wp2_with (fail)
    go_ret
    exact ⟨⟨-1, rfl, fun h => by omega, by omega, by omega⟩, below1 _ _⟩
  rw [szM_pos e2]
  go_wp2_with (fail)
  rw [rounds_succ]
  go_wp2_with (fail)
  refine (sz1_any _ _ _ _ _ hn3 (by omega) (by omega)).mono ?_
  rintro e w1 ⟨rfl, rfl⟩
  by_cases e3 : l - n0 - n1 - n2 < n3
  · rw [szM_neg e3]
    go_wp2_with (fail)
    go_ret
    exact ⟨⟨-1, rfl, fun h => by omega, by omega, by omega⟩, below1 _ _⟩
  rw [szM_pos e3]
  go_wp2_with (fail)
  rw [rounds_succ]
  go_wp2_with (fail)
  go_ret
  exact ⟨⟨_, rfl, fun h => by omega, by omega, by omega⟩, below1 _ _⟩

set_option maxHeartbeats 2000000 in
theorem sz_any (b : Bx) (l : Int) (w : World) (hn : ∀ x ∈ b.lists, (x.n : Int) ≤ maxLen) (h0 : 0 ≤ l) (h1 : l ≤ 1048576) :
    Calls Tryd.prog 4 #[.agg b.cells.toArray, .int .i64 l] w fun e w' => (∃ r, e = .returned (.int .i64 r) ∧ (0 ≤ r → r + b.total = l) ∧ r ≤ l ∧ -1 ≤ r) ∧ Below w.heap.size w w' := by
  obtain ⟨bs, ⟨pa, pn, pc, pf⟩, ⟨a0, n0, c0, f0⟩, ⟨a1, n1, c1, f1⟩, ⟨a2, n2, c2, f2⟩, ⟨a3, n3, c3, f3⟩, ⟨oa, on, oc, of⟩, ⟨ia, in_, ic, if_⟩, ⟨ea, en, ec, ef⟩⟩ := b
  simp only [Bx.lists, List.forall_mem_cons, List.not_mem_nil, false_implies, implies_true, and_true] at hn
  obtain ⟨hp, hh0, hh1, hh2, hh3, ho, hi, he⟩ := hn
  simp only [Bx.cells, Bx.total]
  go_enter Tryd.func4, Tryd.ntmps4
  go_wp2_with (fail)
  refine (sz1_any _ _ _ _ _ hp h0 h1).mono ?_
  rintro e w1 ⟨rfl, rfl⟩
  by_cases e0 : l < pn
  · rw [szM_neg e0]
    go_wp2_with (fail)
    go_ret
    exact ⟨⟨-1, rfl, fun h => by omega, by omega, by omega⟩, below1 _ _⟩
  rw [szM_pos e0]
  go_wp2_with (fail)
  refine (sz4_any _ _ _ _ _ _ _ _ _ _ _ _ _ _ hh0 hh1 hh2 hh3 (by omega) (by omega)).mono ?_
  rintro e w2 ⟨⟨r, rfl, hr, hr1, hr2⟩, hb⟩
  have B2 : Below w.heap.size w w2 := (below1 _ _).trans (hb.mono (by simp))
  have R : w2.rangeAt w.heap.size 0 [.int .i64 bs, .slice pa pn pc, .slice a0 n0 c0, .slice a1 n1 c1, .slice a2 n2 c2, .slice a3 n3 c3, .slice oa on oc, .slice ia in_ ic, .slice ea en ec] := range_below hb (range_lit #[.int .i64 bs, .slice pa pn pc, .slice a0 n0 c0, .slice a1 n1 c1, .slice a2 n2 c2, .slice a3 n3 c3, .slice oa on oc, .slice ia in_ ic, .slice ea en ec] (heap1_0 _ _)) (by simp)
  have q6 : w2.cell? ⟨w.heap.size, 6, none⟩ = some (.slice oa on oc) := R 6 _ rfl
  have q7 : w2.cell? ⟨w.heap.size, 7, none⟩ = some (.slice ia in_ ic) := R 7 _ rfl
  have q8 : w2.cell? ⟨w.heap.size, 8, none⟩ = some (.slice ea en ec) := R 8 _ rfl
  clear hb R
  by_cases g0 : r < 0
  · go_wp2_with (fail)
    go_ret
    exact ⟨⟨-1, rfl, fun h => by omega, by omega, by omega⟩, B2⟩
  have hr := hr (by omega)
  go_wp2_with (fail)
  refine (sz1_any _ _ _ _ _ ho (by omega) (by omega)).mono ?_
  rintro e w3 ⟨rfl, rfl⟩
  by_cases e1 : r < on
  · rw [szM_neg e1]
    go_wp2_with (fail)
    go_ret
    exact ⟨⟨-1, rfl, fun h => by omega, by omega, by omega⟩, B2⟩
  rw [szM_pos e1]
  go_wp2_with (fail)
  refine (sz1_any _ _ _ _ _ hi (by omega) (by omega)).mono ?_
  rintro e w3 ⟨rfl, rfl⟩
  by_cases e2 : r - on < in_
  · rw [szM_neg e2]
    go_wp2_with (fail)
    go_ret
    exact ⟨⟨-1, rfl, fun h => by omega, by omega, by omega⟩, B2⟩
  rw [szM_pos e2]
  go_wp2_with (fail)
  refine (sz1_any _ _ _ _ _ he (by omega) (by omega)).mono ?_
  rintro e w3 ⟨rfl, rfl⟩
  by_cases e3 : r - on - in_ < en
  · rw [szM_neg e3]
    go_wp2_with (fail)
    go_ret
    exact ⟨⟨-1, rfl, fun h => by omega, by omega, by omega⟩, B2⟩
  rw [szM_pos e3]
  go_wp2_with (fail)
  go_ret
  exact ⟨⟨_, rfl, fun h => by omega, by omega, by omega⟩, B2⟩

end Go.Proofs.YtoaopapnpndklaaDoor.Book

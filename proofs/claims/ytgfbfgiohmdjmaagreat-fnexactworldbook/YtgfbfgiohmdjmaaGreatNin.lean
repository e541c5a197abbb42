/- Books in structs: nine cells are written; no book at all: over no program. -/
import Derived.Test.YtgfbfgiohmdjmaaGreatM6
import Derived.Test.YtgfbfgiohmdjmaaGreatM19
namespace Go.Proofs.YtgfbfgiohmdjmaaGreat.Book
open Go.ChangeShapes Go.WideShapes Go.ChangeAt Go.RowKit
open Aid Lst
set_option maxRecDepth 100000
set_option linter.unusedVariables false

theorem put9 {w : World} {k : Nat} {c0 c1 c2 c3 c4 c5 c6 c7 c8 : Value} (h : Ck w k [c0, c1, c2, c3, c4, c5, c6, c7, c8]) (v0 v1 v2 v3 v4 v5 v6 v7 v8 : Value) : Ck (((((((((w.setCell ⟨k, 0, none⟩ v0).setCell ⟨k, 1, none⟩ v1).setCell ⟨k, 2, none⟩ v2).setCell ⟨k, 3, none⟩ v3).setCell ⟨k, 4, none⟩ v4).setCell ⟨k, 5, none⟩ v5).setCell ⟨k, 6, none⟩ v6).setCell ⟨k, 7, none⟩ v7).setCell ⟨k, 8, none⟩ v8) k [v0, v1, v2, v3, v4, v5, v6, v7, v8] ∧ Only k (k + 1) w (((((((((w.setCell ⟨k, 0, none⟩ v0).setCell ⟨k, 1, none⟩ v1).setCell ⟨k, 2, none⟩ v2).setCell ⟨k, 3, none⟩ v3).setCell ⟨k, 4, none⟩ v4).setCell ⟨k, 5, none⟩ v5).setCell ⟨k, 6, none⟩ v6).setCell ⟨k, 7, none⟩ v7).setCell ⟨k, 8, none⟩ v8) :=
  ⟨(((((((((h.set 0 v0).set 1 v1).set 2 v2).set 3 v3).set 4 v4).set 5 v5).set 6 v6).set 7 v7).set 8 v8),
   ((((((((((Only.refl k (k + 1) w).setCell k 0 (Nat.le_refl _) (by omega) v0).setCell k 1 (Nat.le_refl _) (by omega) v1).setCell k 2 (Nat.le_refl _) (by omega) v2).setCell k 3 (Nat.le_refl _) (by omega) v3).setCell k 4 (Nat.le_refl _) (by omega) v4).setCell k 5 (Nat.le_refl _) (by omega) v5).setCell k 6 (Nat.le_refl _) (by omega) v6).setCell k 7 (Nat.le_refl _) (by omega) v7).setCell k 8 (Nat.le_refl _) (by omega) v8)⟩
def none1 : Nat × (Nat → Int) := (0, fun _ => 0)
def noneM : Bm := ⟨0, none1, none1, none1, none1, none1, none1, none1, none1⟩
def noneB : Bx := ⟨0, ⟨none, 0, 0, fun _ => 0⟩, ⟨none, 0, 0, fun _ => 0⟩, ⟨none, 0, 0, fun _ => 0⟩, ⟨none, 0, 0, fun _ => 0⟩, ⟨none, 0, 0, fun _ => 0⟩, ⟨none, 0, 0, fun _ => 0⟩, ⟨none, 0, 0, fun _ => 0⟩, ⟨none, 0, 0, fun _ => 0⟩⟩
theorem none_own (B C : Nat) (w : World) : noneB.Own B C w := by
  refine ⟨?_, ?_, ?_⟩
  · simp only [noneB, Bx.lists, List.forall_mem_cons, List.not_mem_nil, false_implies, implies_true, and_true]
    exact ⟨.inl rfl, .inl rfl, .inl rfl, .inl rfl, .inl rfl, .inl rfl, .inl rfl, .inl rfl⟩
  · simp only [noneB, Bx.lists, List.pairwise_cons, List.forall_mem_cons, List.not_mem_nil, false_implies, implies_true, and_true, List.Pairwise.nil]
    refine ⟨⟨?_, ?_, ?_, ?_, ?_, ?_, ?_⟩, ⟨?_, ?_, ?_, ?_, ?_, ?_⟩, ⟨?_, ?_, ?_, ?_, ?_⟩, ⟨?_, ?_, ?_, ?_⟩, ⟨?_, ?_, ?_⟩, ⟨?_, ?_⟩, ?_⟩
    all_goals exact .inl rfl
  · simp only [noneB, Bx.lists, List.forall_mem_cons, List.not_mem_nil, false_implies, implies_true, and_true]
    exact ⟨Nat.le_refl _, Nat.le_refl _, Nat.le_refl _, Nat.le_refl _, Nat.le_refl _, Nat.le_refl _, Nat.le_refl _, Nat.le_refl _⟩
theorem Bx.At.nil {b : Bx} {w : World} (h : b.At w) : ∀ x ∈ b.lists, x.a = none → x.n = 0 := fun x hx e => by
  rcases h x hx with h | ⟨k, o, e', _⟩
  · exact h
  · rw [e] at e'; cases e'
def Bx.seti (b : Bx) (j : Nat) (v : Int) : Bx := ⟨b.s, b.p, b.h0, b.h1, b.h2, b.h3, b.o, b.i.put j v, b.e⟩
theorem seti_lists (b : Bx) (j : Nat) (v : Int) : (b.seti j v).lists = b.lists.set 6 (b.i.put j v) := rfl

theorem put9s {w : World} {k : Nat} {c0 c1 c2 c3 c4 c5 c6 c7 c8 : Value} (h : Ck w k [c0, c1, c2, c3, c4, c5, c6, c7, c8]) (v0 v1 v2 v3 v4 v5 v6 v7 v8 : Value) : Ck (w.setCells k 0 [v0, v1, v2, v3, v4, v5, v6, v7, v8]) k [v0, v1, v2, v3, v4, v5, v6, v7, v8] ∧ Only k (k + 1) w (w.setCells k 0 [v0, v1, v2, v3, v4, v5, v6, v7, v8]) := by
  have e := put9 h v0 v1 v2 v3 v4 v5 v6 v7 v8
  simp only [World.setCells, Nat.zero_add, Nat.reduceAdd]
  exact e

theorem there9 {w : World} {k : Nat} {c0 c1 c2 c3 c4 c5 c6 c7 c8 : Value} (h : Ck w k [c0, c1, c2, c3, c4, c5, c6, c7, c8]) : w.there k 0 9 := fun j hj => by
  have hl : j < [c0, c1, c2, c3, c4, c5, c6, c7, c8].length := hj
  have := h j _ (List.getElem?_eq_getElem hl)
  rw [Nat.zero_add, this.1]
  exact ⟨rfl, this.2⟩

/- The end: a book out of a variable is the answer. -/
theorem ans {w0 w : World} {c : Bx} {B C : Nat} (ht : Ck w (w0.heap.size + 1) [.int .i64 0, .slice none 0 0, .slice none 0 0, .slice none 0 0, .slice none 0 0, .slice none 0 0, .slice none 0 0, .slice none 0 0, .slice none 0 0]) (z : w0.heap.size + 2 ≤ w.heap.size) (hb : Below w0.heap.size w0 w) (ho : c.Own B C w) (hB : w0.heap.size + 2 ≤ B) (hC : C ≤ w.heap.size) :
    ∃ w1 : World, w1 = (((((((((w.setCell ⟨w0.heap.size + 1, 0, none⟩ (.int .i64 c.s)).setCell ⟨w0.heap.size + 1, 1, none⟩ (.slice c.p.a c.p.n c.p.c)).setCell ⟨w0.heap.size + 1, 2, none⟩ (.slice c.h0.a c.h0.n c.h0.c)).setCell ⟨w0.heap.size + 1, 3, none⟩ (.slice c.h1.a c.h1.n c.h1.c)).setCell ⟨w0.heap.size + 1, 4, none⟩ (.slice c.h2.a c.h2.n c.h2.c)).setCell ⟨w0.heap.size + 1, 5, none⟩ (.slice c.h3.a c.h3.n c.h3.c)).setCell ⟨w0.heap.size + 1, 6, none⟩ (.slice c.o.a c.o.n c.o.c)).setCell ⟨w0.heap.size + 1, 7, none⟩ (.slice c.i.a c.i.n c.i.c)).setCell ⟨w0.heap.size + 1, 8, none⟩ (.slice c.e.a c.e.n c.e.c)) ∧ Ck w1 (w0.heap.size + 1) c.cells ∧ c.Own w0.heap.size w1.heap.size w1 ∧ Below w0.heap.size w0 w1 := by
  obtain ⟨ck, oy⟩ := put9 ht (.int .i64 c.s) (.slice c.p.a c.p.n c.p.c) (.slice c.h0.a c.h0.n c.h0.c) (.slice c.h1.a c.h1.n c.h1.c) (.slice c.h2.a c.h2.n c.h2.c) (.slice c.h3.a c.h3.n c.h3.c) (.slice c.o.a c.o.n c.o.c) (.slice c.i.a c.i.n c.i.c) (.slice c.e.a c.e.n c.e.c)
  have zl := oy.size
  refine ⟨_, rfl, ck, ?_, hb.trans (oy.below (by omega) |>.mono (by omega))⟩
  exact (ho.only oy (.inr (by omega))).mono (by omega) (by omega)

end Go.Proofs.YtgfbfgiohmdjmaaGreat.Book

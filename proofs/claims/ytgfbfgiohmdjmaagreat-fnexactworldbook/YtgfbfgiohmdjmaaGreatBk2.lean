/- Books that are copied. Conditions: at most 1,000,000,000 numbers a list. -/
import Derived.Test.YtgfbfgiohmdjmaaGreatM2
namespace Go.Proofs.YtgfbfgiohmdjmaaGreat.Book
open Go.ChangeShapes Go.WideShapes Go.ChangeAt Go.RowKit
open Aid Lst

/- A row of cells that may be written. -/
def Ck (w : World) (b : Nat) (cs : List Value) : Prop := ∀ j v, cs[j]? = some v → w.cell? ⟨b, j, none⟩ = some v ∧ w.frozen? ⟨b, j, none⟩ = false

theorem ck_lit {w : World} {b : Nat} (C : Array Value) {t : TypeId} (hb : w.heap[b]? = some (.cells C t (0, 0))) : Ck w b C.toList := fun j v hv => by
  rw [cell_of_row w b j C t (0, 0) hb, frozen_of_row w b j C t hb]; exact ⟨by simpa using hv, rfl⟩

theorem Ck.set {w : World} {b : Nat} {cs : List Value} (h : Ck w b cs) (i : Nat) (x : Value) : Ck (w.setCell ⟨b, i, none⟩ x) b (cs.set i x) := fun j v hv => by
  by_cases e : j = i
  · subst e
    have hl : j < cs.length := by
      have := (List.getElem?_eq_some_iff.1 hv).1
      simpa using this
    have g := h j cs[j] (List.getElem?_eq_getElem hl)
    rw [World.cell?_setCell_same _ _ _ g.1]
    rw [List.getElem?_set_self hl] at hv
    refine ⟨hv, ?_⟩
    have := g.2
    simp [this]
  · rw [List.getElem?_set_ne (Ne.symm e)] at hv
    have g := h j v hv
    have hne : (⟨b, i, none⟩ : Addr) ≠ ⟨b, j, none⟩ := fun h => e (by injection h with _ h2 _; exact h2.symm)
    rw [World.cell?_setCell_other _ _ _ _ hne]
    have g2 := g.2
    exact ⟨g.1, by simp [g2]⟩

theorem Ck.below {B : Nat} {W w1 : World} (hb : Below B W w1) {b : Nat} {cs : List Value} (h : Ck W b cs) (hB : b < B) : Ck w1 b cs := fun j v hv => by
  rw [hb.cell (p := ⟨b, j, none⟩) hB, hb.frozen (p := ⟨b, j, none⟩) hB]; exact h j v hv
theorem Ck.far {w : World} {b : Nat} {cs : List Value} (h : Ck w b cs) (p : Addr) (hp : p.block ≠ b) (x : Value) : Ck (w.setCell p x) b cs := fun j v hv => by
  have g := h j v hv
  rw [World.cell?_setCell_far _ _ _ _ hp]
  have g2 := g.2
  exact ⟨g.1, by simp [g2]⟩
theorem Only.setCell {B C : Nat} {a w : World} (h : Only B C a w) (b o : Nat) (hB : B ≤ b) (hC : b < C) (x : Value) : Only B C a (w.setCell ⟨b, o, none⟩ x) :=
  ⟨h.os, h.tape, h.output, by simpa [World.setCell] using h.size, fun i hi ho => (Below.heap_setCell w ⟨b, o, none⟩ x i (by show i ≠ b; omega)).trans (h.block i hi ho)⟩
theorem Only.refl (B C : Nat) (w : World) : Only B C w w := ⟨rfl, rfl, rfl, Nat.le_refl _, fun _ _ _ => rfl⟩
theorem apart_of (j k : Nat) (h : j ≠ k) (n n' c c' : Nat) (f f' : Nat → Int) : Apart ⟨some ⟨j, 0, none⟩, n, c, f⟩ ⟨some ⟨k, 0, none⟩, n', c', f'⟩ := .inr (.inr ⟨j, k, rfl, rfl, h⟩)
theorem Ck.lt {w : World} {b : Nat} {v : Value} {cs : List Value} (h : Ck w b (v :: cs)) : b < w.heap.size := World.block_lt_of_cell? w _ (h 0 v rfl).1
theorem Ck.range {w : World} {b : Nat} {cs : List Value} (h : Ck w b cs) : w.rangeAt b 0 cs := fun j v hv => by simpa using (h j v hv).1
theorem Ck.to {w w' : World} {b : Nat} {cs cs' : List Value} (h : Ck w b cs) (hw : w' = w) (e : cs' = cs) : Ck w' b cs' := by subst hw; subst e; exact h

end Go.Proofs.YtgfbfgiohmdjmaaGreat.Book

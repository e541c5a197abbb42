import Derived.Test.YtlhfkackchcncaaM2

/- Books that are marked and looked at. Conditions: at most 1,000,000,000 numbers in all. -/
namespace Go.Proofs.Ytlhfkackchcncaa.Book
open Go.ChangeShapes Go.WideShapes Go.ChangeAt Go.RowKit
open Go.Proofs.Ytlhfkackchcncaa.Aid Go.Proofs.Ytlhfkackchcncaa.Lst
set_option maxRecDepth 100000
set_option linter.unusedVariables false

/- Only the blocks of these lists have turned, of those that were there. -/
structure Sp (xs : List Sx) (w w' : World) : Prop where
  os : w'.os = w.os
  tape : w'.tape = w.tape
  output : w'.output = w.output
  size : w.heap.size ≤ w'.heap.size
  block : ∀ i, i < w.heap.size → (∀ x ∈ xs, x.n ≠ 0 → ∀ k, x.a = some ⟨k, 0, none⟩ → i ≠ k) → w'.heap[i]? = w.heap[i]?

theorem Sp.refl (xs : List Sx) (w : World) : Sp xs w w := ⟨rfl, rfl, rfl, Nat.le_refl _, fun _ _ _ => rfl⟩
theorem Sp.of {xs : List Sx} {w w' : World} (h : Below w.heap.size w w') : Sp xs w w' := ⟨h.os, h.tape, h.output, h.size, fun i hi _ => h.block i hi⟩
theorem Sp.trans {xs : List Sx} {a w w' : World} (h : Sp xs a w) (h' : Sp xs w w') : Sp xs a w' := ⟨h'.os.trans h.os, h'.tape.trans h.tape, h'.output.trans h.output, Nat.le_trans h.size h'.size, fun i hi hx => (h'.block i (Nat.lt_of_lt_of_le hi h.size) hx).trans (h.block i hi hx)⟩
theorem Sp.mono {xs ys : List Sx} {w w' : World} (h : Sp xs w w') (hs : ∀ x ∈ xs, x ∈ ys) : Sp ys w w' := ⟨h.os, h.tape, h.output, h.size, fun i hi hx => h.block i hi (fun x hm => hx x (hs x hm))⟩
theorem Apart.symm {x y : Sx} (h : Apart x y) : Apart y x := by
  rcases h with h | h | ⟨j, k, h1, h2, h3⟩
  · exact .inr (.inl h)
  · exact .inl h
  · exact .inr (.inr ⟨k, j, h2, h1, h3.symm⟩)
theorem Sp.own {xs : List Sx} {w w' : World} (h : Sp xs w w') {y : Sx} {B C : Nat} (hy : y.Own B C w) (ha : ∀ x ∈ xs, Apart y x) : y.Own B C w' := by
  rcases hy with hy | ⟨k, e, h1, h2, hy⟩
  · exact .inl hy
  · by_cases y0 : y.n = 0
    · exact .inl y0
    refine .inr ⟨k, e, h1, h2, fun j hj => ?_⟩
    have hlt := World.block_lt_of_cell? w _ (hy j hj).1
    have hbl : w'.heap[k]? = w.heap[k]? := h.block k hlt (fun x hx xn k' ek => by
      rcases ha x hx with g | g | ⟨p, q, g1, g2, g3⟩
      · exact absurd g y0
      · exact absurd g xn
      · rw [e] at g1; rw [ek] at g2
        simp only [Option.some.injEq, Addr.mk.injEq, and_true] at g1 g2
        omega)
    rw [show w'.cell? ⟨k, j, none⟩ = w.cell? ⟨k, j, none⟩ from World.cell?_of_block (w := w) hbl, show w'.frozen? ⟨k, j, none⟩ = w.frozen? ⟨k, j, none⟩ from World.frozen?_of_block (w := w) hbl]
    exact hy j hj
theorem Sp.only {xs : List Sx} {w w' v : World} (h : Sp xs w w') {B C : Nat} (hx : ∀ x ∈ xs, x.Own B C v) : Only B C w w' := ⟨h.os, h.tape, h.output, h.size, fun i hi ho => h.block i hi (fun x hm xn k ek => by
  rcases hx x hm with g | ⟨k', e, h1, h2, _⟩
  · exact absurd g xn
  · rw [e] at ek
    simp only [Option.some.injEq, Addr.mk.injEq, and_true] at ek
    omega)⟩

/- A list as it is once it is marked from k on. -/
def Sx.mk' (x : Sx) (k : Int) : Sx := ⟨x.a, x.n, x.c, fun j => k + j⟩

end Go.Proofs.Ytlhfkackchcncaa.Book

/- markBook, heldBook. Conditions: at most 1,000,000,000 numbers in all. -/
namespace Go.Proofs.Ytlhfkackchcncaa.Book
open Go.ChangeShapes Go.WideShapes Go.ChangeAt Go.RowKit
open Go.Proofs.Ytlhfkackchcncaa.Aid Go.Proofs.Ytlhfkackchcncaa.Lst
set_option maxRecDepth 100000
set_option linter.unusedVariables false

def Bx.mkd (b : Bx) (k0 : Int) : Bx := ⟨b.s, b.p.mk' (k0), b.h0.mk' (k0 + b.p.n), b.h1.mk' (k0 + b.p.n + b.h0.n), b.h2.mk' (k0 + b.p.n + b.h0.n + b.h1.n), b.h3.mk' (k0 + b.p.n + b.h0.n + b.h1.n + b.h2.n), b.o.mk' (k0 + b.p.n + b.h0.n + b.h1.n + b.h2.n + b.h3.n), b.i.mk' (k0 + b.p.n + b.h0.n + b.h1.n + b.h2.n + b.h3.n + b.o.n), b.e.mk' (k0 + b.p.n + b.h0.n + b.h1.n + b.h2.n + b.h3.n + b.o.n + b.i.n)⟩
theorem nine' {w : World} {k : Nat} {x : Bx} (h : w.rangeAt k 0 x.cells) : w.cell? ⟨k, 1, none⟩ = some (.slice x.p.a x.p.n x.p.c) ∧ w.cell? ⟨k, 2, none⟩ = some (.slice x.h0.a x.h0.n x.h0.c) ∧ w.cell? ⟨k, 3, none⟩ = some (.slice x.h1.a x.h1.n x.h1.c) ∧ w.cell? ⟨k, 4, none⟩ = some (.slice x.h2.a x.h2.n x.h2.c) ∧ w.cell? ⟨k, 5, none⟩ = some (.slice x.h3.a x.h3.n x.h3.c) ∧ w.cell? ⟨k, 6, none⟩ = some (.slice x.o.a x.o.n x.o.c) ∧ w.cell? ⟨k, 7, none⟩ = some (.slice x.i.a x.i.n x.i.c) ∧ w.cell? ⟨k, 8, none⟩ = some (.slice x.e.a x.e.n x.e.c) :=
  ⟨h 1 _ rfl, h 2 _ rfl, h 3 _ rfl, h 4 _ rfl, h 5 _ rfl, h 6 _ rfl, h 7 _ rfl, h 8 _ rfl⟩

end Go.Proofs.Ytlhfkackchcncaa.Book

/- A number of a list of a book of one's own is written: over no program. -/
namespace Go.Proofs.Ytlhfkackchcncaa.Book
open Go.ChangeShapes Go.WideShapes Go.ChangeAt Go.RowKit
open Go.Proofs.Ytlhfkackchcncaa.Aid Go.Proofs.Ytlhfkackchcncaa.Lst
set_option linter.unusedVariables false

def upd (f : Nat → Int) (j : Nat) (v : Int) : Nat → Int := fun i => if i = j then v else f i
def Sx.put (x : Sx) (j : Nat) (v : Int) : Sx := ⟨x.a, x.n, x.c, upd x.f j v⟩

theorem apart_congr {x y x' y' : Sx} (h : Apart x y) (h1 : x'.n = x.n) (h2 : x'.a = x.a) (h3 : y'.n = y.n) (h4 : y'.a = y.a) : Apart x' y' := by
  rcases h with h | h | ⟨j, k, e1, e2, e3⟩
  · exact .inl (h1.trans h)
  · exact .inr (.inl (h3.trans h))
  · exact .inr (.inr ⟨j, k, h2.trans e1, h4.trans e2, e3⟩)
theorem apart_sym {x y : Sx} (h : Apart x y) : Apart y x := by
  rcases h with h | h | ⟨j, k, e1, e2, e3⟩
  · exact .inr (.inl h)
  · exact .inl h
  · exact .inr (.inr ⟨k, j, e2, e1, e3.symm⟩)

theorem Sx.Own.far {x : Sx} {B C : Nat} {w : World} (h : x.Own B C w) {y : Sx} (ha : Apart x y) (hy : 0 < y.n) {k : Nat} (hk : y.a = some ⟨k, 0, none⟩) (j : Nat) (v : Value) : x.Own B C (w.setCell ⟨k, j, none⟩ v) := by
  rcases h with h | ⟨g, e, h1, h2, h3⟩
  · exact .inl h
  · rcases ha with h | h | ⟨j', k', e1, e2, e3⟩
    · exact .inl h
    · omega
    · rw [hk] at e2
      rw [e] at e1
      cases e1
      cases e2
      exact .inr ⟨g, e, h1, h2, h3.far ⟨k, j, none⟩ (fun q => e3 q.symm) v⟩

theorem Sx.Own.put {x : Sx} {B C : Nat} {w : World} (h : x.Own B C w) {k : Nat} (hk : x.a = some ⟨k, 0, none⟩) (j : Nat) (hj : j < x.n) (v : Int) : (x.put j v).Own B C (w.setCell ⟨k, j, none⟩ (.int .i64 v)) := by
  rcases h with h | ⟨g, e, h1, h2, h3⟩
  · omega
  · rw [hk] at e
    cases e
    exact .inr ⟨k, hk, h1, h2, h3.set j v _ (by simp [Sx.put, upd]) (fun i _ hne => by simp [Sx.put, upd, hne])⟩

theorem Bx.Own.write {b b' : Bx} {B C : Nat} {w : World} (h : b.Own B C w) (q : Nat) (x : Sx) (hx : b.lists[q]? = some x) (k j : Nat) (ha : x.a = some ⟨k, 0, none⟩) (hj : j < x.n) (v : Int) (hl : b'.lists = b.lists.set q (x.put j v)) :
    b'.Own B C (w.setCell ⟨k, j, none⟩ (.int .i64 v)) := by
  obtain ⟨hq, hxe⟩ := List.getElem?_eq_some_iff.1 hx
  have hpw := List.pairwise_iff_getElem.1 h.apart
  have hap : ∀ p (hp : p < b.lists.length), p ≠ q → Apart b.lists[p] x := fun p hp hne => by
    rw [← hxe]
    by_cases hlt : p < q
    · exact hpw p q hp hq hlt
    · exact apart_sym (hpw q p hq hp (by omega))
  refine ⟨?_, ?_, ?_⟩
  · rw [hl]
    intro y hy
    obtain ⟨p, hp, rfl⟩ := List.getElem_of_mem hy
    rw [List.length_set] at hp
    rw [List.getElem_set]
    split
    · exact (h.each x (hxe ▸ List.getElem_mem hq)).put ha j hj v
    · rename_i hne
      exact (h.each _ (List.getElem_mem hp)).far (hap p hp (fun e => hne e.symm)) (by omega) ha j _
  · rw [hl, List.pairwise_iff_getElem]
    intro p p' hp hp' hlt
    rw [List.length_set] at hp hp'
    refine apart_congr (hpw p p' hp hp' hlt) ?_ ?_ ?_ ?_
    all_goals
      rw [List.getElem_set]
      split
      · rename_i e
        subst e
        rw [hxe]; rfl
      · rfl
  · rw [hl]
    intro y hy
    obtain ⟨p, hp, rfl⟩ := List.getElem_of_mem hy
    rw [List.length_set] at hp
    rw [List.getElem_set]
    split
    · exact h.caps x (hxe ▸ List.getElem_mem hq)
    · exact h.caps _ (List.getElem_mem hp)

end Go.Proofs.Ytlhfkackchcncaa.Book

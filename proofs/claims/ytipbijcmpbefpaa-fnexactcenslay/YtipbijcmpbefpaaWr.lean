/- A number of a list of a book of one's own is written: over no program. -/
import Derived.Test.YtipbijcmpbefpaaBk5
namespace Go.Proofs.Ytipbijcmpbefpaa.Book
open Go.ChangeShapes Go.WideShapes Go.ChangeAt Go.RowKit
open Go.Proofs.Ytipbijcmpbefpaa.Aid Go.Proofs.Ytipbijcmpbefpaa.Lst
set_option linter.unusedVariables false

def upd (f : Nat → Int) (j : Nat) (v : Int) : Nat → Int := fun i => if i = j then v else f i
def Sx.put (x : Sx) (j : Nat) (v : Int) : Sx := ⟨x.a, x.n, x.c, upd x.f j v⟩

theorem apart_congr {x y x' y' : Sx} (h : Apart x y) (h1 : x'.n = x.n) (h2 : x'.a = x.a) (h3 : y'.n = y.n) (h4 : y'.a = y.a) : Apart x' y' := by
  rcases h with h | h | ⟨j, k, e1, e2, e3⟩
  · exact .inl (h1.trans h)
  · exact .inr (.inl (h3.trans h))
  · exact .inr (.inr ⟨j, k, h2.trans e1, h4.trans e2, e3⟩)
theorem apart_sym {x y : Sx} (h : Apart x y) : Apart y x := by
  rcases h with h | h | ⟨j, k, e1, e2, e3⟩
  · exact .inr (.inl h)
  · exact .inl h
  · exact .inr (.inr ⟨k, j, e2, e1, e3.symm⟩)

theorem Sx.Own.far {x : Sx} {B C : Nat} {w : World} (h : x.Own B C w) {y : Sx} (ha : Apart x y) (hy : 0 < y.n) {k : Nat} (hk : y.a = some ⟨k, 0, none⟩) (j : Nat) (v : Value) : x.Own B C (w.setCell ⟨k, j, none⟩ v) := by
  rcases h with h | ⟨g, e, h1, h2, h3⟩
  · exact .inl h
  · rcases ha with h | h | ⟨j', k', e1, e2, e3⟩
    · exact .inl h
    · omega
    · rw [hk] at e2
      rw [e] at e1
      cases e1
      cases e2
      exact .inr ⟨g, e, h1, h2, h3.far ⟨k, j, none⟩ (fun q => e3 q.symm) v⟩

theorem Sx.Own.put {x : Sx} {B C : Nat} {w : World} (h : x.Own B C w) {k : Nat} (hk : x.a = some ⟨k, 0, none⟩) (j : Nat) (hj : j < x.n) (v : Int) : (x.put j v).Own B C (w.setCell ⟨k, j, none⟩ (.int .i64 v)) := by
  rcases h with h | ⟨g, e, h1, h2, h3⟩
  · omega
  · rw [hk] at e
    cases e
    exact .inr ⟨k, hk, h1, h2, h3.set j v _ (by simp [Sx.put, upd]) (fun i _ hne => by simp [Sx.put, upd, hne])⟩

theorem Bx.Own.write {b b' : Bx} {B C : Nat} {w : World} (h : b.Own B C w) (q : Nat) (x : Sx) (hx : b.lists[q]? = some x) (k j : Nat) (ha : x.a = some ⟨k, 0, none⟩) (hj : j < x.n) (v : Int) (hl : b'.lists = b.lists.set q (x.put j v)) :
    b'.Own B C (w.setCell ⟨k, j, none⟩ (.int .i64 v)) := by
  obtain ⟨hq, hxe⟩ := List.getElem?_eq_some_iff.1 hx
  have hpw := List.pairwise_iff_getElem.1 h.apart
  have hap : ∀ p (hp : p < b.lists.length), p ≠ q → Apart b.lists[p] x := fun p hp hne => by
    rw [← hxe]
    by_cases hlt : p < q
    · exact hpw p q hp hq hlt
    · exact apart_sym (hpw q p hq hp (by omega))
  refine ⟨?_, ?_, ?_⟩
  · rw [hl]
    intro y hy
    obtain ⟨p, hp, rfl⟩ := List.getElem_of_mem hy
    rw [List.length_set] at hp
    rw [List.getElem_set]
    split
    · exact (h.each x (hxe ▸ List.getElem_mem hq)).put ha j hj v
    · rename_i hne
      exact (h.each _ (List.getElem_mem hp)).far (hap p hp (fun e => hne e.symm)) (by omega) ha j _
  · rw [hl, List.pairwise_iff_getElem]
    intro p p' hp hp' hlt
    rw [List.length_set] at hp hp'
    refine apart_congr (hpw p p' hp hp' hlt) ?_ ?_ ?_ ?_
    all_goals
      rw [List.getElem_set]
      split
      · rename_i e
        subst e
        rw [hxe]; rfl
      · rfl
  · rw [hl]
    intro y hy
    obtain ⟨p, hp, rfl⟩ := List.getElem_of_mem hy
    rw [List.length_set] at hp
    rw [List.getElem_set]
    split
    · exact h.caps x (hxe ▸ List.getElem_mem hq)
    · exact h.caps _ (List.getElem_mem hp)

end Go.Proofs.Ytipbijcmpbefpaa.Book

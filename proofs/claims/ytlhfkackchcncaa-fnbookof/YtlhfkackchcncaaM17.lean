import Derived.Test.YtlhfkackchcncaaM16
import Derived.Laws.CopyOwn

/- One word is swapped: the program's way (a copy, a word that is sought) and the specification's (append). Conditions: at most 1,000,000,000 words. -/
namespace Go.Proofs.Ytlhfkackchcncaa.Plat
open Go.ChangeShapes Go.WideShapes Go.ChangeAt Go.RowKit
open Go.Proofs.Ytlhfkackchcncaa.Aid Go.Proofs.Ytlhfkackchcncaa.Lst

def rowOf (n : Nat) (f : Nat → Int) : List Value := (List.range n).map fun j => .int .u64 (f j)
theorem rowOf_len (n : Nat) (f : Nat → Int) : (rowOf n f).length = n := by simp [rowOf]
theorem rowOf_get (n : Nat) (f : Nat → Int) (j : Nat) (h : j < n) : (rowOf n f)[j]? = some (.int .u64 (f j)) := by simp [rowOf, h]
theorem rowOf_one (n : Nat) (f : Nat → Int) : ∀ v ∈ rowOf n f, v.oneCell' = true := by
  intro v hv; simp [rowOf] at hv; obtain ⟨j, _, rfl⟩ := hv; rfl
theorem rowOf_lt {n : Nat} {f : Nat → Int} {j : Nat} {v : Value} (h : (rowOf n f)[j]? = some v) : j < n ∧ v = .int .u64 (f j) := by
  have hj : j < n := by
    have := (List.getElem?_eq_some_iff.1 h).1
    rwa [rowOf_len] at this
  rw [rowOf_get n f j hj] at h
  exact ⟨hj, by injection h with h; exact h.symm⟩

theorem fk_of_row {w : World} {b n : Nat} {f : Nat → Int} {t : TypeId} {cur : Array Value} (h : w.heap[b]? = some (.cells cur t (0, 0))) (hc : ∀ j, j < n → cur[j]? = some (.int .u64 (f j))) : Fk .u64 n w b f := fun j hj => by
  rw [cell_of_row w b j cur t (0, 0) h, frozen_of_row w b j cur t h]; exact ⟨hc j hj, rfl⟩

def hit (n : Nat) (f : Nat → Int) (i old : Int) : Bool := decide (0 ≤ i ∧ i < n ∧ f i.toNat = old)
def swF (n : Nat) (f : Nat → Int) (i old now : Int) (j : Nat) : Int := if hit n f i old = true ∧ j = i.toNat then now else f j

theorem hit_f {n : Nat} {f : Nat → Int} {i old : Int} (h : ¬ (0 ≤ i ∧ i < n ∧ f i.toNat = old)) : hit n f i old = false := decide_eq_false h
theorem hit_t {n : Nat} {f : Nat → Int} {i old : Int} (h : 0 ≤ i ∧ i < n ∧ f i.toNat = old) : hit n f i old = true := decide_eq_true h
theorem swF_f {n : Nat} {f : Nat → Int} {i old now : Int} (h : hit n f i old = false) (j : Nat) : swF n f i old now j = f j := by unfold swF; rw [h]; simp

end Go.Proofs.Ytlhfkackchcncaa.Plat

/- One word is swapped: the specification's way (append). Conditions: at most 1,000,000,000 words. -/
namespace Go.Proofs.Ytlhfkackchcncaa.Plat
open Go.ChangeShapes Go.WideShapes Go.ChangeAt Go.RowKit
open Go.Proofs.Ytlhfkackchcncaa.Aid Go.Proofs.Ytlhfkackchcncaa.Lst

/- What is owned is a row of new memory. -/
theorem own_fk {w : World} {base n : Nat} {v : Value} {f : Nat → Int} {t : TypeId} (h : w.ownsRow base t 1 v n (rowOf n f)) (hv : ¬ v = .slice none 0 0) : ∃ g c, v = .slice (some ⟨g, 0, none⟩) n c ∧ base ≤ g ∧ g < w.heap.size ∧ Fk .u64 n w g f := by
  obtain ⟨_, h | ⟨g, cap, cur, rfl, hb, hg, _, _, _, ht⟩⟩ := h
  · exact absurd h.1 hv
  · refine ⟨g, cap, rfl, hb, ?_, fk_of_row hg (fun j hj => ?_)⟩
    · exact Nat.lt_of_not_le fun hle => by rw [Array.getElem?_eq_none hle] at hg; cases hg
    · have := rowOf_get n f j hj
      rw [← ht, Nat.mul_one, List.getElem?_take, if_pos hj] at this
      simpa using this

theorem own_nil (w : World) (t : TypeId) : (w.alloc (.cells #[] t)).ownsRow w.heap.size t 1 (.slice (some ⟨w.heap.size, 0, none⟩) 0 0) 0 [] :=
  ⟨rfl, .inr ⟨w.heap.size, 0, #[], rfl, Nat.le_refl _, heap1_0 _ _, Nat.le_refl _, Nat.zero_le _, rfl, rfl⟩⟩

end Go.Proofs.Ytlhfkackchcncaa.Plat

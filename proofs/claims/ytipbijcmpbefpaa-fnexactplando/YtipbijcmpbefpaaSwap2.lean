/- One word is swapped: the specification's way (append). Conditions: at most 1,000,000,000 words. -/
import Derived.Test.YtipbijcmpbefpaaSwap
namespace Go.Proofs.Ytipbijcmpbefpaa.Plat
open Go.ChangeShapes Go.WideShapes Go.ChangeAt Go.RowKit
open Go.Proofs.Ytipbijcmpbefpaa.Aid Go.Proofs.Ytipbijcmpbefpaa.Lst

/- What is owned is a row of new memory. -/
theorem own_fk {w : World} {base n : Nat} {v : Value} {f : Nat → Int} {t : TypeId} (h : w.ownsRow base t 1 v n (rowOf n f)) (hv : ¬ v = .slice none 0 0) : ∃ g c, v = .slice (some ⟨g, 0, none⟩) n c ∧ base ≤ g ∧ g < w.heap.size ∧ Fk .u64 n w g f := by
  obtain ⟨_, h | ⟨g, cap, cur, rfl, hb, hg, _, _, _, ht⟩⟩ := h
  · exact absurd h.1 hv
  · refine ⟨g, cap, rfl, hb, ?_, fk_of_row hg (fun j hj => ?_)⟩
    · exact Nat.lt_of_not_le fun hle => by rw [Array.getElem?_eq_none hle] at hg; cases hg
    · have := rowOf_get n f j hj
      rw [← ht, Nat.mul_one, List.getElem?_take, if_pos hj] at this
      simpa using this

theorem own_nil (w : World) (t : TypeId) : (w.alloc (.cells #[] t)).ownsRow w.heap.size t 1 (.slice (some ⟨w.heap.size, 0, none⟩) 0 0) 0 [] :=
  ⟨rfl, .inr ⟨w.heap.size, 0, #[], rfl, Nat.le_refl _, heap1_0 _ _, Nat.le_refl _, Nat.zero_le _, rfl, rfl⟩⟩

end Go.Proofs.Ytipbijcmpbefpaa.Plat

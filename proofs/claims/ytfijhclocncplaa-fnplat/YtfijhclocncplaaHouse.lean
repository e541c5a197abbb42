/- The words of an empty house are that house's. No walk. -/
import Derived.Test.YtfijhclocncplaaChk
import Derived.Test.YtfijhclocncplaaCount
namespace Go.Proofs.Ytfijhclocncplaa.Plat
open Go.ChangeShapes Go.WideShapes Go.ChangeAt Go.RowKit
open Go.Proofs.Ytfijhclocncplaa.Words Go.Proofs.Ytfijhclocncplaa.Aid Go.Proofs.Ytfijhclocncplaa.Lst

theorem magic_eq {s p l : Int} (h : 1 ≤ s ∧ s ≤ 4 ∧ 1 ≤ p ∧ p ≤ 6 ∧ 1 ≤ l ∧ l ≤ 20) : magic s p l = 201115 * 4294967296 + (s + 8 * p + 64 * l) := by
  unfold magic pack
  have e1 : fit 201115 4294967295 = 201115 := by decide
  have e2 : fit (s + 8 * p + 64 * l) 4294967295 = s + 8 * p + 64 * l := by unfold fit; rw [if_neg (by omega), if_neg (by omega)]
  rw [e1, e2]

theorem magic_lo {s p l : Int} (h : 1 ≤ s ∧ s ≤ 4 ∧ 1 ≤ p ∧ p ≤ 6 ∧ 1 ≤ l ∧ l ≤ 20) : lo32 (magic s p l) = s + 8 * p + 64 * l := by
  rw [magic_eq h]; unfold lo32; omega

theorem fmt_bd {s p l : Int} (h : 1 ≤ s ∧ s ≤ 4 ∧ 1 ≤ p ∧ p ≤ 6 ∧ 1 ≤ l ∧ l ≤ 20) (j : Nat) : 0 ≤ fmtF s p l j ∧ fmtF s p l j < 18446744073709551616 := by
  have := magic_eq h
  unfold fmtF; split
  · omega
  · split <;> omega

theorem fmt_gd {s p l : Int} (hok : okB s p l = true) : gd (szN s p) (fmtF s p l) = true ∧ gS (szN s p) (fmtF s p l) = s ∧ gP (szN s p) (fmtF s p l) = p ∧ gL (szN s p) (fmtF s p l) = l := by
  have h := okB_of hok
  have hl := magic_lo h
  have hm := magic_eq h
  have e0 : fmtF s p l 0 = magic s p l := rfl
  have eS : cS (fmtF s p l 0) = s := by unfold cS; rw [e0, hl]; omega
  have eP : cP (fmtF s p l 0) = p := by unfold cP; rw [e0, hl]; omega
  have eL : cL (fmtF s p l 0) = l := by unfold cL; rw [e0, hl]; omega
  have hg : gd (szN s p) (fmtF s p l) = true := gd_t ⟨by have := szN_bd hok; omega, by rw [e0, hm]; omega, by rw [eS, eP, eL, size_szN hok]⟩
  refine ⟨hg, ?_, ?_, ?_⟩
  · unfold gS; rw [if_pos hg, eS]
  · unfold gP; rw [if_pos hg, eP]
  · unfold gL; rw [if_pos hg, eL]

theorem cnt_start (S P : Nat) (a : Nat) : cnt S P 0 0 0 0 0 0 0 a = if a = 2 then 1 else if a = 1 then 1 else if a = 0 then 1 else 0 := by
  unfold cnt; simp only [ind_zero]; unfold ind
  by_cases h : a < 3
  · rw [if_pos (by omega)]
    rcases (by omega : a = 0 ∨ a = 1 ∨ a = 2) with rfl | rfl | rfl <;> rfl
  · rw [if_neg (by omega), if_neg (by omega), if_neg (by omega), if_neg (by omega)]; rfl

theorem fk_start (w : World) (N : Nat) (t : TypeId) (h : 3 ≤ N) : Fk .i64 N (w.alloc (.cells ((((madeCells #[.int .i64 0] N).setIfInBounds 0 (.int .i64 1)).setIfInBounds 1 (.int .i64 1)).setIfInBounds 2 (.int .i64 1)) t)) w.heap.size (fun a => if a = 2 then 1 else if a = 1 then 1 else if a = 0 then 1 else 0) := fun j hj => by
  rw [cell_of_row _ _ j _ _ _ (heap1_0 w _), frozen_of_row _ _ j _ _ (heap1_0 w _)]
  refine ⟨?_, rfl⟩
  have hm := made_get (.int .i64 0) N j hj
  have hs := size_madeCells #[.int .i64 0] N
  rw [Array.getElem?_setIfInBounds, Array.getElem?_setIfInBounds, Array.getElem?_setIfInBounds]
  by_cases h2 : j = 2
  · subst h2; simp [hs]; omega
  · by_cases h1 : j = 1
    · subst h1; simp [hs]; omega
    · by_cases h0 : j = 0
      · subst h0; simp [hs]; omega
      · rw [if_neg (by omega), if_neg (by omega), if_neg (by omega), hm]
        show _ = some (Value.int .i64 (if j = 2 then 1 else if j = 1 then 1 else if j = 0 then 1 else 0))
        rw [if_neg h2, if_neg h1, if_neg h0]

end Go.Proofs.Ytfijhclocncplaa.Plat

/- The values as the specification lays them, one behind the other, are the values: over no program. -/
import Derived.Test.YtipbijcmpbefpaaLay7
namespace Go.Proofs.Ytipbijcmpbefpaa.Book
open Go.ChangeShapes Go.WideShapes Go.ChangeAt Go.RowKit
open Go.Proofs.Ytipbijcmpbefpaa.Aid Go.Proofs.Ytipbijcmpbefpaa.Lst
set_option linter.unusedVariables false

/- So many slots, pages and owners have been laid. -/
def pv (b : Bx) (s p a c d : Nat) (j : Nat) : Int := if (3 ≤ j ∧ j < 3 + a) ∨ (3 + s + s + 4 ≤ j ∧ j < 3 + s + s + 4 + c) ∨ (3 + s + s + 4 + p ≤ j ∧ j < 3 + s + s + 4 + p + d) then layF b s p j else 0
/- Where the room number i of a list is told of: at its head, or at the link of the room ahead. -/
def pos (b : Bx) (s p k : Nat) : Nat → Nat
  | 0 => 3 + s + s + k
  | i + 1 => 3 + s + s + 4 + p + p * 8 + ((b.hd k).f i).toNat
def spI (b : Bx) (s p k : Nat) (g : Nat → Int) : Nat → Nat → Int
  | 0 => g
  | i + 1 => upd (spI b s p k g i) (pos b s p k i) ((b.hd k).f i + 1)
def spK (b : Bx) (s p : Nat) : Nat → Nat → Int
  | 0 => pv b s p s p (p * 8)
  | k + 1 => spI b s p k (spK b s p k) (b.hd k).n

theorem pv_none {b : Bx} {s p : Nat} : pv b s p 0 0 0 = fun _ => 0 := by
  funext j; unfold pv; rw [if_neg (by omega)]
theorem pv_reg {b : Bx} {s p a : Nat} (ha : a < s) {v : Int} (h : layF b s p (3 + a) = v) : upd (pv b s p a 0 0) (3 + a) v = pv b s p (a + 1) 0 0 := by
  funext j
  unfold upd pv
  by_cases e : j = 3 + a
  · subst e; rw [if_pos rfl, if_pos (by omega), h]
  · rw [if_neg e]
    by_cases g : 3 ≤ j ∧ j < 3 + a
    · rw [if_pos (by omega), if_pos (by omega)]
    · rw [if_neg (by omega), if_neg (by omega)]
theorem pv_page {b : Bx} {s p c : Nat} (hc : c < p) {v : Int} (h : layF b s p (3 + s + s + 4 + c) = v) : upd (pv b s p s c 0) (3 + s + s + 4 + c) v = pv b s p s (c + 1) 0 := by
  funext j
  unfold upd pv
  by_cases e : j = 3 + s + s + 4 + c
  · subst e; rw [if_pos rfl, if_pos (by omega), h]
  · rw [if_neg e]
    by_cases g : (3 ≤ j ∧ j < 3 + s) ∨ (3 + s + s + 4 ≤ j ∧ j < 3 + s + s + 4 + c)
    · rw [if_pos (by omega), if_pos (by omega)]
    · rw [if_neg (by omega), if_neg (by omega)]
theorem pv_tag {b : Bx} {s p d : Nat} (hd : d < p * 8) {v : Int} (h : layF b s p (3 + s + s + 4 + p + d) = v) : upd (pv b s p s p d) (3 + s + s + 4 + p + d) v = pv b s p s p (d + 1) := by
  funext j
  unfold upd pv
  by_cases e : j = 3 + s + s + 4 + p + d
  · subst e; rw [if_pos rfl, if_pos (by omega), h]
  · rw [if_neg e]
    by_cases g : (3 ≤ j ∧ j < 3 + s) ∨ (3 + s + s + 4 ≤ j ∧ j < 3 + s + s + 4 + p) ∨ (3 + s + s + 4 + p ≤ j ∧ j < 3 + s + s + 4 + p + d)
    · rw [if_pos g, if_pos (by omega)]
    · rw [if_neg g, if_neg (by omega)]

theorem pos_inj {b : Bx} (ok : OkP b) {s p k k' i i' : Nat} (hk : k < 4) (hk' : k' < 4) (hi : i < (b.hd k).n) (hi' : i' < (b.hd k').n) (e : pos b s p k i = pos b s p k' i') : k = k' ∧ i = i' := by
  cases i with
  | zero =>
    cases i' with
    | zero => simp only [pos] at e; exact ⟨by omega, rfl⟩
    | succ j' => simp only [pos] at e; omega
  | succ j =>
    cases i' with
    | zero => simp only [pos] at e; omega
    | succ j' =>
      simp only [pos] at e
      have e' : ((b.hd k).f j).toNat = ((b.hd k').f j').toNat := by omega
      by_cases q : k = k'
      · subst q
        exact ⟨rfl, by have := hd_places ok hk j j' (by omega) (by omega) e'; omega⟩
      · exact absurd e' (hd_apart ok hk hk' q (by omega) (by omega))
theorem spI_far {b : Bx} {s p k : Nat} {g : Nat → Int} {j : Nat} : ∀ i, (∀ i', i' < i → pos b s p k i' ≠ j) → spI b s p k g i j = g j
  | 0, _ => rfl
  | i + 1, h => by
    simp only [spI, upd]
    rw [if_neg (fun e => h i (by omega) e.symm)]
    exact spI_far i (fun i' hi => h i' (by omega))
theorem spI_in {b : Bx} (ok : OkP b) {s p k : Nat} (hk : k < 4) {g : Nat → Int} {i' : Nat} : ∀ i, i ≤ (b.hd k).n → i' < i → spI b s p k g i (pos b s p k i') = (b.hd k).f i' + 1
  | i + 1, hn, h => by
    simp only [spI, upd]
    by_cases e : i' = i
    · subst e; rw [if_pos rfl]
    · rw [if_neg (fun q => e (pos_inj ok hk hk (by omega) (by omega) q).2)]
      exact spI_in ok hk i (by omega) (by omega)
theorem spK_in {b : Bx} (ok : OkP b) {s p k i : Nat} (hk : k < 4) (hi : i < (b.hd k).n) : ∀ m, k < m → m ≤ 4 → spK b s p m (pos b s p k i) = (b.hd k).f i + 1
  | m + 1, hm, h4 => by
    simp only [spK]
    by_cases e : k = m
    · subst e; exact spI_in ok hk _ (Nat.le_refl _) hi
    · rw [spI_far _ (fun i' hi' q => e (pos_inj ok (by omega) hk hi' hi q).1.symm)]
      exact spK_in ok hk hi m (by omega) (by omega)
theorem spK_far {b : Bx} {s p j : Nat} : ∀ m, (∀ k, k < m → ∀ i, i < (b.hd k).n → pos b s p k i ≠ j) → spK b s p m j = pv b s p s p (p * 8) j
  | 0, _ => rfl
  | m + 1, h => by
    simp only [spK]
    rw [spI_far _ (h m (by omega))]
    exact spK_far m (fun k hk => h k (by omega))

theorem sp_lay {b : Bx} (ok : OkP b) {s p : Nat} {j : Nat} : spK b s p 4 j = layF b s p j := by
  by_cases hh : 3 + s + s ≤ j ∧ j < 3 + s + s + 4
  · obtain ⟨k, rfl⟩ : ∃ k, j = 3 + s + s + k := ⟨j - (3 + s + s), by omega⟩
    have hk : k < 4 := by omega
    rw [lay_head hk]
    unfold nx
    by_cases h0 : 0 < (b.hd k).n
    · rw [if_pos h0]
      exact spK_in ok (i := 0) hk h0 4 hk (Nat.le_refl _)
    · rw [if_neg h0, spK_far 4 (fun k' hk' i hi q => by
        cases i with
        | zero => simp only [pos] at q; have : k' = k := by omega
                  subst this; omega
        | succ i => simp only [pos] at q; omega)]
      unfold pv
      rw [if_neg (by omega)]
  · by_cases hl : 3 + s + s + 4 + p + p * 8 ≤ j
    · obtain ⟨u, rfl⟩ : ∃ u, j = 3 + s + s + 4 + p + p * 8 + u := ⟨j - (3 + s + s + 4 + p + p * 8), by omega⟩
      rw [lay_link]
      by_cases hx : ∃ k i, k < 4 ∧ i < (b.hd k).n ∧ ((b.hd k).f i).toNat = u
      · obtain ⟨k, i, hk, hi, rfl⟩ := hx
        rw [lkK_in ok hk hi 4 hk (Nat.le_refl _)]
        unfold nx
        by_cases hn : i + 1 < (b.hd k).n
        · rw [if_pos hn]
          exact spK_in ok (i := i + 1) hk hn 4 hk (Nat.le_refl _)
        · rw [if_neg hn, spK_far 4 (fun k' hk' i' hi' q => by
            cases i' with
            | zero => simp only [pos] at q; omega
            | succ i' =>
              simp only [pos] at q
              have e : ((b.hd k').f i').toNat = ((b.hd k).f i).toNat := by omega
              by_cases c : k' = k
              · subst c
                have := hd_places ok hk' i' i (by omega) hi e
                omega
              · exact hd_apart ok hk' hk c (by omega) hi e)]
          unfold pv
          rw [if_neg (by omega)]
      · rw [lkK_out 4 (fun k hk i hi q => hx ⟨k, i, hk, hi, q⟩), spK_far 4 (fun k' hk' i' hi' q => by
          cases i' with
          | zero => simp only [pos] at q; omega
          | succ i' => simp only [pos] at q; exact hx ⟨k', i', hk', by omega, by omega⟩)]
        unfold pv
        rw [if_neg (by omega)]
    · rw [spK_far 4 (fun k' hk' i' hi' q => by
        cases i' with
        | zero => simp only [pos] at q; omega
        | succ i' => simp only [pos] at q; omega)]
      unfold pv
      split
      · rfl
      · unfold layF
        by_cases h1 : j < 3
        · rw [if_pos h1]
        · rw [if_neg h1, if_neg (by omega)]
          by_cases h2 : j < 3 + s + s
          · rw [if_pos h2]
          · omega

end Go.Proofs.Ytipbijcmpbefpaa.Book

/- Where each word lies: what each function of layer 2 that only reckons addresses (the program's and the specification's) answers, as numbers. Conditions: none but that numbers are ints. -/
import Derived.Test.YtlhfkackchcncaaCell
import Derived.Test.YtlhfkackchcncaaM1
namespace Go.Proofs.Ytlhfkackchcncaa.Plat
open Go.ChangeShapes Go.WideShapes Go.ChangeAt Go.RowKit
open Go.Proofs.Ytlhfkackchcncaa.Words Go.Proofs.Ytlhfkackchcncaa.Aid

/- Whether a house may be so large. -/
def okB (s p l : Int) : Bool := decide (1 ≤ s ∧ s ≤ 4 ∧ 1 ≤ p ∧ p ≤ 6 ∧ 1 ≤ l ∧ l ≤ 20)

theorem okB_t {s p l : Int} (h : 1 ≤ s ∧ s ≤ 4 ∧ 1 ≤ p ∧ p ≤ 6 ∧ 1 ≤ l ∧ l ≤ 20) : okB s p l = true := by unfold okB; exact decide_eq_true h
theorem okB_f {s p l : Int} (h : ¬ (1 ≤ s ∧ s ≤ 4 ∧ 1 ≤ p ∧ p ≤ 6 ∧ 1 ≤ l ∧ l ≤ 20)) : okB s p l = false := by unfold okB; exact decide_eq_false h
theorem okB_of {s p l : Int} (h : okB s p l = true) : 1 ≤ s ∧ s ≤ 4 ∧ 1 ≤ p ∧ p ≤ 6 ∧ 1 ≤ l ∧ l ≤ 20 := by unfold okB at h; exact of_decide_eq_true h
theorem okB_not {s p l : Int} (h : okB s p l = false) : ¬ (1 ≤ s ∧ s ≤ 4 ∧ 1 ≤ p ∧ p ≤ 6 ∧ 1 ≤ l ∧ l ≤ 20) := by unfold okB at h; exact of_decide_eq_false h

theorem sok_x (s p l : Int) (w : World) :
    Calls Try.prog 45 #[.agg #[.int .i64 s, .int .i64 p, .int .i64 l]] w fun e w' => e = .returned (.bool (okB s p l)) ∧ w' = w.alloc (.cells #[.int .i64 s, .int .i64 p, .int .i64 l] 42) := by
  go_enter Try.func45, Try.ntmps45
  go_wp2
  all_goals go_ret
  all_goals refine ⟨ret_bool ?_, rfl⟩
  all_goals (unfold okB; first | (rw [decide_eq_false]; omega) | (rw [decide_eq_decide]; omega))

theorem sok_any (s p l : Int) (w : World) :
    Calls Try.prog 45 #[.agg #[.int .i64 s, .int .i64 p, .int .i64 l]] w fun e w' => e = .returned (.bool (okB s p l)) ∧ Below w.heap.size w w' := (sok_x s p l w).mono fun _ _ ⟨he, hw⟩ => ⟨he, by rw [hw]; exact below1 _ _⟩

def zeroL : List Int := List.replicate 25 0

def manyL (s p : Int) : List Int := [3, s, s, 4, p, p * 8, p * 8, s]
def wideL : List Int := [1, 1, 1, 1, 1, 1, 1, 21]
def atL (s p : Int) : List Int := [0, 3, 3 + s, 3 + s + s, 3 + s + s + 4, 3 + s + s + 4 + p, 3 + s + s + 4 + p + p * 8, 3 + s + s + 4 + p + p * 8 + p * 8, 3 + s + s + 4 + p + p * 8 + p * 8 + s * 21]
def cell1 (s p : Int) (k j : Nat) : Int := if j < 8 then (manyL s p).getD j 0 else if j < 8 + k then 1 else 0
def cell2 (s p : Int) (k j : Nat) : Int := if j < 8 then (manyL s p).getD j 0 else if j < 16 then wideL.getD (j - 8) 0 else if j < 16 + k then (atL s p).getD (j - 16) 0 else if j < 24 then 0 else (atL s p).getD k 0
def layL (s p : Int) : List Int := (List.range 25).map (cell2 s p 8)

theorem cell1_hit (s p : Int) (k : Nat) : cell1 s p (k + 1) (8 + k) = 1 := by
  unfold cell1; rw [if_neg (by omega), if_pos (by omega)]
theorem cell1_other (s p : Int) (k j : Nat) (h : j ≠ 8 + k) : cell1 s p (k + 1) j = cell1 s p k j := by
  unfold cell1
  by_cases a : j < 8
  · rw [if_pos a, if_pos a]
  · rw [if_neg a, if_neg a]
    by_cases c : j < 8 + k
    · rw [if_pos (by omega), if_pos c]
    · rw [if_neg (by omega), if_neg c]

theorem eight {P : Nat → Prop} (h0 : P 0) (h1 : P 1) (h2 : P 2) (h3 : P 3) (h4 : P 4) (h5 : P 5) (h6 : P 6) (h7 : P 7) : ∀ k, k < 8 → P k := fun k hk => by
  match k, hk with
  | 0, _ => exact h0
  | 1, _ => exact h1
  | 2, _ => exact h2
  | 3, _ => exact h3
  | 4, _ => exact h4
  | 5, _ => exact h5
  | 6, _ => exact h6
  | 7, _ => exact h7

theorem cell2_first (s p : Int) (j : Nat) (hj : j < 25) (h : j ≠ 15) : cell2 s p 0 j = cell1 s p 8 j := by
  unfold cell2 cell1
  by_cases a : j < 8
  · rw [if_pos a, if_pos a]
  · rw [if_neg a, if_neg a]
    by_cases c : j < 16
    · rw [if_pos c, if_pos (by omega)]
      have : j - 8 < 7 := by omega
      generalize j - 8 = t at this
      match t, this with
      | 0, _ => rfl
      | 1, _ => rfl
      | 2, _ => rfl
      | 3, _ => rfl
      | 4, _ => rfl
      | 5, _ => rfl
      | 6, _ => rfl
    · have n1 : ¬ j < 16 + 0 := by omega
      have n2 : ¬ j < 8 + 8 := by omega
      rw [if_neg c, if_neg n1, if_neg n2]
      by_cases d : j < 24
      · rw [if_pos d]
      · rw [if_neg d]; rfl
theorem cell2_at (s p : Int) (k : Nat) (_hk : k < 8) : cell2 s p (k + 1) (16 + k) = (atL s p).getD k 0 := by
  unfold cell2; rw [if_neg (by omega), if_neg (by omega), if_pos (by omega)]; congr 1; omega
theorem cell2_size (s p : Int) (k : Nat) (hk : k ≤ 8) : cell2 s p k 24 = (atL s p).getD k 0 := by
  by_cases e : k = 8
  · subst e; rfl
  · unfold cell2; rw [if_neg (by omega), if_neg (by omega), if_neg (by omega), if_neg (by omega)]
theorem cell2_other (s p : Int) (k j : Nat) (h : j ≠ 16 + k) (h' : j ≠ 24) (_hj : j < 25) : cell2 s p (k + 1) j = cell2 s p k j := by
  unfold cell2
  by_cases a : j < 8
  · rw [if_pos a, if_pos a]
  · rw [if_neg a, if_neg a]
    by_cases c : j < 16
    · rw [if_pos c, if_pos c]
    · rw [if_neg c, if_neg c]
      by_cases d : j < 16 + k
      · rw [if_pos (by omega), if_pos d]
      · rw [if_neg (by omega), if_neg d, if_pos (by omega), if_pos (by omega)]

theorem row2 (s p : Int) (k : Nat) (hk : k < 8) (h : 1 ≤ s ∧ s ≤ 4 ∧ 1 ≤ p ∧ p ≤ 6) : ∃ m d a : Int, cell2 s p k k = m ∧ cell2 s p k (8 + k) = d ∧ (atL s p).getD k 0 = a ∧ (atL s p).getD (k + 1) 0 = a + m * d ∧
    0 ≤ m ∧ m ≤ 48 ∧ 0 ≤ d ∧ d ≤ 21 ∧ 0 ≤ a ∧ a ≤ 300 ∧ 0 ≤ m * d ∧ m * d ≤ 1008 := by
  refine ⟨_, _, _, rfl, rfl, rfl, ?_⟩
  have e1 : cell2 s p k k = (manyL s p).getD k 0 := by unfold cell2; rw [if_pos hk]
  have e2 : cell2 s p k (8 + k) = wideL.getD k 0 := by unfold cell2; rw [if_neg (by omega), if_pos (by omega)]; congr 1; omega
  rw [e1, e2]
  revert hk
  generalize k = t
  revert t
  refine eight ?_ ?_ ?_ ?_ ?_ ?_ ?_ ?_ <;> simp [manyL, wideL, atL] <;> omega

theorem rep_get (n j : Nat) : (List.replicate n (0 : Int)).getD j 0 = 0 := by
  rw [List.getD_eq_getElem?_getD, List.getElem?_replicate]; split <;> rfl

theorem full_many {w1 : World} {b : Nat} {s p : Int} (r : w1.rangeAt b 0 (ints (List.replicate 25 0))) (t : w1.there b 0 25) : Full 25 (w1.setCells b 0 (ints (manyL s p))) b (cell1 s p 0) := fun j hj => by
  refine ⟨?_, by rw [World.frozen?_setCells]; simpa using (t j hj).2⟩
  by_cases h8 : j < 8
  · have hl : j < (ints (manyL s p)).length := by rw [ints_len]; exact h8
    have := World.cell?_setCells_in b (ints (manyL s p)) 0 w1 (fun i hi => (t i (by rw [ints_len] at hi; exact Nat.lt_trans hi (by decide : 8 < 25))).1) j hl
    rw [Nat.zero_add] at this
    rw [this, ← List.getElem?_eq_getElem hl, ints_get _ _ h8]
    unfold cell1; rw [if_pos h8]
  · rw [World.cell?_setCells_out b _ 0 w1 ⟨b, j, none⟩ (fun _ _ => .inr (by rw [ints_len]; show 0 + 8 ≤ j; omega))]
    have := r j (.int .i64 0) (by rw [ints_get _ _ (by simpa using hj), rep_get])
    rw [Nat.zero_add] at this
    rw [this]
    unfold cell1; rw [if_neg h8, if_neg (by omega)]

theorem below_drewN {B : Nat} {a w : World} (h : Below B a w) (n : Nat) : Below B a (w.drewN n) := ⟨h.os, h.tape, h.output, h.size, h.block⟩

def fnd (m d a n : Int) : Int := if n < 0 ∨ m ≤ n then 0 else a + n * d

end Go.Proofs.Ytlhfkackchcncaa.Plat

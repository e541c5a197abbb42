import Derived.Test.YtbipolfbkemmpaaDoorRows
import Derived.WalkKit
import Derived.ProofKit
import Derived.OpenShut
import Derived.Deep.RegionWith
import Derived.Laws.BitsLemmas
import Derived.Test.YtbipolfbkemmpaaDoorM1

/- The words of a house: what each function of layer 1 (the program's and the specification's) answers, as numbers. No conditions but that a word is one of 64 bits. -/
namespace Go.Proofs.YtbipolfbkemmpaaDoor.Words
open Go.ChangeShapes Go.WideShapes Go.ChangeAt Go.RowKit

def fit (n m : Int) : Int := if n < 0 then 0 else if m < n then m else n

theorem fit_lo (n m : Int) (h : 0 ≤ m) : 0 ≤ fit n m := by unfold fit; split <;> (try split) <;> omega
theorem fit_hi (n m : Int) (h : 0 ≤ m) : fit n m ≤ m := by unfold fit; split <;> (try split) <;> omega

theorem ret_int {k : IntKind} {a b : Int} (h : a = b) : Ending.returned (.int k a) = .returned (.int k b) := by rw [h]

theorem wraps_u64 (n : Int) (h₀ : 0 ≤ n) (h₁ : n < 2 ^ 64) : IntKind.u64.wrap n = n := by
  simp [IntKind.wrap, IntKind.bits, IntKind.signed]; omega
theorem wraps_i64 (n : Int) (h₀ : 0 ≤ n) (h₁ : n < 2 ^ 63) : IntKind.i64.wrap n = n := by rw [IntKind.wrap_i64]; omega

theorem and_u64 (x : Int) (h₀ : 0 ≤ x) (h₁ : x < 18446744073709551616) : bits .and .u64 x 4294967295 = x % 4294967296 :=
  bits_mask .u64 64 (by decide) wraps_u64 32 (by decide) x h₀ h₁
theorem and3 (x : Int) (h₀ : 0 ≤ x) (h₁ : x < 4294967296) : bits .and .i64 x 3 = x % 4 :=
  bits_mask .i64 63 (by decide) wraps_i64 2 (by decide) x h₀ (by omega)
theorem and7 (x : Int) (h₀ : 0 ≤ x) (h₁ : x < 4294967296) : bits .and .i64 x 7 = x % 8 :=
  bits_mask .i64 63 (by decide) wraps_i64 3 (by decide) x h₀ (by omega)
theorem and20 (x : Int) (h₀ : 0 ≤ x) (h₁ : x < 4294967296) : bits .and .i64 x 1048575 = x % 1048576 :=
  bits_mask .i64 63 (by decide) wraps_i64 20 (by decide) x h₀ (by omega)

theorem or_u64 (x y : Int) (hx : 0 ≤ x) (hx1 : x ≤ 4294967295) (hy : 0 ≤ y) (hy1 : y ≤ 4294967295) :
    bits .or .u64 (x * 4294967296) y = x * 4294967296 + y :=
  bits_join .u64 64 (by decide) wraps_u64 32 _ y (by omega) (by omega) (by omega) hy (by omega) (by omega)

/- 'or' of a low part and a part above it. -/
theorem bits_join_low (i : Nat) (hi : i ≤ 63) (x y : Int) (hx₀ : 0 ≤ x) (hx : x < 2 ^ i) (hy₀ : 0 ≤ y) (hy : y % 2 ^ i = 0) (hy₁ : y < 2 ^ 63) :
    bits .or .i64 x y = x + y := by
  have hp : (2 : Int) ^ i ≤ 2 ^ 63 := by exact_mod_cast Nat.pow_le_pow_right (by decide) hi
  have hx₁ : x < 2 ^ 63 := Int.lt_of_lt_of_le hx hp
  have e : bits .or .i64 x y = bits .or .i64 y x := by
    obtain ⟨a, rfl⟩ := Int.eq_ofNat_of_zero_le hx₀
    obtain ⟨b, rfl⟩ := Int.eq_ofNat_of_zero_le hy₀
    have ha : a < 2 ^ 63 := by exact_mod_cast hx₁
    have hb : b < 2 ^ 63 := by exact_mod_cast hy₁
    have c1 := (bits_nat .i64 63 (by decide) wraps_i64 a b ha hb).2
    have c2 := (bits_nat .i64 63 (by decide) wraps_i64 b a hb ha).2
    show bits .or .i64 (a : Int) (b : Int) = bits .or .i64 (b : Int) (a : Int)
    rw [c1, c2, Nat.or_comm]
  rw [e, bits_join .i64 63 (by decide) wraps_i64 i y x hy₀ hy hy₁ hx₀ hx hx₁]
  omega

theorem or_low2 (x y : Int) (hx : 0 ≤ x) (hx1 : x ≤ 2) (hy : 0 ≤ y) (hy1 : y ≤ 4095) : bits .or .i64 x (y * 4) = x + y * 4 :=
  bits_join_low 2 (by decide) x _ hx (by omega) (by omega) (by omega) (by omega)
theorem or_low5 (x y : Int) (hx : 0 ≤ x) (hx1 : x ≤ 31) (hy : 0 ≤ y) (hy1 : y ≤ 4095) : bits .or .i64 x (y * 32) = x + y * 32 :=
  bits_join_low 5 (by decide) x _ hx (by omega) (by omega) (by omega) (by omega)
theorem or_high20 (x y : Int) (hx : 0 ≤ x) (hx1 : x ≤ 4095) (hy : 0 ≤ y) (hy1 : y ≤ 1048575) : bits .or .i64 (x * 1048576) y = x * 1048576 + y :=
  bits_join .i64 63 (by decide) wraps_i64 20 _ y (by omega) (by omega) (by omega) hy (by omega) (by omega)

/- What it says that a number is a word's. -/
theorem wf64 {n : Int} (h : (Lit.int .u64 n).wf = true) : 0 ≤ n ∧ n < 18446744073709551616 := by
  simp [Lit.wf, IntKind.min, IntKind.max, IntKind.signed, IntKind.bits] at h; omega

def lo32 (n : Int) : Int := n % 4294967296
theorem lo32_lo (n : Int) : 0 ≤ lo32 n := by unfold lo32; omega
theorem lo32_hi (n : Int) : lo32 n < 4294967296 := by unfold lo32; omega

def pack (v s : Int) : Int := fit s 4294967295 * 4294967296 + fit v 4294967295

theorem pack_lo (v s : Int) : 0 ≤ pack v s := by
  have := fit_lo v 4294967295 (by omega); have := fit_lo s 4294967295 (by omega); unfold pack; omega
theorem pack_hi (v s : Int) : pack v s < 18446744073709551616 := by
  have := fit_hi v 4294967295 (by omega); have := fit_hi s 4294967295 (by omega); unfold pack; omega

end Go.Proofs.YtbipolfbkemmpaaDoor.Words
/- Where each word lies: what each function of layer 2 that only reckons addresses (the program's and the specification's) answers, as numbers. Conditions: none but that numbers are ints. -/
namespace Go.Proofs.YtbipolfbkemmpaaDoor.Plat
open Go.ChangeShapes Go.WideShapes Go.ChangeAt Go.RowKit
open Words Aid

/- Whether a house may be so large. -/
def okB (s p l : Int) : Bool := decide (1 ≤ s ∧ s ≤ 4 ∧ 1 ≤ p ∧ p ≤ 6 ∧ 1 ≤ l ∧ l ≤ 20)

theorem okB_t {s p l : Int} (h : 1 ≤ s ∧ s ≤ 4 ∧ 1 ≤ p ∧ p ≤ 6 ∧ 1 ≤ l ∧ l ≤ 20) : okB s p l = true := by unfold okB; exact decide_eq_true h
theorem okB_f {s p l : Int} (h : ¬ (1 ≤ s ∧ s ≤ 4 ∧ 1 ≤ p ∧ p ≤ 6 ∧ 1 ≤ l ∧ l ≤ 20)) : okB s p l = false := by unfold okB; exact decide_eq_false h
theorem okB_of {s p l : Int} (h : okB s p l = true) : 1 ≤ s ∧ s ≤ 4 ∧ 1 ≤ p ∧ p ≤ 6 ∧ 1 ≤ l ∧ l ≤ 20 := by unfold okB at h; exact of_decide_eq_true h
theorem okB_not {s p l : Int} (h : okB s p l = false) : ¬ (1 ≤ s ∧ s ≤ 4 ∧ 1 ≤ p ∧ p ≤ 6 ∧ 1 ≤ l ∧ l ≤ 20) := by unfold okB at h; exact of_decide_eq_false h

theorem sok_x (s p l : Int) (w : World) :
    Calls Tryd.prog 85 #[.agg #[.int .i64 s, .int .i64 p, .int .i64 l]] w fun e w' => e = .returned (.bool (okB s p l)) ∧ w' = w.alloc (.cells #[.int .i64 s, .int .i64 p, .int .i64 l] 62) := by
  go_enter Tryd.func85, Tryd.ntmps85
  go_wp2
  all_goals go_ret
  all_goals refine ⟨ret_bool ?_, rfl⟩
  all_goals (unfold okB; first | (rw [decide_eq_false]; omega) | (rw [decide_eq_decide]; omega))

theorem sok_any (s p l : Int) (w : World) :
    Calls Tryd.prog 85 #[.agg #[.int .i64 s, .int .i64 p, .int .i64 l]] w fun e w' => e = .returned (.bool (okB s p l)) ∧ Below w.heap.size w w' := (sok_x s p l w).mono fun _ _ ⟨he, hw⟩ => ⟨he, by rw [hw]; exact below1 _ _⟩

def zeroL : List Int := List.replicate 25 0

def manyL (s p : Int) : List Int := [3, s, s, 4, p, p * 8, p * 8, s]
def wideL : List Int := [1, 1, 1, 1, 1, 1, 1, 21]
def atL (s p : Int) : List Int := [0, 3, 3 + s, 3 + s + s, 3 + s + s + 4, 3 + s + s + 4 + p, 3 + s + s + 4 + p + p * 8, 3 + s + s + 4 + p + p * 8 + p * 8, 3 + s + s + 4 + p + p * 8 + p * 8 + s * 21]
def cell1 (s p : Int) (k j : Nat) : Int := if j < 8 then (manyL s p).getD j 0 else if j < 8 + k then 1 else 0
def cell2 (s p : Int) (k j : Nat) : Int := if j < 8 then (manyL s p).getD j 0 else if j < 16 then wideL.getD (j - 8) 0 else if j < 16 + k then (atL s p).getD (j - 16) 0 else if j < 24 then 0 else (atL s p).getD k 0
def layL (s p : Int) : List Int := (List.range 25).map (cell2 s p 8)

theorem cell1_hit (s p : Int) (k : Nat) : cell1 s p (k + 1) (8 + k) = 1 := by
  unfold cell1; rw [if_neg (by omega), if_pos (by omega)]
theorem cell1_other (s p : Int) (k j : Nat) (h : j ≠ 8 + k) : cell1 s p (k + 1) j = cell1 s p k j := by
  unfold cell1
  by_cases a : j < 8
  · rw [if_pos a, if_pos a]
  · rw [if_neg a, if_neg a]
    by_cases c : j < 8 + k
    · rw [if_pos (by omega), if_pos c]
    · rw [if_neg (by omega), if_neg c]

theorem eight {P : Nat → Prop} (h0 : P 0) (h1 : P 1) (h2 : P 2) (h3 : P 3) (h4 : P 4) (h5 : P 5) (h6 : P 6) (h7 : P 7) : ∀ k, k < 8 → P k := fun k hk => by
  match k, hk with
  | 0, _ => exact h0
  | 1, _ => exact h1
  | 2, _ => exact h2
  | 3, _ => exact h3
  | 4, _ => exact h4
  | 5, _ => exact h5
  | 6, _ => exact h6
  | 7, _ => exact h7

theorem cell2_first (s p : Int) (j : Nat) (hj : j < 25) (h : j ≠ 15) : cell2 s p 0 j = cell1 s p 8 j := by
  unfold cell2 cell1
  by_cases a : j < 8
  · rw [if_pos a, if_pos a]
  · rw [if_neg a, if_neg a]
    by_cases c : j < 16
    · rw [if_pos c, if_pos (by omega)]
      have : j - 8 < 7 := by omega
      generalize j - 8 = t at this
      match t, this with
      | 0, _ => rfl
      | 1, _ => rfl
      | 2, _ => rfl
      | 3, _ => rfl
      | 4, _ => rfl
      | 5, _ => rfl
      | 6, _ => rfl
    · have n1 : ¬ j < 16 + 0 := by omega
      have n2 : ¬ j < 8 + 8 := by omega
      rw [if_neg c, if_neg n1, if_neg n2]
      by_cases d : j < 24
      · rw [if_pos d]
      · rw [if_neg d]; rfl
theorem cell2_at (s p : Int) (k : Nat) (_hk : k < 8) : cell2 s p (k + 1) (16 + k) = (atL s p).getD k 0 := by
  unfold cell2; rw [if_neg (by omega), if_neg (by omega), if_pos (by omega)]; congr 1; omega
theorem cell2_size (s p : Int) (k : Nat) (hk : k ≤ 8) : cell2 s p k 24 = (atL s p).getD k 0 := by
  by_cases e : k = 8
  · subst e; rfl
  · unfold cell2; rw [if_neg (by omega), if_neg (by omega), if_neg (by omega), if_neg (by omega)]
theorem cell2_other (s p : Int) (k j : Nat) (h : j ≠ 16 + k) (h' : j ≠ 24) (_hj : j < 25) : cell2 s p (k + 1) j = cell2 s p k j := by
  unfold cell2
  by_cases a : j < 8
  · rw [if_pos a, if_pos a]
  · rw [if_neg a, if_neg a]
    by_cases c : j < 16
    · rw [if_pos c, if_pos c]
    · rw [if_neg c, if_neg c]
      by_cases d : j < 16 + k
      · rw [if_pos (by omega), if_pos d]
      · rw [if_neg (by omega), if_neg d, if_pos (by omega), if_pos (by omega)]

theorem row2 (s p : Int) (k : Nat) (hk : k < 8) (h : 1 ≤ s ∧ s ≤ 4 ∧ 1 ≤ p ∧ p ≤ 6) : ∃ m d a : Int, cell2 s p k k = m ∧ cell2 s p k (8 + k) = d ∧ (atL s p).getD k 0 = a ∧ (atL s p).getD (k + 1) 0 = a + m * d ∧
    0 ≤ m ∧ m ≤ 48 ∧ 0 ≤ d ∧ d ≤ 21 ∧ 0 ≤ a ∧ a ≤ 300 ∧ 0 ≤ m * d ∧ m * d ≤ 1008 := by
  refine ⟨_, _, _, rfl, rfl, rfl, ?_⟩
  have e1 : cell2 s p k k = (manyL s p).getD k 0 := by unfold cell2; rw [if_pos hk]
  have e2 : cell2 s p k (8 + k) = wideL.getD k 0 := by unfold cell2; rw [if_neg (by omega), if_pos (by omega)]; congr 1; omega
  rw [e1, e2]
  revert hk
  generalize k = t
  revert t
  refine eight ?_ ?_ ?_ ?_ ?_ ?_ ?_ ?_ <;> simp [manyL, wideL, atL] <;> omega

theorem rep_get (n j : Nat) : (List.replicate n (0 : Int)).getD j 0 = 0 := by
  rw [List.getD_eq_getElem?_getD, List.getElem?_replicate]; split <;> rfl

theorem full_many {w1 : World} {b : Nat} {s p : Int} (r : w1.rangeAt b 0 (ints (List.replicate 25 0))) (t : w1.there b 0 25) : Full 25 (w1.setCells b 0 (ints (manyL s p))) b (cell1 s p 0) := fun j hj => by
  refine ⟨?_, by rw [World.frozen?_setCells]; simpa using (t j hj).2⟩
  by_cases h8 : j < 8
  · have hl : j < (ints (manyL s p)).length := by rw [ints_len]; exact h8
    have := World.cell?_setCells_in b (ints (manyL s p)) 0 w1 (fun i hi => (t i (by rw [ints_len] at hi; exact Nat.lt_trans hi (by decide : 8 < 25))).1) j hl
    rw [Nat.zero_add] at this
    rw [this, ← List.getElem?_eq_getElem hl, ints_get _ _ h8]
    unfold cell1; rw [if_pos h8]
  · rw [World.cell?_setCells_out b _ 0 w1 ⟨b, j, none⟩ (fun _ _ => .inr (by rw [ints_len]; show 0 + 8 ≤ j; omega))]
    have := r j (.int .i64 0) (by rw [ints_get _ _ (by simpa using hj), rep_get])
    rw [Nat.zero_add] at this
    rw [this]
    unfold cell1; rw [if_neg h8, if_neg (by omega)]

theorem below_drewN {B : Nat} {a w : World} (h : Below B a w) (n : Nat) : Below B a (w.drewN n) := ⟨h.os, h.tape, h.output, h.size, h.block⟩

def fnd (m d a n : Int) : Int := if n < 0 ∨ m ≤ n then 0 else a + n * d

end Go.Proofs.YtbipolfbkemmpaaDoor.Plat

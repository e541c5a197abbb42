import Derived.Test.YtbeamigbcfkjjaaGreatDoorRows
import Derived.WalkKit
import Derived.ProofKit
import Derived.OpenShut
import Derived.Deep.RegionWith
import Derived.Laws.BitsLemmas
import Derived.Test.YtbeamigbcfkjjaaGreatDoorM1
import Derived.Test.YtbeamigbcfkjjaaGreatDoorM3

/- The words of a house: what each function of layer 1 (the program's and the specification's) answers, as numbers. No conditions but that a word is one of 64 bits. -/
namespace Go.Proofs.YtbeamigbcfkjjaaGreatDoor.Words
open Go.ChangeShapes Go.WideShapes Go.ChangeAt Go.RowKit

def fit (n m : Int) : Int := if n < 0 then 0 else if m < n then m else n

theorem fit_lo (n m : Int) (h : 0 ≤ m) : 0 ≤ fit n m := by unfold fit; split <;> (try split) <;> omega
theorem fit_hi (n m : Int) (h : 0 ≤ m) : fit n m ≤ m := by unfold fit; split <;> (try split) <;> omega

theorem ret_int {k : IntKind} {a b : Int} (h : a = b) : Ending.returned (.int k a) = .returned (.int k b) := by rw [h]

theorem wraps_u64 (n : Int) (h₀ : 0 ≤ n) (h₁ : n < 2 ^ 64) : IntKind.u64.wrap n = n := by
  simp [IntKind.wrap, IntKind.bits, IntKind.signed]; omega
theorem wraps_i64 (n : Int) (h₀ : 0 ≤ n) (h₁ : n < 2 ^ 63) : IntKind.i64.wrap n = n := by rw [IntKind.wrap_i64]; omega

theorem and_u64 (x : Int) (h₀ : 0 ≤ x) (h₁ : x < 18446744073709551616) : bits .and .u64 x 4294967295 = x % 4294967296 :=
  bits_mask .u64 64 (by decide) wraps_u64 32 (by decide) x h₀ h₁
theorem and3 (x : Int) (h₀ : 0 ≤ x) (h₁ : x < 4294967296) : bits .and .i64 x 3 = x % 4 :=
  bits_mask .i64 63 (by decide) wraps_i64 2 (by decide) x h₀ (by omega)
theorem and7 (x : Int) (h₀ : 0 ≤ x) (h₁ : x < 4294967296) : bits .and .i64 x 7 = x % 8 :=
  bits_mask .i64 63 (by decide) wraps_i64 3 (by decide) x h₀ (by omega)
theorem and20 (x : Int) (h₀ : 0 ≤ x) (h₁ : x < 4294967296) : bits .and .i64 x 1048575 = x % 1048576 :=
  bits_mask .i64 63 (by decide) wraps_i64 20 (by decide) x h₀ (by omega)

theorem or_u64 (x y : Int) (hx : 0 ≤ x) (hx1 : x ≤ 4294967295) (hy : 0 ≤ y) (hy1 : y ≤ 4294967295) :
    bits .or .u64 (x * 4294967296) y = x * 4294967296 + y :=
  bits_join .u64 64 (by decide) wraps_u64 32 _ y (by omega) (by omega) (by omega) hy (by omega) (by omega)

/- 'or' of a low part and a part above it. -/
theorem bits_join_low (i : Nat) (hi : i ≤ 63) (x y : Int) (hx₀ : 0 ≤ x) (hx : x < 2 ^ i) (hy₀ : 0 ≤ y) (hy : y % 2 ^ i = 0) (hy₁ : y < 2 ^ 63) :
    bits .or .i64 x y = x + y := by
  have hp : (2 : Int) ^ i ≤ 2 ^ 63 := by exact_mod_cast Nat.pow_le_pow_right (by decide) hi
  have hx₁ : x < 2 ^ 63 := Int.lt_of_lt_of_le hx hp
  have e : bits .or .i64 x y = bits .or .i64 y x := by
    obtain ⟨a, rfl⟩ := Int.eq_ofNat_of_zero_le hx₀
    obtain ⟨b, rfl⟩ := Int.eq_ofNat_of_zero_le hy₀
    have ha : a < 2 ^ 63 := by exact_mod_cast hx₁
    have hb : b < 2 ^ 63 := by exact_mod_cast hy₁
    have c1 := (bits_nat .i64 63 (by decide) wraps_i64 a b ha hb).2
    have c2 := (bits_nat .i64 63 (by decide) wraps_i64 b a hb ha).2
    show bits .or .i64 (a : Int) (b : Int) = bits .or .i64 (b : Int) (a : Int)
    rw [c1, c2, Nat.or_comm]
  rw [e, bits_join .i64 63 (by decide) wraps_i64 i y x hy₀ hy hy₁ hx₀ hx hx₁]
  omega

theorem or_low2 (x y : Int) (hx : 0 ≤ x) (hx1 : x ≤ 2) (hy : 0 ≤ y) (hy1 : y ≤ 4095) : bits .or .i64 x (y * 4) = x + y * 4 :=
  bits_join_low 2 (by decide) x _ hx (by omega) (by omega) (by omega) (by omega)
theorem or_low5 (x y : Int) (hx : 0 ≤ x) (hx1 : x ≤ 31) (hy : 0 ≤ y) (hy1 : y ≤ 4095) : bits .or .i64 x (y * 32) = x + y * 32 :=
  bits_join_low 5 (by decide) x _ hx (by omega) (by omega) (by omega) (by omega)
theorem or_high20 (x y : Int) (hx : 0 ≤ x) (hx1 : x ≤ 4095) (hy : 0 ≤ y) (hy1 : y ≤ 1048575) : bits .or .i64 (x * 1048576) y = x * 1048576 + y :=
  bits_join .i64 63 (by decide) wraps_i64 20 _ y (by omega) (by omega) (by omega) hy (by omega) (by omega)

/- What it says that a number is a word's. -/
theorem wf64 {n : Int} (h : (Lit.int .u64 n).wf = true) : 0 ≤ n ∧ n < 18446744073709551616 := by
  simp [Lit.wf, IntKind.min, IntKind.max, IntKind.signed, IntKind.bits] at h; omega

def lo32 (n : Int) : Int := n % 4294967296
theorem lo32_lo (n : Int) : 0 ≤ lo32 n := by unfold lo32; omega
theorem lo32_hi (n : Int) : lo32 n < 4294967296 := by unfold lo32; omega

def pack (v s : Int) : Int := fit s 4294967295 * 4294967296 + fit v 4294967295

theorem pack_lo (v s : Int) : 0 ≤ pack v s := by
  have := fit_lo v 4294967295 (by omega); have := fit_lo s 4294967295 (by omega); unfold pack; omega
theorem pack_hi (v s : Int) : pack v s < 18446744073709551616 := by
  have := fit_hi v 4294967295 (by omega); have := fit_hi s 4294967295 (by omega); unfold pack; omega

end Go.Proofs.YtbeamigbcfkjjaaGreatDoor.Words

/- Where each word lies: what each function of layer 2 that only reckons addresses (the program's and the specification's) answers, as numbers. Conditions: none but that numbers are ints. -/
namespace Go.Proofs.YtbeamigbcfkjjaaGreatDoor.Plat
open Go.ChangeShapes Go.WideShapes Go.ChangeAt Go.RowKit
open Go.Proofs.YtbeamigbcfkjjaaGreatDoor.Words Go.Proofs.YtbeamigbcfkjjaaGreatDoor.Aid

/- Whether a house may be so large. -/
def okB (s p l : Int) : Bool := decide (1 ≤ s ∧ s ≤ 4 ∧ 1 ≤ p ∧ p ≤ 6 ∧ 1 ≤ l ∧ l ≤ 20)

theorem okB_t {s p l : Int} (h : 1 ≤ s ∧ s ≤ 4 ∧ 1 ≤ p ∧ p ≤ 6 ∧ 1 ≤ l ∧ l ≤ 20) : okB s p l = true := by unfold okB; exact decide_eq_true h
theorem okB_f {s p l : Int} (h : ¬ (1 ≤ s ∧ s ≤ 4 ∧ 1 ≤ p ∧ p ≤ 6 ∧ 1 ≤ l ∧ l ≤ 20)) : okB s p l = false := by unfold okB; exact decide_eq_false h
theorem okB_of {s p l : Int} (h : okB s p l = true) : 1 ≤ s ∧ s ≤ 4 ∧ 1 ≤ p ∧ p ≤ 6 ∧ 1 ≤ l ∧ l ≤ 20 := by unfold okB at h; exact of_decide_eq_true h
theorem okB_not {s p l : Int} (h : okB s p l = false) : ¬ (1 ≤ s ∧ s ≤ 4 ∧ 1 ≤ p ∧ p ≤ 6 ∧ 1 ≤ l ∧ l ≤ 20) := by unfold okB at h; exact of_decide_eq_false h

def zeroL : List Int := List.replicate 25 0

def manyL (s p : Int) : List Int := [3, s, s, 4, p, p * 8, p * 8, s]
def wideL : List Int := [1, 1, 1, 1, 1, 1, 1, 21]
def atL (s p : Int) : List Int := [0, 3, 3 + s, 3 + s + s, 3 + s + s + 4, 3 + s + s + 4 + p, 3 + s + s + 4 + p + p * 8, 3 + s + s + 4 + p + p * 8 + p * 8, 3 + s + s + 4 + p + p * 8 + p * 8 + s * 21]
def cell1 (s p : Int) (k j : Nat) : Int := if j < 8 then (manyL s p).getD j 0 else if j < 8 + k then 1 else 0
def cell2 (s p : Int) (k j : Nat) : Int := if j < 8 then (manyL s p).getD j 0 else if j < 16 then wideL.getD (j - 8) 0 else if j < 16 + k then (atL s p).getD (j - 16) 0 else if j < 24 then 0 else (atL s p).getD k 0
def layL (s p : Int) : List Int := (List.range 25).map (cell2 s p 8)

theorem cell1_hit (s p : Int) (k : Nat) : cell1 s p (k + 1) (8 + k) = 1 := by
  unfold cell1; rw [if_neg (by omega), if_pos (by omega)]
theorem cell1_other (s p : Int) (k j : Nat) (h : j ≠ 8 + k) : cell1 s p (k + 1) j = cell1 s p k j := by
  unfold cell1
  by_cases a : j < 8
  · rw [if_pos a, if_pos a]
  · rw [if_neg a, if_neg a]
    by_cases c : j < 8 + k
    · rw [if_pos (by omega), if_pos c]
    · rw [if_neg (by omega), if_neg c]

theorem eight {P : Nat → Prop} (h0 : P 0) (h1 : P 1) (h2 : P 2) (h3 : P 3) (h4 : P 4) (h5 : P 5) (h6 : P 6) (h7 : P 7) : ∀ k, k < 8 → P k := fun k hk => by
  match k, hk with
  | 0, _ => exact h0
  | 1, _ => exact h1
  | 2, _ => exact h2
  | 3, _ => exact h3
  | 4, _ => exact h4
  | 5, _ => exact h5
  | 6, _ => exact h6
  | 7, _ => exact h7

theorem cell2_first (s p : Int) (j : Nat) (hj : j < 25) (h : j ≠ 15) : cell2 s p 0 j = cell1 s p 8 j := by
  unfold cell2 cell1
  by_cases a : j < 8
  · rw [if_pos a, if_pos a]
  · rw [if_neg a, if_neg a]
    by_cases c : j < 16
    · rw [if_pos c, if_pos (by omega)]
      have : j - 8 < 7 := by omega
      generalize j - 8 = t at this
      match t, this with
      | 0, _ => rfl
      | 1, _ => rfl
      | 2, _ => rfl
      | 3, _ => rfl
      | 4, _ => rfl
      | 5, _ => rfl
      | 6, _ => rfl
    · have n1 : ¬ j < 16 + 0 := by omega
      have n2 : ¬ j < 8 + 8 := by omega
      rw [if_neg c, if_neg n1, if_neg n2]
      by_cases d : j < 24
      · rw [if_pos d]
      · rw [if_neg d]; rfl
theorem cell2_at (s p : Int) (k : Nat) (_hk : k < 8) : cell2 s p (k + 1) (16 + k) = (atL s p).getD k 0 := by
  unfold cell2; rw [if_neg (by omega), if_neg (by omega), if_pos (by omega)]; congr 1; omega
theorem cell2_size (s p : Int) (k : Nat) (hk : k ≤ 8) : cell2 s p k 24 = (atL s p).getD k 0 := by
  by_cases e : k = 8
  · subst e; rfl
  · unfold cell2; rw [if_neg (by omega), if_neg (by omega), if_neg (by omega), if_neg (by omega)]
theorem cell2_other (s p : Int) (k j : Nat) (h : j ≠ 16 + k) (h' : j ≠ 24) (_hj : j < 25) : cell2 s p (k + 1) j = cell2 s p k j := by
  unfold cell2
  by_cases a : j < 8
  · rw [if_pos a, if_pos a]
  · rw [if_neg a, if_neg a]
    by_cases c : j < 16
    · rw [if_pos c, if_pos c]
    · rw [if_neg c, if_neg c]
      by_cases d : j < 16 + k
      · rw [if_pos (by omega), if_pos d]
      · rw [if_neg (by omega), if_neg d, if_pos (by omega), if_pos (by omega)]

theorem row2 (s p : Int) (k : Nat) (hk : k < 8) (h : 1 ≤ s ∧ s ≤ 4 ∧ 1 ≤ p ∧ p ≤ 6) : ∃ m d a : Int, cell2 s p k k = m ∧ cell2 s p k (8 + k) = d ∧ (atL s p).getD k 0 = a ∧ (atL s p).getD (k + 1) 0 = a + m * d ∧
    0 ≤ m ∧ m ≤ 48 ∧ 0 ≤ d ∧ d ≤ 21 ∧ 0 ≤ a ∧ a ≤ 300 ∧ 0 ≤ m * d ∧ m * d ≤ 1008 := by
  refine ⟨_, _, _, rfl, rfl, rfl, ?_⟩
  have e1 : cell2 s p k k = (manyL s p).getD k 0 := by unfold cell2; rw [if_pos hk]
  have e2 : cell2 s p k (8 + k) = wideL.getD k 0 := by unfold cell2; rw [if_neg (by omega), if_pos (by omega)]; congr 1; omega
  rw [e1, e2]
  revert hk
  generalize k = t
  revert t
  refine eight ?_ ?_ ?_ ?_ ?_ ?_ ?_ ?_ <;> simp [manyL, wideL, atL] <;> omega

theorem rep_get (n j : Nat) : (List.replicate n (0 : Int)).getD j 0 = 0 := by
  rw [List.getD_eq_getElem?_getD, List.getElem?_replicate]; split <;> rfl

theorem full_many {w1 : World} {b : Nat} {s p : Int} (r : w1.rangeAt b 0 (ints (List.replicate 25 0))) (t : w1.there b 0 25) : Full 25 (w1.setCells b 0 (ints (manyL s p))) b (cell1 s p 0) := fun j hj => by
  refine ⟨?_, by rw [World.frozen?_setCells]; simpa using (t j hj).2⟩
  by_cases h8 : j < 8
  · have hl : j < (ints (manyL s p)).length := by rw [ints_len]; exact h8
    have := World.cell?_setCells_in b (ints (manyL s p)) 0 w1 (fun i hi => (t i (by rw [ints_len] at hi; exact Nat.lt_trans hi (by decide : 8 < 25))).1) j hl
    rw [Nat.zero_add] at this
    rw [this, ← List.getElem?_eq_getElem hl, ints_get _ _ h8]
    unfold cell1; rw [if_pos h8]
  · rw [World.cell?_setCells_out b _ 0 w1 ⟨b, j, none⟩ (fun _ _ => .inr (by rw [ints_len]; show 0 + 8 ≤ j; omega))]
    have := r j (.int .i64 0) (by rw [ints_get _ _ (by simpa using hj), rep_get])
    rw [Nat.zero_add] at this
    rw [this]
    unfold cell1; rw [if_neg h8, if_neg (by omega)]

theorem below_drewN {B : Nat} {a w : World} (h : Below B a w) (n : Nat) : Below B a (w.drewN n) := ⟨h.os, h.tape, h.output, h.size, h.block⟩

def fnd (m d a n : Int) : Int := if n < 0 ∨ m ≤ n then 0 else a + n * d

end Go.Proofs.YtbeamigbcfkjjaaGreatDoor.Plat

/- BookOpen, of the specification. -/
namespace Go.Proofs.YtbeamigbcfkjjaaGreatDoor.Book
open Go.ChangeShapes Go.WideShapes Go.ChangeAt Go.RowKit
open Go.Proofs.YtbeamigbcfkjjaaGreatDoor.Aid Go.Proofs.YtbeamigbcfkjjaaGreatDoor.Lst
set_option maxRecDepth 100000
set_option linter.unusedVariables false

def nilL : Nat × (Nat → Int) := (0, fun _ => 0)
def openM (s p l : Int) : Bm := if Plat.okB s p l = true then ⟨s, (p.toNat, fun _ => 0), nilL, nilL, nilL, nilL, (p.toNat * 8, fun _ => 0), (s.toNat, fun _ => 0), (s.toNat, fun _ => 0)⟩ else ⟨0, nilL, nilL, nilL, nilL, nilL, nilL, nilL, nilL⟩

/- What the making of a book rests on: the house, and where the answer will lie. -/
structure OS (w0 : World) (s p l : Int) (w : World) : Prop where
  r : w.rangeAt w0.heap.size 0 [.int .i64 s, .int .i64 p, .int .i64 l]
  t : ∃ c0 c1 c2 c3 c4 c5 c6 c7 c8, Ck w (w0.heap.size + 1) [c0, c1, c2, c3, c4, c5, c6, c7, c8]
  b : Below w0.heap.size w0 w
  z : w0.heap.size + 2 ≤ w.heap.size
theorem OS.later {w0 w w1 : World} {s p l : Int} (h : OS w0 s p l w) (hb : Below w.heap.size w w1) : OS w0 s p l w1 :=
  ⟨range_below hb h.r (by have := h.z; omega), by obtain ⟨c0, c1, c2, c3, c4, c5, c6, c7, c8, ht⟩ := h.t; exact ⟨c0, c1, c2, c3, c4, c5, c6, c7, c8, ht.below hb (by have := h.z; omega)⟩, h.b.trans (hb.mono h.b.size), Nat.le_trans h.z hb.size⟩
theorem OS.drew {w0 w : World} {s p l : Int} (h : OS w0 s p l w) : OS w0 s p l w.drew := ⟨h.r, h.t, ⟨h.b.os, h.b.tape, h.b.output, h.b.size, h.b.block⟩, h.z⟩
theorem OS.put {w0 w : World} {s p l : Int} (h : OS w0 s p l w) (v0 v1 v2 v3 v4 v5 v6 v7 v8 : Value) : OS w0 s p l (((((((((w.setCell ⟨w0.heap.size + 1, 0, none⟩ v0).setCell ⟨w0.heap.size + 1, 1, none⟩ v1).setCell ⟨w0.heap.size + 1, 2, none⟩ v2).setCell ⟨w0.heap.size + 1, 3, none⟩ v3).setCell ⟨w0.heap.size + 1, 4, none⟩ v4).setCell ⟨w0.heap.size + 1, 5, none⟩ v5).setCell ⟨w0.heap.size + 1, 6, none⟩ v6).setCell ⟨w0.heap.size + 1, 7, none⟩ v7).setCell ⟨w0.heap.size + 1, 8, none⟩ v8) ∧ Ck (((((((((w.setCell ⟨w0.heap.size + 1, 0, none⟩ v0).setCell ⟨w0.heap.size + 1, 1, none⟩ v1).setCell ⟨w0.heap.size + 1, 2, none⟩ v2).setCell ⟨w0.heap.size + 1, 3, none⟩ v3).setCell ⟨w0.heap.size + 1, 4, none⟩ v4).setCell ⟨w0.heap.size + 1, 5, none⟩ v5).setCell ⟨w0.heap.size + 1, 6, none⟩ v6).setCell ⟨w0.heap.size + 1, 7, none⟩ v7).setCell ⟨w0.heap.size + 1, 8, none⟩ v8) (w0.heap.size + 1) [v0, v1, v2, v3, v4, v5, v6, v7, v8] ∧ Only (w0.heap.size + 1) (w0.heap.size + 2) w (((((((((w.setCell ⟨w0.heap.size + 1, 0, none⟩ v0).setCell ⟨w0.heap.size + 1, 1, none⟩ v1).setCell ⟨w0.heap.size + 1, 2, none⟩ v2).setCell ⟨w0.heap.size + 1, 3, none⟩ v3).setCell ⟨w0.heap.size + 1, 4, none⟩ v4).setCell ⟨w0.heap.size + 1, 5, none⟩ v5).setCell ⟨w0.heap.size + 1, 6, none⟩ v6).setCell ⟨w0.heap.size + 1, 7, none⟩ v7).setCell ⟨w0.heap.size + 1, 8, none⟩ v8) := by
  obtain ⟨c0, c1, c2, c3, c4, c5, c6, c7, c8, ht⟩ := h.t
  have hk : Ck (((((((((w.setCell ⟨w0.heap.size + 1, 0, none⟩ v0).setCell ⟨w0.heap.size + 1, 1, none⟩ v1).setCell ⟨w0.heap.size + 1, 2, none⟩ v2).setCell ⟨w0.heap.size + 1, 3, none⟩ v3).setCell ⟨w0.heap.size + 1, 4, none⟩ v4).setCell ⟨w0.heap.size + 1, 5, none⟩ v5).setCell ⟨w0.heap.size + 1, 6, none⟩ v6).setCell ⟨w0.heap.size + 1, 7, none⟩ v7).setCell ⟨w0.heap.size + 1, 8, none⟩ v8) (w0.heap.size + 1) [v0, v1, v2, v3, v4, v5, v6, v7, v8] := (((((((((ht.set 0 v0).set 1 v1).set 2 v2).set 3 v3).set 4 v4).set 5 v5).set 6 v6).set 7 v7).set 8 v8)
  have ho : Only (w0.heap.size + 1) (w0.heap.size + 2) w (((((((((w.setCell ⟨w0.heap.size + 1, 0, none⟩ v0).setCell ⟨w0.heap.size + 1, 1, none⟩ v1).setCell ⟨w0.heap.size + 1, 2, none⟩ v2).setCell ⟨w0.heap.size + 1, 3, none⟩ v3).setCell ⟨w0.heap.size + 1, 4, none⟩ v4).setCell ⟨w0.heap.size + 1, 5, none⟩ v5).setCell ⟨w0.heap.size + 1, 6, none⟩ v6).setCell ⟨w0.heap.size + 1, 7, none⟩ v7).setCell ⟨w0.heap.size + 1, 8, none⟩ v8) := ((((((((((Only.refl (w0.heap.size + 1) (w0.heap.size + 2) w).setCell (w0.heap.size + 1) 0 (Nat.le_refl _) (by omega) v0).setCell (w0.heap.size + 1) 1 (Nat.le_refl _) (by omega) v1).setCell (w0.heap.size + 1) 2 (Nat.le_refl _) (by omega) v2).setCell (w0.heap.size + 1) 3 (Nat.le_refl _) (by omega) v3).setCell (w0.heap.size + 1) 4 (Nat.le_refl _) (by omega) v4).setCell (w0.heap.size + 1) 5 (Nat.le_refl _) (by omega) v5).setCell (w0.heap.size + 1) 6 (Nat.le_refl _) (by omega) v6).setCell (w0.heap.size + 1) 7 (Nat.le_refl _) (by omega) v7).setCell (w0.heap.size + 1) 8 (Nat.le_refl _) (by omega) v8)
  have hz := h.z
  refine ⟨⟨fun j x hx => ?_, ⟨_, _, _, _, _, _, _, _, _, hk⟩, h.b.trans (ho.below (by omega) |>.mono (by omega)), Nat.le_trans h.z ho.size⟩, hk, ho⟩
  rw [ho.cell (by omega) (.inl (by omega))]; exact h.r j x hx
def Bx.Tight (b : Bx) : Prop := ∀ x ∈ b.lists, x.c = x.n
theorem own_nil (B C : Nat) (w : World) : (⟨0, ⟨none, 0, 0, fun _ => 0⟩, ⟨none, 0, 0, fun _ => 0⟩, ⟨none, 0, 0, fun _ => 0⟩, ⟨none, 0, 0, fun _ => 0⟩, ⟨none, 0, 0, fun _ => 0⟩, ⟨none, 0, 0, fun _ => 0⟩, ⟨none, 0, 0, fun _ => 0⟩, ⟨none, 0, 0, fun _ => 0⟩⟩ : Bx).Own B C w := by
  refine ⟨?_, ?_, ?_⟩
  · simp only [Bx.lists, List.forall_mem_cons, List.not_mem_nil, false_implies, implies_true, and_true]
    exact ⟨.inl rfl, .inl rfl, .inl rfl, .inl rfl, .inl rfl, .inl rfl, .inl rfl, .inl rfl⟩
  · simp only [Bx.lists, List.pairwise_cons, List.forall_mem_cons, List.not_mem_nil, false_implies, implies_true, and_true, List.Pairwise.nil]
    refine ⟨⟨?_, ?_, ?_, ?_, ?_, ?_, ?_⟩, ⟨?_, ?_, ?_, ?_, ?_, ?_⟩, ⟨?_, ?_, ?_, ?_, ?_⟩, ⟨?_, ?_, ?_, ?_⟩, ⟨?_, ?_, ?_⟩, ⟨?_, ?_⟩, ?_⟩
    all_goals exact .inl rfl
  · simp only [Bx.lists, List.forall_mem_cons, List.not_mem_nil, false_implies, implies_true, and_true]
    exact ⟨Nat.le_refl _, Nat.le_refl _, Nat.le_refl _, Nat.le_refl _, Nat.le_refl _, Nat.le_refl _, Nat.le_refl _, Nat.le_refl _⟩
theorem own_open (s : Int) (a c d kp ko ki ke B C : Nat) (w : World) (h1 : B ≤ kp) (h2 : B ≤ ko) (h3 : B ≤ ki) (h4 : B ≤ ke) (g1 : kp < C) (g2 : ko < C) (g3 : ki < C) (g4 : ke < C) (e1 : kp ≠ ko) (e2 : kp ≠ ki) (e3 : kp ≠ ke) (e4 : ko ≠ ki) (e5 : ko ≠ ke) (e6 : ki ≠ ke)
    (fp : Fk .i64 c w kp (fun _ => 0)) (fo : Fk .i64 d w ko (fun _ => 0)) (fi : Fk .i64 a w ki (fun _ => 0)) (fe : Fk .i64 a w ke (fun _ => 0)) :
    (⟨s, ⟨some ⟨kp, 0, none⟩, c, c, fun _ => 0⟩, ⟨none, 0, 0, fun _ => 0⟩, ⟨none, 0, 0, fun _ => 0⟩, ⟨none, 0, 0, fun _ => 0⟩, ⟨none, 0, 0, fun _ => 0⟩, ⟨some ⟨ko, 0, none⟩, d, d, fun _ => 0⟩, ⟨some ⟨ki, 0, none⟩, a, a, fun _ => 0⟩, ⟨some ⟨ke, 0, none⟩, a, a, fun _ => 0⟩⟩ : Bx).Own B C w := by
  refine ⟨?_, ?_, ?_⟩
  · simp only [Bx.lists, List.forall_mem_cons, List.not_mem_nil, false_implies, implies_true, and_true]
    exact ⟨.inr ⟨kp, rfl, h1, g1, fp⟩, .inl rfl, .inl rfl, .inl rfl, .inl rfl, .inr ⟨ko, rfl, h2, g2, fo⟩, .inr ⟨ki, rfl, h3, g3, fi⟩, .inr ⟨ke, rfl, h4, g4, fe⟩⟩
  · simp only [Bx.lists, List.pairwise_cons, List.forall_mem_cons, List.not_mem_nil, false_implies, implies_true, and_true, List.Pairwise.nil]
    refine ⟨⟨?_, ?_, ?_, ?_, ?_, ?_, ?_⟩, ⟨?_, ?_, ?_, ?_, ?_, ?_⟩, ⟨?_, ?_, ?_, ?_, ?_⟩, ⟨?_, ?_, ?_, ?_⟩, ⟨?_, ?_, ?_⟩, ⟨?_, ?_⟩, ?_⟩
    all_goals first | exact .inl rfl | exact .inr (.inl rfl) | exact apart_of _ _ (by assumption) _ _ _ _ _ _
  · simp only [Bx.lists, List.forall_mem_cons, List.not_mem_nil, false_implies, implies_true, and_true]
    exact ⟨Nat.le_refl _, Nat.le_refl _, Nat.le_refl _, Nat.le_refl _, Nat.le_refl _, Nat.le_refl _, Nat.le_refl _, Nat.le_refl _⟩

/- What four makes in whatever order come to. -/
structure Mk4 (w0 : World) (s p l : Int) (a c d kp ko ki ke : Nat) (V : World) : Prop where
  os : OS w0 s p l V
  f4 : Fk .i64 c V kp (fun _ => 0)
  f8 : Fk .i64 d V ko (fun _ => 0)
  f11 : Fk .i64 a V ki (fun _ => 0)
  f14 : Fk .i64 a V ke (fun _ => 0)
  n : (w0.heap.size + 2 ≤ kp ∧ w0.heap.size + 2 ≤ ko ∧ w0.heap.size + 2 ≤ ki ∧ w0.heap.size + 2 ≤ ke) ∧ (kp < V.heap.size ∧ ko < V.heap.size ∧ ki < V.heap.size ∧ ke < V.heap.size) ∧ kp ≠ ko ∧ kp ≠ ki ∧ kp ≠ ke ∧ ko ≠ ki ∧ ko ≠ ke ∧ ki ≠ ke
theorem via4 {P : Program} {md : Region.Mode} {ops : Array Oper} {Q : Exit → Act → World → Prop} {S : World → Prop} {f : Nat} {l : Array Bool} {a : Act} {w : World} (F : World → Nat → Nat → Nat → Nat → Prop) (c d e : Nat)
    (tail : ∀ V kp ko ki ke, F V kp ko ki ke → wpAnyH P md ops Q S f ((((l.setIfInBounds 4 true).setIfInBounds 8 true).setIfInBounds 11 true).setIfInBounds 14 true) ((((a.put (some 11) (.slice (some ⟨kp, 0, none⟩) c c)).put (some 15) (.slice (some ⟨ko, 0, none⟩) d d)).put (some 18) (.slice (some ⟨ki, 0, none⟩) e e)).put (some 21) (.slice (some ⟨ke, 0, none⟩) e e)) V)
    (main : (∀ V kp ko ki ke, F V kp ko ki ke → wpAnyH P md ops Q S f ((((l.setIfInBounds 4 true).setIfInBounds 8 true).setIfInBounds 11 true).setIfInBounds 14 true) ((((a.put (some 11) (.slice (some ⟨kp, 0, none⟩) c c)).put (some 15) (.slice (some ⟨ko, 0, none⟩) d d)).put (some 18) (.slice (some ⟨ki, 0, none⟩) e e)).put (some 21) (.slice (some ⟨ke, 0, none⟩) e e)) V) → wpAnyH P md ops Q S (f + 4) l a w) : wpAnyH P md ops Q S (f + 4) l a w := main tail

end Go.Proofs.YtbeamigbcfkjjaaGreatDoor.Book

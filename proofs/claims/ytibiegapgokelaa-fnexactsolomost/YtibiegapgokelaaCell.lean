/- The words of a house: what each function of layer 1 (the program's and the specification's) answers, as numbers. No conditions but that a word is one of 64 bits. -/
import Derived.Test.YtibiegapgokelaaRows
import Derived.WalkKit
import Derived.ProofKit
import Derived.OpenShut
import Derived.Deep.RegionWith
import Derived.Laws.BitsLemmas
namespace Go.Proofs.Ytibiegapgokelaa.Words
open Go.ChangeShapes Go.WideShapes Go.ChangeAt Go.RowKit

def fit (n m : Int) : Int := if n < 0 then 0 else if m < n then m else n

theorem fit_lo (n m : Int) (h : 0 ≤ m) : 0 ≤ fit n m := by unfold fit; split <;> (try split) <;> omega
theorem fit_hi (n m : Int) (h : 0 ≤ m) : fit n m ≤ m := by unfold fit; split <;> (try split) <;> omega

theorem ret_int {k : IntKind} {a b : Int} (h : a = b) : Ending.returned (.int k a) = .returned (.int k b) := by rw [h]

theorem wraps_u64 (n : Int) (h₀ : 0 ≤ n) (h₁ : n < 2 ^ 64) : IntKind.u64.wrap n = n := by
  simp [IntKind.wrap, IntKind.bits, IntKind.signed]; omega
theorem wraps_i64 (n : Int) (h₀ : 0 ≤ n) (h₁ : n < 2 ^ 63) : IntKind.i64.wrap n = n := by rw [IntKind.wrap_i64]; omega

theorem and_u64 (x : Int) (h₀ : 0 ≤ x) (h₁ : x < 18446744073709551616) : bits .and .u64 x 4294967295 = x % 4294967296 :=
  bits_mask .u64 64 (by decide) wraps_u64 32 (by decide) x h₀ h₁
theorem and3 (x : Int) (h₀ : 0 ≤ x) (h₁ : x < 4294967296) : bits .and .i64 x 3 = x % 4 :=
  bits_mask .i64 63 (by decide) wraps_i64 2 (by decide) x h₀ (by omega)
theorem and7 (x : Int) (h₀ : 0 ≤ x) (h₁ : x < 4294967296) : bits .and .i64 x 7 = x % 8 :=
  bits_mask .i64 63 (by decide) wraps_i64 3 (by decide) x h₀ (by omega)
theorem and20 (x : Int) (h₀ : 0 ≤ x) (h₁ : x < 4294967296) : bits .and .i64 x 1048575 = x % 1048576 :=
  bits_mask .i64 63 (by decide) wraps_i64 20 (by decide) x h₀ (by omega)

theorem or_u64 (x y : Int) (hx : 0 ≤ x) (hx1 : x ≤ 4294967295) (hy : 0 ≤ y) (hy1 : y ≤ 4294967295) :
    bits .or .u64 (x * 4294967296) y = x * 4294967296 + y :=
  bits_join .u64 64 (by decide) wraps_u64 32 _ y (by omega) (by omega) (by omega) hy (by omega) (by omega)

/- 'or' of a low part and a part above it. -/
theorem bits_join_low (i : Nat) (hi : i ≤ 63) (x y : Int) (hx₀ : 0 ≤ x) (hx : x < 2 ^ i) (hy₀ : 0 ≤ y) (hy : y % 2 ^ i = 0) (hy₁ : y < 2 ^ 63) :
    bits .or .i64 x y = x + y := by
  have hp : (2 : Int) ^ i ≤ 2 ^ 63 := by exact_mod_cast Nat.pow_le_pow_right (by decide) hi
  have hx₁ : x < 2 ^ 63 := Int.lt_of_lt_of_le hx hp
  have e : bits .or .i64 x y = bits .or .i64 y x := by
    obtain ⟨a, rfl⟩ := Int.eq_ofNat_of_zero_le hx₀
    obtain ⟨b, rfl⟩ := Int.eq_ofNat_of_zero_le hy₀
    have ha : a < 2 ^ 63 := by exact_mod_cast hx₁
    have hb : b < 2 ^ 63 := by exact_mod_cast hy₁
    have c1 := (bits_nat .i64 63 (by decide) wraps_i64 a b ha hb).2
    have c2 := (bits_nat .i64 63 (by decide) wraps_i64 b a hb ha).2
    show bits .or .i64 (a : Int) (b : Int) = bits .or .i64 (b : Int) (a : Int)
    rw [c1, c2, Nat.or_comm]
  rw [e, bits_join .i64 63 (by decide) wraps_i64 i y x hy₀ hy hy₁ hx₀ hx hx₁]
  omega

theorem or_low2 (x y : Int) (hx : 0 ≤ x) (hx1 : x ≤ 2) (hy : 0 ≤ y) (hy1 : y ≤ 4095) : bits .or .i64 x (y * 4) = x + y * 4 :=
  bits_join_low 2 (by decide) x _ hx (by omega) (by omega) (by omega) (by omega)
theorem or_low5 (x y : Int) (hx : 0 ≤ x) (hx1 : x ≤ 31) (hy : 0 ≤ y) (hy1 : y ≤ 4095) : bits .or .i64 x (y * 32) = x + y * 32 :=
  bits_join_low 5 (by decide) x _ hx (by omega) (by omega) (by omega) (by omega)
theorem or_high20 (x y : Int) (hx : 0 ≤ x) (hx1 : x ≤ 4095) (hy : 0 ≤ y) (hy1 : y ≤ 1048575) : bits .or .i64 (x * 1048576) y = x * 1048576 + y :=
  bits_join .i64 63 (by decide) wraps_i64 20 _ y (by omega) (by omega) (by omega) hy (by omega) (by omega)

/- What it says that a number is a word's. -/
theorem wf64 {n : Int} (h : (Lit.int .u64 n).wf = true) : 0 ≤ n ∧ n < 18446744073709551616 := by
  simp [Lit.wf, IntKind.min, IntKind.max, IntKind.signed, IntKind.bits] at h; omega

def lo32 (n : Int) : Int := n % 4294967296
theorem lo32_lo (n : Int) : 0 ≤ lo32 n := by unfold lo32; omega
theorem lo32_hi (n : Int) : lo32 n < 4294967296 := by unfold lo32; omega

def pack (v s : Int) : Int := fit s 4294967295 * 4294967296 + fit v 4294967295

theorem pack_lo (v s : Int) : 0 ≤ pack v s := by
  have := fit_lo v 4294967295 (by omega); have := fit_lo s 4294967295 (by omega); unfold pack; omega
theorem pack_hi (v s : Int) : pack v s < 18446744073709551616 := by
  have := fit_hi v 4294967295 (by omega); have := fit_hi s 4294967295 (by omega); unfold pack; omega

end Go.Proofs.Ytibiegapgokelaa.Words

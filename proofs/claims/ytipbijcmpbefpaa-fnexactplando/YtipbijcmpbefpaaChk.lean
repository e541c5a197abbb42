/- Of which house some words are: one answer for the program and the specification. Conditions: at most 1,000,000,000 words, each of 64 bits. -/
import Derived.Test.YtipbijcmpbefpaaSCheck
namespace Go.Proofs.Ytipbijcmpbefpaa.Plat
open Go.ChangeShapes Go.WideShapes Go.ChangeAt Go.RowKit
open Go.Proofs.Ytipbijcmpbefpaa.Words Go.Proofs.Ytipbijcmpbefpaa.Aid Go.Proofs.Ytipbijcmpbefpaa.Lst

def gd (n : Nat) (f : Nat → Int) : Bool := good n (f 0)
def gS (n : Nat) (f : Nat → Int) : Int := if gd n f = true then cS (f 0) else 0
def gP (n : Nat) (f : Nat → Int) : Int := if gd n f = true then cP (f 0) else 0
def gL (n : Nat) (f : Nat → Int) : Int := if gd n f = true then cL (f 0) else 0

theorem gd_f {n : Nat} {f : Nat → Int} (h : ¬ (0 < n ∧ f 0 / 4294967296 = 201115 ∧ (n : Int) = size (cS (f 0)) (cP (f 0)) (cL (f 0)))) : gd n f = false := decide_eq_false h
theorem gd_t {n : Nat} {f : Nat → Int} (h : 0 < n ∧ f 0 / 4294967296 = 201115 ∧ (n : Int) = size (cS (f 0)) (cP (f 0)) (cL (f 0))) : gd n f = true := decide_eq_true h

theorem chk_f {n : Nat} {f : Nat → Int} (h : gd n f = false) : Ending.returned (.tuple #[.agg #[.int .i64 0, .int .i64 0, .int .i64 0], .bool false]) = .returned (.tuple #[.agg #[.int .i64 (gS n f), .int .i64 (gP n f), .int .i64 (gL n f)], .bool (gd n f)]) := by
  unfold gS gP gL; rw [h]; rfl
theorem chk_t {n : Nat} {f : Nat → Int} (h : gd n f = true) : Ending.returned (.tuple #[.agg #[.int .i64 (cS (f 0)), .int .i64 (cP (f 0)), .int .i64 (cL (f 0))], .bool true]) = .returned (.tuple #[.agg #[.int .i64 (gS n f), .int .i64 (gP n f), .int .i64 (gL n f)], .bool (gd n f)]) := by
  unfold gS gP gL; rw [h]; rfl

theorem magic_of {x : Int} : magic (cS x) (cP x) (cL x) = 201115 * 4294967296 + lo32 x := by
  have l0 := lo32_lo x
  have l1 := lo32_hi x
  have e : cS x + 8 * cP x + 64 * cL x = lo32 x := by unfold cS cP cL; omega
  unfold magic pack; rw [e]
  have e1 : fit 201115 4294967295 = 201115 := by decide
  have e2 : fit (lo32 x) 4294967295 = lo32 x := by unfold fit; rw [if_neg (by omega), if_neg (by omega)]
  rw [e1, e2]

end Go.Proofs.Ytipbijcmpbefpaa.Plat

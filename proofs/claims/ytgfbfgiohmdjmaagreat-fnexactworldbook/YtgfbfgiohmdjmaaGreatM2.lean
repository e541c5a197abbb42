import Derived.Test.YtgfbfgiohmdjmaaGreatM1
import Derived.Deep.MidRow
import Derived.Test.YtgfbfgiohmdjmaaGreatRows
import Derived.WalkKit
import Derived.ProofKit
import Derived.OpenShut
import Derived.Deep.RegionWith
import Derived.Laws.BitsLemmas

/- Books in memory: what comes in, measured; copied, held against each other, marked. Conditions: at most 1,048,576 numbers in all where it is said. -/
namespace Go.Proofs.YtgfbfgiohmdjmaaGreat.Book
open Go.ChangeShapes Go.WideShapes Go.ChangeAt Go.RowKit
open Aid Lst

/- A list: where it lies, how long it is, its numbers. -/
structure Sx where
  a : Option Addr
  n : Nat
  c : Nat
  f : Nat → Int

/- A book: a number and eight lists. -/
structure Bx where
  s : Int
  p : Sx
  h0 : Sx
  h1 : Sx
  h2 : Sx
  h3 : Sx
  o : Sx
  i : Sx
  e : Sx

def Sx.At (x : Sx) (w : World) : Prop := Sl .i64 w x.a x.n x.f
theorem Sx.At.later {x : Sx} {w w1 : World} (h : x.At w) (hb : Below w.heap.size w w1) : x.At w1 := Sl.later h hb
theorem Sx.At.drewN {x : Sx} {w : World} (h : x.At w) (q : Nat) : x.At (w.drewN q) := Sl.drewN h q

def Bx.lists (b : Bx) : List Sx := [b.p, b.h0, b.h1, b.h2, b.h3, b.o, b.i, b.e]
def Bx.At (b : Bx) (w : World) : Prop := ∀ x ∈ b.lists, x.At w
theorem Bx.At.later {b : Bx} {w w1 : World} (h : b.At w) (hb : Below w.heap.size w w1) : b.At w1 := fun x hx => (h x hx).later hb
theorem Bx.At.drewN {b : Bx} {w : World} (h : b.At w) (q : Nat) : b.At (w.drewN q) := fun x hx => (h x hx).drewN q
def Bx.cells (b : Bx) : List Value := [.int .i64 b.s, .slice b.p.a b.p.n b.p.c, .slice b.h0.a b.h0.n b.h0.c, .slice b.h1.a b.h1.n b.h1.c, .slice b.h2.a b.h2.n b.h2.c, .slice b.h3.a b.h3.n b.h3.c, .slice b.o.a b.o.n b.o.c, .slice b.i.a b.i.n b.i.c, .slice b.e.a b.e.n b.e.c]

/- What a book is, wherever it lies. -/
structure Bm where
  s : Int
  p : Nat × (Nat → Int)
  h0 : Nat × (Nat → Int)
  h1 : Nat × (Nat → Int)
  h2 : Nat × (Nat → Int)
  h3 : Nat × (Nat → Int)
  o : Nat × (Nat → Int)
  i : Nat × (Nat → Int)
  e : Nat × (Nat → Int)
def Sx.m (x : Sx) : Nat × (Nat → Int) := (x.n, x.f)
def Bx.m (b : Bx) : Bm := ⟨b.s, b.p.m, b.h0.m, b.h1.m, b.h2.m, b.h3.m, b.o.m, b.i.m, b.e.m⟩

/- A list in memory of its own, in blocks from B on, below C. -/
def Sx.Own (x : Sx) (B C : Nat) (w : World) : Prop := x.n = 0 ∨ ∃ k, x.a = some ⟨k, 0, none⟩ ∧ B ≤ k ∧ k < C ∧ Fk .i64 x.n w k x.f
def Apart (x y : Sx) : Prop := x.n = 0 ∨ y.n = 0 ∨ ∃ j k, x.a = some ⟨j, 0, none⟩ ∧ y.a = some ⟨k, 0, none⟩ ∧ j ≠ k
structure Bx.Own (b : Bx) (B C : Nat) (w : World) : Prop where
  each : ∀ x ∈ b.lists, x.Own B C w
  apart : b.lists.Pairwise Apart
  caps : ∀ x ∈ b.lists, x.n ≤ x.c

theorem Sx.Own.at {x : Sx} {B C : Nat} {w : World} (h : x.Own B C w) : x.At w := by
  rcases h with h | ⟨k, e, _, _, h⟩
  · exact .inl h
  · unfold Sx.At; rw [e]; exact h.sl
theorem Bx.Own.at {b : Bx} {B C : Nat} {w : World} (h : b.Own B C w) : b.At w := fun x hx => (h.each x hx).at

/- Only blocks from B on, below C, have turned, of those that were there. -/
structure Only (B C : Nat) (w w' : World) : Prop where
  os : w'.os = w.os
  tape : w'.tape = w.tape
  output : w'.output = w.output
  size : w.heap.size ≤ w'.heap.size
  block : ∀ i, i < w.heap.size → (i < B ∨ C ≤ i) → w'.heap[i]? = w.heap[i]?

theorem Only.cell {B C : Nat} {w w' : World} (h : Only B C w w') {k o : Nat} (hk : k < w.heap.size) (ho : k < B ∨ C ≤ k) : w'.cell? ⟨k, o, none⟩ = w.cell? ⟨k, o, none⟩ := World.cell?_of_block (w := w) (h.block k hk ho)
theorem Only.frozen {B C : Nat} {w w' : World} (h : Only B C w w') {k o : Nat} (hk : k < w.heap.size) (ho : k < B ∨ C ≤ k) : w'.frozen? ⟨k, o, none⟩ = w.frozen? ⟨k, o, none⟩ := World.frozen?_of_block (w := w) (h.block k hk ho)
theorem Only.below {B C : Nat} {w w' : World} (h : Only B C w w') (hB : B ≤ w.heap.size) : Below B w w' := ⟨h.os, h.tape, h.output, h.size, fun k hk => h.block k (by omega) (.inl hk)⟩
theorem Only.of {B C : Nat} {w w' : World} (h : Below w.heap.size w w') : Only B C w w' := ⟨h.os, h.tape, h.output, h.size, fun k hk _ => h.block k hk⟩
theorem Only.trans {B C : Nat} {a w w' : World} (h : Only B C a w) (h' : Only B C w w') : Only B C a w' := ⟨h'.os.trans h.os, h'.tape.trans h.tape, h'.output.trans h.output, Nat.le_trans h.size h'.size, fun k hk ho => (h'.block k (Nat.lt_of_lt_of_le hk h.size) ho).trans (h.block k hk ho)⟩
theorem Only.mono {B C B' C' : Nat} {w w' : World} (h : Only B C w w') (hB : B' ≤ B) (hC : C ≤ C') : Only B' C' w w' := ⟨h.os, h.tape, h.output, h.size, fun k hk ho => h.block k hk (by omega)⟩
theorem Only.but {b : Nat} {w w' : World} (h : But b w w') : Only b (b + 1) w w' := ⟨h.os, h.tape, h.output, Nat.le_of_eq h.size.symm, fun k _ ho => h.block k (by omega)⟩
theorem Only.fk {B C n k : Nat} {w w' : World} {f : Nat → Int} (h : Only B C w w') (ho : k < B ∨ C ≤ k) (hf : Fk .i64 n w k f) : Fk .i64 n w' k f := fun j hj => by
  have hlt := World.block_lt_of_cell? w _ (hf j hj).1
  rw [h.cell hlt ho, h.frozen hlt ho]; exact hf j hj
theorem Sx.Own.only {x : Sx} {B C B' C' : Nat} {w w' : World} (hx : x.Own B C w) (h : Only B' C' w w') (ho : C ≤ B' ∨ C' ≤ B) : x.Own B C w' := by
  rcases hx with hx | ⟨k, e, h1, h2, hx⟩
  · exact .inl hx
  · exact .inr ⟨k, e, h1, h2, h.fk (by omega) hx⟩
theorem Bx.Own.only {b : Bx} {B C B' C' : Nat} {w w' : World} (hx : b.Own B C w) (h : Only B' C' w w') (ho : C ≤ B' ∨ C' ≤ B) : b.Own B C w' := ⟨fun x hi => (hx.each x hi).only h ho, hx.apart, hx.caps⟩
theorem Bx.Own.later {b : Bx} {B C : Nat} {w w' : World} (hx : b.Own B C w) (h : Below w.heap.size w w') : b.Own B C w' := hx.only (Only.of (B := C) (C := C) h) (.inl (Nat.le_refl _))
theorem Bx.Own.drewN {b : Bx} {B C : Nat} {w : World} (hx : b.Own B C w) (q : Nat) : b.Own B C (w.drewN q) := ⟨fun x hi => by
  rcases hx.each x hi with h | ⟨k, e, h1, h2, h⟩
  · exact .inl h
  · exact .inr ⟨k, e, h1, h2, h.drewN q⟩, hx.apart, hx.caps⟩
theorem Bx.Own.mono {b : Bx} {B C B' C' : Nat} {w : World} (hx : b.Own B C w) (hB : B' ≤ B) (hC : C ≤ C') : b.Own B' C' w := ⟨fun x hi => by
  rcases hx.each x hi with h | ⟨k, e, h1, h2, h⟩
  · exact .inl h
  · exact .inr ⟨k, e, by omega, by omega, h⟩, hx.apart, hx.caps⟩

/- Not too long, all of it. -/
def Bx.total (b : Bx) : Nat := b.p.n + b.h0.n + b.h1.n + b.h2.n + b.h3.n + b.o.n + b.i.n + b.e.n

def szM (l n : Int) : Int := if l - n < 0 then -1 else l - n

theorem szM_neg {l n : Int} (h : l < n) : szM l n = -1 := by simp only [szM]; rw [if_pos (by omega)]
theorem szM_pos {l n : Int} (h : ¬ l < n) : szM l n = l - n := by simp only [szM]; rw [if_neg (by omega)]

end Go.Proofs.YtgfbfgiohmdjmaaGreat.Book
/- The words of a house: what each function of layer 1 (the program's and the specification's) answers, as numbers. No conditions but that a word is one of 64 bits. -/
namespace Go.Proofs.YtgfbfgiohmdjmaaGreat.Words
open Go.ChangeShapes Go.WideShapes Go.ChangeAt Go.RowKit

def fit (n m : Int) : Int := if n < 0 then 0 else if m < n then m else n

theorem fit_lo (n m : Int) (h : 0 ≤ m) : 0 ≤ fit n m := by unfold fit; split <;> (try split) <;> omega
theorem fit_hi (n m : Int) (h : 0 ≤ m) : fit n m ≤ m := by unfold fit; split <;> (try split) <;> omega

theorem ret_int {k : IntKind} {a b : Int} (h : a = b) : Ending.returned (.int k a) = .returned (.int k b) := by rw [h]

theorem wraps_u64 (n : Int) (h₀ : 0 ≤ n) (h₁ : n < 2 ^ 64) : IntKind.u64.wrap n = n := by
  simp [IntKind.wrap, IntKind.bits, IntKind.signed]; omega
theorem wraps_i64 (n : Int) (h₀ : 0 ≤ n) (h₁ : n < 2 ^ 63) : IntKind.i64.wrap n = n := by rw [IntKind.wrap_i64]; omega

theorem and_u64 (x : Int) (h₀ : 0 ≤ x) (h₁ : x < 18446744073709551616) : bits .and .u64 x 4294967295 = x % 4294967296 :=
  bits_mask .u64 64 (by decide) wraps_u64 32 (by decide) x h₀ h₁
theorem and3 (x : Int) (h₀ : 0 ≤ x) (h₁ : x < 4294967296) : bits .and .i64 x 3 = x % 4 :=
  bits_mask .i64 63 (by decide) wraps_i64 2 (by decide) x h₀ (by omega)
theorem and7 (x : Int) (h₀ : 0 ≤ x) (h₁ : x < 4294967296) : bits .and .i64 x 7 = x % 8 :=
  bits_mask .i64 63 (by decide) wraps_i64 3 (by decide) x h₀ (by omega)
theorem and20 (x : Int) (h₀ : 0 ≤ x) (h₁ : x < 4294967296) : bits .and .i64 x 1048575 = x % 1048576 :=
  bits_mask .i64 63 (by decide) wraps_i64 20 (by decide) x h₀ (by omega)

theorem or_u64 (x y : Int) (hx : 0 ≤ x) (hx1 : x ≤ 4294967295) (hy : 0 ≤ y) (hy1 : y ≤ 4294967295) :
    bits .or .u64 (x * 4294967296) y = x * 4294967296 + y :=
  bits_join .u64 64 (by decide) wraps_u64 32 _ y (by omega) (by omega) (by omega) hy (by omega) (by omega)

/- 'or' of a low part and a part above it. -/
theorem bits_join_low (i : Nat) (hi : i ≤ 63) (x y : Int) (hx₀ : 0 ≤ x) (hx : x < 2 ^ i) (hy₀ : 0 ≤ y) (hy : y % 2 ^ i = 0) (hy₁ : y < 2 ^ 63) :
    bits .or .i64 x y = x + y := by
  have hp : (2 : Int) ^ i ≤ 2 ^ 63 := by exact_mod_cast Nat.pow_le_pow_right (by decide) hi
  have hx₁ : x < 2 ^ 63 := Int.lt_of_lt_of_le hx hp
  have e : bits .or .i64 x y = bits .or .i64 y x := by
    obtain ⟨a, rfl⟩ := Int.eq_ofNat_of_zero_le hx₀
    obtain ⟨b, rfl⟩ := Int.eq_ofNat_of_zero_le hy₀
    have ha : a < 2 ^ 63 := by exact_mod_cast hx₁
    have hb : b < 2 ^ 63 := by exact_mod_cast hy₁
    have c1 := (bits_nat .i64 63 (by decide) wraps_i64 a b ha hb).2
    have c2 := (bits_nat .i64 63 (by decide) wraps_i64 b a hb ha).2
    show bits .or .i64 (a : Int) (b : Int) = bits .or .i64 (b : Int) (a : Int)
    rw [c1, c2, Nat.or_comm]
  rw [e, bits_join .i64 63 (by decide) wraps_i64 i y x hy₀ hy hy₁ hx₀ hx hx₁]
  omega

theorem or_low2 (x y : Int) (hx : 0 ≤ x) (hx1 : x ≤ 2) (hy : 0 ≤ y) (hy1 : y ≤ 4095) : bits .or .i64 x (y * 4) = x + y * 4 :=
  bits_join_low 2 (by decide) x _ hx (by omega) (by omega) (by omega) (by omega)
theorem or_low5 (x y : Int) (hx : 0 ≤ x) (hx1 : x ≤ 31) (hy : 0 ≤ y) (hy1 : y ≤ 4095) : bits .or .i64 x (y * 32) = x + y * 32 :=
  bits_join_low 5 (by decide) x _ hx (by omega) (by omega) (by omega) (by omega)
theorem or_high20 (x y : Int) (hx : 0 ≤ x) (hx1 : x ≤ 4095) (hy : 0 ≤ y) (hy1 : y ≤ 1048575) : bits .or .i64 (x * 1048576) y = x * 1048576 + y :=
  bits_join .i64 63 (by decide) wraps_i64 20 _ y (by omega) (by omega) (by omega) hy (by omega) (by omega)

theorem low_any (n m : Int) (w : World) :
    Calls Tryz.prog 95 #[.int .i64 n, .int .i64 m] w fun e w' => e = .returned (.int .i64 (fit n m)) ∧ w' = w := by
  go_enter Tryz.func95, Tryz.ntmps95
  go_wp2
  all_goals go_ret
  all_goals (refine ⟨ret_int ?_, rfl⟩; unfold fit; (repeat' split) <;> omega)

theorem fit_any (n m : Int) (w : World) (h : 0 ≤ m) :
    Calls Tryz.prog 116 #[.int .i64 n, .int .i64 m] w fun e w' => e = .returned (.int .i64 (fit n m)) ∧ w' = w := by
  go_enter Tryz.func116, Tryz.ntmps116
  go_wp2
  all_goals go_ret
  all_goals (refine ⟨ret_int ?_, rfl⟩; unfold fit; (repeat' split) <;> omega)

/- What it says that a number is a word's. -/
theorem wf64 {n : Int} (h : (Lit.int .u64 n).wf = true) : 0 ≤ n ∧ n < 18446744073709551616 := by
  simp [Lit.wf, IntKind.min, IntKind.max, IntKind.signed, IntKind.bits] at h; omega

def lo32 (n : Int) : Int := n % 4294967296
theorem lo32_lo (n : Int) : 0 ≤ lo32 n := by unfold lo32; omega
theorem lo32_hi (n : Int) : lo32 n < 4294967296 := by unfold lo32; omega

theorem value_any (n : Int) (w : World) (h0 : 0 ≤ n) (h1 : n < 18446744073709551616) :
    Calls Tryz.prog 125 #[.int .u64 n] w fun e w' => e = .returned (.int .i64 (lo32 n)) ∧ w' = w := by
  go_enter Tryz.func125, Tryz.ntmps125
  go_wp2
  all_goals go_ret
  refine ⟨ret_int ?_, rfl⟩
  rw [and_u64 n h0 h1]
  simp only [wrap64, lo32]; omega

theorem stamp_any (n : Int) (w : World) (h0 : 0 ≤ n) (h1 : n < 18446744073709551616) :
    Calls Tryz.prog 113 #[.int .u64 n] w fun e w' => e = .returned (.int .i64 (n / 4294967296)) ∧ w' = w := by
  go_enter Tryz.func113, Tryz.ntmps113
  go_wp2
  all_goals go_ret
  exact ⟨rfl, rfl⟩

def pack (v s : Int) : Int := fit s 4294967295 * 4294967296 + fit v 4294967295

theorem pack_lo (v s : Int) : 0 ≤ pack v s := by
  have := fit_lo v 4294967295 (by omega); have := fit_lo s 4294967295 (by omega); unfold pack; omega
theorem pack_hi (v s : Int) : pack v s < 18446744073709551616 := by
  have := fit_hi v 4294967295 (by omega); have := fit_hi s 4294967295 (by omega); unfold pack; omega

theorem spack_any (v s : Int) (w : World) :
    Calls Tryz.prog 79 #[.int .i64 v, .int .i64 s] w fun e w' => e = .returned (.int .u64 (pack v s)) ∧ w' = w := by
  have a1 := fit_lo v 4294967295 (by omega)
  have a2 := fit_hi v 4294967295 (by omega)
  have a3 := fit_lo s 4294967295 (by omega)
  have a4 := fit_hi s 4294967295 (by omega)
  go_enter Tryz.func79, Tryz.ntmps79
  go_wp2_with (go_at_call 95; refine (low_any _ _ _).mono ?_; rintro e w' ⟨rfl, rfl⟩)
  all_goals go_ret
  exact ⟨rfl, rfl⟩

theorem make_any (v s : Int) (w : World) :
    Calls Tryz.prog 117 #[.int .i64 v, .int .i64 s] w fun e w' => e = .returned (.int .u64 (pack v s)) ∧ w' = w := by
  have a1 := fit_lo v 4294967295 (by omega)
  have a2 := fit_hi v 4294967295 (by omega)
  have a3 := fit_lo s 4294967295 (by omega)
  have a4 := fit_hi s 4294967295 (by omega)
  go_enter Tryz.func117, Tryz.ntmps117
  go_wp2_with (go_at_call 116; refine (fit_any _ _ _ (by omega)).mono ?_; rintro e w' ⟨rfl, rfl⟩)
  all_goals go_ret
  exact ⟨ret_int (or_u64 _ _ a3 a4 a1 a2), rfl⟩

theorem pack_any (v s : Int) (w : World) :
    Calls Tryz.prog 115 #[.int .i64 v, .int .i64 s] w fun e w' => e = .returned (.int .u64 (pack v s)) ∧ w' = w := by
  go_enter Tryz.func115, Tryz.ntmps115
  go_wp2_with (go_at_call 117; refine (make_any _ _ _).mono ?_; rintro e w' ⟨rfl, rfl⟩)
  all_goals go_ret
  exact ⟨rfl, rfl⟩

theorem val_any (n : Int) (w : World) (h0 : 0 ≤ n) (h1 : n < 18446744073709551616) :
    Calls Tryz.prog 101 #[.int .u64 n] w fun e w' => e = .returned (.int .i64 (lo32 n)) ∧ w' = w := by
  go_enter Tryz.func101, Tryz.ntmps101
  go_wp2_with (go_at_call 125; refine (value_any _ _ h0 h1).mono ?_; rintro e w' ⟨rfl, rfl⟩)
  all_goals go_ret
  exact ⟨rfl, rfl⟩

theorem st_any (n : Int) (w : World) (h0 : 0 ≤ n) (h1 : n < 18446744073709551616) :
    Calls Tryz.prog 75 #[.int .u64 n] w fun e w' => e = .returned (.int .i64 (n / 4294967296)) ∧ w' = w := by
  go_enter Tryz.func75, Tryz.ntmps75
  go_wp2_with (go_at_call 113; refine (stamp_any _ _ h0 h1).mono ?_; rintro e w' ⟨rfl, rfl⟩)
  all_goals go_ret
  exact ⟨rfl, rfl⟩
end Go.Proofs.YtgfbfgiohmdjmaaGreat.Words
/- Where each word lies: what each function of layer 2 that only reckons addresses (the program's and the specification's) answers, as numbers. Conditions: none but that numbers are ints. -/
namespace Go.Proofs.YtgfbfgiohmdjmaaGreat.Plat
open Go.ChangeShapes Go.WideShapes Go.ChangeAt Go.RowKit
open Words Aid

/- Whether a house may be so large. -/
def okB (s p l : Int) : Bool := decide (1 ≤ s ∧ s ≤ 4 ∧ 1 ≤ p ∧ p ≤ 6 ∧ 1 ≤ l ∧ l ≤ 20)

theorem okB_t {s p l : Int} (h : 1 ≤ s ∧ s ≤ 4 ∧ 1 ≤ p ∧ p ≤ 6 ∧ 1 ≤ l ∧ l ≤ 20) : okB s p l = true := by unfold okB; exact decide_eq_true h
theorem okB_f {s p l : Int} (h : ¬ (1 ≤ s ∧ s ≤ 4 ∧ 1 ≤ p ∧ p ≤ 6 ∧ 1 ≤ l ∧ l ≤ 20)) : okB s p l = false := by unfold okB; exact decide_eq_false h
theorem okB_of {s p l : Int} (h : okB s p l = true) : 1 ≤ s ∧ s ≤ 4 ∧ 1 ≤ p ∧ p ≤ 6 ∧ 1 ≤ l ∧ l ≤ 20 := by unfold okB at h; exact of_decide_eq_true h
theorem okB_not {s p l : Int} (h : okB s p l = false) : ¬ (1 ≤ s ∧ s ≤ 4 ∧ 1 ≤ p ∧ p ≤ 6 ∧ 1 ≤ l ∧ l ≤ 20) := by unfold okB at h; exact of_decide_eq_false h

theorem ok_x (s p l : Int) (w : World) :
    Calls Tryz.prog 63 #[.agg #[.int .i64 s, .int .i64 p, .int .i64 l]] w fun e w' => e = .returned (.bool (okB s p l)) ∧ w' = w.alloc (.cells #[.int .i64 s, .int .i64 p, .int .i64 l] 62) := by
  go_enter Tryz.func63, Tryz.ntmps63
  go_wp2
  all_goals go_ret
  all_goals refine ⟨ret_bool ?_, rfl⟩
  all_goals (unfold okB; first | (rw [decide_eq_false]; omega) | (rw [decide_eq_decide]; omega))

theorem ok_any (s p l : Int) (w : World) :
    Calls Tryz.prog 63 #[.agg #[.int .i64 s, .int .i64 p, .int .i64 l]] w fun e w' => e = .returned (.bool (okB s p l)) ∧ Below w.heap.size w w' := (ok_x s p l w).mono fun _ _ ⟨he, hw⟩ => ⟨he, by rw [hw]; exact below1 _ _⟩

theorem sok_x (s p l : Int) (w : World) :
    Calls Tryz.prog 43 #[.agg #[.int .i64 s, .int .i64 p, .int .i64 l]] w fun e w' => e = .returned (.bool (okB s p l)) ∧ w' = w.alloc (.cells #[.int .i64 s, .int .i64 p, .int .i64 l] 62) := by
  go_enter Tryz.func43, Tryz.ntmps43
  go_wp2
  all_goals go_ret
  all_goals refine ⟨ret_bool ?_, rfl⟩
  all_goals (unfold okB; first | (rw [decide_eq_false]; omega) | (rw [decide_eq_decide]; omega))

theorem sok_any (s p l : Int) (w : World) :
    Calls Tryz.prog 43 #[.agg #[.int .i64 s, .int .i64 p, .int .i64 l]] w fun e w' => e = .returned (.bool (okB s p l)) ∧ Below w.heap.size w w' := (sok_x s p l w).mono fun _ _ ⟨he, hw⟩ => ⟨he, by rw [hw]; exact below1 _ _⟩

def zeroL : List Int := List.replicate 25 0

theorem lay_bad (s p l : Int) (w : World) (h : okB s p l = false) :
    Calls Tryz.prog 62 #[.agg #[.int .i64 s, .int .i64 p, .int .i64 l]] w fun e w' => e = .returned (.agg (ints zeroL).toArray) ∧ Below w.heap.size w w' := by
  go_enter Tryz.func62, Tryz.ntmps62
  go_wp2_with (fail)
  refine (ok_any s p l _).mono ?_
  rintro e w1 ⟨rfl, hb⟩
  have r3 : w1.rangeAt (w.heap.size + 1 + 1) 0 (ints zeroL) := range_below hb (range_lit (ints zeroL).toArray (heap3_2 _ _ _ _)) (by simp)
  have t2 : w1.there (w.heap.size + 1) 0 25 := there_below hb (there_lit (ints zeroL).toArray (heap3_1 _ _ _ _)) (by simp)
  have hbb : Below w.heap.size w w1 := (below3 _ _ _ _).trans (hb.mono (by simp; omega))
  rw [h]
  clear hb
  go_wp2_with (first | (refine wpList_load_mid rfl 86 _ rfl (w.heap.size + 1 + 1) 0 rfl (ints zeroL) _ r3 Tryz.underlying86 rfl (by kernel_rfl) ?_) | (refine wpList_store_mid rfl 86 _ _ rfl (w.heap.size + 1) 0 (ints zeroL).toArray rfl rfl t2 (by kernel_rfl) (ints_one _) ?_))
  exact bodyPost_ret (results_cell_mid rfl _ _ (w.heap.size + 1) 0 (ints zeroL) _ rfl (World.rangeAt_setCells_same _ _ _ _ t2) Tryz.underlying86 rfl (by kernel_rfl)) rfl ⟨rfl, below_setCells hbb (by omega) _ _⟩

def manyL (s p : Int) : List Int := [3, s, s, 4, p, p * 8, p * 8, s]
def wideL : List Int := [1, 1, 1, 1, 1, 1, 1, 21]
def atL (s p : Int) : List Int := [0, 3, 3 + s, 3 + s + s, 3 + s + s + 4, 3 + s + s + 4 + p, 3 + s + s + 4 + p + p * 8, 3 + s + s + 4 + p + p * 8 + p * 8, 3 + s + s + 4 + p + p * 8 + p * 8 + s * 21]
def cell1 (s p : Int) (k j : Nat) : Int := if j < 8 then (manyL s p).getD j 0 else if j < 8 + k then 1 else 0
def cell2 (s p : Int) (k j : Nat) : Int := if j < 8 then (manyL s p).getD j 0 else if j < 16 then wideL.getD (j - 8) 0 else if j < 16 + k then (atL s p).getD (j - 16) 0 else if j < 24 then 0 else (atL s p).getD k 0
def layL (s p : Int) : List Int := (List.range 25).map (cell2 s p 8)

theorem cell1_hit (s p : Int) (k : Nat) : cell1 s p (k + 1) (8 + k) = 1 := by
  unfold cell1; rw [if_neg (by omega), if_pos (by omega)]
theorem cell1_other (s p : Int) (k j : Nat) (h : j ≠ 8 + k) : cell1 s p (k + 1) j = cell1 s p k j := by
  unfold cell1
  by_cases a : j < 8
  · rw [if_pos a, if_pos a]
  · rw [if_neg a, if_neg a]
    by_cases c : j < 8 + k
    · rw [if_pos (by omega), if_pos c]
    · rw [if_neg (by omega), if_neg c]

theorem eight {P : Nat → Prop} (h0 : P 0) (h1 : P 1) (h2 : P 2) (h3 : P 3) (h4 : P 4) (h5 : P 5) (h6 : P 6) (h7 : P 7) : ∀ k, k < 8 → P k := fun k hk => by
  match k, hk with
  | 0, _ => exact h0
  | 1, _ => exact h1
  | 2, _ => exact h2
  | 3, _ => exact h3
  | 4, _ => exact h4
  | 5, _ => exact h5
  | 6, _ => exact h6
  | 7, _ => exact h7

theorem cell2_first (s p : Int) (j : Nat) (hj : j < 25) (h : j ≠ 15) : cell2 s p 0 j = cell1 s p 8 j := by
  unfold cell2 cell1
  by_cases a : j < 8
  · rw [if_pos a, if_pos a]
  · rw [if_neg a, if_neg a]
    by_cases c : j < 16
    · rw [if_pos c, if_pos (by omega)]
      have : j - 8 < 7 := by omega
      generalize j - 8 = t at this
      match t, this with
      | 0, _ => rfl
      | 1, _ => rfl
      | 2, _ => rfl
      | 3, _ => rfl
      | 4, _ => rfl
      | 5, _ => rfl
      | 6, _ => rfl
    · have n1 : ¬ j < 16 + 0 := by omega
      have n2 : ¬ j < 8 + 8 := by omega
      rw [if_neg c, if_neg n1, if_neg n2]
      by_cases d : j < 24
      · rw [if_pos d]
      · rw [if_neg d]; rfl
theorem cell2_at (s p : Int) (k : Nat) (_hk : k < 8) : cell2 s p (k + 1) (16 + k) = (atL s p).getD k 0 := by
  unfold cell2; rw [if_neg (by omega), if_neg (by omega), if_pos (by omega)]; congr 1; omega
theorem cell2_size (s p : Int) (k : Nat) (hk : k ≤ 8) : cell2 s p k 24 = (atL s p).getD k 0 := by
  by_cases e : k = 8
  · subst e; rfl
  · unfold cell2; rw [if_neg (by omega), if_neg (by omega), if_neg (by omega), if_neg (by omega)]
theorem cell2_other (s p : Int) (k j : Nat) (h : j ≠ 16 + k) (h' : j ≠ 24) (_hj : j < 25) : cell2 s p (k + 1) j = cell2 s p k j := by
  unfold cell2
  by_cases a : j < 8
  · rw [if_pos a, if_pos a]
  · rw [if_neg a, if_neg a]
    by_cases c : j < 16
    · rw [if_pos c, if_pos c]
    · rw [if_neg c, if_neg c]
      by_cases d : j < 16 + k
      · rw [if_pos (by omega), if_pos d]
      · rw [if_neg (by omega), if_neg d, if_pos (by omega), if_pos (by omega)]

theorem row2 (s p : Int) (k : Nat) (hk : k < 8) (h : 1 ≤ s ∧ s ≤ 4 ∧ 1 ≤ p ∧ p ≤ 6) : ∃ m d a : Int, cell2 s p k k = m ∧ cell2 s p k (8 + k) = d ∧ (atL s p).getD k 0 = a ∧ (atL s p).getD (k + 1) 0 = a + m * d ∧
    0 ≤ m ∧ m ≤ 48 ∧ 0 ≤ d ∧ d ≤ 21 ∧ 0 ≤ a ∧ a ≤ 300 ∧ 0 ≤ m * d ∧ m * d ≤ 1008 := by
  refine ⟨_, _, _, rfl, rfl, rfl, ?_⟩
  have e1 : cell2 s p k k = (manyL s p).getD k 0 := by unfold cell2; rw [if_pos hk]
  have e2 : cell2 s p k (8 + k) = wideL.getD k 0 := by unfold cell2; rw [if_neg (by omega), if_pos (by omega)]; congr 1; omega
  rw [e1, e2]
  revert hk
  generalize k = t
  revert t
  refine eight ?_ ?_ ?_ ?_ ?_ ?_ ?_ ?_ <;> simp [manyL, wideL, atL] <;> omega

theorem rep_get (n j : Nat) : (List.replicate n (0 : Int)).getD j 0 = 0 := by
  rw [List.getD_eq_getElem?_getD, List.getElem?_replicate]; split <;> rfl

theorem full_many {w1 : World} {b : Nat} {s p : Int} (r : w1.rangeAt b 0 (ints (List.replicate 25 0))) (t : w1.there b 0 25) : Full 25 (w1.setCells b 0 (ints (manyL s p))) b (cell1 s p 0) := fun j hj => by
  refine ⟨?_, by rw [World.frozen?_setCells]; simpa using (t j hj).2⟩
  by_cases h8 : j < 8
  · have hl : j < (ints (manyL s p)).length := by rw [ints_len]; exact h8
    have := World.cell?_setCells_in b (ints (manyL s p)) 0 w1 (fun i hi => (t i (by rw [ints_len] at hi; exact Nat.lt_trans hi (by decide : 8 < 25))).1) j hl
    rw [Nat.zero_add] at this
    rw [this, ← List.getElem?_eq_getElem hl, ints_get _ _ h8]
    unfold cell1; rw [if_pos h8]
  · rw [World.cell?_setCells_out b _ 0 w1 ⟨b, j, none⟩ (fun _ _ => .inr (by rw [ints_len]; show 0 + 8 ≤ j; omega))]
    have := r j (.int .i64 0) (by rw [ints_get _ _ (by simpa using hj), rep_get])
    rw [Nat.zero_add] at this
    rw [this]
    unfold cell1; rw [if_neg h8, if_neg (by omega)]

set_option maxHeartbeats 1000000 in
theorem lay_ok (s p l : Int) (w : World) (h : okB s p l = true) :
    Calls Tryz.prog 62 #[.agg #[.int .i64 s, .int .i64 p, .int .i64 l]] w fun e w' => e = .returned (.agg (ints (layL s p)).toArray) ∧ Below w.heap.size w w' := by
  have hk := okB_of h
  go_enter Tryz.func62, Tryz.ntmps62
  go_wp2_with (fail)
  refine (ok_any s p l _).mono ?_
  rintro e w1 ⟨rfl, hb⟩
  have r1 : w1.rangeAt w.heap.size 0 (ints [s, p, l]) := range_below hb (range_lit (ints [s, p, l]).toArray (heap3_0 _ _ _ _)) (by simp; omega)
  have t2 : w1.there (w.heap.size + 1) 0 25 := there_below hb (there_lit (ints (List.replicate 25 0)).toArray (heap3_1 _ _ _ _)) (by simp)
  have r3 : w1.rangeAt (w.heap.size + 1 + 1) 0 (ints (List.replicate 25 0)) := range_below hb (range_lit (ints (List.replicate 25 0)).toArray (heap3_2 _ _ _ _)) (by simp)
  have t3 : w1.there (w.heap.size + 1 + 1) 0 25 := there_below hb (there_lit (ints (List.replicate 25 0)).toArray (heap3_2 _ _ _ _)) (by simp)
  have hbb : Below w.heap.size w w1 := (below3 _ _ _ _).trans (hb.mono (by simp; omega))
  rw [h]
  clear hb
  have q0 := at0 r1 0 (v := .int .i64 s) rfl
  have q1 := at0 r1 1 (v := .int .i64 p) rfl
  have t38 : w1.there (w.heap.size + 1 + 1) 0 8 := fun j hj => t3 j (by omega)
  go_wp2_with (refine wpList_store_mid rfl _ _ _ rfl (w.heap.size + 1 + 1) 0 (ints (manyL s p)).toArray rfl rfl t38 (by kernel_rfl) (ints_one _) ?_)
  have f0 : Full 25 (w1.setCells (w.heap.size + 1 + 1) 0 (ints (manyL s p))) (w.heap.size + 1 + 1) (cell1 s p 0) := full_many r3 t3
  have t2' : (w1.setCells (w.heap.size + 1 + 1) 0 (ints (manyL s p))).there (w.heap.size + 1) 0 25 := World.there_setCells t2 _ _ _
  have hbb' : Below w.heap.size w (w1.setCells (w.heap.size + 1 + 1) 0 (ints (manyL s p))) := below_setCells hbb (by omega) _ _
  clear r1 t2 r3 t3 hbb q0 q1 t38
  go_loopw [26] (fun i wr => ∃ k : Nat, k ≤ 8 ∧ i = .int .i64 k ∧ Full 25 wr (w.heap.size + 1 + 1) (cell1 s p k) ∧ wr.there (w.heap.size + 1) 0 25 ∧ Below w.heap.size w wr) (fun i _ => 8 - (intOf i).toNat)
  case atStart => exact ⟨0, by omega, rfl, f0, t2', hbb'⟩
  case round =>
    obtain ⟨k, hk8, rfl, hf, ht, hb⟩ := hrel
    by_cases hlt : (k : Int) < 8
    · have g := hf (8 + k) (by omega)
      go_wp2_with (fail)
      go_roundw
      case rel => exact ⟨k + 1, by omega, by go_num, hf.set (8 + k) (by omega) 1 _ (cell1_hit s p k) (fun j _ hne => cell1_other s p k j hne), World.there_setCells ht (w.heap.size + 1 + 1) (8 + k) [.int .i64 1], hb.setCell (by simp; omega) _⟩
      case measure => simp [intOf]; omega
    · have e8 : k = 8 := by omega
      subst e8
      have g := hf 15 (by omega)
      go_wp2_with (fail)
      have f0 : Full 25 (wr.setCell ⟨w.heap.size + 1 + 1, 15, none⟩ (.int .i64 21)) (w.heap.size + 1 + 1) (cell2 s p 0) := hf.set 15 (by omega) 21 _ rfl (fun j hj hne => cell2_first s p j hj hne)
      have t2 : (wr.setCell ⟨w.heap.size + 1 + 1, 15, none⟩ (.int .i64 21)).there (w.heap.size + 1) 0 25 := World.there_setCells ht (w.heap.size + 1 + 1) 15 [.int .i64 21]
      have hbb : Below w.heap.size w (wr.setCell ⟨w.heap.size + 1 + 1, 15, none⟩ (.int .i64 21)) := hb.setCell (by simp; omega) _
      clear g hf ht hb
      go_loopw [35] (fun i wr => ∃ k : Nat, k ≤ 8 ∧ i = .int .i64 k ∧ Full 25 wr (w.heap.size + 1 + 1) (cell2 s p k) ∧ wr.there (w.heap.size + 1) 0 25 ∧ Below w.heap.size w wr) (fun i _ => 8 - (intOf i).toNat)
      case atStart => exact ⟨0, by omega, rfl, f0, t2, hbb⟩
      case round =>
        obtain ⟨k, hk8, rfl, hf, ht, hb⟩ := hrel
        clear f0 t2 hbb
        by_cases hlt : (k : Int) < 8
        · obtain ⟨m, d, a, e1, e2, e3, e4, m0, m1, d0, d1, a0, a1, md0, md1⟩ := row2 s p k (by omega) (by omega)
          have g1 := hf k (by omega)
          have g2 := hf (8 + k) (by omega)
          have g3 := hf (16 + k) (by omega)
          have g4 := hf 24 (by omega)
          rw [e1] at g1
          rw [e2] at g2
          rw [cell2_size s p k hk8, e3] at g4
          have E4 : Hid ((atL s p).getD (k + 1) 0 = a + m * d) := e4
          have E3 : Hid ((atL s p).getD k 0 = a) := e3
          clear e1 e2 e3 e4
          go_wp2_with (fail)
          go_region
          all_goals go_wp2_with (fail)
          all_goals go_roundw
          case rel =>
            refine ⟨k + 1, by omega, by go_num, ?_, ?_, ?_⟩
            · have f1 := hf.set (16 + k) (by omega) a (fun j => if j = 16 + k then a else cell2 s p k j) (by simp) (fun j _ hne => by simp [hne])
              refine (f1.set 24 (by omega) (a + m * d) _ (by rw [cell2_size s p (k + 1) (by omega)]; exact E4.out) (fun j hj hne => ?_)).drew
              by_cases e : j = 16 + k
              · subst e; rw [cell2_at s p k (by omega), E3.out]; simp
              · rw [cell2_other s p k j e hne hj]; simp [e]
            · exact World.there_setCells (World.there_setCells ht (w.heap.size + 1 + 1) (16 + k) [.int .i64 a]) (w.heap.size + 1 + 1) 24 [.int .i64 (a + m * d)]
            · exact ((hb.setCell (by simp; omega) _).setCell (by simp; omega) _).drew
          case measure => simp [intOf]; omega
        · have e8 : k = 8 := by omega
          subst e8
          have r := hf.range
          go_wp2_with (first | (refine wpList_load_mid rfl 86 _ rfl (w.heap.size + 1 + 1) 0 rfl _ _ r Tryz.underlying86 rfl (by kernel_rfl) ?_) | (refine wpList_store_mid rfl 86 _ _ rfl (w.heap.size + 1) 0 (ints (layL s p)).toArray rfl rfl ht (by kernel_rfl) (ints_one _) ?_))
          exact bodyPost_ret (results_cell_mid rfl _ _ (w.heap.size + 1) 0 (ints (layL s p)) _ rfl (World.rangeAt_setCells_same _ _ _ _ ht) Tryz.underlying86 rfl (by kernel_rfl)) rfl ⟨rfl, below_setCells hb (by omega) _ _⟩

theorem below_drewN {B : Nat} {a w : World} (h : Below B a w) (n : Nat) : Below B a (w.drewN n) := ⟨h.os, h.tape, h.output, h.size, h.block⟩

def fnd (m d a n : Int) : Int := if n < 0 ∨ m ≤ n then 0 else a + n * d

set_option maxHeartbeats 1000000 in
theorem find_any (L : List Int) (ar : Nat) (n m d a : Int) (w : World) (hL : L.length = 25) (har : ar < 8) (hm : L.getD ar 0 = m) (hd : L.getD (8 + ar) 0 = d) (ha : L.getD (16 + ar) 0 = a)
    (m0 : 0 ≤ m) (m1 : m ≤ 48) (d0 : 0 ≤ d) (d1 : d ≤ 21) (a0 : 0 ≤ a) (a1 : a ≤ 300) :
    Calls Tryz.prog 104 #[.agg (ints L).toArray, .int .i64 ar, .int .i64 n] w fun e w' => e = .returned (.int .i64 (fnd m d a n)) ∧ Below w.heap.size w w' := by
  have c : ∀ j x, j < 25 → L.getD j 0 = x → (w.alloc (.cells (ints L).toArray 86)).cell? ⟨w.heap.size, j, none⟩ = some (.int .i64 x) := fun j x hj hx => by
    rw [cell_of_row _ _ j _ _ _ (heap1_0 w _), ← hx]
    simpa using ints_get L j (by omega)
  have c1 := c ar m (by omega) hm
  have c2 := c (8 + ar) d (by omega) hd
  have c3 := c (16 + ar) a (by omega) ha
  clear c
  have hax : (ar : Int) < 8 := by omega
  by_cases h1 : n < 0
  · go_enter Tryz.func104, Tryz.ntmps104
    go_wp2
    go_ret
    exact ⟨ret_int (by unfold fnd; rw [if_pos (.inl h1)]), below1 _ _⟩
  · by_cases h2 : m ≤ n
    · go_enter Tryz.func104, Tryz.ntmps104
      go_wp2
      go_ret
      exact ⟨ret_int (by unfold fnd; rw [if_pos (.inr h2)]), below1 _ _⟩
    · have h3 : n < m := by omega
      have p0 : 0 ≤ n * d := Int.mul_nonneg (by omega) d0
      have p1 : n * d ≤ 48 * 21 := Int.mul_le_mul (by omega) d1 d0 (by omega)
      go_enter Tryz.func104, Tryz.ntmps104
      go_wp2
      go_quiet (fail)
      go_wp2
      go_ret
      exact ⟨ret_int (by unfold fnd; rw [if_neg (by omega)]), below_drewN (below1 _ _) _⟩

end Go.Proofs.YtgfbfgiohmdjmaaGreat.Plat

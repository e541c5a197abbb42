import Derived.Test.YtgfbfgiohmdjmaaGreatLay9
import Derived.Test.YtgfbfgiohmdjmaaGreatM6
import Derived.Test.YtgfbfgiohmdjmaaGreatM18
import Derived.Test.YtgfbfgiohmdjmaaGreatM13

/- CensLay of the specification. -/
namespace Go.Proofs.YtgfbfgiohmdjmaaGreat.Book
open Go.ChangeShapes Go.WideShapes Go.ChangeAt Go.RowKit
open Aid Lst
open Plat (okB okB_of fnd)
set_option maxRecDepth 100000
set_option linter.unusedVariables false

open Plat (okB okB_of)
theorem lk_norm (b : Bx) : ∀ k, lkK b.norm k = lkK b k
  | 0 => rfl
  | k + 1 => by
    simp only [lkK]
    rw [lk_norm b k, hd_norm]
    exact lk1_m none (b.hd k).a (b.hd k).n 0 (b.hd k).c (b.hd k).f (lkK b k) (b.hd k).n
theorem lay_norm (b : Bx) (s p : Nat) : layF b.norm s p = layF b s p := by
  funext j
  unfold layF
  simp only [hd_norm, lk_norm]
  rfl
theorem lay_m {b c : Bx} (h : b.m = c.m) (s p : Nat) : layF b s p = layF c s p := by rw [← lay_norm b, ← lay_norm c, norm_m h]
theorem fit_m {b c : Bx} (h : b.m = c.m) (s p l : Int) : FitP s p l b ↔ FitP s p l c := by
  unfold FitP
  rw [ok_m h]
  simp only [Bx.m, Bm.mk.injEq, Sx.m, Prod.mk.injEq] at h
  obtain ⟨h0, ⟨h1, _⟩, _⟩ := h
  rw [h0, h1]
/- The values as a list, wherever it lies. -/
def LayM (s p l : Int) (b : Bx) (m : Nat × (Nat → Int)) : Prop :=
  (FitP s p l b ∧ ∃ S P : Nat, s = S ∧ p = P ∧ m = (3 + S + S + 4 + P + P * 8 + P * 8, layF b S P)) ∨ (¬ FitP s p l b ∧ m = (0, fun _ => 0))
theorem laym_m {b c : Bx} (h : b.m = c.m) {s p l : Int} {m : Nat × (Nat → Int)} (g : LayM s p l b m) : LayM s p l c m := by
  rcases g with ⟨g, S, P, e1, e2, e3⟩ | ⟨g, e⟩
  · exact .inl ⟨(fit_m h s p l).1 g, S, P, e1, e2, by rw [← lay_m h]; exact e3⟩
  · exact .inr ⟨fun q => g ((fit_m h s p l).2 q), e⟩
theorem laym_one {b : Bx} {s p l : Int} {m m' : Nat × (Nat → Int)} (g : LayM s p l b m) (g' : LayM s p l b m') : m = m' := by
  rcases g with ⟨g, S, P, rfl, rfl, rfl⟩ | ⟨g, rfl⟩ <;> rcases g' with ⟨g', S', P', e1, e2, rfl⟩ | ⟨g', rfl⟩
  · obtain rfl : S = S' := by omega
    obtain rfl : P = P' := by omega
    rfl
  · exact absurd g g'
  · exact absurd g' g
  · rfl
theorem laym_len {b : Bx} {s p l : Int} {m : Nat × (Nat → Int)} (g : LayM s p l b m) : m.1 ≤ 300 := by
  rcases g with ⟨g, S, P, rfl, rfl, rfl⟩ | ⟨g, rfl⟩
  · obtain ⟨k1, k2, k3, k4, _, _⟩ := okB_of g.1
    simp only
    omega
  · simp
theorem lay_sx {s p l : Int} {b : Bx} {base : Nat} {w' : World} {e : Ending} (h : LayQ s p l b base w' e) : ∃ x : Sx, e = .returned (.slice x.a x.n x.c) ∧ LayM s p l b x.m ∧ x.Own base w'.heap.size w' := by
  rcases h with ⟨g, S, P, k, e1, e2, rfl, q0, q1, ff⟩ | ⟨g, rfl⟩
  · exact ⟨⟨some ⟨k, 0, none⟩, _, _, layF b S P⟩, rfl, .inl ⟨g, S, P, e1, e2, rfl⟩, .inr ⟨k, rfl, q0, q1, ff⟩⟩
  · exact ⟨⟨none, 0, 0, fun _ => 0⟩, rfl, .inr ⟨g, rfl⟩, .inl rfl⟩
theorem three {w : World} {b : Nat} {x y z : Value} (h : w.rangeAt b 0 [x, y, z]) : w.cell? ⟨b, 0, none⟩ = some x ∧ w.cell? ⟨b, 1, none⟩ = some y ∧ w.cell? ⟨b, 2, none⟩ = some z := by
  have h0 := h 0 _ rfl
  have h1 := h 1 _ rfl
  have h2 := h 2 _ rfl
  exact ⟨h0, h1, h2⟩
structure StB (w0 : World) (rs : List (Nat × List Value)) (bs : List Bx) (v w : World) : Prop where
  st : St w0 rs bs w
  be : Below v.heap.size v w
theorem StB.later {w0 v w w1 : World} {rs : List (Nat × List Value)} {bs : List Bx} (h : StB w0 rs bs v w) (hb : Below w.heap.size w w1) : StB w0 rs bs v w1 := ⟨h.st.later hb, h.be.trans (hb.mono h.be.size)⟩
theorem StB.drew {w0 v w : World} {rs : List (Nat × List Value)} {bs : List Bx} (h : StB w0 rs bs v w) : StB w0 rs bs v w.drew := ⟨h.st.drew, ⟨h.be.os, h.be.tape, h.be.output, h.be.size, h.be.block⟩⟩
theorem StB.r {w0 v w : World} {rs : List (Nat × List Value)} {bs : List Bx} (h : StB w0 rs bs v w) : ∀ p ∈ rs, w.rangeAt p.1 0 p.2 ∧ p.1 < w.heap.size := h.st.r
theorem StB.a {w0 v w : World} {rs : List (Nat × List Value)} {bs : List Bx} (h : StB w0 rs bs v w) : ∀ b ∈ bs, b.At w := h.st.a
theorem Sx.Own.later {x : Sx} {B C : Nat} {w w' : World} (hx : x.Own B C w) (h : Below w.heap.size w w') : x.Own B C w' := hx.only (Only.of (B := C) (C := C) h) (.inl (Nat.le_refl _))
theorem St.only {w0 w w1 : World} {rs : List (Nat × List Value)} {bs : List Bx} {B C : Nat} (h : St w0 rs bs w) (ho : Only B C w w1) (hr : ∀ p ∈ rs, p.1 < B ∨ C ≤ p.1) (hB : w0.heap.size ≤ B) (hbs : ∀ b ∈ bs, b.At w1) : St w0 rs bs w1 :=
  ⟨fun p hp => ⟨fun j x hx => by rw [ho.cell (h.r p hp).2 (hr p hp)]; exact (h.r p hp).1 j x hx, Nat.lt_of_lt_of_le (h.r p hp).2 ho.size⟩, hbs, h.b.trans ⟨ho.os, ho.tape, ho.output, ho.size, fun k hk => ho.block k (Nat.lt_of_lt_of_le hk h.b.size) (.inl (by omega))⟩⟩

end Go.Proofs.YtgfbfgiohmdjmaaGreat.Book

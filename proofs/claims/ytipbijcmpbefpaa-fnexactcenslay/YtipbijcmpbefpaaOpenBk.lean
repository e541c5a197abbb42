/- A book that is handed in, opened. -/
import Derived.Test.YtipbijcmpbefpaaBk
import Derived.OpenShut
import Derived.Lib.SmallJoins
import Derived.Laws.IdiomArrays
namespace Go.Proofs.Ytipbijcmpbefpaa.Book
open Go.ChangeShapes Go.WideShapes Go.ChangeAt Go.RowKit
open Go.Proofs.Ytipbijcmpbefpaa.Aid Go.Proofs.Ytipbijcmpbefpaa.Lst
set_option maxRecDepth 100000

def Sx.Good (x : Sx) (w : World) : Prop := x.At w ∧ x.n ≤ maxLen ∧ ∀ j, (Lit.int .i64 (x.f j)).wf = true
structure Bx.Good (b : Bx) (w : World) : Prop where
  s : (Lit.int .i64 b.s).wf = true
  each : ∀ x ∈ b.lists, x.Good w

theorem Bx.Good.at {b : Bx} {w : World} (h : b.Good w) : b.At w := fun x hx => (h.each x hx).1
theorem Bx.Good.short {b : Bx} {w : World} (h : b.Good w) : ∀ x ∈ b.lists, (x.n : Int) ≤ maxLen := fun x hx => by have := (h.each x hx).2.1; omega

theorem open_list {H : Type} {enc : TypeId × Value → H} {w : World} {n : Nat} {v : Value} {y : DataW H × List MemPlace} (h : DataW.trod enc Try.prog w 0 (fun _ => true) true n 23 [v] = some y) : ∃ x : Sx, v = .slice x.a x.n x.c ∧ x.Good w := by
  rcases open_ints Try.underlying23 Try.underlying3 (by kernel_rfl) h with ⟨hcs, _⟩ | ⟨x, l, c, zs, hcs, _, hl, hm, hz, _, hcell, hwz⟩
  · simp at hcs
    obtain ⟨g1, g2, g3⟩ := sl_of (k := .i64) (w := w) (a := none) (len := 0) (cap := 0) (zs := []) (.inl ⟨rfl, rfl, rfl, rfl⟩)
    exact ⟨⟨none, 0, 0, fun j => ([] : List Int).getD j 0⟩, hcs, g1, g2, g3⟩
  · simp at hcs
    obtain ⟨g1, g2, g3⟩ := sl_of (k := .i64) (w := w) (a := some x) (len := l) (cap := c) (zs := zs) (.inr ⟨x, rfl, hl, hm, by simpa using hz, hcell, hwz⟩)
    exact ⟨⟨some x, l, c, fun j => zs.getD j 0⟩, hcs, g1, g2, g3⟩

theorem array9 {α : Type} {cs : Array α} (h : cs.size = 9) : ∃ c0 c1 c2 c3 c4 c5 c6 c7 c8, cs = #[c0, c1, c2, c3, c4, c5, c6, c7, c8] := by
  obtain ⟨l⟩ := cs
  match l, h with
  | [c0, c1, c2, c3, c4, c5, c6, c7, c8], _ => exact ⟨c0, c1, c2, c3, c4, c5, c6, c7, c8, rfl⟩

theorem open_book {H : Type} {enc : TypeId × Value → H} {w : World} {r : Reach} {b0 : Nat} {v : Value} {d : DataW H} {p : List MemPlace} (hv : Value.okWide Try.prog w r b0 35 v) (h : DataW.Trod enc Try.prog w 0 (fun _ => true) true 35 v d p) :
    ∃ b : Bx, v = .agg b.cells.toArray ∧ b.Good w := by
  obtain ⟨cs, rfl, hsz⟩ := okWide_struct Try.underlying35 hv
  obtain ⟨c0, c1, c2, c3, c4, c5, c6, c7, c8, rfl⟩ := array9 (hsz.trans (by kernel_rfl))
  obtain ⟨fuel, hf⟩ := h
  obtain ⟨xs, n, _, _, _, hlen, hfl⟩ := DataW.trod_struct Try.underlying35 hf
  match xs, hlen with
  | [y0, y1, y2, y3, y4, y5], _ =>
    have k1 : Try.prog.cellsOf 3 = 1 := by kernel_rfl
    have k2 : Try.prog.cellsOf 23 = 1 := by kernel_rfl
    have k4 : Try.prog.cellsOf 24 = 4 := by kernel_rfl
    have g0 := hfl 0 _ rfl
    have g1 := hfl 1 _ rfl
    have g2 := hfl 2 _ rfl
    have g3 := hfl 3 _ rfl
    have g4 := hfl 4 _ rfl
    have g5 := hfl 5 _ rfl
    simp [Value.cells, k1, k2, k4] at g0 g1 g2 g3 g4 g5
    obtain ⟨x0, e0, -, u0⟩ := DataW.trod_int Try.underlying3 g0
    simp at e0
    subst e0
    obtain ⟨z0, z1, z2, z3, m, _, q0, q1, q2, q3⟩ := trod_array4 Try.underlying24 k2 g2
    obtain ⟨s1, rfl, i1⟩ := open_list g1
    obtain ⟨s2, rfl, i2⟩ := open_list q0
    obtain ⟨s3, rfl, i3⟩ := open_list q1
    obtain ⟨s4, rfl, i4⟩ := open_list q2
    obtain ⟨s5, rfl, i5⟩ := open_list q3
    obtain ⟨s6, rfl, i6⟩ := open_list g3
    obtain ⟨s7, rfl, i7⟩ := open_list g4
    obtain ⟨s8, rfl, i8⟩ := open_list g5
    refine ⟨⟨x0, s1, s2, s3, s4, s5, s6, s7, s8⟩, rfl, u0, ?_⟩
    simp only [Bx.lists, List.forall_mem_cons, List.not_mem_nil, false_implies, implies_true, and_true]
    exact ⟨i1, i2, i3, i4, i5, i6, i7, i8⟩

end Go.Proofs.Ytipbijcmpbefpaa.Book

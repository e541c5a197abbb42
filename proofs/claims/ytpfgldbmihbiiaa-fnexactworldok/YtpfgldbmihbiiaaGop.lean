/- A guest that is handed in, opened. -/
import Derived.Test.YtpfgldbmihbiiaaGx
import Derived.OpenShut
import Derived.Lib.SmallJoins
namespace Go.Proofs.Ytpfgldbmihbiiaa.Gs
open Go.ChangeShapes Go.WideShapes Go.ChangeAt Go.RowKit
open Go.Proofs.Ytpfgldbmihbiiaa.Aid Go.Proofs.Ytpfgldbmihbiiaa.Lst Go.Proofs.Ytpfgldbmihbiiaa.Plat
open Go.Proofs.Ytpfgldbmihbiiaa.Book (Sx)
set_option maxRecDepth 100000
set_option linter.unusedVariables false

/- A list of words, as it was handed in. -/
def Good64 (x : Sx) (w : World) : Prop := Sl .u64 w x.a x.n x.f ∧ x.n ≤ maxLen ∧ ∀ j, (Lit.int .u64 (x.f j)).wf = true
structure Gx.Good (g : Gx) (w : World) : Prop where
  snap : Good64 g.snap w
  plan : Good64 g.plan w
theorem Gx.Good.at {g : Gx} {w : World} (h : g.Good w) : g.At w := ⟨h.snap.1, h.plan.1⟩

theorem open_words {H : Type} {enc : TypeId × Value → H} {w : World} {n : Nat} {v : Value} {y : DataW H × List MemPlace} (h : DataW.trod enc Try.prog w 0 (fun _ => true) true n 22 [v] = some y) : ∃ x : Sx, v = .slice x.a x.n x.c ∧ Good64 x w := by
  rcases open_ints Try.underlying22 Try.underlying51 (by kernel_rfl) h with ⟨hcs, _⟩ | ⟨x, l, c, zs, hcs, _, hl, hm, hz, _, hcell, hwz⟩
  · simp at hcs
    obtain ⟨g1, g2, g3⟩ := sl_of (k := .u64) (w := w) (a := none) (len := 0) (cap := 0) (zs := []) (.inl ⟨rfl, rfl, rfl, rfl⟩)
    exact ⟨⟨none, 0, 0, fun j => ([] : List Int).getD j 0⟩, hcs, g1, g2, g3⟩
  · simp at hcs
    obtain ⟨g1, g2, g3⟩ := sl_of (k := .u64) (w := w) (a := some x) (len := l) (cap := c) (zs := zs) (.inr ⟨x, rfl, hl, hm, by simpa using hz, hcell, hwz⟩)
    exact ⟨⟨some x, l, c, fun j => zs.getD j 0⟩, hcs, g1, g2, g3⟩

theorem list26 {α : Type} {cs : List α} (h : cs.length = 26) : ∃ c0 c1 c2 c3 c4 c5 c6 c7 c8 c9 c10 c11 c12 c13 c14 c15 c16 c17 c18 c19 c20 c21 c22 c23 c24 c25, cs = [c0, c1, c2, c3, c4, c5, c6, c7, c8, c9, c10, c11, c12, c13, c14, c15, c16, c17, c18, c19, c20, c21, c22, c23, c24, c25] := by
  match cs, h with
  | [c0, c1, c2, c3, c4, c5, c6, c7, c8, c9, c10, c11, c12, c13, c14, c15, c16, c17, c18, c19, c20, c21, c22, c23, c24, c25], _ => exact ⟨c0, c1, c2, c3, c4, c5, c6, c7, c8, c9, c10, c11, c12, c13, c14, c15, c16, c17, c18, c19, c20, c21, c22, c23, c24, c25, rfl⟩

set_option maxHeartbeats 4000000 in
theorem open_guest {H : Type} {enc : TypeId × Value → H} {w : World} {fuel : Nat} {cs : List Value} {y : DataW H × List MemPlace} (hl : cs.length = 26) (h : DataW.trod enc Try.prog w 0 (fun _ => true) true fuel 67 cs = some y) :
    ∃ g : Gx, cs = g.cells ∧ g.Good w := by
  obtain ⟨c0, c1, c2, c3, c4, c5, c6, c7, c8, c9, c10, c11, c12, c13, c14, c15, c16, c17, c18, c19, c20, c21, c22, c23, c24, c25, rfl⟩ := list26 hl
  obtain ⟨xs, n, _, _, _, hlen, hfl⟩ := DataW.trod_struct Try.underlying67 h
  have k1 : Try.prog.cellsOf 3 = 1 := by kernel_rfl
  have k2 : Try.prog.cellsOf 51 = 1 := by kernel_rfl
  have k3 : Try.prog.cellsOf 4 = 1 := by kernel_rfl
  have k4 : Try.prog.cellsOf 22 = 1 := by kernel_rfl
  have k5 : Try.prog.cellsOf 61 = 4 := by kernel_rfl
  match xs, hlen with
  | [y0, y1, y2, y3, y4, y5, y6, y7, y8, y9, y10, y11, y12, y13, y14, y15, y16, y17, y18, y19, y20, y21, y22], _ =>
    have g0 := hfl 0 _ rfl
    have g1 := hfl 1 _ rfl
    have g2 := hfl 2 _ rfl
    have g3 := hfl 3 _ rfl
    have g4 := hfl 4 _ rfl
    have g5 := hfl 5 _ rfl
    have g6 := hfl 6 _ rfl
    have g7 := hfl 7 _ rfl
    have g8 := hfl 8 _ rfl
    have g9 := hfl 9 _ rfl
    have g10 := hfl 10 _ rfl
    have g11 := hfl 11 _ rfl
    have g12 := hfl 12 _ rfl
    have g13 := hfl 13 _ rfl
    have g14 := hfl 14 _ rfl
    have g15 := hfl 15 _ rfl
    have g16 := hfl 16 _ rfl
    have g17 := hfl 17 _ rfl
    have g18 := hfl 18 _ rfl
    have g19 := hfl 19 _ rfl
    have g20 := hfl 20 _ rfl
    have g21 := hfl 21 _ rfl
    have g22 := hfl 22 _ rfl
    simp [k1, k2, k3, k4, k5] at g0 g1 g2 g3 g4 g5 g6 g7 g8 g9 g10 g11 g12 g13 g14 g15 g16 g17 g18 g19 g20 g21 g22
    obtain ⟨x0, e0, -⟩ := DataW.trod_bool Try.underlying4 g0
    obtain ⟨x1, e1, -, u1⟩ := DataW.trod_int Try.underlying3 g1
    obtain ⟨x2, e2, -, u2⟩ := DataW.trod_int Try.underlying3 g2
    obtain ⟨x3, e3, -⟩ := DataW.trod_bool Try.underlying4 g3
    obtain ⟨ys, m, _, _, _, hlen2, hfl2⟩ := DataW.trod_struct Try.underlying61 g4
    match ys, hlen2 with
    | [z0, z1, z2, z3], _ =>
    have o0 := hfl2 0 _ rfl
    have o1 := hfl2 1 _ rfl
    have o2 := hfl2 2 _ rfl
    have o3 := hfl2 3 _ rfl
    simp [k1] at o0 o1 o2 o3
    obtain ⟨p0, f0, -, -⟩ := DataW.trod_int Try.underlying3 o0
    obtain ⟨p1, f1, -, -⟩ := DataW.trod_int Try.underlying3 o1
    obtain ⟨p2, f2, -, -⟩ := DataW.trod_int Try.underlying3 o2
    obtain ⟨p3, f3, -, -⟩ := DataW.trod_int Try.underlying3 o3
    simp at f0 f1 f2 f3
    obtain ⟨x5, e5, -, u5⟩ := DataW.trod_int Try.underlying3 g5
    obtain ⟨x6, e6, -, u6⟩ := DataW.trod_int Try.underlying3 g6
    obtain ⟨x7, e7, -, u7⟩ := DataW.trod_int Try.underlying3 g7
    obtain ⟨x8, e8, -, u8⟩ := DataW.trod_int Try.underlying3 g8
    obtain ⟨x9, e9, -, u9⟩ := DataW.trod_int Try.underlying3 g9
    obtain ⟨x10, e10, -, u10⟩ := DataW.trod_int Try.underlying3 g10
    obtain ⟨x11, e11, -, u11⟩ := DataW.trod_int Try.underlying3 g11
    obtain ⟨x12, e12, -⟩ := DataW.trod_bool Try.underlying4 g12
    obtain ⟨x13, e13, -, u13⟩ := DataW.trod_int Try.underlying3 g13
    obtain ⟨x14, e14, -, u14⟩ := DataW.trod_int Try.underlying51 g14
    obtain ⟨x15, e15, -, u15⟩ := DataW.trod_int Try.underlying51 g15
    obtain ⟨x16, e16, -, u16⟩ := DataW.trod_int Try.underlying51 g16
    obtain ⟨x17, e17, -, u17⟩ := DataW.trod_int Try.underlying51 g17
    obtain ⟨x18, e18, s18⟩ := open_words g18
    obtain ⟨x19, e19, s19⟩ := open_words g19
    obtain ⟨x20, e20, -, u20⟩ := DataW.trod_int Try.underlying3 g20
    obtain ⟨x21, e21, -, u21⟩ := DataW.trod_int Try.underlying3 g21
    obtain ⟨x22, e22, -, u22⟩ := DataW.trod_int Try.underlying3 g22
    simp at e0 e1 e2 e3 e5 e6 e7 e8 e9 e10 e11 e12 e13 e14 e15 e16 e17 e20 e21 e22
    subst e0 e1 e2 e3 e5 e6 e7 e8 e9 e10 e11 e12 e13 e14 e15 e16 e17 e18 e19 e20 e21 e22 f0 f1 f2 f3
    exact ⟨⟨x0, x1, x2, x3, p0, p1, p2, p3, x5, x6, x7, x8, x9, x10, x11, x12, x13, x14, x15, x16, x17, x18, x19, x20, x21, x22⟩, rfl, ⟨s18, s19⟩⟩

end Go.Proofs.Ytpfgldbmihbiiaa.Gs

/- A book that is handed in, opened. -/
import Derived.Test.YtpfgldbmihbiiaaBk
import Derived.OpenShut
import Derived.Lib.SmallJoins
import Derived.Laws.IdiomArrays
namespace Go.Proofs.Ytpfgldbmihbiiaa.Book
open Go.ChangeShapes Go.WideShapes Go.ChangeAt Go.RowKit
open Go.Proofs.Ytpfgldbmihbiiaa.Aid Go.Proofs.Ytpfgldbmihbiiaa.Lst
set_option maxRecDepth 100000

def Sx.Good (x : Sx) (w : World) : Prop := x.At w ∧ x.n ≤ maxLen ∧ ∀ j, (Lit.int .i64 (x.f j)).wf = true
structure Bx.Good (b : Bx) (w : World) : Prop where
  s : (Lit.int .i64 b.s).wf = true
  each : ∀ x ∈ b.lists, x.Good w

theorem Bx.Good.at {b : Bx} {w : World} (h : b.Good w) : b.At w := fun x hx => (h.each x hx).1
theorem Bx.Good.short {b : Bx} {w : World} (h : b.Good w) : ∀ x ∈ b.lists, (x.n : Int) ≤ maxLen := fun x hx => by have := (h.each x hx).2.1; omega

theorem array9 {α : Type} {cs : Array α} (h : cs.size = 9) : ∃ c0 c1 c2 c3 c4 c5 c6 c7 c8, cs = #[c0, c1, c2, c3, c4, c5, c6, c7, c8] := by
  obtain ⟨l⟩ := cs
  match l, h with
  | [c0, c1, c2, c3, c4, c5, c6, c7, c8], _ => exact ⟨c0, c1, c2, c3, c4, c5, c6, c7, c8, rfl⟩

end Go.Proofs.Ytpfgldbmihbiiaa.Book

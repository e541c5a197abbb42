/- Whether two books are the same in all parts, of both. Conditions: at most 1,000,000,000 numbers a list. -/
import Derived.Test.YtgfbfgiohmdjmaaGreatM6
namespace Go.Proofs.YtgfbfgiohmdjmaaGreat.Book
open Go.ChangeShapes Go.WideShapes Go.ChangeAt Go.RowKit
open Aid Lst
set_option maxRecDepth 100000

def eqL (x y : Nat × (Nat → Int)) : Bool := decide (x.1 = y.1 ∧ ∀ j, j < x.1 → x.2 j = y.2 j)
def sameM (x y : Bm) : Bool := eqL x.h0 y.h0 && eqL x.h1 y.h1 && eqL x.h2 y.h2 && eqL x.h3 y.h3 && decide (x.s = y.s) && eqL x.p y.p && eqL x.o y.o && eqL x.i y.i && eqL x.e y.e

theorem ix4 (a0 a1 a2 a3 : Option Addr) (n0 c0 n1 c1 n2 c2 n3 c3 : Nat) : (∀ w : World, (Instr.index 28 (.agg #[.slice a0 n0 c0, .slice a1 n1 c1, .slice a2 n2 c2, .slice a3 n3 c3]) (.int .i64 0)).run Tryz.prog w = .ok (.slice a0 n0 c0) w) ∧
    (∀ w : World, (Instr.index 28 (.agg #[.slice a0 n0 c0, .slice a1 n1 c1, .slice a2 n2 c2, .slice a3 n3 c3]) (.int .i64 1)).run Tryz.prog w = .ok (.slice a1 n1 c1) w) ∧
    (∀ w : World, (Instr.index 28 (.agg #[.slice a0 n0 c0, .slice a1 n1 c1, .slice a2 n2 c2, .slice a3 n3 c3]) (.int .i64 2)).run Tryz.prog w = .ok (.slice a2 n2 c2) w) ∧
    (∀ w : World, (Instr.index 28 (.agg #[.slice a0 n0 c0, .slice a1 n1 c1, .slice a2 n2 c2, .slice a3 n3 c3]) (.int .i64 3)).run Tryz.prog w = .ok (.slice a3 n3 c3) w) :=
  ⟨fun _ => by kernel_rfl, fun _ => by kernel_rfl, fun _ => by kernel_rfl, fun _ => by kernel_rfl⟩

end Go.Proofs.YtgfbfgiohmdjmaaGreat.Book

/- The bounds of a guest's numbers, as the specification tests them. Conditions: none. -/
import Derived.Test.YtgfbfgiohmdjmaaGreatM5
import Derived.Test.YtgfbfgiohmdjmaaGreatGokD
namespace Go.Proofs.YtgfbfgiohmdjmaaGreat.Gs
open Go.ChangeShapes Go.WideShapes Go.ChangeAt Go.RowKit
open Aid Lst Plat
open Book (Sx)
set_option maxRecDepth 100000
set_option linter.unusedVariables false

theorem sfields_any (s p l : Int) (g : Gx) (w : World) (hok : 1 ≤ s ∧ s ≤ 4 ∧ 1 ≤ p ∧ p ≤ 6 ∧ 1 ≤ l ∧ l ≤ 20) :
    Calls Tryz.prog 46 #[.agg #[.int .i64 s, .int .i64 p, .int .i64 l], .agg g.cells.toArray] w fun e w' => e = .returned (.bool (boolOf (Fields s p g))) ∧ Below w.heap.size w w' := by
  by_cases h1 : g.slot < 0
  · exact sfields_A s p l g w hok  (by omega)
  by_cases h2 : s ≤ g.slot
  · exact sfields_A s p l g w hok  (by omega)
  by_cases h3 : g.epoch < 0
  · exact sfields_A s p l g w hok  (by omega)
  by_cases h4 : 4095 < g.epoch
  · exact sfields_A s p l g w hok  (by omega)
  by_cases h5 : g.next < 0
  · exact sfields_B s p l g w hok h1 h2 h3 h4 (by omega)
  by_cases h6 : 4095 < g.next
  · exact sfields_B s p l g w hok h1 h2 h3 h4 (by omega)
  by_cases h7 : g.pc < 0
  · exact sfields_B s p l g w hok h1 h2 h3 h4 (by omega)
  by_cases h8 : 26 < g.pc
  · exact sfields_B s p l g w hok h1 h2 h3 h4 (by omega)
  by_cases h9 : g.seq < 0
  · exact sfields_C s p l g w hok h1 h2 h3 h4 h5 h6 h7 h8 (by omega)
  by_cases h10 : 1000001 < g.seq
  · exact sfields_C s p l g w hok h1 h2 h3 h4 h5 h6 h7 h8 (by omega)
  by_cases h11 : g.who < 0
  · exact sfields_C s p l g w hok h1 h2 h3 h4 h5 h6 h7 h8 (by omega)
  by_cases h12 : 7 < g.who
  · exact sfields_C s p l g w hok h1 h2 h3 h4 h5 h6 h7 h8 (by omega)
  exact sfields_D s p l g w hok h1 h2 h3 h4 h5 h6 h7 h8 h9 h10 h11 h12

end Go.Proofs.YtgfbfgiohmdjmaaGreat.Gs

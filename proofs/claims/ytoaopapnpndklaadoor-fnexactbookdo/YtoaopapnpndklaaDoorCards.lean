/-
  DERIVED. GIVEN WITH THE SEED: THE CARDS: each row of YtoaopapnpndklaaDoorRows.lean that lists a variable, with what it lists TIED to the program's text (the seventh form; the later family's looks); each row that meets fmt, with fmt's text TOLD by the authors' own Lean function (tested against real Go, not proved from fmt's source: count such statements apart). THE CARD IS WHAT COUNTS. Prove the row's statement (the work); the ties are given (YtoaopapnpndklaaDoorTie.lean); close each card by the builder's one call (the guide's Derived/Test/ToyasCard.lean, 'card_holds'). Laid BY PROGRAM, IN A SANDBOX (cutbox-door.mjs). By AI agents, Wed Nov 11 2026. No macro, syntax, notation, axiom, sorry.
-/
import Derived.Test.YtoaopapnpndklaaDoorRows
import GoSem.ClaimSeven
namespace Go.Proofs.YtoaopapnpndklaaDoor
namespace Rows

/-- THE TIED CARD OF 'laws.FnExactBookDo'. -/
def fnExactBookDoCard : Claim7 := { stood := { row := fnExactBookDoRow, standIns := [], harness := (true, "bb0704469dd981f888c5fd79dd184117da3a144f832a4dbefc5f68a2188ba4c1"), looks := true }, kinds := [], alts := [], laidByText := true, laidKinds := [.sentinel, .sentinel, .sentinel, .sentinel, .sentinel, .sentinel, .sentinel, .sentinel, .sentinel, .sentinel, .sentinel, .sentinel], laidTests := true, laidLooks := .later }
def FnExactBookDoCardSaid : Prop := Claim7.holds Tryd.pinned (.plain (OpenSpec.ofChange fnExactBookDoSpec)) fnExactBookDoCard

/-- THE SECOND FORM's CARD OF 'laws.FnExactBookDo'. -/
def fnExactBookDoUptoCard : Claim7 := { stood := { row := fnExactBookDoUptoRow, standIns := [], harness := (true, "bb0704469dd981f888c5fd79dd184117da3a144f832a4dbefc5f68a2188ba4c1"), looks := true }, kinds := [], alts := [], laidByText := true, laidKinds := [.sentinel, .sentinel, .sentinel, .sentinel, .sentinel, .sentinel, .sentinel, .sentinel, .sentinel, .sentinel, .sentinel, .sentinel], laidTests := true, laidLooks := .later }
def FnExactBookDoUptoCardSaid : Prop := Claim7.holds Tryd.pinned (.plain (OpenSpec.upto fnExactBookDoSpec)) fnExactBookDoUptoCard
end Rows
end Go.Proofs.YtoaopapnpndklaaDoor

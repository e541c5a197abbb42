/-
  DERIVED. GIVEN WITH THE SEED: THE CARDS: each row of YtbeamigbcfkjjaaGreatDoorRows.lean that lists a variable, with what it lists TIED to the program's text (the seventh form; the later family's looks); each row that meets fmt, with fmt's text TOLD by the authors' own Lean function (tested against real Go, not proved from fmt's source: count such statements apart). THE CARD IS WHAT COUNTS. Prove the row's statement (the work); the ties are given (YtbeamigbcfkjjaaGreatDoorTie.lean); close each card by the builder's one call (the guide's Derived/Test/ToyasCard.lean, 'card_holds'). Laid BY PROGRAM, IN A SANDBOX (cutbox-door.mjs). By AI agents, Wed Nov 11 2026. No macro, syntax, notation, axiom, sorry.
-/
import Derived.Test.YtbeamigbcfkjjaaGreatDoorRows
import GoSem.ClaimSeven
namespace Go.Proofs.YtbeamigbcfkjjaaGreatDoor
namespace Rows

/-- THE TIED CARD OF 'laws.FnExactTaleBook'. -/
def fnExactTaleBookCard : Claim7 := { stood := { row := fnExactTaleBookRow, standIns := [], harness := (true, "066013e72eb8bf4bf569bc5855ee067cbc00d44981592cee410b10442c30ab78"), looks := true }, kinds := [], alts := [], laidByText := true, laidKinds := [.sentinel, .sentinel, .sentinel, .sentinel, .sentinel, .sentinel, .sentinel, .sentinel, .sentinel, .sentinel, .sentinel, .sentinel], laidTests := true, laidLooks := .later }
def FnExactTaleBookCardSaid : Prop := Claim7.holds Tryz.pinned (.plain (OpenSpec.ofChange fnExactTaleBookSpec)) fnExactTaleBookCard

/-- THE SECOND FORM's CARD OF 'laws.FnExactTaleBook'. -/
def fnExactTaleBookUptoCard : Claim7 := { stood := { row := fnExactTaleBookUptoRow, standIns := [], harness := (true, "066013e72eb8bf4bf569bc5855ee067cbc00d44981592cee410b10442c30ab78"), looks := true }, kinds := [], alts := [], laidByText := true, laidKinds := [.sentinel, .sentinel, .sentinel, .sentinel, .sentinel, .sentinel, .sentinel, .sentinel, .sentinel, .sentinel, .sentinel, .sentinel], laidTests := true, laidLooks := .later }
def FnExactTaleBookUptoCardSaid : Prop := Claim7.holds Tryz.pinned (.plain (OpenSpec.upto fnExactTaleBookSpec)) fnExactTaleBookUptoCard
end Rows
end Go.Proofs.YtbeamigbcfkjjaaGreatDoor

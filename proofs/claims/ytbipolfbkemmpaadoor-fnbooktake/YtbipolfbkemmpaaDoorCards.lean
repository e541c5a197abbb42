/-
  DERIVED. GIVEN WITH THE SEED: THE CARDS: each row of YtbipolfbkemmpaaDoorRows.lean that lists a variable, with what it lists TIED to the program's text (the seventh form; the later family's looks); each row that meets fmt, with fmt's text TOLD by the authors' own Lean function (tested against real Go, not proved from fmt's source: count such statements apart). THE CARD IS WHAT COUNTS. Prove the row's statement (the work); the ties are given (YtbipolfbkemmpaaDoorTie.lean); close each card by the builder's one call (the guide's Derived/Test/ToyasCard.lean, 'card_holds'). Laid BY PROGRAM, IN A SANDBOX (cutbox-door.mjs). By AI agents, Wed Nov 11 2026. No macro, syntax, notation, axiom, sorry.
-/
import Derived.Test.YtbipolfbkemmpaaDoorRows
import GoSem.ClaimSeven
namespace Go.Proofs.YtbipolfbkemmpaaDoor
namespace Rows

/-- THE TIED CARD OF 'laws.FnBookOk'. -/
def fnBookOkCard : Claim7 := { stood := { row := fnBookOkRow, standIns := [], harness := (true, "34d8f095c80fa8f188eb1ce088d1684821b93167cb29a30338ec6169e5547085"), looks := true }, kinds := [], alts := [], laidByText := true, laidKinds := [.sentinel, .sentinel, .sentinel, .sentinel, .sentinel, .sentinel, .sentinel, .sentinel, .sentinel, .sentinel, .sentinel, .sentinel], laidTests := true, laidLooks := .later }
def FnBookOkCardSaid : Prop := Claim7.holds Tryd.pinned (.plain (OpenSpec.ofChange fnBookOkSpec)) fnBookOkCard

/-- THE TIED CARD OF 'laws.FnBookTake'. -/
def fnBookTakeCard : Claim7 := { stood := { row := fnBookTakeRow, standIns := [], harness := (true, "34d8f095c80fa8f188eb1ce088d1684821b93167cb29a30338ec6169e5547085"), looks := true }, kinds := [], alts := [], laidByText := true, laidKinds := [.sentinel, .sentinel, .sentinel, .sentinel, .sentinel, .sentinel, .sentinel, .sentinel, .sentinel, .sentinel, .sentinel, .sentinel], laidTests := true, laidLooks := .later }
def FnBookTakeCardSaid : Prop := Claim7.holds Tryd.pinned (.plain (OpenSpec.ofChange fnBookTakeSpec)) fnBookTakeCard

/-- THE TIED CARD OF 'laws.FnBookReap'. -/
def fnBookReapCard : Claim7 := { stood := { row := fnBookReapRow, standIns := [], harness := (true, "34d8f095c80fa8f188eb1ce088d1684821b93167cb29a30338ec6169e5547085"), looks := true }, kinds := [], alts := [], laidByText := true, laidKinds := [.sentinel, .sentinel, .sentinel, .sentinel, .sentinel, .sentinel, .sentinel, .sentinel, .sentinel, .sentinel, .sentinel, .sentinel], laidTests := true, laidLooks := .later }
def FnBookReapCardSaid : Prop := Claim7.holds Tryd.pinned (.plain (OpenSpec.ofChange fnBookReapSpec)) fnBookReapCard

/-- THE TIED CARD OF 'laws.FnBookFull'. -/
def fnBookFullCard : Claim7 := { stood := { row := fnBookFullRow, standIns := [], harness := (true, "34d8f095c80fa8f188eb1ce088d1684821b93167cb29a30338ec6169e5547085"), looks := true }, kinds := [], alts := [], laidByText := true, laidKinds := [.sentinel, .sentinel, .sentinel, .sentinel, .sentinel, .sentinel, .sentinel, .sentinel, .sentinel, .sentinel, .sentinel, .sentinel], laidTests := true, laidLooks := .later }
def FnBookFullCardSaid : Prop := Claim7.holds Tryd.pinned (.plain (OpenSpec.ofChange fnBookFullSpec)) fnBookFullCard

/-- THE TIED CARD OF 'laws.FnBookHand'. -/
def fnBookHandCard : Claim7 := { stood := { row := fnBookHandRow, standIns := [], harness := (true, "34d8f095c80fa8f188eb1ce088d1684821b93167cb29a30338ec6169e5547085"), looks := true }, kinds := [], alts := [], laidByText := true, laidKinds := [.sentinel, .sentinel, .sentinel, .sentinel, .sentinel, .sentinel, .sentinel, .sentinel, .sentinel, .sentinel, .sentinel, .sentinel], laidTests := true, laidLooks := .later }
def FnBookHandCardSaid : Prop := Claim7.holds Tryd.pinned (.plain (OpenSpec.ofChange fnBookHandSpec)) fnBookHandCard

/-- THE TIED CARD OF 'laws.FnBookCut'. -/
def fnBookCutCard : Claim7 := { stood := { row := fnBookCutRow, standIns := [], harness := (true, "34d8f095c80fa8f188eb1ce088d1684821b93167cb29a30338ec6169e5547085"), looks := true }, kinds := [], alts := [], laidByText := true, laidKinds := [.sentinel, .sentinel, .sentinel, .sentinel, .sentinel, .sentinel, .sentinel, .sentinel, .sentinel, .sentinel, .sentinel, .sentinel], laidTests := true, laidLooks := .later }
def FnBookCutCardSaid : Prop := Claim7.holds Tryd.pinned (.plain (OpenSpec.ofChange fnBookCutSpec)) fnBookCutCard

/-- THE TIED CARD OF 'laws.FnBookLast'. -/
def fnBookLastCard : Claim7 := { stood := { row := fnBookLastRow, standIns := [], harness := (true, "34d8f095c80fa8f188eb1ce088d1684821b93167cb29a30338ec6169e5547085"), looks := true }, kinds := [], alts := [], laidByText := true, laidKinds := [.sentinel, .sentinel, .sentinel, .sentinel, .sentinel, .sentinel, .sentinel, .sentinel, .sentinel, .sentinel, .sentinel, .sentinel], laidTests := true, laidLooks := .later }
def FnBookLastCardSaid : Prop := Claim7.holds Tryd.pinned (.plain (OpenSpec.ofChange fnBookLastSpec)) fnBookLastCard

/-- THE SECOND FORM's CARD OF 'laws.FnBookOk'. -/
def fnBookOkUptoCard : Claim7 := { stood := { row := fnBookOkUptoRow, standIns := [], harness := (true, "34d8f095c80fa8f188eb1ce088d1684821b93167cb29a30338ec6169e5547085"), looks := true }, kinds := [], alts := [], laidByText := true, laidKinds := [.sentinel, .sentinel, .sentinel, .sentinel, .sentinel, .sentinel, .sentinel, .sentinel, .sentinel, .sentinel, .sentinel, .sentinel], laidTests := true, laidLooks := .later }
def FnBookOkUptoCardSaid : Prop := Claim7.holds Tryd.pinned (.plain (OpenSpec.upto fnBookOkSpec)) fnBookOkUptoCard

/-- THE SECOND FORM's CARD OF 'laws.FnBookTake'. -/
def fnBookTakeUptoCard : Claim7 := { stood := { row := fnBookTakeUptoRow, standIns := [], harness := (true, "34d8f095c80fa8f188eb1ce088d1684821b93167cb29a30338ec6169e5547085"), looks := true }, kinds := [], alts := [], laidByText := true, laidKinds := [.sentinel, .sentinel, .sentinel, .sentinel, .sentinel, .sentinel, .sentinel, .sentinel, .sentinel, .sentinel, .sentinel, .sentinel], laidTests := true, laidLooks := .later }
def FnBookTakeUptoCardSaid : Prop := Claim7.holds Tryd.pinned (.plain (OpenSpec.upto fnBookTakeSpec)) fnBookTakeUptoCard

/-- THE SECOND FORM's CARD OF 'laws.FnBookReap'. -/
def fnBookReapUptoCard : Claim7 := { stood := { row := fnBookReapUptoRow, standIns := [], harness := (true, "34d8f095c80fa8f188eb1ce088d1684821b93167cb29a30338ec6169e5547085"), looks := true }, kinds := [], alts := [], laidByText := true, laidKinds := [.sentinel, .sentinel, .sentinel, .sentinel, .sentinel, .sentinel, .sentinel, .sentinel, .sentinel, .sentinel, .sentinel, .sentinel], laidTests := true, laidLooks := .later }
def FnBookReapUptoCardSaid : Prop := Claim7.holds Tryd.pinned (.plain (OpenSpec.upto fnBookReapSpec)) fnBookReapUptoCard

/-- THE SECOND FORM's CARD OF 'laws.FnBookFull'. -/
def fnBookFullUptoCard : Claim7 := { stood := { row := fnBookFullUptoRow, standIns := [], harness := (true, "34d8f095c80fa8f188eb1ce088d1684821b93167cb29a30338ec6169e5547085"), looks := true }, kinds := [], alts := [], laidByText := true, laidKinds := [.sentinel, .sentinel, .sentinel, .sentinel, .sentinel, .sentinel, .sentinel, .sentinel, .sentinel, .sentinel, .sentinel, .sentinel], laidTests := true, laidLooks := .later }
def FnBookFullUptoCardSaid : Prop := Claim7.holds Tryd.pinned (.plain (OpenSpec.upto fnBookFullSpec)) fnBookFullUptoCard

/-- THE SECOND FORM's CARD OF 'laws.FnBookHand'. -/
def fnBookHandUptoCard : Claim7 := { stood := { row := fnBookHandUptoRow, standIns := [], harness := (true, "34d8f095c80fa8f188eb1ce088d1684821b93167cb29a30338ec6169e5547085"), looks := true }, kinds := [], alts := [], laidByText := true, laidKinds := [.sentinel, .sentinel, .sentinel, .sentinel, .sentinel, .sentinel, .sentinel, .sentinel, .sentinel, .sentinel, .sentinel, .sentinel], laidTests := true, laidLooks := .later }
def FnBookHandUptoCardSaid : Prop := Claim7.holds Tryd.pinned (.plain (OpenSpec.upto fnBookHandSpec)) fnBookHandUptoCard

/-- THE SECOND FORM's CARD OF 'laws.FnBookCut'. -/
def fnBookCutUptoCard : Claim7 := { stood := { row := fnBookCutUptoRow, standIns := [], harness := (true, "34d8f095c80fa8f188eb1ce088d1684821b93167cb29a30338ec6169e5547085"), looks := true }, kinds := [], alts := [], laidByText := true, laidKinds := [.sentinel, .sentinel, .sentinel, .sentinel, .sentinel, .sentinel, .sentinel, .sentinel, .sentinel, .sentinel, .sentinel, .sentinel], laidTests := true, laidLooks := .later }
def FnBookCutUptoCardSaid : Prop := Claim7.holds Tryd.pinned (.plain (OpenSpec.upto fnBookCutSpec)) fnBookCutUptoCard

/-- THE SECOND FORM's CARD OF 'laws.FnBookLast'. -/
def fnBookLastUptoCard : Claim7 := { stood := { row := fnBookLastUptoRow, standIns := [], harness := (true, "34d8f095c80fa8f188eb1ce088d1684821b93167cb29a30338ec6169e5547085"), looks := true }, kinds := [], alts := [], laidByText := true, laidKinds := [.sentinel, .sentinel, .sentinel, .sentinel, .sentinel, .sentinel, .sentinel, .sentinel, .sentinel, .sentinel, .sentinel, .sentinel], laidTests := true, laidLooks := .later }
def FnBookLastUptoCardSaid : Prop := Claim7.holds Tryd.pinned (.plain (OpenSpec.upto fnBookLastSpec)) fnBookLastUptoCard
end Rows
end Go.Proofs.YtbipolfbkemmpaaDoor

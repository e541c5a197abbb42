/-
  NARROWER THAN 'FOR EVERY INPUT', by the rows' own cells (each row's printed sentence says how): FnExactTaleBook: ifaces, laid.
  DERIVED. THE GIVEN ROWS OF THIS SEAT. 1 by the template 'for every input the law returns true; each argument reads behind the call as it read before'; 0 by the template 'total and deterministic' (their statements: YtbeamigbcfkjjaaGreatDoorTotals.lean).
  GIVEN WITH THE SEED: the statements are not yours to turn. If you find one false, say at which input.
  Laid BY PROGRAM, IN A SANDBOX (cutbox-rows.mjs): the forced cells as the released guide's own fill.sh prints them over the translation cb41a2f8c2ea00ad… (all of the seat's roots in one cut). By AI agents, Wed Nov 11 2026. No macro, syntax, notation, axiom, sorry.
-/
import Derived.Test.YtbeamigbcfkjjaaGreatDoorChecked
import GoSem.Claim
import GoSem.ClaimJoined
import GoSem.ClaimMapViews
import Derived.JoinedTies
import Derived.KernelRfl
namespace Go.Proofs.YtbeamigbcfkjjaaGreatDoor
/- THE CELL 'sum', in the pinned program and in every row, IS THE sha256 OF THE DUMP (.gsa) THAT YtbeamigbcfkjjaaGreatDoorProg.lean LOADS. Nothing in Lean hashes anything: it is a label: what it is worth is what the hold of that sum in a sandbox is worth. -/
noncomputable def Tryz.pinned : Pinned := { name := "ytbeamigbcfkjjaagreatdoor", sum := "cb41a2f8c2ea00ad187eb650cf2ea915c09fddf21fc93d079564d47d774120e1", checked := Tryz.checked }
namespace Rows
def none {H : Type} : Left H := { results := [], args := [] }

/- WHAT THE LISTED PACKAGE-LEVEL VARIABLES READ AS WHEN THE CALL BEGINS. Each datum BY PROGRAM (the guide's laid-datum.mjs) off the statement by which the dump's own 'gosem.cut.vars' lays the variable. In a bare row this is a premise. The card (YtbeamigbcfkjjaaGreatDoorCards.lean) ties it to the program's text. -/
def laid_loop_example_hostel_impl_errBookSize {H : Type} : DataW H := .iface "*errors.errorString" (.ptr (.agg [.lit (.string [110, 111, 32, 114, 111, 111, 109, 32, 104, 97, 115, 32, 115, 111, 32, 109, 97, 110, 121, 32, 117, 110, 105, 116, 115])]))
def laid_loop_example_hostel_impl_errBookFull {H : Type} : DataW H := .iface "*errors.errorString" (.ptr (.agg [.lit (.string [110, 111, 32, 114, 111, 111, 109, 32, 105, 115, 32, 102, 114, 101, 101])]))
def laid_loop_example_hostel_impl_errBookWhere {H : Type} : DataW H := .iface "*errors.errorString" (.ptr (.agg [.lit (.string [110, 111, 32, 114, 111, 111, 109, 32, 116, 104, 97, 116, 32, 115, 111, 109, 101, 98, 111, 100, 121, 32, 104, 97, 115, 32, 98, 101, 103, 105, 110, 115, 32, 116, 104, 101, 114, 101])]))
def laid_loop_example_hostel_impl_errBookWhose {H : Type} : DataW H := .iface "*errors.errorString" (.ptr (.agg [.lit (.string [116, 104, 101, 32, 114, 111, 111, 109, 32, 105, 115, 32, 115, 111, 109, 101, 98, 111, 100, 121, 32, 101, 108, 115, 101, 39, 115])]))
def laid_loop_example_hostel_impl_errBookWhom {H : Type} : DataW H := .iface "*errors.errorString" (.ptr (.agg [.lit (.string [110, 111, 98, 111, 100, 121, 32, 105, 115, 32, 116, 104, 101, 114, 101, 32, 116, 111, 32, 98, 101, 32, 104, 97, 110, 100, 101, 100, 32, 97, 32, 114, 111, 111, 109])]))
def laid_loop_example_hostel_impl_errBookTaken {H : Type} : DataW H := .iface "*errors.errorString" (.ptr (.agg [.lit (.string [115, 111, 109, 101, 98, 111, 100, 121, 32, 105, 115, 32, 105, 110, 32, 97, 116, 32, 116, 104, 101, 32, 115, 108, 111, 116])]))
def laid_loop_example_hostel_impl_errBookKeeps {H : Type} : DataW H := .iface "*errors.errorString" (.ptr (.agg [.lit (.string [119, 104, 111, 32, 108, 101, 97, 118, 101, 115, 32, 104, 97, 115, 32, 97, 32, 114, 111, 111, 109])]))
def laid_loop_example_hostel_impl_errBookLives {H : Type} : DataW H := .iface "*errors.errorString" (.ptr (.agg [.lit (.string [119, 104, 111, 32, 105, 115, 32, 116, 111, 32, 98, 101, 32, 114, 101, 97, 112, 101, 100, 32, 119, 97, 115, 32, 110, 111, 116, 32, 99, 117, 116, 32, 111, 102, 102])]))
def laid_loop_example_hostel_impl_errBookNobody {H : Type} : DataW H := .iface "*errors.errorString" (.ptr (.agg [.lit (.string [110, 111, 98, 111, 100, 121, 32, 105, 115, 32, 105, 110, 32, 97, 116, 32, 116, 104, 101, 32, 115, 108, 111, 116])]))
def laid_loop_example_hostel_impl_errBookMore {H : Type} : DataW H := .iface "*errors.errorString" (.ptr (.agg [.lit (.string [97, 32, 114, 111, 111, 109, 32, 119, 97, 115, 32, 103, 105, 118, 101, 110, 32, 98, 97, 99, 107, 44, 32, 97, 110, 100, 32, 116, 104, 101, 114, 101, 32, 109, 97, 121, 32, 98, 101, 32, 109, 111, 114, 101])]))
def laid_loop_example_hostel_impl_errBookWorn {H : Type} : DataW H := .iface "*errors.errorString" (.ptr (.agg [.lit (.string [116, 104, 101, 32, 115, 108, 111, 116, 32, 104, 97, 100, 32, 105, 116, 115, 32, 108, 97, 115, 116, 32, 101, 112, 111, 99, 104])]))
def laid_loop_example_hostel_impl_errBookNone {H : Type} : DataW H := .iface "*errors.errorString" (.ptr (.agg [.lit (.string [116, 104, 101, 114, 101, 32, 105, 115, 32, 110, 111, 32, 115, 117, 99, 104, 32, 115, 108, 111, 116, 32, 111, 114, 32, 99, 97, 108, 108])]))

/-- 'laws.FnExactTaleBook': WHATEVER THE INPUT: true; the input reads as it did. -/
def fnExactTaleBookSpec : ChangeSpec := { name := "fnExactTaleBook", vars := ["loop.example/hostel/impl.errBookNone", "loop.example/hostel/impl.errBookNobody", "loop.example/hostel/impl.errBookTaken", "loop.example/hostel/impl.errBookWorn", "loop.example/hostel/impl.errBookSize", "loop.example/hostel/impl.errBookFull", "loop.example/hostel/impl.errBookWhere", "loop.example/hostel/impl.errBookWhose", "loop.example/hostel/impl.errBookWhom", "loop.example/hostel/impl.errBookKeeps", "loop.example/hostel/impl.errBookLives", "loop.example/hostel/impl.errBookMore"], fn := fun _ => fun
  | [d1, d2, g1, g2, g3, g4, g5, g6, g7, g8, g9, g10, g11, g12] => { results := [.lit (.bool true)], args := [d1, d2], vars := [g1, g2, g3, g4, g5, g6, g7, g8, g9, g10, g11, g12] }
  | _ => none }
def fnExactTaleBookRow : OpenClaim := { program := "ytbeamigbcfkjjaagreatdoor", sum := "cb41a2f8c2ea00ad187eb650cf2ea915c09fddf21fc93d079564d47d774120e1", func := "loop.example/hostel/laws.FnExactTaleBook", spec := "fnExactTaleBook", inPlace := ["internal/reflectlite.TypeOf"], unfollowed := true, recurses := true, named := ["loop.example/hostel/impl.errBookNone", "loop.example/hostel/impl.errBookNobody", "loop.example/hostel/impl.errBookTaken", "loop.example/hostel/impl.errBookWorn", "loop.example/hostel/impl.errBookSize", "loop.example/hostel/impl.errBookFull", "loop.example/hostel/impl.errBookWhere", "loop.example/hostel/impl.errBookWhose", "loop.example/hostel/impl.errBookWhom", "loop.example/hostel/impl.errBookKeeps", "loop.example/hostel/impl.errBookLives", "loop.example/hostel/impl.errBookMore"], ifaces := true, apart := false, laid := [("loop.example/hostel/impl.errBookSize", laid_loop_example_hostel_impl_errBookSize), ("loop.example/hostel/impl.errBookFull", laid_loop_example_hostel_impl_errBookFull), ("loop.example/hostel/impl.errBookWhere", laid_loop_example_hostel_impl_errBookWhere), ("loop.example/hostel/impl.errBookWhose", laid_loop_example_hostel_impl_errBookWhose), ("loop.example/hostel/impl.errBookWhom", laid_loop_example_hostel_impl_errBookWhom), ("loop.example/hostel/impl.errBookTaken", laid_loop_example_hostel_impl_errBookTaken), ("loop.example/hostel/impl.errBookKeeps", laid_loop_example_hostel_impl_errBookKeeps), ("loop.example/hostel/impl.errBookLives", laid_loop_example_hostel_impl_errBookLives), ("loop.example/hostel/impl.errBookNobody", laid_loop_example_hostel_impl_errBookNobody), ("loop.example/hostel/impl.errBookMore", laid_loop_example_hostel_impl_errBookMore), ("loop.example/hostel/impl.errBookWorn", laid_loop_example_hostel_impl_errBookWorn), ("loop.example/hostel/impl.errBookNone", laid_loop_example_hostel_impl_errBookNone)] }
def FnExactTaleBookSaid : Prop := fnExactTaleBookRow.holds Tryz.pinned (OpenSpec.ofChange fnExactTaleBookSpec)

/-- ITS FALSE NEIGHBOUR: 'it returns false'. Refute it at one input. -/
def fnExactTaleBookWrong : ChangeSpec := { name := "fnExactTaleBook", vars := ["loop.example/hostel/impl.errBookNone", "loop.example/hostel/impl.errBookNobody", "loop.example/hostel/impl.errBookTaken", "loop.example/hostel/impl.errBookWorn", "loop.example/hostel/impl.errBookSize", "loop.example/hostel/impl.errBookFull", "loop.example/hostel/impl.errBookWhere", "loop.example/hostel/impl.errBookWhose", "loop.example/hostel/impl.errBookWhom", "loop.example/hostel/impl.errBookKeeps", "loop.example/hostel/impl.errBookLives", "loop.example/hostel/impl.errBookMore"], fn := fun _ => fun
  | [d1, d2, g1, g2, g3, g4, g5, g6, g7, g8, g9, g10, g11, g12] => { results := [.lit (.bool false)], args := [d1, d2], vars := [g1, g2, g3, g4, g5, g6, g7, g8, g9, g10, g11, g12] }
  | _ => none }
def FnExactTaleBookWrongFalsely : Prop := fnExactTaleBookRow.holds Tryz.pinned (OpenSpec.ofChange fnExactTaleBookWrong)

/- THE SECOND FORM. 'bulk': how many values and letters a reading holds, each counted each time it is reached (what is shared counts as often as it is met; a slice's spare places count too). A statement '..UptoSaid' is the law's where the arguments, and the package variables that the reading takes, are together of bulk at most 1048576: NARROWER than '..Said'. Prove '..Said' where nothing that the law and all that it calls make is longer than what came in: it says more and counts as full. Else prove '..UptoSaid'. A law counts once. -/
mutual
def uptoBulk {H : Type} : DataW H → Nat
  | .lit (.string bytes) => bytes.length + 1
  | .lit _ => 1
  | .nil => 1
  | .ptr d => uptoBulk d + 1
  | .slice elems spare => uptoBulkAll elems + uptoBulkAll spare + 1
  | .agg parts => uptoBulkAll parts + 1
  | .iface _ d => uptoBulk d + 1
  | .map entries => uptoBulkEntries entries + 1
  | .held _ => 1
def uptoBulkAll {H : Type} : List (DataW H) → Nat
  | [] => 0
  | d :: r => uptoBulk d + uptoBulkAll r
def uptoBulkEntries {H : Type} : List (Lit × DataW H) → Nat
  | [] => 0
  | x :: r => uptoBulkEntry x + uptoBulkEntries r
def uptoBulkEntry {H : Type} : Lit × DataW H → Nat
  | (.string bytes, d) => bytes.length + uptoBulk d + 1
  | (_, d) => uptoBulk d + 1
 end
def uptoSmall : (H : Type) → List (DataW H) → Bool := fun _ ds => decide (uptoBulkAll ds ≤ 1048576)
def OpenSpec.upto (s : _root_.Go.ChangeSpec) : _root_.Go.OpenSpec := { _root_.Go.OpenSpec.ofChange s with cond := some uptoSmall }

/-- 'laws.FnExactTaleBook', WHERE WHAT IT READS IS OF BULK AT MOST 1048576: true; the input reads as it did. -/
def fnExactTaleBookUptoRow : OpenClaim := { program := "ytbeamigbcfkjjaagreatdoor", sum := "cb41a2f8c2ea00ad187eb650cf2ea915c09fddf21fc93d079564d47d774120e1", func := "loop.example/hostel/laws.FnExactTaleBook", spec := "fnExactTaleBook", inPlace := ["internal/reflectlite.TypeOf"], unfollowed := true, recurses := true, named := ["loop.example/hostel/impl.errBookNone", "loop.example/hostel/impl.errBookNobody", "loop.example/hostel/impl.errBookTaken", "loop.example/hostel/impl.errBookWorn", "loop.example/hostel/impl.errBookSize", "loop.example/hostel/impl.errBookFull", "loop.example/hostel/impl.errBookWhere", "loop.example/hostel/impl.errBookWhose", "loop.example/hostel/impl.errBookWhom", "loop.example/hostel/impl.errBookKeeps", "loop.example/hostel/impl.errBookLives", "loop.example/hostel/impl.errBookMore"], ifaces := true, apart := false, laid := [("loop.example/hostel/impl.errBookSize", laid_loop_example_hostel_impl_errBookSize), ("loop.example/hostel/impl.errBookFull", laid_loop_example_hostel_impl_errBookFull), ("loop.example/hostel/impl.errBookWhere", laid_loop_example_hostel_impl_errBookWhere), ("loop.example/hostel/impl.errBookWhose", laid_loop_example_hostel_impl_errBookWhose), ("loop.example/hostel/impl.errBookWhom", laid_loop_example_hostel_impl_errBookWhom), ("loop.example/hostel/impl.errBookTaken", laid_loop_example_hostel_impl_errBookTaken), ("loop.example/hostel/impl.errBookKeeps", laid_loop_example_hostel_impl_errBookKeeps), ("loop.example/hostel/impl.errBookLives", laid_loop_example_hostel_impl_errBookLives), ("loop.example/hostel/impl.errBookNobody", laid_loop_example_hostel_impl_errBookNobody), ("loop.example/hostel/impl.errBookMore", laid_loop_example_hostel_impl_errBookMore), ("loop.example/hostel/impl.errBookWorn", laid_loop_example_hostel_impl_errBookWorn), ("loop.example/hostel/impl.errBookNone", laid_loop_example_hostel_impl_errBookNone)], narrowed := true }
def FnExactTaleBookUptoSaid : Prop := fnExactTaleBookUptoRow.holds Tryz.pinned (OpenSpec.upto fnExactTaleBookSpec)

end Rows
end Go.Proofs.YtbeamigbcfkjjaaGreatDoor

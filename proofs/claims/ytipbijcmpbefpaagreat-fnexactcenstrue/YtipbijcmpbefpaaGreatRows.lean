/-
  No cell of these rows narrows 'for every input' (looked for: loops, veiled, ifaces, maps, wideKeys, modest, calm, conditions, laid).
  DERIVED. THE GIVEN ROWS OF THIS SEAT. 4 by the template 'for every input the law returns true; each argument reads behind the call as it read before'; 0 by the template 'total and deterministic' (their statements: YtipbijcmpbefpaaGreatTotals.lean).
  GIVEN WITH THE SEED: the statements are not yours to turn. If you find one false, say at which input.
  Laid BY PROGRAM, IN A SANDBOX (cutbox-rows.mjs): the forced cells as the released guide's own fill.sh prints them over the translation ecc621e388cad7f9… (all of the seat's roots in one cut). By AI agents, Wed Nov 11 2026. No macro, syntax, notation, axiom, sorry.
-/
import Derived.Test.YtipbijcmpbefpaaGreatChecked
import GoSem.Claim
import GoSem.ClaimJoined
import GoSem.ClaimMapViews
import Derived.JoinedTies
import Derived.KernelRfl
namespace Go.Proofs.YtipbijcmpbefpaaGreat
/- THE CELL 'sum', in the pinned program and in every row, IS THE sha256 OF THE DUMP (.gsa) THAT YtipbijcmpbefpaaGreatProg.lean LOADS. Nothing in Lean hashes anything: it is a label: what it is worth is what the hold of that sum in a sandbox is worth. -/
noncomputable def Tryz.pinned : Pinned := { name := "ytipbijcmpbefpaagreat", sum := "ecc621e388cad7f914bc903b5f5968d91327534b0816018ea6e4b1f2ced49ad0", checked := Tryz.checked }
namespace Rows
def none {H : Type} : Left H := { results := [], args := [] }

/-- 'laws.FnCensBack': WHATEVER THE INPUT: true; the input reads as it did. -/
def fnCensBackSpec : ChangeSpec := { name := "fnCensBack", fn := fun _ => fun
  | [d1, d2] => { results := [.lit (.bool true)], args := [d1, d2] }
  | _ => none }
def fnCensBackRow : OpenClaim := { program := "ytipbijcmpbefpaagreat", sum := "ecc621e388cad7f914bc903b5f5968d91327534b0816018ea6e4b1f2ced49ad0", func := "loop.example/hostel/laws.FnCensBack", spec := "fnCensBack", unfollowed := true, recurses := true, apart := false }
def FnCensBackSaid : Prop := fnCensBackRow.holds Tryz.pinned (OpenSpec.ofChange fnCensBackSpec)

/-- ITS FALSE NEIGHBOUR: 'it returns false'. Refute it at one input. -/
def fnCensBackWrong : ChangeSpec := { name := "fnCensBack", fn := fun _ => fun
  | [d1, d2] => { results := [.lit (.bool false)], args := [d1, d2] }
  | _ => none }
def FnCensBackWrongFalsely : Prop := fnCensBackRow.holds Tryz.pinned (OpenSpec.ofChange fnCensBackWrong)

/-- 'laws.FnCensDone': WHATEVER THE INPUT: true; the input reads as it did. -/
def fnCensDoneSpec : ChangeSpec := { name := "fnCensDone", fn := fun _ => fun
  | [d1, d2] => { results := [.lit (.bool true)], args := [d1, d2] }
  | _ => none }
def fnCensDoneRow : OpenClaim := { program := "ytipbijcmpbefpaagreat", sum := "ecc621e388cad7f914bc903b5f5968d91327534b0816018ea6e4b1f2ced49ad0", func := "loop.example/hostel/laws.FnCensDone", spec := "fnCensDone", unfollowed := true, recurses := true, apart := false }
def FnCensDoneSaid : Prop := fnCensDoneRow.holds Tryz.pinned (OpenSpec.ofChange fnCensDoneSpec)

/-- ITS FALSE NEIGHBOUR: 'it returns false'. Refute it at one input. -/
def fnCensDoneWrong : ChangeSpec := { name := "fnCensDone", fn := fun _ => fun
  | [d1, d2] => { results := [.lit (.bool false)], args := [d1, d2] }
  | _ => none }
def FnCensDoneWrongFalsely : Prop := fnCensDoneRow.holds Tryz.pinned (OpenSpec.ofChange fnCensDoneWrong)

/-- 'laws.FnCensOne': WHATEVER THE INPUT: true; the input reads as it did. -/
def fnCensOneSpec : ChangeSpec := { name := "fnCensOne", fn := fun _ => fun
  | [d1, d2] => { results := [.lit (.bool true)], args := [d1, d2] }
  | _ => none }
def fnCensOneRow : OpenClaim := { program := "ytipbijcmpbefpaagreat", sum := "ecc621e388cad7f914bc903b5f5968d91327534b0816018ea6e4b1f2ced49ad0", func := "loop.example/hostel/laws.FnCensOne", spec := "fnCensOne", unfollowed := true, recurses := true, apart := false }
def FnCensOneSaid : Prop := fnCensOneRow.holds Tryz.pinned (OpenSpec.ofChange fnCensOneSpec)

/-- ITS FALSE NEIGHBOUR: 'it returns false'. Refute it at one input. -/
def fnCensOneWrong : ChangeSpec := { name := "fnCensOne", fn := fun _ => fun
  | [d1, d2] => { results := [.lit (.bool false)], args := [d1, d2] }
  | _ => none }
def FnCensOneWrongFalsely : Prop := fnCensOneRow.holds Tryz.pinned (OpenSpec.ofChange fnCensOneWrong)

/-- 'laws.FnExactCensTrue': WHATEVER THE INPUT: true; the input reads as it did. -/
def fnExactCensTrueSpec : ChangeSpec := { name := "fnExactCensTrue", fn := fun _ => fun
  | [d] => { results := [.lit (.bool true)], args := [d] }
  | _ => none }
def fnExactCensTrueRow : OpenClaim := { program := "ytipbijcmpbefpaagreat", sum := "ecc621e388cad7f914bc903b5f5968d91327534b0816018ea6e4b1f2ced49ad0", func := "loop.example/hostel/laws.FnExactCensTrue", spec := "fnExactCensTrue", unfollowed := true, recurses := true, apart := false }
def FnExactCensTrueSaid : Prop := fnExactCensTrueRow.holds Tryz.pinned (OpenSpec.ofChange fnExactCensTrueSpec)

/-- ITS FALSE NEIGHBOUR: 'it returns false'. Refute it at one input. -/
def fnExactCensTrueWrong : ChangeSpec := { name := "fnExactCensTrue", fn := fun _ => fun
  | [d] => { results := [.lit (.bool false)], args := [d] }
  | _ => none }
def FnExactCensTrueWrongFalsely : Prop := fnExactCensTrueRow.holds Tryz.pinned (OpenSpec.ofChange fnExactCensTrueWrong)

/- THE SECOND FORM. 'bulk': how many values and letters a reading holds, each counted each time it is reached (what is shared counts as often as it is met; a slice's spare places count too). A statement '..UptoSaid' is the law's where the arguments, and the package variables that the reading takes, are together of bulk at most 1048576: NARROWER than '..Said'. Prove '..Said' where nothing that the law and all that it calls make is longer than what came in: it says more and counts as full. Else prove '..UptoSaid'. A law counts once. -/
mutual
def uptoBulk {H : Type} : DataW H → Nat
  | .lit (.string bytes) => bytes.length + 1
  | .lit _ => 1
  | .nil => 1
  | .ptr d => uptoBulk d + 1
  | .slice elems spare => uptoBulkAll elems + uptoBulkAll spare + 1
  | .agg parts => uptoBulkAll parts + 1
  | .iface _ d => uptoBulk d + 1
  | .map entries => uptoBulkEntries entries + 1
  | .held _ => 1
def uptoBulkAll {H : Type} : List (DataW H) → Nat
  | [] => 0
  | d :: r => uptoBulk d + uptoBulkAll r
def uptoBulkEntries {H : Type} : List (Lit × DataW H) → Nat
  | [] => 0
  | x :: r => uptoBulkEntry x + uptoBulkEntries r
def uptoBulkEntry {H : Type} : Lit × DataW H → Nat
  | (.string bytes, d) => bytes.length + uptoBulk d + 1
  | (_, d) => uptoBulk d + 1
 end
def uptoSmall : (H : Type) → List (DataW H) → Bool := fun _ ds => decide (uptoBulkAll ds ≤ 1048576)
def OpenSpec.upto (s : _root_.Go.ChangeSpec) : _root_.Go.OpenSpec := { _root_.Go.OpenSpec.ofChange s with cond := some uptoSmall }

/-- 'laws.FnCensBack', WHERE WHAT IT READS IS OF BULK AT MOST 1048576: true; the input reads as it did. -/
def fnCensBackUptoRow : OpenClaim := { program := "ytipbijcmpbefpaagreat", sum := "ecc621e388cad7f914bc903b5f5968d91327534b0816018ea6e4b1f2ced49ad0", func := "loop.example/hostel/laws.FnCensBack", spec := "fnCensBack", unfollowed := true, recurses := true, apart := false, narrowed := true }
def FnCensBackUptoSaid : Prop := fnCensBackUptoRow.holds Tryz.pinned (OpenSpec.upto fnCensBackSpec)

/-- 'laws.FnCensDone', WHERE WHAT IT READS IS OF BULK AT MOST 1048576: true; the input reads as it did. -/
def fnCensDoneUptoRow : OpenClaim := { program := "ytipbijcmpbefpaagreat", sum := "ecc621e388cad7f914bc903b5f5968d91327534b0816018ea6e4b1f2ced49ad0", func := "loop.example/hostel/laws.FnCensDone", spec := "fnCensDone", unfollowed := true, recurses := true, apart := false, narrowed := true }
def FnCensDoneUptoSaid : Prop := fnCensDoneUptoRow.holds Tryz.pinned (OpenSpec.upto fnCensDoneSpec)

/-- 'laws.FnCensOne', WHERE WHAT IT READS IS OF BULK AT MOST 1048576: true; the input reads as it did. -/
def fnCensOneUptoRow : OpenClaim := { program := "ytipbijcmpbefpaagreat", sum := "ecc621e388cad7f914bc903b5f5968d91327534b0816018ea6e4b1f2ced49ad0", func := "loop.example/hostel/laws.FnCensOne", spec := "fnCensOne", unfollowed := true, recurses := true, apart := false, narrowed := true }
def FnCensOneUptoSaid : Prop := fnCensOneUptoRow.holds Tryz.pinned (OpenSpec.upto fnCensOneSpec)

/-- 'laws.FnExactCensTrue', WHERE WHAT IT READS IS OF BULK AT MOST 1048576: true; the input reads as it did. -/
def fnExactCensTrueUptoRow : OpenClaim := { program := "ytipbijcmpbefpaagreat", sum := "ecc621e388cad7f914bc903b5f5968d91327534b0816018ea6e4b1f2ced49ad0", func := "loop.example/hostel/laws.FnExactCensTrue", spec := "fnExactCensTrue", unfollowed := true, recurses := true, apart := false, narrowed := true }
def FnExactCensTrueUptoSaid : Prop := fnExactCensTrueUptoRow.holds Tryz.pinned (OpenSpec.upto fnExactCensTrueSpec)

end Rows
end Go.Proofs.YtipbijcmpbefpaaGreat

/-
  No cell of these rows narrows 'for every input' (looked for: loops, veiled, ifaces, maps, wideKeys, modest, calm, conditions, laid).
  DERIVED. THE GIVEN ROWS OF THIS SEAT. 4 by the template 'for every input the law returns true; each argument reads behind the call as it read before'; 0 by the template 'total and deterministic' (their statements: YtipbijcmpbefpaaTotals.lean).
  GIVEN WITH THE SEED: the statements are not yours to turn. If you find one false, say at which input.
  Laid BY PROGRAM, IN A SANDBOX (cutbox-rows.mjs): the forced cells as the released guide's own fill.sh prints them over the translation 105e31179daa0483… (all of the seat's roots in one cut). By AI agents, Wed Nov 11 2026. No macro, syntax, notation, axiom, sorry.
-/
import Derived.Test.YtipbijcmpbefpaaChecked
import GoSem.Claim
import GoSem.ClaimJoined
import GoSem.ClaimMapViews
import Derived.JoinedTies
import Derived.KernelRfl
namespace Go.Proofs.Ytipbijcmpbefpaa
/- THE CELL 'sum', in the pinned program and in every row, IS THE sha256 OF THE DUMP (.gsa) THAT YtipbijcmpbefpaaProg.lean LOADS. Nothing in Lean hashes anything: it is a label: what it is worth is what the hold of that sum in a sandbox is worth. -/
noncomputable def Try.pinned : Pinned := { name := "ytipbijcmpbefpaa", sum := "105e31179daa0483e4e571c6721d1b4859f414556a2cf803aeda405fd6df92e4", checked := Try.checked }
namespace Rows
def none {H : Type} : Left H := { results := [], args := [] }

/-- 'laws.FnBookOf': WHATEVER THE INPUT: true; the input reads as it did. -/
def fnBookOfSpec : ChangeSpec := { name := "fnBookOf", fn := fun _ => fun
  | [d] => { results := [.lit (.bool true)], args := [d] }
  | _ => none }
def fnBookOfRow : OpenClaim := { program := "ytipbijcmpbefpaa", sum := "105e31179daa0483e4e571c6721d1b4859f414556a2cf803aeda405fd6df92e4", func := "loop.example/hostel/laws.FnBookOf", spec := "fnBookOf", apart := false }
def FnBookOfSaid : Prop := fnBookOfRow.holds Try.pinned (OpenSpec.ofChange fnBookOfSpec)

/-- ITS FALSE NEIGHBOUR: 'it returns false'. Refute it at one input. -/
def fnBookOfWrong : ChangeSpec := { name := "fnBookOf", fn := fun _ => fun
  | [d] => { results := [.lit (.bool false)], args := [d] }
  | _ => none }
def FnBookOfWrongFalsely : Prop := fnBookOfRow.holds Try.pinned (OpenSpec.ofChange fnBookOfWrong)

/-- 'laws.FnExactCensLay': WHATEVER THE INPUT: true; the input reads as it did. -/
def fnExactCensLaySpec : ChangeSpec := { name := "fnExactCensLay", fn := fun _ => fun
  | [d1, d2] => { results := [.lit (.bool true)], args := [d1, d2] }
  | _ => none }
def fnExactCensLayRow : OpenClaim := { program := "ytipbijcmpbefpaa", sum := "105e31179daa0483e4e571c6721d1b4859f414556a2cf803aeda405fd6df92e4", func := "loop.example/hostel/laws.FnExactCensLay", spec := "fnExactCensLay", unfollowed := true, recurses := true, apart := false }
def FnExactCensLaySaid : Prop := fnExactCensLayRow.holds Try.pinned (OpenSpec.ofChange fnExactCensLaySpec)

/-- ITS FALSE NEIGHBOUR: 'it returns false'. Refute it at one input. -/
def fnExactCensLayWrong : ChangeSpec := { name := "fnExactCensLay", fn := fun _ => fun
  | [d1, d2] => { results := [.lit (.bool false)], args := [d1, d2] }
  | _ => none }
def FnExactCensLayWrongFalsely : Prop := fnExactCensLayRow.holds Try.pinned (OpenSpec.ofChange fnExactCensLayWrong)

/-- 'laws.FnExactCensBook': WHATEVER THE INPUT: true; the input reads as it did. -/
def fnExactCensBookSpec : ChangeSpec := { name := "fnExactCensBook", fn := fun _ => fun
  | [d] => { results := [.lit (.bool true)], args := [d] }
  | _ => none }
def fnExactCensBookRow : OpenClaim := { program := "ytipbijcmpbefpaa", sum := "105e31179daa0483e4e571c6721d1b4859f414556a2cf803aeda405fd6df92e4", func := "loop.example/hostel/laws.FnExactCensBook", spec := "fnExactCensBook", unfollowed := true, recurses := true, apart := false }
def FnExactCensBookSaid : Prop := fnExactCensBookRow.holds Try.pinned (OpenSpec.ofChange fnExactCensBookSpec)

/-- ITS FALSE NEIGHBOUR: 'it returns false'. Refute it at one input. -/
def fnExactCensBookWrong : ChangeSpec := { name := "fnExactCensBook", fn := fun _ => fun
  | [d] => { results := [.lit (.bool false)], args := [d] }
  | _ => none }
def FnExactCensBookWrongFalsely : Prop := fnExactCensBookRow.holds Try.pinned (OpenSpec.ofChange fnExactCensBookWrong)

/-- 'laws.FnExactPlanDo': WHATEVER THE INPUT: true; the input reads as it did. -/
def fnExactPlanDoSpec : ChangeSpec := { name := "fnExactPlanDo", fn := fun _ => fun
  | [d1, d2] => { results := [.lit (.bool true)], args := [d1, d2] }
  | _ => none }
def fnExactPlanDoRow : OpenClaim := { program := "ytipbijcmpbefpaa", sum := "105e31179daa0483e4e571c6721d1b4859f414556a2cf803aeda405fd6df92e4", func := "loop.example/hostel/laws.FnExactPlanDo", spec := "fnExactPlanDo", unfollowed := true, recurses := true, apart := false }
def FnExactPlanDoSaid : Prop := fnExactPlanDoRow.holds Try.pinned (OpenSpec.ofChange fnExactPlanDoSpec)

/-- ITS FALSE NEIGHBOUR: 'it returns false'. Refute it at one input. -/
def fnExactPlanDoWrong : ChangeSpec := { name := "fnExactPlanDo", fn := fun _ => fun
  | [d1, d2] => { results := [.lit (.bool false)], args := [d1, d2] }
  | _ => none }
def FnExactPlanDoWrongFalsely : Prop := fnExactPlanDoRow.holds Try.pinned (OpenSpec.ofChange fnExactPlanDoWrong)

/- THE SECOND FORM. 'bulk': how many values and letters a reading holds, each counted each time it is reached (what is shared counts as often as it is met; a slice's spare places count too). A statement '..UptoSaid' is the law's where the arguments, and the package variables that the reading takes, are together of bulk at most 1048576: NARROWER than '..Said'. Prove '..Said' where nothing that the law and all that it calls make is longer than what came in: it says more and counts as full. Else prove '..UptoSaid'. A law counts once. -/
mutual
def uptoBulk {H : Type} : DataW H → Nat
  | .lit (.string bytes) => bytes.length + 1
  | .lit _ => 1
  | .nil => 1
  | .ptr d => uptoBulk d + 1
  | .slice elems spare => uptoBulkAll elems + uptoBulkAll spare + 1
  | .agg parts => uptoBulkAll parts + 1
  | .iface _ d => uptoBulk d + 1
  | .map entries => uptoBulkEntries entries + 1
  | .held _ => 1
def uptoBulkAll {H : Type} : List (DataW H) → Nat
  | [] => 0
  | d :: r => uptoBulk d + uptoBulkAll r
def uptoBulkEntries {H : Type} : List (Lit × DataW H) → Nat
  | [] => 0
  | x :: r => uptoBulkEntry x + uptoBulkEntries r
def uptoBulkEntry {H : Type} : Lit × DataW H → Nat
  | (.string bytes, d) => bytes.length + uptoBulk d + 1
  | (_, d) => uptoBulk d + 1
 end
def uptoSmall : (H : Type) → List (DataW H) → Bool := fun _ ds => decide (uptoBulkAll ds ≤ 1048576)
def OpenSpec.upto (s : _root_.Go.ChangeSpec) : _root_.Go.OpenSpec := { _root_.Go.OpenSpec.ofChange s with cond := some uptoSmall }

/-- 'laws.FnBookOf', WHERE WHAT IT READS IS OF BULK AT MOST 1048576: true; the input reads as it did. -/
def fnBookOfUptoRow : OpenClaim := { program := "ytipbijcmpbefpaa", sum := "105e31179daa0483e4e571c6721d1b4859f414556a2cf803aeda405fd6df92e4", func := "loop.example/hostel/laws.FnBookOf", spec := "fnBookOf", apart := false, narrowed := true }
def FnBookOfUptoSaid : Prop := fnBookOfUptoRow.holds Try.pinned (OpenSpec.upto fnBookOfSpec)

/-- 'laws.FnExactCensLay', WHERE WHAT IT READS IS OF BULK AT MOST 1048576: true; the input reads as it did. -/
def fnExactCensLayUptoRow : OpenClaim := { program := "ytipbijcmpbefpaa", sum := "105e31179daa0483e4e571c6721d1b4859f414556a2cf803aeda405fd6df92e4", func := "loop.example/hostel/laws.FnExactCensLay", spec := "fnExactCensLay", unfollowed := true, recurses := true, apart := false, narrowed := true }
def FnExactCensLayUptoSaid : Prop := fnExactCensLayUptoRow.holds Try.pinned (OpenSpec.upto fnExactCensLaySpec)

/-- 'laws.FnExactCensBook', WHERE WHAT IT READS IS OF BULK AT MOST 1048576: true; the input reads as it did. -/
def fnExactCensBookUptoRow : OpenClaim := { program := "ytipbijcmpbefpaa", sum := "105e31179daa0483e4e571c6721d1b4859f414556a2cf803aeda405fd6df92e4", func := "loop.example/hostel/laws.FnExactCensBook", spec := "fnExactCensBook", unfollowed := true, recurses := true, apart := false, narrowed := true }
def FnExactCensBookUptoSaid : Prop := fnExactCensBookUptoRow.holds Try.pinned (OpenSpec.upto fnExactCensBookSpec)

/-- 'laws.FnExactPlanDo', WHERE WHAT IT READS IS OF BULK AT MOST 1048576: true; the input reads as it did. -/
def fnExactPlanDoUptoRow : OpenClaim := { program := "ytipbijcmpbefpaa", sum := "105e31179daa0483e4e571c6721d1b4859f414556a2cf803aeda405fd6df92e4", func := "loop.example/hostel/laws.FnExactPlanDo", spec := "fnExactPlanDo", unfollowed := true, recurses := true, apart := false, narrowed := true }
def FnExactPlanDoUptoSaid : Prop := fnExactPlanDoUptoRow.holds Try.pinned (OpenSpec.upto fnExactPlanDoSpec)

end Rows
end Go.Proofs.Ytipbijcmpbefpaa

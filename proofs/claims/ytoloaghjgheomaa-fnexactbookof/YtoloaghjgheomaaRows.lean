/-
  No cell of these rows narrows 'for every input' (looked for: loops, veiled, ifaces, maps, wideKeys, modest, calm, conditions, laid).
  DERIVED. THE GIVEN ROWS OF THIS SEAT. 8 by the template 'for every input the law returns true; each argument reads behind the call as it read before'; 0 by the template 'total and deterministic' (their statements: YtoloaghjgheomaaTotals.lean).
  GIVEN WITH THE SEED: the statements are not yours to turn. If you find one false, say at which input.
  Laid BY PROGRAM, IN A SANDBOX (cutbox-rows.mjs): the forced cells as the released guide's own fill.sh prints them over the translation 7b68df6f299b45e8… (all of the seat's roots in one cut). By AI agents, Wed Nov 11 2026. No macro, syntax, notation, axiom, sorry.
-/
import Derived.Test.YtoloaghjgheomaaChecked
import GoSem.Claim
import GoSem.ClaimJoined
import GoSem.ClaimMapViews
import Derived.JoinedTies
import Derived.KernelRfl
namespace Go.Proofs.Ytoloaghjgheomaa
/- THE CELL 'sum', in the pinned program and in every row, IS THE sha256 OF THE DUMP (.gsa) THAT YtoloaghjgheomaaProg.lean LOADS. Nothing in Lean hashes anything: it is a label: what it is worth is what the hold of that sum in a sandbox is worth. -/
noncomputable def Try.pinned : Pinned := { name := "ytoloaghjgheomaa", sum := "7b68df6f299b45e8662c5ea03ac980770df7ee9cc3c6a4ce4da21572f631a546", checked := Try.checked }
namespace Rows
def none {H : Type} : Left H := { results := [], args := [] }

/-- 'laws.FnBookOf': WHATEVER THE INPUT: true; the input reads as it did. -/
def fnBookOfSpec : ChangeSpec := { name := "fnBookOf", fn := fun _ => fun
  | [d] => { results := [.lit (.bool true)], args := [d] }
  | _ => none }
def fnBookOfRow : OpenClaim := { program := "ytoloaghjgheomaa", sum := "7b68df6f299b45e8662c5ea03ac980770df7ee9cc3c6a4ce4da21572f631a546", func := "loop.example/hostel/laws.FnBookOf", spec := "fnBookOf", apart := false }
def FnBookOfSaid : Prop := fnBookOfRow.holds Try.pinned (OpenSpec.ofChange fnBookOfSpec)

/-- ITS FALSE NEIGHBOUR: 'it returns false'. Refute it at one input. -/
def fnBookOfWrong : ChangeSpec := { name := "fnBookOf", fn := fun _ => fun
  | [d] => { results := [.lit (.bool false)], args := [d] }
  | _ => none }
def FnBookOfWrongFalsely : Prop := fnBookOfRow.holds Try.pinned (OpenSpec.ofChange fnBookOfWrong)

/-- 'laws.FnExactBookOpen': WHATEVER THE INPUT: true; the input reads as it did. -/
def fnExactBookOpenSpec : ChangeSpec := { name := "fnExactBookOpen", fn := fun _ => fun
  | [d] => { results := [.lit (.bool true)], args := [d] }
  | _ => none }
def fnExactBookOpenRow : OpenClaim := { program := "ytoloaghjgheomaa", sum := "7b68df6f299b45e8662c5ea03ac980770df7ee9cc3c6a4ce4da21572f631a546", func := "loop.example/hostel/laws.FnExactBookOpen", spec := "fnExactBookOpen", apart := false }
def FnExactBookOpenSaid : Prop := fnExactBookOpenRow.holds Try.pinned (OpenSpec.ofChange fnExactBookOpenSpec)

/-- ITS FALSE NEIGHBOUR: 'it returns false'. Refute it at one input. -/
def fnExactBookOpenWrong : ChangeSpec := { name := "fnExactBookOpen", fn := fun _ => fun
  | [d] => { results := [.lit (.bool false)], args := [d] }
  | _ => none }
def FnExactBookOpenWrongFalsely : Prop := fnExactBookOpenRow.holds Try.pinned (OpenSpec.ofChange fnExactBookOpenWrong)

/-- 'laws.FnExactBookOk': WHATEVER THE INPUT: true; the input reads as it did. -/
def fnExactBookOkSpec : ChangeSpec := { name := "fnExactBookOk", fn := fun _ => fun
  | [d] => { results := [.lit (.bool true)], args := [d] }
  | _ => none }
def fnExactBookOkRow : OpenClaim := { program := "ytoloaghjgheomaa", sum := "7b68df6f299b45e8662c5ea03ac980770df7ee9cc3c6a4ce4da21572f631a546", func := "loop.example/hostel/laws.FnExactBookOk", spec := "fnExactBookOk", apart := false }
def FnExactBookOkSaid : Prop := fnExactBookOkRow.holds Try.pinned (OpenSpec.ofChange fnExactBookOkSpec)

/-- ITS FALSE NEIGHBOUR: 'it returns false'. Refute it at one input. -/
def fnExactBookOkWrong : ChangeSpec := { name := "fnExactBookOk", fn := fun _ => fun
  | [d] => { results := [.lit (.bool false)], args := [d] }
  | _ => none }
def FnExactBookOkWrongFalsely : Prop := fnExactBookOkRow.holds Try.pinned (OpenSpec.ofChange fnExactBookOkWrong)

/-- 'laws.FnExactBookSame': WHATEVER THE INPUT: true; the input reads as it did. -/
def fnExactBookSameSpec : ChangeSpec := { name := "fnExactBookSame", fn := fun _ => fun
  | [d1, d2] => { results := [.lit (.bool true)], args := [d1, d2] }
  | _ => none }
def fnExactBookSameRow : OpenClaim := { program := "ytoloaghjgheomaa", sum := "7b68df6f299b45e8662c5ea03ac980770df7ee9cc3c6a4ce4da21572f631a546", func := "loop.example/hostel/laws.FnExactBookSame", spec := "fnExactBookSame", apart := false }
def FnExactBookSameSaid : Prop := fnExactBookSameRow.holds Try.pinned (OpenSpec.ofChange fnExactBookSameSpec)

/-- ITS FALSE NEIGHBOUR: 'it returns false'. Refute it at one input. -/
def fnExactBookSameWrong : ChangeSpec := { name := "fnExactBookSame", fn := fun _ => fun
  | [d1, d2] => { results := [.lit (.bool false)], args := [d1, d2] }
  | _ => none }
def FnExactBookSameWrongFalsely : Prop := fnExactBookSameRow.holds Try.pinned (OpenSpec.ofChange fnExactBookSameWrong)

/-- 'laws.FnExactBookKind': WHATEVER THE INPUT: true; the input reads as it did. -/
def fnExactBookKindSpec : ChangeSpec := { name := "fnExactBookKind", fn := fun _ => fun
  | [d] => { results := [.lit (.bool true)], args := [d] }
  | _ => none }
def fnExactBookKindRow : OpenClaim := { program := "ytoloaghjgheomaa", sum := "7b68df6f299b45e8662c5ea03ac980770df7ee9cc3c6a4ce4da21572f631a546", func := "loop.example/hostel/laws.FnExactBookKind", spec := "fnExactBookKind", apart := false }
def FnExactBookKindSaid : Prop := fnExactBookKindRow.holds Try.pinned (OpenSpec.ofChange fnExactBookKindSpec)

/-- ITS FALSE NEIGHBOUR: 'it returns false'. Refute it at one input. -/
def fnExactBookKindWrong : ChangeSpec := { name := "fnExactBookKind", fn := fun _ => fun
  | [d] => { results := [.lit (.bool false)], args := [d] }
  | _ => none }
def FnExactBookKindWrongFalsely : Prop := fnExactBookKindRow.holds Try.pinned (OpenSpec.ofChange fnExactBookKindWrong)

/-- 'laws.FnExactBookRoom': WHATEVER THE INPUT: true; the input reads as it did. -/
def fnExactBookRoomSpec : ChangeSpec := { name := "fnExactBookRoom", fn := fun _ => fun
  | [d1, d2] => { results := [.lit (.bool true)], args := [d1, d2] }
  | _ => none }
def fnExactBookRoomRow : OpenClaim := { program := "ytoloaghjgheomaa", sum := "7b68df6f299b45e8662c5ea03ac980770df7ee9cc3c6a4ce4da21572f631a546", func := "loop.example/hostel/laws.FnExactBookRoom", spec := "fnExactBookRoom", apart := false }
def FnExactBookRoomSaid : Prop := fnExactBookRoomRow.holds Try.pinned (OpenSpec.ofChange fnExactBookRoomSpec)

/-- ITS FALSE NEIGHBOUR: 'it returns false'. Refute it at one input. -/
def fnExactBookRoomWrong : ChangeSpec := { name := "fnExactBookRoom", fn := fun _ => fun
  | [d1, d2] => { results := [.lit (.bool false)], args := [d1, d2] }
  | _ => none }
def FnExactBookRoomWrongFalsely : Prop := fnExactBookRoomRow.holds Try.pinned (OpenSpec.ofChange fnExactBookRoomWrong)

/-- 'laws.FnExactBookOf': WHATEVER THE INPUT: true; the input reads as it did. -/
def fnExactBookOfSpec : ChangeSpec := { name := "fnExactBookOf", fn := fun _ => fun
  | [d1, d2] => { results := [.lit (.bool true)], args := [d1, d2] }
  | _ => none }
def fnExactBookOfRow : OpenClaim := { program := "ytoloaghjgheomaa", sum := "7b68df6f299b45e8662c5ea03ac980770df7ee9cc3c6a4ce4da21572f631a546", func := "loop.example/hostel/laws.FnExactBookOf", spec := "fnExactBookOf", apart := false }
def FnExactBookOfSaid : Prop := fnExactBookOfRow.holds Try.pinned (OpenSpec.ofChange fnExactBookOfSpec)

/-- ITS FALSE NEIGHBOUR: 'it returns false'. Refute it at one input. -/
def fnExactBookOfWrong : ChangeSpec := { name := "fnExactBookOf", fn := fun _ => fun
  | [d1, d2] => { results := [.lit (.bool false)], args := [d1, d2] }
  | _ => none }
def FnExactBookOfWrongFalsely : Prop := fnExactBookOfRow.holds Try.pinned (OpenSpec.ofChange fnExactBookOfWrong)

/-- 'laws.FnExactBookCut': WHATEVER THE INPUT: true; the input reads as it did. -/
def fnExactBookCutSpec : ChangeSpec := { name := "fnExactBookCut", fn := fun _ => fun
  | [d1, d2] => { results := [.lit (.bool true)], args := [d1, d2] }
  | _ => none }
def fnExactBookCutRow : OpenClaim := { program := "ytoloaghjgheomaa", sum := "7b68df6f299b45e8662c5ea03ac980770df7ee9cc3c6a4ce4da21572f631a546", func := "loop.example/hostel/laws.FnExactBookCut", spec := "fnExactBookCut", apart := false }
def FnExactBookCutSaid : Prop := fnExactBookCutRow.holds Try.pinned (OpenSpec.ofChange fnExactBookCutSpec)

/-- ITS FALSE NEIGHBOUR: 'it returns false'. Refute it at one input. -/
def fnExactBookCutWrong : ChangeSpec := { name := "fnExactBookCut", fn := fun _ => fun
  | [d1, d2] => { results := [.lit (.bool false)], args := [d1, d2] }
  | _ => none }
def FnExactBookCutWrongFalsely : Prop := fnExactBookCutRow.holds Try.pinned (OpenSpec.ofChange fnExactBookCutWrong)

/- THE SECOND FORM. 'bulk': how many values and letters a reading holds, each counted each time it is reached (what is shared counts as often as it is met; a slice's spare places count too). A statement '..UptoSaid' is the law's where the arguments, and the package variables that the reading takes, are together of bulk at most 1048576: NARROWER than '..Said'. Prove '..Said' where nothing that the law and all that it calls make is longer than what came in: it says more and counts as full. Else prove '..UptoSaid'. A law counts once. -/
mutual
def uptoBulk {H : Type} : DataW H → Nat
  | .lit (.string bytes) => bytes.length + 1
  | .lit _ => 1
  | .nil => 1
  | .ptr d => uptoBulk d + 1
  | .slice elems spare => uptoBulkAll elems + uptoBulkAll spare + 1
  | .agg parts => uptoBulkAll parts + 1
  | .iface _ d => uptoBulk d + 1
  | .map entries => uptoBulkEntries entries + 1
  | .held _ => 1
def uptoBulkAll {H : Type} : List (DataW H) → Nat
  | [] => 0
  | d :: r => uptoBulk d + uptoBulkAll r
def uptoBulkEntries {H : Type} : List (Lit × DataW H) → Nat
  | [] => 0
  | x :: r => uptoBulkEntry x + uptoBulkEntries r
def uptoBulkEntry {H : Type} : Lit × DataW H → Nat
  | (.string bytes, d) => bytes.length + uptoBulk d + 1
  | (_, d) => uptoBulk d + 1
 end
def uptoSmall : (H : Type) → List (DataW H) → Bool := fun _ ds => decide (uptoBulkAll ds ≤ 1048576)
def OpenSpec.upto (s : _root_.Go.ChangeSpec) : _root_.Go.OpenSpec := { _root_.Go.OpenSpec.ofChange s with cond := some uptoSmall }

/-- 'laws.FnBookOf', WHERE WHAT IT READS IS OF BULK AT MOST 1048576: true; the input reads as it did. -/
def fnBookOfUptoRow : OpenClaim := { program := "ytoloaghjgheomaa", sum := "7b68df6f299b45e8662c5ea03ac980770df7ee9cc3c6a4ce4da21572f631a546", func := "loop.example/hostel/laws.FnBookOf", spec := "fnBookOf", apart := false, narrowed := true }
def FnBookOfUptoSaid : Prop := fnBookOfUptoRow.holds Try.pinned (OpenSpec.upto fnBookOfSpec)

/-- 'laws.FnExactBookOpen', WHERE WHAT IT READS IS OF BULK AT MOST 1048576: true; the input reads as it did. -/
def fnExactBookOpenUptoRow : OpenClaim := { program := "ytoloaghjgheomaa", sum := "7b68df6f299b45e8662c5ea03ac980770df7ee9cc3c6a4ce4da21572f631a546", func := "loop.example/hostel/laws.FnExactBookOpen", spec := "fnExactBookOpen", apart := false, narrowed := true }
def FnExactBookOpenUptoSaid : Prop := fnExactBookOpenUptoRow.holds Try.pinned (OpenSpec.upto fnExactBookOpenSpec)

/-- 'laws.FnExactBookOk', WHERE WHAT IT READS IS OF BULK AT MOST 1048576: true; the input reads as it did. -/
def fnExactBookOkUptoRow : OpenClaim := { program := "ytoloaghjgheomaa", sum := "7b68df6f299b45e8662c5ea03ac980770df7ee9cc3c6a4ce4da21572f631a546", func := "loop.example/hostel/laws.FnExactBookOk", spec := "fnExactBookOk", apart := false, narrowed := true }
def FnExactBookOkUptoSaid : Prop := fnExactBookOkUptoRow.holds Try.pinned (OpenSpec.upto fnExactBookOkSpec)

/-- 'laws.FnExactBookSame', WHERE WHAT IT READS IS OF BULK AT MOST 1048576: true; the input reads as it did. -/
def fnExactBookSameUptoRow : OpenClaim := { program := "ytoloaghjgheomaa", sum := "7b68df6f299b45e8662c5ea03ac980770df7ee9cc3c6a4ce4da21572f631a546", func := "loop.example/hostel/laws.FnExactBookSame", spec := "fnExactBookSame", apart := false, narrowed := true }
def FnExactBookSameUptoSaid : Prop := fnExactBookSameUptoRow.holds Try.pinned (OpenSpec.upto fnExactBookSameSpec)

/-- 'laws.FnExactBookKind', WHERE WHAT IT READS IS OF BULK AT MOST 1048576: true; the input reads as it did. -/
def fnExactBookKindUptoRow : OpenClaim := { program := "ytoloaghjgheomaa", sum := "7b68df6f299b45e8662c5ea03ac980770df7ee9cc3c6a4ce4da21572f631a546", func := "loop.example/hostel/laws.FnExactBookKind", spec := "fnExactBookKind", apart := false, narrowed := true }
def FnExactBookKindUptoSaid : Prop := fnExactBookKindUptoRow.holds Try.pinned (OpenSpec.upto fnExactBookKindSpec)

/-- 'laws.FnExactBookRoom', WHERE WHAT IT READS IS OF BULK AT MOST 1048576: true; the input reads as it did. -/
def fnExactBookRoomUptoRow : OpenClaim := { program := "ytoloaghjgheomaa", sum := "7b68df6f299b45e8662c5ea03ac980770df7ee9cc3c6a4ce4da21572f631a546", func := "loop.example/hostel/laws.FnExactBookRoom", spec := "fnExactBookRoom", apart := false, narrowed := true }
def FnExactBookRoomUptoSaid : Prop := fnExactBookRoomUptoRow.holds Try.pinned (OpenSpec.upto fnExactBookRoomSpec)

/-- 'laws.FnExactBookOf', WHERE WHAT IT READS IS OF BULK AT MOST 1048576: true; the input reads as it did. -/
def fnExactBookOfUptoRow : OpenClaim := { program := "ytoloaghjgheomaa", sum := "7b68df6f299b45e8662c5ea03ac980770df7ee9cc3c6a4ce4da21572f631a546", func := "loop.example/hostel/laws.FnExactBookOf", spec := "fnExactBookOf", apart := false, narrowed := true }
def FnExactBookOfUptoSaid : Prop := fnExactBookOfUptoRow.holds Try.pinned (OpenSpec.upto fnExactBookOfSpec)

/-- 'laws.FnExactBookCut', WHERE WHAT IT READS IS OF BULK AT MOST 1048576: true; the input reads as it did. -/
def fnExactBookCutUptoRow : OpenClaim := { program := "ytoloaghjgheomaa", sum := "7b68df6f299b45e8662c5ea03ac980770df7ee9cc3c6a4ce4da21572f631a546", func := "loop.example/hostel/laws.FnExactBookCut", spec := "fnExactBookCut", apart := false, narrowed := true }
def FnExactBookCutUptoSaid : Prop := fnExactBookCutUptoRow.holds Try.pinned (OpenSpec.upto fnExactBookCutSpec)

end Rows
end Go.Proofs.Ytoloaghjgheomaa

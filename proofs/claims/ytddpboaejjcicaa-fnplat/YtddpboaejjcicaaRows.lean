/-
  No cell of these rows narrows 'for every input' (looked for: loops, veiled, ifaces, maps, wideKeys, modest, calm, conditions, laid).
  DERIVED. THE GIVEN ROWS OF THIS SEAT. 15 by the template 'for every input the law returns true; each argument reads behind the call as it read before'; 0 by the template 'total and deterministic' (their statements: YtddpboaejjcicaaTotals.lean).
  GIVEN WITH THE SEED: the statements are not yours to turn. If you find one false, say at which input.
  Laid BY PROGRAM, IN A SANDBOX (cutbox-rows.mjs): the forced cells as the released guide's own fill.sh prints them over the translation 5653a69f86444d51… (all of the seat's roots in one cut). By AI agents, Wed Nov 11 2026. No macro, syntax, notation, axiom, sorry.
-/
import Derived.Test.YtddpboaejjcicaaChecked
import GoSem.Claim
import GoSem.ClaimJoined
import GoSem.ClaimMapViews
import Derived.JoinedTies
import Derived.KernelRfl
namespace Go.Proofs.Ytddpboaejjcicaa
/- THE CELL 'sum', in the pinned program and in every row, IS THE sha256 OF THE DUMP (.gsa) THAT YtddpboaejjcicaaProg.lean LOADS. Nothing in Lean hashes anything: it is a label: what it is worth is what the hold of that sum in a sandbox is worth. -/
noncomputable def Try.pinned : Pinned := { name := "ytddpboaejjcicaa", sum := "5653a69f86444d511c34dd514aa9ca2bbb440db578a68eff7afa3a4286e71a74", checked := Try.checked }
namespace Rows
def none {H : Type} : Left H := { results := [], args := [] }

/-- 'laws.FnPlat': WHATEVER THE INPUT: true; the input reads as it did. -/
def fnPlatSpec : ChangeSpec := { name := "fnPlat", fn := fun _ => fun
  | [d] => { results := [.lit (.bool true)], args := [d] }
  | _ => none }
def fnPlatRow : OpenClaim := { program := "ytddpboaejjcicaa", sum := "5653a69f86444d511c34dd514aa9ca2bbb440db578a68eff7afa3a4286e71a74", func := "loop.example/hostel/laws.FnPlat", spec := "fnPlat", unfollowed := true, recurses := true, apart := false }
def FnPlatSaid : Prop := fnPlatRow.holds Try.pinned (OpenSpec.ofChange fnPlatSpec)

/-- ITS FALSE NEIGHBOUR: 'it returns false'. Refute it at one input. -/
def fnPlatWrong : ChangeSpec := { name := "fnPlat", fn := fun _ => fun
  | [d] => { results := [.lit (.bool false)], args := [d] }
  | _ => none }
def FnPlatWrongFalsely : Prop := fnPlatRow.holds Try.pinned (OpenSpec.ofChange fnPlatWrong)

/-- 'laws.FnPlatSwap': WHATEVER THE INPUT: true; the input reads as it did. -/
def fnPlatSwapSpec : ChangeSpec := { name := "fnPlatSwap", fn := fun _ => fun
  | [d] => { results := [.lit (.bool true)], args := [d] }
  | _ => none }
def fnPlatSwapRow : OpenClaim := { program := "ytddpboaejjcicaa", sum := "5653a69f86444d511c34dd514aa9ca2bbb440db578a68eff7afa3a4286e71a74", func := "loop.example/hostel/laws.FnPlatSwap", spec := "fnPlatSwap", unfollowed := true, recurses := true, apart := false }
def FnPlatSwapSaid : Prop := fnPlatSwapRow.holds Try.pinned (OpenSpec.ofChange fnPlatSwapSpec)

/-- ITS FALSE NEIGHBOUR: 'it returns false'. Refute it at one input. -/
def fnPlatSwapWrong : ChangeSpec := { name := "fnPlatSwap", fn := fun _ => fun
  | [d] => { results := [.lit (.bool false)], args := [d] }
  | _ => none }
def FnPlatSwapWrongFalsely : Prop := fnPlatSwapRow.holds Try.pinned (OpenSpec.ofChange fnPlatSwapWrong)

/-- 'laws.FnExactPlatOk': WHATEVER THE INPUT: true; the input reads as it did. -/
def fnExactPlatOkSpec : ChangeSpec := { name := "fnExactPlatOk", fn := fun _ => fun
  | [d] => { results := [.lit (.bool true)], args := [d] }
  | _ => none }
def fnExactPlatOkRow : OpenClaim := { program := "ytddpboaejjcicaa", sum := "5653a69f86444d511c34dd514aa9ca2bbb440db578a68eff7afa3a4286e71a74", func := "loop.example/hostel/laws.FnExactPlatOk", spec := "fnExactPlatOk", apart := false }
def FnExactPlatOkSaid : Prop := fnExactPlatOkRow.holds Try.pinned (OpenSpec.ofChange fnExactPlatOkSpec)

/-- ITS FALSE NEIGHBOUR: 'it returns false'. Refute it at one input. -/
def fnExactPlatOkWrong : ChangeSpec := { name := "fnExactPlatOk", fn := fun _ => fun
  | [d] => { results := [.lit (.bool false)], args := [d] }
  | _ => none }
def FnExactPlatOkWrongFalsely : Prop := fnExactPlatOkRow.holds Try.pinned (OpenSpec.ofChange fnExactPlatOkWrong)

/-- 'laws.FnExactPlatSize': WHATEVER THE INPUT: true; the input reads as it did. -/
def fnExactPlatSizeSpec : ChangeSpec := { name := "fnExactPlatSize", fn := fun _ => fun
  | [d] => { results := [.lit (.bool true)], args := [d] }
  | _ => none }
def fnExactPlatSizeRow : OpenClaim := { program := "ytddpboaejjcicaa", sum := "5653a69f86444d511c34dd514aa9ca2bbb440db578a68eff7afa3a4286e71a74", func := "loop.example/hostel/laws.FnExactPlatSize", spec := "fnExactPlatSize", apart := false }
def FnExactPlatSizeSaid : Prop := fnExactPlatSizeRow.holds Try.pinned (OpenSpec.ofChange fnExactPlatSizeSpec)

/-- ITS FALSE NEIGHBOUR: 'it returns false'. Refute it at one input. -/
def fnExactPlatSizeWrong : ChangeSpec := { name := "fnExactPlatSize", fn := fun _ => fun
  | [d] => { results := [.lit (.bool false)], args := [d] }
  | _ => none }
def FnExactPlatSizeWrongFalsely : Prop := fnExactPlatSizeRow.holds Try.pinned (OpenSpec.ofChange fnExactPlatSizeWrong)

/-- 'laws.FnExactPlatReg': WHATEVER THE INPUT: true; the input reads as it did. -/
def fnExactPlatRegSpec : ChangeSpec := { name := "fnExactPlatReg", fn := fun _ => fun
  | [d1, d2] => { results := [.lit (.bool true)], args := [d1, d2] }
  | _ => none }
def fnExactPlatRegRow : OpenClaim := { program := "ytddpboaejjcicaa", sum := "5653a69f86444d511c34dd514aa9ca2bbb440db578a68eff7afa3a4286e71a74", func := "loop.example/hostel/laws.FnExactPlatReg", spec := "fnExactPlatReg", apart := false }
def FnExactPlatRegSaid : Prop := fnExactPlatRegRow.holds Try.pinned (OpenSpec.ofChange fnExactPlatRegSpec)

/-- ITS FALSE NEIGHBOUR: 'it returns false'. Refute it at one input. -/
def fnExactPlatRegWrong : ChangeSpec := { name := "fnExactPlatReg", fn := fun _ => fun
  | [d1, d2] => { results := [.lit (.bool false)], args := [d1, d2] }
  | _ => none }
def FnExactPlatRegWrongFalsely : Prop := fnExactPlatRegRow.holds Try.pinned (OpenSpec.ofChange fnExactPlatRegWrong)

/-- 'laws.FnExactPlatBeat': WHATEVER THE INPUT: true; the input reads as it did. -/
def fnExactPlatBeatSpec : ChangeSpec := { name := "fnExactPlatBeat", fn := fun _ => fun
  | [d1, d2] => { results := [.lit (.bool true)], args := [d1, d2] }
  | _ => none }
def fnExactPlatBeatRow : OpenClaim := { program := "ytddpboaejjcicaa", sum := "5653a69f86444d511c34dd514aa9ca2bbb440db578a68eff7afa3a4286e71a74", func := "loop.example/hostel/laws.FnExactPlatBeat", spec := "fnExactPlatBeat", apart := false }
def FnExactPlatBeatSaid : Prop := fnExactPlatBeatRow.holds Try.pinned (OpenSpec.ofChange fnExactPlatBeatSpec)

/-- ITS FALSE NEIGHBOUR: 'it returns false'. Refute it at one input. -/
def fnExactPlatBeatWrong : ChangeSpec := { name := "fnExactPlatBeat", fn := fun _ => fun
  | [d1, d2] => { results := [.lit (.bool false)], args := [d1, d2] }
  | _ => none }
def FnExactPlatBeatWrongFalsely : Prop := fnExactPlatBeatRow.holds Try.pinned (OpenSpec.ofChange fnExactPlatBeatWrong)

/-- 'laws.FnExactPlatHead': WHATEVER THE INPUT: true; the input reads as it did. -/
def fnExactPlatHeadSpec : ChangeSpec := { name := "fnExactPlatHead", fn := fun _ => fun
  | [d1, d2] => { results := [.lit (.bool true)], args := [d1, d2] }
  | _ => none }
def fnExactPlatHeadRow : OpenClaim := { program := "ytddpboaejjcicaa", sum := "5653a69f86444d511c34dd514aa9ca2bbb440db578a68eff7afa3a4286e71a74", func := "loop.example/hostel/laws.FnExactPlatHead", spec := "fnExactPlatHead", apart := false }
def FnExactPlatHeadSaid : Prop := fnExactPlatHeadRow.holds Try.pinned (OpenSpec.ofChange fnExactPlatHeadSpec)

/-- ITS FALSE NEIGHBOUR: 'it returns false'. Refute it at one input. -/
def fnExactPlatHeadWrong : ChangeSpec := { name := "fnExactPlatHead", fn := fun _ => fun
  | [d1, d2] => { results := [.lit (.bool false)], args := [d1, d2] }
  | _ => none }
def FnExactPlatHeadWrongFalsely : Prop := fnExactPlatHeadRow.holds Try.pinned (OpenSpec.ofChange fnExactPlatHeadWrong)

/-- 'laws.FnExactPlatPage': WHATEVER THE INPUT: true; the input reads as it did. -/
def fnExactPlatPageSpec : ChangeSpec := { name := "fnExactPlatPage", fn := fun _ => fun
  | [d1, d2] => { results := [.lit (.bool true)], args := [d1, d2] }
  | _ => none }
def fnExactPlatPageRow : OpenClaim := { program := "ytddpboaejjcicaa", sum := "5653a69f86444d511c34dd514aa9ca2bbb440db578a68eff7afa3a4286e71a74", func := "loop.example/hostel/laws.FnExactPlatPage", spec := "fnExactPlatPage", apart := false }
def FnExactPlatPageSaid : Prop := fnExactPlatPageRow.holds Try.pinned (OpenSpec.ofChange fnExactPlatPageSpec)

/-- ITS FALSE NEIGHBOUR: 'it returns false'. Refute it at one input. -/
def fnExactPlatPageWrong : ChangeSpec := { name := "fnExactPlatPage", fn := fun _ => fun
  | [d1, d2] => { results := [.lit (.bool false)], args := [d1, d2] }
  | _ => none }
def FnExactPlatPageWrongFalsely : Prop := fnExactPlatPageRow.holds Try.pinned (OpenSpec.ofChange fnExactPlatPageWrong)

/-- 'laws.FnExactPlatTag': WHATEVER THE INPUT: true; the input reads as it did. -/
def fnExactPlatTagSpec : ChangeSpec := { name := "fnExactPlatTag", fn := fun _ => fun
  | [d1, d2] => { results := [.lit (.bool true)], args := [d1, d2] }
  | _ => none }
def fnExactPlatTagRow : OpenClaim := { program := "ytddpboaejjcicaa", sum := "5653a69f86444d511c34dd514aa9ca2bbb440db578a68eff7afa3a4286e71a74", func := "loop.example/hostel/laws.FnExactPlatTag", spec := "fnExactPlatTag", apart := false }
def FnExactPlatTagSaid : Prop := fnExactPlatTagRow.holds Try.pinned (OpenSpec.ofChange fnExactPlatTagSpec)

/-- ITS FALSE NEIGHBOUR: 'it returns false'. Refute it at one input. -/
def fnExactPlatTagWrong : ChangeSpec := { name := "fnExactPlatTag", fn := fun _ => fun
  | [d1, d2] => { results := [.lit (.bool false)], args := [d1, d2] }
  | _ => none }
def FnExactPlatTagWrongFalsely : Prop := fnExactPlatTagRow.holds Try.pinned (OpenSpec.ofChange fnExactPlatTagWrong)

/-- 'laws.FnExactPlatLink': WHATEVER THE INPUT: true; the input reads as it did. -/
def fnExactPlatLinkSpec : ChangeSpec := { name := "fnExactPlatLink", fn := fun _ => fun
  | [d1, d2] => { results := [.lit (.bool true)], args := [d1, d2] }
  | _ => none }
def fnExactPlatLinkRow : OpenClaim := { program := "ytddpboaejjcicaa", sum := "5653a69f86444d511c34dd514aa9ca2bbb440db578a68eff7afa3a4286e71a74", func := "loop.example/hostel/laws.FnExactPlatLink", spec := "fnExactPlatLink", apart := false }
def FnExactPlatLinkSaid : Prop := fnExactPlatLinkRow.holds Try.pinned (OpenSpec.ofChange fnExactPlatLinkSpec)

/-- ITS FALSE NEIGHBOUR: 'it returns false'. Refute it at one input. -/
def fnExactPlatLinkWrong : ChangeSpec := { name := "fnExactPlatLink", fn := fun _ => fun
  | [d1, d2] => { results := [.lit (.bool false)], args := [d1, d2] }
  | _ => none }
def FnExactPlatLinkWrongFalsely : Prop := fnExactPlatLinkRow.holds Try.pinned (OpenSpec.ofChange fnExactPlatLinkWrong)

/-- 'laws.FnExactPlatDesk': WHATEVER THE INPUT: true; the input reads as it did. -/
def fnExactPlatDeskSpec : ChangeSpec := { name := "fnExactPlatDesk", fn := fun _ => fun
  | [d1, d2] => { results := [.lit (.bool true)], args := [d1, d2] }
  | _ => none }
def fnExactPlatDeskRow : OpenClaim := { program := "ytddpboaejjcicaa", sum := "5653a69f86444d511c34dd514aa9ca2bbb440db578a68eff7afa3a4286e71a74", func := "loop.example/hostel/laws.FnExactPlatDesk", spec := "fnExactPlatDesk", apart := false }
def FnExactPlatDeskSaid : Prop := fnExactPlatDeskRow.holds Try.pinned (OpenSpec.ofChange fnExactPlatDeskSpec)

/-- ITS FALSE NEIGHBOUR: 'it returns false'. Refute it at one input. -/
def fnExactPlatDeskWrong : ChangeSpec := { name := "fnExactPlatDesk", fn := fun _ => fun
  | [d1, d2] => { results := [.lit (.bool false)], args := [d1, d2] }
  | _ => none }
def FnExactPlatDeskWrongFalsely : Prop := fnExactPlatDeskRow.holds Try.pinned (OpenSpec.ofChange fnExactPlatDeskWrong)

/-- 'laws.FnExactPlatFormat': WHATEVER THE INPUT: true; the input reads as it did. -/
def fnExactPlatFormatSpec : ChangeSpec := { name := "fnExactPlatFormat", fn := fun _ => fun
  | [d] => { results := [.lit (.bool true)], args := [d] }
  | _ => none }
def fnExactPlatFormatRow : OpenClaim := { program := "ytddpboaejjcicaa", sum := "5653a69f86444d511c34dd514aa9ca2bbb440db578a68eff7afa3a4286e71a74", func := "loop.example/hostel/laws.FnExactPlatFormat", spec := "fnExactPlatFormat", apart := false }
def FnExactPlatFormatSaid : Prop := fnExactPlatFormatRow.holds Try.pinned (OpenSpec.ofChange fnExactPlatFormatSpec)

/-- ITS FALSE NEIGHBOUR: 'it returns false'. Refute it at one input. -/
def fnExactPlatFormatWrong : ChangeSpec := { name := "fnExactPlatFormat", fn := fun _ => fun
  | [d] => { results := [.lit (.bool false)], args := [d] }
  | _ => none }
def FnExactPlatFormatWrongFalsely : Prop := fnExactPlatFormatRow.holds Try.pinned (OpenSpec.ofChange fnExactPlatFormatWrong)

/-- 'laws.FnExactPlatCheck': WHATEVER THE INPUT: true; the input reads as it did. -/
def fnExactPlatCheckSpec : ChangeSpec := { name := "fnExactPlatCheck", fn := fun _ => fun
  | [d] => { results := [.lit (.bool true)], args := [d] }
  | _ => none }
def fnExactPlatCheckRow : OpenClaim := { program := "ytddpboaejjcicaa", sum := "5653a69f86444d511c34dd514aa9ca2bbb440db578a68eff7afa3a4286e71a74", func := "loop.example/hostel/laws.FnExactPlatCheck", spec := "fnExactPlatCheck", unfollowed := true, recurses := true, apart := false }
def FnExactPlatCheckSaid : Prop := fnExactPlatCheckRow.holds Try.pinned (OpenSpec.ofChange fnExactPlatCheckSpec)

/-- ITS FALSE NEIGHBOUR: 'it returns false'. Refute it at one input. -/
def fnExactPlatCheckWrong : ChangeSpec := { name := "fnExactPlatCheck", fn := fun _ => fun
  | [d] => { results := [.lit (.bool false)], args := [d] }
  | _ => none }
def FnExactPlatCheckWrongFalsely : Prop := fnExactPlatCheckRow.holds Try.pinned (OpenSpec.ofChange fnExactPlatCheckWrong)

/-- 'laws.FnExactPlatLoad': WHATEVER THE INPUT: true; the input reads as it did. -/
def fnExactPlatLoadSpec : ChangeSpec := { name := "fnExactPlatLoad", fn := fun _ => fun
  | [d1, d2] => { results := [.lit (.bool true)], args := [d1, d2] }
  | _ => none }
def fnExactPlatLoadRow : OpenClaim := { program := "ytddpboaejjcicaa", sum := "5653a69f86444d511c34dd514aa9ca2bbb440db578a68eff7afa3a4286e71a74", func := "loop.example/hostel/laws.FnExactPlatLoad", spec := "fnExactPlatLoad", unfollowed := true, recurses := true, apart := false }
def FnExactPlatLoadSaid : Prop := fnExactPlatLoadRow.holds Try.pinned (OpenSpec.ofChange fnExactPlatLoadSpec)

/-- ITS FALSE NEIGHBOUR: 'it returns false'. Refute it at one input. -/
def fnExactPlatLoadWrong : ChangeSpec := { name := "fnExactPlatLoad", fn := fun _ => fun
  | [d1, d2] => { results := [.lit (.bool false)], args := [d1, d2] }
  | _ => none }
def FnExactPlatLoadWrongFalsely : Prop := fnExactPlatLoadRow.holds Try.pinned (OpenSpec.ofChange fnExactPlatLoadWrong)

/-- 'laws.FnExactPlatSwap': WHATEVER THE INPUT: true; the input reads as it did. -/
def fnExactPlatSwapSpec : ChangeSpec := { name := "fnExactPlatSwap", fn := fun _ => fun
  | [d1, d2, d3, d4] => { results := [.lit (.bool true)], args := [d1, d2, d3, d4] }
  | _ => none }
def fnExactPlatSwapRow : OpenClaim := { program := "ytddpboaejjcicaa", sum := "5653a69f86444d511c34dd514aa9ca2bbb440db578a68eff7afa3a4286e71a74", func := "loop.example/hostel/laws.FnExactPlatSwap", spec := "fnExactPlatSwap", unfollowed := true, recurses := true, apart := false }
def FnExactPlatSwapSaid : Prop := fnExactPlatSwapRow.holds Try.pinned (OpenSpec.ofChange fnExactPlatSwapSpec)

/-- ITS FALSE NEIGHBOUR: 'it returns false'. Refute it at one input. -/
def fnExactPlatSwapWrong : ChangeSpec := { name := "fnExactPlatSwap", fn := fun _ => fun
  | [d1, d2, d3, d4] => { results := [.lit (.bool false)], args := [d1, d2, d3, d4] }
  | _ => none }
def FnExactPlatSwapWrongFalsely : Prop := fnExactPlatSwapRow.holds Try.pinned (OpenSpec.ofChange fnExactPlatSwapWrong)

/- THE SECOND FORM. 'bulk': how many values and letters a reading holds, each counted each time it is reached (what is shared counts as often as it is met; a slice's spare places count too). A statement '..UptoSaid' is the law's where the arguments, and the package variables that the reading takes, are together of bulk at most 1048576: NARROWER than '..Said'. Prove '..Said' where nothing that the law and all that it calls make is longer than what came in: it says more and counts as full. Else prove '..UptoSaid'. A law counts once. -/
mutual
def uptoBulk {H : Type} : DataW H → Nat
  | .lit (.string bytes) => bytes.length + 1
  | .lit _ => 1
  | .nil => 1
  | .ptr d => uptoBulk d + 1
  | .slice elems spare => uptoBulkAll elems + uptoBulkAll spare + 1
  | .agg parts => uptoBulkAll parts + 1
  | .iface _ d => uptoBulk d + 1
  | .map entries => uptoBulkEntries entries + 1
  | .held _ => 1
def uptoBulkAll {H : Type} : List (DataW H) → Nat
  | [] => 0
  | d :: r => uptoBulk d + uptoBulkAll r
def uptoBulkEntries {H : Type} : List (Lit × DataW H) → Nat
  | [] => 0
  | x :: r => uptoBulkEntry x + uptoBulkEntries r
def uptoBulkEntry {H : Type} : Lit × DataW H → Nat
  | (.string bytes, d) => bytes.length + uptoBulk d + 1
  | (_, d) => uptoBulk d + 1
 end
def uptoSmall : (H : Type) → List (DataW H) → Bool := fun _ ds => decide (uptoBulkAll ds ≤ 1048576)
def OpenSpec.upto (s : _root_.Go.ChangeSpec) : _root_.Go.OpenSpec := { _root_.Go.OpenSpec.ofChange s with cond := some uptoSmall }

/-- 'laws.FnPlat', WHERE WHAT IT READS IS OF BULK AT MOST 1048576: true; the input reads as it did. -/
def fnPlatUptoRow : OpenClaim := { program := "ytddpboaejjcicaa", sum := "5653a69f86444d511c34dd514aa9ca2bbb440db578a68eff7afa3a4286e71a74", func := "loop.example/hostel/laws.FnPlat", spec := "fnPlat", unfollowed := true, recurses := true, apart := false, narrowed := true }
def FnPlatUptoSaid : Prop := fnPlatUptoRow.holds Try.pinned (OpenSpec.upto fnPlatSpec)

/-- 'laws.FnPlatSwap', WHERE WHAT IT READS IS OF BULK AT MOST 1048576: true; the input reads as it did. -/
def fnPlatSwapUptoRow : OpenClaim := { program := "ytddpboaejjcicaa", sum := "5653a69f86444d511c34dd514aa9ca2bbb440db578a68eff7afa3a4286e71a74", func := "loop.example/hostel/laws.FnPlatSwap", spec := "fnPlatSwap", unfollowed := true, recurses := true, apart := false, narrowed := true }
def FnPlatSwapUptoSaid : Prop := fnPlatSwapUptoRow.holds Try.pinned (OpenSpec.upto fnPlatSwapSpec)

/-- 'laws.FnExactPlatOk', WHERE WHAT IT READS IS OF BULK AT MOST 1048576: true; the input reads as it did. -/
def fnExactPlatOkUptoRow : OpenClaim := { program := "ytddpboaejjcicaa", sum := "5653a69f86444d511c34dd514aa9ca2bbb440db578a68eff7afa3a4286e71a74", func := "loop.example/hostel/laws.FnExactPlatOk", spec := "fnExactPlatOk", apart := false, narrowed := true }
def FnExactPlatOkUptoSaid : Prop := fnExactPlatOkUptoRow.holds Try.pinned (OpenSpec.upto fnExactPlatOkSpec)

/-- 'laws.FnExactPlatSize', WHERE WHAT IT READS IS OF BULK AT MOST 1048576: true; the input reads as it did. -/
def fnExactPlatSizeUptoRow : OpenClaim := { program := "ytddpboaejjcicaa", sum := "5653a69f86444d511c34dd514aa9ca2bbb440db578a68eff7afa3a4286e71a74", func := "loop.example/hostel/laws.FnExactPlatSize", spec := "fnExactPlatSize", apart := false, narrowed := true }
def FnExactPlatSizeUptoSaid : Prop := fnExactPlatSizeUptoRow.holds Try.pinned (OpenSpec.upto fnExactPlatSizeSpec)

/-- 'laws.FnExactPlatReg', WHERE WHAT IT READS IS OF BULK AT MOST 1048576: true; the input reads as it did. -/
def fnExactPlatRegUptoRow : OpenClaim := { program := "ytddpboaejjcicaa", sum := "5653a69f86444d511c34dd514aa9ca2bbb440db578a68eff7afa3a4286e71a74", func := "loop.example/hostel/laws.FnExactPlatReg", spec := "fnExactPlatReg", apart := false, narrowed := true }
def FnExactPlatRegUptoSaid : Prop := fnExactPlatRegUptoRow.holds Try.pinned (OpenSpec.upto fnExactPlatRegSpec)

/-- 'laws.FnExactPlatBeat', WHERE WHAT IT READS IS OF BULK AT MOST 1048576: true; the input reads as it did. -/
def fnExactPlatBeatUptoRow : OpenClaim := { program := "ytddpboaejjcicaa", sum := "5653a69f86444d511c34dd514aa9ca2bbb440db578a68eff7afa3a4286e71a74", func := "loop.example/hostel/laws.FnExactPlatBeat", spec := "fnExactPlatBeat", apart := false, narrowed := true }
def FnExactPlatBeatUptoSaid : Prop := fnExactPlatBeatUptoRow.holds Try.pinned (OpenSpec.upto fnExactPlatBeatSpec)

/-- 'laws.FnExactPlatHead', WHERE WHAT IT READS IS OF BULK AT MOST 1048576: true; the input reads as it did. -/
def fnExactPlatHeadUptoRow : OpenClaim := { program := "ytddpboaejjcicaa", sum := "5653a69f86444d511c34dd514aa9ca2bbb440db578a68eff7afa3a4286e71a74", func := "loop.example/hostel/laws.FnExactPlatHead", spec := "fnExactPlatHead", apart := false, narrowed := true }
def FnExactPlatHeadUptoSaid : Prop := fnExactPlatHeadUptoRow.holds Try.pinned (OpenSpec.upto fnExactPlatHeadSpec)

/-- 'laws.FnExactPlatPage', WHERE WHAT IT READS IS OF BULK AT MOST 1048576: true; the input reads as it did. -/
def fnExactPlatPageUptoRow : OpenClaim := { program := "ytddpboaejjcicaa", sum := "5653a69f86444d511c34dd514aa9ca2bbb440db578a68eff7afa3a4286e71a74", func := "loop.example/hostel/laws.FnExactPlatPage", spec := "fnExactPlatPage", apart := false, narrowed := true }
def FnExactPlatPageUptoSaid : Prop := fnExactPlatPageUptoRow.holds Try.pinned (OpenSpec.upto fnExactPlatPageSpec)

/-- 'laws.FnExactPlatTag', WHERE WHAT IT READS IS OF BULK AT MOST 1048576: true; the input reads as it did. -/
def fnExactPlatTagUptoRow : OpenClaim := { program := "ytddpboaejjcicaa", sum := "5653a69f86444d511c34dd514aa9ca2bbb440db578a68eff7afa3a4286e71a74", func := "loop.example/hostel/laws.FnExactPlatTag", spec := "fnExactPlatTag", apart := false, narrowed := true }
def FnExactPlatTagUptoSaid : Prop := fnExactPlatTagUptoRow.holds Try.pinned (OpenSpec.upto fnExactPlatTagSpec)

/-- 'laws.FnExactPlatLink', WHERE WHAT IT READS IS OF BULK AT MOST 1048576: true; the input reads as it did. -/
def fnExactPlatLinkUptoRow : OpenClaim := { program := "ytddpboaejjcicaa", sum := "5653a69f86444d511c34dd514aa9ca2bbb440db578a68eff7afa3a4286e71a74", func := "loop.example/hostel/laws.FnExactPlatLink", spec := "fnExactPlatLink", apart := false, narrowed := true }
def FnExactPlatLinkUptoSaid : Prop := fnExactPlatLinkUptoRow.holds Try.pinned (OpenSpec.upto fnExactPlatLinkSpec)

/-- 'laws.FnExactPlatDesk', WHERE WHAT IT READS IS OF BULK AT MOST 1048576: true; the input reads as it did. -/
def fnExactPlatDeskUptoRow : OpenClaim := { program := "ytddpboaejjcicaa", sum := "5653a69f86444d511c34dd514aa9ca2bbb440db578a68eff7afa3a4286e71a74", func := "loop.example/hostel/laws.FnExactPlatDesk", spec := "fnExactPlatDesk", apart := false, narrowed := true }
def FnExactPlatDeskUptoSaid : Prop := fnExactPlatDeskUptoRow.holds Try.pinned (OpenSpec.upto fnExactPlatDeskSpec)

/-- 'laws.FnExactPlatFormat', WHERE WHAT IT READS IS OF BULK AT MOST 1048576: true; the input reads as it did. -/
def fnExactPlatFormatUptoRow : OpenClaim := { program := "ytddpboaejjcicaa", sum := "5653a69f86444d511c34dd514aa9ca2bbb440db578a68eff7afa3a4286e71a74", func := "loop.example/hostel/laws.FnExactPlatFormat", spec := "fnExactPlatFormat", apart := false, narrowed := true }
def FnExactPlatFormatUptoSaid : Prop := fnExactPlatFormatUptoRow.holds Try.pinned (OpenSpec.upto fnExactPlatFormatSpec)

/-- 'laws.FnExactPlatCheck', WHERE WHAT IT READS IS OF BULK AT MOST 1048576: true; the input reads as it did. -/
def fnExactPlatCheckUptoRow : OpenClaim := { program := "ytddpboaejjcicaa", sum := "5653a69f86444d511c34dd514aa9ca2bbb440db578a68eff7afa3a4286e71a74", func := "loop.example/hostel/laws.FnExactPlatCheck", spec := "fnExactPlatCheck", unfollowed := true, recurses := true, apart := false, narrowed := true }
def FnExactPlatCheckUptoSaid : Prop := fnExactPlatCheckUptoRow.holds Try.pinned (OpenSpec.upto fnExactPlatCheckSpec)

/-- 'laws.FnExactPlatLoad', WHERE WHAT IT READS IS OF BULK AT MOST 1048576: true; the input reads as it did. -/
def fnExactPlatLoadUptoRow : OpenClaim := { program := "ytddpboaejjcicaa", sum := "5653a69f86444d511c34dd514aa9ca2bbb440db578a68eff7afa3a4286e71a74", func := "loop.example/hostel/laws.FnExactPlatLoad", spec := "fnExactPlatLoad", unfollowed := true, recurses := true, apart := false, narrowed := true }
def FnExactPlatLoadUptoSaid : Prop := fnExactPlatLoadUptoRow.holds Try.pinned (OpenSpec.upto fnExactPlatLoadSpec)

/-- 'laws.FnExactPlatSwap', WHERE WHAT IT READS IS OF BULK AT MOST 1048576: true; the input reads as it did. -/
def fnExactPlatSwapUptoRow : OpenClaim := { program := "ytddpboaejjcicaa", sum := "5653a69f86444d511c34dd514aa9ca2bbb440db578a68eff7afa3a4286e71a74", func := "loop.example/hostel/laws.FnExactPlatSwap", spec := "fnExactPlatSwap", unfollowed := true, recurses := true, apart := false, narrowed := true }
def FnExactPlatSwapUptoSaid : Prop := fnExactPlatSwapUptoRow.holds Try.pinned (OpenSpec.upto fnExactPlatSwapSpec)

end Rows
end Go.Proofs.Ytddpboaejjcicaa

/- Guests in memory: what they are, and when they are ok. Over no program. -/
import Derived.Test.YtpfgldbmihbiiaaBk
import Derived.Test.YtpfgldbmihbiiaaPlat2
import Derived.Test.YtpfgldbmihbiiaaRw
namespace Go.Proofs.Ytpfgldbmihbiiaa.Gs
open Go.ChangeShapes Go.WideShapes Go.ChangeAt Go.RowKit
open Go.Proofs.Ytpfgldbmihbiiaa.Aid Go.Proofs.Ytpfgldbmihbiiaa.Lst Go.Proofs.Ytpfgldbmihbiiaa.Plat
open Go.Proofs.Ytpfgldbmihbiiaa.Book (Sx)
set_option maxRecDepth 100000

/- A guest: its numbers, and its two lists, wherever they lie. -/
structure Gx where
  up : Bool
  slot : Int
  epoch : Int
  busy : Bool
  ok : Int
  os : Int
  oa : Int
  ob : Int
  pc : Int
  k : Int
  n : Int
  seq : Int
  next : Int
  who : Int
  whoE : Int
  own : Bool
  time : Int
  was : Int
  door : Int
  beat : Int
  entry : Int
  snap : Sx
  plan : Sx
  code : Int
  val : Int
  count : Int

def Gx.cells (g : Gx) : List Value := (#[.bool g.up, .int .i64 g.slot, .int .i64 g.epoch, .bool g.busy, .int .i64 g.ok, .int .i64 g.os, .int .i64 g.oa, .int .i64 g.ob, .int .i64 g.pc, .int .i64 g.k, .int .i64 g.n, .int .i64 g.seq, .int .i64 g.next, .int .i64 g.who, .int .i64 g.whoE, .bool g.own, .int .i64 g.time, .int .u64 g.was, .int .u64 g.door, .int .u64 g.beat, .int .u64 g.entry, .slice g.snap.a g.snap.n g.snap.c, .slice g.plan.a g.plan.n g.plan.c, .int .i64 g.code, .int .i64 g.val, .int .i64 g.count] : Array Value).toList
theorem Gx.len (g : Gx) : g.cells.length = 26 := rfl
def Gx.At (g : Gx) (w : World) : Prop := Sl .u64 w g.snap.a g.snap.n g.snap.f ∧ Sl .u64 w g.plan.a g.plan.n g.plan.f
theorem Gx.At.later {g : Gx} {w w1 : World} (h : g.At w) (hb : Below w.heap.size w w1) : g.At w1 := ⟨h.1.later hb, h.2.later hb⟩
theorem Gx.At.drewN {g : Gx} {w : World} (h : g.At w) (q : Nat) : g.At (w.drewN q) := ⟨h.1.drewN q, h.2.drewN q⟩

/- How many words a house has without its desks. -/
def hS (s p : Int) : Int := 7 + 2 * s + 17 * p

/- The numbers are within their bounds. -/
def Fields (s p : Int) (g : Gx) : Prop := 0 ≤ g.slot ∧ g.slot < s ∧ 0 ≤ g.epoch ∧ g.epoch ≤ 4095 ∧ 0 ≤ g.next ∧ g.next ≤ 4095 ∧ 0 ≤ g.pc ∧ g.pc ≤ 26 ∧ 0 ≤ g.seq ∧ g.seq ≤ 1000001 ∧ 0 ≤ g.who ∧ g.who ≤ 7 ∧ 0 ≤ g.whoE ∧ g.whoE ≤ 4095 ∧ 0 ≤ g.n ∧ g.n ≤ 20 ∧ 0 ≤ g.k ∧ g.k ≤ hS s p ∧ (g.snap.n : Int) ≤ hS s p ∧ (g.plan.n : Int) ≤ 20 ∧ 0 ≤ g.time ∧ g.time ≤ 1048575
/- What was seen fits to where the guest stands. -/
def Place (s p : Int) (g : Gx) : Prop := (g.pc = 11 → (g.snap.n : Int) = g.k ∧ g.k < hS s p) ∧ (g.pc = 12 → (g.snap.n : Int) = hS s p ∧ 0 ≤ g.oa ∧ g.oa < s) ∧ (16 ≤ g.pc ∧ g.pc ≤ 21 → g.who < s) ∧ (g.pc = 13 ∨ g.pc = 14 → g.k ≤ (g.plan.n : Int)) ∧ (22 ≤ g.pc ∧ g.pc ≤ 24 → 1 ≤ g.k ∧ g.k ≤ g.n ∧ g.who < s ∧ (g.own = false ∨ g.n = (g.plan.n : Int)))
def Placed (g : Gx) : Prop := (g.busy = true ↔ g.pc ≠ 0) ∧ (g.busy = false ∨ g.os = g.slot)
def Gok (s p l : Int) (g : Gx) : Prop := okB s p l = true ∧ Placed g ∧ Fields s p g ∧ Place s p g

open Classical in
/- A bool that says whether P. -/
noncomputable def boolOf (P : Prop) : Bool := decide P
theorem boolOf_t {P : Prop} (h : P) : true = boolOf P := by unfold boolOf; simp [h]
theorem boolOf_f {P : Prop} (h : ¬ P) : false = boolOf P := by unfold boolOf; simp [h]

/- A call with a house and a guest in structs of its own. -/
structure Eg (w : World) (s p l : Int) (g : Gx) (W : World) : Prop where
  c : W.rangeAt w.heap.size 0 (ints [s, p, l])
  r : W.rangeAt (w.heap.size + 1) 0 g.cells
  b : Below w.heap.size w W
  lt : w.heap.size + 1 < W.heap.size
theorem Eg.start (w : World) (s p l : Int) (g : Gx) (t t' : TypeId) : Eg w s p l g ((w.alloc (.cells #[.int .i64 s, .int .i64 p, .int .i64 l] t)).alloc (.cells g.cells.toArray t')) :=
  ⟨range_lit #[.int .i64 s, .int .i64 p, .int .i64 l] (heap2_0 w _ _), range_lit g.cells.toArray (heap2_1 w _ _), below2 w _ _, by simp⟩
theorem Eg.later {w W W1 : World} {s p l : Int} {g : Gx} (h : Eg w s p l g W) (hb : Below W.heap.size W W1) : Eg w s p l g W1 :=
  ⟨range_below hb h.c (Nat.lt_of_succ_lt h.lt), range_below hb h.r h.lt, h.b.trans (hb.mono h.b.size), Nat.lt_of_lt_of_le h.lt hb.size⟩

/- A walk is halted ahead of an operation: what follows is hidden. -/
theorem halt_at {P : Program} {ops : Array Oper} {Q : Exit → Act → World → Prop} {rest : List Oper} {o : Oper} {a : Act} {w : World} (x : Op) (_ho : o.op = x) (h : Hid (wpList P ops Q (o :: rest) a w)) : wpList P ops Q (o :: rest) a w := h.out

end Go.Proofs.Ytpfgldbmihbiiaa.Gs

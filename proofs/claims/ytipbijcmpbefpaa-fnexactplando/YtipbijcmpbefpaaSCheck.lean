/- Of which house some words are, by the specification. Conditions: at most 1,000,000,000 words, each of 64 bits. -/
import Derived.Test.YtipbijcmpbefpaaCheck
import Derived.Test.YtipbijcmpbefpaaSpec
import Derived.Test.YtipbijcmpbefpaaFmt
import Derived.Deep.RegionHeld3
namespace Go.Proofs.Ytipbijcmpbefpaa.Plat
open Go.ChangeShapes Go.WideShapes Go.ChangeAt Go.RowKit
open Go.Proofs.Ytipbijcmpbefpaa.Words Go.Proofs.Ytipbijcmpbefpaa.Aid Go.Proofs.Ytipbijcmpbefpaa.Lst

theorem takeH {P : Program} {md : Region.Mode} {ops : Array Oper} {Q : Exit → Act → World → Prop} {S : World → Prop} {i : Nat} {oi : Oper} {v : Value} {d : Option Tmp} {fuel : Nat} {listed : Array Bool} {a : Act} {w : World} (hi : ops[i]? = some oi) (hd : oi.dst = d)
    (hs : Region.noSelect ops = true) (hf : Region.free md ops listed i = true) (hr : (Region.ready md ops listed).contains i = true)
    (hQ : ∀ c a w, Q (.panic c) (a.put d v) w → Q (.panic c) a w) (hy : YieldsIf P ops S oi v a) (hS : S w)
    (h : wpAnyH P md ops Q S fuel (listed.setIfInBounds i true) (a.put d v) w) : wpAnyH P md ops Q S (fuel + 1) listed a w := by
  subst hd
  exact wpAnyH_take hi hs hf hr hQ hy hS h

/- What the reading of a house rests on: two structs of the call's own, and the word. -/
structure CS (w0 : World) (b0 off : Nat) (x s p l : Int) (w : World) : Prop where
  r : w.rangeAt (w0.heap.size + 1) 0 (ints [s, p, l])
  t : w.there w0.heap.size 0 3
  c : w.cell? ⟨b0, off, none⟩ = some (.int .u64 x)
  b : Below w0.heap.size w0 w
  z : w0.heap.size + 2 ≤ w.heap.size

theorem CS.drew {w0 : World} {b0 off : Nat} {x s p l : Int} {w : World} (h : CS w0 b0 off x s p l w) : CS w0 b0 off x s p l w.drew := ⟨h.r, h.t, h.c, h.b.drew, h.z⟩
theorem CS.later {w0 : World} {b0 off : Nat} {x s p l : Int} {w w1 : World} (h : CS w0 b0 off x s p l w) (hb : Below w.heap.size w w1) : CS w0 b0 off x s p l w1 :=
  ⟨range_below hb h.r (by have := h.z; omega), there_below hb h.t (by have := h.z; omega), (hb.cell (p := ⟨b0, off, none⟩) (World.block_lt_of_cell? w _ h.c)).trans h.c, h.b.trans (hb.mono (by have := h.z; omega)), Nat.le_trans h.z hb.size⟩
theorem CS.start (w : World) (b0 off : Nat) (x s p l : Int) (t : TypeId) (hc : w.cell? ⟨b0, off, none⟩ = some (.int .u64 x)) : CS w b0 off x s p l ((w.alloc (.cells #[.int .i64 0, .int .i64 0, .int .i64 0] t)).alloc (.cells #[.int .i64 s, .int .i64 p, .int .i64 l] t)) :=
  ⟨range_lit (ints [s, p, l]).toArray (heap2_1 w _ _), there_lit (ints [0, 0, 0]).toArray (heap2_0 w _ _), ((below2 w _ _).cell (p := ⟨b0, off, none⟩) (World.block_lt_of_cell? w _ hc)).trans hc, below2 w _ _, by simp⟩

end Go.Proofs.Ytipbijcmpbefpaa.Plat

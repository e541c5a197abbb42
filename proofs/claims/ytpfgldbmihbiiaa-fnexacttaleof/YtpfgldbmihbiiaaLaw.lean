/- What a law of books rests on while it goes: structs of its own, and books in memory. -/
import Derived.Test.YtpfgldbmihbiiaaBk3
import Derived.Test.YtpfgldbmihbiiaaOpenBk
namespace Go.Proofs.Ytpfgldbmihbiiaa.Book
open Go.ChangeShapes Go.WideShapes Go.ChangeAt Go.RowKit
open Go.Proofs.Ytpfgldbmihbiiaa.Aid Go.Proofs.Ytpfgldbmihbiiaa.Lst
set_option maxRecDepth 100000

theorem takeB {P : Program} {md : Region.Mode} {ops : Array Oper} {Q : Exit → Act → World → Prop} {S : World → Prop} {i : Nat} {oi : Oper} {v : Value} {d : Option Tmp} {fuel : Nat} {listed : Array Bool} {a : Act} {w : World} (hi : ops[i]? = some oi) (hd : oi.dst = d)
    (hs : Region.noSelect ops = true) (hf : Region.free md ops listed i = true) (hr : (Region.ready md ops listed).contains i = true)
    (hQ : ∀ c a w, Q (.panic c) (a.put d v) w → Q (.panic c) a w) (hy : YieldsIf P ops S oi v a) (hS : S w)
    (h : wpAnyH P md ops Q S fuel (listed.setIfInBounds i true) (a.put d v) w) : wpAnyH P md ops Q S (fuel + 1) listed a w := by
  subst hd
  exact wpAnyH_take hi hs hf hr hQ hy hS h

structure St (w0 : World) (rs : List (Nat × List Value)) (bs : List Bx) (w : World) : Prop where
  r : ∀ p ∈ rs, w.rangeAt p.1 0 p.2 ∧ p.1 < w.heap.size
  a : ∀ b ∈ bs, b.At w
  b : Below w0.heap.size w0 w

theorem St.later {w0 w w1 : World} {rs : List (Nat × List Value)} {bs : List Bx} (h : St w0 rs bs w) (hb : Below w.heap.size w w1) : St w0 rs bs w1 :=
  ⟨fun p hp => ⟨range_below hb (h.r p hp).1 (h.r p hp).2, Nat.lt_of_lt_of_le (h.r p hp).2 hb.size⟩, fun b hi => (h.a b hi).later hb, h.b.trans (hb.mono h.b.size)⟩
theorem St.drew {w0 w : World} {rs : List (Nat × List Value)} {bs : List Bx} (h : St w0 rs bs w) : St w0 rs bs w.drew := ⟨h.r, h.a, ⟨h.b.os, h.b.tape, h.b.output, h.b.size, h.b.block⟩⟩
theorem St.book {w0 w : World} {rs : List (Nat × List Value)} {bs : List Bx} (h : St w0 rs bs w) {b : Bx} (hb : b.At w) : St w0 rs (b :: bs) w :=
  ⟨h.r, fun x hx => by
    rcases List.mem_cons.1 hx with rfl | hx
    · exact hb
    · exact h.a x hx, h.b⟩
theorem St.row {w0 w : World} {rs : List (Nat × List Value)} {bs : List Bx} (h : St w0 rs bs w) (C : Array Value) (t : TypeId) : St w0 ((w.heap.size, C.toList) :: rs) bs (w.alloc (.cells C t)) :=
  ⟨fun p hp => by
    rcases List.mem_cons.1 hp with rfl | hp
    · exact ⟨range_lit C (heap1_0 _ _), by simp⟩
    · exact ⟨range_below (below1 w _) (h.r p hp).1 (h.r p hp).2, by have := (h.r p hp).2; simp; omega⟩, fun b hi => (h.a b hi).later (below1 w _), h.b.trans ((below1 w _).mono h.b.size)⟩
theorem St.start {w : World} {bs : List Bx} (h : ∀ b ∈ bs, b.At w) : St w [] bs w := ⟨fun p hp => by simp at hp, h, Below.refl _ _⟩
theorem St.take {w0 w : World} {rs rs' : List (Nat × List Value)} {bs bs' : List Bx} (h : St w0 rs bs w) (hr : ∀ p ∈ rs', p ∈ rs) (hb : ∀ b ∈ bs', b ∈ bs) : St w0 rs' bs' w := ⟨fun p hp => h.r p (hr p hp), fun b hi => h.a b (hb b hi), h.b⟩

theorem total_m {x y : Bx} (h : x.m = y.m) : x.total = y.total := by
  simp only [Bx.m, Bm.mk.injEq, Sx.m, Prod.mk.injEq] at h
  simp only [Bx.total]
  obtain ⟨_, ⟨h1, _⟩, ⟨h2, _⟩, ⟨h3, _⟩, ⟨h4, _⟩, ⟨h5, _⟩, ⟨h6, _⟩, ⟨h7, _⟩, ⟨h8, _⟩⟩ := h
  omega

theorem nine {w : World} {k : Nat} {x : Bx} (h : w.rangeAt k 0 x.cells) : w.cell? ⟨k, 0, none⟩ = some (.int .i64 x.s) ∧ w.cell? ⟨k, 1, none⟩ = some (.slice x.p.a x.p.n x.p.c) ∧ w.cell? ⟨k, 2, none⟩ = some (.slice x.h0.a x.h0.n x.h0.c) ∧ w.cell? ⟨k, 3, none⟩ = some (.slice x.h1.a x.h1.n x.h1.c) ∧ w.cell? ⟨k, 4, none⟩ = some (.slice x.h2.a x.h2.n x.h2.c) ∧ w.cell? ⟨k, 5, none⟩ = some (.slice x.h3.a x.h3.n x.h3.c) ∧ w.cell? ⟨k, 6, none⟩ = some (.slice x.o.a x.o.n x.o.c) ∧ w.cell? ⟨k, 7, none⟩ = some (.slice x.i.a x.i.n x.i.c) ∧ w.cell? ⟨k, 8, none⟩ = some (.slice x.e.a x.e.n x.e.c) :=
  ⟨h 0 _ rfl, h 1 _ rfl, h 2 _ rfl, h 3 _ rfl, h 4 _ rfl, h 5 _ rfl, h 6 _ rfl, h 7 _ rfl, h 8 _ rfl⟩

end Go.Proofs.Ytpfgldbmihbiiaa.Book

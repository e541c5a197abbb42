/- Items that are handed in, opened; results in rows of their own. -/
import Derived.Test.YtpfgldbmihbiiaaTi6
import Derived.OpenShut
import Derived.Lib.SmallJoins
import Derived.Deep.Slices
namespace Go.Proofs.Ytpfgldbmihbiiaa.Ti
open Go.ChangeShapes Go.WideShapes Go.ChangeAt Go.RowKit
open Go.Proofs.Ytpfgldbmihbiiaa.Aid Go.Proofs.Ytpfgldbmihbiiaa.Lst Go.Proofs.Ytpfgldbmihbiiaa.Gs
open Go.Proofs.Ytpfgldbmihbiiaa.Book (Ck ck_lit takeB)
set_option maxRecDepth 100000
set_option linter.unusedVariables false

/- Nothing, or a block of one's own from B on, below C. -/
def Res (B C : Nat) (w : World) (a : Option Addr) (n : Nat) (g : Nat → Tx) : Prop := (n = 0 ∧ a = none) ∨ ∃ b, a = some ⟨b, 0, none⟩ ∧ B ≤ b ∧ b < C ∧ OwnT w b n g
theorem Res.row {B C : Nat} {w : World} {a : Option Addr} {n : Nat} {g : Nat → Tx} (h : Res B C w a n g) : RowT w a n g := by
  rcases h with ⟨h, -⟩ | ⟨b, rfl, -, -, h⟩
  · exact .inl h
  · exact h.row
theorem Res.later {B C : Nat} {w w1 : World} {a : Option Addr} {n : Nat} {g : Nat → Tx} (h : Res B C w a n g) (hb : Below w.heap.size w w1) : Res B C w1 a n g := by
  rcases h with h | ⟨b, e, h1, h2, h⟩
  · exact .inl h
  · exact .inr ⟨b, e, h1, h2, h.later hb⟩
theorem res_of {w : World} {base : Nat} {v : Value} {L : List Tx} (h : OwnV w base v L) : ∃ a c, v = .slice a L.length c ∧ Res base w.heap.size w a L.length (fun j => L.getD j default) := by
  obtain ⟨a, c, e, h⟩ := own_row h
  exact ⟨a, c, e, h⟩

/- Only blocks from B on, below C, have turned. -/
structure Turn (B C : Nat) (w w' : World) : Prop where
  os : w'.os = w.os
  tape : w'.tape = w.tape
  output : w'.output = w.output
  size : w'.heap.size = w.heap.size
  block : ∀ i, (i < B ∨ C ≤ i) → w'.heap[i]? = w.heap[i]?
theorem Turn.refl (B C : Nat) (w : World) : Turn B C w w := ⟨rfl, rfl, rfl, rfl, fun _ _ => rfl⟩
theorem But.turn {b B C : Nat} {w w' : World} (h : But b w w') (hB : B ≤ b) (hC : b < C) : Turn B C w w' := ⟨h.os, h.tape, h.output, h.size, fun i hi => h.block i (by omega)⟩
theorem Turn.below {B C : Nat} {w w' : World} (h : Turn B C w w') : Below B w w' := ⟨h.os, h.tape, h.output, Nat.le_of_eq h.size.symm, fun k hk => h.block k (.inl hk)⟩
theorem OwnT.turn {w w1 : World} {b B C n : Nat} {g : Nat → Tx} (h : OwnT w b n g) (hb : Turn B C w w1) (hne : b < B ∨ C ≤ b) : OwnT w1 b n g := fun j hj => by
  refine ⟨fun i v hv => ?_, fun i hi => ?_⟩
  · rw [World.cell?_of_block (w := w) (hb.block b hne)]; exact (h j hj).1 i v hv
  · rw [World.cell?_of_block (w := w) (hb.block b hne), World.frozen?_of_block (w := w) (hb.block b hne)]; exact (h j hj).2 i hi
theorem Res.turn {B C B' C' : Nat} {w w1 : World} {a : Option Addr} {n : Nat} {g : Nat → Tx} (h : Res B C w a n g) (hb : Turn B' C' w w1) (hne : C ≤ B' ∨ C' ≤ B) : Res B C w1 a n g := by
  rcases h with h | ⟨b, e, h1, h2, h⟩
  · exact .inl h
  · exact .inr ⟨b, e, h1, h2, h.turn hb (by omega)⟩

theorem marknone_any (c : Nat) (k0 : Int) (w : World) :
    Calls Try.prog 15 #[.slice none 0 c, .int .i64 k0] w fun e w' => e = .returned (.int .i64 k0) ∧ w' = w := by
  go_enter Try.func15, Try.ntmps15
  go_wp2_with (fail)
  refine wp_loop_rounds 1 ?_
  rw [rounds_succ]
  go_wp2_with (fail)
  go_ret
  exact ⟨rfl, rfl⟩
theorem markres_any (B C : Nat) (a : Option Addr) (n c : Nat) (g : Nat → Tx) (k0 : Int) (w : World) (h : Res B C w a n g) (hn : n ≤ 10000000) (h0 : 0 ≤ k0) (h1 : k0 ≤ 1000000000000000) :
    Calls Try.prog 15 #[.slice a n c, .int .i64 k0] w fun e w' => e = .returned (.int .i64 (k0 + 8 * n)) ∧ Res B C w' a n (fun j => mT (k0 + 8 * j)) ∧ Turn B C w w' := by
  rcases h with ⟨rfl, rfl⟩ | ⟨b, rfl, hB, hC, h⟩
  · refine (marknone_any c k0 w).mono ?_
    rintro e w' ⟨rfl, rfl⟩
    exact ⟨by simp, .inl ⟨rfl, rfl⟩, Turn.refl _ _ _⟩
  · refine (markitems_any b n c g k0 w h hn h0 h1).mono ?_
    rintro e w' ⟨rfl, h2, h3⟩
    exact ⟨rfl, .inr ⟨b, rfl, hB, hC, h2⟩, But.turn h3 hB hC⟩

set_option maxHeartbeats 1000000 in
theorem open_item {H : Type} {enc : TypeId × Value → H} {w : World} {fuel : Nat} {cs : List Value} {y : DataW H × List MemPlace} (hl : cs.length = 8) (h : DataW.trod enc Try.prog w 0 (fun _ => true) true fuel 63 cs = some y) :
    ∃ x : Tx, cs = x.cells := by
  match cs, hl with
  | [c0, c1, c2, c3, c4, c5, c6, c7], _ =>
  obtain ⟨xs, n, _, _, _, hlen, hfl⟩ := DataW.trod_struct Try.underlying63 h
  have k1 : Try.prog.cellsOf 3 = 1 := by kernel_rfl
  have k3 : Try.prog.cellsOf 4 = 1 := by kernel_rfl
  have k5 : Try.prog.cellsOf 61 = 4 := by kernel_rfl
  match xs, hlen with
  | [y0, y1, y2, y3, y4], _ =>
    have g0 := hfl 0 _ rfl
    have g1 := hfl 1 _ rfl
    have g2 := hfl 2 _ rfl
    have g3 := hfl 3 _ rfl
    have g4 := hfl 4 _ rfl
    simp [k1, k3, k5] at g0 g1 g2 g3 g4
    obtain ⟨x0, e0, -⟩ := DataW.trod_bool Try.underlying4 g0
    obtain ⟨x1, e1, -, -⟩ := DataW.trod_int Try.underlying3 g1
    obtain ⟨ys, m, _, _, _, hlen2, hfl2⟩ := DataW.trod_struct Try.underlying61 g2
    obtain ⟨x3, e3, -, -⟩ := DataW.trod_int Try.underlying3 g3
    obtain ⟨x4, e4, -, -⟩ := DataW.trod_int Try.underlying3 g4
    match ys, hlen2 with
    | [z0, z1, z2, z3], _ =>
    have o0 := hfl2 0 _ rfl
    have o1 := hfl2 1 _ rfl
    have o2 := hfl2 2 _ rfl
    have o3 := hfl2 3 _ rfl
    simp [k1] at o0 o1 o2 o3
    obtain ⟨p0, f0, -, -⟩ := DataW.trod_int Try.underlying3 o0
    obtain ⟨p1, f1, -, -⟩ := DataW.trod_int Try.underlying3 o1
    obtain ⟨p2, f2, -, -⟩ := DataW.trod_int Try.underlying3 o2
    obtain ⟨p3, f3, -, -⟩ := DataW.trod_int Try.underlying3 o3
    simp at f0 f1 f2 f3 e0 e1 e3 e4
    subst e0 e1 e3 e4 f0 f1 f2 f3
    exact ⟨⟨x0, x1, p0, p1, p2, p3, x3, x4⟩, rfl⟩

theorem open_items {H : Type} {enc : TypeId × Value → H} {w : World} {r : Reach} {b0 : Nat} {v : Value} {d : DataW H} {p : List MemPlace} (hv : Value.okWide Try.prog w r b0 34 v) (h : DataW.Trod enc Try.prog w 0 (fun _ => true) true 34 v d p) :
    ∃ (a : Option Addr) (n c : Nat) (g : Nat → Tx), v = .slice a n c ∧ RowT w a n g ∧ n ≤ maxLen := by
  obtain ⟨a, n, c, rfl⟩ := okWide_slice Try.underlying34 hv
  obtain ⟨fuel, hf⟩ := h
  have k3 : Try.prog.cellsOf 63 = 8 := by kernel_rfl
  rcases Go.Deep.open_slice Try.underlying34 hf with ⟨hcs, _⟩ | ⟨x, len, cap, m, fu, D, Pl, hcs, -, hl, hm, hmm, -, hx⟩
  · simp [Value.cells] at hcs
    obtain ⟨rfl, rfl, rfl⟩ := hcs
    exact ⟨none, 0, 0, fun _ => default, rfl, .inl rfl, Nat.zero_le _⟩
  · simp [Value.cells] at hcs hmm
    obtain ⟨rfl, rfl, rfl⟩ := hcs
    subst hmm
    rw [k3] at hx
    obtain ⟨g, hg⟩ := Go.Deep.choose_lt (α := Tx) (p := fun i g => (∀ j v, g.cells[j]? = some v → w.cell? ((x.add (i * 8)).add j) = some v)) (fun i hi => by
      obtain ⟨cs', h1, h2⟩ := hx i hi
      obtain ⟨_, hlen', hcell⟩ := World.cells?_some h1
      obtain ⟨g, rfl⟩ := open_item hlen' h2
      refine ⟨g, fun j v hj => ?_⟩
      have hj8 : j < 8 := by have := (List.getElem?_eq_some_iff.1 hj).1; rwa [Tx.len] at this
      rw [hcell j hj8]
      exact hj)
    refine ⟨some x, _, _, g, rfl, ?_, Nat.le_trans hl hm⟩
    by_cases h0 : n = 0
    · exact .inl h0
    · have c := hg 0 (by omega) 0 _ rfl
      obtain ⟨b, off, spot⟩ := x
      have hs : spot = none := by simpa [Addr.add] using World.cell?_spot c
      subst hs
      refine .inr ⟨b, off, rfl, fun j hj i u hu => ?_⟩
      have q := hg j (by omega) i u hu
      rw [Addr.add_mid, Addr.add_mid] at q
      exact q

end Go.Proofs.Ytpfgldbmihbiiaa.Ti

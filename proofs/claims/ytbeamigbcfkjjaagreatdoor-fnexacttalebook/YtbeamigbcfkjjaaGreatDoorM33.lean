import Derived.Test.YtbeamigbcfkjjaaGreatDoorM32
import Derived.OpenShut
import Derived.Lib.SmallJoins
import Derived.Deep.Slices
import Derived.Test.YtbeamigbcfkjjaaGreatDoorTb3

/- Items that are handed in, opened; results in rows of their own. -/
namespace Go.Proofs.YtbeamigbcfkjjaaGreatDoor.Ti
open Go.ChangeShapes Go.WideShapes Go.ChangeAt Go.RowKit
open Go.Proofs.YtbeamigbcfkjjaaGreatDoor.Aid Go.Proofs.YtbeamigbcfkjjaaGreatDoor.Lst Go.Proofs.YtbeamigbcfkjjaaGreatDoor.Gs
open Go.Proofs.YtbeamigbcfkjjaaGreatDoor.Book (Ck ck_lit takeB)
set_option maxRecDepth 100000
set_option linter.unusedVariables false

/- Nothing, or a block of one's own from B on, below C. -/
def Res (B C : Nat) (w : World) (a : Option Addr) (n : Nat) (g : Nat → Tx) : Prop := (n = 0 ∧ a = none) ∨ ∃ b, a = some ⟨b, 0, none⟩ ∧ B ≤ b ∧ b < C ∧ OwnT w b n g
theorem Res.row {B C : Nat} {w : World} {a : Option Addr} {n : Nat} {g : Nat → Tx} (h : Res B C w a n g) : RowT w a n g := by
  rcases h with ⟨h, -⟩ | ⟨b, rfl, -, -, h⟩
  · exact .inl h
  · exact h.row
theorem Res.later {B C : Nat} {w w1 : World} {a : Option Addr} {n : Nat} {g : Nat → Tx} (h : Res B C w a n g) (hb : Below w.heap.size w w1) : Res B C w1 a n g := by
  rcases h with h | ⟨b, e, h1, h2, h⟩
  · exact .inl h
  · exact .inr ⟨b, e, h1, h2, h.later hb⟩
theorem res_of {w : World} {base : Nat} {v : Value} {L : List Tx} (h : OwnV w base v L) : ∃ a c, v = .slice a L.length c ∧ Res base w.heap.size w a L.length (fun j => L.getD j default) := by
  obtain ⟨a, c, e, h⟩ := own_row h
  exact ⟨a, c, e, h⟩

/- Only blocks from B on, below C, have turned. -/
structure Turn (B C : Nat) (w w' : World) : Prop where
  os : w'.os = w.os
  tape : w'.tape = w.tape
  output : w'.output = w.output
  size : w'.heap.size = w.heap.size
  block : ∀ i, (i < B ∨ C ≤ i) → w'.heap[i]? = w.heap[i]?
theorem Turn.refl (B C : Nat) (w : World) : Turn B C w w := ⟨rfl, rfl, rfl, rfl, fun _ _ => rfl⟩
theorem But.turn {b B C : Nat} {w w' : World} (h : But b w w') (hB : B ≤ b) (hC : b < C) : Turn B C w w' := ⟨h.os, h.tape, h.output, h.size, fun i hi => h.block i (by omega)⟩
theorem Turn.below {B C : Nat} {w w' : World} (h : Turn B C w w') : Below B w w' := ⟨h.os, h.tape, h.output, Nat.le_of_eq h.size.symm, fun k hk => h.block k (.inl hk)⟩
theorem OwnT.turn {w w1 : World} {b B C n : Nat} {g : Nat → Tx} (h : OwnT w b n g) (hb : Turn B C w w1) (hne : b < B ∨ C ≤ b) : OwnT w1 b n g := fun j hj => by
  refine ⟨fun i v hv => ?_, fun i hi => ?_⟩
  · rw [World.cell?_of_block (w := w) (hb.block b hne)]; exact (h j hj).1 i v hv
  · rw [World.cell?_of_block (w := w) (hb.block b hne), World.frozen?_of_block (w := w) (hb.block b hne)]; exact (h j hj).2 i hi
theorem Res.turn {B C B' C' : Nat} {w w1 : World} {a : Option Addr} {n : Nat} {g : Nat → Tx} (h : Res B C w a n g) (hb : Turn B' C' w w1) (hne : C ≤ B' ∨ C' ≤ B) : Res B C w1 a n g := by
  rcases h with h | ⟨b, e, h1, h2, h⟩
  · exact .inl h
  · exact .inr ⟨b, e, h1, h2, h.turn hb (by omega)⟩

theorem marknone_any (c : Nat) (k0 : Int) (w : World) :
    Calls Tryz.prog 13 #[.slice none 0 c, .int .i64 k0] w fun e w' => e = .returned (.int .i64 k0) ∧ w' = w := by
  go_enter Tryz.func13, Tryz.ntmps13
  go_wp2_with (fail)
  refine wp_loop_rounds 1 ?_
  rw [rounds_succ]
  go_wp2_with (fail)
  go_ret
  exact ⟨rfl, rfl⟩
theorem markres_any (B C : Nat) (a : Option Addr) (n c : Nat) (g : Nat → Tx) (k0 : Int) (w : World) (h : Res B C w a n g) (hn : n ≤ 10000000) (h0 : 0 ≤ k0) (h1 : k0 ≤ 1000000000000000) :
    Calls Tryz.prog 13 #[.slice a n c, .int .i64 k0] w fun e w' => e = .returned (.int .i64 (k0 + 8 * n)) ∧ Res B C w' a n (fun j => mT (k0 + 8 * j)) ∧ Turn B C w w' := by
  rcases h with ⟨rfl, rfl⟩ | ⟨b, rfl, hB, hC, h⟩
  · refine (marknone_any c k0 w).mono ?_
    rintro e w' ⟨rfl, rfl⟩
    exact ⟨by simp, .inl ⟨rfl, rfl⟩, Turn.refl _ _ _⟩
  · refine (markitems_any b n c g k0 w h hn h0 h1).mono ?_
    rintro e w' ⟨rfl, h2, h3⟩
    exact ⟨rfl, .inr ⟨b, rfl, hB, hC, h2⟩, But.turn h3 hB hC⟩

set_option maxHeartbeats 1000000 in
theorem open_item {H : Type} {enc : TypeId × Value → H} {w : World} {fuel : Nat} {cs : List Value} {y : DataW H × List MemPlace} (hl : cs.length = 8) (h : DataW.trod enc Tryz.prog w 0 (fun _ => true) true fuel 56 cs = some y) :
    ∃ x : Tx, cs = x.cells := by
  match cs, hl with
  | [c0, c1, c2, c3, c4, c5, c6, c7], _ =>
  obtain ⟨xs, n, _, _, _, hlen, hfl⟩ := DataW.trod_struct Tryz.underlying56 h
  have k1 : Tryz.prog.cellsOf 3 = 1 := by kernel_rfl
  have k3 : Tryz.prog.cellsOf 4 = 1 := by kernel_rfl
  have k5 : Tryz.prog.cellsOf 54 = 4 := by kernel_rfl
  match xs, hlen with
  | [y0, y1, y2, y3, y4], _ =>
    have g0 := hfl 0 _ rfl
    have g1 := hfl 1 _ rfl
    have g2 := hfl 2 _ rfl
    have g3 := hfl 3 _ rfl
    have g4 := hfl 4 _ rfl
    simp [k1, k3, k5] at g0 g1 g2 g3 g4
    obtain ⟨x0, e0, -⟩ := DataW.trod_bool Tryz.underlying4 g0
    obtain ⟨x1, e1, -, -⟩ := DataW.trod_int Tryz.underlying3 g1
    obtain ⟨ys, m, _, _, _, hlen2, hfl2⟩ := DataW.trod_struct Tryz.underlying54 g2
    obtain ⟨x3, e3, -, -⟩ := DataW.trod_int Tryz.underlying3 g3
    obtain ⟨x4, e4, -, -⟩ := DataW.trod_int Tryz.underlying3 g4
    match ys, hlen2 with
    | [z0, z1, z2, z3], _ =>
    have o0 := hfl2 0 _ rfl
    have o1 := hfl2 1 _ rfl
    have o2 := hfl2 2 _ rfl
    have o3 := hfl2 3 _ rfl
    simp [k1] at o0 o1 o2 o3
    obtain ⟨p0, f0, -, -⟩ := DataW.trod_int Tryz.underlying3 o0
    obtain ⟨p1, f1, -, -⟩ := DataW.trod_int Tryz.underlying3 o1
    obtain ⟨p2, f2, -, -⟩ := DataW.trod_int Tryz.underlying3 o2
    obtain ⟨p3, f3, -, -⟩ := DataW.trod_int Tryz.underlying3 o3
    simp at f0 f1 f2 f3 e0 e1 e3 e4
    subst e0 e1 e3 e4 f0 f1 f2 f3
    exact ⟨⟨x0, x1, p0, p1, p2, p3, x3, x4⟩, rfl⟩

theorem open_items {H : Type} {enc : TypeId × Value → H} {w : World} {r : Reach} {b0 : Nat} {v : Value} {d : DataW H} {p : List MemPlace} (hv : Value.okWide Tryz.prog w r b0 26 v) (h : DataW.Trod enc Tryz.prog w 0 (fun _ => true) true 26 v d p) :
    ∃ (a : Option Addr) (n c : Nat) (g : Nat → Tx), v = .slice a n c ∧ RowT w a n g ∧ n ≤ maxLen := by
  obtain ⟨a, n, c, rfl⟩ := okWide_slice Tryz.underlying26 hv
  obtain ⟨fuel, hf⟩ := h
  have k3 : Tryz.prog.cellsOf 56 = 8 := by kernel_rfl
  rcases Go.Deep.open_slice Tryz.underlying26 hf with ⟨hcs, _⟩ | ⟨x, len, cap, m, fu, D, Pl, hcs, -, hl, hm, hmm, -, hx⟩
  · simp [Value.cells] at hcs
    obtain ⟨rfl, rfl, rfl⟩ := hcs
    exact ⟨none, 0, 0, fun _ => default, rfl, .inl rfl, Nat.zero_le _⟩
  · simp [Value.cells] at hcs hmm
    obtain ⟨rfl, rfl, rfl⟩ := hcs
    subst hmm
    rw [k3] at hx
    obtain ⟨g, hg⟩ := Go.Deep.choose_lt (α := Tx) (p := fun i g => (∀ j v, g.cells[j]? = some v → w.cell? ((x.add (i * 8)).add j) = some v)) (fun i hi => by
      obtain ⟨cs', h1, h2⟩ := hx i hi
      obtain ⟨_, hlen', hcell⟩ := World.cells?_some h1
      obtain ⟨g, rfl⟩ := open_item hlen' h2
      refine ⟨g, fun j v hj => ?_⟩
      have hj8 : j < 8 := by have := (List.getElem?_eq_some_iff.1 hj).1; rwa [Tx.len] at this
      rw [hcell j hj8]
      exact hj)
    refine ⟨some x, _, _, g, rfl, ?_, Nat.le_trans hl hm⟩
    by_cases h0 : n = 0
    · exact .inl h0
    · have c := hg 0 (by omega) 0 _ rfl
      obtain ⟨b, off, spot⟩ := x
      have hs : spot = none := by simpa [Addr.add] using World.cell?_spot c
      subst hs
      refine .inr ⟨b, off, rfl, fun j hj i u hu => ?_⟩
      have q := hg j (by omega) i u hu
      rw [Addr.add_mid, Addr.add_mid] at q
      exact q

end Go.Proofs.YtbeamigbcfkjjaaGreatDoor.Ti

/- What the law of TaleBook rests on. -/
namespace Go.Proofs.YtbeamigbcfkjjaaGreatDoor.Dra
open Go.ChangeShapes Go.WideShapes Go.ChangeAt Go.RowKit
open Go.Proofs.YtbeamigbcfkjjaaGreatDoor.Aid Go.Proofs.YtbeamigbcfkjjaaGreatDoor.Lst Go.Proofs.YtbeamigbcfkjjaaGreatDoor.Book Go.Proofs.YtbeamigbcfkjjaaGreatDoor.Rin
set_option maxRecDepth 100000
set_option linter.unusedVariables false
theorem laid {w W : World} {rs : List (Nat × List Value)} {bs : List Bx} (h : St w rs bs W) (d : Bx) (T : TypeId) : St w ((W.heap.size, d.cells) :: rs) bs ((W.alloc (.cells #[.int .i64 0, .slice none 0 0, .slice none 0 0, .slice none 0 0, .slice none 0 0, .slice none 0 0, .slice none 0 0, .slice none 0 0, .slice none 0 0] T)).setCells W.heap.size 0 d.cells.toArray.toList) := by
  obtain ⟨m1, m2, m3⟩ := mk_book W T d
  have g := h.later m3
  exact ⟨fun p hp => by
    rcases List.mem_cons.1 hp with rfl | hp
    · exact ⟨m2.range, m2.lt⟩
    · exact g.r p hp, g.a, g.b⟩
theorem res_only {B C B' C' : Nat} {w w1 : World} {a : Option Addr} {n : Nat} {g : Nat → Ti.Tx} (h : Ti.Res B C w a n g) (ho : Only B' C' w w1) (hC : C ≤ w.heap.size) (hne : C ≤ B' ∨ C' ≤ B) : Ti.Res B C w1 a n g := by
  rcases h with h | ⟨b, e, h1, h2, h⟩
  · exact .inl h
  · refine .inr ⟨b, e, h1, h2, fun j hj => ⟨fun i v hv => ?_, fun i hi => ?_⟩⟩
    · rw [ho.cell (k := b) (by omega) (by omega)]; exact (h j hj).1 i v hv
    · rw [ho.cell (k := b) (by omega) (by omega), ho.frozen (k := b) (by omega) (by omega)]; exact (h j hj).2 i hi
theorem turn_only {B C : Nat} {w w1 : World} (h : Ti.Turn B C w w1) : Only B C w w1 := ⟨h.os, h.tape, h.output, Nat.le_of_eq h.size.symm, fun k _ hk => h.block k hk⟩
theorem hrun_of {d0 d : Bx} {n : Nat} {g : Nat → Ti.Tx} {r : Bool} (h : TbS d0 n g d r) : OkP d0 → n ≤ 2000 → ∃ e s, RunS g d0 n e s := by
  rcases h with ⟨h, -, -⟩ | ⟨-, h⟩
  · exact fun k l => absurd ⟨k, l⟩ h
  · exact fun _ _ => ⟨d, r, h⟩
theorem tbs_total {b d : Bx} {n : Nat} {g : Nat → Ti.Tx} {r : Bool} (h : TbS b n g d r) : d.total ≤ 1000 := by
  rcases h with ⟨_, e, _⟩ | ⟨⟨k, _⟩, h⟩
  · simp only [noneM, none1, Bx.m, Bm.mk.injEq, Sx.m, Prod.mk.injEq] at e
    obtain ⟨_, ⟨h1, _⟩, ⟨h2, _⟩, ⟨h3, _⟩, ⟨h4, _⟩, ⟨h5, _⟩, ⟨h6, _⟩, ⟨h7, _⟩, ⟨h8, _⟩⟩ := e
    simp only [Bx.total]
    omega
  · exact ok_total (runs_ok k h)
theorem copy_res (a : Option Addr) (n c : Nat) (g : Nat → Ti.Tx) (w : World) (h : Ti.RowT w a n g) (hn : n ≤ 10000000) :
    Calls Tryz.prog 8 #[.slice a n c] w fun e w' => ∃ b, e = .returned (.slice b n n) ∧ Ti.Res w.heap.size w'.heap.size w' b n g ∧ Below w.heap.size w w' := by
  refine (Ti.toitems_any a n c g w h hn).mono ?_
  rintro e w' ⟨rfl, ho, hb, hz⟩
  exact ⟨_, rfl, .inr ⟨w.heap.size, rfl, Nat.le_refl _, hz, ho⟩, hb⟩
/- What stands behind a base: new rows, new books of one's own. -/
structure Lz (w V : World) (rs : List (Nat × List Value)) (bs : List Bx) (ns : List (Nat × List Value)) (os : List (Bx × Nat × Nat)) (W : World) : Prop where
  base : St w rs bs V
  be : Below V.heap.size V W
  n : ∀ p ∈ ns, W.rangeAt p.1 0 p.2 ∧ p.1 < W.heap.size
  o : ∀ p ∈ os, p.1.Own p.2.1 p.2.2 W ∧ p.2.2 ≤ W.heap.size
theorem Lz.start {w V : World} {rs : List (Nat × List Value)} {bs : List Bx} (h : St w rs bs V) : Lz w V rs bs [] [] V := ⟨h, Below.refl _ _, fun p hp => by simp at hp, fun p hp => by simp at hp⟩
theorem Lz.st {w V W : World} {rs ns : List (Nat × List Value)} {bs : List Bx} {os : List (Bx × Nat × Nat)} (h : Lz w V rs bs ns os W) : St w rs bs W := h.base.later h.be
theorem Lz.later {w V W W1 : World} {rs ns : List (Nat × List Value)} {bs : List Bx} {os : List (Bx × Nat × Nat)} (h : Lz w V rs bs ns os W) (hb : Below W.heap.size W W1) : Lz w V rs bs ns os W1 :=
  ⟨h.base, h.be.trans (hb.mono h.be.size), fun p hp => ⟨range_below hb (h.n p hp).1 (h.n p hp).2, Nat.lt_of_lt_of_le (h.n p hp).2 hb.size⟩, fun p hp => ⟨(h.o p hp).1.later hb, Nat.le_trans (h.o p hp).2 hb.size⟩⟩
theorem Lz.only {w V W W1 : World} {rs ns : List (Nat × List Value)} {bs : List Bx} {os : List (Bx × Nat × Nat)} {B C : Nat} (h : Lz w V rs bs ns os W) (ho : Only B C W W1) (hB : V.heap.size ≤ B) (hn : ∀ p ∈ ns, p.1 < B ∨ C ≤ p.1) (hs : ∀ p ∈ os, p.2.2 ≤ B ∨ C ≤ p.2.1) : Lz w V rs bs ns os W1 :=
  ⟨h.base, ⟨ho.os.trans h.be.os, ho.tape.trans h.be.tape, ho.output.trans h.be.output, Nat.le_trans h.be.size ho.size, fun k hk => by rw [ho.block k (Nat.lt_of_lt_of_le hk h.be.size) (.inl (by omega)), h.be.block k hk]⟩,
   fun p hp => ⟨fun j x hx => by rw [ho.cell (h.n p hp).2 (hn p hp)]; exact (h.n p hp).1 j x hx, Nat.lt_of_lt_of_le (h.n p hp).2 ho.size⟩, fun p hp => ⟨(h.o p hp).1.only ho (hs p hp), Nat.le_trans (h.o p hp).2 ho.size⟩⟩
theorem Lz.own {w V W : World} {rs ns : List (Nat × List Value)} {bs : List Bx} {os : List (Bx × Nat × Nat)} (h : Lz w V rs bs ns os W) {b : Bx} {B C : Nat} (hb : b.Own B C W) (hC : C ≤ W.heap.size) : Lz w V rs bs ns ((b, B, C) :: os) W :=
  ⟨h.base, h.be, h.n, fun p hp => by
    rcases List.mem_cons.1 hp with rfl | hp
    · exact ⟨hb, hC⟩
    · exact h.o p hp⟩
theorem Lz.put {w V W : World} {rs ns : List (Nat × List Value)} {bs : List Bx} {os : List (Bx × Nat × Nat)} (h : Lz w V rs bs ns os W) (d : Bx) (T : TypeId) : Lz w V rs bs ((W.heap.size, d.cells) :: ns) os ((W.alloc (.cells #[.int .i64 0, .slice none 0 0, .slice none 0 0, .slice none 0 0, .slice none 0 0, .slice none 0 0, .slice none 0 0, .slice none 0 0, .slice none 0 0] T)).setCells W.heap.size 0 d.cells.toArray.toList) := by
  obtain ⟨m1, m2, m3⟩ := mk_book W T d
  have g := h.later m3
  exact ⟨g.base, g.be, fun p hp => by
    rcases List.mem_cons.1 hp with rfl | hp
    · exact ⟨m2.range, m2.lt⟩
    · exact g.n p hp, g.o⟩
theorem Lz.take {w V W : World} {rs ns ns' : List (Nat × List Value)} {bs : List Bx} {os os' : List (Bx × Nat × Nat)} (h : Lz w V rs bs ns os W) (hn : ∀ p ∈ ns', p ∈ ns) (ho : ∀ p ∈ os', p ∈ os) : Lz w V rs bs ns' os' W := ⟨h.base, h.be, fun p hp => h.n p (hn p hp), fun p hp => h.o p (ho p hp)⟩
theorem Lz.swap {w V W : World} {rs ns : List (Nat × List Value)} {bs : List Bx} {os os' : List (Bx × Nat × Nat)} (h : Lz w V rs bs ns os W) (ho : ∀ p ∈ os', p.1.Own p.2.1 p.2.2 W ∧ p.2.2 ≤ W.heap.size) : Lz w V rs bs ns os' W := ⟨h.base, h.be, h.n, ho⟩
theorem Lz.sb {w V W : World} {rs ns : List (Nat × List Value)} {bs : List Bx} {os : List (Bx × Nat × Nat)} (h : Lz w V rs bs ns os W) (b : Bx) (hb : b.At W) : Sb w W (ns ++ rs) (b :: bs) W :=
  Sb.refl ⟨fun p hp => by
    rcases List.mem_append.1 hp with hp | hp
    · exact h.n p hp
    · exact h.st.r p hp, fun c hc => by
    rcases List.mem_cons.1 hc with rfl | hc
    · exact hb
    · exact h.st.a c hc, h.st.b⟩

end Go.Proofs.YtbeamigbcfkjjaaGreatDoor.Dra

import Derived.Test.YtbipolfbkemmpaaDoorM17

/- In the middle of a call: another call has answered, its book is the variable's; the first of a list is taken off: over no program. -/
namespace Go.Proofs.YtbipolfbkemmpaaDoor.Book
open Go.ChangeShapes Go.WideShapes Go.ChangeAt Go.RowKit
open Aid Lst
set_option maxRecDepth 100000
set_option linter.unusedVariables false

/- A call has answered: what stood in this call's own cells stands. -/
structure Mid (w0 : World) (b0 : Bx) (B : Nat) (b c : Bx) (w : World) : Prop where
  e : Ck w w0.heap.size b.cells
  t : Ck w (w0.heap.size + 1) [.int .i64 0, .slice none 0 0, .slice none 0 0, .slice none 0 0, .slice none 0 0, .slice none 0 0, .slice none 0 0, .slice none 0 0, .slice none 0 0]
  h : c.Hl B w
  k : ∀ i, c.Lies i → b0.Lies i ∨ w0.heap.size + 2 ≤ i
  l : ∀ i, b0.Lies i → i < w0.heap.size
  f : Fr b0 w0 w
  z : w0.heap.size + 2 ≤ w.heap.size
theorem ck_block {w w' : World} {i : Nat} {cs : List Value} (h : Ck w i cs) (hb : w'.heap[i]? = w.heap[i]?) : Ck w' i cs := fun j v hv => by
  rw [World.cell?_of_block (w := w) hb, World.frozen?_of_block (w := w) hb]; exact h j v hv
theorem Dn.call {w0 w w' : World} {b0 b c : Bx} {B : Nat} (h : Dn w0 b0 B b w) (hc : c.Hl B w') (f : Fr b w w') (l : ∀ i, c.Lies i → b.Lies i ∨ w.heap.size ≤ i) : Mid w0 b0 B b c w' := by
  have z := h.z
  have nl : ∀ i, i = w0.heap.size ∨ i = w0.heap.size + 1 → ¬ b.Lies i := fun i hi g => by
    rcases h.k i g with q | q
    · have := h.l i q; omega
    · omega
  refine ⟨ck_block h.e (f.block _ (by omega) (nl _ (.inl rfl))), ck_block h.t (f.block _ (by omega) (nl _ (.inr rfl))), hc, fun i hi => ?_, h.l, h.f.trans f (fun i hi g => ?_), Nat.le_trans z f.size⟩
  · rcases l i hi with g | g
    · exact h.k i g
    · exact .inr (by omega)
  · rcases h.k i g with q | q
    · exact q
    · omega

/- Its book is the answer. -/
theorem Mid.ans {w0 w : World} {b0 d b : Bx} {B : Nat} (h : Mid w0 b0 B d b w) :
    ∃ w1 : World, w1 = (((((((((w.setCell ⟨w0.heap.size + 1, 0, none⟩ (.int .i64 b.s)).setCell ⟨w0.heap.size + 1, 1, none⟩ (.slice b.p.a b.p.n b.p.c)).setCell ⟨w0.heap.size + 1, 2, none⟩ (.slice b.h0.a b.h0.n b.h0.c)).setCell ⟨w0.heap.size + 1, 3, none⟩ (.slice b.h1.a b.h1.n b.h1.c)).setCell ⟨w0.heap.size + 1, 4, none⟩ (.slice b.h2.a b.h2.n b.h2.c)).setCell ⟨w0.heap.size + 1, 5, none⟩ (.slice b.h3.a b.h3.n b.h3.c)).setCell ⟨w0.heap.size + 1, 6, none⟩ (.slice b.o.a b.o.n b.o.c)).setCell ⟨w0.heap.size + 1, 7, none⟩ (.slice b.i.a b.i.n b.i.c)).setCell ⟨w0.heap.size + 1, 8, none⟩ (.slice b.e.a b.e.n b.e.c)) ∧
      Ck w1 (w0.heap.size + 1) b.cells ∧ b.Hl B w1 ∧ Fr b0 w0 w1 ∧ ∀ i, b.Lies i → b0.Lies i ∨ w0.heap.size ≤ i := by
  obtain ⟨ck, oy⟩ := put9 h.t (.int .i64 b.s) (.slice b.p.a b.p.n b.p.c) (.slice b.h0.a b.h0.n b.h0.c) (.slice b.h1.a b.h1.n b.h1.c) (.slice b.h2.a b.h2.n b.h2.c) (.slice b.h3.a b.h3.n b.h3.c) (.slice b.o.a b.o.n b.o.c) (.slice b.i.a b.i.n b.i.c) (.slice b.e.a b.e.n b.e.c)
  have zl := oy.size
  have z := h.z
  have f := h.f
  refine ⟨_, rfl, ck, ⟨fun x hx => (h.h.each x hx).same zl (fun k o hc e => ?_), h.h.apart⟩, ?_, fun i hi => (h.k i hi).imp id (by omega)⟩
  · have lk : b.Lies k := ⟨x, hx, hc, o, e⟩
    have := (h.h.lies lk).2
    refine oy.block k this ?_
    rcases h.k k lk with g | g
    · have := h.l k g; omega
    · omega
  · exact ⟨oy.os.trans f.os, oy.tape.trans f.tape, oy.output.trans f.output, Nat.le_trans f.size zl, fun i hi hn => (oy.block i (by have := f.size; omega) (by omega)).trans (f.block i hi hn)⟩

/- Its book is stored in the variable. -/
theorem Mid.store {w0 w : World} {b0 b c : Bx} {B : Nat} (h : Mid w0 b0 B b c w) :
    ∃ w1 : World, w1 = (((((((((w.setCell ⟨w0.heap.size, 0, none⟩ (.int .i64 c.s)).setCell ⟨w0.heap.size, 1, none⟩ (.slice c.p.a c.p.n c.p.c)).setCell ⟨w0.heap.size, 2, none⟩ (.slice c.h0.a c.h0.n c.h0.c)).setCell ⟨w0.heap.size, 3, none⟩ (.slice c.h1.a c.h1.n c.h1.c)).setCell ⟨w0.heap.size, 4, none⟩ (.slice c.h2.a c.h2.n c.h2.c)).setCell ⟨w0.heap.size, 5, none⟩ (.slice c.h3.a c.h3.n c.h3.c)).setCell ⟨w0.heap.size, 6, none⟩ (.slice c.o.a c.o.n c.o.c)).setCell ⟨w0.heap.size, 7, none⟩ (.slice c.i.a c.i.n c.i.c)).setCell ⟨w0.heap.size, 8, none⟩ (.slice c.e.a c.e.n c.e.c)) ∧ Dn w0 b0 B c w1 := by
  obtain ⟨ck, oy⟩ := put9 h.e (.int .i64 c.s) (.slice c.p.a c.p.n c.p.c) (.slice c.h0.a c.h0.n c.h0.c) (.slice c.h1.a c.h1.n c.h1.c) (.slice c.h2.a c.h2.n c.h2.c) (.slice c.h3.a c.h3.n c.h3.c) (.slice c.o.a c.o.n c.o.c) (.slice c.i.a c.i.n c.i.c) (.slice c.e.a c.e.n c.e.c)
  have zl := oy.size
  have z := h.z
  have f := h.f
  refine ⟨_, rfl, ck, ck_block h.t (oy.block _ (by omega) (by omega)), ⟨fun x hx => (h.h.each x hx).same zl (fun k o hc e => ?_), h.h.apart⟩, h.k, h.l, ?_, Nat.le_trans z zl⟩
  · have lk : c.Lies k := ⟨x, hx, hc, o, e⟩
    refine oy.block k (h.h.lies lk).2 ?_
    rcases h.k k lk with g | g
    · have := h.l k g; omega
    · omega
  · exact ⟨oy.os.trans f.os, oy.tape.trans f.tape, oy.output.trans f.output, Nat.le_trans f.size zl, fun i hi hn => (oy.block i (by have := f.size; omega) (by omega)).trans (f.block i hi hn)⟩

/- The first of a list is taken off, in the variable. (Of a row with room for one, the rest lies where it lay.) -/
def Sx.drop (x : Sx) (a : Option Addr) : Sx := ⟨a, x.n - 1, x.c - 1, fun j => x.f (j + 1)⟩
theorem Dn.pop {w0 w : World} {b0 b : Bx} {B k kx ox : Nat} (h : Dn w0 b0 B b w) (hk : k < 4) (ha : (b.hd k).a = some ⟨kx, ox, none⟩) (h0 : 0 < (b.hd k).n) (a : Option Addr) (haa : (b.hd k).c = 1 ∨ a = some ⟨kx, ox + 1, none⟩) :
    Dn w0 b0 B (b.seth k ((b.hd k).drop a)) (w.setCell ⟨w0.heap.size, 2 + k, none⟩ (.slice a ((b.hd k).n - 1) ((b.hd k).c - 1))) := by
  have hm : b.hd k ∈ b.lists := List.mem_of_getElem? (hd_lists b hk)
  have hc := (h.h.each _ hm).1
  rcases haa with c1 | rfl
  · have hl : (b.seth k ((b.hd k).drop a)).Hl B w := by
      refine h.h.turn (1 + k) (b.hd k) _ (hd_lists b hk) (seth_lists b hk _) ⟨by show (b.hd k).n - 1 ≤ (b.hd k).c - 1; omega, .inl (by show (b.hd k).c - 1 = 0; omega)⟩ (fun z _ hf hz => ⟨hz, .inr (.inl (by show (b.hd k).c - 1 = 0; omega))⟩)
    refine Dn.head (x := (b.hd k).drop a) hk h.e h.t hl (fun i hi => ?_) h.l h.f h.z
    rcases lies_seth hk hi with g | ⟨g, _⟩
    · exact h.k i g
    · simp only [Sx.drop] at g; omega
  · refine Dn.head (x := (b.hd k).drop (some ⟨kx, ox + 1, none⟩)) hk h.e h.t (h.h.pop (1 + k) (b.hd k) (hd_lists b hk) kx ox ha h0 (seth_lists b hk _)) (fun i hi => ?_) h.l h.f h.z
    rcases lies_seth hk hi with g | ⟨_, o, g⟩
    · exact h.k i g
    · simp only [Sx.drop] at g
      cases g
      exact h.k kx ⟨_, hm, by omega, ox, ha⟩
/- Where a list begins does not matter to whether a book is ok. -/
theorem ok_drop {b : Bx} {k : Nat} (hk : k < 4) (a : Option Addr) (u : Nat) (v : Int) : OkP ((b.seth k ((b.hd k).drop a)).own u v) ↔ OkP ((b.seth k (b.hd k).tail).own u v) := by
  refine ok_m ?_
  obtain rfl | rfl | rfl | rfl : k = 0 ∨ k = 1 ∨ k = 2 ∨ k = 3 := by omega
  all_goals rfl

theorem cells_one (b : Bx) : b.cells.toArray.all (·.oneCell') = true := by simp [Bx.cells, Value.oneCell']
theorem Dn.there {w0 w : World} {b0 b : Bx} {B : Nat} (h : Dn w0 b0 B b w) : w.there w0.heap.size 0 9 := there9 h.e
theorem Dn.theret {w0 w : World} {b0 b : Bx} {B : Nat} (h : Dn w0 b0 B b w) : w.there (w0.heap.size + 1) 0 9 := there9 h.t
theorem Mid.there {w0 w : World} {b0 b c : Bx} {B : Nat} (h : Mid w0 b0 B b c w) : w.there w0.heap.size 0 9 := there9 h.e
theorem Mid.theret {w0 w : World} {b0 b c : Bx} {B : Nat} (h : Mid w0 b0 B b c w) : w.there (w0.heap.size + 1) 0 9 := there9 h.t

theorem Mid.stores {w0 w : World} {b0 b c : Bx} {B : Nat} (h : Mid w0 b0 B b c w) : Dn w0 b0 B c (w.setCells w0.heap.size 0 c.cells.toArray.toList) := by
  obtain ⟨w1, e1, h1⟩ := h.store
  simp only [Bx.cells, World.setCells, Nat.zero_add, Nat.reduceAdd]
  rw [← e1]
  exact h1

/- What is answered. -/
structure Ret (w0 : World) (b0 : Bx) (B : Nat) (b : Bx) (w1 : World) : Prop where
  c : w1.rangeAt (w0.heap.size + 1) 0 b.cells
  h : b.Hl B w1
  f : Fr b0 w0 w1
  l : ∀ i, b.Lies i → b0.Lies i ∨ w0.heap.size ≤ i
theorem Dn.anss {w0 w : World} {b0 b : Bx} {B : Nat} (h : Dn w0 b0 B b w) : Ret w0 b0 B b (w.setCells (w0.heap.size + 1) 0 b.cells.toArray.toList) := by
  obtain ⟨w1, e1, h1, h2, h3, h4⟩ := h.ans
  simp only [Bx.cells, World.setCells, Nat.zero_add, Nat.reduceAdd]
  rw [← e1]
  exact ⟨h1.range, h2, h3, h4⟩
theorem Mid.anss {w0 w : World} {b0 d b : Bx} {B : Nat} (h : Mid w0 b0 B d b w) : Ret w0 b0 B b (w.setCells (w0.heap.size + 1) 0 b.cells.toArray.toList) := by
  obtain ⟨w1, e1, h1, h2, h3, h4⟩ := h.ans
  simp only [Bx.cells, World.setCells, Nat.zero_add, Nat.reduceAdd]
  rw [← e1]
  exact ⟨h1.range, h2, h3, h4⟩
theorem Ret.ans3 {w0 w1 : World} {b0 b : Bx} {B : Nat} (h : Ret w0 b0 B b w1) {P : Bx → Int → Int → Prop} {x y : Int} (p : P b x y) : Ans3 b0 B w0 P (.returned (.tuple #[.agg b.cells.toArray, .int .i64 x, .int .i64 y])) w1 := ⟨b, x, y, rfl, p, h.h, h.f, h.l⟩

theorem Dn.fresh {w0 w1 w2 : World} {b0 b : Bx} {B k : Nat} (h : Dn w0 b0 B b w1) (hk : k < 4) (hb : Below w1.heap.size w1 w2) {x : Sx} (xh : x.Hl B w2) (xa : ∀ i o, x.a = some ⟨i, o, none⟩ → w1.heap.size ≤ i) :
    Dn w0 b0 B (b.seth k x) (w2.setCell ⟨w0.heap.size, 2 + k, none⟩ (.slice x.a x.n x.c)) := by
  have D := h.later hb
  have z := h.z
  have hl : (b.seth k x).Hl B w2 := D.h.turn (1 + k) (b.hd k) x (hd_lists b hk) (seth_lists b hk x) xh (fun y hy hf hz => ⟨hz, by
    by_cases yc : y.c = 0
    · exact .inl yc
    refine .inr (.inr fun i o i' o' e e' => ?_)
    have := (h.h.lies ⟨y, hy, by omega, o, e⟩).2
    have := xa i' o' e'
    omega⟩)
  refine Dn.head hk D.e D.t hl (fun i hi => ?_) h.l D.f D.z
  rcases lies_seth hk hi with g | ⟨_, o, g⟩
  · exact h.k i g
  · have := xa i o g
    exact .inr (by omega)

/- What comes of an append of a list behind one number. -/
def AppC (v : Int) (x : Sx) (B K : Nat) (w : World) (r : Value) (w' : World) : Prop :=
  ∃ x' : Sx, r = .slice x'.a x'.n x'.c ∧ x'.n = x.n + 1 ∧ x'.f = consF x.f v ∧ x'.Hl B w' ∧ Below w.heap.size w w' ∧ ∀ i o, x'.a = some ⟨i, o, none⟩ → K ≤ i

theorem appc_run (v : Int) (x : Sx) (B K kb : Nat) (w : World) (hx : x.At w) (hnil : x.a = none → x.n = 0) (hn : x.n ≤ 1000000) (hv : w.cell? ⟨kb, 0, none⟩ = some (.int .i64 v)) (hf : w.frozen? ⟨kb, 0, none⟩ = false) (hB : B ≤ kb) (hK : K ≤ kb) (ty : TypeId) :
    ∃ r w', (Builtin.append_ #[23, 23] ty #[.slice (some ⟨kb, 0, none⟩) 1 1, .slice x.a x.n x.c]).run Tryd.prog w = .ok r w' ∧ AppC v x B K w r w' := by
  obtain ⟨i0, hi0, hz0, hz1, hz2⟩ := intP infoInt
  have hlt := World.block_lt_of_cell? w _ hv
  simp only at hlt
  by_cases hm : x.n = 0
  · have src : Src Tryd.prog i0.size 23 (.slice x.a x.n x.c) 0 [] w := by
      rw [hm]
      cases x.a with
      | none => exact Src.ofNil w Tryd.underlying23 x.c
      | some ad => exact Src.ofSlice w Tryd.underlying23 ad 0 x.c [] (by simp) (by simp) (by simp)
    refine ⟨_, _, run_append_room_src w 23 23 ty 3 i0 Tryd.underlying23 hi0 kb 0 1 1 _ 0 [] src (Nat.le_refl _) (by simp) (by simp), ⟨some ⟨kb, 0, none⟩, 1, 1, consF x.f v⟩, rfl, by rw [hm], rfl, ⟨Nat.le_refl _, .inr ⟨kb, 0, rfl, hB, by simpa [World.setCells] using hlt, fun j hj => ?_, fun j hj => ?_⟩⟩, by simp only [World.setCells]; exact Below.refl _ _, fun i o e => by cases e; exact hK⟩
    · simp only at hj
      obtain rfl : j = 0 := by omega
      simp only [World.setCells]
      exact ⟨by rw [Nat.add_zero, hv]; rfl, hf⟩
    · simp only at hj
      obtain rfl : j = 0 := by omega
      simp only [World.setCells]
      exact hv
  · rcases hx with h | ⟨b, off, ea, h⟩
    · exact absurd h hm
    have src : Src Tryd.prog i0.size 23 (.slice x.a x.n x.c) x.n (rowI x.n x.f) w := by
      rw [ea]
      exact Src.ofSlice w Tryd.underlying23 ⟨b, off, none⟩ x.n x.c (rowI x.n x.f) (by rw [rowI_len, hz1, Nat.mul_one]) (fun j u hu => by
        obtain ⟨hj, rfl⟩ := rowI_lt hu
        rw [Addr.add_mid]; exact h j hj) (rowI_one x.n x.f)
    have hold : (Builtin.firstCells i0.size 1 (.slice (some ⟨kb, 0, none⟩) 1 1)).run Tryd.prog w.drew = .ok [Value.int .i64 v].toArray w.drew := by
      rw [hz1]
      refine run_firstCells_some _ _ _ _ _ _ _ (by simp) (fun j u hu => ?_)
      cases j with
      | zero => simp at hu; subst hu; rw [Addr.add_mid]; exact hv
      | succ j => simp at hu
    have hg := run_append_grow_src w 23 23 ty 3 i0 (.int .i64 0) Tryd.underlying23 hi0 hz0 (some ⟨kb, 0, none⟩) 1 1 [.int .i64 v] hold (.slice x.a x.n x.c) x.n (rowI x.n x.f) src (by omega) (by omega) (growslice_fits (by omega) (by rw [hz2]; omega))
    have ge := grownCap_ge w (1 + x.n) 1 3
    generalize grownCap w (1 + x.n) 1 3 = G at hg ge
    refine ⟨_, _, hg, ⟨some ⟨w.heap.size, 0, none⟩, x.n + 1, G, consF x.f v⟩, by rw [Nat.add_comm], rfl, rfl, ?_, (below1 w.drew _ : Below w.heap.size w.drew _) |> fun hb => ⟨hb.os, hb.tape, hb.output, hb.size, hb.block⟩, fun i o e => by cases e; omega⟩
    have hb : (w.drew.alloc (.cells (([Value.int .i64 v] ++ rowI x.n x.f).toArray ++ Builtin.zeroCells (Value.int .i64 0).cells (G - (1 + x.n))) 3)).heap[w.heap.size]? = _ := heap_alloc_new w.drew _
    refine ⟨by show x.n + 1 ≤ G; omega, .inr ⟨_, _, rfl, by omega, by simp, fun j hj => ?_, fun j hj => ?_⟩⟩
    · rw [cell_of_row _ _ _ _ _ _ hb, frozen_of_row _ _ _ _ _ hb]
      refine ⟨?_, rfl⟩
      simp only at hj
      have sz : (([Value.int .i64 v] ++ rowI x.n x.f).toArray ++ Builtin.zeroCells (Value.int .i64 0).cells (G - (1 + x.n))).size = G := by
        rw [Array.size_append, size_zeroCells, show (Value.int .i64 0).cells.size = 1 from rfl, List.size_toArray, List.length_append, rowI_len]
        simp only [List.length_cons, List.length_nil]
        omega
      rw [Array.getElem?_eq_getElem (by rw [sz]; omega)]
      rfl
    · rw [cell_of_row _ _ _ _ _ _ hb, Nat.zero_add]
      simp only at hj
      rw [Array.getElem?_append_left (by simp [rowI_len]; omega), List.getElem?_toArray]
      cases j with
      | zero => rfl
      | succ j => rw [show ([Value.int .i64 v] ++ rowI x.n x.f)[j + 1]? = (rowI x.n x.f)[j]? from rfl, rowI_get _ _ _ (by omega)]; rfl

theorem wp_appc {o : Oper} {ac : Act} {K : Act → World → Prop} {Q : Exit → Act → World → Prop} (s t : Operand) (v : Int) (x : Sx) (B N kb : Nat) (w : World)
    (ho : o.op = .call { callee := .builtin .append, args := #[s, t], argTypes := #[23, 23] }) (h1 : ac.eval s = .slice (some ⟨kb, 0, none⟩) 1 1) (h2 : ac.eval t = .slice x.a x.n x.c)
    (hx : x.At w) (hnil : x.a = none → x.n = 0) (hn : x.n ≤ 1000000) (hv : w.cell? ⟨kb, 0, none⟩ = some (.int .i64 v)) (hf : w.frozen? ⟨kb, 0, none⟩ = false) (hB : B ≤ kb) (hK : N ≤ kb)
    (h : ∀ r w', AppC v x B N w r w' → K (ac.put o.dst r) w') : o.wp Tryd.prog ac w K Q := by
  obtain ⟨r, w', hr, hq⟩ := appc_run v x B N kb w hx hnil hn hv hf hB hK o.type
  unfold Oper.wp execOp
  simp only [ho, resolve, invoke, builtin, Sem.run_bind, Sem.run_pure, Result.andThen_ok, List.map_toArray, List.map_cons, List.map_nil, h1, h2, hr]
  exact h r w' hq
theorem wpList_appc {ops : Array Oper} {rest : List Oper} {o : Oper} {ac : Act} {Q : Exit → Act → World → Prop} (hgd : o.guard = none) (s t : Operand) (v : Int) (x : Sx) (B N kb : Nat) (w : World)
    (ho : o.op = .call { callee := .builtin .append, args := #[s, t], argTypes := #[23, 23] }) (h1 : ac.eval s = .slice (some ⟨kb, 0, none⟩) 1 1) (h2 : ac.eval t = .slice x.a x.n x.c)
    (hx : x.At w) (hnil : x.a = none → x.n = 0) (hn : x.n ≤ 1000000) (hv : w.cell? ⟨kb, 0, none⟩ = some (.int .i64 v)) (hf : w.frozen? ⟨kb, 0, none⟩ = false) (hB : B ≤ kb) (hK : N ≤ kb)
    (h : ∀ r w', AppC v x B N w r w' → wpList Tryd.prog ops Q rest (ac.put o.dst r) w') : wpList Tryd.prog ops Q (o :: rest) ac w :=
  wpList_plain hgd fun _ hK' => wp_appc s t v x B N kb w ho h1 h2 hx hnil hn hv hf hB hK fun r w' hq => hK' _ _ (h r w' hq)

/- What is kept of a list: those of other pages. -/
def kept (f : Nat → Int) (p : Int) : Nat → List Int
  | 0 => []
  | n + 1 => if f n / 8 ≠ p then kept f p n ++ [f n] else kept f p n
def KepP (f : Nat → Int) (p : Int) (n : Nat) (x : Sx) : Prop := x.n = (kept f p n).length ∧ ∀ j, j < x.n → x.f j = (kept f p n).getD j 0
theorem kept_len (f : Nat → Int) (p : Int) : ∀ n, (kept f p n).length ≤ n
  | 0 => by simp [kept]
  | n + 1 => by
    have := kept_len f p n
    simp only [kept]
    split
    · simp only [List.length_append, List.length_cons, List.length_nil]; omega
    · omega
theorem kept_mem (f : Nat → Int) (p : Int) (a : Int) : ∀ n, a ∈ kept f p n → ∃ i, i < n ∧ a = f i ∧ a / 8 ≠ p
  | 0, h => by simp [kept] at h
  | n + 1, h => by
    simp only [kept] at h
    split at h
    · rename_i hne
      rcases List.mem_append.1 h with h | h
      · obtain ⟨i, h1, h2⟩ := kept_mem f p a n h; exact ⟨i, by omega, h2⟩
      · simp at h; subst h; exact ⟨n, by omega, rfl, hne⟩
    · obtain ⟨i, h1, h2⟩ := kept_mem f p a n h; exact ⟨i, by omega, h2⟩
theorem cnt_count (f : Nat → Int) (a : Int) (l : List Int) : ∀ n, n ≤ l.length → (∀ j, j < n → f j = l.getD j 0) → cnt f a n = (l.take n).count a
  | 0, _, _ => by simp [cnt]
  | n + 1, hn, h => by
    have ih := cnt_count f a l n (by omega) (fun j hj => h j (by omega))
    have e : l.take (n + 1) = l.take n ++ [l.getD n 0] := by
      rw [List.take_add_one, List.getElem?_eq_getElem (by omega)]
      simp [List.getD, List.getElem?_eq_getElem (show n < l.length by omega)]
    rw [e, List.count_append, cnt, ih, h n (by omega), List.count_singleton]
    simp
theorem kept_count (f : Nat → Int) (p a : Int) (ha : a / 8 ≠ p) : ∀ n, (kept f p n).count a = cnt f a n
  | 0 => by simp [kept, cnt]
  | n + 1 => by
    have ih := kept_count f p a ha n
    simp only [kept, cnt]
    split
    · rw [List.count_append, ih, List.count_singleton]; simp
    · rename_i h
      have : f n / 8 = p := Classical.byContradiction h
      rw [ih, if_neg (fun e => ha (by rw [← e]; exact this)), Nat.add_zero]
theorem KepP.cnt {f : Nat → Int} {p : Int} {n : Nat} {x : Sx} (h : KepP f p n x) (a : Int) (ha : a / 8 ≠ p) : cnt x.f a x.n = Book.cnt f a n := by
  rw [cnt_count x.f a (kept f p n) x.n (by rw [h.1]; exact Nat.le_refl _) h.2, h.1, List.take_length, kept_count f p a ha]
theorem KepP.mem {f : Nat → Int} {p : Int} {n : Nat} {x : Sx} (h : KepP f p n x) (j : Nat) (hj : j < x.n) : ∃ i, i < n ∧ x.f j = f i ∧ x.f j / 8 ≠ p := by
  refine kept_mem f p (x.f j) n ?_
  rw [h.2 j hj, List.getD, List.getElem?_eq_getElem (by rw [← h.1]; exact hj)]
  exact List.getElem_mem _
theorem KepP.start (f : Nat → Int) (p : Int) (x : Sx) (h : x.n = 0) : KepP f p 0 x := ⟨by rw [h]; rfl, fun j hj => by omega⟩
theorem KepP.more {f : Nat → Int} {p : Int} {n : Nat} {x y : Sx} (h : KepP f p n x) (hn : f n / 8 ≠ p) (yn : y.n = x.n + 1) (yf : y.f = upd x.f x.n (f n)) : KepP f p (n + 1) y := by
  have e : kept f p (n + 1) = kept f p n ++ [f n] := by simp only [kept]; rw [if_pos hn]
  refine ⟨by rw [e, yn, List.length_append, h.1]; rfl, fun j hj => ?_⟩
  rw [e, yf]
  simp only [upd]
  by_cases ej : j = x.n
  · rw [if_pos ej, ej, h.1, List.getD, List.getElem?_append_right (Nat.le_refl _)]; simp
  · rw [if_neg ej, h.2 j (by omega), List.getD, List.getD, List.getElem?_append_left (by rw [← h.1]; omega)]
theorem KepP.skip {f : Nat → Int} {p : Int} {n : Nat} {x : Sx} (h : KepP f p n x) (hn : f n / 8 = p) : KepP f p (n + 1) x := by
  have e : kept f p (n + 1) = kept f p n := by simp only [kept]; rw [if_neg (fun g => g hn)]
  exact ⟨by rw [e]; exact h.1, fun j hj => by rw [e]; exact h.2 j hj⟩

end Go.Proofs.YtbipolfbkemmpaaDoor.Book

import Derived.Test.YtbipolfbkemmpaaDoorM13
import Derived.Test.YtbipolfbkemmpaaDoorM3

/- A list of one's own that may begin anywhere in its row, and an append of one number onto it. -/
namespace Go.Proofs.YtbipolfbkemmpaaDoor.Book
open Go.ChangeShapes Go.WideShapes Go.ChangeAt Go.RowKit
open Aid Lst
set_option maxRecDepth 100000
set_option linter.unusedVariables false

def Sx.Hl (x : Sx) (B : Nat) (w : World) : Prop :=
  x.n ≤ x.c ∧ (x.c = 0 ∨ ∃ k o, x.a = some ⟨k, o, none⟩ ∧ B ≤ k ∧ k < w.heap.size ∧ Fre w k o x.c ∧ ∀ j, j < x.n → w.cell? ⟨k, o + j, none⟩ = some (.int .i64 (x.f j)))
theorem Sx.Hl.at {x : Sx} {B : Nat} {w : World} (h : x.Hl B w) : x.At w := by
  obtain ⟨h1, h3 | ⟨k, o, e, _, _, _, h⟩⟩ := h
  · exact .inl (by omega)
  · exact .inr ⟨k, o, e, h⟩

/- The first is taken off. -/
theorem Sx.Hl.tail {x : Sx} {B : Nat} {w : World} (h : x.Hl B w) (h0 : 0 < x.n) {k o : Nat} (e : x.a = some ⟨k, o, none⟩) : Sx.Hl ⟨some ⟨k, o + 1, none⟩, x.n - 1, x.c - 1, fun j => x.f (j + 1)⟩ B w := by
  obtain ⟨h1, h3 | ⟨k', o', e', g1, g2, g3, g4⟩⟩ := h
  · omega
  · rw [e] at e'
    cases e'
    refine ⟨by show x.n - 1 ≤ x.c - 1; omega, .inr ⟨k, o + 1, rfl, g1, g2, fun j hj => ?_, fun j hj => ?_⟩⟩
    · have := g3 (j + 1) (by simp only at hj; omega)
      rwa [show o + (j + 1) = o + 1 + j by omega] at this
    · have := g4 (j + 1) (by simp only at hj; omega)
      rwa [show o + (j + 1) = o + 1 + j by omega] at this

/- A number is written, where there is one or behind the last. -/
theorem Fre.set {w : World} {k o c : Nat} (h : Fre w k o c) (p : Addr) (v : Value) : Fre (w.setCell p v) k o c := fun j hj => by
  obtain ⟨h1, h2⟩ := h j hj
  refine ⟨?_, by simp [h2]⟩
  by_cases e : p = ⟨k, o + j, none⟩
  · rw [e]
    obtain ⟨u, hu⟩ := Option.isSome_iff_exists.1 h1
    rw [World.cell?_setCell_same _ _ _ hu]
    rfl
  · rw [World.cell?_setCell_other _ _ _ _ e]; exact h1
theorem Sx.Hl.set {x y : Sx} {B : Nat} {w : World} (h : x.Hl B w) {k o : Nat} (e : x.a = some ⟨k, o, none⟩) (i : Nat) (hi : i < x.c) (v : Int) (ya : y.a = x.a) (yc : y.c = x.c) (yn : y.n ≤ x.c) (yi : y.f i = v) (yo : ∀ j, j < y.n → j ≠ i → j < x.n ∧ y.f j = x.f j) :
    y.Hl B (w.setCell ⟨k, o + i, none⟩ (.int .i64 v)) := by
  obtain ⟨h1, h3 | ⟨k', o', e', g1, g2, g3, g4⟩⟩ := h
  · omega
  · rw [e] at e'
    cases e'
    refine ⟨by omega, .inr ⟨k, o, by rw [ya, e], g1, by simpa using g2, by rw [yc]; exact g3.set _ _, fun j hj => ?_⟩⟩
    by_cases ej : j = i
    · subst ej
      obtain ⟨u, hu⟩ := Option.isSome_iff_exists.1 (g3 j hi).1
      rw [World.cell?_setCell_same _ _ _ hu, yi]
    · obtain ⟨y1, y2⟩ := yo j hj ej
      have hne : (⟨k, o + i, none⟩ : Addr) ≠ ⟨k, o + j, none⟩ := fun h => ej (by injection h with _ h2 _; omega)
      rw [World.cell?_setCell_other _ _ _ _ hne, y2]
      exact g4 j y1
theorem Sx.Hl.far {x : Sx} {B : Nat} {w : World} (h : x.Hl B w) (p : Addr) (hp : ∀ k o, x.a = some ⟨k, o, none⟩ → p.block ≠ k) (v : Value) : x.Hl B (w.setCell p v) := by
  obtain ⟨h1, h2 | ⟨k, o, e, g1, g2, g3, g4⟩⟩ := h
  · exact ⟨h1, .inl h2⟩
  · refine ⟨h1, .inr ⟨k, o, e, g1, by simpa using g2, g3.set _ _, fun j hj => ?_⟩⟩
    rw [World.cell?_setCell_far _ _ _ _ (hp k o e)]
    exact g4 j hj
theorem Sx.Hl.later {x : Sx} {B : Nat} {w w1 : World} (h : x.Hl B w) (hb : Below w.heap.size w w1) : x.Hl B w1 := by
  obtain ⟨h1, h2 | ⟨k, o, e, g1, g2, g3, g4⟩⟩ := h
  · exact ⟨h1, .inl h2⟩
  · refine ⟨h1, .inr ⟨k, o, e, g1, by have := hb.size; omega, fun j hj => ?_, fun j hj => ?_⟩⟩
    · rw [hb.cell (p := ⟨k, o + j, none⟩) g2, hb.frozen (p := ⟨k, o + j, none⟩) g2]; exact g3 j hj
    · rw [hb.cell (p := ⟨k, o + j, none⟩) g2]; exact g4 j hj

/- What comes of an append of one. -/
def App1 (x : Sx) (v : Int) (B : Nat) (w : World) (r : Value) (w' : World) : Prop :=
  ∃ x' : Sx, r = .slice x'.a x'.n x'.c ∧ x'.n = x.n + 1 ∧ x'.f = upd x.f x.n v ∧ x'.Hl B w' ∧
    ((∃ k o, x.a = some ⟨k, o, none⟩ ∧ x'.a = x.a ∧ x'.c = x.c ∧ x.n < x.c ∧ w' = w.setCell ⟨k, o + x.n, none⟩ (.int .i64 v)) ∨ (x'.a = some ⟨w.heap.size, 0, none⟩ ∧ Below w.heap.size w w' ∧ w'.heap.size = w.heap.size + 1))

theorem app1_run (x : Sx) (v : Int) (B : Nat) (w : World) (h : x.Hl B w) (hB : B ≤ w.heap.size) (hn : x.n ≤ 1000000) (kb ob c : Nat) (hv : w.cell? ⟨kb, ob, none⟩ = some (.int .i64 v)) (ty : TypeId) :
    ∃ r w', (Builtin.append_ #[23, 23] ty #[.slice x.a x.n x.c, .slice (some ⟨kb, ob, none⟩) 1 c]).run Tryd.prog w = .ok r w' ∧ App1 x v B w r w' := by
  obtain ⟨i0, hi0, hz0, hz1, hz2⟩ := intP infoInt
  have src : Src Tryd.prog i0.size 23 (.slice (some ⟨kb, ob, none⟩) 1 c) 1 [.int .i64 v] w := Src.ofSlice w Tryd.underlying23 ⟨kb, ob, none⟩ 1 c [.int .i64 v] (by rw [hz1]; rfl) (fun j u hu => by
      cases j with
      | zero => simp at hu; subst hu; rw [Addr.add_mid]; simpa using hv
      | succ j => simp at hu) (by simp [Value.oneCell'])
  obtain ⟨h1, h2⟩ := h
  by_cases hr : x.n + 1 ≤ x.c
  · obtain h3 | ⟨k, o, e, g1, g2, g3, g4⟩ := h2
    · omega
    rw [e]
    have f0 := g3 x.n (by omega)
    have run := run_append_room_src w 23 23 ty 3 i0 Tryd.underlying23 hi0 k o x.n x.c _ 1 [.int .i64 v] src hr
      (by intro j hj; obtain rfl : j = 0 := by simp at hj; exact hj
          rw [hz1, Nat.mul_one, Nat.add_zero]; exact f0.1)
      (by intro j hj; obtain rfl : j = 0 := by simp at hj; exact hj
          rw [hz1, Nat.mul_one, Nat.add_zero]; exact f0.2)
    rw [hz1, Nat.mul_one] at run
    refine ⟨_, _, run, ⟨x.a, x.n + 1, x.c, upd x.f x.n v⟩, by rw [e], rfl, rfl, ?_, .inl ⟨k, o, e, rfl, rfl, hr, rfl⟩⟩
    exact Sx.Hl.set (x := x) ⟨h1, .inr ⟨k, o, e, g1, g2, g3, g4⟩⟩ e x.n (by omega) v rfl rfl hr (by simp [upd]) (fun j hj hne => ⟨by simp only at hj; omega, by simp [upd, hne]⟩)
  · have hold : (Builtin.firstCells i0.size x.n (.slice x.a x.n x.c)).run Tryd.prog w.drew = .ok (rowI x.n x.f).toArray w.drew := by
      obtain h3 | ⟨k, o, e, g1, g2, g3, g4⟩ := h2
      · rw [show x.n = 0 by omega]
        cases x.a with
        | none => rw [run_firstCells_none]; rfl
        | some ad => exact run_firstCells_some _ _ _ _ _ _ [] (by simp) (by simp)
      · rw [e, hz1]
        refine run_firstCells_some _ _ _ _ _ _ _ (by rw [rowI_len, Nat.mul_one]) (fun j u hu => ?_)
        obtain ⟨hj, rfl⟩ := rowI_lt hu
        rw [Addr.add_mid]
        exact g4 j hj
    have hg := run_append_grow_src w 23 23 ty 3 i0 (.int .i64 0) Tryd.underlying23 hi0 hz0 x.a x.n x.c (rowI x.n x.f) hold (.slice (some ⟨kb, ob, none⟩) 1 c) 1 [.int .i64 v] src (by omega) (by omega) (growslice_fits (by omega) (by rw [hz2]; omega))
    have ge := grownCap_ge w (x.n + 1) x.c 3
    generalize grownCap w (x.n + 1) x.c 3 = G at hg ge
    refine ⟨_, _, hg, ⟨some ⟨w.heap.size, 0, none⟩, x.n + 1, G, upd x.f x.n v⟩, rfl, rfl, rfl, ?_, .inr ⟨rfl, (below1 w.drew _ : Below w.heap.size w.drew _) |> fun hb => ⟨hb.os, hb.tape, hb.output, hb.size, hb.block⟩, by simp⟩⟩
    have hb : (w.drew.alloc (.cells ((rowI x.n x.f ++ [Value.int .i64 v]).toArray ++ Builtin.zeroCells (Value.int .i64 0).cells (G - (x.n + 1))) 3)).heap[w.heap.size]? = _ := heap_alloc_new w.drew _
    refine ⟨ge, .inr ⟨_, _, rfl, hB, by simp, fun j hj => ?_, fun j hj => ?_⟩⟩
    · rw [cell_of_row _ _ _ _ _ _ hb, frozen_of_row _ _ _ _ _ hb]
      refine ⟨?_, rfl⟩
      simp only at hj
      have sz : ((rowI x.n x.f ++ [Value.int .i64 v]).toArray ++ Builtin.zeroCells (Value.int .i64 0).cells (G - (x.n + 1))).size = G := by
        rw [Array.size_append, size_zeroCells, show (Value.int .i64 0).cells.size = 1 from rfl, List.size_toArray, List.length_append, rowI_len]
        simp only [List.length_cons, List.length_nil]
        omega
      rw [Array.getElem?_eq_getElem (by rw [sz]; omega)]
      rfl
    · rw [cell_of_row _ _ _ _ _ _ hb, Nat.zero_add]
      simp only at hj
      rw [Array.getElem?_append_left (by simp [rowI_len]; omega), List.getElem?_toArray]
      by_cases ej : j = x.n
      · subst ej
        rw [List.getElem?_append_right (by rw [rowI_len]; omega), rowI_len]
        simp [upd]
      · rw [List.getElem?_append_left (by rw [rowI_len]; omega), rowI_get _ _ _ (by omega)]
        simp [upd, ej]

theorem wp_app1 {o : Oper} {ac : Act} {K : Act → World → Prop} {Q : Exit → Act → World → Prop} (s t : Operand) (x : Sx) (v : Int) (B : Nat) (w : World) (kb ob c : Nat)
    (ho : o.op = .call { callee := .builtin .append, args := #[s, t], argTypes := #[23, 23] }) (h1 : ac.eval s = .slice x.a x.n x.c) (h2 : ac.eval t = .slice (some ⟨kb, ob, none⟩) 1 c)
    (hx : x.Hl B w) (hB : B ≤ w.heap.size) (hn : x.n ≤ 1000000) (hv : w.cell? ⟨kb, ob, none⟩ = some (.int .i64 v))
    (h : ∀ r w', App1 x v B w r w' → K (ac.put o.dst r) w') : o.wp Tryd.prog ac w K Q := by
  obtain ⟨r, w', hr, hq⟩ := app1_run x v B w hx hB hn kb ob c hv o.type
  unfold Oper.wp execOp
  simp only [ho, resolve, invoke, builtin, Sem.run_bind, Sem.run_pure, Result.andThen_ok, List.map_toArray, List.map_cons, List.map_nil, h1, h2, hr]
  exact h r w' hq
theorem wpList_app1 {ops : Array Oper} {rest : List Oper} {o : Oper} {ac : Act} {Q : Exit → Act → World → Prop} (hgd : o.guard = none) (s t : Operand) (x : Sx) (v : Int) (B : Nat) (w : World) (kb ob c : Nat)
    (ho : o.op = .call { callee := .builtin .append, args := #[s, t], argTypes := #[23, 23] }) (h1 : ac.eval s = .slice x.a x.n x.c) (h2 : ac.eval t = .slice (some ⟨kb, ob, none⟩) 1 c)
    (hx : x.Hl B w) (hB : B ≤ w.heap.size) (hn : x.n ≤ 1000000) (hv : w.cell? ⟨kb, ob, none⟩ = some (.int .i64 v))
    (h : ∀ r w', App1 x v B w r w' → wpList Tryd.prog ops Q rest (ac.put o.dst r) w') : wpList Tryd.prog ops Q (o :: rest) ac w :=
  wpList_plain hgd fun _ hK => wp_app1 s t x v B w kb ob c ho h1 h2 hx hB hn hv fun r w' hq => hK _ _ (h r w' hq)

/- A book of one's own whose lists may begin anywhere in their rows. -/
def Far (x y : Sx) : Prop := x.c = 0 ∨ y.c = 0 ∨ ∀ k o k' o', x.a = some ⟨k, o, none⟩ → y.a = some ⟨k', o', none⟩ → k ≠ k'
theorem Far.sym {x y : Sx} (h : Far x y) : Far y x := by
  rcases h with h | h | h
  · exact .inr (.inl h)
  · exact .inl h
  · exact .inr (.inr fun k o k' o' e1 e2 e => h k' o' k o e2 e1 e.symm)
structure Bx.Hl (b : Bx) (B : Nat) (w : World) : Prop where
  each : ∀ x ∈ b.lists, x.Hl B w
  apart : b.lists.Pairwise Far
theorem Bx.Hl.at {b : Bx} {B : Nat} {w : World} (h : b.Hl B w) : b.At w := fun x hx => (h.each x hx).at
theorem Bx.Hl.later {b : Bx} {B : Nat} {w w1 : World} (h : b.Hl B w) (hb : Below w.heap.size w w1) : b.Hl B w1 := ⟨fun x hx => (h.each x hx).later hb, h.apart⟩
theorem Sx.Hl.off {x y : Sx} {B : Nat} {w : World} (h : x.Hl B w) (hf : Far x y) (hy : 0 < y.c) {k o : Nat} (e : y.a = some ⟨k, o, none⟩) (i : Nat) (v : Value) : x.Hl B (w.setCell ⟨k, i, none⟩ v) := by
  rcases hf with hf | hf | hf
  · exact ⟨h.1, .inl hf⟩
  · omega
  · exact h.far _ (fun k' o' e' => fun ee => hf k' o' k o e' e ee.symm) v

/- One list of it is another one now, where nothing else has turned. -/
theorem Bx.Hl.turn {b b' : Bx} {B : Nat} {w w' : World} (h : b.Hl B w) (q : Nat) (x y : Sx) (hx : b.lists[q]? = some x) (hl : b'.lists = b.lists.set q y) (hy : y.Hl B w')
    (ho : ∀ z ∈ b.lists, Far z x → z.Hl B w → z.Hl B w' ∧ Far z y) : b'.Hl B w' := by
  obtain ⟨hq, hxe⟩ := List.getElem?_eq_some_iff.1 hx
  have hpw := List.pairwise_iff_getElem.1 h.apart
  have hap : ∀ p (hp : p < b.lists.length), p ≠ q → Far b.lists[p] x := fun p hp hne => by
    rw [← hxe]
    by_cases hlt : p < q
    · exact hpw p q hp hq hlt
    · exact (hpw q p hq hp (by omega)).sym
  refine ⟨?_, ?_⟩
  · rw [hl]
    intro z hz
    obtain ⟨p, hp, rfl⟩ := List.getElem_of_mem hz
    rw [List.length_set] at hp
    rw [List.getElem_set]
    split
    · exact hy
    · rename_i hne
      exact (ho _ (List.getElem_mem hp) (hap p hp (fun e => hne e.symm)) (h.each _ (List.getElem_mem hp))).1
  · rw [hl, List.pairwise_iff_getElem]
    intro p p' hp hp' hlt
    rw [List.length_set] at hp hp'
    rw [List.getElem_set, List.getElem_set]
    split
    · rename_i e
      rw [if_neg (by omega)]
      exact (ho _ (List.getElem_mem hp') (hap p' hp' (by omega)) (h.each _ (List.getElem_mem hp'))).2.sym
    · rename_i e
      split
      · exact (ho _ (List.getElem_mem hp) (hap p hp (by omega)) (h.each _ (List.getElem_mem hp))).2
      · exact hpw p p' hp hp' hlt

/- A number of a list is written. -/
theorem Bx.Hl.write {b b' : Bx} {B : Nat} {w : World} (h : b.Hl B w) (q : Nat) (x : Sx) (hx : b.lists[q]? = some x) (k o j : Nat) (ha : x.a = some ⟨k, o, none⟩) (hj : j < x.n) (v : Int) (hl : b'.lists = b.lists.set q (x.put j v)) :
    b'.Hl B (w.setCell ⟨k, o + j, none⟩ (.int .i64 v)) := by
  have hm : x ∈ b.lists := List.mem_of_getElem? hx
  have hc := (h.each x hm).1
  exact h.turn q x _ hx hl ((h.each x hm).set ha j (by omega) v rfl rfl hc (by simp [Sx.put, upd]) (fun i hi hne => ⟨hi, by simp [Sx.put, upd, hne]⟩)) (fun z _ hf hz => ⟨hz.off hf (by omega) ha _ _, hf⟩)

/- The first of a list is taken off. -/
theorem Bx.Hl.pop {b b' : Bx} {B : Nat} {w : World} (h : b.Hl B w) (q : Nat) (x : Sx) (hx : b.lists[q]? = some x) (k o : Nat) (ha : x.a = some ⟨k, o, none⟩) (h0 : 0 < x.n) (hl : b'.lists = b.lists.set q ⟨some ⟨k, o + 1, none⟩, x.n - 1, x.c - 1, fun j => x.f (j + 1)⟩) : b'.Hl B w := by
  have hm : x ∈ b.lists := List.mem_of_getElem? hx
  refine h.turn q x _ hx hl ((h.each x hm).tail h0 ha) (fun z _ hf hz => ⟨hz, ?_⟩)
  have hc := (h.each x hm).1
  rcases hf with hf | hf | hf
  · exact .inl hf
  · omega
  · exact .inr (.inr fun k1 o1 k2 o2 e1 e2 => by cases e2; exact hf k1 o1 k o e1 ha)

/- A number is appended to a list. -/
theorem Bx.Hl.app {b b' : Bx} {B : Nat} {w w' : World} (h : b.Hl B w) (q : Nat) (x y : Sx) (v : Int) (hx : b.lists[q]? = some x) (hr : y.n = x.n + 1) (hy : y.Hl B w') (hB : ∀ z ∈ b.lists, 0 < z.c → ∀ k o, z.a = some ⟨k, o, none⟩ → k < w.heap.size)
    (hw : (∃ k o, x.a = some ⟨k, o, none⟩ ∧ y.a = x.a ∧ 0 < x.c ∧ w' = w.setCell ⟨k, o + x.n, none⟩ (.int .i64 v)) ∨ (y.a = some ⟨w.heap.size, 0, none⟩ ∧ Below w.heap.size w w'))
    (hl : b'.lists = b.lists.set q y) : b'.Hl B w' := by
  refine h.turn q x y hx hl hy (fun z hm hf hz => ?_)
  rcases hw with ⟨k, o, e, ye, c0, rfl⟩ | ⟨ye, hb⟩
  · refine ⟨hz.off hf c0 e _ _, ?_⟩
    rcases hf with hf | hf | hf
    · exact .inl hf
    · omega
    · exact .inr (.inr fun k1 o1 k2 o2 e1 e2 => hf k1 o1 k2 o2 e1 (by rw [← ye]; exact e2))
  · refine ⟨hz.later hb, ?_⟩
    by_cases zc : z.c = 0
    · exact .inl zc
    · refine .inr (.inr fun k1 o1 k2 o2 e1 e2 => ?_)
      rw [ye] at e2
      cases e2
      have := hB z hm (by omega) k1 o1 e1
      omega

theorem put9 {w : World} {k : Nat} {c0 c1 c2 c3 c4 c5 c6 c7 c8 : Value} (h : Ck w k [c0, c1, c2, c3, c4, c5, c6, c7, c8]) (v0 v1 v2 v3 v4 v5 v6 v7 v8 : Value) : Ck (((((((((w.setCell ⟨k, 0, none⟩ v0).setCell ⟨k, 1, none⟩ v1).setCell ⟨k, 2, none⟩ v2).setCell ⟨k, 3, none⟩ v3).setCell ⟨k, 4, none⟩ v4).setCell ⟨k, 5, none⟩ v5).setCell ⟨k, 6, none⟩ v6).setCell ⟨k, 7, none⟩ v7).setCell ⟨k, 8, none⟩ v8) k [v0, v1, v2, v3, v4, v5, v6, v7, v8] ∧ Only k (k + 1) w (((((((((w.setCell ⟨k, 0, none⟩ v0).setCell ⟨k, 1, none⟩ v1).setCell ⟨k, 2, none⟩ v2).setCell ⟨k, 3, none⟩ v3).setCell ⟨k, 4, none⟩ v4).setCell ⟨k, 5, none⟩ v5).setCell ⟨k, 6, none⟩ v6).setCell ⟨k, 7, none⟩ v7).setCell ⟨k, 8, none⟩ v8) :=
  ⟨(((((((((h.set 0 v0).set 1 v1).set 2 v2).set 3 v3).set 4 v4).set 5 v5).set 6 v6).set 7 v7).set 8 v8),
   ((((((((((Only.refl k (k + 1) w).setCell k 0 (Nat.le_refl _) (by omega) v0).setCell k 1 (Nat.le_refl _) (by omega) v1).setCell k 2 (Nat.le_refl _) (by omega) v2).setCell k 3 (Nat.le_refl _) (by omega) v3).setCell k 4 (Nat.le_refl _) (by omega) v4).setCell k 5 (Nat.le_refl _) (by omega) v5).setCell k 6 (Nat.le_refl _) (by omega) v6).setCell k 7 (Nat.le_refl _) (by omega) v7).setCell k 8 (Nat.le_refl _) (by omega) v8)⟩
def none1 : Nat × (Nat → Int) := (0, fun _ => 0)
def noneM : Bm := ⟨0, none1, none1, none1, none1, none1, none1, none1, none1⟩
def noneB : Bx := ⟨0, ⟨none, 0, 0, fun _ => 0⟩, ⟨none, 0, 0, fun _ => 0⟩, ⟨none, 0, 0, fun _ => 0⟩, ⟨none, 0, 0, fun _ => 0⟩, ⟨none, 0, 0, fun _ => 0⟩, ⟨none, 0, 0, fun _ => 0⟩, ⟨none, 0, 0, fun _ => 0⟩, ⟨none, 0, 0, fun _ => 0⟩⟩
theorem none_own (B C : Nat) (w : World) : noneB.Own B C w := by
  refine ⟨?_, ?_, ?_⟩
  · simp only [noneB, Bx.lists, List.forall_mem_cons, List.not_mem_nil, false_implies, implies_true, and_true]
    exact ⟨.inl rfl, .inl rfl, .inl rfl, .inl rfl, .inl rfl, .inl rfl, .inl rfl, .inl rfl⟩
  · simp only [noneB, Bx.lists, List.pairwise_cons, List.forall_mem_cons, List.not_mem_nil, false_implies, implies_true, and_true, List.Pairwise.nil]
    refine ⟨⟨?_, ?_, ?_, ?_, ?_, ?_, ?_⟩, ⟨?_, ?_, ?_, ?_, ?_, ?_⟩, ⟨?_, ?_, ?_, ?_, ?_⟩, ⟨?_, ?_, ?_, ?_⟩, ⟨?_, ?_, ?_⟩, ⟨?_, ?_⟩, ?_⟩
    all_goals exact .inl rfl
  · simp only [noneB, Bx.lists, List.forall_mem_cons, List.not_mem_nil, false_implies, implies_true, and_true]
    exact ⟨Nat.le_refl _, Nat.le_refl _, Nat.le_refl _, Nat.le_refl _, Nat.le_refl _, Nat.le_refl _, Nat.le_refl _, Nat.le_refl _⟩
theorem Bx.At.nil {b : Bx} {w : World} (h : b.At w) : ∀ x ∈ b.lists, x.a = none → x.n = 0 := fun x hx e => by
  rcases h x hx with h | ⟨k, o, e', _⟩
  · exact h
  · rw [e] at e'; cases e'
def Bx.seti (b : Bx) (j : Nat) (v : Int) : Bx := ⟨b.s, b.p, b.h0, b.h1, b.h2, b.h3, b.o, b.i.put j v, b.e⟩
theorem seti_lists (b : Bx) (j : Nat) (v : Int) : (b.seti j v).lists = b.lists.set 6 (b.i.put j v) := rfl

theorem put9s {w : World} {k : Nat} {c0 c1 c2 c3 c4 c5 c6 c7 c8 : Value} (h : Ck w k [c0, c1, c2, c3, c4, c5, c6, c7, c8]) (v0 v1 v2 v3 v4 v5 v6 v7 v8 : Value) : Ck (w.setCells k 0 [v0, v1, v2, v3, v4, v5, v6, v7, v8]) k [v0, v1, v2, v3, v4, v5, v6, v7, v8] ∧ Only k (k + 1) w (w.setCells k 0 [v0, v1, v2, v3, v4, v5, v6, v7, v8]) := by
  have e := put9 h v0 v1 v2 v3 v4 v5 v6 v7 v8
  simp only [World.setCells, Nat.zero_add, Nat.reduceAdd]
  exact e

theorem there9 {w : World} {k : Nat} {c0 c1 c2 c3 c4 c5 c6 c7 c8 : Value} (h : Ck w k [c0, c1, c2, c3, c4, c5, c6, c7, c8]) : w.there k 0 9 := fun j hj => by
  have hl : j < [c0, c1, c2, c3, c4, c5, c6, c7, c8].length := hj
  have := h j _ (List.getElem?_eq_getElem hl)
  rw [Nat.zero_add, this.1]
  exact ⟨rfl, this.2⟩

/- The end: a book out of a variable is the answer. -/
theorem ans {w0 w : World} {c : Bx} {B C : Nat} (ht : Ck w (w0.heap.size + 1) [.int .i64 0, .slice none 0 0, .slice none 0 0, .slice none 0 0, .slice none 0 0, .slice none 0 0, .slice none 0 0, .slice none 0 0, .slice none 0 0]) (z : w0.heap.size + 2 ≤ w.heap.size) (hb : Below w0.heap.size w0 w) (ho : c.Own B C w) (hB : w0.heap.size + 2 ≤ B) (hC : C ≤ w.heap.size) :
    ∃ w1 : World, w1 = (((((((((w.setCell ⟨w0.heap.size + 1, 0, none⟩ (.int .i64 c.s)).setCell ⟨w0.heap.size + 1, 1, none⟩ (.slice c.p.a c.p.n c.p.c)).setCell ⟨w0.heap.size + 1, 2, none⟩ (.slice c.h0.a c.h0.n c.h0.c)).setCell ⟨w0.heap.size + 1, 3, none⟩ (.slice c.h1.a c.h1.n c.h1.c)).setCell ⟨w0.heap.size + 1, 4, none⟩ (.slice c.h2.a c.h2.n c.h2.c)).setCell ⟨w0.heap.size + 1, 5, none⟩ (.slice c.h3.a c.h3.n c.h3.c)).setCell ⟨w0.heap.size + 1, 6, none⟩ (.slice c.o.a c.o.n c.o.c)).setCell ⟨w0.heap.size + 1, 7, none⟩ (.slice c.i.a c.i.n c.i.c)).setCell ⟨w0.heap.size + 1, 8, none⟩ (.slice c.e.a c.e.n c.e.c)) ∧ Ck w1 (w0.heap.size + 1) c.cells ∧ c.Own w0.heap.size w1.heap.size w1 ∧ Below w0.heap.size w0 w1 := by
  obtain ⟨ck, oy⟩ := put9 ht (.int .i64 c.s) (.slice c.p.a c.p.n c.p.c) (.slice c.h0.a c.h0.n c.h0.c) (.slice c.h1.a c.h1.n c.h1.c) (.slice c.h2.a c.h2.n c.h2.c) (.slice c.h3.a c.h3.n c.h3.c) (.slice c.o.a c.o.n c.o.c) (.slice c.i.a c.i.n c.i.c) (.slice c.e.a c.e.n c.e.c)
  have zl := oy.size
  refine ⟨_, rfl, ck, ?_, hb.trans (oy.below (by omega) |>.mono (by omega))⟩
  exact (ho.only oy (.inr (by omega))).mono (by omega) (by omega)

/- A book, and two numbers, out of a variable. -/
theorem results_cell_two {P : Program} {fn : Func} {q u v : Tmp} {ty : TypeId} (h : fn.results = #[.cell q ty, .tmp u, .tmp v]) (tmps : Array Value) (w : World) (b o : Nat) (cs : List Value) (d : TypeDesc)
    (hp : tmps.getD q undef = .pointer (some ⟨b, o, none⟩)) (hc : w.rangeAt b o cs) (hu : P.underlying ty = some d) (hd : d.isRow = true) (hi : (P.info? ty).map (·.size) = some cs.length) :
    (results fn tmps).run P w = .ok (.tuple #[.agg cs.toArray, tmps.getD u undef, tmps.getD v undef]) w := by
  have hp' : tmps[q]?.getD undef = .pointer (some ⟨b, o, none⟩) := by simpa using hp
  simp [results, h, hp', asAddr, run_loadVar_mid w b o ty cs d hc hu hd hi]

/- The blocks that a book's lists lie in; that only these have turned. -/
def Bx.Lies (b : Bx) (i : Nat) : Prop := ∃ x ∈ b.lists, 0 < x.c ∧ ∃ o, x.a = some ⟨i, o, none⟩
structure Fr (b : Bx) (w w' : World) : Prop where
  os : w'.os = w.os
  tape : w'.tape = w.tape
  output : w'.output = w.output
  size : w.heap.size ≤ w'.heap.size
  block : ∀ i, i < w.heap.size → ¬ b.Lies i → w'.heap[i]? = w.heap[i]?
theorem Fr.of {b : Bx} {w w' : World} (h : Below w.heap.size w w') : Fr b w w' := ⟨h.os, h.tape, h.output, h.size, fun i hi _ => h.block i hi⟩
theorem Fr.trans {b c : Bx} {w w1 w2 : World} (h : Fr b w w1) (g : Fr c w1 w2) (hc : ∀ i, i < w.heap.size → c.Lies i → b.Lies i) : Fr b w w2 :=
  ⟨g.os.trans h.os, g.tape.trans h.tape, g.output.trans h.output, Nat.le_trans h.size g.size, fun i hi hn => (g.block i (Nat.lt_of_lt_of_le hi h.size) (fun l => hn (hc i hi l))).trans (h.block i hi hn)⟩
theorem Bx.Hl.lies {b : Bx} {B : Nat} {w : World} (h : b.Hl B w) {i : Nat} (hi : b.Lies i) : B ≤ i ∧ i < w.heap.size := by
  obtain ⟨x, hx, hc, o, e⟩ := hi
  obtain ⟨_, h | ⟨k, o', e', h1, h2, _⟩⟩ := h.each x hx
  · omega
  · rw [e] at e'; cases e'; exact ⟨h1, h2⟩
theorem Sx.Hl.same {x : Sx} {B : Nat} {w w' : World} (h : x.Hl B w) (hs : w.heap.size ≤ w'.heap.size) (hb : ∀ k o, 0 < x.c → x.a = some ⟨k, o, none⟩ → w'.heap[k]? = w.heap[k]?) : x.Hl B w' := by
  obtain ⟨h1, h2 | ⟨k, o, e, g1, g2, g3, g4⟩⟩ := h
  · exact ⟨h1, .inl h2⟩
  · by_cases c0 : x.c = 0
    · exact ⟨h1, .inl c0⟩
    have hk := hb k o (by omega) e
    refine ⟨h1, .inr ⟨k, o, e, g1, by omega, fun j hj => ?_, fun j hj => ?_⟩⟩
    · rw [World.cell?_of_block (w := w) hk, World.frozen?_of_block (w := w) hk]; exact g3 j hj
    · rw [World.cell?_of_block (w := w) hk]; exact g4 j hj

/- In the middle of a call that was made at w0 with the book b0: its variable holds b. -/
structure Dn (w0 : World) (b0 : Bx) (B : Nat) (b : Bx) (w : World) : Prop where
  e : Ck w w0.heap.size b.cells
  t : Ck w (w0.heap.size + 1) [.int .i64 0, .slice none 0 0, .slice none 0 0, .slice none 0 0, .slice none 0 0, .slice none 0 0, .slice none 0 0, .slice none 0 0, .slice none 0 0]
  h : b.Hl B w
  k : ∀ i, b.Lies i → b0.Lies i ∨ w0.heap.size + 2 ≤ i
  l : ∀ i, b0.Lies i → i < w0.heap.size
  f : Fr b0 w0 w
  z : w0.heap.size + 2 ≤ w.heap.size
theorem Dn.start {w0 : World} {b : Bx} {B : Nat} (h : b.Hl B w0) (t : TypeId) : Dn w0 b B b ((w0.alloc (.cells b.cells.toArray t)).alloc (.cells #[.int .i64 0, .slice none 0 0, .slice none 0 0, .slice none 0 0, .slice none 0 0, .slice none 0 0, .slice none 0 0, .slice none 0 0, .slice none 0 0] t)) := by
  have hb := (below1 w0 (.cells b.cells.toArray t)).trans ((below1 (w0.alloc (.cells b.cells.toArray t)) (.cells #[.int .i64 0, .slice none 0 0, .slice none 0 0, .slice none 0 0, .slice none 0 0, .slice none 0 0, .slice none 0 0, .slice none 0 0, .slice none 0 0] t)).mono (by simp))
  exact ⟨by have := ck_lit b.cells.toArray (heap2_0 w0 (.cells b.cells.toArray t) (.cells #[.int .i64 0, .slice none 0 0, .slice none 0 0, .slice none 0 0, .slice none 0 0, .slice none 0 0, .slice none 0 0, .slice none 0 0, .slice none 0 0] t)); simpa using this, ck_lit #[.int .i64 0, .slice none 0 0, .slice none 0 0, .slice none 0 0, .slice none 0 0, .slice none 0 0, .slice none 0 0, .slice none 0 0, .slice none 0 0] (heap2_1 w0 _ _), h.later hb, fun i hi => .inl hi, fun i hi => (h.lies hi).2, Fr.of hb, by simp⟩
theorem Dn.later {w0 w w1 : World} {b0 b : Bx} {B : Nat} (h : Dn w0 b0 B b w) (hb : Below w.heap.size w w1) : Dn w0 b0 B b w1 := by
  have z := h.z
  exact ⟨h.e.below hb (by omega), h.t.below hb (by omega), h.h.later hb, h.k, h.l, h.f.trans (c := b0) (Fr.of hb) (fun i _ g => g), Nat.le_trans z hb.size⟩

/- A number of a list is written. -/
theorem Dn.write {w0 w : World} {b0 b b' : Bx} {B : Nat} (h : Dn w0 b0 B b w) (q : Nat) (x : Sx) (hx : b.lists[q]? = some x) (k o j : Nat) (ha : x.a = some ⟨k, o, none⟩) (hj : j < x.n) (v : Int) (hl : b'.lists = b.lists.set q (x.put j v)) (hc : b'.cells = b.cells) (hL : ∀ i, b'.Lies i → b.Lies i) :
    Dn w0 b0 B b' (w.setCell ⟨k, o + j, none⟩ (.int .i64 v)) := by
  have hm : x ∈ b.lists := List.mem_of_getElem? hx
  have xc := (h.h.each x hm).1
  have lk : b.Lies k := ⟨x, hm, by omega, o, ha⟩
  have kk := h.k k lk
  have kl := fun g => h.l k g
  have z := h.z
  refine ⟨?_, ?_, h.h.write q x hx k o j ha hj v hl, fun i hi => h.k i (hL i hi), h.l, ?_, by simpa using z⟩
  · rw [hc]
    refine h.e.far _ ?_ _
    show k ≠ w0.heap.size
    rcases kk with g | g
    · have := kl g; omega
    · omega
  · refine h.t.far _ ?_ _
    show k ≠ w0.heap.size + 1
    rcases kk with g | g
    · have := kl g; omega
    · omega
  · have f := h.f
    refine ⟨f.os, f.tape, f.output, by simpa using f.size, fun i hi hn => ?_⟩
    refine Eq.trans ?_ (f.block i hi hn)
    have hne : k ≠ i := fun e => by
      subst e
      rcases kk with g | g
      · exact hn g
      · omega
    exact (Only.setCell (Only.refl k (k + 1) w) k (o + j) (Nat.le_refl _) (by omega) _).block i (by have := f.size; omega) (by omega)

/- The answer. -/
theorem Dn.ans {w0 w : World} {b0 b : Bx} {B : Nat} (h : Dn w0 b0 B b w) :
    ∃ w1 : World, w1 = (((((((((w.setCell ⟨w0.heap.size + 1, 0, none⟩ (.int .i64 b.s)).setCell ⟨w0.heap.size + 1, 1, none⟩ (.slice b.p.a b.p.n b.p.c)).setCell ⟨w0.heap.size + 1, 2, none⟩ (.slice b.h0.a b.h0.n b.h0.c)).setCell ⟨w0.heap.size + 1, 3, none⟩ (.slice b.h1.a b.h1.n b.h1.c)).setCell ⟨w0.heap.size + 1, 4, none⟩ (.slice b.h2.a b.h2.n b.h2.c)).setCell ⟨w0.heap.size + 1, 5, none⟩ (.slice b.h3.a b.h3.n b.h3.c)).setCell ⟨w0.heap.size + 1, 6, none⟩ (.slice b.o.a b.o.n b.o.c)).setCell ⟨w0.heap.size + 1, 7, none⟩ (.slice b.i.a b.i.n b.i.c)).setCell ⟨w0.heap.size + 1, 8, none⟩ (.slice b.e.a b.e.n b.e.c)) ∧
      Ck w1 (w0.heap.size + 1) b.cells ∧ b.Hl B w1 ∧ Fr b0 w0 w1 ∧ ∀ i, b.Lies i → b0.Lies i ∨ w0.heap.size ≤ i := by
  obtain ⟨ck, oy⟩ := put9 h.t (.int .i64 b.s) (.slice b.p.a b.p.n b.p.c) (.slice b.h0.a b.h0.n b.h0.c) (.slice b.h1.a b.h1.n b.h1.c) (.slice b.h2.a b.h2.n b.h2.c) (.slice b.h3.a b.h3.n b.h3.c) (.slice b.o.a b.o.n b.o.c) (.slice b.i.a b.i.n b.i.c) (.slice b.e.a b.e.n b.e.c)
  have zl := oy.size
  have z := h.z
  have f := h.f
  refine ⟨_, rfl, ck, ⟨fun x hx => (h.h.each x hx).same zl (fun k o hc e => ?_), h.h.apart⟩, ?_, fun i hi => (h.k i hi).imp id (by omega)⟩
  · have lk : b.Lies k := ⟨x, hx, hc, o, e⟩
    have := (h.h.lies lk).2
    refine oy.block k this ?_
    rcases h.k k lk with g | g
    · have := h.l k g; omega
    · omega
  · exact ⟨oy.os.trans f.os, oy.tape.trans f.tape, oy.output.trans f.output, Nat.le_trans f.size zl, fun i hi hn => (oy.block i (by have := f.size; omega) (by omega)).trans (f.block i hi hn)⟩

end Go.Proofs.YtbipolfbkemmpaaDoor.Book

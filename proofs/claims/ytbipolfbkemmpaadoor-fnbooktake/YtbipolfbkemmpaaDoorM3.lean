import Derived.Test.YtbipolfbkemmpaaDoorM2
import Derived.OpenShut
import Derived.Lib.SmallJoins
import Derived.Laws.IdiomArrays
import Derived.Test.YtbipolfbkemmpaaDoorM1

/- Books that are copied. Conditions: at most 1,000,000,000 numbers a list. -/
namespace Go.Proofs.YtbipolfbkemmpaaDoor.Book
open Go.ChangeShapes Go.WideShapes Go.ChangeAt Go.RowKit
open Aid Lst

/- A row of cells that may be written. -/
def Ck (w : World) (b : Nat) (cs : List Value) : Prop := ∀ j v, cs[j]? = some v → w.cell? ⟨b, j, none⟩ = some v ∧ w.frozen? ⟨b, j, none⟩ = false

theorem ck_lit {w : World} {b : Nat} (C : Array Value) {t : TypeId} (hb : w.heap[b]? = some (.cells C t (0, 0))) : Ck w b C.toList := fun j v hv => by
  rw [cell_of_row w b j C t (0, 0) hb, frozen_of_row w b j C t hb]; exact ⟨by simpa using hv, rfl⟩

theorem Ck.set {w : World} {b : Nat} {cs : List Value} (h : Ck w b cs) (i : Nat) (x : Value) : Ck (w.setCell ⟨b, i, none⟩ x) b (cs.set i x) := fun j v hv => by
  by_cases e : j = i
  · subst e
    have hl : j < cs.length := by
      have := (List.getElem?_eq_some_iff.1 hv).1
      simpa using this
    have g := h j cs[j] (List.getElem?_eq_getElem hl)
    rw [World.cell?_setCell_same _ _ _ g.1]
    rw [List.getElem?_set_self hl] at hv
    refine ⟨hv, ?_⟩
    have := g.2
    simp [this]
  · rw [List.getElem?_set_ne (Ne.symm e)] at hv
    have g := h j v hv
    have hne : (⟨b, i, none⟩ : Addr) ≠ ⟨b, j, none⟩ := fun h => e (by injection h with _ h2 _; exact h2.symm)
    rw [World.cell?_setCell_other _ _ _ _ hne]
    have g2 := g.2
    exact ⟨g.1, by simp [g2]⟩

theorem Ck.below {B : Nat} {W w1 : World} (hb : Below B W w1) {b : Nat} {cs : List Value} (h : Ck W b cs) (hB : b < B) : Ck w1 b cs := fun j v hv => by
  rw [hb.cell (p := ⟨b, j, none⟩) hB, hb.frozen (p := ⟨b, j, none⟩) hB]; exact h j v hv
theorem Ck.far {w : World} {b : Nat} {cs : List Value} (h : Ck w b cs) (p : Addr) (hp : p.block ≠ b) (x : Value) : Ck (w.setCell p x) b cs := fun j v hv => by
  have g := h j v hv
  rw [World.cell?_setCell_far _ _ _ _ hp]
  have g2 := g.2
  exact ⟨g.1, by simp [g2]⟩
theorem Only.setCell {B C : Nat} {a w : World} (h : Only B C a w) (b o : Nat) (hB : B ≤ b) (hC : b < C) (x : Value) : Only B C a (w.setCell ⟨b, o, none⟩ x) :=
  ⟨h.os, h.tape, h.output, by simpa [World.setCell] using h.size, fun i hi ho => (Below.heap_setCell w ⟨b, o, none⟩ x i (by show i ≠ b; omega)).trans (h.block i hi ho)⟩
theorem Only.refl (B C : Nat) (w : World) : Only B C w w := ⟨rfl, rfl, rfl, Nat.le_refl _, fun _ _ _ => rfl⟩
theorem apart_of (j k : Nat) (h : j ≠ k) (n n' c c' : Nat) (f f' : Nat → Int) : Apart ⟨some ⟨j, 0, none⟩, n, c, f⟩ ⟨some ⟨k, 0, none⟩, n', c', f'⟩ := .inr (.inr ⟨j, k, rfl, rfl, h⟩)
theorem Ck.lt {w : World} {b : Nat} {v : Value} {cs : List Value} (h : Ck w b (v :: cs)) : b < w.heap.size := World.block_lt_of_cell? w _ (h 0 v rfl).1
theorem Ck.range {w : World} {b : Nat} {cs : List Value} (h : Ck w b cs) : w.rangeAt b 0 cs := fun j v hv => by simpa using (h j v hv).1
theorem Ck.to {w w' : World} {b : Nat} {cs cs' : List Value} (h : Ck w b cs) (hw : w' = w) (e : cs' = cs) : Ck w' b cs' := by subst hw; subst e; exact h

set_option maxRecDepth 100000
def Sx.Good (x : Sx) (w : World) : Prop := x.At w ∧ x.n ≤ maxLen ∧ ∀ j, (Lit.int .i64 (x.f j)).wf = true
structure Bx.Good (b : Bx) (w : World) : Prop where
  s : (Lit.int .i64 b.s).wf = true
  each : ∀ x ∈ b.lists, x.Good w

theorem Bx.Good.at {b : Bx} {w : World} (h : b.Good w) : b.At w := fun x hx => (h.each x hx).1
theorem Bx.Good.short {b : Bx} {w : World} (h : b.Good w) : ∀ x ∈ b.lists, (x.n : Int) ≤ maxLen := fun x hx => by have := (h.each x hx).2.1; omega

theorem open_list {H : Type} {enc : TypeId × Value → H} {w : World} {n : Nat} {v : Value} {y : DataW H × List MemPlace} (h : DataW.trod enc Tryd.prog w 0 (fun _ => true) true n 23 [v] = some y) : ∃ x : Sx, v = .slice x.a x.n x.c ∧ x.Good w := by
  rcases open_ints Tryd.underlying23 Tryd.underlying3 (by kernel_rfl) h with ⟨hcs, _⟩ | ⟨x, l, c, zs, hcs, _, hl, hm, hz, _, hcell, hwz⟩
  · simp at hcs
    obtain ⟨g1, g2, g3⟩ := sl_of (k := .i64) (w := w) (a := none) (len := 0) (cap := 0) (zs := []) (.inl ⟨rfl, rfl, rfl, rfl⟩)
    exact ⟨⟨none, 0, 0, fun j => ([] : List Int).getD j 0⟩, hcs, g1, g2, g3⟩
  · simp at hcs
    obtain ⟨g1, g2, g3⟩ := sl_of (k := .i64) (w := w) (a := some x) (len := l) (cap := c) (zs := zs) (.inr ⟨x, rfl, hl, hm, by simpa using hz, hcell, hwz⟩)
    exact ⟨⟨some x, l, c, fun j => zs.getD j 0⟩, hcs, g1, g2, g3⟩

theorem array9 {α : Type} {cs : Array α} (h : cs.size = 9) : ∃ c0 c1 c2 c3 c4 c5 c6 c7 c8, cs = #[c0, c1, c2, c3, c4, c5, c6, c7, c8] := by
  obtain ⟨l⟩ := cs
  match l, h with
  | [c0, c1, c2, c3, c4, c5, c6, c7, c8], _ => exact ⟨c0, c1, c2, c3, c4, c5, c6, c7, c8, rfl⟩

theorem takeB {P : Program} {md : Region.Mode} {ops : Array Oper} {Q : Exit → Act → World → Prop} {S : World → Prop} {i : Nat} {oi : Oper} {v : Value} {d : Option Tmp} {fuel : Nat} {listed : Array Bool} {a : Act} {w : World} (hi : ops[i]? = some oi) (hd : oi.dst = d)
    (hs : Region.noSelect ops = true) (hf : Region.free md ops listed i = true) (hr : (Region.ready md ops listed).contains i = true)
    (hQ : ∀ c a w, Q (.panic c) (a.put d v) w → Q (.panic c) a w) (hy : YieldsIf P ops S oi v a) (hS : S w)
    (h : wpAnyH P md ops Q S fuel (listed.setIfInBounds i true) (a.put d v) w) : wpAnyH P md ops Q S (fuel + 1) listed a w := by
  subst hd
  exact wpAnyH_take hi hs hf hr hQ hy hS h

structure St (w0 : World) (rs : List (Nat × List Value)) (bs : List Bx) (w : World) : Prop where
  r : ∀ p ∈ rs, w.rangeAt p.1 0 p.2 ∧ p.1 < w.heap.size
  a : ∀ b ∈ bs, b.At w
  b : Below w0.heap.size w0 w

theorem St.later {w0 w w1 : World} {rs : List (Nat × List Value)} {bs : List Bx} (h : St w0 rs bs w) (hb : Below w.heap.size w w1) : St w0 rs bs w1 :=
  ⟨fun p hp => ⟨range_below hb (h.r p hp).1 (h.r p hp).2, Nat.lt_of_lt_of_le (h.r p hp).2 hb.size⟩, fun b hi => (h.a b hi).later hb, h.b.trans (hb.mono h.b.size)⟩
theorem St.drew {w0 w : World} {rs : List (Nat × List Value)} {bs : List Bx} (h : St w0 rs bs w) : St w0 rs bs w.drew := ⟨h.r, h.a, ⟨h.b.os, h.b.tape, h.b.output, h.b.size, h.b.block⟩⟩
theorem St.book {w0 w : World} {rs : List (Nat × List Value)} {bs : List Bx} (h : St w0 rs bs w) {b : Bx} (hb : b.At w) : St w0 rs (b :: bs) w :=
  ⟨h.r, fun x hx => by
    rcases List.mem_cons.1 hx with rfl | hx
    · exact hb
    · exact h.a x hx, h.b⟩
theorem St.row {w0 w : World} {rs : List (Nat × List Value)} {bs : List Bx} (h : St w0 rs bs w) (C : Array Value) (t : TypeId) : St w0 ((w.heap.size, C.toList) :: rs) bs (w.alloc (.cells C t)) :=
  ⟨fun p hp => by
    rcases List.mem_cons.1 hp with rfl | hp
    · exact ⟨range_lit C (heap1_0 _ _), by simp⟩
    · exact ⟨range_below (below1 w _) (h.r p hp).1 (h.r p hp).2, by have := (h.r p hp).2; simp; omega⟩, fun b hi => (h.a b hi).later (below1 w _), h.b.trans ((below1 w _).mono h.b.size)⟩
theorem St.start {w : World} {bs : List Bx} (h : ∀ b ∈ bs, b.At w) : St w [] bs w := ⟨fun p hp => by simp at hp, h, Below.refl _ _⟩
theorem St.take {w0 w : World} {rs rs' : List (Nat × List Value)} {bs bs' : List Bx} (h : St w0 rs bs w) (hr : ∀ p ∈ rs', p ∈ rs) (hb : ∀ b ∈ bs', b ∈ bs) : St w0 rs' bs' w := ⟨fun p hp => h.r p (hr p hp), fun b hi => h.a b (hb b hi), h.b⟩

theorem total_m {x y : Bx} (h : x.m = y.m) : x.total = y.total := by
  simp only [Bx.m, Bm.mk.injEq, Sx.m, Prod.mk.injEq] at h
  simp only [Bx.total]
  obtain ⟨_, ⟨h1, _⟩, ⟨h2, _⟩, ⟨h3, _⟩, ⟨h4, _⟩, ⟨h5, _⟩, ⟨h6, _⟩, ⟨h7, _⟩, ⟨h8, _⟩⟩ := h
  omega

theorem nine {w : World} {k : Nat} {x : Bx} (h : w.rangeAt k 0 x.cells) : w.cell? ⟨k, 0, none⟩ = some (.int .i64 x.s) ∧ w.cell? ⟨k, 1, none⟩ = some (.slice x.p.a x.p.n x.p.c) ∧ w.cell? ⟨k, 2, none⟩ = some (.slice x.h0.a x.h0.n x.h0.c) ∧ w.cell? ⟨k, 3, none⟩ = some (.slice x.h1.a x.h1.n x.h1.c) ∧ w.cell? ⟨k, 4, none⟩ = some (.slice x.h2.a x.h2.n x.h2.c) ∧ w.cell? ⟨k, 5, none⟩ = some (.slice x.h3.a x.h3.n x.h3.c) ∧ w.cell? ⟨k, 6, none⟩ = some (.slice x.o.a x.o.n x.o.c) ∧ w.cell? ⟨k, 7, none⟩ = some (.slice x.i.a x.i.n x.i.c) ∧ w.cell? ⟨k, 8, none⟩ = some (.slice x.e.a x.e.n x.e.c) :=
  ⟨h 0 _ rfl, h 1 _ rfl, h 2 _ rfl, h 3 _ rfl, h 4 _ rfl, h 5 _ rfl, h 6 _ rfl, h 7 _ rfl, h 8 _ rfl⟩

end Go.Proofs.YtbipolfbkemmpaaDoor.Book
/- The program's links: follow, leave. -/
namespace Go.Proofs.YtbipolfbkemmpaaDoor.Rin
open Go.ChangeShapes Go.WideShapes Go.ChangeAt Go.RowKit
open Aid
open Book (takeB)
set_option maxRecDepth 100000
set_option linter.unusedVariables false

theorem follow_at (a n : Nat) (u : Int) (v : Value) (w : World) (h1 : w.cell? ⟨a, 1, none⟩ = some (ptr n)) (h2 : w.cell? ⟨n, 2, none⟩ = some v) (f1 : w.frozen? ⟨a, 1, none⟩ = false) (f2 : w.frozen? ⟨n, 2, none⟩ = false) :
    Calls Tryd.prog 66 #[.pointer (some ⟨a, 0, none⟩), .int .i64 u] w fun e w' => e = .returned (.tuple #[]) ∧ w' = ((w.alloc (.cells #[.int .i64 u, ptr n, ptr a] 84)).setCell ⟨n, 2, none⟩ (ptr w.heap.size)).setCell ⟨a, 1, none⟩ (ptr w.heap.size) := by
  have l1 := World.block_lt_of_cell? w _ h1
  have l2 := World.block_lt_of_cell? w _ h2
  unfold ptr at h1 ⊢
  go_enter Tryd.func66, Tryd.ntmps66
  go_wp2_with (fail)
  exact bodyPost_end (v := .tuple #[]) (by simp [results, Tryd.results66]) rfl ⟨rfl, rfl⟩

/- What 'leave' rests on. -/
structure Lv (x n p : Nat) (w : World) : Prop where
  n : w.cell? ⟨x, 1, none⟩ = some (ptr n)
  p : w.cell? ⟨x, 2, none⟩ = some (ptr p)

set_option maxHeartbeats 1000000 in
theorem leave_at (x n p : Nat) (v v' : Value) (w : World) (hn : w.cell? ⟨x, 1, none⟩ = some (ptr n)) (hp : w.cell? ⟨x, 2, none⟩ = some (ptr p)) (h1 : w.cell? ⟨p, 1, none⟩ = some v) (h2 : w.cell? ⟨n, 2, none⟩ = some v') (f1 : w.frozen? ⟨p, 1, none⟩ = false) (f2 : w.frozen? ⟨n, 2, none⟩ = false) (hx : x ≠ p) (hx2 : x ≠ n) :
    Calls Tryd.prog 97 #[.pointer (some ⟨x, 0, none⟩)] w fun e w' => e = .returned (.tuple #[]) ∧ ∃ q, w' = ((w.setCell ⟨p, 1, none⟩ (ptr n)).setCell ⟨n, 2, none⟩ (ptr p)).drewN q := by
  have H1 : Hid (w.cell? ⟨p, 1, none⟩ = some v) := h1
  have H2 : Hid (w.cell? ⟨n, 2, none⟩ = some v') := h2
  have F1 : Hid (w.frozen? ⟨p, 1, none⟩ = false) := f1
  have F2 : Hid (w.frozen? ⟨n, 2, none⟩ = false) := f2
  have L0 : Lv x n p w := ⟨hn, hp⟩
  clear h1 h2 f1 f2 hn hp
  go_enter Tryd.func97, Tryd.ntmps97
  go_wp2_with (fail)
  refine wp_region_held_drew (S := Lv x n p) (by kernel_rfl) ⟨L0.n, L0.p⟩ (fun hS => ?_)
  clear L0
  refine tI 0 (v := .pointer (some ⟨x, 0, none⟩)) (d := some 2) rfl rfl (fun w' hw => ?_) hS ?_
  · clear hw; go_simp
  try simp only [Act.put, s1, s2, s3]
  refine tI 1 (v := .pointer (some ⟨x, 0, none⟩)) (d := some 3) rfl rfl (fun w' hw => ?_) hS ?_
  · clear hw; go_simp
  try simp only [Act.put, s1, s2, s3]
  refine tI 2 (v := .pointer (some ⟨x, 2, none⟩)) (d := some 4) rfl rfl (fun w' hw => ?_) hS ?_
  · clear hw; go_simp
  try simp only [Act.put, s1, s2, s3]
  refine tI 3 (v := .pointer (some ⟨p, 0, none⟩)) (d := some 5) rfl rfl (fun w' hw => ?_) hS ?_
  · have c := hw.p; unfold ptr at c; clear hw; go_simp
  try simp only [Act.put, s1, s2, s3]
  refine tI 4 (v := .pointer (some ⟨x, 0, none⟩)) (d := some 6) rfl rfl (fun w' hw => ?_) hS ?_
  · clear hw; go_simp
  try simp only [Act.put, s1, s2, s3]
  refine tI 5 (v := .pointer (some ⟨x, 0, none⟩)) (d := some 7) rfl rfl (fun w' hw => ?_) hS ?_
  · clear hw; go_simp
  try simp only [Act.put, s1, s2, s3]
  refine tI 6 (v := .pointer (some ⟨x, 1, none⟩)) (d := some 8) rfl rfl (fun w' hw => ?_) hS ?_
  · clear hw; go_simp
  try simp only [Act.put, s1, s2, s3]
  refine tI 7 (v := .pointer (some ⟨n, 0, none⟩)) (d := some 9) rfl rfl (fun w' hw => ?_) hS ?_
  · have c := hw.n; unfold ptr at c; clear hw; go_simp
  try simp only [Act.put, s1, s2, s3]
  refine tI 8 (v := .pointer (some ⟨p, 0, none⟩)) (d := some 10) rfl rfl (fun w' hw => ?_) hS ?_
  · clear hw; go_simp
  try simp only [Act.put, s1, s2, s3]
  refine tI 9 (v := .pointer (some ⟨p, 1, none⟩)) (d := some 11) rfl rfl (fun w' hw => ?_) hS ?_
  · clear hw; go_simp
  try simp only [Act.put, s1, s2, s3]
  refine r1 10 rfl (fun K hK => ?_)
  have HS : Hid (Lv x n p w.drew) := hS
  have c1 := H1.out
  have c2 : w.drew.frozen? ⟨p, 1, none⟩ = false := F1.out
  clear hS
  go_simp
  have HV : Hid (Lv x n p (w.setCell ⟨p, 1, none⟩ (.pointer (some ⟨n, 0, none⟩))).drew) :=
    ⟨show World.cell? (w.setCell _ _) _ = _ by rw [World.cell?_setCell_other _ _ _ _ (fun e => hx (by injection e with e1 _ _; exact e1.symm))]; exact HS.out.n, show World.cell? (w.setCell _ _) _ = _ by rw [World.cell?_setCell_other _ _ _ _ (by simp)]; exact HS.out.p⟩
  have G1 : Hid ((w.setCell ⟨p, 1, none⟩ (.pointer (some ⟨n, 0, none⟩))).drew.cell? ⟨n, 2, none⟩ = some v') := by
    show World.cell? (w.setCell _ _) _ = _
    rw [World.cell?_setCell_other _ _ _ _ (by simp)]; exact H2.out
  have G2 : Hid ((w.setCell ⟨p, 1, none⟩ (.pointer (some ⟨n, 0, none⟩))).drew.frozen? ⟨n, 2, none⟩ = false) := by
    have f := F2.out
    show _ = _
    simp [f]
  refine hK.out _ _ HV.out (fun hS => ?_)
  clear hK K HS c1 c2 H1 F1 hS
  refine wpAnyH_done (by kernel_rfl) ?_ _
  obtain ⟨V, eV⟩ : ∃ V, V = (w.setCell ⟨p, 1, none⟩ (.pointer (some ⟨n, 0, none⟩))).drew := ⟨_, rfl⟩
  rw [← eV] at HV G1 G2 ⊢
  have EV : Hid (V = (w.setCell ⟨p, 1, none⟩ (.pointer (some ⟨n, 0, none⟩))).drew) := eV
  clear eV
  go_wp2_with (fail)
  refine wp_region_held_drew (S := Lv x n p) (by kernel_rfl) ⟨HV.out.n, HV.out.p⟩ (fun hS => ?_)
  refine tI 0 (v := .pointer (some ⟨x, 0, none⟩)) (d := some 12) rfl rfl (fun w' hw => ?_) hS ?_
  · clear hw; go_simp
  try simp only [Act.put, s1, s2, s3]
  refine tI 1 (v := .pointer (some ⟨x, 0, none⟩)) (d := some 13) rfl rfl (fun w' hw => ?_) hS ?_
  · clear hw; go_simp
  try simp only [Act.put, s1, s2, s3]
  refine tI 2 (v := .pointer (some ⟨x, 1, none⟩)) (d := some 14) rfl rfl (fun w' hw => ?_) hS ?_
  · clear hw; go_simp
  try simp only [Act.put, s1, s2, s3]
  refine tI 3 (v := .pointer (some ⟨n, 0, none⟩)) (d := some 15) rfl rfl (fun w' hw => ?_) hS ?_
  · have c := hw.n; unfold ptr at c; clear hw; go_simp
  try simp only [Act.put, s1, s2, s3]
  refine tI 4 (v := .pointer (some ⟨x, 0, none⟩)) (d := some 16) rfl rfl (fun w' hw => ?_) hS ?_
  · clear hw; go_simp
  try simp only [Act.put, s1, s2, s3]
  refine tI 5 (v := .pointer (some ⟨x, 0, none⟩)) (d := some 17) rfl rfl (fun w' hw => ?_) hS ?_
  · clear hw; go_simp
  try simp only [Act.put, s1, s2, s3]
  refine tI 6 (v := .pointer (some ⟨x, 2, none⟩)) (d := some 18) rfl rfl (fun w' hw => ?_) hS ?_
  · clear hw; go_simp
  try simp only [Act.put, s1, s2, s3]
  refine tI 7 (v := .pointer (some ⟨p, 0, none⟩)) (d := some 19) rfl rfl (fun w' hw => ?_) hS ?_
  · have c := hw.p; unfold ptr at c; clear hw; go_simp
  try simp only [Act.put, s1, s2, s3]
  refine tI 8 (v := .pointer (some ⟨n, 0, none⟩)) (d := some 20) rfl rfl (fun w' hw => ?_) hS ?_
  · clear hw; go_simp
  try simp only [Act.put, s1, s2, s3]
  refine tI 9 (v := .pointer (some ⟨n, 2, none⟩)) (d := some 21) rfl rfl (fun w' hw => ?_) hS ?_
  · clear hw; go_simp
  try simp only [Act.put, s1, s2, s3]
  refine r1 10 rfl (fun K hK => ?_)
  have c1 := G1.out
  have c2 : V.drew.frozen? ⟨n, 2, none⟩ = false := G2.out
  have HW : Hid (Lv x n p (V.drew.setCell ⟨n, 2, none⟩ (.pointer (some ⟨p, 0, none⟩)))) :=
    ⟨by rw [World.cell?_setCell_other _ _ _ _ (by simp)]; exact HV.out.n, by rw [World.cell?_setCell_other _ _ _ _ (fun e => hx2 (by injection e with e1 _ _; exact e1.symm))]; exact HV.out.p⟩
  clear hS
  go_simp
  refine hK.out _ _ HW.out (fun hS => ?_)
  clear hK K HW c1 c2 hS
  refine wpAnyH_done (by kernel_rfl) ?_ _
  go_wp2_with (fail)
  refine bodyPost_end (v := .tuple #[]) (by simp [results, Tryd.results97]) rfl ⟨rfl, 2, ?_⟩
  rw [EV.out]
  rfl

end Go.Proofs.YtbipolfbkemmpaaDoor.Rin
/- The kind of a room, of both: whatever int comes in. -/
namespace Go.Proofs.YtbipolfbkemmpaaDoor.Book
open Go.ChangeShapes Go.WideShapes Go.ChangeAt Go.RowKit
open Aid

def sz (k : Int) : Int := if k = 0 then 1 else if k = 1 then 2 else if k = 2 then 4 else 8
def kindM (u : Int) : Int := if u < 1 ∨ 32 < u then -1 else if u ≤ 1 then 0 else if u ≤ 2 then 1 else if u ≤ 4 then 2 else if u ≤ 8 then 3 else 4

theorem kindM_of (u k : Int) (h : 0 ≤ k ∧ k < 4 ∧ 1 ≤ u ∧ u ≤ sz k ∧ (∀ j, 0 ≤ j → j < k → sz j < u)) : kindM u = k := by
  obtain ⟨h0, h1, h2, h3, h⟩ := h
  have q0 := h 0; have q1 := h 1; have q2 := h 2; have q3 := h 3
  obtain rfl | rfl | rfl | rfl : k = 0 ∨ k = 1 ∨ k = 2 ∨ k = 3 := by omega
  all_goals
    simp [sz] at q0 q1 q2 q3 h3
    simp only [kindM]
    repeat' split
    all_goals omega

theorem kindM_none (u : Int) (h : u < 1 ∨ 32 < u) : kindM u = -1 := by simp only [kindM]; rw [if_pos h]
theorem kindM_wide (u : Int) (h : 8 < u) (h' : u ≤ 32) : kindM u = 4 := by
  simp only [kindM]
  repeat' split
  all_goals omega

theorem size_any (k : Int) (h0 : 0 ≤ k) (h1 : k < 4) (w : World) : Calls Tryd.prog 59 #[.int .i64 k] w fun e w' => e = .returned (.int .i64 (sz k)) ∧ Below w.heap.size w w' := by
  obtain rfl | rfl | rfl | rfl : k = 0 ∨ k = 1 ∨ k = 2 ∨ k = 3 := by omega
  all_goals
    go_enter Tryd.func59, Tryd.ntmps59
    go_wp2_with (fail)
    go_ret
    exact ⟨rfl, below1 _ _⟩

theorem within_any (n a b : Int) (w : World) : Calls Tryd.prog 46 #[.int .i64 n, .int .i64 a, .int .i64 b] w fun e w' => e = .returned (.bool (decide (a ≤ n ∧ n ≤ b))) ∧ w' = w := by
  by_cases h1 : a ≤ n <;> by_cases h2 : n ≤ b
  all_goals
    go_enter Tryd.func46, Tryd.ntmps46
    go_wp2_with (fail)
    go_ret
    exact ⟨by simp [h1, h2], rfl⟩

set_option maxHeartbeats 1000000 in
theorem skind_any (u : Int) (w : World) : Calls Tryd.prog 90 #[.int .i64 u] w fun e w' => e = .returned (.int .i64 (kindM u)) ∧ Below w.heap.size w w' := by
  go_enter Tryd.func90, Tryd.ntmps90
  go_wp2_with (fail)
  go_loopw [3] (fun i wr => ∃ k : Int, 0 ≤ k ∧ k ≤ 4 ∧ i = .int .i64 k ∧ (1 ≤ u → ∀ j, 0 ≤ j → j < k → sz j < u) ∧ Below w.heap.size w wr) (fun i _ => 4 - (intOf i).toNat)
  case atStart => exact ⟨0, by omega, by omega, rfl, fun _ j h1 h2 => by omega, Below.refl _ _⟩
  case round =>
    obtain ⟨k, hk0, hk, rfl, hj, hb⟩ := hrel
    by_cases hlt : k < 4
    · by_cases h1 : 1 ≤ u
      · have hs := size_any k hk0 hlt
        have hjH := (id hj : Hid _)
        have hbH := (id hb : Hid _)
        clear hj hb
        go_wp2_with (fail)
        refine (hs _).mono ?_
        rintro e w1 ⟨rfl, hb1⟩
        clear hs
        have hb2 := hbH.out.trans (hb1.mono hbH.out.size)
        clear hb1 hbH
        by_cases h2 : u ≤ sz k
        · go_wp2_with (fail)
          go_ret
          exact ⟨by rw [kindM_of u k ⟨hk0, hlt, h1, h2, hjH.out h1⟩]; rfl, hb2⟩
        · go_wp2_with (fail)
          go_roundw
          case rel => exact ⟨k + 1, by omega, by omega, by go_num, fun h j a b => (by
            by_cases e : j = k
            · subst e; omega
            · exact hjH.out h j a (by omega)), hb2⟩
          case measure => simp [intOf]; omega
      · have hbH := (id hb : Hid _)
        clear hj hb
        go_wp2_with (fail)
        go_roundw
        case rel => exact ⟨k + 1, by omega, by omega, by go_num, fun h => absurd h h1, hbH.out⟩
        case measure => simp [intOf]; omega
    · obtain rfl : k = 4 := by omega
      by_cases h1 : 8 < u <;> by_cases h2 : u ≤ 32
      all_goals
        go_wp2_with (fail)
        go_ret
        have h3 : 1 ≤ u → sz 3 < u := fun h => hj h 3 (by omega) (by omega)
        simp [sz] at h3
        first
          | exact ⟨by rw [kindM_wide u h1 h2]; rfl, hb⟩
          | exact ⟨by rw [kindM_none u (by omega)]; rfl, hb⟩

set_option maxHeartbeats 1000000 in
theorem kind_any (u : Int) (w : World) : Calls Tryd.prog 21 #[.int .i64 u] w fun e w' => e = .returned (.int .i64 (kindM u)) ∧ w' = w := by
  go_enter Tryd.func21, Tryd.ntmps21
  go_wp2_with (fail)
  refine (within_any u 1 32 _).mono ?_
  rintro e w1 ⟨rfl, rfl⟩
  by_cases hw : 1 ≤ u ∧ u ≤ 32
  · go_wp2_with (fail)
    go_loop [3] (fun i => ∃ k : Int, 0 ≤ k ∧ k ≤ 4 ∧ i = .int .i64 k ∧ (∀ j, 0 ≤ j → j < k → sz j < u)) (fun i => 4 - (intOf i).toNat)
    case atStart => exact ⟨0, by omega, by omega, rfl, fun j h1 h2 => by omega⟩
    case round =>
      obtain ⟨k, hk0, hk, rfl, hj⟩ := hrel
      by_cases hlt : k < 4
      · obtain rfl | rfl | rfl | rfl : k = 0 ∨ k = 1 ∨ k = 2 ∨ k = 3 := by omega
        · by_cases h2 : (1 : Int) < u
          · go_wp2_with (fail)
            go_round
            case rel => exact ⟨1, by omega, by omega, by go_num, fun j a b => (by obtain rfl : j = 0 := by omega
                                                                                  exact h2)⟩
            case measure => simp [intOf]
          · go_wp2_with (fail)
            go_ret
            exact ⟨by rw [kindM_of u 0 ⟨hk0, hlt, hw.1, by simp [sz]; omega, hj⟩]; rfl, rfl⟩
        · by_cases h2 : (2 : Int) < u
          · go_wp2_with (fail)
            go_round
            case rel => exact ⟨2, by omega, by omega, by go_num, fun j a b => (by
              obtain rfl | rfl : j = 0 ∨ j = 1 := by omega
              all_goals simp [sz]; omega)⟩
            case measure => simp [intOf]
          · go_wp2_with (fail)
            go_ret
            exact ⟨by rw [kindM_of u 1 ⟨hk0, hlt, hw.1, by simp [sz]; omega, hj⟩]; rfl, rfl⟩
        · by_cases h2 : (4 : Int) < u
          · go_wp2_with (fail)
            go_round
            case rel => exact ⟨3, by omega, by omega, by go_num, fun j a b => (by
              obtain rfl | rfl | rfl : j = 0 ∨ j = 1 ∨ j = 2 := by omega
              all_goals simp [sz]; omega)⟩
            case measure => simp [intOf]
          · go_wp2_with (fail)
            go_ret
            exact ⟨by rw [kindM_of u 2 ⟨hk0, hlt, hw.1, by simp [sz]; omega, hj⟩]; rfl, rfl⟩
        · by_cases h2 : (8 : Int) < u
          · go_wp2_with (fail)
            go_round
            case rel => exact ⟨4, by omega, by omega, by go_num, fun j a b => (by
              obtain rfl | rfl | rfl | rfl : j = 0 ∨ j = 1 ∨ j = 2 ∨ j = 3 := by omega
              all_goals simp [sz]; omega)⟩
            case measure => simp [intOf]
          · go_wp2_with (fail)
            go_ret
            exact ⟨by rw [kindM_of u 3 ⟨hk0, hlt, hw.1, by simp [sz]; omega, hj⟩]; rfl, rfl⟩
      · obtain rfl : k = 4 := by omega
        have h3 : sz 3 < u := hj 3 (by omega) (by omega)
        simp [sz] at h3
        go_wp2_with (fail)
        go_ret
        exact ⟨by rw [kindM_wide u h3 hw.2]; rfl, rfl⟩
  · go_wp2_with (fail)
    go_ret
    exact ⟨by rw [kindM_none u (by omega)]; rfl, rfl⟩

open Aid Lst
set_option maxRecDepth 100000
/- A call with a book as its first argument: the book in a struct of its own. -/
structure Ent (w : World) (b : Bx) (W : World) : Prop where
  r : W.rangeAt w.heap.size 0 b.cells
  a : b.At W
  b : Below w.heap.size w W
  lt : w.heap.size < W.heap.size

theorem Ent.start {w : World} {b : Bx} (h : b.At w) (t : TypeId) : Ent w b (w.alloc (.cells b.cells.toArray t)) := ⟨range_lit b.cells.toArray (heap1_0 _ _), h.later (below1 _ _), below1 _ _, by simp⟩
theorem Ent.later {w : World} {b : Bx} {W W1 : World} (h : Ent w b W) (hb : Below W.heap.size W W1) : Ent w b W1 := ⟨range_below hb h.r h.lt, h.a.later hb, h.b.trans (hb.mono h.b.size), Nat.lt_of_lt_of_le h.lt hb.size⟩
theorem Ent.drewN {w : World} {b : Bx} {W : World} (h : Ent w b W) (q : Nat) : Ent w b (W.drewN q) := ⟨h.r, h.a, ⟨h.b.os, h.b.tape, h.b.output, h.b.size, h.b.block⟩, h.lt⟩

/- A list that is not empty, in memory. -/
theorem Sx.At.cells {x : Sx} {w : World} (h : x.At w) (hn : 0 < x.n) : ∃ k o, x.a = some ⟨k, o, none⟩ ∧ ∀ j, j < x.n → w.cell? ⟨k, o + j, none⟩ = some (.int .i64 (x.f j)) := by
  rcases h with h | ⟨k, o, e, h⟩
  · omega
  · exact ⟨k, o, e, h⟩
theorem Bx.At.p {b : Bx} {w : World} (h : b.At w) : b.p.At w := h _ (by simp [Bx.lists])
theorem Bx.At.h0 {b : Bx} {w : World} (h : b.At w) : b.h0.At w := h _ (by simp [Bx.lists])
theorem Bx.At.h1 {b : Bx} {w : World} (h : b.At w) : b.h1.At w := h _ (by simp [Bx.lists])
theorem Bx.At.h2 {b : Bx} {w : World} (h : b.At w) : b.h2.At w := h _ (by simp [Bx.lists])
theorem Bx.At.h3 {b : Bx} {w : World} (h : b.At w) : b.h3.At w := h _ (by simp [Bx.lists])
theorem Bx.At.o {b : Bx} {w : World} (h : b.At w) : b.o.At w := h _ (by simp [Bx.lists])
theorem Bx.At.i {b : Bx} {w : World} (h : b.At w) : b.i.At w := h _ (by simp [Bx.lists])
theorem Bx.At.e {b : Bx} {w : World} (h : b.At w) : b.e.At w := h _ (by simp [Bx.lists])

def kdM (s : Int) : Int := if 1 ≤ s ∧ s ≤ 4 then s - 1 else -1
theorem kd_any (s : Int) (w : World) : Calls Tryd.prog 58 #[.int .i64 s] w fun e w' => e = .returned (.int .i64 (kdM s)) ∧ w' = w := by
  by_cases h1 : s < 1
  · go_enter Tryd.func58, Tryd.ntmps58
    go_wp2_with (fail)
    go_ret
    exact ⟨by simp only [kdM]; rw [if_neg (by omega)]; rfl, rfl⟩
  · by_cases h2 : s > 4
    · go_enter Tryd.func58, Tryd.ntmps58
      go_wp2_with (fail)
      go_ret
      exact ⟨by simp only [kdM]; rw [if_neg (by omega)]; rfl, rfl⟩
    · go_enter Tryd.func58, Tryd.ntmps58
      go_wp2_with (fail)
      go_ret
      exact ⟨by simp only [kdM]; rw [if_pos (by omega)]; rfl, rfl⟩

/- How often a number stands in a list. -/
def cnt (f : Nat → Int) (at_ : Int) : Nat → Nat
  | 0 => 0
  | n + 1 => cnt f at_ n + (if f n = at_ then 1 else 0)
theorem cnt_le (f : Nat → Int) (at_ : Int) : ∀ n, cnt f at_ n ≤ n
  | 0 => Nat.le_refl _
  | n + 1 => by have := cnt_le f at_ n; simp only [cnt]; split <;> omega

set_option maxHeartbeats 1000000 in
theorem in_any (x : Sx) (at_ : Int) (w : World) (h : x.At w) (hn : x.n ≤ 1000000000) :
    Calls Tryd.prog 84 #[.slice x.a x.n x.c, .int .i64 at_] w fun e w' => e = .returned (.int .i64 (cnt x.f at_ x.n)) ∧ w' = w := by
  obtain ⟨xa, n, xc, f⟩ := x
  simp only [Sx.At] at h hn ⊢
  go_enter Tryd.func84, Tryd.ntmps84
  go_wp2_with (fail)
  go_loop [5, 6] (fun kk i => ∃ k : Nat, k ≤ n ∧ i = .int .i64 k ∧ kk = .int .i64 (cnt f at_ k)) (fun _ i => n - (intOf i).toNat)
  case atStart => exact ⟨0, by omega, rfl, rfl⟩
  case round =>
    obtain ⟨k, hk, rfl, rfl⟩ := hrel
    have hc := cnt_le f at_ k
    by_cases hlt : (k : Int) < n
    · rcases h with h | ⟨b1, o1, rfl, h⟩
      · omega
      have c1 := h k (by omega)
      clear h
      by_cases e : f k = at_
      · go_wp2_with (fail)
        go_round
        case rel => exact ⟨k + 1, by omega, by go_num, by simp only [cnt, if_pos e]; go_num⟩
        case measure => simp [intOf]; omega
      · go_wp2_with (fail)
        go_round
        case rel => exact ⟨k + 1, by omega, by go_num, by simp only [cnt, if_neg e]; go_num⟩
        case measure => simp [intOf]; omega
    · have e : k = n := by omega
      subst e
      go_wp2_with (fail)
      go_ret
      exact ⟨rfl, rfl⟩

end Go.Proofs.YtbipolfbkemmpaaDoor.Book

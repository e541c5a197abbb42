import Derived.Test.YtbipolfbkemmpaaDoorM20
import Derived.Test.YtbipolfbkemmpaaDoorM32
import Derived.Test.YtbipolfbkemmpaaDoorM34

/- A book in new memory is one's own, room included: over no program. -/
namespace Go.Proofs.YtbipolfbkemmpaaDoor.Book
open Go.ChangeShapes Go.WideShapes Go.ChangeAt Go.RowKit
open Aid Lst
set_option maxRecDepth 100000
set_option linter.unusedVariables false

theorem Bx.Own.hl {b : Bx} {B C : Nat} {w : World} (h : b.Own B C w) (hc : b.Cap w) (hC : C ≤ w.heap.size) : b.Hl B w := by
  refine ⟨fun x hx => ?_, ?_⟩
  · refine ⟨h.caps x hx, ?_⟩
    by_cases h0 : x.n = 0
    · exact .inl ((hc x hx).1 h0)
    · obtain ⟨g, e, hf⟩ := (hc x hx).2 (by omega)
      rcases h.each x hx with q | ⟨k, e', h1, h2, h3⟩
      · exact absurd q h0
      · rw [e] at e'
        cases e'
        exact .inr ⟨g, 0, e, h1, by omega, hf, fun j hj => by rw [Nat.zero_add]; exact (h3 j hj).1⟩
  · have := h.apart
    rw [List.pairwise_iff_getElem] at this ⊢
    intro i j hi hj hlt
    have ci := hc b.lists[i] (List.getElem_mem hi)
    have cj := hc b.lists[j] (List.getElem_mem hj)
    rcases this i j hi hj hlt with q | q | ⟨k, k', e, e', hne⟩
    · exact .inl (ci.1 q)
    · exact .inr (.inl (cj.1 q))
    · refine .inr (.inr fun a o a' o' ea ea' => ?_)
      rw [e] at ea
      rw [e'] at ea'
      cases ea
      cases ea'
      exact hne
theorem Bx.Tight.cap {b : Bx} {B C : Nat} {w : World} (h : b.Tight) (ho : b.Own B C w) : b.Cap w := fun x hx => by
  refine ⟨fun e => by rw [h x hx]; exact e, fun hp => ?_⟩
  rcases ho.each x hx with q | ⟨k, e, _, _, hf⟩
  · omega
  · refine ⟨k, e, fun j hj => ?_⟩
    rw [h x hx] at hj
    have := hf j hj
    rw [Nat.zero_add, this.1]
    exact ⟨rfl, this.2⟩
/- Nothing of it lay there. -/
theorem Bx.Hl.new {b : Bx} {B : Nat} {w : World} (h : b.Hl B w) : ∀ i, b.Lies i → B ≤ i := fun i hi => (h.lies hi).1

/- A book, its lists trimmed: what is behind their ends counts for nothing. -/
def Sx.trim (x : Sx) : Sx := ⟨x.a, x.n, x.c, fun j => if j < x.n then x.f j else 0⟩
def Bx.trim (b : Bx) : Bx := ⟨b.s, b.p.trim, b.h0.trim, b.h1.trim, b.h2.trim, b.h3.trim, b.o.trim, b.i.trim, b.e.trim⟩
theorem trim_cells (b : Bx) : b.trim.cells = b.cells := rfl
theorem trim_lists (b : Bx) : b.trim.lists = b.lists.map Sx.trim := rfl
theorem trim_f (x : Sx) {j : Nat} (h : j < x.n) : x.trim.f j = x.f j := by simp only [Sx.trim]; rw [if_pos h]
theorem trim_hd (b : Bx) (k : Nat) : b.trim.hd k = (b.hd k).trim := by
  unfold Bx.hd
  repeat' split
  all_goals rfl
theorem Sx.Hl.trim {x : Sx} {B : Nat} {w : World} (h : x.Hl B w) : x.trim.Hl B w := by
  obtain ⟨h1, h2 | ⟨k, o, e, g1, g2, g3, g4⟩⟩ := h
  · exact ⟨h1, .inl h2⟩
  · exact ⟨h1, .inr ⟨k, o, e, g1, g2, g3, fun j hj => by rw [trim_f x hj]; exact g4 j hj⟩⟩
theorem Bx.Hl.trim {b : Bx} {B : Nat} {w : World} (h : b.Hl B w) : b.trim.Hl B w := by
  refine ⟨fun x hx => ?_, ?_⟩
  · rw [trim_lists] at hx
    obtain ⟨y, hy, rfl⟩ := List.mem_map.1 hx
    exact (h.each y hy).trim
  · rw [trim_lists, List.pairwise_map]
    exact h.apart
theorem lies_trim {b : Bx} {i : Nat} (h : b.trim.Lies i) : b.Lies i := lies_same (b := b) (c := b.trim) rfl h
theorem cnt_congr {f g : Nat → Int} {a : Int} : ∀ {n : Nat}, (∀ j, j < n → f j = g j) → cnt f a n = cnt g a n
  | 0, _ => rfl
  | n + 1, h => by simp only [cnt]; rw [cnt_congr (fun j hj => h j (by omega)), h n (by omega)]
theorem ok_trim {b : Bx} (h : OkP b) : OkP b.trim := by
  have hok := h
  obtain ⟨⟨hl, hs, hw⟩, hd, hg⟩ := h
  obtain ⟨l1, l2, l3, l4, l5, l6, l7⟩ := id hl
  refine ⟨⟨hl, fun j hj => ?_, fun u hu => ?_⟩, fun k hk => ?_, fun q hq => ?_⟩
  · have hj' : j < b.i.n := hj
    have g := hs j hj'
    unfold InU at g ⊢
    rw [show b.trim.i.f j = b.i.f j from trim_f b.i hj', show b.trim.e.f j = b.e.f j from trim_f b.e (by omega)]
    exact g
  · have hu' : u < b.o.n := hu
    have g := hw u hu'
    unfold OwnU at g ⊢
    rw [show b.trim.o.f u = b.o.f u from trim_f b.o hu']
    refine ⟨g.1, g.2.1, fun hp => ?_⟩
    have := g.2.1
    rw [show b.trim.i.f (b.o.f u - 1).toNat = b.i.f (b.o.f u - 1).toNat from trim_f b.i (by omega)]
    exact g.2.2 hp
  · rw [trim_hd]
    refine ⟨(hd k hk).1, fun j hj => ?_⟩
    have hj' : j < (b.hd k).n := hj
    obtain ⟨g1, g2, g3, g4⟩ := (hd k hk).2 j hj'
    rw [trim_hd, trim_f _ hj']
    refine ⟨g1, g2, ?_, g4⟩
    rw [show b.trim.p.f ((b.hd k).f j / 8).toNat = b.p.f ((b.hd k).f j / 8).toNat from trim_f b.p (by omega)]
    exact g3
  · have hq' : q < b.p.n := hq
    have pg := hg q hq'
    refine page_to (b := b) (c := b.trim) q rfl (trim_f b.p hq') (fun _ _ _ j h1 h2 => trim_f b.p (by omega)) (fun j h1 h2 h3 => ?_) (fun m hm _ u hu => ?_) (fun u hu => trim_f b.o (by omega)) pg
    · have : q + j < b.p.n := by
        rcases pg with ⟨e, _⟩ | ⟨m, m4, e, _⟩ | ⟨e, _⟩ | ⟨_, _, g, _⟩
        · omega
        · omega
        · omega
        · omega
      rw [show b.trim.p.f (q + j) = b.p.f (q + j) from trim_f b.p this]
      exact h3
    · rw [trim_hd]
      exact cnt_congr (fun j hj => trim_f _ hj)
theorem ok_total {b : Bx} (h : OkP b) : b.total ≤ 1000 := by
  obtain ⟨l1, l2, l3, l4, l5, l6, l7⟩ := h.1.1
  have h0 := (h.2.1 0 (by omega)).1
  have h1 := (h.2.1 1 (by omega)).1
  have h2 := (h.2.1 2 (by omega)).1
  have h3 := (h.2.1 3 (by omega)).1
  simp only [Bx.hd] at h0 h1 h2 h3
  simp at h0 h1 h2 h3
  unfold Bx.total
  omega
theorem trim_wf {b : Bx} (h : OkP b) : b.trim.Wf := by
  obtain ⟨⟨hl, hs, hw⟩, hd, hg⟩ := h
  obtain ⟨l1, l2, l3, l4, l5, l6, l7⟩ := id hl
  have tr : ∀ (x : Sx), (∀ j, j < x.n → 0 ≤ x.f j ∧ x.f j ≤ 5000) → ∀ j, -9223372036854775808 ≤ x.trim.f j ∧ x.trim.f j ≤ 9223372036854775807 := fun x hx j => by
    simp only [Sx.trim]
    split
    · rename_i hj; have := hx j hj; omega
    · omega
  have hh : ∀ k, k < 4 → ∀ j, j < (b.hd k).n → 0 ≤ (b.hd k).f j ∧ (b.hd k).f j ≤ 5000 := fun k hk j hj => by
    have g := (hd k hk).2 j hj
    exact ⟨g.1, by have := g.2.1; omega⟩
  unfold Bx.Wf
  rw [trim_lists]
  simp only [Bx.lists, List.map_cons, List.map_nil, List.forall_mem_cons, List.not_mem_nil, false_implies, implies_true, and_true]
  refine ⟨tr _ (fun j hj => ?_), tr _ (hh 0 (by omega)), tr _ (hh 1 (by omega)), tr _ (hh 2 (by omega)), tr _ (hh 3 (by omega)), tr _ (fun j hj => ?_), tr _ (fun j hj => ?_), tr _ (fun j hj => ?_)⟩
  · have pg := hg j hj
    have le := pg.le
    refine ⟨?_, by omega⟩
    rcases pg with ⟨e, _⟩ | ⟨m, m4, e, _⟩ | ⟨e, _⟩ | ⟨e, _⟩ <;> omega
  · have g := hw j hj
    exact ⟨g.1, by have := g.2.1; omega⟩
  · have g := hs j hj
    exact ⟨g.1, by have := g.2.1; omega⟩
  · have g := hs j (by omega)
    exact ⟨g.2.2.1, by have := g.2.2.2.1; omega⟩

end Go.Proofs.YtbipolfbkemmpaaDoor.Book
/- A draft while its rings are made: over no program. -/
namespace Go.Proofs.YtbipolfbkemmpaaDoor.Dra
open Go.ChangeShapes Go.WideShapes Go.ChangeAt Go.RowKit
open Aid Lst Book Rin
set_option maxRecDepth 100000
set_option linter.unusedVariables false

def rpm (s : Nat → Nat) (m : Nat) : List Value := [if 0 < m then .pointer (some ⟨s 0, 0, none⟩) else .pointer none, if 1 < m then .pointer (some ⟨s 1, 0, none⟩) else .pointer none, if 2 < m then .pointer (some ⟨s 2, 0, none⟩) else .pointer none, if 3 < m then .pointer (some ⟨s 3, 0, none⟩) else .pointer none]
structure Dp (w0 : World) (D : Nat) (s t : Nat → Nat) (m : Nat) (c : Bx) (U : Nat → List Int) (w : World) : Prop where
  ck : Ck w D (c.cells ++ rpm s m)
  h : c.Hl w0.heap.size w
  tD : t D = 1
  tL : ∀ i, c.Lies i → t i = 2
  r : ∀ k, k < m → ∃ un nx pv l, Rg w w0.heap.size (s k) (U k) un nx pv l ∧ ∀ x ∈ s k :: l, t x = 3 + k
  z : ∀ i, t i ≠ 0 → w0.heap.size ≤ i ∧ i < w.heap.size
  b : Below w0.heap.size w0 w
theorem Dp.start {w0 w : World} {c : Bx} {U : Nat → List Int} {C : Nat} (h : c.Own w0.heap.size C w) (hc : c.Cap w) (hC : C ≤ w.heap.size) (hb : Below w0.heap.size w0 w) (ty : TypeId) :
    ∃ t, Dp w0 w.heap.size (fun _ => 0) t 0 c U (w.alloc (.cells (c.cells ++ rpm (fun _ => 0) 0).toArray ty)) := by
  have hl := h.hl hc hC
  have b1 := below1 w (.cells (c.cells ++ rpm (fun _ => 0) 0).toArray ty)
  classical
  refine ⟨fun i => if i = w.heap.size then 1 else if c.Lies i then 2 else 0, ⟨by have := ck_lit (c.cells ++ rpm (fun _ => 0) 0).toArray (heap1_0 w (.cells (c.cells ++ rpm (fun _ => 0) 0).toArray ty)); simpa using this, hl.later b1, by simp, fun i hi => ?_, fun k hk => by omega, fun i hi => ?_, hb.trans (b1.mono hb.size)⟩⟩
  · have := (hl.lies hi).2
    show (if _ then _ else _) = _
    rw [if_neg (by omega), if_pos hi]
  · have hi' : (if i = w.heap.size then 1 else if c.Lies i then 2 else 0) ≠ 0 := hi
    by_cases e : i = w.heap.size
    · have := hb.size; exact ⟨by omega, by simp; omega⟩
    · rw [if_neg e] at hi'
      by_cases q : c.Lies i
      · have := hl.lies q; exact ⟨this.1, by simp; omega⟩
      · rw [if_neg q] at hi'; exact absurd rfl hi'
theorem Dp.later {w0 w w1 : World} {D : Nat} {s t : Nat → Nat} {m : Nat} {c : Bx} {U : Nat → List Int} (h : Dp w0 D s t m c U w) (hb : Below w.heap.size w w1) : Dp w0 D s t m c U w1 := by
  have off : ∀ i, t i ≠ 0 → w1.heap[i]? = w.heap[i]? := fun i hi => hb.block i (h.z i hi).2
  refine ⟨Ck.same h.ck (off D (by rw [h.tD]; omega)), h.h.later hb, h.tD, h.tL, fun k hk => ?_, fun i hi => ⟨(h.z i hi).1, Nat.lt_of_lt_of_le (h.z i hi).2 hb.size⟩, h.b.trans (hb.mono h.b.size)⟩
  obtain ⟨un, nx, pv, l, g, ht⟩ := h.r k hk
  exact ⟨un, nx, pv, l, Rg.same g (fun x hx => off x (by rw [ht x hx]; omega)), ht⟩
theorem rpm_set (s : Nat → Nat) (k r : Nat) (hk : k < 4) : (rpm s k).set k (.pointer (some ⟨r, 0, none⟩)) = rpm (fun i => if i = k then r else s i) (k + 1) := by
  obtain rfl | rfl | rfl | rfl : k = 0 ∨ k = 1 ∨ k = 2 ∨ k = 3 := by omega
  all_goals simp [rpm]
theorem rpm_get (s : Nat → Nat) (k : Nat) (hk : k < 4) : (rpm s k)[k]? = some (.pointer none) := by
  obtain rfl | rfl | rfl | rfl : k = 0 ∨ k = 1 ∨ k = 2 ∨ k = 3 := by omega
  all_goals simp [rpm]
theorem Dp.at {w0 w : World} {D : Nat} {s t : Nat → Nat} {k : Nat} {c : Bx} {U : Nat → List Int} (h : Dp w0 D s t k c U w) (hk : k < 4) : w.cell? ⟨D, 9 + k, none⟩ = some (.pointer none) ∧ w.frozen? ⟨D, 9 + k, none⟩ = false :=
  h.ck (9 + k) _ (by rw [List.getElem?_append_right (by simp [Bx.cells])]; simp only [Bx.cells, List.length_cons, List.length_nil]; rw [show 9 + k - 9 = k by omega]; exact rpm_get s k hk)
/- One ring more. -/
theorem Dp.step {w0 w w1 : World} {D : Nat} {s t : Nat → Nat} {k : Nat} {c : Bx} {U : Nat → List Int} {un : Nat → Int} {nx pv : Nat → Nat} {l : List Nat} (h : Dp w0 D s t k c U w) (hk : k < 4) (hb : Below w.heap.size w w1) (g : Rg w1 w.heap.size w.heap.size (U k) un nx pv l) :
    ∃ s' t', Dp w0 D s' t' (k + 1) c U (w1.setCell ⟨D, 9 + k, none⟩ (.pointer (some ⟨w.heap.size, 0, none⟩))) := by
  have h1 := h.later hb
  have DL : D < w.heap.size := (h.z D (by rw [h.tD]; omega)).2
  have old : ∀ i, t i ≠ 0 → (if w.heap.size ≤ i ∧ i < w1.heap.size then 3 + k else t i) = t i := fun i hi => by rw [if_neg (by have := (h.z i hi).2; omega)]
  have off : ∀ i, i ≠ D → (w1.setCell ⟨D, 9 + k, none⟩ (.pointer (some ⟨w.heap.size, 0, none⟩))).heap[i]? = w1.heap[i]? := fun i hi => Below.heap_setCell w1 ⟨D, 9 + k, none⟩ _ i hi
  refine ⟨fun i => if i = k then w.heap.size else s i, fun i => if w.heap.size ≤ i ∧ i < w1.heap.size then 3 + k else t i, ⟨?_, ⟨fun x hx => (h1.h.each x hx).same (by simp) (fun m o hc e => off m (fun q => ?_)), h1.h.apart⟩, by show (if _ then _ else _) = 1; rw [old D (by rw [h.tD]; omega)]; exact h.tD, fun i hi => by show (if _ then _ else _) = 2; rw [old i (by rw [h.tL i hi]; omega)]; exact h.tL i hi, fun m hm => ?_, fun i hi => ?_, ?_⟩⟩
  · have := h1.ck.set (9 + k) (.pointer (some ⟨w.heap.size, 0, none⟩))
    rw [List.set_append_right _ _ (by simp [Bx.cells])] at this
    simp only [Bx.cells, List.length_cons, List.length_nil] at this ⊢
    rw [show 9 + k - (0 + 1 + 1 + 1 + 1 + 1 + 1 + 1 + 1 + 1) = k by omega, rpm_set s k _ hk] at this
    exact this
  · have := h.tL m ⟨x, hx, hc, o, e⟩
    rw [q, h.tD] at this
    omega
  · by_cases e : m = k
    · subst e
      simp only [if_true]
      refine ⟨un, nx, pv, l, ⟨g.r, fun x hx => (g.m x hx).of_block (off x (by have := g.b x hx; omega)), g.u, fun x hx => Nat.le_trans h.b.size (g.b x hx)⟩, fun x hx => ?_⟩
      show (if _ then _ else _) = _
      rw [if_pos ⟨g.b x hx, (g.m x hx).lt⟩]
    · obtain ⟨un, nx, pv, l, g', ht⟩ := h1.r m (by omega)
      simp only [if_neg e]
      refine ⟨un, nx, pv, l, Rg.same g' (fun x hx => off x (fun q => by have := ht x hx; rw [q, h.tD] at this; omega)), fun x hx => ?_⟩
      show (if _ then _ else _) = _
      rw [old x (by rw [ht x hx]; omega)]
      exact ht x hx
  · have q : (if w.heap.size ≤ i ∧ i < w1.heap.size then 3 + k else t i) ≠ 0 := hi
    by_cases e : w.heap.size ≤ i ∧ i < w1.heap.size
    · have := h.b.size; exact ⟨by omega, by simp; omega⟩
    · rw [if_neg e] at q
      have := h1.z i q
      exact ⟨this.1, by simpa using this.2⟩
  · exact h1.b.setCell (p := ⟨D, 9 + k, none⟩) (h.z D (by rw [h.tD]; omega)).1 _
theorem Dp.dr {w0 w : World} {D : Nat} {s t : Nat → Nat} {c : Bx} {U : Nat → List Int} (h : Dp w0 D s t 4 c U w) : Dr w0.heap.size D s t c U w :=
  ⟨h.ck, h.h, h.tD, h.tL, h.r, h.z⟩

end Go.Proofs.YtbipolfbkemmpaaDoor.Dra

import Derived.Test.YtlhfkackchcncaaM2
import Derived.Test.YtlhfkackchcncaaM21
import Derived.Test.YtlhfkackchcncaaM11
import Derived.Test.YtlhfkackchcncaaM1

/- Of every book and slot, its rooms, held against the specification; in new memory of their own. Conditions: none. -/
namespace Go.Proofs.Ytlhfkackchcncaa.Book
open Go.ChangeShapes Go.WideShapes Go.ChangeAt Go.RowKit
open Go.Proofs.Ytlhfkackchcncaa.Aid Go.Proofs.Ytlhfkackchcncaa.Lst
set_option maxRecDepth 100000

theorem own_sx {w : World} {base : Nat} {v : Value} {L : List Int} (h : w.ownsRow base 3 1 v L.length (vals L)) : ∃ x : Sx, v = .slice x.a x.n x.c ∧ x.m = (L.length, fun j => L.getD j 0) ∧ x.Own base w.heap.size w := by
  obtain ⟨q, ⟨rfl, h0⟩ | ⟨g, cap, cur, rfl, hb, hg, h1, h2, h3, h4⟩⟩ := h
  · refine ⟨⟨none, 0, 0, fun j => L.getD j 0⟩, rfl, ?_, .inl rfl⟩
    show (0, fun j => L.getD j 0) = _
    rw [h0]
  · refine ⟨⟨some ⟨g, 0, none⟩, L.length, cap, fun j => L.getD j 0⟩, rfl, rfl, .inr ⟨g, rfl, hb, Nat.lt_of_not_le fun hle => (by rw [Array.getElem?_eq_none hle] at hg; cases hg), fun j hj => ?_⟩⟩
    rw [cell_of_row _ _ j _ _ _ hg, frozen_of_row _ _ j _ _ hg]
    refine ⟨?_, rfl⟩
    have hj : j < L.length := hj
    have e : (cur.toList.take (L.length * 1))[j]? = (vals L)[j]? := by rw [h4]
    rw [List.getElem?_take_of_lt (by omega)] at e
    rw [← Array.getElem?_toList, e]
    simp [vals, hj]
theorem ofl_len {b : Bx} {t : Int} {L : List Int} (h : OfL b t L) : L.length ≤ 48 := by
  rcases h with ⟨h, ⟨h1, rfl⟩ | ⟨h1, rfl⟩⟩ | ⟨h, rfl⟩
  · have := selL_len b.o.f (t + 1) b.o.n
    have := h.nums.2.2.2.2
    omega
  · simp
  · simp
structure StB (w0 : World) (rs : List (Nat × List Value)) (bs : List Bx) (v w : World) : Prop where
  st : St w0 rs bs w
  be : Below v.heap.size v w
theorem StB.later {w0 v w w1 : World} {rs : List (Nat × List Value)} {bs : List Bx} (h : StB w0 rs bs v w) (hb : Below w.heap.size w w1) : StB w0 rs bs v w1 := ⟨h.st.later hb, h.be.trans (hb.mono h.be.size)⟩
theorem StB.drew {w0 v w : World} {rs : List (Nat × List Value)} {bs : List Bx} (h : StB w0 rs bs v w) : StB w0 rs bs v w.drew := ⟨h.st.drew, ⟨h.be.os, h.be.tape, h.be.output, h.be.size, h.be.block⟩⟩
theorem StB.r {w0 v w : World} {rs : List (Nat × List Value)} {bs : List Bx} (h : StB w0 rs bs v w) : ∀ p ∈ rs, w.rangeAt p.1 0 p.2 ∧ p.1 < w.heap.size := h.st.r
theorem StB.a {w0 v w : World} {rs : List (Nat × List Value)} {bs : List Bx} (h : StB w0 rs bs v w) : ∀ b ∈ bs, b.At w := h.st.a
theorem Sx.Own.later {x : Sx} {B C : Nat} {w w' : World} (hx : x.Own B C w) (h : Below w.heap.size w w') : x.Own B C w' := hx.only (Only.of (B := C) (C := C) h) (.inl (Nat.le_refl _))
theorem St.only {w0 w w1 : World} {rs : List (Nat × List Value)} {bs : List Bx} {B C : Nat} (h : St w0 rs bs w) (ho : Only B C w w1) (hr : ∀ p ∈ rs, p.1 < B ∨ C ≤ p.1) (hB : w0.heap.size ≤ B) (hbs : ∀ b ∈ bs, b.At w1) : St w0 rs bs w1 :=
  ⟨fun p hp => ⟨fun j x hx => by rw [ho.cell (h.r p hp).2 (hr p hp)]; exact (h.r p hp).1 j x hx, Nat.lt_of_lt_of_le (h.r p hp).2 ho.size⟩, hbs, h.b.trans ⟨ho.os, ho.tape, ho.output, ho.size, fun k hk => ho.block k (Nat.lt_of_lt_of_le hk h.b.size) (.inl (by omega))⟩⟩

end Go.Proofs.Ytlhfkackchcncaa.Book

/- What is known of the rooms of a book that is ok: each room fits between those of its owner; all are counted. Over no program. -/
namespace Go.Proofs.Ytlhfkackchcncaa.Book
open Go.Proofs.Ytlhfkackchcncaa.Aid Go.Proofs.Ytlhfkackchcncaa.Lst
set_option maxRecDepth 100000
set_option linter.unusedVariables false

/- The rooms of one owner ascend. -/
theorem selL_mem {o : Nat → Int} {t : Int} : ∀ {n : Nat} {x : Int}, x ∈ selL o t n → 0 ≤ x ∧ x < n ∧ o x.toNat = t
  | 0, x, h => by simp [selL] at h
  | n + 1, x, h => by
    simp only [selL] at h
    split at h
    · rename_i e
      rcases List.mem_append.1 h with h | h
      · have := selL_mem h; exact ⟨this.1, by omega, this.2.2⟩
      · simp at h; subst h; exact ⟨by omega, by omega, by simpa using e⟩
    · have := selL_mem h; exact ⟨this.1, by omega, this.2.2⟩
theorem selL_asc {o : Nat → Int} {t : Int} : ∀ {n : Nat}, (selL o t n).Pairwise (· < ·)
  | 0 => List.Pairwise.nil
  | n + 1 => by
    simp only [selL]
    split
    · refine List.pairwise_append.2 ⟨selL_asc, List.pairwise_singleton _ _, fun a ha b hb => ?_⟩
      have := selL_mem ha
      simp at hb
      omega
    · exact selL_asc
theorem selL_at {o : Nat → Int} {t : Int} {n i : Nat} (h : i < (selL o t n).length) : 0 ≤ (selL o t n).getD i 0 ∧ (selL o t n).getD i 0 < n ∧ o ((selL o t n).getD i 0).toNat = t := by
  rw [List.getD_eq_getElem?_getD, List.getElem?_eq_getElem h]
  exact selL_mem (List.getElem_mem h)
theorem selL_next {o : Nat → Int} {t : Int} {n i : Nat} (h : i + 1 < (selL o t n).length) : (selL o t n).getD i 0 < (selL o t n).getD (i + 1) 0 := by
  rw [List.getD_eq_getElem?_getD, List.getD_eq_getElem?_getD, List.getElem?_eq_getElem h, List.getElem?_eq_getElem (show i < _ by omega)]
  exact List.pairwise_iff_getElem.1 selL_asc i (i + 1) (by omega) h (by omega)

/- How many of the first n numbers are above 0. -/
def posN (o : Nat → Int) : Nat → Nat
  | 0 => 0
  | n + 1 => posN o n + if 0 < o n then 1 else 0
theorem posN_sel (o : Nat → Int) : ∀ (n : Nat), (∀ u, u < n → 0 ≤ o u ∧ o u ≤ 4) → (selL o 1 n).length + (selL o 2 n).length + (selL o 3 n).length + (selL o 4 n).length = posN o n
  | 0, _ => rfl
  | n + 1, h => by
    have ih := posN_sel o n (fun u hu => h u (by omega))
    have g := h n (by omega)
    simp only [selL, posN]
    obtain e | e | e | e | e : o n = 0 ∨ o n = 1 ∨ o n = 2 ∨ o n = 3 ∨ o n = 4 := by omega
    all_goals
      rw [e]
      simp
      omega
theorem selL_none (o : Nat → Int) (t : Int) : ∀ (n : Nat), (∀ u, u < n → o u ≠ t) → selL o t n = []
  | 0, _ => rfl
  | n + 1, h => by
    simp only [selL]
    rw [if_neg (h n (by omega)), selL_none o t n (fun u hu => h u (by omega))]

theorem sz_four {m : Nat} (h : m < 4) : sz m = 1 ∨ sz m = 2 ∨ sz m = 4 ∨ sz m = 8 := by
  obtain rfl | rfl | rfl | rfl : m = 0 ∨ m = 1 ∨ m = 2 ∨ m = 3 := by omega
  all_goals simp [sz]

/- The room of an owner's: how large it is, how it lies, and who comes next. -/
theorem room_lies {b : Bx} (h : OkP b) {u r : Int} (h0 : 0 ≤ u) (h1 : u < b.o.n) (ho : 0 < b.o.f u.toNat) (hr : RoomR b u r) :
    1 ≤ r ∧ (r < 8 → u % r = 0) ∧ (8 ≤ r → u % 8 = 0) ∧ ∀ v : Int, u < v → v < b.o.n → 0 < b.o.f v.toNat → u + r ≤ v := by
  obtain ⟨n1, n2, n3, n4, n5⟩ := h.nums
  have eu : (u / 8).toNat * 8 + (u % 8).toNat = u.toNat := by omega
  have hq : (u / 8).toNat < b.p.n := by omega
  rcases hr with ⟨g, -⟩ | ⟨-, hr⟩
  · omega
  have pg := h.2.2 _ hq
  rcases hr with ⟨m, m4, em, rfl⟩ | ⟨ew, rfl⟩
  · have s4 := sz_four m4
    have rm : (∀ x, x < 8 → RoomU b.o.f (b.hd m) m (u / 8).toNat x) := by
      rcases pg with g | ⟨m', m4', e', g⟩ | g | g
      · omega
      · obtain rfl : m = m' := by omega
        exact g.1
      · omega
      · have := g.1; omega
    have hm : (u % 8) % sz m = 0 := by
      have g := rm (u % 8).toNat (by omega)
      have e8 : (((u % 8).toNat : Nat) : Int) = u % 8 := by omega
      rcases g with ⟨-, g, -⟩ | ⟨g, -⟩
      · rw [eu] at g; omega
      · rw [e8] at g
        rcases s4 with s4 | s4 | s4 | s4 <;> rw [s4] at g ⊢ <;> omega
    have um : u % sz m = 0 := by rcases s4 with s4 | s4 | s4 | s4 <;> rw [s4] at hm ⊢ <;> omega
    refine ⟨by omega, fun _ => um, fun g8 => by rcases s4 with s4 | s4 | s4 | s4 <;> rw [s4] at g8 um <;> omega, fun v hv hv1 hov => ?_⟩
    by_cases same : v / 8 = u / 8
    · have ev : (u / 8).toNat * 8 + (v % 8).toNat = v.toNat := by omega
      have g := rm (v % 8).toNat (by omega)
      have e8 : (((v % 8).toNat : Nat) : Int) = v % 8 := by omega
      have vm : (v % 8) % sz m = 0 := by
        rcases g with ⟨-, g, -⟩ | ⟨g, -⟩
        · rw [ev] at g; omega
        · rw [e8] at g
          rcases s4 with s4 | s4 | s4 | s4 <;> rw [s4] at g ⊢ <;> omega
      rcases s4 with s4 | s4 | s4 | s4 <;> rw [s4] at hm vm ⊢ <;> omega
    · rcases s4 with s4 | s4 | s4 | s4 <;> rw [s4] at hm ⊢ <;> omega
  · have wd : WideP b.p.f b.o.f b.p.n (u / 8).toNat := by
      rcases pg with g | ⟨m', m4', e', g⟩ | g | g
      · omega
      · omega
      · omega
      · exact g
    obtain ⟨w1, w2, w3, w4, w5, w6⟩ := wd
    have u8 : u % 8 = 0 := by
      by_cases e : u % 8 = 0
      · exact e
      · have := w5 (u % 8).toNat (by omega) (by omega)
        rw [eu] at this
        omega
    refine ⟨by omega, fun g => by omega, fun _ => u8, fun v hv hv1 hov => ?_⟩
    by_cases far : u + (b.p.f (u / 8).toNat - 8) * 8 ≤ v
    · exact far
    exfalso
    by_cases same : v / 8 = u / 8
    · have ev : (u / 8).toNat * 8 + (v % 8).toNat = v.toNat := by omega
      have := w5 (v % 8).toNat (by omega) (by omega)
      rw [ev] at this
      omega
    · have ej : (u / 8).toNat + (v / 8 - u / 8).toNat = (v / 8).toNat := by omega
      have g7 := w6 (v / 8 - u / 8).toNat (by omega) (by omega)
      rw [ej] at g7
      have ev : (v / 8).toNat * 8 + (v % 8).toNat = v.toNat := by omega
      rcases h.2.2 (v / 8).toNat (by omega) with g | ⟨m', m4', e', g⟩ | g | g
      · omega
      · omega
      · have := g.2.2.2 (v % 8).toNat (Nat.zero_le _) (by omega)
        rw [ev] at this
        omega
      · have := g.1; omega

/- The lists of all owners together. -/
theorem all_owned {b : Bx} (h : OkP b) : (selL b.o.f 1 b.o.n).length + (selL b.o.f 2 b.o.n).length + (selL b.o.f 3 b.o.n).length + (selL b.o.f 4 b.o.n).length = posN b.o.f b.o.n :=
  posN_sel _ _ fun u hu => by
    have g := h.1.2.2 u hu
    have l := h.1.1
    unfold LensP at l
    exact ⟨g.1, by have := g.2.1; omega⟩
/- What the list of an owner is. -/
theorem ofl_sel {b : Bx} (h : OkP b) {t : Int} (h0 : 0 ≤ t) {L : List Int} (hL : OfL b t L) : L = selL b.o.f (t + 1) b.o.n := by
  rcases hL with ⟨-, ⟨-, g⟩ | ⟨g, e⟩⟩ | ⟨g, -⟩
  · exact g
  · rw [e, selL_none]
    intro u hu
    have := (h.1.2.2 u hu).2.1
    omega
  · exact absurd h g

end Go.Proofs.Ytlhfkackchcncaa.Book

/- A struct of many cells is loaded behind a test that is so: over no program. -/
namespace Go.Proofs.Ytlhfkackchcncaa.Book
open Go.ChangeShapes Go.WideShapes Go.ChangeAt Go.RowKit
open Go.Proofs.Ytlhfkackchcncaa.Aid

theorem wpList_load_wanted {Pr : Program} {ops : Array Oper} {rest : List Oper} {op : Oper} {a : Act} {w : World} {Q : Exit → Act → World → Prop} (hw : Region.wanted op (yielded ops a.tmps) = true) (ty : TypeId) (x : Operand) (ho : op.op = .load ty x)
    (b o : Nat) (hx : a.eval x = .pointer (some ⟨b, o, none⟩)) (cs : List Value) (d : TypeDesc) (hc : w.rangeAt b o cs)
    (hu : Pr.underlying ty = some d) (hd : d.isRow = true) (hi : (Pr.info? ty).map (·.size) = some cs.length)
    (h : wpList Pr ops Q rest (a.put op.dst (.agg cs.toArray)) w) : wpList Pr ops Q (op :: rest) a w :=
  BigFrame.wpList_want hw fun _ hK => wp_load_mid ty x ho b o hx cs d hc hu hd hi (hK _ _ h)

end Go.Proofs.Ytlhfkackchcncaa.Book

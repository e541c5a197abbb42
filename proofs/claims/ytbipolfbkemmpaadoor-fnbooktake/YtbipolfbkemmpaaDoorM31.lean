import Derived.Test.YtbipolfbkemmpaaDoorM28
import Derived.Test.YtbipolfbkemmpaaDoorM29
import Derived.Test.YtbipolfbkemmpaaDoorM30
import Derived.Test.YtbipolfbkemmpaaDoorM20
import Derived.Test.YtbipolfbkemmpaaDoorM18
import Derived.Test.YtbipolfbkemmpaaDoorM23
import Derived.Test.YtbipolfbkemmpaaDoorM17

/- The program's do. -/
namespace Go.Proofs.YtbipolfbkemmpaaDoor.Dra
open Go.ChangeShapes Go.WideShapes Go.ChangeAt Go.RowKit
open Aid Lst Book Rin
set_option maxRecDepth 100000
set_option linter.unusedVariables false

theorem do_any {a : Nat → Addr} {B D : Nat} {s t : Nat → Nat} {b : Bx} {U : Nat → List Int} {w : World} (h : Dr B D s t b U w) (he : Er a w) (hB : 12 ≤ B) (hok : OkP b) (o : Ox) (hU : ∀ k, k < 4 → ∀ u ∈ U k, 0 ≤ u ∧ u < b.o.n) :
    Calls Tryd.prog 28 #[.pointer (some ⟨D, 0, none⟩), .agg o.cells.toArray] w fun e w' => OpA a B D s t w (DdQ b U o) e w' := by
  by_cases hs : 0 ≤ o.s ∧ o.s < b.s
  case neg => exact do_out h he hB hok o hs
  obtain ⟨q, hq⟩ : ∃ q : Nat, o.s = q := ⟨o.s.toNat, by omega⟩
  have hqs : (q : Int) < b.s := by omega
  by_cases k1 : o.k = 1
  · exact do_enter h he hB hok o q hq hqs k1
  by_cases hi : b.i.f q = 0
  · exact do_nobody h he hB hok o q hq hqs k1 hi
  by_cases k2 : o.k = 2
  · exact do_take h he hB hok o q hq hqs k2 hi hU
  by_cases k3 : o.k = 3
  · exact do_give h he hB hok o q hq hqs k3 hi hU
  by_cases k4 : o.k = 4
  · exact do_hand h he hB hok o q hq hqs k4 hi
  by_cases k5 : o.k = 5
  · exact do_leave h he hB hok o q hq hqs k5 hi
  by_cases k6 : o.k = 6
  · exact do_reap h he hB hok o q hq hqs k6 hi hU
  · exact do_none h he hB hok o q hq hqs (by omega) hi

theorem own_hl {w : World} {base : Nat} {v : Value} {L : List Int} (h : w.ownsRow base 3 1 v L.length (vals L)) : ∃ x : Sx, v = .slice x.a x.n x.c ∧ x.m = (L.length, fun j => L.getD j 0) ∧ x.Hl base w ∧ (x.n = 0 ∨ ∃ k, x.a = some ⟨k, 0, Option.none⟩) := by
  obtain ⟨x, hv, hm, ho⟩ := own_sx h
  refine ⟨x, hv, hm, ?_, ?_⟩
  · obtain ⟨q, ⟨rfl, h0⟩ | ⟨g, cap, cur, rfl, hb, hg, h1, h2, h3, h4⟩⟩ := h
    · injection hv with e1 e2 e3
      exact ⟨by omega, .inl e3.symm⟩
    · injection hv with e1 e2 e3
      have hlt : g < w.heap.size := Nat.lt_of_not_le fun hle => by rw [Array.getElem?_eq_none hle] at hg; cases hg
      refine ⟨by omega, .inr ⟨g, 0, e1.symm, hb, hlt, fun j hj => ?_, fun j hj => ?_⟩⟩
      · rw [cell_of_row _ _ _ _ _ _ hg, frozen_of_row _ _ _ _ _ hg, Nat.zero_add]
        refine ⟨?_, rfl⟩
        rw [Array.getElem?_eq_getElem (by omega)]; rfl
      · rcases ho with q0 | ⟨k, e, _, _, hf⟩
        · omega
        · rw [e] at e1
          cases e1
          have := (hf j hj).1
          rwa [Nat.zero_add]
  · rcases ho with q0 | ⟨k, e, _⟩
    · exact .inl q0
    · exact .inr ⟨k, e⟩
theorem seth_cells (b : Bx) (k : Nat) (hk : k < 4) (x : Sx) (s : Nat → Nat) : (b.cells ++ rp s).set (2 + k) (.slice x.a x.n x.c) = (b.seth k x).cells ++ rp s := by
  obtain rfl | rfl | rfl | rfl : k = 0 ∨ k = 1 ∨ k = 2 ∨ k = 3 := by omega
  all_goals rfl
theorem seth_lists (b : Bx) (k : Nat) (hk : k < 4) (x : Sx) : (b.seth k x).lists = b.lists.set (1 + k) x := by
  obtain rfl | rfl | rfl | rfl : k = 0 ∨ k = 1 ∨ k = 2 ∨ k = 3 := by omega
  all_goals rfl
theorem hd_at (b : Bx) (k : Nat) (hk : k < 4) : b.lists[1 + k]? = some (b.hd k) := by
  obtain rfl | rfl | rfl | rfl : k = 0 ∨ k = 1 ∨ k = 2 ∨ k = 3 := by omega
  all_goals rfl
theorem Dr.seth {B D : Nat} {s t : Nat → Nat} {b : Bx} {U : Nat → List Int} {w w1 : World} (h : Dr B D s t b U w) (k : Nat) (hk : k < 4) (hb : Below w.heap.size w w1) (x : Sx) (hx : x.Hl w.heap.size w1) :
    ∃ t', Dr B D s t' (b.seth k x) U (w1.setCell ⟨D, 2 + k, Option.none⟩ (.slice x.a x.n x.c)) ∧ ∀ i, i < w.heap.size → t' i = t i := by
  have h1 := h.later hb
  have DB := h.z D (by rw [h.tD]; omega)
  have old : ∀ i, t i ≠ 0 → (if w.heap.size ≤ i ∧ i < w1.heap.size then 2 else t i) = t i := fun i hi => by rw [if_neg (by have := (h.z i hi).2; omega)]
  have off : ∀ i, i ≠ D → (w1.setCell ⟨D, 2 + k, Option.none⟩ (.slice x.a x.n x.c)).heap[i]? = w1.heap[i]? := fun i hi => Below.heap_setCell w1 ⟨D, 2 + k, Option.none⟩ _ i hi
  have xa : ∀ m o, 0 < x.c → x.a = some ⟨m, o, Option.none⟩ → w.heap.size ≤ m ∧ m < w1.heap.size := fun m o hc e => by
    obtain ⟨_, q | ⟨k', o', e', g1, g2, _⟩⟩ := hx
    · omega
    · rw [e] at e'; cases e'; exact ⟨g1, g2⟩
  have hB : B ≤ w.heap.size := Nat.le_trans DB.1 (Nat.le_of_lt DB.2)
  refine ⟨fun i => if w.heap.size ≤ i ∧ i < w1.heap.size then 2 else t i, ⟨?_, ?_, by show (if _ then _ else _) = 1; rw [old D (by rw [h.tD]; omega)]; exact h.tD, fun i hi => ?_, fun m hm => ?_, fun i hi => ?_⟩, fun i hi => by show (if _ then _ else _) = _; rw [if_neg (by omega)]⟩
  · have := h1.c.set (2 + k) (.slice x.a x.n x.c)
    rwa [seth_cells b k hk x s] at this
  · refine h1.h.turn (1 + k) (b.hd k) x (hd_at b k hk) (seth_lists b k hk x) ?_ (fun z hz hf hzl => ?_)
    · have := hx.same (w' := w1.setCell ⟨D, 2 + k, Option.none⟩ (.slice x.a x.n x.c)) (by simp) (fun m o hc e => off m (fun q => by have := xa m o hc e; omega))
      obtain ⟨g1, g2 | ⟨k', o', e', q1, q2⟩⟩ := this
      · exact ⟨g1, .inl g2⟩
      · exact ⟨g1, .inr ⟨k', o', e', by omega, q2⟩⟩
    · refine ⟨hzl.same (by simp) (fun m o hc e => off m (fun q => ?_)), ?_⟩
      · have := h.tL m ⟨z, hz, hc, o, e⟩
        rw [q, h.tD] at this
        omega
      · by_cases z0 : z.c = 0
        · exact .inl z0
        · by_cases x0 : x.c = 0
          · exact .inr (.inl x0)
          · refine .inr (.inr fun m o m' o' e e' q => ?_)
            have a1 := xa m' o' (by omega) e'
            have a2 := (h.z m (by rw [h.tL m ⟨z, hz, by omega, o, e⟩]; omega)).2
            omega
  · show (if _ then _ else _) = 2
    by_cases q : w.heap.size ≤ i ∧ i < w1.heap.size
    · rw [if_pos q]
    · rw [if_neg q]
      obtain ⟨z, hz, hc, o, e⟩ := hi
      rw [seth_lists b k hk x] at hz
      rcases List.mem_or_eq_of_mem_set hz with hz | rfl
      · exact h.tL i ⟨z, hz, hc, o, e⟩
      · exact absurd (xa i o hc e) q
  · obtain ⟨un, nx, pv, l, g, ht⟩ := h1.r m hm
    refine ⟨un, nx, pv, l, Rg.same g (fun y hy => off y (fun q => by have := ht y hy; rw [q, h.tD] at this; omega)), fun y hy => ?_⟩
    show (if _ then _ else _) = _
    rw [old y (by rw [ht y hy]; omega)]
    exact ht y hy
  · have q : (if w.heap.size ≤ i ∧ i < w1.heap.size then 2 else t i) ≠ 0 := hi
    by_cases e : w.heap.size ≤ i ∧ i < w1.heap.size
    · exact ⟨by omega, by simp; omega⟩
    · rw [if_neg e] at q
      have := h1.z i q
      exact ⟨this.1, by simpa using this.2⟩
theorem Du.seth {B D : Nat} {s t0 t : Nat → Nat} {b : Bx} {U : Nat → List Int} {w0 w w1 : World} (h : Du B D s t0 w0 t b U w) (k : Nat) (hk : k < 4) (hb : Below w.heap.size w w1) (x : Sx) (hx : x.Hl w.heap.size w1) :
    ∃ t', Du B D s t0 w0 t' (b.seth k x) U (w1.setCell ⟨D, 2 + k, Option.none⟩ (.slice x.a x.n x.c)) := by
  obtain ⟨t', g, ha⟩ := h.d.seth k hk hb x hx
  refine ⟨t', g, ?_, fun i hi => (ha i (Nat.lt_of_lt_of_le hi h.f.size)).trans (h.a i hi)⟩
  refine (h.f.trans (Fq.of (S := fun i => t0 i ≠ 0) hb) (fun _ _ q => q)).trans (Fq.set (fun i => t i ≠ 0) w1 D (2 + k) (by show t D ≠ 0; rw [h.d.tD]; omega) _) (fun i hi q => by rw [← h.a i hi]; exact q)
theorem Dr.len {B D : Nat} {s t : Nat → Nat} {b : Bx} {U : Nat → List Int} {w : World} (h : Dr B D s t b U w) (k : Nat) (hk : k < 4) : ∃ un nx pv l, Rg w B (s k) (U k) un nx pv l ∧ l.length = (U k).length := by
  obtain ⟨un, nx, pv, l, g, _⟩ := h.r k hk
  exact ⟨un, nx, pv, l, g, by rw [← g.u]; simp⟩

end Go.Proofs.YtbipolfbkemmpaaDoor.Dra

import Derived.Test.YtbeamigbcfkjjaaGreatDoorM1

/- Books that are copied. Conditions: at most 1,000,000,000 numbers a list. -/
namespace Go.Proofs.YtbeamigbcfkjjaaGreatDoor.Book
open Go.ChangeShapes Go.WideShapes Go.ChangeAt Go.RowKit
open Go.Proofs.YtbeamigbcfkjjaaGreatDoor.Aid Go.Proofs.YtbeamigbcfkjjaaGreatDoor.Lst

/- A row of cells that may be written. -/
def Ck (w : World) (b : Nat) (cs : List Value) : Prop := ∀ j v, cs[j]? = some v → w.cell? ⟨b, j, none⟩ = some v ∧ w.frozen? ⟨b, j, none⟩ = false

theorem ck_lit {w : World} {b : Nat} (C : Array Value) {t : TypeId} (hb : w.heap[b]? = some (.cells C t (0, 0))) : Ck w b C.toList := fun j v hv => by
  rw [cell_of_row w b j C t (0, 0) hb, frozen_of_row w b j C t hb]; exact ⟨by simpa using hv, rfl⟩

theorem Ck.set {w : World} {b : Nat} {cs : List Value} (h : Ck w b cs) (i : Nat) (x : Value) : Ck (w.setCell ⟨b, i, none⟩ x) b (cs.set i x) := fun j v hv => by
  by_cases e : j = i
  · subst e
    have hl : j < cs.length := by
      have := (List.getElem?_eq_some_iff.1 hv).1
      simpa using this
    have g := h j cs[j] (List.getElem?_eq_getElem hl)
    rw [World.cell?_setCell_same _ _ _ g.1]
    rw [List.getElem?_set_self hl] at hv
    refine ⟨hv, ?_⟩
    have := g.2
    simp [this]
  · rw [List.getElem?_set_ne (Ne.symm e)] at hv
    have g := h j v hv
    have hne : (⟨b, i, none⟩ : Addr) ≠ ⟨b, j, none⟩ := fun h => e (by injection h with _ h2 _; exact h2.symm)
    rw [World.cell?_setCell_other _ _ _ _ hne]
    have g2 := g.2
    exact ⟨g.1, by simp [g2]⟩

theorem Ck.below {B : Nat} {W w1 : World} (hb : Below B W w1) {b : Nat} {cs : List Value} (h : Ck W b cs) (hB : b < B) : Ck w1 b cs := fun j v hv => by
  rw [hb.cell (p := ⟨b, j, none⟩) hB, hb.frozen (p := ⟨b, j, none⟩) hB]; exact h j v hv
theorem Ck.far {w : World} {b : Nat} {cs : List Value} (h : Ck w b cs) (p : Addr) (hp : p.block ≠ b) (x : Value) : Ck (w.setCell p x) b cs := fun j v hv => by
  have g := h j v hv
  rw [World.cell?_setCell_far _ _ _ _ hp]
  have g2 := g.2
  exact ⟨g.1, by simp [g2]⟩
theorem Only.setCell {B C : Nat} {a w : World} (h : Only B C a w) (b o : Nat) (hB : B ≤ b) (hC : b < C) (x : Value) : Only B C a (w.setCell ⟨b, o, none⟩ x) :=
  ⟨h.os, h.tape, h.output, by simpa [World.setCell] using h.size, fun i hi ho => (Below.heap_setCell w ⟨b, o, none⟩ x i (by show i ≠ b; omega)).trans (h.block i hi ho)⟩
theorem Only.refl (B C : Nat) (w : World) : Only B C w w := ⟨rfl, rfl, rfl, Nat.le_refl _, fun _ _ _ => rfl⟩
theorem apart_of (j k : Nat) (h : j ≠ k) (n n' c c' : Nat) (f f' : Nat → Int) : Apart ⟨some ⟨j, 0, none⟩, n, c, f⟩ ⟨some ⟨k, 0, none⟩, n', c', f'⟩ := .inr (.inr ⟨j, k, rfl, rfl, h⟩)
theorem Ck.lt {w : World} {b : Nat} {v : Value} {cs : List Value} (h : Ck w b (v :: cs)) : b < w.heap.size := World.block_lt_of_cell? w _ (h 0 v rfl).1
theorem Ck.range {w : World} {b : Nat} {cs : List Value} (h : Ck w b cs) : w.rangeAt b 0 cs := fun j v hv => by simpa using (h j v hv).1
theorem Ck.to {w w' : World} {b : Nat} {cs cs' : List Value} (h : Ck w b cs) (hw : w' = w) (e : cs' = cs) : Ck w' b cs' := by subst hw; subst e; exact h

set_option maxHeartbeats 2000000 in
theorem to4_any (x0 x1 x2 x3 : Option Addr) (n0 c0 n1 c1 n2 c2 n3 c3 : Nat) (f0 f1 f2 f3 : Nat → Int) (w : World) (h0 : Sl .i64 w x0 n0 f0) (h1 : Sl .i64 w x1 n1 f1) (h2 : Sl .i64 w x2 n2 f2) (h3 : Sl .i64 w x3 n3 f3) (hn0 : n0 ≤ 1000000000) (hn1 : n1 ≤ 1000000000) (hn2 : n2 ≤ 1000000000) (hn3 : n3 ≤ 1000000000) :
    Calls Tryz.prog 22 #[.agg #[.slice x0 n0 c0, .slice x1 n1 c1, .slice x2 n2 c2, .slice x3 n3 c3]] w fun e w' => ∃ k0 k1 k2 k3, w.heap.size ≤ k0 ∧ k0 < k1 ∧ k1 < k2 ∧ k2 < k3 ∧ k3 < w'.heap.size ∧ e = .returned (.agg #[.slice (some ⟨k0, 0, none⟩) n0 n0, .slice (some ⟨k1, 0, none⟩) n1 n1, .slice (some ⟨k2, 0, none⟩) n2 n2, .slice (some ⟨k3, 0, none⟩) n3 n3]) ∧ Fk .i64 n0 w' k0 f0 ∧ Fk .i64 n1 w' k1 f1 ∧ Fk .i64 n2 w' k2 f2 ∧ Fk .i64 n3 w' k3 f3 ∧ Below w.heap.size w w' := by
  go_enter Tryz.func22, Tryz.ntmps22
  go_wp2_with (fail)
  have R0 : World.rangeAt _ w.heap.size 0 [.slice x0 n0 c0, .slice x1 n1 c1, .slice x2 n2 c2, .slice x3 n3 c3] := range_lit #[.slice x0 n0 c0, .slice x1 n1 c1, .slice x2 n2 c2, .slice x3 n3 c3] (heap3_0 w (.cells #[.slice x0 n0 c0, .slice x1 n1 c1, .slice x2 n2 c2, .slice x3 n3 c3] 23) (.cells #[.slice none 0 0, .slice none 0 0, .slice none 0 0, .slice none 0 0] 23) (.cells #[.slice none 0 0, .slice none 0 0, .slice none 0 0, .slice none 0 0] 23))
  have P0 : Ck _ (w.heap.size + 1) [.slice none 0 0, .slice none 0 0, .slice none 0 0, .slice none 0 0] := ck_lit #[.slice none 0 0, .slice none 0 0, .slice none 0 0, .slice none 0 0] (heap3_1 w (.cells #[.slice x0 n0 c0, .slice x1 n1 c1, .slice x2 n2 c2, .slice x3 n3 c3] 23) (.cells #[.slice none 0 0, .slice none 0 0, .slice none 0 0, .slice none 0 0] 23) (.cells #[.slice none 0 0, .slice none 0 0, .slice none 0 0, .slice none 0 0] 23))
  have O0 : Ck _ (w.heap.size + 1 + 1) [.slice none 0 0, .slice none 0 0, .slice none 0 0, .slice none 0 0] := ck_lit #[.slice none 0 0, .slice none 0 0, .slice none 0 0, .slice none 0 0] (heap3_2 w (.cells #[.slice x0 n0 c0, .slice x1 n1 c1, .slice x2 n2 c2, .slice x3 n3 c3] 23) (.cells #[.slice none 0 0, .slice none 0 0, .slice none 0 0, .slice none 0 0] 23) (.cells #[.slice none 0 0, .slice none 0 0, .slice none 0 0, .slice none 0 0] 23))
  have B0 := below3 w (.cells #[.slice x0 n0 c0, .slice x1 n1 c1, .slice x2 n2 c2, .slice x3 n3 c3] 23) (.cells #[.slice none 0 0, .slice none 0 0, .slice none 0 0, .slice none 0 0] 23) (.cells #[.slice none 0 0, .slice none 0 0, .slice none 0 0, .slice none 0 0] 23)
  have Z0 : w.heap.size + 3 ≤ (((w.alloc (.cells #[.slice x0 n0 c0, .slice x1 n1 c1, .slice x2 n2 c2, .slice x3 n3 c3] 23)).alloc (.cells #[.slice none 0 0, .slice none 0 0, .slice none 0 0, .slice none 0 0] 23)).alloc (.cells #[.slice none 0 0, .slice none 0 0, .slice none 0 0, .slice none 0 0] 23)).heap.size := by simp
  generalize ((w.alloc (.cells #[.slice x0 n0 c0, .slice x1 n1 c1, .slice x2 n2 c2, .slice x3 n3 c3] 23)).alloc (.cells #[.slice none 0 0, .slice none 0 0, .slice none 0 0, .slice none 0 0] 23)).alloc (.cells #[.slice none 0 0, .slice none 0 0, .slice none 0 0, .slice none 0 0] 23) = W0 at R0 P0 O0 B0 Z0 ⊢
  have hb0 : Below (w.heap.size + 2) W0 W0 := Below.refl _ _
  refine wp_loop_rounds 5 ?_
  rw [rounds_succ]
  have q0 : W0.cell? ⟨w.heap.size, 0, none⟩ = some (.slice x0 n0 c0) := range_below hb0 R0 (by omega) 0 _ rfl
  go_wp2_with (fail)
  clear q0
  refine (toInt_any x0 n0 c0 f0 W0 (h0.later (B0.trans (hb0.mono (by omega)))) hn0).mono ?_
  rintro e v0 ⟨rfl, F0, hv0, hs0⟩
  have OO0 := O0.below hv0 (by omega)
  have hc0 := OO0 0 _ rfl
  have hbb0 := hb0.trans (hv0.mono (by omega))
  clear hv0 O0 hb0
  generalize hk0 : W0.heap.size = k0 at F0 hs0 Z0 ⊢
  have HK0 : Hid (W0.heap.size = k0) := hk0
  clear hk0
  go_wp2_with (fail)
  have O1 : Ck (v0.setCell ⟨w.heap.size + 1 + 1, 0, none⟩ (.slice (some ⟨k0, 0, none⟩) n0 n0)) (w.heap.size + 1 + 1) [.slice (some ⟨k0, 0, none⟩) n0 n0, .slice none 0 0, .slice none 0 0, .slice none 0 0] := OO0.set 0 _
  have hb1 : Below (w.heap.size + 2) W0 (v0.setCell ⟨w.heap.size + 1 + 1, 0, none⟩ (.slice (some ⟨k0, 0, none⟩) n0 n0)) := hbb0.setCell (by show w.heap.size + 2 ≤ w.heap.size + 1 + 1; omega) _
  have Z1 : k0 < (v0.setCell ⟨w.heap.size + 1 + 1, 0, none⟩ (.slice (some ⟨k0, 0, none⟩) n0 n0)).heap.size := by simpa [World.setCell] using hs0
  have F0 := F0.far ⟨w.heap.size + 1 + 1, 0, none⟩ (by show w.heap.size + 1 + 1 ≠ k0; omega) (.slice (some ⟨k0, 0, none⟩) n0 n0)
  clear OO0 hbb0 hc0 hs0
  generalize v0.setCell ⟨w.heap.size + 1 + 1, 0, none⟩ (.slice (some ⟨k0, 0, none⟩) n0 n0) = W1 at O1 hb1 Z1 F0 ⊢
  rw [rounds_succ]
  have q1 : W1.cell? ⟨w.heap.size, 1, none⟩ = some (.slice x1 n1 c1) := range_below hb1 R0 (by omega) 1 _ rfl
  go_wp2_with (fail)
  clear q1
  refine (toInt_any x1 n1 c1 f1 W1 (h1.later (B0.trans (hb1.mono (by omega)))) hn1).mono ?_
  rintro e v1 ⟨rfl, F1, hv1, hs1⟩
  have OO1 := O1.below hv1 (by omega)
  have hc1 := OO1 1 _ rfl
  have hbb1 := hb1.trans (hv1.mono (by omega))
  have F0 := F0.later hv1
  clear hv1 O1 hb1
  generalize hk1 : W1.heap.size = k1 at F1 hs1 Z1 ⊢
  have HK1 : Hid (W1.heap.size = k1) := hk1
  clear hk1
  go_wp2_with (fail)
  have O2 : Ck (v1.setCell ⟨w.heap.size + 1 + 1, 1, none⟩ (.slice (some ⟨k1, 0, none⟩) n1 n1)) (w.heap.size + 1 + 1) [.slice (some ⟨k0, 0, none⟩) n0 n0, .slice (some ⟨k1, 0, none⟩) n1 n1, .slice none 0 0, .slice none 0 0] := OO1.set 1 _
  have hb2 : Below (w.heap.size + 2) W0 (v1.setCell ⟨w.heap.size + 1 + 1, 1, none⟩ (.slice (some ⟨k1, 0, none⟩) n1 n1)) := hbb1.setCell (by show w.heap.size + 2 ≤ w.heap.size + 1 + 1; omega) _
  have Z2 : k1 < (v1.setCell ⟨w.heap.size + 1 + 1, 1, none⟩ (.slice (some ⟨k1, 0, none⟩) n1 n1)).heap.size := by simpa [World.setCell] using hs1
  have F0 := F0.far ⟨w.heap.size + 1 + 1, 1, none⟩ (by show w.heap.size + 1 + 1 ≠ k0; omega) (.slice (some ⟨k1, 0, none⟩) n1 n1)
  have F1 := F1.far ⟨w.heap.size + 1 + 1, 1, none⟩ (by show w.heap.size + 1 + 1 ≠ k1; omega) (.slice (some ⟨k1, 0, none⟩) n1 n1)
  clear OO1 hbb1 hc1 hs1
  generalize v1.setCell ⟨w.heap.size + 1 + 1, 1, none⟩ (.slice (some ⟨k1, 0, none⟩) n1 n1) = W2 at O2 hb2 Z2 F0 F1 ⊢
  rw [rounds_succ]
  have q2 : W2.cell? ⟨w.heap.size, 2, none⟩ = some (.slice x2 n2 c2) := range_below hb2 R0 (by omega) 2 _ rfl
  go_wp2_with (fail)
  clear q2
  refine (toInt_any x2 n2 c2 f2 W2 (h2.later (B0.trans (hb2.mono (by omega)))) hn2).mono ?_
  rintro e v2 ⟨rfl, F2, hv2, hs2⟩
  have OO2 := O2.below hv2 (by omega)
  have hc2 := OO2 2 _ rfl
  have hbb2 := hb2.trans (hv2.mono (by omega))
  have F0 := F0.later hv2
  have F1 := F1.later hv2
  clear hv2 O2 hb2
  generalize hk2 : W2.heap.size = k2 at F2 hs2 Z2 ⊢
  have HK2 : Hid (W2.heap.size = k2) := hk2
  clear hk2
  go_wp2_with (fail)
  have O3 : Ck (v2.setCell ⟨w.heap.size + 1 + 1, 2, none⟩ (.slice (some ⟨k2, 0, none⟩) n2 n2)) (w.heap.size + 1 + 1) [.slice (some ⟨k0, 0, none⟩) n0 n0, .slice (some ⟨k1, 0, none⟩) n1 n1, .slice (some ⟨k2, 0, none⟩) n2 n2, .slice none 0 0] := OO2.set 2 _
  have hb3 : Below (w.heap.size + 2) W0 (v2.setCell ⟨w.heap.size + 1 + 1, 2, none⟩ (.slice (some ⟨k2, 0, none⟩) n2 n2)) := hbb2.setCell (by show w.heap.size + 2 ≤ w.heap.size + 1 + 1; omega) _
  have Z3 : k2 < (v2.setCell ⟨w.heap.size + 1 + 1, 2, none⟩ (.slice (some ⟨k2, 0, none⟩) n2 n2)).heap.size := by simpa [World.setCell] using hs2
  have F0 := F0.far ⟨w.heap.size + 1 + 1, 2, none⟩ (by show w.heap.size + 1 + 1 ≠ k0; omega) (.slice (some ⟨k2, 0, none⟩) n2 n2)
  have F1 := F1.far ⟨w.heap.size + 1 + 1, 2, none⟩ (by show w.heap.size + 1 + 1 ≠ k1; omega) (.slice (some ⟨k2, 0, none⟩) n2 n2)
  have F2 := F2.far ⟨w.heap.size + 1 + 1, 2, none⟩ (by show w.heap.size + 1 + 1 ≠ k2; omega) (.slice (some ⟨k2, 0, none⟩) n2 n2)
  clear OO2 hbb2 hc2 hs2
  generalize v2.setCell ⟨w.heap.size + 1 + 1, 2, none⟩ (.slice (some ⟨k2, 0, none⟩) n2 n2) = W3 at O3 hb3 Z3 F0 F1 F2 ⊢
  rw [rounds_succ]
  have q3 : W3.cell? ⟨w.heap.size, 3, none⟩ = some (.slice x3 n3 c3) := range_below hb3 R0 (by omega) 3 _ rfl
  go_wp2_with (fail)
  clear q3
  refine (toInt_any x3 n3 c3 f3 W3 (h3.later (B0.trans (hb3.mono (by omega)))) hn3).mono ?_
  rintro e v3 ⟨rfl, F3, hv3, hs3⟩
  have OO3 := O3.below hv3 (by omega)
  have hc3 := OO3 3 _ rfl
  have hbb3 := hb3.trans (hv3.mono (by omega))
  have F0 := F0.later hv3
  have F1 := F1.later hv3
  have F2 := F2.later hv3
  clear hv3 O3 hb3
  generalize hk3 : W3.heap.size = k3 at F3 hs3 Z3 ⊢
  have HK3 : Hid (W3.heap.size = k3) := hk3
  clear hk3
  go_wp2_with (fail)
  have O4 : Ck (v3.setCell ⟨w.heap.size + 1 + 1, 3, none⟩ (.slice (some ⟨k3, 0, none⟩) n3 n3)) (w.heap.size + 1 + 1) [.slice (some ⟨k0, 0, none⟩) n0 n0, .slice (some ⟨k1, 0, none⟩) n1 n1, .slice (some ⟨k2, 0, none⟩) n2 n2, .slice (some ⟨k3, 0, none⟩) n3 n3] := OO3.set 3 _
  have hb4 : Below (w.heap.size + 2) W0 (v3.setCell ⟨w.heap.size + 1 + 1, 3, none⟩ (.slice (some ⟨k3, 0, none⟩) n3 n3)) := hbb3.setCell (by show w.heap.size + 2 ≤ w.heap.size + 1 + 1; omega) _
  have Z4 : k3 < (v3.setCell ⟨w.heap.size + 1 + 1, 3, none⟩ (.slice (some ⟨k3, 0, none⟩) n3 n3)).heap.size := by simpa [World.setCell] using hs3
  have F0 := F0.far ⟨w.heap.size + 1 + 1, 3, none⟩ (by show w.heap.size + 1 + 1 ≠ k0; omega) (.slice (some ⟨k3, 0, none⟩) n3 n3)
  have F1 := F1.far ⟨w.heap.size + 1 + 1, 3, none⟩ (by show w.heap.size + 1 + 1 ≠ k1; omega) (.slice (some ⟨k3, 0, none⟩) n3 n3)
  have F2 := F2.far ⟨w.heap.size + 1 + 1, 3, none⟩ (by show w.heap.size + 1 + 1 ≠ k2; omega) (.slice (some ⟨k3, 0, none⟩) n3 n3)
  have F3 := F3.far ⟨w.heap.size + 1 + 1, 3, none⟩ (by show w.heap.size + 1 + 1 ≠ k3; omega) (.slice (some ⟨k3, 0, none⟩) n3 n3)
  clear OO3 hbb3 hc3 hs3
  generalize v3.setCell ⟨w.heap.size + 1 + 1, 3, none⟩ (.slice (some ⟨k3, 0, none⟩) n3 n3) = W4 at O4 hb4 Z4 F0 F1 F2 F3 ⊢
  have o0 := (O4 0 _ rfl).1
  have o1 := (O4 1 _ rfl).1
  have o2 := (O4 2 _ rfl).1
  have o3 := (O4 3 _ rfl).1
  have P4 := P0.below hb4 (by omega)
  have p0 := P4 0 _ rfl
  have p1 := P4 1 _ rfl
  have p2 := P4 2 _ rfl
  have p3 := P4 3 _ rfl
  have HZ4 : Hid (k3 < W4.heap.size) := Z4
  have B4 := B0.trans (hb4.mono (Nat.le_add_right _ _))
  have P4 : Hid (Ck W4 (w.heap.size + 1) [.slice none 0 0, .slice none 0 0, .slice none 0 0, .slice none 0 0]) := P4
  clear hb4 R0 P0 O4
  rw [rounds_succ]
  go_wp2_with (fail)
  have P5 := (((P4.out.set 0 (.slice (some ⟨k0, 0, none⟩) n0 n0)).set 1 (.slice (some ⟨k1, 0, none⟩) n1 n1)).set 2 (.slice (some ⟨k2, 0, none⟩) n2 n2)).set 3 (.slice (some ⟨k3, 0, none⟩) n3 n3)
  refine bodyPost_ret (results_cell_mid rfl _ _ (w.heap.size + 1) 0 _ _ rfl P5.range Tryz.underlying23 rfl (by kernel_rfl)) rfl ⟨k0, k1, k2, k3, by omega, Z1, Z2, Z3, by simpa [World.setCell] using HZ4.out, rfl, ?_, ?_, ?_, ?_, ?_⟩
  · exact (((F0.far _ (by show w.heap.size + 1 ≠ k0; omega) _).far _ (by show w.heap.size + 1 ≠ k0; omega) _).far _ (by show w.heap.size + 1 ≠ k0; omega) _).far _ (by show w.heap.size + 1 ≠ k0; omega) _
  · exact (((F1.far _ (by show w.heap.size + 1 ≠ k1; omega) _).far _ (by show w.heap.size + 1 ≠ k1; omega) _).far _ (by show w.heap.size + 1 ≠ k1; omega) _).far _ (by show w.heap.size + 1 ≠ k1; omega) _
  · exact (((F2.far _ (by show w.heap.size + 1 ≠ k2; omega) _).far _ (by show w.heap.size + 1 ≠ k2; omega) _).far _ (by show w.heap.size + 1 ≠ k2; omega) _).far _ (by show w.heap.size + 1 ≠ k2; omega) _
  · exact (((F3.far _ (by show w.heap.size + 1 ≠ k3; omega) _).far _ (by show w.heap.size + 1 ≠ k3; omega) _).far _ (by show w.heap.size + 1 ≠ k3; omega) _).far _ (by show w.heap.size + 1 ≠ k3; omega) _
  · exact (((B4.setCell (Nat.le_succ _) _).setCell (Nat.le_succ _) _).setCell (Nat.le_succ _) _).setCell (Nat.le_succ _) _

set_option maxHeartbeats 4000000 in
theorem to_any (b : Bx) (w : World) (h : b.At w) (hn : b.total ≤ 1000000000) :
    Calls Tryz.prog 7 #[.agg b.cells.toArray] w fun e w' => ∃ b' : Bx, e = .returned (.agg b'.cells.toArray) ∧ b'.m = b.m ∧ b'.Own w.heap.size w'.heap.size w' ∧ Below w.heap.size w w' := by
  obtain ⟨bs, ⟨pa, pn, pc, pf⟩, ⟨a0, n0, c0, f0⟩, ⟨a1, n1, c1, f1⟩, ⟨a2, n2, c2, f2⟩, ⟨a3, n3, c3, f3⟩, ⟨oa, on, oc, of⟩, ⟨ia, in_, ic, if_⟩, ⟨ea, en, ec, ef⟩⟩ := b
  simp only [Bx.At, Bx.lists, List.forall_mem_cons, List.not_mem_nil, false_implies, implies_true, and_true] at h
  obtain ⟨hp, h0, h1, h2, h3, ho, hi, he⟩ := h
  simp only [Bx.total] at hn
  simp only [Bx.cells]
  go_enter Tryz.func7, Tryz.ntmps7
  go_wp2_with (fail)
  have R0 : World.rangeAt _ w.heap.size 0 [.int .i64 bs, .slice pa pn pc, .slice a0 n0 c0, .slice a1 n1 c1, .slice a2 n2 c2, .slice a3 n3 c3, .slice oa on oc, .slice ia in_ ic, .slice ea en ec] := range_lit #[.int .i64 bs, .slice pa pn pc, .slice a0 n0 c0, .slice a1 n1 c1, .slice a2 n2 c2, .slice a3 n3 c3, .slice oa on oc, .slice ia in_ ic, .slice ea en ec] (heap3_0 w (.cells #[.int .i64 bs, .slice pa pn pc, .slice a0 n0 c0, .slice a1 n1 c1, .slice a2 n2 c2, .slice a3 n3 c3, .slice oa on oc, .slice ia in_ ic, .slice ea en ec] 25) (.cells #[.int .i64 0, .slice none 0 0, .slice none 0 0, .slice none 0 0, .slice none 0 0, .slice none 0 0, .slice none 0 0, .slice none 0 0, .slice none 0 0] 29) (.cells #[.int .i64 bs, .slice none 0 0, .slice none 0 0, .slice none 0 0, .slice none 0 0, .slice none 0 0, .slice none 0 0, .slice none 0 0, .slice none 0 0] 29))
  have P0 : Ck _ (w.heap.size + 1) [.int .i64 0, .slice none 0 0, .slice none 0 0, .slice none 0 0, .slice none 0 0, .slice none 0 0, .slice none 0 0, .slice none 0 0, .slice none 0 0] := ck_lit #[.int .i64 0, .slice none 0 0, .slice none 0 0, .slice none 0 0, .slice none 0 0, .slice none 0 0, .slice none 0 0, .slice none 0 0, .slice none 0 0] (heap3_1 w (.cells #[.int .i64 bs, .slice pa pn pc, .slice a0 n0 c0, .slice a1 n1 c1, .slice a2 n2 c2, .slice a3 n3 c3, .slice oa on oc, .slice ia in_ ic, .slice ea en ec] 25) (.cells #[.int .i64 0, .slice none 0 0, .slice none 0 0, .slice none 0 0, .slice none 0 0, .slice none 0 0, .slice none 0 0, .slice none 0 0, .slice none 0 0] 29) (.cells #[.int .i64 bs, .slice none 0 0, .slice none 0 0, .slice none 0 0, .slice none 0 0, .slice none 0 0, .slice none 0 0, .slice none 0 0, .slice none 0 0] 29))
  have O0 : Ck _ (w.heap.size + 1 + 1) [.int .i64 bs, .slice none 0 0, .slice none 0 0, .slice none 0 0, .slice none 0 0, .slice none 0 0, .slice none 0 0, .slice none 0 0, .slice none 0 0] := ck_lit #[.int .i64 bs, .slice none 0 0, .slice none 0 0, .slice none 0 0, .slice none 0 0, .slice none 0 0, .slice none 0 0, .slice none 0 0, .slice none 0 0] (heap3_2 w (.cells #[.int .i64 bs, .slice pa pn pc, .slice a0 n0 c0, .slice a1 n1 c1, .slice a2 n2 c2, .slice a3 n3 c3, .slice oa on oc, .slice ia in_ ic, .slice ea en ec] 25) (.cells #[.int .i64 0, .slice none 0 0, .slice none 0 0, .slice none 0 0, .slice none 0 0, .slice none 0 0, .slice none 0 0, .slice none 0 0, .slice none 0 0] 29) (.cells #[.int .i64 bs, .slice none 0 0, .slice none 0 0, .slice none 0 0, .slice none 0 0, .slice none 0 0, .slice none 0 0, .slice none 0 0, .slice none 0 0] 29))
  have B0 := below3 w (.cells #[.int .i64 bs, .slice pa pn pc, .slice a0 n0 c0, .slice a1 n1 c1, .slice a2 n2 c2, .slice a3 n3 c3, .slice oa on oc, .slice ia in_ ic, .slice ea en ec] 25) (.cells #[.int .i64 0, .slice none 0 0, .slice none 0 0, .slice none 0 0, .slice none 0 0, .slice none 0 0, .slice none 0 0, .slice none 0 0, .slice none 0 0] 29) (.cells #[.int .i64 bs, .slice none 0 0, .slice none 0 0, .slice none 0 0, .slice none 0 0, .slice none 0 0, .slice none 0 0, .slice none 0 0, .slice none 0 0] 29)
  have Z0 : w.heap.size + 3 ≤ (((w.alloc (.cells #[.int .i64 bs, .slice pa pn pc, .slice a0 n0 c0, .slice a1 n1 c1, .slice a2 n2 c2, .slice a3 n3 c3, .slice oa on oc, .slice ia in_ ic, .slice ea en ec] 25)).alloc (.cells #[.int .i64 0, .slice none 0 0, .slice none 0 0, .slice none 0 0, .slice none 0 0, .slice none 0 0, .slice none 0 0, .slice none 0 0, .slice none 0 0] 29)).alloc (.cells #[.int .i64 bs, .slice none 0 0, .slice none 0 0, .slice none 0 0, .slice none 0 0, .slice none 0 0, .slice none 0 0, .slice none 0 0, .slice none 0 0] 29)).heap.size := by simp
  generalize ((w.alloc (.cells #[.int .i64 bs, .slice pa pn pc, .slice a0 n0 c0, .slice a1 n1 c1, .slice a2 n2 c2, .slice a3 n3 c3, .slice oa on oc, .slice ia in_ ic, .slice ea en ec] 25)).alloc (.cells #[.int .i64 0, .slice none 0 0, .slice none 0 0, .slice none 0 0, .slice none 0 0, .slice none 0 0, .slice none 0 0, .slice none 0 0, .slice none 0 0] 29)).alloc (.cells #[.int .i64 bs, .slice none 0 0, .slice none 0 0, .slice none 0 0, .slice none 0 0, .slice none 0 0, .slice none 0 0, .slice none 0 0, .slice none 0 0] 29) = W0 at R0 P0 O0 B0 Z0 ⊢
  have hb0 : Below (w.heap.size + 2) W0 W0 := Below.refl _ _
  refine (toInt_any pa pn pc pf W0 (Sl.later hp (B0.trans (hb0.mono (by omega)))) (by omega)).mono ?_
  rintro e v0 ⟨rfl, Fp, hv0, hs0⟩
  have OO0 := O0.below hv0 (by omega)
  have hcp := OO0 1 _ rfl
  have hbb0 := hb0.trans (hv0.mono (by omega))
  clear hv0 O0 hb0
  generalize hkp : W0.heap.size = kp at Fp hs0 Z0 ⊢
  have HKp : Hid (W0.heap.size = kp) := hkp
  clear hkp
  have q0 : v0.cell? ⟨w.heap.size, 2, none⟩ = some (.slice a0 n0 c0) := range_below hbb0 R0 (by omega) 2 _ rfl
  have q1 : v0.cell? ⟨w.heap.size, 3, none⟩ = some (.slice a1 n1 c1) := range_below hbb0 R0 (by omega) 3 _ rfl
  have q2 : v0.cell? ⟨w.heap.size, 4, none⟩ = some (.slice a2 n2 c2) := range_below hbb0 R0 (by omega) 4 _ rfl
  have q3 : v0.cell? ⟨w.heap.size, 5, none⟩ = some (.slice a3 n3 c3) := range_below hbb0 R0 (by omega) 5 _ rfl
  go_wp2_with (fail)
  clear q0 q1 q2 q3
  have O1 : Ck (v0.setCell ⟨w.heap.size + 1 + 1, 1, none⟩ (.slice (some ⟨kp, 0, none⟩) pn pn)) (w.heap.size + 1 + 1) [.int .i64 bs, .slice (some ⟨kp, 0, none⟩) pn pn, .slice none 0 0, .slice none 0 0, .slice none 0 0, .slice none 0 0, .slice none 0 0, .slice none 0 0, .slice none 0 0] := (OO0.set 1 (.slice (some ⟨kp, 0, none⟩) pn pn))
  have hb1 : Below (w.heap.size + 2) W0 (v0.setCell ⟨w.heap.size + 1 + 1, 1, none⟩ (.slice (some ⟨kp, 0, none⟩) pn pn)) := (hbb0.setCell (p := ⟨w.heap.size + 1 + 1, 1, none⟩) (by show w.heap.size + 2 ≤ w.heap.size + 1 + 1; omega) (.slice (some ⟨kp, 0, none⟩) pn pn))
  have Z1 : kp < (v0.setCell ⟨w.heap.size + 1 + 1, 1, none⟩ (.slice (some ⟨kp, 0, none⟩) pn pn)).heap.size := by simpa [World.setCell] using hs0
  replace Fp := (Fp.far ⟨w.heap.size + 1 + 1, 1, none⟩ (by show w.heap.size + 1 + 1 ≠ kp; omega) (.slice (some ⟨kp, 0, none⟩) pn pn))
  clear OO0 hbb0 hcp hs0
  generalize (v0.setCell ⟨w.heap.size + 1 + 1, 1, none⟩ (.slice (some ⟨kp, 0, none⟩) pn pn)) = W1 at O1 hb1 Z1 Fp ⊢
  refine (to4_any a0 a1 a2 a3 n0 c0 n1 c1 n2 c2 n3 c3 f0 f1 f2 f3 W1 (Sl.later h0 (B0.trans (hb1.mono (by omega)))) (Sl.later h1 (B0.trans (hb1.mono (by omega)))) (Sl.later h2 (B0.trans (hb1.mono (by omega)))) (Sl.later h3 (B0.trans (hb1.mono (by omega)))) (by omega) (by omega) (by omega) (by omega)).mono ?_
  rintro e v1 ⟨k0, k1, k2, k3, z0, z1, z2, z3, z4, rfl, F0, F1, F2, F3, hv1⟩
  have OO1 := O1.below hv1 (by omega)
  have hc0 := OO1 2 _ rfl
  have hc1 := OO1 3 _ rfl
  have hc2 := OO1 4 _ rfl
  have hc3 := OO1 5 _ rfl
  have hbb1 := hb1.trans (hv1.mono (by omega))
  replace Fp := Fp.later hv1
  clear hv1 O1 hb1
  have qo : v1.cell? ⟨w.heap.size, 6, none⟩ = some (.slice oa on oc) := range_below hbb1 R0 (by omega) 6 _ rfl
  go_wp2_with (fail)
  clear qo
  have O2 : Ck ((((v1.setCell ⟨w.heap.size + 1 + 1, 2, none⟩ (.slice (some ⟨k0, 0, none⟩) n0 n0)).setCell ⟨w.heap.size + 1 + 1, 3, none⟩ (.slice (some ⟨k1, 0, none⟩) n1 n1)).setCell ⟨w.heap.size + 1 + 1, 4, none⟩ (.slice (some ⟨k2, 0, none⟩) n2 n2)).setCell ⟨w.heap.size + 1 + 1, 5, none⟩ (.slice (some ⟨k3, 0, none⟩) n3 n3)) (w.heap.size + 1 + 1) [.int .i64 bs, .slice (some ⟨kp, 0, none⟩) pn pn, .slice (some ⟨k0, 0, none⟩) n0 n0, .slice (some ⟨k1, 0, none⟩) n1 n1, .slice (some ⟨k2, 0, none⟩) n2 n2, .slice (some ⟨k3, 0, none⟩) n3 n3, .slice none 0 0, .slice none 0 0, .slice none 0 0] := ((((OO1.set 2 (.slice (some ⟨k0, 0, none⟩) n0 n0)).set 3 (.slice (some ⟨k1, 0, none⟩) n1 n1)).set 4 (.slice (some ⟨k2, 0, none⟩) n2 n2)).set 5 (.slice (some ⟨k3, 0, none⟩) n3 n3))
  have hb2 : Below (w.heap.size + 2) W0 ((((v1.setCell ⟨w.heap.size + 1 + 1, 2, none⟩ (.slice (some ⟨k0, 0, none⟩) n0 n0)).setCell ⟨w.heap.size + 1 + 1, 3, none⟩ (.slice (some ⟨k1, 0, none⟩) n1 n1)).setCell ⟨w.heap.size + 1 + 1, 4, none⟩ (.slice (some ⟨k2, 0, none⟩) n2 n2)).setCell ⟨w.heap.size + 1 + 1, 5, none⟩ (.slice (some ⟨k3, 0, none⟩) n3 n3)) := ((((hbb1.setCell (p := ⟨w.heap.size + 1 + 1, 2, none⟩) (by show w.heap.size + 2 ≤ w.heap.size + 1 + 1; omega) (.slice (some ⟨k0, 0, none⟩) n0 n0)).setCell (p := ⟨w.heap.size + 1 + 1, 3, none⟩) (by show w.heap.size + 2 ≤ w.heap.size + 1 + 1; omega) (.slice (some ⟨k1, 0, none⟩) n1 n1)).setCell (p := ⟨w.heap.size + 1 + 1, 4, none⟩) (by show w.heap.size + 2 ≤ w.heap.size + 1 + 1; omega) (.slice (some ⟨k2, 0, none⟩) n2 n2)).setCell (p := ⟨w.heap.size + 1 + 1, 5, none⟩) (by show w.heap.size + 2 ≤ w.heap.size + 1 + 1; omega) (.slice (some ⟨k3, 0, none⟩) n3 n3))
  have Z2 : k3 < ((((v1.setCell ⟨w.heap.size + 1 + 1, 2, none⟩ (.slice (some ⟨k0, 0, none⟩) n0 n0)).setCell ⟨w.heap.size + 1 + 1, 3, none⟩ (.slice (some ⟨k1, 0, none⟩) n1 n1)).setCell ⟨w.heap.size + 1 + 1, 4, none⟩ (.slice (some ⟨k2, 0, none⟩) n2 n2)).setCell ⟨w.heap.size + 1 + 1, 5, none⟩ (.slice (some ⟨k3, 0, none⟩) n3 n3)).heap.size := by simpa [World.setCell] using z4
  replace Fp := ((((Fp.far ⟨w.heap.size + 1 + 1, 2, none⟩ (by show w.heap.size + 1 + 1 ≠ kp; omega) (.slice (some ⟨k0, 0, none⟩) n0 n0)).far ⟨w.heap.size + 1 + 1, 3, none⟩ (by show w.heap.size + 1 + 1 ≠ kp; omega) (.slice (some ⟨k1, 0, none⟩) n1 n1)).far ⟨w.heap.size + 1 + 1, 4, none⟩ (by show w.heap.size + 1 + 1 ≠ kp; omega) (.slice (some ⟨k2, 0, none⟩) n2 n2)).far ⟨w.heap.size + 1 + 1, 5, none⟩ (by show w.heap.size + 1 + 1 ≠ kp; omega) (.slice (some ⟨k3, 0, none⟩) n3 n3))
  replace F0 := ((((F0.far ⟨w.heap.size + 1 + 1, 2, none⟩ (by show w.heap.size + 1 + 1 ≠ k0; omega) (.slice (some ⟨k0, 0, none⟩) n0 n0)).far ⟨w.heap.size + 1 + 1, 3, none⟩ (by show w.heap.size + 1 + 1 ≠ k0; omega) (.slice (some ⟨k1, 0, none⟩) n1 n1)).far ⟨w.heap.size + 1 + 1, 4, none⟩ (by show w.heap.size + 1 + 1 ≠ k0; omega) (.slice (some ⟨k2, 0, none⟩) n2 n2)).far ⟨w.heap.size + 1 + 1, 5, none⟩ (by show w.heap.size + 1 + 1 ≠ k0; omega) (.slice (some ⟨k3, 0, none⟩) n3 n3))
  replace F1 := ((((F1.far ⟨w.heap.size + 1 + 1, 2, none⟩ (by show w.heap.size + 1 + 1 ≠ k1; omega) (.slice (some ⟨k0, 0, none⟩) n0 n0)).far ⟨w.heap.size + 1 + 1, 3, none⟩ (by show w.heap.size + 1 + 1 ≠ k1; omega) (.slice (some ⟨k1, 0, none⟩) n1 n1)).far ⟨w.heap.size + 1 + 1, 4, none⟩ (by show w.heap.size + 1 + 1 ≠ k1; omega) (.slice (some ⟨k2, 0, none⟩) n2 n2)).far ⟨w.heap.size + 1 + 1, 5, none⟩ (by show w.heap.size + 1 + 1 ≠ k1; omega) (.slice (some ⟨k3, 0, none⟩) n3 n3))
  replace F2 := ((((F2.far ⟨w.heap.size + 1 + 1, 2, none⟩ (by show w.heap.size + 1 + 1 ≠ k2; omega) (.slice (some ⟨k0, 0, none⟩) n0 n0)).far ⟨w.heap.size + 1 + 1, 3, none⟩ (by show w.heap.size + 1 + 1 ≠ k2; omega) (.slice (some ⟨k1, 0, none⟩) n1 n1)).far ⟨w.heap.size + 1 + 1, 4, none⟩ (by show w.heap.size + 1 + 1 ≠ k2; omega) (.slice (some ⟨k2, 0, none⟩) n2 n2)).far ⟨w.heap.size + 1 + 1, 5, none⟩ (by show w.heap.size + 1 + 1 ≠ k2; omega) (.slice (some ⟨k3, 0, none⟩) n3 n3))
  replace F3 := ((((F3.far ⟨w.heap.size + 1 + 1, 2, none⟩ (by show w.heap.size + 1 + 1 ≠ k3; omega) (.slice (some ⟨k0, 0, none⟩) n0 n0)).far ⟨w.heap.size + 1 + 1, 3, none⟩ (by show w.heap.size + 1 + 1 ≠ k3; omega) (.slice (some ⟨k1, 0, none⟩) n1 n1)).far ⟨w.heap.size + 1 + 1, 4, none⟩ (by show w.heap.size + 1 + 1 ≠ k3; omega) (.slice (some ⟨k2, 0, none⟩) n2 n2)).far ⟨w.heap.size + 1 + 1, 5, none⟩ (by show w.heap.size + 1 + 1 ≠ k3; omega) (.slice (some ⟨k3, 0, none⟩) n3 n3))
  clear OO1 hbb1 hc0 hc1 hc2 hc3 
  generalize ((((v1.setCell ⟨w.heap.size + 1 + 1, 2, none⟩ (.slice (some ⟨k0, 0, none⟩) n0 n0)).setCell ⟨w.heap.size + 1 + 1, 3, none⟩ (.slice (some ⟨k1, 0, none⟩) n1 n1)).setCell ⟨w.heap.size + 1 + 1, 4, none⟩ (.slice (some ⟨k2, 0, none⟩) n2 n2)).setCell ⟨w.heap.size + 1 + 1, 5, none⟩ (.slice (some ⟨k3, 0, none⟩) n3 n3)) = W2 at O2 hb2 Z2 Fp F0 F1 F2 F3 ⊢
  refine (toInt_any oa on oc of W2 (Sl.later ho (B0.trans (hb2.mono (by omega)))) (by omega)).mono ?_
  rintro e v2 ⟨rfl, Fo, hv2, hs2⟩
  have OO2 := O2.below hv2 (by omega)
  have hco := OO2 6 _ rfl
  have hbb2 := hb2.trans (hv2.mono (by omega))
  replace Fp := Fp.later hv2
  replace F0 := F0.later hv2
  replace F1 := F1.later hv2
  replace F2 := F2.later hv2
  replace F3 := F3.later hv2
  clear hv2 O2 hb2
  generalize hko : W2.heap.size = ko at Fo hs2 Z2 ⊢
  have HKo : Hid (W2.heap.size = ko) := hko
  clear hko
  have qi : v2.cell? ⟨w.heap.size, 7, none⟩ = some (.slice ia in_ ic) := range_below hbb2 R0 (by omega) 7 _ rfl
  go_wp2_with (fail)
  clear qi
  have O3 : Ck (v2.setCell ⟨w.heap.size + 1 + 1, 6, none⟩ (.slice (some ⟨ko, 0, none⟩) on on)) (w.heap.size + 1 + 1) [.int .i64 bs, .slice (some ⟨kp, 0, none⟩) pn pn, .slice (some ⟨k0, 0, none⟩) n0 n0, .slice (some ⟨k1, 0, none⟩) n1 n1, .slice (some ⟨k2, 0, none⟩) n2 n2, .slice (some ⟨k3, 0, none⟩) n3 n3, .slice (some ⟨ko, 0, none⟩) on on, .slice none 0 0, .slice none 0 0] := (OO2.set 6 (.slice (some ⟨ko, 0, none⟩) on on))
  have hb3 : Below (w.heap.size + 2) W0 (v2.setCell ⟨w.heap.size + 1 + 1, 6, none⟩ (.slice (some ⟨ko, 0, none⟩) on on)) := (hbb2.setCell (p := ⟨w.heap.size + 1 + 1, 6, none⟩) (by show w.heap.size + 2 ≤ w.heap.size + 1 + 1; omega) (.slice (some ⟨ko, 0, none⟩) on on))
  have Z3 : ko < (v2.setCell ⟨w.heap.size + 1 + 1, 6, none⟩ (.slice (some ⟨ko, 0, none⟩) on on)).heap.size := by simpa [World.setCell] using hs2
  replace Fp := (Fp.far ⟨w.heap.size + 1 + 1, 6, none⟩ (by show w.heap.size + 1 + 1 ≠ kp; omega) (.slice (some ⟨ko, 0, none⟩) on on))
  replace F0 := (F0.far ⟨w.heap.size + 1 + 1, 6, none⟩ (by show w.heap.size + 1 + 1 ≠ k0; omega) (.slice (some ⟨ko, 0, none⟩) on on))
  replace F1 := (F1.far ⟨w.heap.size + 1 + 1, 6, none⟩ (by show w.heap.size + 1 + 1 ≠ k1; omega) (.slice (some ⟨ko, 0, none⟩) on on))
  replace F2 := (F2.far ⟨w.heap.size + 1 + 1, 6, none⟩ (by show w.heap.size + 1 + 1 ≠ k2; omega) (.slice (some ⟨ko, 0, none⟩) on on))
  replace F3 := (F3.far ⟨w.heap.size + 1 + 1, 6, none⟩ (by show w.heap.size + 1 + 1 ≠ k3; omega) (.slice (some ⟨ko, 0, none⟩) on on))
  replace Fo := (Fo.far ⟨w.heap.size + 1 + 1, 6, none⟩ (by show w.heap.size + 1 + 1 ≠ ko; omega) (.slice (some ⟨ko, 0, none⟩) on on))
  clear OO2 hbb2 hco hs2
  generalize (v2.setCell ⟨w.heap.size + 1 + 1, 6, none⟩ (.slice (some ⟨ko, 0, none⟩) on on)) = W3 at O3 hb3 Z3 Fp F0 F1 F2 F3 Fo ⊢
  refine (toInt_any ia in_ ic if_ W3 (Sl.later hi (B0.trans (hb3.mono (by omega)))) (by omega)).mono ?_
  rintro e v3 ⟨rfl, Fi, hv3, hs3⟩
  have OO3 := O3.below hv3 (by omega)
  have hci := OO3 7 _ rfl
  have hbb3 := hb3.trans (hv3.mono (by omega))
  replace Fp := Fp.later hv3
  replace F0 := F0.later hv3
  replace F1 := F1.later hv3
  replace F2 := F2.later hv3
  replace F3 := F3.later hv3
  replace Fo := Fo.later hv3
  clear hv3 O3 hb3
  generalize hki : W3.heap.size = ki at Fi hs3 Z3 ⊢
  have HKi : Hid (W3.heap.size = ki) := hki
  clear hki
  have qe : v3.cell? ⟨w.heap.size, 8, none⟩ = some (.slice ea en ec) := range_below hbb3 R0 (by omega) 8 _ rfl
  go_wp2_with (fail)
  clear qe
  have O4 : Ck (v3.setCell ⟨w.heap.size + 1 + 1, 7, none⟩ (.slice (some ⟨ki, 0, none⟩) in_ in_)) (w.heap.size + 1 + 1) [.int .i64 bs, .slice (some ⟨kp, 0, none⟩) pn pn, .slice (some ⟨k0, 0, none⟩) n0 n0, .slice (some ⟨k1, 0, none⟩) n1 n1, .slice (some ⟨k2, 0, none⟩) n2 n2, .slice (some ⟨k3, 0, none⟩) n3 n3, .slice (some ⟨ko, 0, none⟩) on on, .slice (some ⟨ki, 0, none⟩) in_ in_, .slice none 0 0] := (OO3.set 7 (.slice (some ⟨ki, 0, none⟩) in_ in_))
  have hb4 : Below (w.heap.size + 2) W0 (v3.setCell ⟨w.heap.size + 1 + 1, 7, none⟩ (.slice (some ⟨ki, 0, none⟩) in_ in_)) := (hbb3.setCell (p := ⟨w.heap.size + 1 + 1, 7, none⟩) (by show w.heap.size + 2 ≤ w.heap.size + 1 + 1; omega) (.slice (some ⟨ki, 0, none⟩) in_ in_))
  have Z4 : ki < (v3.setCell ⟨w.heap.size + 1 + 1, 7, none⟩ (.slice (some ⟨ki, 0, none⟩) in_ in_)).heap.size := by simpa [World.setCell] using hs3
  replace Fp := (Fp.far ⟨w.heap.size + 1 + 1, 7, none⟩ (by show w.heap.size + 1 + 1 ≠ kp; omega) (.slice (some ⟨ki, 0, none⟩) in_ in_))
  replace F0 := (F0.far ⟨w.heap.size + 1 + 1, 7, none⟩ (by show w.heap.size + 1 + 1 ≠ k0; omega) (.slice (some ⟨ki, 0, none⟩) in_ in_))
  replace F1 := (F1.far ⟨w.heap.size + 1 + 1, 7, none⟩ (by show w.heap.size + 1 + 1 ≠ k1; omega) (.slice (some ⟨ki, 0, none⟩) in_ in_))
  replace F2 := (F2.far ⟨w.heap.size + 1 + 1, 7, none⟩ (by show w.heap.size + 1 + 1 ≠ k2; omega) (.slice (some ⟨ki, 0, none⟩) in_ in_))
  replace F3 := (F3.far ⟨w.heap.size + 1 + 1, 7, none⟩ (by show w.heap.size + 1 + 1 ≠ k3; omega) (.slice (some ⟨ki, 0, none⟩) in_ in_))
  replace Fo := (Fo.far ⟨w.heap.size + 1 + 1, 7, none⟩ (by show w.heap.size + 1 + 1 ≠ ko; omega) (.slice (some ⟨ki, 0, none⟩) in_ in_))
  replace Fi := (Fi.far ⟨w.heap.size + 1 + 1, 7, none⟩ (by show w.heap.size + 1 + 1 ≠ ki; omega) (.slice (some ⟨ki, 0, none⟩) in_ in_))
  clear OO3 hbb3 hci hs3
  generalize (v3.setCell ⟨w.heap.size + 1 + 1, 7, none⟩ (.slice (some ⟨ki, 0, none⟩) in_ in_)) = W4 at O4 hb4 Z4 Fp F0 F1 F2 F3 Fo Fi ⊢
  refine (toInt_any ea en ec ef W4 (Sl.later he (B0.trans (hb4.mono (by omega)))) (by omega)).mono ?_
  rintro e v4 ⟨rfl, Fe, hv4, hs4⟩
  have OO4 := O4.below hv4 (by omega)
  have hce := OO4 8 _ rfl
  have hbb4 := hb4.trans (hv4.mono (by omega))
  replace Fp := Fp.later hv4
  replace F0 := F0.later hv4
  replace F1 := F1.later hv4
  replace F2 := F2.later hv4
  replace F3 := F3.later hv4
  replace Fo := Fo.later hv4
  replace Fi := Fi.later hv4
  clear hv4 O4 hb4
  generalize hke : W4.heap.size = ke at Fe hs4 Z4 ⊢
  have HKe : Hid (W4.heap.size = ke) := hke
  clear hke
  have o0 := (OO4 0 _ rfl).1
  have o1 := (OO4 1 _ rfl).1
  have o2 := (OO4 2 _ rfl).1
  have o3 := (OO4 3 _ rfl).1
  have o4 := (OO4 4 _ rfl).1
  have o5 := (OO4 5 _ rfl).1
  have o6 := (OO4 6 _ rfl).1
  have o7 := (OO4 7 _ rfl).1
  have P5 := P0.below hbb4 (by omega)
  have p0 := P5 0 _ rfl
  have p1 := P5 1 _ rfl
  have p2 := P5 2 _ rfl
  have p3 := P5 3 _ rfl
  have p4 := P5 4 _ rfl
  have p5 := P5 5 _ rfl
  have p6 := P5 6 _ rfl
  have p7 := P5 7 _ rfl
  have p8 := P5 8 _ rfl
  go_wp2_with (fail)
  clear o0 o1 o2 o3 o4 o5 o6 o7 p0 p1 p2 p3 p4 p5 p6 p7 p8
  have PF : Ck ((((((((((v4.setCell ⟨w.heap.size + 1 + 1, 8, none⟩ (.slice (some ⟨ke, 0, none⟩) en en)).setCell ⟨w.heap.size + 1, 0, none⟩ (.int .i64 bs)).setCell ⟨w.heap.size + 1, 1, none⟩ (.slice (some ⟨kp, 0, none⟩) pn pn)).setCell ⟨w.heap.size + 1, 2, none⟩ (.slice (some ⟨k0, 0, none⟩) n0 n0)).setCell ⟨w.heap.size + 1, 3, none⟩ (.slice (some ⟨k1, 0, none⟩) n1 n1)).setCell ⟨w.heap.size + 1, 4, none⟩ (.slice (some ⟨k2, 0, none⟩) n2 n2)).setCell ⟨w.heap.size + 1, 5, none⟩ (.slice (some ⟨k3, 0, none⟩) n3 n3)).setCell ⟨w.heap.size + 1, 6, none⟩ (.slice (some ⟨ko, 0, none⟩) on on)).setCell ⟨w.heap.size + 1, 7, none⟩ (.slice (some ⟨ki, 0, none⟩) in_ in_)).setCell ⟨w.heap.size + 1, 8, none⟩ (.slice (some ⟨ke, 0, none⟩) en en)) (w.heap.size + 1) [.int .i64 bs, .slice (some ⟨kp, 0, none⟩) pn pn, .slice (some ⟨k0, 0, none⟩) n0 n0, .slice (some ⟨k1, 0, none⟩) n1 n1, .slice (some ⟨k2, 0, none⟩) n2 n2, .slice (some ⟨k3, 0, none⟩) n3 n3, .slice (some ⟨ko, 0, none⟩) on on, .slice (some ⟨ki, 0, none⟩) in_ in_, .slice (some ⟨ke, 0, none⟩) en en] := ((((((((((P5.far ⟨w.heap.size + 1 + 1, 8, none⟩ (by show w.heap.size + 1 + 1 ≠ w.heap.size + 1; omega) (.slice (some ⟨ke, 0, none⟩) en en)).set 0 (.int .i64 bs)).set 1 (.slice (some ⟨kp, 0, none⟩) pn pn)).set 2 (.slice (some ⟨k0, 0, none⟩) n0 n0)).set 3 (.slice (some ⟨k1, 0, none⟩) n1 n1)).set 4 (.slice (some ⟨k2, 0, none⟩) n2 n2)).set 5 (.slice (some ⟨k3, 0, none⟩) n3 n3)).set 6 (.slice (some ⟨ko, 0, none⟩) on on)).set 7 (.slice (some ⟨ki, 0, none⟩) in_ in_)).set 8 (.slice (some ⟨ke, 0, none⟩) en en))
  have ON : Only (w.heap.size + 1) (w.heap.size + 3) v4 ((((((((((v4.setCell ⟨w.heap.size + 1 + 1, 8, none⟩ (.slice (some ⟨ke, 0, none⟩) en en)).setCell ⟨w.heap.size + 1, 0, none⟩ (.int .i64 bs)).setCell ⟨w.heap.size + 1, 1, none⟩ (.slice (some ⟨kp, 0, none⟩) pn pn)).setCell ⟨w.heap.size + 1, 2, none⟩ (.slice (some ⟨k0, 0, none⟩) n0 n0)).setCell ⟨w.heap.size + 1, 3, none⟩ (.slice (some ⟨k1, 0, none⟩) n1 n1)).setCell ⟨w.heap.size + 1, 4, none⟩ (.slice (some ⟨k2, 0, none⟩) n2 n2)).setCell ⟨w.heap.size + 1, 5, none⟩ (.slice (some ⟨k3, 0, none⟩) n3 n3)).setCell ⟨w.heap.size + 1, 6, none⟩ (.slice (some ⟨ko, 0, none⟩) on on)).setCell ⟨w.heap.size + 1, 7, none⟩ (.slice (some ⟨ki, 0, none⟩) in_ in_)).setCell ⟨w.heap.size + 1, 8, none⟩ (.slice (some ⟨ke, 0, none⟩) en en)) := (((((((((((Only.refl (w.heap.size + 1) (w.heap.size + 3) v4).setCell (w.heap.size + 1 + 1) 8 (by omega) (by omega) (.slice (some ⟨ke, 0, none⟩) en en)).setCell (w.heap.size + 1) 0 (by omega) (by omega) (.int .i64 bs)).setCell (w.heap.size + 1) 1 (by omega) (by omega) (.slice (some ⟨kp, 0, none⟩) pn pn)).setCell (w.heap.size + 1) 2 (by omega) (by omega) (.slice (some ⟨k0, 0, none⟩) n0 n0)).setCell (w.heap.size + 1) 3 (by omega) (by omega) (.slice (some ⟨k1, 0, none⟩) n1 n1)).setCell (w.heap.size + 1) 4 (by omega) (by omega) (.slice (some ⟨k2, 0, none⟩) n2 n2)).setCell (w.heap.size + 1) 5 (by omega) (by omega) (.slice (some ⟨k3, 0, none⟩) n3 n3)).setCell (w.heap.size + 1) 6 (by omega) (by omega) (.slice (some ⟨ko, 0, none⟩) on on)).setCell (w.heap.size + 1) 7 (by omega) (by omega) (.slice (some ⟨ki, 0, none⟩) in_ in_)).setCell (w.heap.size + 1) 8 (by omega) (by omega) (.slice (some ⟨ke, 0, none⟩) en en))
  clear P5 OO4
  generalize ((((((((((v4.setCell ⟨w.heap.size + 1 + 1, 8, none⟩ (.slice (some ⟨ke, 0, none⟩) en en)).setCell ⟨w.heap.size + 1, 0, none⟩ (.int .i64 bs)).setCell ⟨w.heap.size + 1, 1, none⟩ (.slice (some ⟨kp, 0, none⟩) pn pn)).setCell ⟨w.heap.size + 1, 2, none⟩ (.slice (some ⟨k0, 0, none⟩) n0 n0)).setCell ⟨w.heap.size + 1, 3, none⟩ (.slice (some ⟨k1, 0, none⟩) n1 n1)).setCell ⟨w.heap.size + 1, 4, none⟩ (.slice (some ⟨k2, 0, none⟩) n2 n2)).setCell ⟨w.heap.size + 1, 5, none⟩ (.slice (some ⟨k3, 0, none⟩) n3 n3)).setCell ⟨w.heap.size + 1, 6, none⟩ (.slice (some ⟨ko, 0, none⟩) on on)).setCell ⟨w.heap.size + 1, 7, none⟩ (.slice (some ⟨ki, 0, none⟩) in_ in_)).setCell ⟨w.heap.size + 1, 8, none⟩ (.slice (some ⟨ke, 0, none⟩) en en)) = WF at PF ON ⊢
  have BF := (B0.trans (hbb4.mono (by omega))).trans (ON.below (by omega) |>.mono (by omega))
  have zF := ON.size
  replace Fp := ON.fk (.inr (by omega)) Fp
  replace F0 := ON.fk (.inr (by omega)) F0
  replace F1 := ON.fk (.inr (by omega)) F1
  replace F2 := ON.fk (.inr (by omega)) F2
  replace F3 := ON.fk (.inr (by omega)) F3
  replace Fo := ON.fk (.inr (by omega)) Fo
  replace Fi := ON.fk (.inr (by omega)) Fi
  replace Fe := ON.fk (.inr (by omega)) Fe
  refine bodyPost_ret (results_cell_mid rfl _ _ (w.heap.size + 1) 0 _ _ rfl PF.range Tryz.underlying29 rfl (by kernel_rfl)) rfl ⟨⟨bs, ⟨some ⟨kp, 0, none⟩, pn, pn, pf⟩, ⟨some ⟨k0, 0, none⟩, n0, n0, f0⟩, ⟨some ⟨k1, 0, none⟩, n1, n1, f1⟩, ⟨some ⟨k2, 0, none⟩, n2, n2, f2⟩, ⟨some ⟨k3, 0, none⟩, n3, n3, f3⟩, ⟨some ⟨ko, 0, none⟩, on, on, of⟩, ⟨some ⟨ki, 0, none⟩, in_, in_, if_⟩, ⟨some ⟨ke, 0, none⟩, en, en, ef⟩⟩, rfl, rfl, ⟨?_, ?_, ?_⟩, BF⟩
  · simp only [Bx.lists, List.forall_mem_cons, List.not_mem_nil, false_implies, implies_true, and_true]
    exact ⟨.inr ⟨kp, rfl, by omega, by omega, Fp⟩, .inr ⟨k0, rfl, by omega, by omega, F0⟩, .inr ⟨k1, rfl, by omega, by omega, F1⟩, .inr ⟨k2, rfl, by omega, by omega, F2⟩, .inr ⟨k3, rfl, by omega, by omega, F3⟩, .inr ⟨ko, rfl, by omega, by omega, Fo⟩, .inr ⟨ki, rfl, by omega, by omega, Fi⟩, .inr ⟨ke, rfl, by omega, by omega, Fe⟩⟩
  · simp only [Bx.lists, List.pairwise_cons, List.forall_mem_cons, List.not_mem_nil, false_implies, implies_true, and_true, List.Pairwise.nil]
    refine ⟨⟨?_, ?_, ?_, ?_, ?_, ?_, ?_⟩, ⟨?_, ?_, ?_, ?_, ?_, ?_⟩, ⟨?_, ?_, ?_, ?_, ?_⟩, ⟨?_, ?_, ?_, ?_⟩, ⟨?_, ?_, ?_⟩, ⟨?_, ?_⟩, ?_⟩
    all_goals exact apart_of _ _ (by omega) _ _ _ _ _ _
  · simp only [Bx.lists, List.forall_mem_cons, List.not_mem_nil, false_implies, implies_true, and_true]
    exact ⟨Nat.le_refl _, Nat.le_refl _, Nat.le_refl _, Nat.le_refl _, Nat.le_refl _, Nat.le_refl _, Nat.le_refl _, Nat.le_refl _⟩

end Go.Proofs.YtbeamigbcfkjjaaGreatDoor.Book

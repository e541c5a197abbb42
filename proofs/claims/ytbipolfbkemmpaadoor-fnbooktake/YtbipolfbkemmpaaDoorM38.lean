import Derived.Test.YtbipolfbkemmpaaDoorM31
import Derived.Test.YtbipolfbkemmpaaDoorM37
import Derived.Test.YtbipolfbkemmpaaDoorM21
import Derived.Test.YtbipolfbkemmpaaDoorM25

/- The program's finish. -/
namespace Go.Proofs.YtbipolfbkemmpaaDoor.Dra
open Go.ChangeShapes Go.WideShapes Go.ChangeAt Go.RowKit
open Aid Lst Book Rin
set_option maxRecDepth 100000
set_option linter.unusedVariables false
theorem only_setCells {B C : Nat} {a : World} {b : Nat} (hB : B ≤ b) (hC : b < C) : ∀ (vs : List Value) (o : Nat) (w : World), Only B C a w → Only B C a (w.setCells b o vs)
  | [], _, _, h => h
  | v :: vs, o, w, h => only_setCells hB hC vs (o + 1) _ (h.setCell b o hB hC v)
def FinP (b : Bx) (U : Nat → List Int) (c : Bx) : Prop := c.s = b.s ∧ c.p = b.p ∧ c.o = b.o ∧ c.i = b.i ∧ c.e = b.e ∧ ∀ k, k < 4 → (c.hd k).m = ((U k).length, fun j => (U k).getD j 0) ∧ ((c.hd k).n = 0 ∨ ∃ g, (c.hd k).a = some ⟨g, 0, none⟩)

set_option maxHeartbeats 16000000 in
theorem finish_any {B D : Nat} {s t : Nat → Nat} {b : Bx} {U : Nat → List Int} {w : World} (h : Dr B D s t b U w) (hl : ∀ k, k < 4 → (U k).length ≤ 1000) :
    Calls Tryd.prog 29 #[.pointer (some ⟨D, 0, none⟩)] w fun e w' => ∃ c t', e = .returned (.agg c.cells.toArray) ∧ FinP b U c ∧ Dr B D s t' c U w' ∧ Fq (fun i => t i ≠ 0) w w' := by
  have hb0 := below1 w (.cells z9.toArray 26)
  have DL : D < w.heap.size := (h.z D (by rw [h.tD]; omega)).2
  have HD0 : Hid (∃ t', Du B D s t (w.alloc (.cells z9.toArray 26)) t' b U (w.alloc (.cells z9.toArray 26))) := ⟨t, Du.start (h.later hb0)⟩
  have HZ : Hid (Below w.heap.size w (w.alloc (.cells z9.toArray 26)) ∧ t w.heap.size = 0 ∧ Ck (w.alloc (.cells z9.toArray 26)) w.heap.size z9 ∧ w.heap.size < (w.alloc (.cells z9.toArray 26)).heap.size) := ⟨hb0, by
    by_cases q : t w.heap.size = 0
    · exact q
    · exact absurd (h.z _ q).2 (Nat.lt_irrefl _), ck_lit z9.toArray (heap1_0 w _), by simp⟩
  have p0 : (w.alloc (.cells z9.toArray 26)).cell? ⟨D, 9, none⟩ = some (.pointer (some ⟨s 0, 0, none⟩)) := by rw [World.cell?_alloc_lt _ _ _ DL]; exact h.cell 9 _ rfl
  have p1 : (w.alloc (.cells z9.toArray 26)).cell? ⟨D, 10, none⟩ = some (.pointer (some ⟨s 1, 0, none⟩)) := by rw [World.cell?_alloc_lt _ _ _ DL]; exact h.cell 10 _ rfl
  have p2 : (w.alloc (.cells z9.toArray 26)).cell? ⟨D, 11, none⟩ = some (.pointer (some ⟨s 2, 0, none⟩)) := by rw [World.cell?_alloc_lt _ _ _ DL]; exact h.cell 11 _ rfl
  have p3 : (w.alloc (.cells z9.toArray 26)).cell? ⟨D, 12, none⟩ = some (.pointer (some ⟨s 3, 0, none⟩)) := by rw [World.cell?_alloc_lt _ _ _ DL]; exact h.cell 12 _ rfl
  have HLN : Hid (∀ k, k < 4 → (U k).length ≤ 1000) := hl
  clear h hl hb0
  unfold z9 at p0 p1 p2 p3 HD0 HZ
  go_enter Tryd.func29, Tryd.ntmps29
  go_wp2_with (fail)
  clear p0 p1 p2 p3
  generalize w.alloc (.cells #[.int .i64 0, .slice none 0 0, .slice none 0 0, .slice none 0 0, .slice none 0 0, .slice none 0 0, .slice none 0 0, .slice none 0 0, .slice none 0 0] 26) = W0 at HD0 HZ ⊢
  have ix0 : ∀ w : World, (Instr.index 66 (.agg #[.pointer (some ⟨s 0, 0, none⟩), .pointer (some ⟨s 1, 0, none⟩), .pointer (some ⟨s 2, 0, none⟩), .pointer (some ⟨s 3, 0, none⟩)]) (.int .i64 0)).run Tryd.prog w = .ok (.pointer (some ⟨s 0, 0, none⟩)) w := fun w => by kernel_rfl
  have ix1 : ∀ w : World, (Instr.index 66 (.agg #[.pointer (some ⟨s 0, 0, none⟩), .pointer (some ⟨s 1, 0, none⟩), .pointer (some ⟨s 2, 0, none⟩), .pointer (some ⟨s 3, 0, none⟩)]) (.int .i64 1)).run Tryd.prog w = .ok (.pointer (some ⟨s 1, 0, none⟩)) w := fun w => by kernel_rfl
  have ix2 : ∀ w : World, (Instr.index 66 (.agg #[.pointer (some ⟨s 0, 0, none⟩), .pointer (some ⟨s 1, 0, none⟩), .pointer (some ⟨s 2, 0, none⟩), .pointer (some ⟨s 3, 0, none⟩)]) (.int .i64 2)).run Tryd.prog w = .ok (.pointer (some ⟨s 2, 0, none⟩)) w := fun w => by kernel_rfl
  have ix3 : ∀ w : World, (Instr.index 66 (.agg #[.pointer (some ⟨s 0, 0, none⟩), .pointer (some ⟨s 1, 0, none⟩), .pointer (some ⟨s 2, 0, none⟩), .pointer (some ⟨s 3, 0, none⟩)]) (.int .i64 3)).run Tryd.prog w = .ok (.pointer (some ⟨s 3, 0, none⟩)) w := fun w => by kernel_rfl
  refine wp_loop_rounds 5 ?_
  rw [rounds_succ]
  go_wp2_with (fail)
  refine wp_region_held_drew (S := fun _ => True) (by kernel_rfl) trivial (fun hS => ?_)
  refine tI 0 (v := .pointer (some ⟨D, 0, none⟩)) (d := some 13) rfl rfl (fun w' hw => ?_) hS ?_
  · clear hw; go_simp
  try simp only [Act.put, s1, s2, s3]
  refine tI 1 (v := .int .i64 0) (d := some 14) rfl rfl (fun w' hw => ?_) hS ?_
  · clear hw; go_simp
  try simp only [Act.put, s1, s2, s3]
  refine tI 2 (v := .pointer (some ⟨s 0, 0, none⟩)) (d := some 15) rfl rfl (fun w' hw => ?_) hS ?_
  · clear hw; go_simp
  try simp only [Act.put, s1, s2, s3]
  refine tI 4 (v := .pointer (some ⟨D, 0, none⟩)) (d := some 17) rfl rfl (fun w' hw => ?_) hS ?_
  · clear hw; go_simp
  try simp only [Act.put, s1, s2, s3]
  refine tI 5 (v := .pointer (some ⟨D, 0, none⟩)) (d := some 18) rfl rfl (fun w' hw => ?_) hS ?_
  · clear hw; go_simp
  try simp only [Act.put, s1, s2, s3]
  refine tI 6 (v := .pointer (some ⟨D, 2, none⟩)) (d := some 19) rfl rfl (fun w' hw => ?_) hS ?_
  · clear hw; go_simp
  try simp only [Act.put, s1, s2, s3]
  refine r1 3 rfl (fun K hK => ?_)
  obtain ⟨t', P⟩ := HD0.out
  clear hS
  go_simp
  obtain ⟨un, nx, pv, l, g, gl⟩ := (P.d.drewN 1).len 0 (by omega)
  refine (Rin.units_any W0.drew g (by rw [gl]; exact HLN.out 0 (by omega))).mono ?_
  rintro e V ⟨⟨v, rfl, ho⟩, hb⟩
  obtain ⟨x0, rfl, xm, xh, xz⟩ := own_hl ho
  have HX0 : Hid (x0.m = ((U 0).length, fun j => (U 0).getD j 0) ∧ (x0.n = 0 ∨ ∃ g, x0.a = some ⟨g, 0, none⟩)) := ⟨xm, xz⟩
  have HD1 : Hid (∃ t', Du B D s t W0 t' ((b).seth 0 x0) U (V.setCell ⟨D, 2 + 0, none⟩ (.slice x0.a x0.n x0.c))) := (P.drewN 1).seth 0 (by omega) hb x0 xh
  obtain ⟨y1, y2⟩ := ((P.d.drewN 1).later hb).c 2 _ rfl
  clear P hb g gl ho xm xh xz HD0
  simp only [Nat.reduceAdd] at HD1
  go_wp2_with (fail)
  refine hK.out _ _ trivial (fun hS => ?_)
  clear hK K
  try simp only [Act.put, s1, s2, s3]
  refine tI 7 (v := .pointer (some ⟨D, 2, none⟩)) (d := some 20) rfl rfl (fun w' hw => ?_) hS ?_
  · clear hw; go_simp
  try simp only [Act.put, s1, s2, s3]
  refine r1 8 rfl (fun K hK => ?_)
  clear hS
  go_simp
  refine hK.out _ _ trivial (fun hS => ?_)
  clear hK K
  try simp only [Act.put, s1, s2, s3]
  refine wpAnyH_done (by kernel_rfl) ?_ _
  clear hS y1 y2
  generalize V.setCell ⟨D, 2, none⟩ (.slice x0.a x0.n x0.c) = W1 at HD1 ⊢
  go_wp2_with (fail)
  rw [rounds_succ]
  go_wp2_with (fail)
  refine wp_region_held_drew (S := fun _ => True) (by kernel_rfl) trivial (fun hS => ?_)
  refine tI 0 (v := .pointer (some ⟨D, 0, none⟩)) (d := some 13) rfl rfl (fun w' hw => ?_) hS ?_
  · clear hw; go_simp
  try simp only [Act.put, s1, s2, s3]
  refine tI 1 (v := .int .i64 1) (d := some 14) rfl rfl (fun w' hw => ?_) hS ?_
  · clear hw; go_simp
  try simp only [Act.put, s1, s2, s3]
  refine tI 2 (v := .pointer (some ⟨s 1, 0, none⟩)) (d := some 15) rfl rfl (fun w' hw => ?_) hS ?_
  · clear hw; go_simp
  try simp only [Act.put, s1, s2, s3]
  refine tI 4 (v := .pointer (some ⟨D, 0, none⟩)) (d := some 17) rfl rfl (fun w' hw => ?_) hS ?_
  · clear hw; go_simp
  try simp only [Act.put, s1, s2, s3]
  refine tI 5 (v := .pointer (some ⟨D, 0, none⟩)) (d := some 18) rfl rfl (fun w' hw => ?_) hS ?_
  · clear hw; go_simp
  try simp only [Act.put, s1, s2, s3]
  refine tI 6 (v := .pointer (some ⟨D, 2, none⟩)) (d := some 19) rfl rfl (fun w' hw => ?_) hS ?_
  · clear hw; go_simp
  try simp only [Act.put, s1, s2, s3]
  refine r1 3 rfl (fun K hK => ?_)
  obtain ⟨t', P⟩ := HD1.out
  clear hS
  go_simp
  obtain ⟨un, nx, pv, l, g, gl⟩ := (P.d.drewN 1).len 1 (by omega)
  refine (Rin.units_any W1.drew g (by rw [gl]; exact HLN.out 1 (by omega))).mono ?_
  rintro e V ⟨⟨v, rfl, ho⟩, hb⟩
  obtain ⟨x1, rfl, xm, xh, xz⟩ := own_hl ho
  have HX1 : Hid (x1.m = ((U 1).length, fun j => (U 1).getD j 0) ∧ (x1.n = 0 ∨ ∃ g, x1.a = some ⟨g, 0, none⟩)) := ⟨xm, xz⟩
  have HD2 : Hid (∃ t', Du B D s t W0 t' ((((b).seth 0 x0)).seth 1 x1) U (V.setCell ⟨D, 2 + 1, none⟩ (.slice x1.a x1.n x1.c))) := (P.drewN 1).seth 1 (by omega) hb x1 xh
  obtain ⟨y1, y2⟩ := ((P.d.drewN 1).later hb).c 3 _ rfl
  clear P hb g gl ho xm xh xz HD1
  simp only [Nat.reduceAdd] at HD2
  go_wp2_with (fail)
  refine hK.out _ _ trivial (fun hS => ?_)
  clear hK K
  try simp only [Act.put, s1, s2, s3]
  refine tI 7 (v := .pointer (some ⟨D, 3, none⟩)) (d := some 20) rfl rfl (fun w' hw => ?_) hS ?_
  · clear hw; go_simp
  try simp only [Act.put, s1, s2, s3]
  refine r1 8 rfl (fun K hK => ?_)
  clear hS
  go_simp
  refine hK.out _ _ trivial (fun hS => ?_)
  clear hK K
  try simp only [Act.put, s1, s2, s3]
  refine wpAnyH_done (by kernel_rfl) ?_ _
  clear hS y1 y2
  generalize V.setCell ⟨D, 3, none⟩ (.slice x1.a x1.n x1.c) = W2 at HD2 ⊢
  go_wp2_with (fail)
  rw [rounds_succ]
  go_wp2_with (fail)
  refine wp_region_held_drew (S := fun _ => True) (by kernel_rfl) trivial (fun hS => ?_)
  refine tI 0 (v := .pointer (some ⟨D, 0, none⟩)) (d := some 13) rfl rfl (fun w' hw => ?_) hS ?_
  · clear hw; go_simp
  try simp only [Act.put, s1, s2, s3]
  refine tI 1 (v := .int .i64 2) (d := some 14) rfl rfl (fun w' hw => ?_) hS ?_
  · clear hw; go_simp
  try simp only [Act.put, s1, s2, s3]
  refine tI 2 (v := .pointer (some ⟨s 2, 0, none⟩)) (d := some 15) rfl rfl (fun w' hw => ?_) hS ?_
  · clear hw; go_simp
  try simp only [Act.put, s1, s2, s3]
  refine tI 4 (v := .pointer (some ⟨D, 0, none⟩)) (d := some 17) rfl rfl (fun w' hw => ?_) hS ?_
  · clear hw; go_simp
  try simp only [Act.put, s1, s2, s3]
  refine tI 5 (v := .pointer (some ⟨D, 0, none⟩)) (d := some 18) rfl rfl (fun w' hw => ?_) hS ?_
  · clear hw; go_simp
  try simp only [Act.put, s1, s2, s3]
  refine tI 6 (v := .pointer (some ⟨D, 2, none⟩)) (d := some 19) rfl rfl (fun w' hw => ?_) hS ?_
  · clear hw; go_simp
  try simp only [Act.put, s1, s2, s3]
  refine r1 3 rfl (fun K hK => ?_)
  obtain ⟨t', P⟩ := HD2.out
  clear hS
  go_simp
  obtain ⟨un, nx, pv, l, g, gl⟩ := (P.d.drewN 1).len 2 (by omega)
  refine (Rin.units_any W2.drew g (by rw [gl]; exact HLN.out 2 (by omega))).mono ?_
  rintro e V ⟨⟨v, rfl, ho⟩, hb⟩
  obtain ⟨x2, rfl, xm, xh, xz⟩ := own_hl ho
  have HX2 : Hid (x2.m = ((U 2).length, fun j => (U 2).getD j 0) ∧ (x2.n = 0 ∨ ∃ g, x2.a = some ⟨g, 0, none⟩)) := ⟨xm, xz⟩
  have HD3 : Hid (∃ t', Du B D s t W0 t' ((((((b).seth 0 x0)).seth 1 x1)).seth 2 x2) U (V.setCell ⟨D, 2 + 2, none⟩ (.slice x2.a x2.n x2.c))) := (P.drewN 1).seth 2 (by omega) hb x2 xh
  obtain ⟨y1, y2⟩ := ((P.d.drewN 1).later hb).c 4 _ rfl
  clear P hb g gl ho xm xh xz HD2
  simp only [Nat.reduceAdd] at HD3
  go_wp2_with (fail)
  refine hK.out _ _ trivial (fun hS => ?_)
  clear hK K
  try simp only [Act.put, s1, s2, s3]
  refine tI 7 (v := .pointer (some ⟨D, 4, none⟩)) (d := some 20) rfl rfl (fun w' hw => ?_) hS ?_
  · clear hw; go_simp
  try simp only [Act.put, s1, s2, s3]
  refine r1 8 rfl (fun K hK => ?_)
  clear hS
  go_simp
  refine hK.out _ _ trivial (fun hS => ?_)
  clear hK K
  try simp only [Act.put, s1, s2, s3]
  refine wpAnyH_done (by kernel_rfl) ?_ _
  clear hS y1 y2
  generalize V.setCell ⟨D, 4, none⟩ (.slice x2.a x2.n x2.c) = W3 at HD3 ⊢
  go_wp2_with (fail)
  rw [rounds_succ]
  go_wp2_with (fail)
  refine wp_region_held_drew (S := fun _ => True) (by kernel_rfl) trivial (fun hS => ?_)
  refine tI 0 (v := .pointer (some ⟨D, 0, none⟩)) (d := some 13) rfl rfl (fun w' hw => ?_) hS ?_
  · clear hw; go_simp
  try simp only [Act.put, s1, s2, s3]
  refine tI 1 (v := .int .i64 3) (d := some 14) rfl rfl (fun w' hw => ?_) hS ?_
  · clear hw; go_simp
  try simp only [Act.put, s1, s2, s3]
  refine tI 2 (v := .pointer (some ⟨s 3, 0, none⟩)) (d := some 15) rfl rfl (fun w' hw => ?_) hS ?_
  · clear hw; go_simp
  try simp only [Act.put, s1, s2, s3]
  refine tI 4 (v := .pointer (some ⟨D, 0, none⟩)) (d := some 17) rfl rfl (fun w' hw => ?_) hS ?_
  · clear hw; go_simp
  try simp only [Act.put, s1, s2, s3]
  refine tI 5 (v := .pointer (some ⟨D, 0, none⟩)) (d := some 18) rfl rfl (fun w' hw => ?_) hS ?_
  · clear hw; go_simp
  try simp only [Act.put, s1, s2, s3]
  refine tI 6 (v := .pointer (some ⟨D, 2, none⟩)) (d := some 19) rfl rfl (fun w' hw => ?_) hS ?_
  · clear hw; go_simp
  try simp only [Act.put, s1, s2, s3]
  refine r1 3 rfl (fun K hK => ?_)
  obtain ⟨t', P⟩ := HD3.out
  clear hS
  go_simp
  obtain ⟨un, nx, pv, l, g, gl⟩ := (P.d.drewN 1).len 3 (by omega)
  refine (Rin.units_any W3.drew g (by rw [gl]; exact HLN.out 3 (by omega))).mono ?_
  rintro e V ⟨⟨v, rfl, ho⟩, hb⟩
  obtain ⟨x3, rfl, xm, xh, xz⟩ := own_hl ho
  have HX3 : Hid (x3.m = ((U 3).length, fun j => (U 3).getD j 0) ∧ (x3.n = 0 ∨ ∃ g, x3.a = some ⟨g, 0, none⟩)) := ⟨xm, xz⟩
  have HD4 : Hid (∃ t', Du B D s t W0 t' ((((((((b).seth 0 x0)).seth 1 x1)).seth 2 x2)).seth 3 x3) U (V.setCell ⟨D, 2 + 3, none⟩ (.slice x3.a x3.n x3.c))) := (P.drewN 1).seth 3 (by omega) hb x3 xh
  obtain ⟨y1, y2⟩ := ((P.d.drewN 1).later hb).c 5 _ rfl
  clear P hb g gl ho xm xh xz HD3
  simp only [Nat.reduceAdd] at HD4
  go_wp2_with (fail)
  refine hK.out _ _ trivial (fun hS => ?_)
  clear hK K
  try simp only [Act.put, s1, s2, s3]
  refine tI 7 (v := .pointer (some ⟨D, 5, none⟩)) (d := some 20) rfl rfl (fun w' hw => ?_) hS ?_
  · clear hw; go_simp
  try simp only [Act.put, s1, s2, s3]
  refine r1 8 rfl (fun K hK => ?_)
  clear hS
  go_simp
  refine hK.out _ _ trivial (fun hS => ?_)
  clear hK K
  try simp only [Act.put, s1, s2, s3]
  refine wpAnyH_done (by kernel_rfl) ?_ _
  clear hS y1 y2
  generalize V.setCell ⟨D, 5, none⟩ (.slice x3.a x3.n x3.c) = W4 at HD4 ⊢
  go_wp2_with (fail)
  rw [rounds_succ]
  obtain ⟨t', P⟩ := HD4.out
  obtain ⟨c, hc⟩ : ∃ c, c = ((((((((b).seth 0 x0)).seth 1 x1)).seth 2 x2)).seth 3 x3) := ⟨_, rfl⟩
  rw [← hc] at P
  have hbk := P.f.block w.heap.size HZ.out.2.2.2 (by rw [HZ.out.2.1]; simp)
  have ck9 := Ck.same HZ.out.2.2.1 hbk
  have HT : Hid (W4.there w.heap.size 0 9) := there9 ck9
  have HR : Hid (W4.rangeAt D 0 c.cells) := P.d.range
  have HC : Hid (c = ((((((((b).seth 0 x0)).seth 1 x1)).seth 2 x2)).seth 3 x3)) := hc
  have t0 : t' w.heap.size = 0 := by rw [P.a _ HZ.out.2.2.2]; exact HZ.out.2.1
  have HF : Hid (Dr B D s t' c U W4 ∧ Fq (fun i => t i ≠ 0) W0 W4 ∧ t' w.heap.size = 0) := ⟨P.d, P.f, t0⟩
  clear P hc hbk ck9 HD4 t0
  go_wp2_with (first | (refine wpList_load_mid rfl 26 _ rfl D 0 rfl c.cells _ HR.out Tryd.underlying26 rfl (by kernel_rfl) ?_) | (refine wpList_store_mid rfl 26 _ _ rfl w.heap.size 0 c.cells.toArray rfl rfl HT.out (by kernel_rfl) (cells_one _) ?_))
  refine bodyPost_ret (results_cell_mid rfl _ _ w.heap.size 0 _ _ rfl (World.rangeAt_setCells_same _ _ _ _ HT.out) Tryd.underlying26 rfl (by kernel_rfl)) rfl ?_
  have FQ : Fq (fun i => t i ≠ 0) w W4 := (Fq.of (S := fun i => t i ≠ 0) HZ.out.1).trans HF.out.2.1 (fun _ _ q => q)
  have OY : Only w.heap.size (w.heap.size + 1) W4 (W4.setCells w.heap.size 0 c.cells.toArray.toList) := only_setCells (Nat.le_refl _) (by omega) _ _ _ (Only.refl _ _ _)
  refine ⟨c, t', rfl, ?_, HF.out.1.same OY.size (fun i hi => OY.block i (HF.out.1.z i hi).2 ?_), ?_⟩
  · rw [HC.out]
    refine ⟨rfl, rfl, rfl, rfl, rfl, fun k hk => ?_⟩
    obtain rfl | rfl | rfl | rfl : k = 0 ∨ k = 1 ∨ k = 2 ∨ k = 3 := by omega
    · exact HX0.out
    · exact HX1.out
    · exact HX2.out
    · exact HX3.out
  · by_cases e : i = w.heap.size
    · rw [e, HF.out.2.2] at hi; exact absurd rfl hi
    · omega
  · exact ⟨OY.os.trans FQ.os, OY.tape.trans FQ.tape, OY.output.trans FQ.output, Nat.le_trans FQ.size OY.size, fun i hi hn => (OY.block i (Nat.lt_of_lt_of_le hi FQ.size) (.inl hi)).trans (FQ.block i hi hn)⟩
end Go.Proofs.YtbipolfbkemmpaaDoor.Dra
/- The calls of who is in, by the specification. -/
namespace Go.Proofs.YtbipolfbkemmpaaDoor.Book
open Go.ChangeShapes Go.WideShapes Go.ChangeAt Go.RowKit
open Aid Lst
set_option maxRecDepth 100000
set_option linter.unusedVariables false

set_option maxHeartbeats 16000000 in
theorem down2_any (b : Bx) (t B : Nat) (o : Ox) (w : World) (h : b.Hl B w) (hB : B ≤ w.heap.size) (hok : OkP b) (ht : (t : Int) < b.s) (hs : o.s = t) (hi : b.i.f t ≠ 0) (hk : o.k = 2) :
    Calls Tryd.prog 55 #[.agg b.cells.toArray, .agg o.cells.toArray] w fun e w' => Ans3 b B w (OwnQ b o t) e w' := by
  have l1 := hok.1.1.2.1
  have l0 := hok.1.1.1
  have l2 := hok.1.1.2.2.1
  have l3 := hok.1.1.2.2.2.2.1
  have l4 := hok.1.1.2.2.2.2.2.1
  have l5 := hok.1.1.2.2.2.2.2.2
  have S := Dq.start h o 26 28
  obtain ⟨ki, oi, ei, hci⟩ := S.h.at.i.cells (by omega)
  have EI : Hid (b.i.a = some ⟨ki, oi, none⟩) := ei
  have HI : Hid (b.i.f t ≠ 0) := hi
  have HS : Hid (Dq w b B o b _) := S
  obtain ⟨ok, os, oa, ob⟩ := o
  simp only at hs hk
  subst hs hk
  clear S ei hi hci
  simp only [Bx.cells, Ox.cells, z9] at HS ⊢
  have HR : Hid (World.rangeAt _ w.heap.size 0 b.cells) := HS.out.e.range
  go_enter Tryd.func55, Tryd.ntmps55
  go_wp2_with (refine wpList_load_mid rfl 26 _ rfl w.heap.size 0 rfl (b).cells _ HR.out Tryd.underlying26 rfl (by kernel_rfl) ?_)
  refine (dtake_any b t B oa _ HS.out.h (by have := HS.out.z; omega) hok ht).mono ?_
  rintro e w2 ⟨c, x, y, rfl, tp, hh, hf, hl⟩
  have M := HS.out.call hh hf hl
  have TP : Hid (TakP b t oa c x y) := tp
  clear HR tp hh hf hl HS
  have HA : Hid (Ret2 w b B (c) _) := M.anss
  have HT : Hid (World.there _ (w.heap.size + 2) 0 9) := M.theret
  clear M
  go_wp2_with (first | (refine wpList_store_mid rfl 26 _ _ rfl (w.heap.size + 2) 0 (c).cells.toArray rfl rfl HT.out (by kernel_rfl) (cells_one _) ?_))
  exact bodyPost_ret (results_cell_two rfl _ _ (w.heap.size + 2) 0 _ _ rfl HA.out.c Tryd.underlying26 rfl (by kernel_rfl)) rfl (HA.out.ans3 (.inl ⟨rfl, TP.out⟩))

set_option maxHeartbeats 16000000 in
theorem down3_any (b : Bx) (t B : Nat) (o : Ox) (w : World) (h : b.Hl B w) (hB : B ≤ w.heap.size) (hok : OkP b) (ht : (t : Int) < b.s) (hs : o.s = t) (hi : b.i.f t ≠ 0) (hk : o.k = 3) :
    Calls Tryd.prog 55 #[.agg b.cells.toArray, .agg o.cells.toArray] w fun e w' => Ans3 b B w (OwnQ b o t) e w' := by
  have l1 := hok.1.1.2.1
  have l0 := hok.1.1.1
  have l2 := hok.1.1.2.2.1
  have l3 := hok.1.1.2.2.2.2.1
  have l4 := hok.1.1.2.2.2.2.2.1
  have l5 := hok.1.1.2.2.2.2.2.2
  have S := Dq.start h o 26 28
  obtain ⟨ki, oi, ei, hci⟩ := S.h.at.i.cells (by omega)
  have EI : Hid (b.i.a = some ⟨ki, oi, none⟩) := ei
  have HI : Hid (b.i.f t ≠ 0) := hi
  have HS : Hid (Dq w b B o b _) := S
  obtain ⟨ok, os, oa, ob⟩ := o
  simp only at hs hk
  subst hs hk
  clear S ei hi hci
  simp only [Bx.cells, Ox.cells, z9] at HS ⊢
  have HR : Hid (World.rangeAt _ w.heap.size 0 b.cells) := HS.out.e.range
  go_enter Tryd.func55, Tryd.ntmps55
  go_wp2_with (refine wpList_load_mid rfl 26 _ rfl w.heap.size 0 rfl (b).cells _ HR.out Tryd.underlying26 rfl (by kernel_rfl) ?_)
  refine (whose_any b t oa _ HS.out.h.at hok (by omega) (by omega)).mono ?_
  rintro e w1 ⟨⟨r, rfl, hr⟩, hb⟩
  have S1 := HS.out.later hb
  have HS1 : Hid (Dq w b B ⟨3, t, oa, ob⟩ b w1) := S1
  clear hb HR HS
  have HW : Hid (WhoP b t oa r) := hr
  clear hr
  have HR : Hid (World.rangeAt _ w.heap.size 0 b.cells) := S1.e.range
  obtain ⟨q0, q1, q2, q3⟩ := S1.p.four
  simp only at q0 q1 q2 q3
  by_cases r0 : 0 < r
  · clear q0 q1 q2 q3 HR
    have HA : Hid (Ret2 w b B (b) _) := S1.mid.anss
    have HT : Hid (World.there _ (w.heap.size + 2) 0 9) := S1.mid.theret
    have HR : Hid (World.rangeAt _ w.heap.size 0 (b).cells) := S1.e.range
    clear S1
    go_wp2_with (first | (refine wpList_load_mid rfl 26 _ rfl w.heap.size 0 rfl (b).cells _ HR.out Tryd.underlying26 rfl (by kernel_rfl) ?_) | (refine wpList_store_mid rfl 26 _ _ rfl (w.heap.size + 2) 0 (b).cells.toArray rfl rfl HT.out (by kernel_rfl) (cells_one _) ?_))
    exact bodyPost_ret (results_cell_two rfl _ _ (w.heap.size + 2) 0 _ _ rfl HA.out.c Tryd.underlying26 rfl (by kernel_rfl)) rfl (HA.out.ans3 (.inr (.inl ⟨rfl, .inl ⟨r, HW.out, r0, rfl, rfl, rfl⟩⟩)))
  · obtain ⟨g1, g2, g3, g4⟩ : 0 ≤ oa ∧ oa < b.o.n ∧ ¬ b.o.f oa.toNat = 0 ∧ b.o.f oa.toNat = (t : Int) + 1 := by
      have hw := HW.out
      rcases hw with ⟨_, e⟩ | ⟨⟨h1, h2, h3⟩, ⟨_, e⟩ | ⟨h4, _⟩⟩
      · omega
      · omega
      · exact ⟨h1, h2, h3, h4⟩
    have HW0 : Hid (WhoP b t oa 0) := .inr ⟨⟨g1, g2, g3⟩, .inr ⟨g4, rfl⟩⟩
    obtain ⟨A, rfl⟩ : ∃ A : Nat, oa = A := ⟨oa.toNat, by omega⟩
    rw [Int.toNat_natCast] at g4
    have op : Hid (0 < b.o.f A) := by rw [g4]; show (0 : Int) < (t : Int) + 1; omega
    have a1 : A < b.o.n := by omega
    clear g1 g2 g3 g4 S1
    go_wp2_with (refine wpList_load_mid rfl 26 _ rfl w.heap.size 0 rfl (b).cells _ HR.out Tryd.underlying26 rfl (by kernel_rfl) ?_)
    refine (dback_any b A B w1 HS1.out.h (by have := HS1.out.z; omega) hok a1 op.out).mono ?_
    rintro e w2 ⟨c, rfl, bp, hh, hf, hl⟩
    have M := HS1.out.call hh hf hl
    have BP : Hid (BakP b A c) := bp
    clear HR bp hh hf hl q0 q1 q2 q3
    have HA : Hid (Ret2 w b B (c) _) := M.anss
    have HT : Hid (World.there _ (w.heap.size + 2) 0 9) := M.theret
    clear M
    go_wp2_with (first | (refine wpList_store_mid rfl 26 _ _ rfl (w.heap.size + 2) 0 (c).cells.toArray rfl rfl HT.out (by kernel_rfl) (cells_one _) ?_))
    exact bodyPost_ret (results_cell_two rfl _ _ (w.heap.size + 2) 0 _ _ rfl HA.out.c Tryd.underlying26 rfl (by kernel_rfl)) rfl (HA.out.ans3 (.inr (.inl ⟨rfl, .inr ⟨HW0.out, A, rfl, BP.out, rfl, rfl⟩⟩)))

end Go.Proofs.YtbipolfbkemmpaaDoor.Book

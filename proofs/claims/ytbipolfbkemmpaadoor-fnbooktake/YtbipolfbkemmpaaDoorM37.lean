import Derived.Test.YtbipolfbkemmpaaDoorM35
import Derived.Test.YtbipolfbkemmpaaDoorM36

/- The program's bookDraftOf. -/
namespace Go.Proofs.YtbipolfbkemmpaaDoor.Dra
open Go.ChangeShapes Go.WideShapes Go.ChangeAt Go.RowKit
open Aid Lst Book Rin
set_option maxRecDepth 100000
set_option linter.unusedVariables false
theorem bdrew {B : Nat} {w w1 : World} (h : Below B w w1) : Below B w w1.drew := ⟨h.os, h.tape, h.output, h.size, h.block⟩
def Zo (c : Bx) : Prop := ∀ x ∈ c.lists, x.n = 0 ∨ ∃ k, x.a = some ⟨k, 0, none⟩
def hU (b : Bx) : Nat → List Int := fun k => rowU (b.hd k).f (b.hd k).n

set_option maxHeartbeats 16000000 in
theorem draft_any (b : Bx) (w : World) (h : b.At w) (hn : b.total ≤ 1000) (hnil : ∀ x ∈ b.lists, x.a = none → x.n = 0) :
    Calls Tryd.prog 27 #[.agg b.cells.toArray] w fun e w' => ∃ D s t c, e = .returned (.pointer (some ⟨D, 0, none⟩)) ∧ c.m = b.m ∧ Zo c ∧ Dr w.heap.size D s t c (hU b) w' ∧ Below w.heap.size w w' := by
  have E : Ent w b (w.alloc (.cells #[.int .i64 b.s, .slice b.p.a b.p.n b.p.c, .slice b.h0.a b.h0.n b.h0.c, .slice b.h1.a b.h1.n b.h1.c, .slice b.h2.a b.h2.n b.h2.c, .slice b.h3.a b.h3.n b.h3.c, .slice b.o.a b.o.n b.o.c, .slice b.i.a b.i.n b.i.c, .slice b.e.a b.e.n b.e.c] 26)) := Ent.start h 26
  have HE : Hid (Ent w b _) := E
  have HR : Hid (World.rangeAt _ w.heap.size 0 b.cells) := E.r
  have HN : Hid (b.h0.n ≤ 1000 ∧ b.h1.n ≤ 1000 ∧ b.h2.n ≤ 1000 ∧ b.h3.n ≤ 1000) := by unfold Bx.total at hn; exact ⟨by omega, by omega, by omega, by omega⟩
  clear E
  simp only [Bx.cells]
  go_enter Tryd.func27, Tryd.ntmps27
  go_wp2_with (refine wpList_load_mid rfl 26 _ rfl w.heap.size 0 rfl b.cells _ HR.out Tryd.underlying26 rfl (by kernel_rfl) ?_)
  refine (copy_cap b _ HE.out.a (by omega) hnil).mono ?_
  rintro e w1 ⟨c, rfl, cm, co, hb, cc⟩
  have E1 : Ent w b w1 := HE.out.later hb
  have HE1 : Hid (Ent w b w1) := E1
  obtain ⟨-, -, u2, u3, u4, u5, -, -, -⟩ := nine E1.r
  have z1 := E1.lt
  have HC : Hid (c.m = b.m ∧ Zo c) := ⟨cm, fun x hx => by
    rcases co.each x hx with q | ⟨k, e, _⟩
    · exact .inl q
    · exact .inr ⟨k, e⟩⟩
  obtain ⟨t0, P0⟩ := Dp.start (w0 := w) (w := w1) (U := hU b) (C := w1.heap.size) ⟨fun x hx => by
    rcases co.each x hx with q | ⟨k, e, h1, h2, h3⟩
    · exact .inl q
    · exact .inr ⟨k, e, Nat.le_trans (by simp) h1, h2, h3⟩, co.apart, co.caps⟩ cc (Nat.le_refl _) E1.b 68
  have HP0 : Hid (∃ s t, Dp w w1.heap.size s t 0 c (hU b) _) := ⟨_, t0, P0⟩
  clear E1 hb cm co cc P0 HE HR
  have x2 : (w1.alloc (.cells (c.cells ++ rpm (fun _ => 0) 0).toArray 68)).cell? ⟨w.heap.size, 2, none⟩ = some (.slice b.h0.a b.h0.n b.h0.c) := by rw [World.cell?_alloc_lt _ _ _ z1]; exact u2
  have x3 : (w1.alloc (.cells (c.cells ++ rpm (fun _ => 0) 0).toArray 68)).cell? ⟨w.heap.size, 3, none⟩ = some (.slice b.h1.a b.h1.n b.h1.c) := by rw [World.cell?_alloc_lt _ _ _ z1]; exact u3
  have x4 : (w1.alloc (.cells (c.cells ++ rpm (fun _ => 0) 0).toArray 68)).cell? ⟨w.heap.size, 4, none⟩ = some (.slice b.h2.a b.h2.n b.h2.c) := by rw [World.cell?_alloc_lt _ _ _ z1]; exact u4
  have x5 : (w1.alloc (.cells (c.cells ++ rpm (fun _ => 0) 0).toArray 68)).cell? ⟨w.heap.size, 5, none⟩ = some (.slice b.h3.a b.h3.n b.h3.c) := by rw [World.cell?_alloc_lt _ _ _ z1]; exact u5
  have HBL : Hid (Below w1.heap.size w1 (w1.alloc (.cells (c.cells ++ rpm (fun _ => 0) 0).toArray 68))) := below1 w1 _
  simp only [Bx.cells, rpm, List.cons_append, List.nil_append, Nat.lt_irrefl, if_false, show ¬ (1 : Nat) < 0 by omega, show ¬ (2 : Nat) < 0 by omega, show ¬ (3 : Nat) < 0 by omega] at x2 x3 x4 x5 HP0 HBL ⊢
  clear u2 u3 u4 u5
  go_wp2_with (fail)
  clear x2 x3 x4 x5
  generalize w1.alloc (.cells #[.int .i64 c.s, .slice c.p.a c.p.n c.p.c, .slice c.h0.a c.h0.n c.h0.c, .slice c.h1.a c.h1.n c.h1.c, .slice c.h2.a c.h2.n c.h2.c, .slice c.h3.a c.h3.n c.h3.c, .slice c.o.a c.o.n c.o.c, .slice c.i.a c.i.n c.i.c, .slice c.e.a c.e.n c.e.c, .pointer none, .pointer none, .pointer none, .pointer none] 68) = W0 at HP0 HBL ⊢
  have HB0 : Hid (Below w1.heap.size w1 W0) := HBL
  clear HBL
  have ix0 : ∀ w : World, (Instr.index 24 (.agg #[.slice b.h0.a b.h0.n b.h0.c, .slice b.h1.a b.h1.n b.h1.c, .slice b.h2.a b.h2.n b.h2.c, .slice b.h3.a b.h3.n b.h3.c]) (.int .i64 0)).run Tryd.prog w = .ok (.slice b.h0.a b.h0.n b.h0.c) w := fun w => by kernel_rfl
  have ix1 : ∀ w : World, (Instr.index 24 (.agg #[.slice b.h0.a b.h0.n b.h0.c, .slice b.h1.a b.h1.n b.h1.c, .slice b.h2.a b.h2.n b.h2.c, .slice b.h3.a b.h3.n b.h3.c]) (.int .i64 1)).run Tryd.prog w = .ok (.slice b.h1.a b.h1.n b.h1.c) w := fun w => by kernel_rfl
  have ix2 : ∀ w : World, (Instr.index 24 (.agg #[.slice b.h0.a b.h0.n b.h0.c, .slice b.h1.a b.h1.n b.h1.c, .slice b.h2.a b.h2.n b.h2.c, .slice b.h3.a b.h3.n b.h3.c]) (.int .i64 2)).run Tryd.prog w = .ok (.slice b.h2.a b.h2.n b.h2.c) w := fun w => by kernel_rfl
  have ix3 : ∀ w : World, (Instr.index 24 (.agg #[.slice b.h0.a b.h0.n b.h0.c, .slice b.h1.a b.h1.n b.h1.c, .slice b.h2.a b.h2.n b.h2.c, .slice b.h3.a b.h3.n b.h3.c]) (.int .i64 3)).run Tryd.prog w = .ok (.slice b.h3.a b.h3.n b.h3.c) w := fun w => by kernel_rfl
  refine wp_loop_rounds 5 ?_
  rw [rounds_succ]
  go_wp2_with (fail)
  refine wp_region_held_drew (S := fun _ => True) (by kernel_rfl) trivial (fun hS => ?_)
  refine tI 0 (v := .pointer (some ⟨w1.heap.size, 0, none⟩)) (d := some 16) rfl rfl (fun w' hw => ?_) hS ?_
  · clear hw; go_simp
  try simp only [Act.put, s1, s2, s3]
  refine tI 1 (v := .int .i64 0) (d := some 17) rfl rfl (fun w' hw => ?_) hS ?_
  · clear hw; go_simp
  try simp only [Act.put, s1, s2, s3]
  refine tI 2 (v := .slice b.h0.a b.h0.n b.h0.c) (d := some 18) rfl rfl (fun w' hw => ?_) hS ?_
  · clear hw; go_simp
  try simp only [Act.put, s1, s2, s3]
  refine tI 4 (v := .pointer (some ⟨w1.heap.size, 0, none⟩)) (d := some 20) rfl rfl (fun w' hw => ?_) hS ?_
  · clear hw; go_simp
  try simp only [Act.put, s1, s2, s3]
  refine tI 5 (v := .pointer (some ⟨w1.heap.size, 9, none⟩)) (d := some 21) rfl rfl (fun w' hw => ?_) hS ?_
  · clear hw; go_simp
  try simp only [Act.put, s1, s2, s3]
  refine r1 3 rfl (fun K hK => ?_)
  obtain ⟨s, t, P⟩ := HP0.out
  clear hS
  go_simp
  refine (ringof_any b.h0.a b.h0.n b.h0.c b.h0.f _ ((HE1.out.a.later (bdrew HB0.out)) b.h0 (by simp [Bx.lists])) (by have := HN.out; omega)).mono ?_
  rintro e V ⟨rfl, ⟨un, nx, pv, l, g⟩, hb, hz⟩
  have P' := P.later (w1 := W0.drew) ⟨rfl, rfl, rfl, Nat.le_refl _, fun _ _ => rfl⟩
  obtain ⟨y1, y2⟩ := (P'.later hb).at (by omega)
  have HP1 : Hid (∃ s t, Dp w w1.heap.size s t 1 c (hU b) (V.setCell ⟨w1.heap.size, 9 + 0, none⟩ (.pointer (some ⟨W0.heap.size, 0, none⟩)))) := P'.step (by omega) hb g
  have HB1 : Hid (Below w1.heap.size w1 (V.setCell ⟨w1.heap.size, 9 + 0, none⟩ (.pointer (some ⟨W0.heap.size, 0, none⟩)))) := ((bdrew HB0.out).trans (hb.mono (bdrew HB0.out).size)).setCell (p := ⟨w1.heap.size, 9 + 0, none⟩) (Nat.le_refl _) _
  clear P P' hb g hz HP0 HB0
  simp only [Nat.reduceAdd] at y1 y2 HP1 HB1
  go_wp2_with (fail)
  refine hK.out _ _ trivial (fun hS => ?_)
  clear hK K
  try simp only [Act.put, s1, s2, s3]
  refine tI 6 (v := .pointer (some ⟨w1.heap.size, 9, none⟩)) (d := some 22) rfl rfl (fun w' hw => ?_) hS ?_
  · clear hw; go_simp
  try simp only [Act.put, s1, s2, s3]
  refine r1 7 rfl (fun K hK => ?_)
  clear hS
  go_simp
  refine hK.out _ _ trivial (fun hS => ?_)
  clear hK K
  try simp only [Act.put, s1, s2, s3]
  refine wpAnyH_done (by kernel_rfl) ?_ _
  clear hS y1 y2
  generalize V.setCell ⟨w1.heap.size, 9, none⟩ (.pointer (some ⟨W0.heap.size, 0, none⟩)) = W1 at HP1 HB1 ⊢
  go_wp2_with (fail)
  rw [rounds_succ]
  go_wp2_with (fail)
  refine wp_region_held_drew (S := fun _ => True) (by kernel_rfl) trivial (fun hS => ?_)
  refine tI 0 (v := .pointer (some ⟨w1.heap.size, 0, none⟩)) (d := some 16) rfl rfl (fun w' hw => ?_) hS ?_
  · clear hw; go_simp
  try simp only [Act.put, s1, s2, s3]
  refine tI 1 (v := .int .i64 1) (d := some 17) rfl rfl (fun w' hw => ?_) hS ?_
  · clear hw; go_simp
  try simp only [Act.put, s1, s2, s3]
  refine tI 2 (v := .slice b.h1.a b.h1.n b.h1.c) (d := some 18) rfl rfl (fun w' hw => ?_) hS ?_
  · clear hw; go_simp
  try simp only [Act.put, s1, s2, s3]
  refine tI 4 (v := .pointer (some ⟨w1.heap.size, 0, none⟩)) (d := some 20) rfl rfl (fun w' hw => ?_) hS ?_
  · clear hw; go_simp
  try simp only [Act.put, s1, s2, s3]
  refine tI 5 (v := .pointer (some ⟨w1.heap.size, 9, none⟩)) (d := some 21) rfl rfl (fun w' hw => ?_) hS ?_
  · clear hw; go_simp
  try simp only [Act.put, s1, s2, s3]
  refine r1 3 rfl (fun K hK => ?_)
  obtain ⟨s, t, P⟩ := HP1.out
  clear hS
  go_simp
  refine (ringof_any b.h1.a b.h1.n b.h1.c b.h1.f _ ((HE1.out.a.later (bdrew HB1.out)) b.h1 (by simp [Bx.lists])) (by have := HN.out; omega)).mono ?_
  rintro e V ⟨rfl, ⟨un, nx, pv, l, g⟩, hb, hz⟩
  have P' := P.later (w1 := W1.drew) ⟨rfl, rfl, rfl, Nat.le_refl _, fun _ _ => rfl⟩
  obtain ⟨y1, y2⟩ := (P'.later hb).at (by omega)
  have HP2 : Hid (∃ s t, Dp w w1.heap.size s t 2 c (hU b) (V.setCell ⟨w1.heap.size, 9 + 1, none⟩ (.pointer (some ⟨W1.heap.size, 0, none⟩)))) := P'.step (by omega) hb g
  have HB2 : Hid (Below w1.heap.size w1 (V.setCell ⟨w1.heap.size, 9 + 1, none⟩ (.pointer (some ⟨W1.heap.size, 0, none⟩)))) := ((bdrew HB1.out).trans (hb.mono (bdrew HB1.out).size)).setCell (p := ⟨w1.heap.size, 9 + 1, none⟩) (Nat.le_refl _) _
  clear P P' hb g hz HP1 HB1
  simp only [Nat.reduceAdd] at y1 y2 HP2 HB2
  go_wp2_with (fail)
  refine hK.out _ _ trivial (fun hS => ?_)
  clear hK K
  try simp only [Act.put, s1, s2, s3]
  refine tI 6 (v := .pointer (some ⟨w1.heap.size, 10, none⟩)) (d := some 22) rfl rfl (fun w' hw => ?_) hS ?_
  · clear hw; go_simp
  try simp only [Act.put, s1, s2, s3]
  refine r1 7 rfl (fun K hK => ?_)
  clear hS
  go_simp
  refine hK.out _ _ trivial (fun hS => ?_)
  clear hK K
  try simp only [Act.put, s1, s2, s3]
  refine wpAnyH_done (by kernel_rfl) ?_ _
  clear hS y1 y2
  generalize V.setCell ⟨w1.heap.size, 10, none⟩ (.pointer (some ⟨W1.heap.size, 0, none⟩)) = W2 at HP2 HB2 ⊢
  go_wp2_with (fail)
  rw [rounds_succ]
  go_wp2_with (fail)
  refine wp_region_held_drew (S := fun _ => True) (by kernel_rfl) trivial (fun hS => ?_)
  refine tI 0 (v := .pointer (some ⟨w1.heap.size, 0, none⟩)) (d := some 16) rfl rfl (fun w' hw => ?_) hS ?_
  · clear hw; go_simp
  try simp only [Act.put, s1, s2, s3]
  refine tI 1 (v := .int .i64 2) (d := some 17) rfl rfl (fun w' hw => ?_) hS ?_
  · clear hw; go_simp
  try simp only [Act.put, s1, s2, s3]
  refine tI 2 (v := .slice b.h2.a b.h2.n b.h2.c) (d := some 18) rfl rfl (fun w' hw => ?_) hS ?_
  · clear hw; go_simp
  try simp only [Act.put, s1, s2, s3]
  refine tI 4 (v := .pointer (some ⟨w1.heap.size, 0, none⟩)) (d := some 20) rfl rfl (fun w' hw => ?_) hS ?_
  · clear hw; go_simp
  try simp only [Act.put, s1, s2, s3]
  refine tI 5 (v := .pointer (some ⟨w1.heap.size, 9, none⟩)) (d := some 21) rfl rfl (fun w' hw => ?_) hS ?_
  · clear hw; go_simp
  try simp only [Act.put, s1, s2, s3]
  refine r1 3 rfl (fun K hK => ?_)
  obtain ⟨s, t, P⟩ := HP2.out
  clear hS
  go_simp
  refine (ringof_any b.h2.a b.h2.n b.h2.c b.h2.f _ ((HE1.out.a.later (bdrew HB2.out)) b.h2 (by simp [Bx.lists])) (by have := HN.out; omega)).mono ?_
  rintro e V ⟨rfl, ⟨un, nx, pv, l, g⟩, hb, hz⟩
  have P' := P.later (w1 := W2.drew) ⟨rfl, rfl, rfl, Nat.le_refl _, fun _ _ => rfl⟩
  obtain ⟨y1, y2⟩ := (P'.later hb).at (by omega)
  have HP3 : Hid (∃ s t, Dp w w1.heap.size s t 3 c (hU b) (V.setCell ⟨w1.heap.size, 9 + 2, none⟩ (.pointer (some ⟨W2.heap.size, 0, none⟩)))) := P'.step (by omega) hb g
  have HB3 : Hid (Below w1.heap.size w1 (V.setCell ⟨w1.heap.size, 9 + 2, none⟩ (.pointer (some ⟨W2.heap.size, 0, none⟩)))) := ((bdrew HB2.out).trans (hb.mono (bdrew HB2.out).size)).setCell (p := ⟨w1.heap.size, 9 + 2, none⟩) (Nat.le_refl _) _
  clear P P' hb g hz HP2 HB2
  simp only [Nat.reduceAdd] at y1 y2 HP3 HB3
  go_wp2_with (fail)
  refine hK.out _ _ trivial (fun hS => ?_)
  clear hK K
  try simp only [Act.put, s1, s2, s3]
  refine tI 6 (v := .pointer (some ⟨w1.heap.size, 11, none⟩)) (d := some 22) rfl rfl (fun w' hw => ?_) hS ?_
  · clear hw; go_simp
  try simp only [Act.put, s1, s2, s3]
  refine r1 7 rfl (fun K hK => ?_)
  clear hS
  go_simp
  refine hK.out _ _ trivial (fun hS => ?_)
  clear hK K
  try simp only [Act.put, s1, s2, s3]
  refine wpAnyH_done (by kernel_rfl) ?_ _
  clear hS y1 y2
  generalize V.setCell ⟨w1.heap.size, 11, none⟩ (.pointer (some ⟨W2.heap.size, 0, none⟩)) = W3 at HP3 HB3 ⊢
  go_wp2_with (fail)
  rw [rounds_succ]
  go_wp2_with (fail)
  refine wp_region_held_drew (S := fun _ => True) (by kernel_rfl) trivial (fun hS => ?_)
  refine tI 0 (v := .pointer (some ⟨w1.heap.size, 0, none⟩)) (d := some 16) rfl rfl (fun w' hw => ?_) hS ?_
  · clear hw; go_simp
  try simp only [Act.put, s1, s2, s3]
  refine tI 1 (v := .int .i64 3) (d := some 17) rfl rfl (fun w' hw => ?_) hS ?_
  · clear hw; go_simp
  try simp only [Act.put, s1, s2, s3]
  refine tI 2 (v := .slice b.h3.a b.h3.n b.h3.c) (d := some 18) rfl rfl (fun w' hw => ?_) hS ?_
  · clear hw; go_simp
  try simp only [Act.put, s1, s2, s3]
  refine tI 4 (v := .pointer (some ⟨w1.heap.size, 0, none⟩)) (d := some 20) rfl rfl (fun w' hw => ?_) hS ?_
  · clear hw; go_simp
  try simp only [Act.put, s1, s2, s3]
  refine tI 5 (v := .pointer (some ⟨w1.heap.size, 9, none⟩)) (d := some 21) rfl rfl (fun w' hw => ?_) hS ?_
  · clear hw; go_simp
  try simp only [Act.put, s1, s2, s3]
  refine r1 3 rfl (fun K hK => ?_)
  obtain ⟨s, t, P⟩ := HP3.out
  clear hS
  go_simp
  refine (ringof_any b.h3.a b.h3.n b.h3.c b.h3.f _ ((HE1.out.a.later (bdrew HB3.out)) b.h3 (by simp [Bx.lists])) (by have := HN.out; omega)).mono ?_
  rintro e V ⟨rfl, ⟨un, nx, pv, l, g⟩, hb, hz⟩
  have P' := P.later (w1 := W3.drew) ⟨rfl, rfl, rfl, Nat.le_refl _, fun _ _ => rfl⟩
  obtain ⟨y1, y2⟩ := (P'.later hb).at (by omega)
  have HP4 : Hid (∃ s t, Dp w w1.heap.size s t 4 c (hU b) (V.setCell ⟨w1.heap.size, 9 + 3, none⟩ (.pointer (some ⟨W3.heap.size, 0, none⟩)))) := P'.step (by omega) hb g
  have HB4 : Hid (Below w1.heap.size w1 (V.setCell ⟨w1.heap.size, 9 + 3, none⟩ (.pointer (some ⟨W3.heap.size, 0, none⟩)))) := ((bdrew HB3.out).trans (hb.mono (bdrew HB3.out).size)).setCell (p := ⟨w1.heap.size, 9 + 3, none⟩) (Nat.le_refl _) _
  clear P P' hb g hz HP3 HB3
  simp only [Nat.reduceAdd] at y1 y2 HP4 HB4
  go_wp2_with (fail)
  refine hK.out _ _ trivial (fun hS => ?_)
  clear hK K
  try simp only [Act.put, s1, s2, s3]
  refine tI 6 (v := .pointer (some ⟨w1.heap.size, 12, none⟩)) (d := some 22) rfl rfl (fun w' hw => ?_) hS ?_
  · clear hw; go_simp
  try simp only [Act.put, s1, s2, s3]
  refine r1 7 rfl (fun K hK => ?_)
  clear hS
  go_simp
  refine hK.out _ _ trivial (fun hS => ?_)
  clear hK K
  try simp only [Act.put, s1, s2, s3]
  refine wpAnyH_done (by kernel_rfl) ?_ _
  clear hS y1 y2
  generalize V.setCell ⟨w1.heap.size, 12, none⟩ (.pointer (some ⟨W3.heap.size, 0, none⟩)) = W4 at HP4 HB4 ⊢
  go_wp2_with (fail)
  rw [rounds_succ]
  go_wp2_with (fail)
  refine bodyPost_ret (v := .pointer (some ⟨w1.heap.size, 0, none⟩)) (by simp [results]) rfl ?_
  obtain ⟨s, t, P⟩ := HP4.out
  exact ⟨w1.heap.size, s, t, c, rfl, HC.out.1, HC.out.2, P.dr, P.b⟩
end Go.Proofs.YtbipolfbkemmpaaDoor.Dra

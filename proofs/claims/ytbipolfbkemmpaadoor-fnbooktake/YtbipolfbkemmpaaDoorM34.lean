import Derived.Test.YtbipolfbkemmpaaDoorM3
import Derived.Test.YtbipolfbkemmpaaDoorM33

/- BookOpen, of the specification. -/
namespace Go.Proofs.YtbipolfbkemmpaaDoor.Book
open Go.ChangeShapes Go.WideShapes Go.ChangeAt Go.RowKit
open Aid Lst
set_option maxRecDepth 100000
set_option linter.unusedVariables false

def nilL : Nat × (Nat → Int) := (0, fun _ => 0)
def openM (s p l : Int) : Bm := if Plat.okB s p l = true then ⟨s, (p.toNat, fun _ => 0), nilL, nilL, nilL, nilL, (p.toNat * 8, fun _ => 0), (s.toNat, fun _ => 0), (s.toNat, fun _ => 0)⟩ else ⟨0, nilL, nilL, nilL, nilL, nilL, nilL, nilL, nilL⟩

/- What the making of a book rests on: the house, and where the answer will lie. -/
structure OS (w0 : World) (s p l : Int) (w : World) : Prop where
  r : w.rangeAt w0.heap.size 0 [.int .i64 s, .int .i64 p, .int .i64 l]
  t : ∃ c0 c1 c2 c3 c4 c5 c6 c7 c8, Ck w (w0.heap.size + 1) [c0, c1, c2, c3, c4, c5, c6, c7, c8]
  b : Below w0.heap.size w0 w
  z : w0.heap.size + 2 ≤ w.heap.size
theorem OS.later {w0 w w1 : World} {s p l : Int} (h : OS w0 s p l w) (hb : Below w.heap.size w w1) : OS w0 s p l w1 :=
  ⟨range_below hb h.r (by have := h.z; omega), by obtain ⟨c0, c1, c2, c3, c4, c5, c6, c7, c8, ht⟩ := h.t; exact ⟨c0, c1, c2, c3, c4, c5, c6, c7, c8, ht.below hb (by have := h.z; omega)⟩, h.b.trans (hb.mono h.b.size), Nat.le_trans h.z hb.size⟩
theorem OS.drew {w0 w : World} {s p l : Int} (h : OS w0 s p l w) : OS w0 s p l w.drew := ⟨h.r, h.t, ⟨h.b.os, h.b.tape, h.b.output, h.b.size, h.b.block⟩, h.z⟩
theorem OS.put {w0 w : World} {s p l : Int} (h : OS w0 s p l w) (v0 v1 v2 v3 v4 v5 v6 v7 v8 : Value) : OS w0 s p l (((((((((w.setCell ⟨w0.heap.size + 1, 0, none⟩ v0).setCell ⟨w0.heap.size + 1, 1, none⟩ v1).setCell ⟨w0.heap.size + 1, 2, none⟩ v2).setCell ⟨w0.heap.size + 1, 3, none⟩ v3).setCell ⟨w0.heap.size + 1, 4, none⟩ v4).setCell ⟨w0.heap.size + 1, 5, none⟩ v5).setCell ⟨w0.heap.size + 1, 6, none⟩ v6).setCell ⟨w0.heap.size + 1, 7, none⟩ v7).setCell ⟨w0.heap.size + 1, 8, none⟩ v8) ∧ Ck (((((((((w.setCell ⟨w0.heap.size + 1, 0, none⟩ v0).setCell ⟨w0.heap.size + 1, 1, none⟩ v1).setCell ⟨w0.heap.size + 1, 2, none⟩ v2).setCell ⟨w0.heap.size + 1, 3, none⟩ v3).setCell ⟨w0.heap.size + 1, 4, none⟩ v4).setCell ⟨w0.heap.size + 1, 5, none⟩ v5).setCell ⟨w0.heap.size + 1, 6, none⟩ v6).setCell ⟨w0.heap.size + 1, 7, none⟩ v7).setCell ⟨w0.heap.size + 1, 8, none⟩ v8) (w0.heap.size + 1) [v0, v1, v2, v3, v4, v5, v6, v7, v8] ∧ Only (w0.heap.size + 1) (w0.heap.size + 2) w (((((((((w.setCell ⟨w0.heap.size + 1, 0, none⟩ v0).setCell ⟨w0.heap.size + 1, 1, none⟩ v1).setCell ⟨w0.heap.size + 1, 2, none⟩ v2).setCell ⟨w0.heap.size + 1, 3, none⟩ v3).setCell ⟨w0.heap.size + 1, 4, none⟩ v4).setCell ⟨w0.heap.size + 1, 5, none⟩ v5).setCell ⟨w0.heap.size + 1, 6, none⟩ v6).setCell ⟨w0.heap.size + 1, 7, none⟩ v7).setCell ⟨w0.heap.size + 1, 8, none⟩ v8) := by
  obtain ⟨c0, c1, c2, c3, c4, c5, c6, c7, c8, ht⟩ := h.t
  have hk : Ck (((((((((w.setCell ⟨w0.heap.size + 1, 0, none⟩ v0).setCell ⟨w0.heap.size + 1, 1, none⟩ v1).setCell ⟨w0.heap.size + 1, 2, none⟩ v2).setCell ⟨w0.heap.size + 1, 3, none⟩ v3).setCell ⟨w0.heap.size + 1, 4, none⟩ v4).setCell ⟨w0.heap.size + 1, 5, none⟩ v5).setCell ⟨w0.heap.size + 1, 6, none⟩ v6).setCell ⟨w0.heap.size + 1, 7, none⟩ v7).setCell ⟨w0.heap.size + 1, 8, none⟩ v8) (w0.heap.size + 1) [v0, v1, v2, v3, v4, v5, v6, v7, v8] := (((((((((ht.set 0 v0).set 1 v1).set 2 v2).set 3 v3).set 4 v4).set 5 v5).set 6 v6).set 7 v7).set 8 v8)
  have ho : Only (w0.heap.size + 1) (w0.heap.size + 2) w (((((((((w.setCell ⟨w0.heap.size + 1, 0, none⟩ v0).setCell ⟨w0.heap.size + 1, 1, none⟩ v1).setCell ⟨w0.heap.size + 1, 2, none⟩ v2).setCell ⟨w0.heap.size + 1, 3, none⟩ v3).setCell ⟨w0.heap.size + 1, 4, none⟩ v4).setCell ⟨w0.heap.size + 1, 5, none⟩ v5).setCell ⟨w0.heap.size + 1, 6, none⟩ v6).setCell ⟨w0.heap.size + 1, 7, none⟩ v7).setCell ⟨w0.heap.size + 1, 8, none⟩ v8) := ((((((((((Only.refl (w0.heap.size + 1) (w0.heap.size + 2) w).setCell (w0.heap.size + 1) 0 (Nat.le_refl _) (by omega) v0).setCell (w0.heap.size + 1) 1 (Nat.le_refl _) (by omega) v1).setCell (w0.heap.size + 1) 2 (Nat.le_refl _) (by omega) v2).setCell (w0.heap.size + 1) 3 (Nat.le_refl _) (by omega) v3).setCell (w0.heap.size + 1) 4 (Nat.le_refl _) (by omega) v4).setCell (w0.heap.size + 1) 5 (Nat.le_refl _) (by omega) v5).setCell (w0.heap.size + 1) 6 (Nat.le_refl _) (by omega) v6).setCell (w0.heap.size + 1) 7 (Nat.le_refl _) (by omega) v7).setCell (w0.heap.size + 1) 8 (Nat.le_refl _) (by omega) v8)
  have hz := h.z
  refine ⟨⟨fun j x hx => ?_, ⟨_, _, _, _, _, _, _, _, _, hk⟩, h.b.trans (ho.below (by omega) |>.mono (by omega)), Nat.le_trans h.z ho.size⟩, hk, ho⟩
  rw [ho.cell (by omega) (.inl (by omega))]; exact h.r j x hx
def Bx.Tight (b : Bx) : Prop := ∀ x ∈ b.lists, x.c = x.n
theorem own_nil (B C : Nat) (w : World) : (⟨0, ⟨none, 0, 0, fun _ => 0⟩, ⟨none, 0, 0, fun _ => 0⟩, ⟨none, 0, 0, fun _ => 0⟩, ⟨none, 0, 0, fun _ => 0⟩, ⟨none, 0, 0, fun _ => 0⟩, ⟨none, 0, 0, fun _ => 0⟩, ⟨none, 0, 0, fun _ => 0⟩, ⟨none, 0, 0, fun _ => 0⟩⟩ : Bx).Own B C w := by
  refine ⟨?_, ?_, ?_⟩
  · simp only [Bx.lists, List.forall_mem_cons, List.not_mem_nil, false_implies, implies_true, and_true]
    exact ⟨.inl rfl, .inl rfl, .inl rfl, .inl rfl, .inl rfl, .inl rfl, .inl rfl, .inl rfl⟩
  · simp only [Bx.lists, List.pairwise_cons, List.forall_mem_cons, List.not_mem_nil, false_implies, implies_true, and_true, List.Pairwise.nil]
    refine ⟨⟨?_, ?_, ?_, ?_, ?_, ?_, ?_⟩, ⟨?_, ?_, ?_, ?_, ?_, ?_⟩, ⟨?_, ?_, ?_, ?_, ?_⟩, ⟨?_, ?_, ?_, ?_⟩, ⟨?_, ?_, ?_⟩, ⟨?_, ?_⟩, ?_⟩
    all_goals exact .inl rfl
  · simp only [Bx.lists, List.forall_mem_cons, List.not_mem_nil, false_implies, implies_true, and_true]
    exact ⟨Nat.le_refl _, Nat.le_refl _, Nat.le_refl _, Nat.le_refl _, Nat.le_refl _, Nat.le_refl _, Nat.le_refl _, Nat.le_refl _⟩
theorem own_open (s : Int) (a c d kp ko ki ke B C : Nat) (w : World) (h1 : B ≤ kp) (h2 : B ≤ ko) (h3 : B ≤ ki) (h4 : B ≤ ke) (g1 : kp < C) (g2 : ko < C) (g3 : ki < C) (g4 : ke < C) (e1 : kp ≠ ko) (e2 : kp ≠ ki) (e3 : kp ≠ ke) (e4 : ko ≠ ki) (e5 : ko ≠ ke) (e6 : ki ≠ ke)
    (fp : Fk .i64 c w kp (fun _ => 0)) (fo : Fk .i64 d w ko (fun _ => 0)) (fi : Fk .i64 a w ki (fun _ => 0)) (fe : Fk .i64 a w ke (fun _ => 0)) :
    (⟨s, ⟨some ⟨kp, 0, none⟩, c, c, fun _ => 0⟩, ⟨none, 0, 0, fun _ => 0⟩, ⟨none, 0, 0, fun _ => 0⟩, ⟨none, 0, 0, fun _ => 0⟩, ⟨none, 0, 0, fun _ => 0⟩, ⟨some ⟨ko, 0, none⟩, d, d, fun _ => 0⟩, ⟨some ⟨ki, 0, none⟩, a, a, fun _ => 0⟩, ⟨some ⟨ke, 0, none⟩, a, a, fun _ => 0⟩⟩ : Bx).Own B C w := by
  refine ⟨?_, ?_, ?_⟩
  · simp only [Bx.lists, List.forall_mem_cons, List.not_mem_nil, false_implies, implies_true, and_true]
    exact ⟨.inr ⟨kp, rfl, h1, g1, fp⟩, .inl rfl, .inl rfl, .inl rfl, .inl rfl, .inr ⟨ko, rfl, h2, g2, fo⟩, .inr ⟨ki, rfl, h3, g3, fi⟩, .inr ⟨ke, rfl, h4, g4, fe⟩⟩
  · simp only [Bx.lists, List.pairwise_cons, List.forall_mem_cons, List.not_mem_nil, false_implies, implies_true, and_true, List.Pairwise.nil]
    refine ⟨⟨?_, ?_, ?_, ?_, ?_, ?_, ?_⟩, ⟨?_, ?_, ?_, ?_, ?_, ?_⟩, ⟨?_, ?_, ?_, ?_, ?_⟩, ⟨?_, ?_, ?_, ?_⟩, ⟨?_, ?_, ?_⟩, ⟨?_, ?_⟩, ?_⟩
    all_goals first | exact .inl rfl | exact .inr (.inl rfl) | exact apart_of _ _ (by assumption) _ _ _ _ _ _
  · simp only [Bx.lists, List.forall_mem_cons, List.not_mem_nil, false_implies, implies_true, and_true]
    exact ⟨Nat.le_refl _, Nat.le_refl _, Nat.le_refl _, Nat.le_refl _, Nat.le_refl _, Nat.le_refl _, Nat.le_refl _, Nat.le_refl _⟩

/- What four makes in whatever order come to. -/
structure Mk4 (w0 : World) (s p l : Int) (a c d kp ko ki ke : Nat) (V : World) : Prop where
  os : OS w0 s p l V
  f4 : Fk .i64 c V kp (fun _ => 0)
  f8 : Fk .i64 d V ko (fun _ => 0)
  f11 : Fk .i64 a V ki (fun _ => 0)
  f14 : Fk .i64 a V ke (fun _ => 0)
  n : (w0.heap.size + 2 ≤ kp ∧ w0.heap.size + 2 ≤ ko ∧ w0.heap.size + 2 ≤ ki ∧ w0.heap.size + 2 ≤ ke) ∧ (kp < V.heap.size ∧ ko < V.heap.size ∧ ki < V.heap.size ∧ ke < V.heap.size) ∧ kp ≠ ko ∧ kp ≠ ki ∧ kp ≠ ke ∧ ko ≠ ki ∧ ko ≠ ke ∧ ki ≠ ke
theorem via4 {P : Program} {md : Region.Mode} {ops : Array Oper} {Q : Exit → Act → World → Prop} {S : World → Prop} {f : Nat} {l : Array Bool} {a : Act} {w : World} (F : World → Nat → Nat → Nat → Nat → Prop) (c d e : Nat)
    (tail : ∀ V kp ko ki ke, F V kp ko ki ke → wpAnyH P md ops Q S f ((((l.setIfInBounds 4 true).setIfInBounds 8 true).setIfInBounds 11 true).setIfInBounds 14 true) ((((a.put (some 11) (.slice (some ⟨kp, 0, none⟩) c c)).put (some 15) (.slice (some ⟨ko, 0, none⟩) d d)).put (some 18) (.slice (some ⟨ki, 0, none⟩) e e)).put (some 21) (.slice (some ⟨ke, 0, none⟩) e e)) V)
    (main : (∀ V kp ko ki ke, F V kp ko ki ke → wpAnyH P md ops Q S f ((((l.setIfInBounds 4 true).setIfInBounds 8 true).setIfInBounds 11 true).setIfInBounds 14 true) ((((a.put (some 11) (.slice (some ⟨kp, 0, none⟩) c c)).put (some 15) (.slice (some ⟨ko, 0, none⟩) d d)).put (some 18) (.slice (some ⟨ki, 0, none⟩) e e)).put (some 21) (.slice (some ⟨ke, 0, none⟩) e e)) V) → wpAnyH P md ops Q S (f + 4) l a w) : wpAnyH P md ops Q S (f + 4) l a w := main tail

abbrev ob (n : Nat) : Obj := .cells (madeCells #[.int .i64 0] n) 3

set_option maxRecDepth 100000 in
set_option maxHeartbeats 40000000 in
theorem sopen_tight (s p l : Int) (w : World) :
    Calls Tryd.prog 65 #[.agg #[.int .i64 s, .int .i64 p, .int .i64 l]] w fun e w' => ∃ b' : Bx, e = .returned (.agg b'.cells.toArray) ∧ b'.m = openM s p l ∧ b'.Own w.heap.size w'.heap.size w' ∧ Below w.heap.size w w' ∧ b'.Tight := by
  have S0 : OS w s p l ((w.alloc (.cells #[.int .i64 s, .int .i64 p, .int .i64 l] 62)).alloc (.cells #[.int .i64 0, .slice none 0 0, .slice none 0 0, .slice none 0 0, .slice none 0 0, .slice none 0 0, .slice none 0 0, .slice none 0 0, .slice none 0 0] 26)) := ⟨range_lit #[.int .i64 s, .int .i64 p, .int .i64 l] (heap2_0 w _ _), ⟨_, _, _, _, _, _, _, _, _, ck_lit #[.int .i64 0, .slice none 0 0, .slice none 0 0, .slice none 0 0, .slice none 0 0, .slice none 0 0, .slice none 0 0, .slice none 0 0, .slice none 0 0] (heap2_1 w _ _)⟩, below2 w _ _, by simp⟩
  go_enter Tryd.func65, Tryd.ntmps65
  go_wp2_with (fail)
  generalize (w.alloc (.cells #[.int .i64 s, .int .i64 p, .int .i64 l] 62)).alloc (.cells #[.int .i64 0, .slice none 0 0, .slice none 0 0, .slice none 0 0, .slice none 0 0, .slice none 0 0, .slice none 0 0, .slice none 0 0, .slice none 0 0] 26) = W at S0 ⊢
  refine (Plat.sok_any s p l W).mono ?_
  rintro e w1 ⟨rfl, hb⟩
  replace S0 := S0.later hb
  clear hb
  by_cases ok : Plat.okB s p l = true
  case neg =>
    have hm : openM s p l = ⟨0, nilL, nilL, nilL, nilL, nilL, nilL, nilL, nilL⟩ := by unfold openM; rw [if_neg ok]
    rw [show Plat.okB s p l = false by simpa using ok]
    obtain ⟨c0, c1, c2, c3, c4, c5, c6, c7, c8, ht⟩ := S0.t
    have p0 := ht 0 _ rfl
    have p1 := ht 1 _ rfl
    have p2 := ht 2 _ rfl
    have p3 := ht 3 _ rfl
    have p4 := ht 4 _ rfl
    have p5 := ht 5 _ rfl
    have p6 := ht 6 _ rfl
    have p7 := ht 7 _ rfl
    have p8 := ht 8 _ rfl
    have PT := S0.put (.int .i64 0) (.slice none 0 0) (.slice none 0 0) (.slice none 0 0) (.slice none 0 0) (.slice none 0 0) (.slice none 0 0) (.slice none 0 0) (.slice none 0 0)
    go_wp2_with (fail)
    have PF := PT.2.1
    have BF := PT.1.b
    refine bodyPost_ret (results_cell_mid rfl _ _ (w.heap.size + 1) 0 _ _ rfl PF.range Tryd.underlying26 rfl (by kernel_rfl)) rfl ⟨⟨0, ⟨none, 0, 0, fun _ => 0⟩, ⟨none, 0, 0, fun _ => 0⟩, ⟨none, 0, 0, fun _ => 0⟩, ⟨none, 0, 0, fun _ => 0⟩, ⟨none, 0, 0, fun _ => 0⟩, ⟨none, 0, 0, fun _ => 0⟩, ⟨none, 0, 0, fun _ => 0⟩, ⟨none, 0, 0, fun _ => 0⟩⟩, rfl, ?_, own_nil _ _ _, BF, by simp [Bx.Tight, Bx.lists]⟩
    rw [hm]
    rfl
  obtain ⟨k1, k2, k3, k4, k5, k6⟩ := Plat.okB_of ok
  obtain ⟨a, rfl⟩ : ∃ a : Nat, s = a := ⟨s.toNat, by omega⟩
  obtain ⟨c, rfl⟩ : ∃ c : Nat, p = c := ⟨p.toNat, by omega⟩
  obtain ⟨d, hd⟩ : ∃ d : Nat, (c : Int) * 8 = d := ⟨c * 8, by omega⟩
  have hm : Hid (openM a c l = ⟨a, (c, fun _ => 0), nilL, nilL, nilL, nilL, (d, fun _ => 0), (a, fun _ => 0), (a, fun _ => 0)⟩) := by
    unfold Hid openM
    rw [if_pos ok, show ((c : Int).toNat * 8) = d by omega]
    rfl
  rw [ok]
  have a4 : a ≤ 4 := by omega
  have c6 : c ≤ 6 := by omega
  have d6 : d ≤ 48 := by omega
  clear ok k1 k2 k3 k4 k5 k6
  have ma := fun w => run_make_row' (P := Tryd.prog) 23 3 (.int .i64 0) 8 Tryd.underlying23 infoInt rfl .i64 .i64 a (by omega) (by omega) w
  have mc := fun w => run_make_row' (P := Tryd.prog) 23 3 (.int .i64 0) 8 Tryd.underlying23 infoInt rfl .i64 .i64 c (by omega) (by omega) w
  have md := fun w => run_make_row' (P := Tryd.prog) 23 3 (.int .i64 0) 8 Tryd.underlying23 infoInt rfl .i64 .i64 d (by omega) (by omega) w
  go_wp2_with (fail)
  refine wp_region_held_drew (S := OS w a c l) (by kernel_rfl) S0.drew (fun hS => ?_)
  refine tI 0 (v := .pointer (some ⟨w.heap.size, 0, none⟩)) (d := some 7) rfl rfl (fun w' hw => ?_) (by assumption) ?_
  · go_simp
  simp only [Act.put, s1, s2, s3]
  refine tI 1 (v := .int .i64 a) (d := some 8) rfl rfl (fun w' hw => ?_) (by assumption) ?_
  · have e0 := hw.r 0 _ rfl; have e1 := hw.r 1 _ rfl; simp only [Nat.zero_add] at e0 e1; go_simp
  simp only [Act.put, s1, s2, s3]
  refine tI 2 (v := .pointer (some ⟨w.heap.size, 1, none⟩)) (d := some 9) rfl rfl (fun w' hw => ?_) (by assumption) ?_
  · go_simp
  simp only [Act.put, s1, s2, s3]
  refine tI 3 (v := .int .i64 c) (d := some 10) rfl rfl (fun w' hw => ?_) (by assumption) ?_
  · have e0 := hw.r 0 _ rfl; have e1 := hw.r 1 _ rfl; simp only [Nat.zero_add] at e0 e1; go_simp
  simp only [Act.put, s1, s2, s3]
  refine tI 5 (v := .pointer (some ⟨w.heap.size, 1, none⟩)) (d := some 12) rfl rfl (fun w' hw => ?_) (by assumption) ?_
  · go_simp
  simp only [Act.put, s1, s2, s3]
  refine tI 6 (v := .int .i64 c) (d := some 13) rfl rfl (fun w' hw => ?_) (by assumption) ?_
  · have e0 := hw.r 0 _ rfl; have e1 := hw.r 1 _ rfl; simp only [Nat.zero_add] at e0 e1; go_simp
  simp only [Act.put, s1, s2, s3]
  refine tI 7 (v := .int .i64 d) (d := some 14) rfl rfl (fun w' hw => ?_) (by assumption) ?_
  · have w1 : IntKind.i64.wrap (d : Int) = d := by simp [IntKind.wrap, IntKind.signed, IntKind.bits]; omega
    go_simp
  simp only [Act.put, s1, s2, s3]
  refine tI 9 (v := .pointer (some ⟨w.heap.size, 0, none⟩)) (d := some 16) rfl rfl (fun w' hw => ?_) (by assumption) ?_
  · go_simp
  simp only [Act.put, s1, s2, s3]
  refine tI 10 (v := .int .i64 a) (d := some 17) rfl rfl (fun w' hw => ?_) (by assumption) ?_
  · have e0 := hw.r 0 _ rfl; have e1 := hw.r 1 _ rfl; simp only [Nat.zero_add] at e0 e1; go_simp
  simp only [Act.put, s1, s2, s3]
  refine tI 12 (v := .pointer (some ⟨w.heap.size, 0, none⟩)) (d := some 19) rfl rfl (fun w' hw => ?_) (by assumption) ?_
  · go_simp
  simp only [Act.put, s1, s2, s3]
  refine tI 13 (v := .int .i64 a) (d := some 20) rfl rfl (fun w' hw => ?_) (by assumption) ?_
  · have e0 := hw.r 0 _ rfl; have e1 := hw.r 1 _ rfl; simp only [Nat.zero_add] at e0 e1; go_simp
  simp only [Act.put, s1, s2, s3]
  generalize World.drew _ = V0 at hS ⊢
  clear S0
  refine via4 (fun V kp ko ki ke => Mk4 w a c l a c d kp ko ki ke V) c d a (fun V4 kp ko ki ke h4 => ?_) (fun tail => ?_)
  · obtain ⟨hS, f4, f8, f11, f14, ⟨g1, g2, g3, g4⟩, ⟨g5, g6, g7, g8⟩, g9⟩ := h4
    simp only [Act.put, s1, s2, s3]
    refine tI 15 (v := .agg #[.int .i64 a, .slice (some ⟨kp, 0, none⟩) c c, .slice none 0 0, .slice none 0 0, .slice none 0 0, .slice none 0 0, .slice (some ⟨ko, 0, none⟩) d d, .slice (some ⟨ki, 0, none⟩) a a, .slice (some ⟨ke, 0, none⟩) a a]) (d := some 22) rfl rfl (fun w' hw => ?_) (by assumption) ?_
    · go_simp
    simp only [Act.put, s1, s2, s3]
    obtain ⟨c0, c1, c2, c3, c4, c5, c6', c7, c8, ht⟩ := hS.t
    have p0 := ht 0 _ rfl
    have p1 := ht 1 _ rfl
    have p2 := ht 2 _ rfl
    have p3 := ht 3 _ rfl
    have p4 := ht 4 _ rfl
    have p5 := ht 5 _ rfl
    have p6 := ht 6 _ rfl
    have p7 := ht 7 _ rfl
    have p8 := ht 8 _ rfl
    have PT := hS.put (.int .i64 a) (.slice (some ⟨kp, 0, none⟩) c c) (.slice none 0 0) (.slice none 0 0) (.slice none 0 0) (.slice none 0 0) (.slice (some ⟨ko, 0, none⟩) d d) (.slice (some ⟨ki, 0, none⟩) a a) (.slice (some ⟨ke, 0, none⟩) a a)
    refine r1 16 rfl (fun K hK => ?_)
    go_simp
    refine hK.out _ _ PT.1 (fun hS2 => ?_)
    clear hK K
    refine wpAnyH_done (by kernel_rfl) ?_ _
    go_wp2_with (fail)
    have zl := PT.2.2.size
    have z0 := hS.z
    refine bodyPost_ret (results_cell_mid rfl _ _ (w.heap.size + 1) 0 _ _ rfl PT.2.1.range Tryd.underlying26 rfl (by kernel_rfl)) rfl ⟨⟨a, ⟨some ⟨kp, 0, none⟩, c, c, fun _ => 0⟩, ⟨none, 0, 0, fun _ => 0⟩, ⟨none, 0, 0, fun _ => 0⟩, ⟨none, 0, 0, fun _ => 0⟩, ⟨none, 0, 0, fun _ => 0⟩, ⟨some ⟨ko, 0, none⟩, d, d, fun _ => 0⟩, ⟨some ⟨ki, 0, none⟩, a, a, fun _ => 0⟩, ⟨some ⟨ke, 0, none⟩, a, a, fun _ => 0⟩⟩, rfl, ?_, own_open _ _ _ _ _ _ _ _ _ _ _ (by omega) (by omega) (by omega) (by omega) (by omega) (by omega) (by omega) (by omega) (by omega) (by omega) (by omega) (by omega) (by omega) (by omega) (PT.2.2.fk (.inr (by omega)) f4) (PT.2.2.fk (.inr (by omega)) f8) (PT.2.2.fk (.inr (by omega)) f11) (PT.2.2.fk (.inr (by omega)) f14), PT.1.b, by simp [Bx.Tight, Bx.lists]⟩
    rw [hm.out]
    rfl
  refine wpAnyH_ready (rs := [4, 8, 11, 14]) (by kernel_rfl) (by simp) ?_
  refine AllReadyH.cons rfl (fun K hK => ?_) (AllReadyH.cons rfl (fun K hK => ?_) (AllReadyH.cons rfl (fun K hK => ?_) (AllReadyH.cons rfl (fun K hK => ?_) AllReadyH.nil)))
  · have hS' := hS
    go_simp
    refine hK.out _ _ (hS.later (below1 _ (ob c))) (fun hS => ?_)
    clear hK K
    have f4 := fk_made .i64 V0 c 3
    have zl0 : w.heap.size + 2 ≤ V0.heap.size := hS'.z
    have zz : V0.heap.size < (V0.alloc (ob c)).heap.size := by simp
    generalize V0.alloc (ob c) = V1 at hS zz f4 ⊢
    generalize V0.heap.size = kp at zz zl0 f4  ⊢
    have z1 : kp < V1.heap.size := zz
    clear zz hS'
    refine wpAnyH_ready (rs := [8, 11, 14]) (by kernel_rfl) (by simp) ?_
    refine AllReadyH.cons rfl (fun K hK => ?_) (AllReadyH.cons rfl (fun K hK => ?_) (AllReadyH.cons rfl (fun K hK => ?_) AllReadyH.nil))
    · have hS' := hS
      go_simp
      refine hK.out _ _ (hS.later (below1 _ (ob d))) (fun hS => ?_)
      clear hK K
      have f8 := fk_made .i64 V1 d 3
      have f4 := f4.later (below1 V1 (ob d))
      have zl1 : w.heap.size + 2 ≤ V1.heap.size := hS'.z
      have zz : V1.heap.size < (V1.alloc (ob d)).heap.size := by simp
      generalize V1.alloc (ob d) = V2 at hS zz f4 f8 ⊢
      generalize V1.heap.size = ko at zz zl1 f8 z1 ⊢
      have z2 : ko < V2.heap.size := zz
      clear zz hS'
      refine wpAnyH_ready (rs := [11, 14]) (by kernel_rfl) (by simp) ?_
      refine AllReadyH.cons rfl (fun K hK => ?_) (AllReadyH.cons rfl (fun K hK => ?_) AllReadyH.nil)
      · have hS' := hS
        go_simp
        refine hK.out _ _ (hS.later (below1 _ (ob a))) (fun hS => ?_)
        clear hK K
        have f11 := fk_made .i64 V2 a 3
        have f4 := f4.later (below1 V2 (ob a))
        have f8 := f8.later (below1 V2 (ob a))
        have zl2 : w.heap.size + 2 ≤ V2.heap.size := hS'.z
        have zz : V2.heap.size < (V2.alloc (ob a)).heap.size := by simp
        generalize V2.alloc (ob a) = V3 at hS zz f4 f8 f11 ⊢
        generalize V2.heap.size = ki at zz zl2 f11 z2 ⊢
        have z3 : ki < V3.heap.size := zz
        clear zz hS'
        refine r1 14 rfl (fun K hK => ?_)
        · have hS' := hS
          go_simp
          refine hK.out _ _ (hS.later (below1 _ (ob a))) (fun hS => ?_)
          clear hK K
          have f14 := fk_made .i64 V3 a 3
          have f4 := f4.later (below1 V3 (ob a))
          have f8 := f8.later (below1 V3 (ob a))
          have f11 := f11.later (below1 V3 (ob a))
          have zl3 : w.heap.size + 2 ≤ V3.heap.size := hS'.z
          have zz : V3.heap.size < (V3.alloc (ob a)).heap.size := by simp
          generalize V3.alloc (ob a) = V4 at hS zz f4 f8 f11 f14 ⊢
          generalize V3.heap.size = ke at zz zl3 f14 z3 ⊢
          have z4 : ke < V4.heap.size := zz
          clear zz hS'
          exact tail _ kp ko ki ke ⟨hS, f4, f8, f11, f14, by omega⟩
      · have hS' := hS
        go_simp
        refine hK.out _ _ (hS.later (below1 _ (ob a))) (fun hS => ?_)
        clear hK K
        have f14 := fk_made .i64 V2 a 3
        have f4 := f4.later (below1 V2 (ob a))
        have f8 := f8.later (below1 V2 (ob a))
        have zl2 : w.heap.size + 2 ≤ V2.heap.size := hS'.z
        have zz : V2.heap.size < (V2.alloc (ob a)).heap.size := by simp
        generalize V2.alloc (ob a) = V3 at hS zz f4 f8 f14 ⊢
        generalize V2.heap.size = ke at zz zl2 f14 z2 ⊢
        have z3 : ke < V3.heap.size := zz
        clear zz hS'
        refine r1 11 rfl (fun K hK => ?_)
        · have hS' := hS
          go_simp
          refine hK.out _ _ (hS.later (below1 _ (ob a))) (fun hS => ?_)
          clear hK K
          have f11 := fk_made .i64 V3 a 3
          have f4 := f4.later (below1 V3 (ob a))
          have f8 := f8.later (below1 V3 (ob a))
          have f14 := f14.later (below1 V3 (ob a))
          have zl3 : w.heap.size + 2 ≤ V3.heap.size := hS'.z
          have zz : V3.heap.size < (V3.alloc (ob a)).heap.size := by simp
          generalize V3.alloc (ob a) = V4 at hS zz f4 f8 f14 f11 ⊢
          generalize V3.heap.size = ki at zz zl3 f11 z3 ⊢
          have z4 : ki < V4.heap.size := zz
          clear zz hS'
          exact tail _ kp ko ki ke ⟨hS, f4, f8, f11, f14, by omega⟩
    · have hS' := hS
      go_simp
      refine hK.out _ _ (hS.later (below1 _ (ob a))) (fun hS => ?_)
      clear hK K
      have f11 := fk_made .i64 V1 a 3
      have f4 := f4.later (below1 V1 (ob a))
      have zl1 : w.heap.size + 2 ≤ V1.heap.size := hS'.z
      have zz : V1.heap.size < (V1.alloc (ob a)).heap.size := by simp
      generalize V1.alloc (ob a) = V2 at hS zz f4 f11 ⊢
      generalize V1.heap.size = ki at zz zl1 f11 z1 ⊢
      have z2 : ki < V2.heap.size := zz
      clear zz hS'
      refine wpAnyH_ready (rs := [8, 14]) (by kernel_rfl) (by simp) ?_
      refine AllReadyH.cons rfl (fun K hK => ?_) (AllReadyH.cons rfl (fun K hK => ?_) AllReadyH.nil)
      · have hS' := hS
        go_simp
        refine hK.out _ _ (hS.later (below1 _ (ob d))) (fun hS => ?_)
        clear hK K
        have f8 := fk_made .i64 V2 d 3
        have f4 := f4.later (below1 V2 (ob d))
        have f11 := f11.later (below1 V2 (ob d))
        have zl2 : w.heap.size + 2 ≤ V2.heap.size := hS'.z
        have zz : V2.heap.size < (V2.alloc (ob d)).heap.size := by simp
        generalize V2.alloc (ob d) = V3 at hS zz f4 f11 f8 ⊢
        generalize V2.heap.size = ko at zz zl2 f8 z2 ⊢
        have z3 : ko < V3.heap.size := zz
        clear zz hS'
        refine r1 14 rfl (fun K hK => ?_)
        · have hS' := hS
          go_simp
          refine hK.out _ _ (hS.later (below1 _ (ob a))) (fun hS => ?_)
          clear hK K
          have f14 := fk_made .i64 V3 a 3
          have f4 := f4.later (below1 V3 (ob a))
          have f11 := f11.later (below1 V3 (ob a))
          have f8 := f8.later (below1 V3 (ob a))
          have zl3 : w.heap.size + 2 ≤ V3.heap.size := hS'.z
          have zz : V3.heap.size < (V3.alloc (ob a)).heap.size := by simp
          generalize V3.alloc (ob a) = V4 at hS zz f4 f11 f8 f14 ⊢
          generalize V3.heap.size = ke at zz zl3 f14 z3 ⊢
          have z4 : ke < V4.heap.size := zz
          clear zz hS'
          exact tail _ kp ko ki ke ⟨hS, f4, f8, f11, f14, by omega⟩
      · have hS' := hS
        go_simp
        refine hK.out _ _ (hS.later (below1 _ (ob a))) (fun hS => ?_)
        clear hK K
        have f14 := fk_made .i64 V2 a 3
        have f4 := f4.later (below1 V2 (ob a))
        have f11 := f11.later (below1 V2 (ob a))
        have zl2 : w.heap.size + 2 ≤ V2.heap.size := hS'.z
        have zz : V2.heap.size < (V2.alloc (ob a)).heap.size := by simp
        generalize V2.alloc (ob a) = V3 at hS zz f4 f11 f14 ⊢
        generalize V2.heap.size = ke at zz zl2 f14 z2 ⊢
        have z3 : ke < V3.heap.size := zz
        clear zz hS'
        refine r1 8 rfl (fun K hK => ?_)
        · have hS' := hS
          go_simp
          refine hK.out _ _ (hS.later (below1 _ (ob d))) (fun hS => ?_)
          clear hK K
          have f8 := fk_made .i64 V3 d 3
          have f4 := f4.later (below1 V3 (ob d))
          have f11 := f11.later (below1 V3 (ob d))
          have f14 := f14.later (below1 V3 (ob d))
          have zl3 : w.heap.size + 2 ≤ V3.heap.size := hS'.z
          have zz : V3.heap.size < (V3.alloc (ob d)).heap.size := by simp
          generalize V3.alloc (ob d) = V4 at hS zz f4 f11 f14 f8 ⊢
          generalize V3.heap.size = ko at zz zl3 f8 z3 ⊢
          have z4 : ko < V4.heap.size := zz
          clear zz hS'
          exact tail _ kp ko ki ke ⟨hS, f4, f8, f11, f14, by omega⟩
    · have hS' := hS
      go_simp
      refine hK.out _ _ (hS.later (below1 _ (ob a))) (fun hS => ?_)
      clear hK K
      have f14 := fk_made .i64 V1 a 3
      have f4 := f4.later (below1 V1 (ob a))
      have zl1 : w.heap.size + 2 ≤ V1.heap.size := hS'.z
      have zz : V1.heap.size < (V1.alloc (ob a)).heap.size := by simp
      generalize V1.alloc (ob a) = V2 at hS zz f4 f14 ⊢
      generalize V1.heap.size = ke at zz zl1 f14 z1 ⊢
      have z2 : ke < V2.heap.size := zz
      clear zz hS'
      refine wpAnyH_ready (rs := [8, 11]) (by kernel_rfl) (by simp) ?_
      refine AllReadyH.cons rfl (fun K hK => ?_) (AllReadyH.cons rfl (fun K hK => ?_) AllReadyH.nil)
      · have hS' := hS
        go_simp
        refine hK.out _ _ (hS.later (below1 _ (ob d))) (fun hS => ?_)
        clear hK K
        have f8 := fk_made .i64 V2 d 3
        have f4 := f4.later (below1 V2 (ob d))
        have f14 := f14.later (below1 V2 (ob d))
        have zl2 : w.heap.size + 2 ≤ V2.heap.size := hS'.z
        have zz : V2.heap.size < (V2.alloc (ob d)).heap.size := by simp
        generalize V2.alloc (ob d) = V3 at hS zz f4 f14 f8 ⊢
        generalize V2.heap.size = ko at zz zl2 f8 z2 ⊢
        have z3 : ko < V3.heap.size := zz
        clear zz hS'
        refine r1 11 rfl (fun K hK => ?_)
        · have hS' := hS
          go_simp
          refine hK.out _ _ (hS.later (below1 _ (ob a))) (fun hS => ?_)
          clear hK K
          have f11 := fk_made .i64 V3 a 3
          have f4 := f4.later (below1 V3 (ob a))
          have f14 := f14.later (below1 V3 (ob a))
          have f8 := f8.later (below1 V3 (ob a))
          have zl3 : w.heap.size + 2 ≤ V3.heap.size := hS'.z
          have zz : V3.heap.size < (V3.alloc (ob a)).heap.size := by simp
          generalize V3.alloc (ob a) = V4 at hS zz f4 f14 f8 f11 ⊢
          generalize V3.heap.size = ki at zz zl3 f11 z3 ⊢
          have z4 : ki < V4.heap.size := zz
          clear zz hS'
          exact tail _ kp ko ki ke ⟨hS, f4, f8, f11, f14, by omega⟩
      · have hS' := hS
        go_simp
        refine hK.out _ _ (hS.later (below1 _ (ob a))) (fun hS => ?_)
        clear hK K
        have f11 := fk_made .i64 V2 a 3
        have f4 := f4.later (below1 V2 (ob a))
        have f14 := f14.later (below1 V2 (ob a))
        have zl2 : w.heap.size + 2 ≤ V2.heap.size := hS'.z
        have zz : V2.heap.size < (V2.alloc (ob a)).heap.size := by simp
        generalize V2.alloc (ob a) = V3 at hS zz f4 f14 f11 ⊢
        generalize V2.heap.size = ki at zz zl2 f11 z2 ⊢
        have z3 : ki < V3.heap.size := zz
        clear zz hS'
        refine r1 8 rfl (fun K hK => ?_)
        · have hS' := hS
          go_simp
          refine hK.out _ _ (hS.later (below1 _ (ob d))) (fun hS => ?_)
          clear hK K
          have f8 := fk_made .i64 V3 d 3
          have f4 := f4.later (below1 V3 (ob d))
          have f14 := f14.later (below1 V3 (ob d))
          have f11 := f11.later (below1 V3 (ob d))
          have zl3 : w.heap.size + 2 ≤ V3.heap.size := hS'.z
          have zz : V3.heap.size < (V3.alloc (ob d)).heap.size := by simp
          generalize V3.alloc (ob d) = V4 at hS zz f4 f14 f11 f8 ⊢
          generalize V3.heap.size = ko at zz zl3 f8 z3 ⊢
          have z4 : ko < V4.heap.size := zz
          clear zz hS'
          exact tail _ kp ko ki ke ⟨hS, f4, f8, f11, f14, by omega⟩
  · have hS' := hS
    go_simp
    refine hK.out _ _ (hS.later (below1 _ (ob d))) (fun hS => ?_)
    clear hK K
    have f8 := fk_made .i64 V0 d 3
    have zl0 : w.heap.size + 2 ≤ V0.heap.size := hS'.z
    have zz : V0.heap.size < (V0.alloc (ob d)).heap.size := by simp
    generalize V0.alloc (ob d) = V1 at hS zz f8 ⊢
    generalize V0.heap.size = ko at zz zl0 f8  ⊢
    have z1 : ko < V1.heap.size := zz
    clear zz hS'
    refine wpAnyH_ready (rs := [4, 11, 14]) (by kernel_rfl) (by simp) ?_
    refine AllReadyH.cons rfl (fun K hK => ?_) (AllReadyH.cons rfl (fun K hK => ?_) (AllReadyH.cons rfl (fun K hK => ?_) AllReadyH.nil))
    · have hS' := hS
      go_simp
      refine hK.out _ _ (hS.later (below1 _ (ob c))) (fun hS => ?_)
      clear hK K
      have f4 := fk_made .i64 V1 c 3
      have f8 := f8.later (below1 V1 (ob c))
      have zl1 : w.heap.size + 2 ≤ V1.heap.size := hS'.z
      have zz : V1.heap.size < (V1.alloc (ob c)).heap.size := by simp
      generalize V1.alloc (ob c) = V2 at hS zz f8 f4 ⊢
      generalize V1.heap.size = kp at zz zl1 f4 z1 ⊢
      have z2 : kp < V2.heap.size := zz
      clear zz hS'
      refine wpAnyH_ready (rs := [11, 14]) (by kernel_rfl) (by simp) ?_
      refine AllReadyH.cons rfl (fun K hK => ?_) (AllReadyH.cons rfl (fun K hK => ?_) AllReadyH.nil)
      · have hS' := hS
        go_simp
        refine hK.out _ _ (hS.later (below1 _ (ob a))) (fun hS => ?_)
        clear hK K
        have f11 := fk_made .i64 V2 a 3
        have f8 := f8.later (below1 V2 (ob a))
        have f4 := f4.later (below1 V2 (ob a))
        have zl2 : w.heap.size + 2 ≤ V2.heap.size := hS'.z
        have zz : V2.heap.size < (V2.alloc (ob a)).heap.size := by simp
        generalize V2.alloc (ob a) = V3 at hS zz f8 f4 f11 ⊢
        generalize V2.heap.size = ki at zz zl2 f11 z2 ⊢
        have z3 : ki < V3.heap.size := zz
        clear zz hS'
        refine r1 14 rfl (fun K hK => ?_)
        · have hS' := hS
          go_simp
          refine hK.out _ _ (hS.later (below1 _ (ob a))) (fun hS => ?_)
          clear hK K
          have f14 := fk_made .i64 V3 a 3
          have f8 := f8.later (below1 V3 (ob a))
          have f4 := f4.later (below1 V3 (ob a))
          have f11 := f11.later (below1 V3 (ob a))
          have zl3 : w.heap.size + 2 ≤ V3.heap.size := hS'.z
          have zz : V3.heap.size < (V3.alloc (ob a)).heap.size := by simp
          generalize V3.alloc (ob a) = V4 at hS zz f8 f4 f11 f14 ⊢
          generalize V3.heap.size = ke at zz zl3 f14 z3 ⊢
          have z4 : ke < V4.heap.size := zz
          clear zz hS'
          exact tail _ kp ko ki ke ⟨hS, f4, f8, f11, f14, by omega⟩
      · have hS' := hS
        go_simp
        refine hK.out _ _ (hS.later (below1 _ (ob a))) (fun hS => ?_)
        clear hK K
        have f14 := fk_made .i64 V2 a 3
        have f8 := f8.later (below1 V2 (ob a))
        have f4 := f4.later (below1 V2 (ob a))
        have zl2 : w.heap.size + 2 ≤ V2.heap.size := hS'.z
        have zz : V2.heap.size < (V2.alloc (ob a)).heap.size := by simp
        generalize V2.alloc (ob a) = V3 at hS zz f8 f4 f14 ⊢
        generalize V2.heap.size = ke at zz zl2 f14 z2 ⊢
        have z3 : ke < V3.heap.size := zz
        clear zz hS'
        refine r1 11 rfl (fun K hK => ?_)
        · have hS' := hS
          go_simp
          refine hK.out _ _ (hS.later (below1 _ (ob a))) (fun hS => ?_)
          clear hK K
          have f11 := fk_made .i64 V3 a 3
          have f8 := f8.later (below1 V3 (ob a))
          have f4 := f4.later (below1 V3 (ob a))
          have f14 := f14.later (below1 V3 (ob a))
          have zl3 : w.heap.size + 2 ≤ V3.heap.size := hS'.z
          have zz : V3.heap.size < (V3.alloc (ob a)).heap.size := by simp
          generalize V3.alloc (ob a) = V4 at hS zz f8 f4 f14 f11 ⊢
          generalize V3.heap.size = ki at zz zl3 f11 z3 ⊢
          have z4 : ki < V4.heap.size := zz
          clear zz hS'
          exact tail _ kp ko ki ke ⟨hS, f4, f8, f11, f14, by omega⟩
    · have hS' := hS
      go_simp
      refine hK.out _ _ (hS.later (below1 _ (ob a))) (fun hS => ?_)
      clear hK K
      have f11 := fk_made .i64 V1 a 3
      have f8 := f8.later (below1 V1 (ob a))
      have zl1 : w.heap.size + 2 ≤ V1.heap.size := hS'.z
      have zz : V1.heap.size < (V1.alloc (ob a)).heap.size := by simp
      generalize V1.alloc (ob a) = V2 at hS zz f8 f11 ⊢
      generalize V1.heap.size = ki at zz zl1 f11 z1 ⊢
      have z2 : ki < V2.heap.size := zz
      clear zz hS'
      refine wpAnyH_ready (rs := [4, 14]) (by kernel_rfl) (by simp) ?_
      refine AllReadyH.cons rfl (fun K hK => ?_) (AllReadyH.cons rfl (fun K hK => ?_) AllReadyH.nil)
      · have hS' := hS
        go_simp
        refine hK.out _ _ (hS.later (below1 _ (ob c))) (fun hS => ?_)
        clear hK K
        have f4 := fk_made .i64 V2 c 3
        have f8 := f8.later (below1 V2 (ob c))
        have f11 := f11.later (below1 V2 (ob c))
        have zl2 : w.heap.size + 2 ≤ V2.heap.size := hS'.z
        have zz : V2.heap.size < (V2.alloc (ob c)).heap.size := by simp
        generalize V2.alloc (ob c) = V3 at hS zz f8 f11 f4 ⊢
        generalize V2.heap.size = kp at zz zl2 f4 z2 ⊢
        have z3 : kp < V3.heap.size := zz
        clear zz hS'
        refine r1 14 rfl (fun K hK => ?_)
        · have hS' := hS
          go_simp
          refine hK.out _ _ (hS.later (below1 _ (ob a))) (fun hS => ?_)
          clear hK K
          have f14 := fk_made .i64 V3 a 3
          have f8 := f8.later (below1 V3 (ob a))
          have f11 := f11.later (below1 V3 (ob a))
          have f4 := f4.later (below1 V3 (ob a))
          have zl3 : w.heap.size + 2 ≤ V3.heap.size := hS'.z
          have zz : V3.heap.size < (V3.alloc (ob a)).heap.size := by simp
          generalize V3.alloc (ob a) = V4 at hS zz f8 f11 f4 f14 ⊢
          generalize V3.heap.size = ke at zz zl3 f14 z3 ⊢
          have z4 : ke < V4.heap.size := zz
          clear zz hS'
          exact tail _ kp ko ki ke ⟨hS, f4, f8, f11, f14, by omega⟩
      · have hS' := hS
        go_simp
        refine hK.out _ _ (hS.later (below1 _ (ob a))) (fun hS => ?_)
        clear hK K
        have f14 := fk_made .i64 V2 a 3
        have f8 := f8.later (below1 V2 (ob a))
        have f11 := f11.later (below1 V2 (ob a))
        have zl2 : w.heap.size + 2 ≤ V2.heap.size := hS'.z
        have zz : V2.heap.size < (V2.alloc (ob a)).heap.size := by simp
        generalize V2.alloc (ob a) = V3 at hS zz f8 f11 f14 ⊢
        generalize V2.heap.size = ke at zz zl2 f14 z2 ⊢
        have z3 : ke < V3.heap.size := zz
        clear zz hS'
        refine r1 4 rfl (fun K hK => ?_)
        · have hS' := hS
          go_simp
          refine hK.out _ _ (hS.later (below1 _ (ob c))) (fun hS => ?_)
          clear hK K
          have f4 := fk_made .i64 V3 c 3
          have f8 := f8.later (below1 V3 (ob c))
          have f11 := f11.later (below1 V3 (ob c))
          have f14 := f14.later (below1 V3 (ob c))
          have zl3 : w.heap.size + 2 ≤ V3.heap.size := hS'.z
          have zz : V3.heap.size < (V3.alloc (ob c)).heap.size := by simp
          generalize V3.alloc (ob c) = V4 at hS zz f8 f11 f14 f4 ⊢
          generalize V3.heap.size = kp at zz zl3 f4 z3 ⊢
          have z4 : kp < V4.heap.size := zz
          clear zz hS'
          exact tail _ kp ko ki ke ⟨hS, f4, f8, f11, f14, by omega⟩
    · have hS' := hS
      go_simp
      refine hK.out _ _ (hS.later (below1 _ (ob a))) (fun hS => ?_)
      clear hK K
      have f14 := fk_made .i64 V1 a 3
      have f8 := f8.later (below1 V1 (ob a))
      have zl1 : w.heap.size + 2 ≤ V1.heap.size := hS'.z
      have zz : V1.heap.size < (V1.alloc (ob a)).heap.size := by simp
      generalize V1.alloc (ob a) = V2 at hS zz f8 f14 ⊢
      generalize V1.heap.size = ke at zz zl1 f14 z1 ⊢
      have z2 : ke < V2.heap.size := zz
      clear zz hS'
      refine wpAnyH_ready (rs := [4, 11]) (by kernel_rfl) (by simp) ?_
      refine AllReadyH.cons rfl (fun K hK => ?_) (AllReadyH.cons rfl (fun K hK => ?_) AllReadyH.nil)
      · have hS' := hS
        go_simp
        refine hK.out _ _ (hS.later (below1 _ (ob c))) (fun hS => ?_)
        clear hK K
        have f4 := fk_made .i64 V2 c 3
        have f8 := f8.later (below1 V2 (ob c))
        have f14 := f14.later (below1 V2 (ob c))
        have zl2 : w.heap.size + 2 ≤ V2.heap.size := hS'.z
        have zz : V2.heap.size < (V2.alloc (ob c)).heap.size := by simp
        generalize V2.alloc (ob c) = V3 at hS zz f8 f14 f4 ⊢
        generalize V2.heap.size = kp at zz zl2 f4 z2 ⊢
        have z3 : kp < V3.heap.size := zz
        clear zz hS'
        refine r1 11 rfl (fun K hK => ?_)
        · have hS' := hS
          go_simp
          refine hK.out _ _ (hS.later (below1 _ (ob a))) (fun hS => ?_)
          clear hK K
          have f11 := fk_made .i64 V3 a 3
          have f8 := f8.later (below1 V3 (ob a))
          have f14 := f14.later (below1 V3 (ob a))
          have f4 := f4.later (below1 V3 (ob a))
          have zl3 : w.heap.size + 2 ≤ V3.heap.size := hS'.z
          have zz : V3.heap.size < (V3.alloc (ob a)).heap.size := by simp
          generalize V3.alloc (ob a) = V4 at hS zz f8 f14 f4 f11 ⊢
          generalize V3.heap.size = ki at zz zl3 f11 z3 ⊢
          have z4 : ki < V4.heap.size := zz
          clear zz hS'
          exact tail _ kp ko ki ke ⟨hS, f4, f8, f11, f14, by omega⟩
      · have hS' := hS
        go_simp
        refine hK.out _ _ (hS.later (below1 _ (ob a))) (fun hS => ?_)
        clear hK K
        have f11 := fk_made .i64 V2 a 3
        have f8 := f8.later (below1 V2 (ob a))
        have f14 := f14.later (below1 V2 (ob a))
        have zl2 : w.heap.size + 2 ≤ V2.heap.size := hS'.z
        have zz : V2.heap.size < (V2.alloc (ob a)).heap.size := by simp
        generalize V2.alloc (ob a) = V3 at hS zz f8 f14 f11 ⊢
        generalize V2.heap.size = ki at zz zl2 f11 z2 ⊢
        have z3 : ki < V3.heap.size := zz
        clear zz hS'
        refine r1 4 rfl (fun K hK => ?_)
        · have hS' := hS
          go_simp
          refine hK.out _ _ (hS.later (below1 _ (ob c))) (fun hS => ?_)
          clear hK K
          have f4 := fk_made .i64 V3 c 3
          have f8 := f8.later (below1 V3 (ob c))
          have f14 := f14.later (below1 V3 (ob c))
          have f11 := f11.later (below1 V3 (ob c))
          have zl3 : w.heap.size + 2 ≤ V3.heap.size := hS'.z
          have zz : V3.heap.size < (V3.alloc (ob c)).heap.size := by simp
          generalize V3.alloc (ob c) = V4 at hS zz f8 f14 f11 f4 ⊢
          generalize V3.heap.size = kp at zz zl3 f4 z3 ⊢
          have z4 : kp < V4.heap.size := zz
          clear zz hS'
          exact tail _ kp ko ki ke ⟨hS, f4, f8, f11, f14, by omega⟩
  · have hS' := hS
    go_simp
    refine hK.out _ _ (hS.later (below1 _ (ob a))) (fun hS => ?_)
    clear hK K
    have f11 := fk_made .i64 V0 a 3
    have zl0 : w.heap.size + 2 ≤ V0.heap.size := hS'.z
    have zz : V0.heap.size < (V0.alloc (ob a)).heap.size := by simp
    generalize V0.alloc (ob a) = V1 at hS zz f11 ⊢
    generalize V0.heap.size = ki at zz zl0 f11  ⊢
    have z1 : ki < V1.heap.size := zz
    clear zz hS'
    refine wpAnyH_ready (rs := [4, 8, 14]) (by kernel_rfl) (by simp) ?_
    refine AllReadyH.cons rfl (fun K hK => ?_) (AllReadyH.cons rfl (fun K hK => ?_) (AllReadyH.cons rfl (fun K hK => ?_) AllReadyH.nil))
    · have hS' := hS
      go_simp
      refine hK.out _ _ (hS.later (below1 _ (ob c))) (fun hS => ?_)
      clear hK K
      have f4 := fk_made .i64 V1 c 3
      have f11 := f11.later (below1 V1 (ob c))
      have zl1 : w.heap.size + 2 ≤ V1.heap.size := hS'.z
      have zz : V1.heap.size < (V1.alloc (ob c)).heap.size := by simp
      generalize V1.alloc (ob c) = V2 at hS zz f11 f4 ⊢
      generalize V1.heap.size = kp at zz zl1 f4 z1 ⊢
      have z2 : kp < V2.heap.size := zz
      clear zz hS'
      refine wpAnyH_ready (rs := [8, 14]) (by kernel_rfl) (by simp) ?_
      refine AllReadyH.cons rfl (fun K hK => ?_) (AllReadyH.cons rfl (fun K hK => ?_) AllReadyH.nil)
      · have hS' := hS
        go_simp
        refine hK.out _ _ (hS.later (below1 _ (ob d))) (fun hS => ?_)
        clear hK K
        have f8 := fk_made .i64 V2 d 3
        have f11 := f11.later (below1 V2 (ob d))
        have f4 := f4.later (below1 V2 (ob d))
        have zl2 : w.heap.size + 2 ≤ V2.heap.size := hS'.z
        have zz : V2.heap.size < (V2.alloc (ob d)).heap.size := by simp
        generalize V2.alloc (ob d) = V3 at hS zz f11 f4 f8 ⊢
        generalize V2.heap.size = ko at zz zl2 f8 z2 ⊢
        have z3 : ko < V3.heap.size := zz
        clear zz hS'
        refine r1 14 rfl (fun K hK => ?_)
        · have hS' := hS
          go_simp
          refine hK.out _ _ (hS.later (below1 _ (ob a))) (fun hS => ?_)
          clear hK K
          have f14 := fk_made .i64 V3 a 3
          have f11 := f11.later (below1 V3 (ob a))
          have f4 := f4.later (below1 V3 (ob a))
          have f8 := f8.later (below1 V3 (ob a))
          have zl3 : w.heap.size + 2 ≤ V3.heap.size := hS'.z
          have zz : V3.heap.size < (V3.alloc (ob a)).heap.size := by simp
          generalize V3.alloc (ob a) = V4 at hS zz f11 f4 f8 f14 ⊢
          generalize V3.heap.size = ke at zz zl3 f14 z3 ⊢
          have z4 : ke < V4.heap.size := zz
          clear zz hS'
          exact tail _ kp ko ki ke ⟨hS, f4, f8, f11, f14, by omega⟩
      · have hS' := hS
        go_simp
        refine hK.out _ _ (hS.later (below1 _ (ob a))) (fun hS => ?_)
        clear hK K
        have f14 := fk_made .i64 V2 a 3
        have f11 := f11.later (below1 V2 (ob a))
        have f4 := f4.later (below1 V2 (ob a))
        have zl2 : w.heap.size + 2 ≤ V2.heap.size := hS'.z
        have zz : V2.heap.size < (V2.alloc (ob a)).heap.size := by simp
        generalize V2.alloc (ob a) = V3 at hS zz f11 f4 f14 ⊢
        generalize V2.heap.size = ke at zz zl2 f14 z2 ⊢
        have z3 : ke < V3.heap.size := zz
        clear zz hS'
        refine r1 8 rfl (fun K hK => ?_)
        · have hS' := hS
          go_simp
          refine hK.out _ _ (hS.later (below1 _ (ob d))) (fun hS => ?_)
          clear hK K
          have f8 := fk_made .i64 V3 d 3
          have f11 := f11.later (below1 V3 (ob d))
          have f4 := f4.later (below1 V3 (ob d))
          have f14 := f14.later (below1 V3 (ob d))
          have zl3 : w.heap.size + 2 ≤ V3.heap.size := hS'.z
          have zz : V3.heap.size < (V3.alloc (ob d)).heap.size := by simp
          generalize V3.alloc (ob d) = V4 at hS zz f11 f4 f14 f8 ⊢
          generalize V3.heap.size = ko at zz zl3 f8 z3 ⊢
          have z4 : ko < V4.heap.size := zz
          clear zz hS'
          exact tail _ kp ko ki ke ⟨hS, f4, f8, f11, f14, by omega⟩
    · have hS' := hS
      go_simp
      refine hK.out _ _ (hS.later (below1 _ (ob d))) (fun hS => ?_)
      clear hK K
      have f8 := fk_made .i64 V1 d 3
      have f11 := f11.later (below1 V1 (ob d))
      have zl1 : w.heap.size + 2 ≤ V1.heap.size := hS'.z
      have zz : V1.heap.size < (V1.alloc (ob d)).heap.size := by simp
      generalize V1.alloc (ob d) = V2 at hS zz f11 f8 ⊢
      generalize V1.heap.size = ko at zz zl1 f8 z1 ⊢
      have z2 : ko < V2.heap.size := zz
      clear zz hS'
      refine wpAnyH_ready (rs := [4, 14]) (by kernel_rfl) (by simp) ?_
      refine AllReadyH.cons rfl (fun K hK => ?_) (AllReadyH.cons rfl (fun K hK => ?_) AllReadyH.nil)
      · have hS' := hS
        go_simp
        refine hK.out _ _ (hS.later (below1 _ (ob c))) (fun hS => ?_)
        clear hK K
        have f4 := fk_made .i64 V2 c 3
        have f11 := f11.later (below1 V2 (ob c))
        have f8 := f8.later (below1 V2 (ob c))
        have zl2 : w.heap.size + 2 ≤ V2.heap.size := hS'.z
        have zz : V2.heap.size < (V2.alloc (ob c)).heap.size := by simp
        generalize V2.alloc (ob c) = V3 at hS zz f11 f8 f4 ⊢
        generalize V2.heap.size = kp at zz zl2 f4 z2 ⊢
        have z3 : kp < V3.heap.size := zz
        clear zz hS'
        refine r1 14 rfl (fun K hK => ?_)
        · have hS' := hS
          go_simp
          refine hK.out _ _ (hS.later (below1 _ (ob a))) (fun hS => ?_)
          clear hK K
          have f14 := fk_made .i64 V3 a 3
          have f11 := f11.later (below1 V3 (ob a))
          have f8 := f8.later (below1 V3 (ob a))
          have f4 := f4.later (below1 V3 (ob a))
          have zl3 : w.heap.size + 2 ≤ V3.heap.size := hS'.z
          have zz : V3.heap.size < (V3.alloc (ob a)).heap.size := by simp
          generalize V3.alloc (ob a) = V4 at hS zz f11 f8 f4 f14 ⊢
          generalize V3.heap.size = ke at zz zl3 f14 z3 ⊢
          have z4 : ke < V4.heap.size := zz
          clear zz hS'
          exact tail _ kp ko ki ke ⟨hS, f4, f8, f11, f14, by omega⟩
      · have hS' := hS
        go_simp
        refine hK.out _ _ (hS.later (below1 _ (ob a))) (fun hS => ?_)
        clear hK K
        have f14 := fk_made .i64 V2 a 3
        have f11 := f11.later (below1 V2 (ob a))
        have f8 := f8.later (below1 V2 (ob a))
        have zl2 : w.heap.size + 2 ≤ V2.heap.size := hS'.z
        have zz : V2.heap.size < (V2.alloc (ob a)).heap.size := by simp
        generalize V2.alloc (ob a) = V3 at hS zz f11 f8 f14 ⊢
        generalize V2.heap.size = ke at zz zl2 f14 z2 ⊢
        have z3 : ke < V3.heap.size := zz
        clear zz hS'
        refine r1 4 rfl (fun K hK => ?_)
        · have hS' := hS
          go_simp
          refine hK.out _ _ (hS.later (below1 _ (ob c))) (fun hS => ?_)
          clear hK K
          have f4 := fk_made .i64 V3 c 3
          have f11 := f11.later (below1 V3 (ob c))
          have f8 := f8.later (below1 V3 (ob c))
          have f14 := f14.later (below1 V3 (ob c))
          have zl3 : w.heap.size + 2 ≤ V3.heap.size := hS'.z
          have zz : V3.heap.size < (V3.alloc (ob c)).heap.size := by simp
          generalize V3.alloc (ob c) = V4 at hS zz f11 f8 f14 f4 ⊢
          generalize V3.heap.size = kp at zz zl3 f4 z3 ⊢
          have z4 : kp < V4.heap.size := zz
          clear zz hS'
          exact tail _ kp ko ki ke ⟨hS, f4, f8, f11, f14, by omega⟩
    · have hS' := hS
      go_simp
      refine hK.out _ _ (hS.later (below1 _ (ob a))) (fun hS => ?_)
      clear hK K
      have f14 := fk_made .i64 V1 a 3
      have f11 := f11.later (below1 V1 (ob a))
      have zl1 : w.heap.size + 2 ≤ V1.heap.size := hS'.z
      have zz : V1.heap.size < (V1.alloc (ob a)).heap.size := by simp
      generalize V1.alloc (ob a) = V2 at hS zz f11 f14 ⊢
      generalize V1.heap.size = ke at zz zl1 f14 z1 ⊢
      have z2 : ke < V2.heap.size := zz
      clear zz hS'
      refine wpAnyH_ready (rs := [4, 8]) (by kernel_rfl) (by simp) ?_
      refine AllReadyH.cons rfl (fun K hK => ?_) (AllReadyH.cons rfl (fun K hK => ?_) AllReadyH.nil)
      · have hS' := hS
        go_simp
        refine hK.out _ _ (hS.later (below1 _ (ob c))) (fun hS => ?_)
        clear hK K
        have f4 := fk_made .i64 V2 c 3
        have f11 := f11.later (below1 V2 (ob c))
        have f14 := f14.later (below1 V2 (ob c))
        have zl2 : w.heap.size + 2 ≤ V2.heap.size := hS'.z
        have zz : V2.heap.size < (V2.alloc (ob c)).heap.size := by simp
        generalize V2.alloc (ob c) = V3 at hS zz f11 f14 f4 ⊢
        generalize V2.heap.size = kp at zz zl2 f4 z2 ⊢
        have z3 : kp < V3.heap.size := zz
        clear zz hS'
        refine r1 8 rfl (fun K hK => ?_)
        · have hS' := hS
          go_simp
          refine hK.out _ _ (hS.later (below1 _ (ob d))) (fun hS => ?_)
          clear hK K
          have f8 := fk_made .i64 V3 d 3
          have f11 := f11.later (below1 V3 (ob d))
          have f14 := f14.later (below1 V3 (ob d))
          have f4 := f4.later (below1 V3 (ob d))
          have zl3 : w.heap.size + 2 ≤ V3.heap.size := hS'.z
          have zz : V3.heap.size < (V3.alloc (ob d)).heap.size := by simp
          generalize V3.alloc (ob d) = V4 at hS zz f11 f14 f4 f8 ⊢
          generalize V3.heap.size = ko at zz zl3 f8 z3 ⊢
          have z4 : ko < V4.heap.size := zz
          clear zz hS'
          exact tail _ kp ko ki ke ⟨hS, f4, f8, f11, f14, by omega⟩
      · have hS' := hS
        go_simp
        refine hK.out _ _ (hS.later (below1 _ (ob d))) (fun hS => ?_)
        clear hK K
        have f8 := fk_made .i64 V2 d 3
        have f11 := f11.later (below1 V2 (ob d))
        have f14 := f14.later (below1 V2 (ob d))
        have zl2 : w.heap.size + 2 ≤ V2.heap.size := hS'.z
        have zz : V2.heap.size < (V2.alloc (ob d)).heap.size := by simp
        generalize V2.alloc (ob d) = V3 at hS zz f11 f14 f8 ⊢
        generalize V2.heap.size = ko at zz zl2 f8 z2 ⊢
        have z3 : ko < V3.heap.size := zz
        clear zz hS'
        refine r1 4 rfl (fun K hK => ?_)
        · have hS' := hS
          go_simp
          refine hK.out _ _ (hS.later (below1 _ (ob c))) (fun hS => ?_)
          clear hK K
          have f4 := fk_made .i64 V3 c 3
          have f11 := f11.later (below1 V3 (ob c))
          have f14 := f14.later (below1 V3 (ob c))
          have f8 := f8.later (below1 V3 (ob c))
          have zl3 : w.heap.size + 2 ≤ V3.heap.size := hS'.z
          have zz : V3.heap.size < (V3.alloc (ob c)).heap.size := by simp
          generalize V3.alloc (ob c) = V4 at hS zz f11 f14 f8 f4 ⊢
          generalize V3.heap.size = kp at zz zl3 f4 z3 ⊢
          have z4 : kp < V4.heap.size := zz
          clear zz hS'
          exact tail _ kp ko ki ke ⟨hS, f4, f8, f11, f14, by omega⟩
  · have hS' := hS
    go_simp
    refine hK.out _ _ (hS.later (below1 _ (ob a))) (fun hS => ?_)
    clear hK K
    have f14 := fk_made .i64 V0 a 3
    have zl0 : w.heap.size + 2 ≤ V0.heap.size := hS'.z
    have zz : V0.heap.size < (V0.alloc (ob a)).heap.size := by simp
    generalize V0.alloc (ob a) = V1 at hS zz f14 ⊢
    generalize V0.heap.size = ke at zz zl0 f14  ⊢
    have z1 : ke < V1.heap.size := zz
    clear zz hS'
    refine wpAnyH_ready (rs := [4, 8, 11]) (by kernel_rfl) (by simp) ?_
    refine AllReadyH.cons rfl (fun K hK => ?_) (AllReadyH.cons rfl (fun K hK => ?_) (AllReadyH.cons rfl (fun K hK => ?_) AllReadyH.nil))
    · have hS' := hS
      go_simp
      refine hK.out _ _ (hS.later (below1 _ (ob c))) (fun hS => ?_)
      clear hK K
      have f4 := fk_made .i64 V1 c 3
      have f14 := f14.later (below1 V1 (ob c))
      have zl1 : w.heap.size + 2 ≤ V1.heap.size := hS'.z
      have zz : V1.heap.size < (V1.alloc (ob c)).heap.size := by simp
      generalize V1.alloc (ob c) = V2 at hS zz f14 f4 ⊢
      generalize V1.heap.size = kp at zz zl1 f4 z1 ⊢
      have z2 : kp < V2.heap.size := zz
      clear zz hS'
      refine wpAnyH_ready (rs := [8, 11]) (by kernel_rfl) (by simp) ?_
      refine AllReadyH.cons rfl (fun K hK => ?_) (AllReadyH.cons rfl (fun K hK => ?_) AllReadyH.nil)
      · have hS' := hS
        go_simp
        refine hK.out _ _ (hS.later (below1 _ (ob d))) (fun hS => ?_)
        clear hK K
        have f8 := fk_made .i64 V2 d 3
        have f14 := f14.later (below1 V2 (ob d))
        have f4 := f4.later (below1 V2 (ob d))
        have zl2 : w.heap.size + 2 ≤ V2.heap.size := hS'.z
        have zz : V2.heap.size < (V2.alloc (ob d)).heap.size := by simp
        generalize V2.alloc (ob d) = V3 at hS zz f14 f4 f8 ⊢
        generalize V2.heap.size = ko at zz zl2 f8 z2 ⊢
        have z3 : ko < V3.heap.size := zz
        clear zz hS'
        refine r1 11 rfl (fun K hK => ?_)
        · have hS' := hS
          go_simp
          refine hK.out _ _ (hS.later (below1 _ (ob a))) (fun hS => ?_)
          clear hK K
          have f11 := fk_made .i64 V3 a 3
          have f14 := f14.later (below1 V3 (ob a))
          have f4 := f4.later (below1 V3 (ob a))
          have f8 := f8.later (below1 V3 (ob a))
          have zl3 : w.heap.size + 2 ≤ V3.heap.size := hS'.z
          have zz : V3.heap.size < (V3.alloc (ob a)).heap.size := by simp
          generalize V3.alloc (ob a) = V4 at hS zz f14 f4 f8 f11 ⊢
          generalize V3.heap.size = ki at zz zl3 f11 z3 ⊢
          have z4 : ki < V4.heap.size := zz
          clear zz hS'
          exact tail _ kp ko ki ke ⟨hS, f4, f8, f11, f14, by omega⟩
      · have hS' := hS
        go_simp
        refine hK.out _ _ (hS.later (below1 _ (ob a))) (fun hS => ?_)
        clear hK K
        have f11 := fk_made .i64 V2 a 3
        have f14 := f14.later (below1 V2 (ob a))
        have f4 := f4.later (below1 V2 (ob a))
        have zl2 : w.heap.size + 2 ≤ V2.heap.size := hS'.z
        have zz : V2.heap.size < (V2.alloc (ob a)).heap.size := by simp
        generalize V2.alloc (ob a) = V3 at hS zz f14 f4 f11 ⊢
        generalize V2.heap.size = ki at zz zl2 f11 z2 ⊢
        have z3 : ki < V3.heap.size := zz
        clear zz hS'
        refine r1 8 rfl (fun K hK => ?_)
        · have hS' := hS
          go_simp
          refine hK.out _ _ (hS.later (below1 _ (ob d))) (fun hS => ?_)
          clear hK K
          have f8 := fk_made .i64 V3 d 3
          have f14 := f14.later (below1 V3 (ob d))
          have f4 := f4.later (below1 V3 (ob d))
          have f11 := f11.later (below1 V3 (ob d))
          have zl3 : w.heap.size + 2 ≤ V3.heap.size := hS'.z
          have zz : V3.heap.size < (V3.alloc (ob d)).heap.size := by simp
          generalize V3.alloc (ob d) = V4 at hS zz f14 f4 f11 f8 ⊢
          generalize V3.heap.size = ko at zz zl3 f8 z3 ⊢
          have z4 : ko < V4.heap.size := zz
          clear zz hS'
          exact tail _ kp ko ki ke ⟨hS, f4, f8, f11, f14, by omega⟩
    · have hS' := hS
      go_simp
      refine hK.out _ _ (hS.later (below1 _ (ob d))) (fun hS => ?_)
      clear hK K
      have f8 := fk_made .i64 V1 d 3
      have f14 := f14.later (below1 V1 (ob d))
      have zl1 : w.heap.size + 2 ≤ V1.heap.size := hS'.z
      have zz : V1.heap.size < (V1.alloc (ob d)).heap.size := by simp
      generalize V1.alloc (ob d) = V2 at hS zz f14 f8 ⊢
      generalize V1.heap.size = ko at zz zl1 f8 z1 ⊢
      have z2 : ko < V2.heap.size := zz
      clear zz hS'
      refine wpAnyH_ready (rs := [4, 11]) (by kernel_rfl) (by simp) ?_
      refine AllReadyH.cons rfl (fun K hK => ?_) (AllReadyH.cons rfl (fun K hK => ?_) AllReadyH.nil)
      · have hS' := hS
        go_simp
        refine hK.out _ _ (hS.later (below1 _ (ob c))) (fun hS => ?_)
        clear hK K
        have f4 := fk_made .i64 V2 c 3
        have f14 := f14.later (below1 V2 (ob c))
        have f8 := f8.later (below1 V2 (ob c))
        have zl2 : w.heap.size + 2 ≤ V2.heap.size := hS'.z
        have zz : V2.heap.size < (V2.alloc (ob c)).heap.size := by simp
        generalize V2.alloc (ob c) = V3 at hS zz f14 f8 f4 ⊢
        generalize V2.heap.size = kp at zz zl2 f4 z2 ⊢
        have z3 : kp < V3.heap.size := zz
        clear zz hS'
        refine r1 11 rfl (fun K hK => ?_)
        · have hS' := hS
          go_simp
          refine hK.out _ _ (hS.later (below1 _ (ob a))) (fun hS => ?_)
          clear hK K
          have f11 := fk_made .i64 V3 a 3
          have f14 := f14.later (below1 V3 (ob a))
          have f8 := f8.later (below1 V3 (ob a))
          have f4 := f4.later (below1 V3 (ob a))
          have zl3 : w.heap.size + 2 ≤ V3.heap.size := hS'.z
          have zz : V3.heap.size < (V3.alloc (ob a)).heap.size := by simp
          generalize V3.alloc (ob a) = V4 at hS zz f14 f8 f4 f11 ⊢
          generalize V3.heap.size = ki at zz zl3 f11 z3 ⊢
          have z4 : ki < V4.heap.size := zz
          clear zz hS'
          exact tail _ kp ko ki ke ⟨hS, f4, f8, f11, f14, by omega⟩
      · have hS' := hS
        go_simp
        refine hK.out _ _ (hS.later (below1 _ (ob a))) (fun hS => ?_)
        clear hK K
        have f11 := fk_made .i64 V2 a 3
        have f14 := f14.later (below1 V2 (ob a))
        have f8 := f8.later (below1 V2 (ob a))
        have zl2 : w.heap.size + 2 ≤ V2.heap.size := hS'.z
        have zz : V2.heap.size < (V2.alloc (ob a)).heap.size := by simp
        generalize V2.alloc (ob a) = V3 at hS zz f14 f8 f11 ⊢
        generalize V2.heap.size = ki at zz zl2 f11 z2 ⊢
        have z3 : ki < V3.heap.size := zz
        clear zz hS'
        refine r1 4 rfl (fun K hK => ?_)
        · have hS' := hS
          go_simp
          refine hK.out _ _ (hS.later (below1 _ (ob c))) (fun hS => ?_)
          clear hK K
          have f4 := fk_made .i64 V3 c 3
          have f14 := f14.later (below1 V3 (ob c))
          have f8 := f8.later (below1 V3 (ob c))
          have f11 := f11.later (below1 V3 (ob c))
          have zl3 : w.heap.size + 2 ≤ V3.heap.size := hS'.z
          have zz : V3.heap.size < (V3.alloc (ob c)).heap.size := by simp
          generalize V3.alloc (ob c) = V4 at hS zz f14 f8 f11 f4 ⊢
          generalize V3.heap.size = kp at zz zl3 f4 z3 ⊢
          have z4 : kp < V4.heap.size := zz
          clear zz hS'
          exact tail _ kp ko ki ke ⟨hS, f4, f8, f11, f14, by omega⟩
    · have hS' := hS
      go_simp
      refine hK.out _ _ (hS.later (below1 _ (ob a))) (fun hS => ?_)
      clear hK K
      have f11 := fk_made .i64 V1 a 3
      have f14 := f14.later (below1 V1 (ob a))
      have zl1 : w.heap.size + 2 ≤ V1.heap.size := hS'.z
      have zz : V1.heap.size < (V1.alloc (ob a)).heap.size := by simp
      generalize V1.alloc (ob a) = V2 at hS zz f14 f11 ⊢
      generalize V1.heap.size = ki at zz zl1 f11 z1 ⊢
      have z2 : ki < V2.heap.size := zz
      clear zz hS'
      refine wpAnyH_ready (rs := [4, 8]) (by kernel_rfl) (by simp) ?_
      refine AllReadyH.cons rfl (fun K hK => ?_) (AllReadyH.cons rfl (fun K hK => ?_) AllReadyH.nil)
      · have hS' := hS
        go_simp
        refine hK.out _ _ (hS.later (below1 _ (ob c))) (fun hS => ?_)
        clear hK K
        have f4 := fk_made .i64 V2 c 3
        have f14 := f14.later (below1 V2 (ob c))
        have f11 := f11.later (below1 V2 (ob c))
        have zl2 : w.heap.size + 2 ≤ V2.heap.size := hS'.z
        have zz : V2.heap.size < (V2.alloc (ob c)).heap.size := by simp
        generalize V2.alloc (ob c) = V3 at hS zz f14 f11 f4 ⊢
        generalize V2.heap.size = kp at zz zl2 f4 z2 ⊢
        have z3 : kp < V3.heap.size := zz
        clear zz hS'
        refine r1 8 rfl (fun K hK => ?_)
        · have hS' := hS
          go_simp
          refine hK.out _ _ (hS.later (below1 _ (ob d))) (fun hS => ?_)
          clear hK K
          have f8 := fk_made .i64 V3 d 3
          have f14 := f14.later (below1 V3 (ob d))
          have f11 := f11.later (below1 V3 (ob d))
          have f4 := f4.later (below1 V3 (ob d))
          have zl3 : w.heap.size + 2 ≤ V3.heap.size := hS'.z
          have zz : V3.heap.size < (V3.alloc (ob d)).heap.size := by simp
          generalize V3.alloc (ob d) = V4 at hS zz f14 f11 f4 f8 ⊢
          generalize V3.heap.size = ko at zz zl3 f8 z3 ⊢
          have z4 : ko < V4.heap.size := zz
          clear zz hS'
          exact tail _ kp ko ki ke ⟨hS, f4, f8, f11, f14, by omega⟩
      · have hS' := hS
        go_simp
        refine hK.out _ _ (hS.later (below1 _ (ob d))) (fun hS => ?_)
        clear hK K
        have f8 := fk_made .i64 V2 d 3
        have f14 := f14.later (below1 V2 (ob d))
        have f11 := f11.later (below1 V2 (ob d))
        have zl2 : w.heap.size + 2 ≤ V2.heap.size := hS'.z
        have zz : V2.heap.size < (V2.alloc (ob d)).heap.size := by simp
        generalize V2.alloc (ob d) = V3 at hS zz f14 f11 f8 ⊢
        generalize V2.heap.size = ko at zz zl2 f8 z2 ⊢
        have z3 : ko < V3.heap.size := zz
        clear zz hS'
        refine r1 4 rfl (fun K hK => ?_)
        · have hS' := hS
          go_simp
          refine hK.out _ _ (hS.later (below1 _ (ob c))) (fun hS => ?_)
          clear hK K
          have f4 := fk_made .i64 V3 c 3
          have f14 := f14.later (below1 V3 (ob c))
          have f11 := f11.later (below1 V3 (ob c))
          have f8 := f8.later (below1 V3 (ob c))
          have zl3 : w.heap.size + 2 ≤ V3.heap.size := hS'.z
          have zz : V3.heap.size < (V3.alloc (ob c)).heap.size := by simp
          generalize V3.alloc (ob c) = V4 at hS zz f14 f11 f8 f4 ⊢
          generalize V3.heap.size = kp at zz zl3 f4 z3 ⊢
          have z4 : kp < V4.heap.size := zz
          clear zz hS'
          exact tail _ kp ko ki ke ⟨hS, f4, f8, f11, f14, by omega⟩

theorem sopen_any (s p l : Int) (w : World) :
    Calls Tryd.prog 65 #[.agg #[.int .i64 s, .int .i64 p, .int .i64 l]] w fun e w' => ∃ b' : Bx, e = .returned (.agg b'.cells.toArray) ∧ b'.m = openM s p l ∧ b'.Own w.heap.size w'.heap.size w' ∧ Below w.heap.size w w' := by
  refine (sopen_tight s p l w).mono ?_
  rintro e w' ⟨c, h1, h2, h3, h4, _⟩
  exact ⟨c, h1, h2, h3, h4⟩

end Go.Proofs.YtbipolfbkemmpaaDoor.Book

/- Values are written, by the program: the functions of a visitor. -/
import Derived.Test.YtipbijcmpbefpaaGreatM8
import Derived.Test.YtipbijcmpbefpaaGreatM2
namespace Go.Proofs.YtipbijcmpbefpaaGreat.Book
open Go.ChangeShapes Go.WideShapes Go.ChangeAt Go.RowKit
open Go.Proofs.YtipbijcmpbefpaaGreat.Aid Go.Proofs.YtipbijcmpbefpaaGreat.Lst
set_option maxRecDepth 100000
set_option linter.unusedVariables false

theorem next_in (x : Sx) (j : Nat) (w : World) (h : x.At w) (hj : j < x.n) (hn : x.n ≤ 1000) (h0 : 0 ≤ x.f j) (h1 : x.f j ≤ 1000) :
    Calls Tryz.prog 96 #[.slice x.a x.n x.c, .int .i64 j] w fun e w' => e = .returned (.int .i64 (x.f j + 1)) ∧ w' = w := by
  obtain ⟨k, o, ea, hc⟩ := h.cells (by omega)
  have c := hc j hj
  rw [ea]
  have hji : (j : Int) < x.n := by omega
  have hjn : ¬ x.n ≤ j := by omega
  have hjb : decide ((x.n : Int) ≤ j) = false := by simp; omega
  clear h hc ea
  go_enter Tryz.func96, Tryz.ntmps96
  go_wp2_with (fail)
  go_ret
  exact ⟨rfl, rfl⟩
theorem next_out (x : Sx) (j : Nat) (w : World) (hj : ¬ j < x.n) :
    Calls Tryz.prog 96 #[.slice x.a x.n x.c, .int .i64 j] w fun e w' => e = .returned (.int .i64 0) ∧ w' = w := by
  have hjn : x.n ≤ j := by omega
  have hjb : decide ((x.n : Int) ≤ j) = true := by simp; omega
  go_enter Tryz.func96, Tryz.ntmps96
  go_wp2_with (fail)
  go_ret
  exact ⟨rfl, rfl⟩
def nx (x : Sx) (j : Nat) : Int := if j < x.n then x.f j + 1 else 0
theorem next_any (x : Sx) (j : Nat) (w : World) (h : x.At w) (hn : x.n ≤ 1000) (hb : ∀ i, i < x.n → 0 ≤ x.f i ∧ x.f i ≤ 1000) :
    Calls Tryz.prog 96 #[.slice x.a x.n x.c, .int .i64 j] w fun e w' => e = .returned (.int .i64 (nx x j)) ∧ w' = w := by
  unfold nx
  by_cases hj : j < x.n
  · rw [if_pos hj]; exact next_in x j w h hj hn (hb j hj).1 (hb j hj).2
  · rw [if_neg hj]; exact next_out x j w hj

/- What a function of a visitor rests on: a list in a box, or a book in one, and the values in another. -/
structure VB (vb vk H : Nat) (F : Nat → Int) (w : World) : Prop where
  b : w.cell? ⟨vb, 0, none⟩ = some (.slice (some ⟨vk, 0, none⟩) H H)
  f : Fk .i64 H w vk F
theorem VB.drew {vb vk H : Nat} {F : Nat → Int} {w : World} (h : VB vb vk H F w) : VB vb vk H F w.drew := ⟨h.b, h.f⟩
theorem VB.later {vb vk H : Nat} {F : Nat → Int} {w w1 : World} (h : VB vb vk H F w) (hb : Below w.heap.size w w1) : VB vb vk H F w1 :=
  ⟨(hb.cell (p := ⟨vb, 0, none⟩) (World.block_lt_of_cell? w _ h.b)).trans h.b, h.f.later hb⟩
structure LB (lb : Nat) (x : Sx) (w : World) : Prop where
  b : w.cell? ⟨lb, 0, none⟩ = some (.slice x.a x.n x.c)
  a : x.At w

set_option maxHeartbeats 2000000 in
theorem wcopy_any (lb vb vk H n at_ : Nat) (x : Sx) (F : Nat → Int) (w : World) (hl : LB lb x w) (hv : VB vb vk H F w) (hn : n < x.n) (hx : x.n ≤ 1000) (ha : at_ < H) (hH : H ≤ 1000) (e1 : lb ≠ vk) (e2 : vb ≠ vk) (e3 : ∀ k o, x.a = some ⟨k, o, none⟩ → k ≠ vk) :
    Calls Tryz.prog 93 #[.int .i64 n, .int .i64 at_, .pointer (some ⟨lb, 0, none⟩), .pointer (some ⟨vb, 0, none⟩)] w fun e w' => e = .returned (.tuple #[]) ∧ Fk .i64 H w' vk (upd F at_ (x.f n)) ∧ Only vk (vk + 1) w w' := by
  obtain ⟨k, o, ea, hc⟩ := hl.a.cells (by omega)
  have c := hc n hn
  have lbx := hl.b
  rw [ea] at lbx
  have S0 : (fun w' : World => w'.cell? ⟨lb, 0, none⟩ = some (.slice (some ⟨k, o, none⟩) x.n x.c) ∧ w'.cell? ⟨k, o + n, none⟩ = some (.int .i64 (x.f n)) ∧ w'.cell? ⟨vb, 0, none⟩ = some (.slice (some ⟨vk, 0, none⟩) H H)) w.drew := ⟨lbx, c, hv.b⟩
  have hni : (n : Int) < x.n := by omega
  have hai : (at_ : Int) < H := by omega
  have OD : Hid (Only vk (vk + 1) w w.drew) := ⟨rfl, rfl, rfl, Nat.le_refl _, fun _ _ _ => rfl⟩
  have HF : Hid (Fk .i64 H w.drew vk F) := hv.f
  have e3' : k ≠ vk := e3 k o ea
  clear hl hv hc ea c lbx e3
  go_enter Tryz.func93, Tryz.ntmps93
  refine wp_region_held_drew (S := fun w' : World => w'.cell? ⟨lb, 0, none⟩ = some (.slice (some ⟨k, o, none⟩) x.n x.c) ∧ w'.cell? ⟨k, o + n, none⟩ = some (.int .i64 (x.f n)) ∧ w'.cell? ⟨vb, 0, none⟩ = some (.slice (some ⟨vk, 0, none⟩) H H)) (by kernel_rfl) S0 (fun hS => ?_)
  clear S0
  refine takeB (i := 0) (v := .slice (some ⟨vk, 0, none⟩) H H) (d := some 6) rfl rfl (by kernel_rfl) (by kernel_rfl) (by kernel_rfl) (fun _ _ _ h => h) (Or.inl ⟨by rfl, fun w' hw => ?_⟩) (by assumption) ?_
  · have q := hw.2.2; clear hw; go_simp
  simp only [Act.put, List.setIfInBounds_toArray, List.set_cons_zero, List.set_cons_succ]
  refine takeB (i := 1) (v := .int .i64 at_) (d := some 7) rfl rfl (by kernel_rfl) (by kernel_rfl) (by kernel_rfl) (fun _ _ _ h => h) (Or.inl ⟨by rfl, fun w' hw => ?_⟩) (by assumption) ?_
  · go_simp
  simp only [Act.put, List.setIfInBounds_toArray, List.set_cons_zero, List.set_cons_succ]
  refine takeB (i := 2) (v := .slice (some ⟨k, o, none⟩) x.n x.c) (d := some 8) rfl rfl (by kernel_rfl) (by kernel_rfl) (by kernel_rfl) (fun _ _ _ h => h) (Or.inl ⟨by rfl, fun w' hw => ?_⟩) (by assumption) ?_
  · have q := hw.1; clear hw; go_simp
  simp only [Act.put, List.setIfInBounds_toArray, List.set_cons_zero, List.set_cons_succ]
  refine takeB (i := 3) (v := .int .i64 n) (d := some 9) rfl rfl (by kernel_rfl) (by kernel_rfl) (by kernel_rfl) (fun _ _ _ h => h) (Or.inl ⟨by rfl, fun w' hw => ?_⟩) (by assumption) ?_
  · go_simp
  simp only [Act.put, List.setIfInBounds_toArray, List.set_cons_zero, List.set_cons_succ]
  refine takeB (i := 4) (v := .pointer (some ⟨k, o + n, none⟩)) (d := some 10) rfl rfl (by kernel_rfl) (by kernel_rfl) (by kernel_rfl) (fun _ _ _ h => h) (Or.inl ⟨by rfl, fun w' hw => ?_⟩) (by assumption) ?_
  · clear hw; go_simp
  simp only [Act.put, List.setIfInBounds_toArray, List.set_cons_zero, List.set_cons_succ]
  refine takeB (i := 5) (v := .int .i64 (x.f n)) (d := some 11) rfl rfl (by kernel_rfl) (by kernel_rfl) (by kernel_rfl) (fun _ _ _ h => h) (Or.inl ⟨by rfl, fun w' hw => ?_⟩) (by assumption) ?_
  · have q := hw.2.1; clear hw; go_simp
  simp only [Act.put, List.setIfInBounds_toArray, List.set_cons_zero, List.set_cons_succ]
  refine takeB (i := 6) (v := .pointer (some ⟨vk, at_, none⟩)) (d := some 12) rfl rfl (by kernel_rfl) (by kernel_rfl) (by kernel_rfl) (fun _ _ _ h => h) (Or.inl ⟨by rfl, fun w' hw => ?_⟩) (by assumption) ?_
  · clear hw; go_simp
  simp only [Act.put, List.setIfInBounds_toArray, List.set_cons_zero, List.set_cons_succ]
  refine wpAnyH_ready (rs := [7]) (by kernel_rfl) (by simp) ?_
  refine AllReadyH.cons rfl (fun K hK => ?_) AllReadyH.nil
  have HS : Hid (_ ∧ _) := hS
  clear hS
  generalize World.drew w = V at HS HF OD ⊢
  have cd := HF.out at_ ha
  go_simp
  refine hK.out _ _ ⟨?_, ?_, ?_⟩ (fun hS => ?_)
  · rw [World.cell?_setCell_far _ _ _ _ (fun h => e1 h.symm)]; exact HS.out.1
  · rw [World.cell?_setCell_far _ _ _ _ (fun h => e3' h.symm)]; exact HS.out.2.1
  · rw [World.cell?_setCell_far _ _ _ _ (fun h => e2 h.symm)]; exact HS.out.2.2
  clear hK K
  refine wpAnyH_done (by kernel_rfl) ?_ _
  go_wp2_with (fail)
  exact bodyPost_end (v := .tuple #[]) (by simp [results, Tryz.results93]) rfl ⟨rfl, HF.out.set at_ _ _ (by simp [upd]) (fun i _ hne => by simp [upd, hne]), OD.out.setCell vk at_ (Nat.le_refl _) (by omega) _⟩

/- A book in a box. -/
structure BB (bb : Nat) (b : Bx) (w : World) : Prop where
  r : w.rangeAt bb 0 b.cells
  a : b.At w
def Away (b : Bx) (vk : Nat) : Prop := ∀ x ∈ b.lists, ∀ k o, x.a = some ⟨k, o, none⟩ → 0 < x.n → k ≠ vk

set_option maxHeartbeats 4000000 in
theorem wreg_any (bb vb vk H n at_ : Nat) (b : Bx) (F : Nat → Int) (w : World) (hb : BB bb b w) (hv : VB vb vk H F w) (hn : n < b.i.n) (hn' : n < b.e.n) (hx : b.i.n ≤ 1000) (hx' : b.e.n ≤ 1000) (ha : at_ < H) (hH : H ≤ 1000) (e1 : bb ≠ vk) (e2 : vb ≠ vk) (e3 : Away b vk) (i0 : 0 ≤ b.i.f n) (i1 : b.i.f n ≤ 2) (p0 : 0 ≤ b.e.f n) (p1 : b.e.f n ≤ 4095) :
    Calls Tryz.prog 94 #[.int .i64 n, .int .i64 at_, .pointer (some ⟨bb, 0, none⟩), .pointer (some ⟨vb, 0, none⟩)] w fun e w' => e = .returned (.tuple #[]) ∧ Fk .i64 H w' vk (upd F at_ (b.i.f n + b.e.f n * 4)) ∧ Only vk (vk + 1) w w' := by
  obtain ⟨ki, oi, ei, hi⟩ := (hb.a b.i (by simp [Bx.lists])).cells (by omega)
  obtain ⟨ke, oe, ee, he⟩ := (hb.a b.e (by simp [Bx.lists])).cells (by omega)
  have ci := hi n hn
  have ce := he n hn'
  obtain ⟨-, -, -, -, -, -, -, r7, r8⟩ := nine hb.r
  rw [ei] at r7
  rw [ee] at r8
  have S0 : (fun w' : World => w'.cell? ⟨bb, 7, none⟩ = some (.slice (some ⟨ki, oi, none⟩) b.i.n b.i.c) ∧ w'.cell? ⟨bb, 8, none⟩ = some (.slice (some ⟨ke, oe, none⟩) b.e.n b.e.c) ∧ w'.cell? ⟨ki, oi + n, none⟩ = some (.int .i64 (b.i.f n)) ∧ w'.cell? ⟨ke, oe + n, none⟩ = some (.int .i64 (b.e.f n)) ∧ w'.cell? ⟨vb, 0, none⟩ = some (.slice (some ⟨vk, 0, none⟩) H H)) w.drew := ⟨r7, r8, ci, ce, hv.b⟩
  have hni : (n : Int) < b.i.n := by omega
  have hne : (n : Int) < b.e.n := by omega
  have hai : (at_ : Int) < H := by omega
  have OD : Hid (Only vk (vk + 1) w w.drew) := ⟨rfl, rfl, rfl, Nat.le_refl _, fun _ _ _ => rfl⟩
  have HF : Hid (Fk .i64 H w.drew vk F) := hv.f
  have q1 : ki ≠ vk := e3 b.i (by simp [Bx.lists]) ki oi ei (by omega)
  have q2 : ke ≠ vk := e3 b.e (by simp [Bx.lists]) ke oe ee (by omega)
  have ob := Words.or_low2 (b.i.f n) (b.e.f n) i0 i1 p0 p1
  clear hb hv hi he ei ee ci ce r7 r8 e3
  go_enter Tryz.func94, Tryz.ntmps94
  refine wp_region_held_drew (S := fun w' : World => w'.cell? ⟨bb, 7, none⟩ = some (.slice (some ⟨ki, oi, none⟩) b.i.n b.i.c) ∧ w'.cell? ⟨bb, 8, none⟩ = some (.slice (some ⟨ke, oe, none⟩) b.e.n b.e.c) ∧ w'.cell? ⟨ki, oi + n, none⟩ = some (.int .i64 (b.i.f n)) ∧ w'.cell? ⟨ke, oe + n, none⟩ = some (.int .i64 (b.e.f n)) ∧ w'.cell? ⟨vb, 0, none⟩ = some (.slice (some ⟨vk, 0, none⟩) H H)) (by kernel_rfl) S0 (fun hS => ?_)
  clear S0
  refine takeB (i := 0) (v := .slice (some ⟨vk, 0, none⟩) H H) (d := some 6) rfl rfl (by kernel_rfl) (by kernel_rfl) (by kernel_rfl) (fun _ _ _ h => h) (Or.inl ⟨by rfl, fun w' hw => ?_⟩) (by assumption) ?_
  · have q := hw.2.2.2.2; clear hw; go_simp
  simp only [Act.put, List.setIfInBounds_toArray, List.set_cons_zero, List.set_cons_succ]
  refine takeB (i := 1) (v := .int .i64 at_) (d := some 7) rfl rfl (by kernel_rfl) (by kernel_rfl) (by kernel_rfl) (fun _ _ _ h => h) (Or.inl ⟨by rfl, fun w' hw => ?_⟩) (by assumption) ?_
  · go_simp
  simp only [Act.put, List.setIfInBounds_toArray, List.set_cons_zero, List.set_cons_succ]
  refine takeB (i := 2) (v := .pointer (some ⟨bb, 7, none⟩)) (d := some 8) rfl rfl (by kernel_rfl) (by kernel_rfl) (by kernel_rfl) (fun _ _ _ h => h) (Or.inl ⟨by rfl, fun w' hw => ?_⟩) (by assumption) ?_
  · clear hw; go_simp
  simp only [Act.put, List.setIfInBounds_toArray, List.set_cons_zero, List.set_cons_succ]
  refine takeB (i := 3) (v := .slice (some ⟨ki, oi, none⟩) b.i.n b.i.c) (d := some 9) rfl rfl (by kernel_rfl) (by kernel_rfl) (by kernel_rfl) (fun _ _ _ h => h) (Or.inl ⟨by rfl, fun w' hw => ?_⟩) (by assumption) ?_
  · have q := hw.1; clear hw; go_simp
  simp only [Act.put, List.setIfInBounds_toArray, List.set_cons_zero, List.set_cons_succ]
  refine takeB (i := 4) (v := .int .i64 n) (d := some 10) rfl rfl (by kernel_rfl) (by kernel_rfl) (by kernel_rfl) (fun _ _ _ h => h) (Or.inl ⟨by rfl, fun w' hw => ?_⟩) (by assumption) ?_
  · go_simp
  simp only [Act.put, List.setIfInBounds_toArray, List.set_cons_zero, List.set_cons_succ]
  refine takeB (i := 5) (v := .pointer (some ⟨ki, oi + n, none⟩)) (d := some 11) rfl rfl (by kernel_rfl) (by kernel_rfl) (by kernel_rfl) (fun _ _ _ h => h) (Or.inl ⟨by rfl, fun w' hw => ?_⟩) (by assumption) ?_
  · clear hw; go_simp
  simp only [Act.put, List.setIfInBounds_toArray, List.set_cons_zero, List.set_cons_succ]
  refine takeB (i := 6) (v := .int .i64 (b.i.f n)) (d := some 12) rfl rfl (by kernel_rfl) (by kernel_rfl) (by kernel_rfl) (fun _ _ _ h => h) (Or.inl ⟨by rfl, fun w' hw => ?_⟩) (by assumption) ?_
  · have q := hw.2.2.1; clear hw; go_simp
  simp only [Act.put, List.setIfInBounds_toArray, List.set_cons_zero, List.set_cons_succ]
  refine takeB (i := 7) (v := .int .i64 (b.i.f n)) (d := some 13) rfl rfl (by kernel_rfl) (by kernel_rfl) (by kernel_rfl) (fun _ _ _ h => h) (Or.inl ⟨by rfl, fun w' hw => ?_⟩) (by assumption) ?_
  · clear hw; have w1 : IntKind.i64.wrap (b.i.f n) = b.i.f n := (by rw [IntKind.wrap_i64]; omega); go_simp
  simp only [Act.put, List.setIfInBounds_toArray, List.set_cons_zero, List.set_cons_succ]
  refine takeB (i := 8) (v := .pointer (some ⟨bb, 8, none⟩)) (d := some 14) rfl rfl (by kernel_rfl) (by kernel_rfl) (by kernel_rfl) (fun _ _ _ h => h) (Or.inl ⟨by rfl, fun w' hw => ?_⟩) (by assumption) ?_
  · clear hw; go_simp
  simp only [Act.put, List.setIfInBounds_toArray, List.set_cons_zero, List.set_cons_succ]
  refine takeB (i := 9) (v := .slice (some ⟨ke, oe, none⟩) b.e.n b.e.c) (d := some 15) rfl rfl (by kernel_rfl) (by kernel_rfl) (by kernel_rfl) (fun _ _ _ h => h) (Or.inl ⟨by rfl, fun w' hw => ?_⟩) (by assumption) ?_
  · have q := hw.2.1; clear hw; go_simp
  simp only [Act.put, List.setIfInBounds_toArray, List.set_cons_zero, List.set_cons_succ]
  refine takeB (i := 10) (v := .int .i64 n) (d := some 16) rfl rfl (by kernel_rfl) (by kernel_rfl) (by kernel_rfl) (fun _ _ _ h => h) (Or.inl ⟨by rfl, fun w' hw => ?_⟩) (by assumption) ?_
  · go_simp
  simp only [Act.put, List.setIfInBounds_toArray, List.set_cons_zero, List.set_cons_succ]
  refine takeB (i := 11) (v := .pointer (some ⟨ke, oe + n, none⟩)) (d := some 17) rfl rfl (by kernel_rfl) (by kernel_rfl) (by kernel_rfl) (fun _ _ _ h => h) (Or.inl ⟨by rfl, fun w' hw => ?_⟩) (by assumption) ?_
  · clear hw; go_simp
  simp only [Act.put, List.setIfInBounds_toArray, List.set_cons_zero, List.set_cons_succ]
  refine takeB (i := 12) (v := .int .i64 (b.e.f n)) (d := some 18) rfl rfl (by kernel_rfl) (by kernel_rfl) (by kernel_rfl) (fun _ _ _ h => h) (Or.inl ⟨by rfl, fun w' hw => ?_⟩) (by assumption) ?_
  · have q := hw.2.2.2.1; clear hw; go_simp
  simp only [Act.put, List.setIfInBounds_toArray, List.set_cons_zero, List.set_cons_succ]
  refine takeB (i := 13) (v := .int .i64 (b.e.f n * 4)) (d := some 19) rfl rfl (by kernel_rfl) (by kernel_rfl) (by kernel_rfl) (fun _ _ _ h => h) (Or.inl ⟨by rfl, fun w' hw => ?_⟩) (by assumption) ?_
  · clear hw; have w1 : IntKind.i64.wrap (b.e.f n * 4) = b.e.f n * 4 := (by rw [IntKind.wrap_i64]; omega); go_simp
  simp only [Act.put, List.setIfInBounds_toArray, List.set_cons_zero, List.set_cons_succ]
  refine takeB (i := 14) (v := .int .i64 (b.i.f n + b.e.f n * 4)) (d := some 20) rfl rfl (by kernel_rfl) (by kernel_rfl) (by kernel_rfl) (fun _ _ _ h => h) (Or.inl ⟨by rfl, fun w' hw => ?_⟩) (by assumption) ?_
  · clear hw; go_simp
  simp only [Act.put, List.setIfInBounds_toArray, List.set_cons_zero, List.set_cons_succ]
  refine takeB (i := 15) (v := .pointer (some ⟨vk, at_, none⟩)) (d := some 21) rfl rfl (by kernel_rfl) (by kernel_rfl) (by kernel_rfl) (fun _ _ _ h => h) (Or.inl ⟨by rfl, fun w' hw => ?_⟩) (by assumption) ?_
  · clear hw; go_simp
  simp only [Act.put, List.setIfInBounds_toArray, List.set_cons_zero, List.set_cons_succ]
  refine wpAnyH_ready (rs := [16]) (by kernel_rfl) (by simp) ?_
  refine AllReadyH.cons rfl (fun K hK => ?_) AllReadyH.nil
  have HS : Hid (_ ∧ _) := hS
  clear hS
  generalize World.drew w = V at HS HF OD ⊢
  have cd := HF.out at_ ha
  go_simp
  refine hK.out _ _ ⟨?_, ?_, ?_, ?_, ?_⟩ (fun hS => ?_)
  · rw [World.cell?_setCell_far _ _ _ _ (fun h => e1 h.symm)]; exact HS.out.1
  · rw [World.cell?_setCell_far _ _ _ _ (fun h => e1 h.symm)]; exact HS.out.2.1
  · rw [World.cell?_setCell_far _ _ _ _ (fun h => q1 h.symm)]; exact HS.out.2.2.1
  · rw [World.cell?_setCell_far _ _ _ _ (fun h => q2 h.symm)]; exact HS.out.2.2.2.1
  · rw [World.cell?_setCell_far _ _ _ _ (fun h => e2 h.symm)]; exact HS.out.2.2.2.2
  clear hK K
  refine wpAnyH_done (by kernel_rfl) ?_ _
  go_wp2_with (fail)
  exact bodyPost_end (v := .tuple #[]) (by simp [results, Tryz.results94]) rfl ⟨rfl, HF.out.set at_ _ _ (by simp [upd]) (fun i _ hne => by simp [upd, hne]), OD.out.setCell vk at_ (Nat.le_refl _) (by omega) _⟩

set_option maxHeartbeats 4000000 in
theorem whead_any (bb vb vk H n at_ : Nat) (b : Bx) (F : Nat → Int) (w : World) (hb : BB bb b w) (hv : VB vb vk H F w) (hn : n < 4) (hx : (b.hd n).n ≤ 1000) (hr : ∀ i, i < (b.hd n).n → 0 ≤ (b.hd n).f i ∧ (b.hd n).f i ≤ 1000) (ha : at_ < H) (hH : H ≤ 1000) (e1 : bb ≠ vk) (e2 : vb ≠ vk) (e3 : Away b vk) :
    Calls Tryz.prog 95 #[.int .i64 n, .int .i64 at_, .pointer (some ⟨bb, 0, none⟩), .pointer (some ⟨vb, 0, none⟩)] w fun e w' => e = .returned (.tuple #[]) ∧ Fk .i64 H w' vk (upd F at_ (nx (b.hd n) 0)) ∧ Only vk (vk + 1) w w' := by
  have rh : w.cell? ⟨bb, 2 + n, none⟩ = some (.slice (b.hd n).a (b.hd n).n (b.hd n).c) := by
    obtain ⟨-, -, r2, r3, r4, r5, -, -, -⟩ := nine hb.r
    match n, hn with
    | 0, _ => exact r2
    | 1, _ => exact r3
    | 2, _ => exact r4
    | 3, _ => exact r5
  have aw : ∀ k o, (b.hd n).a = some ⟨k, o, none⟩ → 0 < (b.hd n).n → k ≠ vk := e3 (b.hd n) (b.hd_mem n)
  have S0 : (fun w' : World => w'.cell? ⟨bb, 2 + n, none⟩ = some (.slice (b.hd n).a (b.hd n).n (b.hd n).c) ∧ (b.hd n).At w' ∧ w'.cell? ⟨vb, 0, none⟩ = some (.slice (some ⟨vk, 0, none⟩) H H)) w.drew := ⟨rh, hb.a _ (b.hd_mem n), hv.b⟩
  have hni : (n : Int) < 4 := by omega
  have hai : (at_ : Int) < H := by omega
  have OD : Hid (Only vk (vk + 1) w w.drew) := ⟨rfl, rfl, rfl, Nat.le_refl _, fun _ _ _ => rfl⟩
  have HF : Hid (Fk .i64 H w.drew vk F) := hv.f
  generalize b.hd n = x at *
  have HR : Hid (∀ i, i < x.n → 0 ≤ x.f i ∧ x.f i ≤ 1000) := hr
  have AW : Hid (∀ k o, x.a = some ⟨k, o, none⟩ → 0 < x.n → k ≠ vk) := aw
  clear hb hv rh e3 hr aw
  go_enter Tryz.func95, Tryz.ntmps95
  refine wp_region_held_drew (S := fun w' : World => w'.cell? ⟨bb, 2 + n, none⟩ = some (.slice x.a x.n x.c) ∧ x.At w' ∧ w'.cell? ⟨vb, 0, none⟩ = some (.slice (some ⟨vk, 0, none⟩) H H)) (by kernel_rfl) S0 (fun hS => ?_)
  clear S0
  refine takeB (i := 0) (v := .slice (some ⟨vk, 0, none⟩) H H) (d := some 6) rfl rfl (by kernel_rfl) (by kernel_rfl) (by kernel_rfl) (fun _ _ _ h => h) (Or.inl ⟨by rfl, fun w' hw => ?_⟩) (by assumption) ?_
  · have q := hw.2.2; clear hw; go_simp
  simp only [Act.put, List.setIfInBounds_toArray, List.set_cons_zero, List.set_cons_succ]
  refine takeB (i := 1) (v := .int .i64 at_) (d := some 7) rfl rfl (by kernel_rfl) (by kernel_rfl) (by kernel_rfl) (fun _ _ _ h => h) (Or.inl ⟨by rfl, fun w' hw => ?_⟩) (by assumption) ?_
  · go_simp
  simp only [Act.put, List.setIfInBounds_toArray, List.set_cons_zero, List.set_cons_succ]
  refine takeB (i := 2) (v := .int .i64 n) (d := some 8) rfl rfl (by kernel_rfl) (by kernel_rfl) (by kernel_rfl) (fun _ _ _ h => h) (Or.inl ⟨by rfl, fun w' hw => ?_⟩) (by assumption) ?_
  · go_simp
  simp only [Act.put, List.setIfInBounds_toArray, List.set_cons_zero, List.set_cons_succ]
  refine takeB (i := 3) (v := .pointer (some ⟨bb, 2, none⟩)) (d := some 9) rfl rfl (by kernel_rfl) (by kernel_rfl) (by kernel_rfl) (fun _ _ _ h => h) (Or.inl ⟨by rfl, fun w' hw => ?_⟩) (by assumption) ?_
  · clear hw; go_simp
  simp only [Act.put, List.setIfInBounds_toArray, List.set_cons_zero, List.set_cons_succ]
  refine takeB (i := 4) (v := .pointer (some ⟨bb, 2 + n, none⟩)) (d := some 10) rfl rfl (by kernel_rfl) (by kernel_rfl) (by kernel_rfl) (fun _ _ _ h => h) (Or.inl ⟨by rfl, fun w' hw => ?_⟩) (by assumption) ?_
  · clear hw; go_simp
  simp only [Act.put, List.setIfInBounds_toArray, List.set_cons_zero, List.set_cons_succ]
  refine takeB (i := 5) (v := .slice x.a x.n x.c) (d := some 11) rfl rfl (by kernel_rfl) (by kernel_rfl) (by kernel_rfl) (fun _ _ _ h => h) (Or.inl ⟨by rfl, fun w' hw => ?_⟩) (by assumption) ?_
  · have q := hw.1; clear hw; go_simp
  simp only [Act.put, List.setIfInBounds_toArray, List.set_cons_zero, List.set_cons_succ]
  refine wpAnyH_ready (rs := [6]) (by kernel_rfl) (by simp) ?_
  refine AllReadyH.cons rfl (fun K hK => ?_) AllReadyH.nil
  have HS : Hid (_ ∧ _) := hS
  clear hS
  generalize World.drew w = V at HS HF OD ⊢
  go_simp
  refine (next_any x 0 V HS.out.2.1 hx HR.out).mono ?_
  rintro e V ⟨rfl, rfl⟩
  go_simp
  refine hK.out _ _ HS.out (fun hS => ?_)
  clear hK K HS
  refine takeB (i := 7) (v := .pointer (some ⟨vk, at_, none⟩)) (d := some 13) rfl rfl (by kernel_rfl) (by kernel_rfl) (by kernel_rfl) (fun _ _ _ h => h) (Or.inl ⟨by rfl, fun w' hw => ?_⟩) (by assumption) ?_
  · clear hw; go_simp
  simp only [Act.put, List.setIfInBounds_toArray, List.set_cons_zero, List.set_cons_succ]
  refine wpAnyH_ready (rs := [8]) (by kernel_rfl) (by simp) ?_
  refine AllReadyH.cons rfl (fun K hK => ?_) AllReadyH.nil
  have HS : Hid (_ ∧ _) := hS
  clear hS
  have cd := HF.out at_ ha
  go_simp
  refine hK.out _ _ ⟨?_, ?_, ?_⟩ (fun hS => ?_)
  · rw [World.cell?_setCell_far _ _ _ _ (fun h => e1 h.symm)]; exact HS.out.1
  · rcases HS.out.2.1 with h0 | ⟨k, o, ea, hc⟩
    · exact .inl h0
    · exact .inr ⟨k, o, ea, fun j hj => by rw [World.cell?_setCell_far _ _ _ _ (fun h => AW.out k o ea (by omega) h.symm)]; exact hc j hj⟩
  · rw [World.cell?_setCell_far _ _ _ _ (fun h => e2 h.symm)]; exact HS.out.2.2
  clear hK K
  refine wpAnyH_done (by kernel_rfl) ?_ _
  go_wp2_with (fail)
  exact bodyPost_end (v := .tuple #[]) (by simp [results, Tryz.results95]) rfl ⟨rfl, HF.out.set at_ _ _ (by simp [upd]) (fun i _ hne => by simp [upd, hne]), OD.out.setCell vk at_ (Nat.le_refl _) (by omega) _⟩

end Go.Proofs.YtipbijcmpbefpaaGreat.Book

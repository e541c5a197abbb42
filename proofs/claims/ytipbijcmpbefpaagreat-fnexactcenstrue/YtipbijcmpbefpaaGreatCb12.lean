/- Whether words have values, where they stand for a book; by the program. -/
import Derived.Test.YtipbijcmpbefpaaGreatCb5
import Derived.Test.YtipbijcmpbefpaaGreatCb11
namespace Go.Proofs.YtipbijcmpbefpaaGreat.Book
open Go.ChangeShapes Go.WideShapes Go.ChangeAt Go.RowKit
open Go.Proofs.YtipbijcmpbefpaaGreat.Aid Go.Proofs.YtipbijcmpbefpaaGreat.Lst Go.Proofs.YtipbijcmpbefpaaGreat.Words
open Go.Proofs.YtipbijcmpbefpaaGreat.Plat (okB okB_of getF W64 layL layL_len layL_get)
set_option maxRecDepth 100000
set_option linter.unusedVariables false

set_option maxHeartbeats 2000000 in
theorem stand_no (sb wb vb vk H n at_ : Nat) (a : Option Addr) (N cap : Nat) (f F : Nat → Int) (w : World) (hs : w.cell? ⟨sb, 0, none⟩ = some (.bool false)) (hz : w.frozen? ⟨sb, 0, none⟩ = false) (hwb : w.cell? ⟨wb, 0, none⟩ = some (.slice a N cap)) (sl : Sl .u64 w a N f) (hv : w.cell? ⟨vb, 0, none⟩ = some (.slice (some ⟨vk, 0, none⟩) H H)) (fk : Fk .i64 H w vk F) (ha : at_ < N) (hH : at_ < H) (hw : W64 f) (e1 : wb ≠ sb) (e2 : vb ≠ sb) (e3 : vk ≠ sb) (e4 : ∀ ka oa, a = some ⟨ka, oa, none⟩ → ka ≠ sb) :
    Calls Tryz.prog 102 #[.int .i64 n, .int .i64 at_, .pointer (some ⟨sb, 0, none⟩), .pointer (some ⟨wb, 0, none⟩), .pointer (some ⟨vb, 0, none⟩)] w fun e w' => e = .returned (.tuple #[]) ∧ ∃ u, Below w.heap.size w u ∧ w' = u.setCell ⟨sb, 0, none⟩ (.bool (false)) := by
  obtain ⟨ka, oa, ea, ca⟩ := sl_cell sl ha
  rw [ea] at hwb
  obtain ⟨g0, g1⟩ := hw at_
  have e4' : ka ≠ sb := e4 ka oa ea
  have cv := (fk at_ hH).1
  have hai : (at_ : Int) < N := by omega
  have haH : (at_ : Int) < H := by omega
  have S0 : (fun w' : World => w'.cell? ⟨wb, 0, none⟩ = some (.slice (some ⟨ka, oa, none⟩) N cap) ∧ w'.cell? ⟨ka, oa + at_, none⟩ = some (.int .u64 (f at_)) ∧ w'.cell? ⟨vb, 0, none⟩ = some (.slice (some ⟨vk, 0, none⟩) H H) ∧ w'.cell? ⟨vk, at_, none⟩ = some (.int .i64 (F at_))) w.drew := ⟨hwb, ca, hv, cv⟩
  have OD : Hid (Below w.heap.size w w.drew) := ⟨rfl, rfl, rfl, Nat.le_refl _, fun _ _ => rfl⟩
  have HC : Hid (w.drew.cell? ⟨sb, 0, none⟩ = some (.bool false)) := hs
  have HF : Hid (w.drew.frozen? ⟨sb, 0, none⟩ = false) := hz
  clear sl fk hwb hv hs hz ea ca cv e4
  go_enter Tryz.func102, Tryz.ntmps102
  refine wp_region_held_drew (S := fun w' : World => w'.cell? ⟨wb, 0, none⟩ = some (.slice (some ⟨ka, oa, none⟩) N cap) ∧ w'.cell? ⟨ka, oa + at_, none⟩ = some (.int .u64 (f at_)) ∧ w'.cell? ⟨vb, 0, none⟩ = some (.slice (some ⟨vk, 0, none⟩) H H) ∧ w'.cell? ⟨vk, at_, none⟩ = some (.int .i64 (F at_))) (by kernel_rfl) S0 (fun hS => ?_)
  clear S0
  generalize World.drew w = V at hS HC HF OD ⊢
  have HS : Hid (_ ∧ _) := hS
  have hc := HC.out
  clear hS
  refine wpAnyH_ready (rs := [0]) (by kernel_rfl) (by simp) ?_
  refine AllReadyH.cons rfl (fun K hK => ?_) AllReadyH.nil
  go_simp
  refine hK.out _ _ HS.out (fun hS => ?_)
  clear hK K
  refine takeB (i := 1) (v := .bool false) (d := some 8) rfl rfl (by kernel_rfl) (by kernel_rfl) (by kernel_rfl) (fun _ _ _ h => h) (Or.inl ⟨by rfl, fun w' hw => ?_⟩) (by assumption) ?_
  · clear hw; go_simp
  simp only [Act.put, List.setIfInBounds_toArray, List.set_cons_zero, List.set_cons_succ]
  refine takeB (i := 2) (v := undef) (d := some 9) rfl rfl (by kernel_rfl) (by kernel_rfl) (by kernel_rfl) (fun _ _ _ h => h) (Or.inr ⟨by rfl, rfl⟩) (by assumption) ?_
  simp only [Act.put, List.setIfInBounds_toArray, List.set_cons_zero, List.set_cons_succ]
  refine takeB (i := 3) (v := undef) (d := some 10) rfl rfl (by kernel_rfl) (by kernel_rfl) (by kernel_rfl) (fun _ _ _ h => h) (Or.inr ⟨by rfl, rfl⟩) (by assumption) ?_
  simp only [Act.put, List.setIfInBounds_toArray, List.set_cons_zero, List.set_cons_succ]
  refine takeB (i := 4) (v := undef) (d := some 11) rfl rfl (by kernel_rfl) (by kernel_rfl) (by kernel_rfl) (fun _ _ _ h => h) (Or.inr ⟨by rfl, rfl⟩) (by assumption) ?_
  simp only [Act.put, List.setIfInBounds_toArray, List.set_cons_zero, List.set_cons_succ]
  refine takeB (i := 5) (v := undef) (d := some 12) rfl rfl (by kernel_rfl) (by kernel_rfl) (by kernel_rfl) (fun _ _ _ h => h) (Or.inr ⟨by rfl, rfl⟩) (by assumption) ?_
  simp only [Act.put, List.setIfInBounds_toArray, List.set_cons_zero, List.set_cons_succ]
  refine takeB (i := 6) (v := undef) (d := some 13) rfl rfl (by kernel_rfl) (by kernel_rfl) (by kernel_rfl) (fun _ _ _ h => h) (Or.inr ⟨by rfl, rfl⟩) (by assumption) ?_
  simp only [Act.put, List.setIfInBounds_toArray, List.set_cons_zero, List.set_cons_succ]
  refine takeB (i := 7) (v := undef) (d := some 14) rfl rfl (by kernel_rfl) (by kernel_rfl) (by kernel_rfl) (fun _ _ _ h => h) (Or.inr ⟨by rfl, rfl⟩) (by assumption) ?_
  simp only [Act.put, List.setIfInBounds_toArray, List.set_cons_zero, List.set_cons_succ]
  refine takeB (i := 8) (v := undef) (d := some 15) rfl rfl (by kernel_rfl) (by kernel_rfl) (by kernel_rfl) (fun _ _ _ h => h) (Or.inr ⟨by rfl, rfl⟩) (by assumption) ?_
  simp only [Act.put, List.setIfInBounds_toArray, List.set_cons_zero, List.set_cons_succ]
  refine takeB (i := 9) (v := undef) (d := some 16) rfl rfl (by kernel_rfl) (by kernel_rfl) (by kernel_rfl) (fun _ _ _ h => h) (Or.inr ⟨by rfl, rfl⟩) (by assumption) ?_
  simp only [Act.put, List.setIfInBounds_toArray, List.set_cons_zero, List.set_cons_succ]
  refine takeB (i := 10) (v := undef) (d := some 17) rfl rfl (by kernel_rfl) (by kernel_rfl) (by kernel_rfl) (fun _ _ _ h => h) (Or.inr ⟨by rfl, rfl⟩) (by assumption) ?_
  simp only [Act.put, List.setIfInBounds_toArray, List.set_cons_zero, List.set_cons_succ]
  refine takeB (i := 11) (v := undef) (d := some 18) rfl rfl (by kernel_rfl) (by kernel_rfl) (by kernel_rfl) (fun _ _ _ h => h) (Or.inr ⟨by rfl, rfl⟩) (by assumption) ?_
  simp only [Act.put, List.setIfInBounds_toArray, List.set_cons_zero, List.set_cons_succ]
  refine takeB (i := 12) (v := .bool false) (d := some 19) rfl rfl (by kernel_rfl) (by kernel_rfl) (by kernel_rfl) (fun _ _ _ h => h) (Or.inl ⟨by rfl, fun w' hw => ?_⟩) (by assumption) ?_
  · clear hw; go_simp
  simp only [Act.put, List.setIfInBounds_toArray, List.set_cons_zero, List.set_cons_succ]
  refine wpAnyH_ready (rs := [13]) (by kernel_rfl) (by simp) ?_
  refine AllReadyH.cons rfl (fun K hK => ?_) AllReadyH.nil
  clear hS
  have hf := HF.out
  go_simp
  refine hK.out _ _ ⟨?_, ?_, ?_, ?_⟩ (fun hS => ?_)
  · rw [World.cell?_setCell_far _ _ _ _ (fun h => e1 h.symm)]; exact HS.out.1
  · rw [World.cell?_setCell_far _ _ _ _ (fun h => e4' h.symm)]; exact HS.out.2.1
  · rw [World.cell?_setCell_far _ _ _ _ (fun h => e2 h.symm)]; exact HS.out.2.2.1
  · rw [World.cell?_setCell_far _ _ _ _ (fun h => e3 h.symm)]; exact HS.out.2.2.2
  clear hK K hS
  refine wpAnyH_done (by kernel_rfl) ?_ _
  go_wp2_with (fail)
  exact bodyPost_end (v := .tuple #[]) (by simp [results, Tryz.results102]) rfl ⟨rfl, V, OD.out, rfl⟩

set_option maxHeartbeats 2000000 in
theorem stand_yes (sb wb vb vk H n at_ : Nat) (a : Option Addr) (N cap : Nat) (f F : Nat → Int) (w : World) (hs : w.cell? ⟨sb, 0, none⟩ = some (.bool true)) (hz : w.frozen? ⟨sb, 0, none⟩ = false) (hwb : w.cell? ⟨wb, 0, none⟩ = some (.slice a N cap)) (sl : Sl .u64 w a N f) (hv : w.cell? ⟨vb, 0, none⟩ = some (.slice (some ⟨vk, 0, none⟩) H H)) (fk : Fk .i64 H w vk F) (ha : at_ < N) (hH : at_ < H) (hw : W64 f) (e1 : wb ≠ sb) (e2 : vb ≠ sb) (e3 : vk ≠ sb) (e4 : ∀ ka oa, a = some ⟨ka, oa, none⟩ → ka ≠ sb) :
    Calls Tryz.prog 102 #[.int .i64 n, .int .i64 at_, .pointer (some ⟨sb, 0, none⟩), .pointer (some ⟨wb, 0, none⟩), .pointer (some ⟨vb, 0, none⟩)] w fun e w' => e = .returned (.tuple #[]) ∧ ∃ u, Below w.heap.size w u ∧ w' = u.setCell ⟨sb, 0, none⟩ (.bool (lo32 (f at_) == F at_)) := by
  obtain ⟨ka, oa, ea, ca⟩ := sl_cell sl ha
  rw [ea] at hwb
  obtain ⟨g0, g1⟩ := hw at_
  have e4' : ka ≠ sb := e4 ka oa ea
  have cv := (fk at_ hH).1
  have hai : (at_ : Int) < N := by omega
  have haH : (at_ : Int) < H := by omega
  have S0 : (fun w' : World => w'.cell? ⟨wb, 0, none⟩ = some (.slice (some ⟨ka, oa, none⟩) N cap) ∧ w'.cell? ⟨ka, oa + at_, none⟩ = some (.int .u64 (f at_)) ∧ w'.cell? ⟨vb, 0, none⟩ = some (.slice (some ⟨vk, 0, none⟩) H H) ∧ w'.cell? ⟨vk, at_, none⟩ = some (.int .i64 (F at_))) w.drew := ⟨hwb, ca, hv, cv⟩
  have OD : Hid (Below w.heap.size w w.drew) := ⟨rfl, rfl, rfl, Nat.le_refl _, fun _ _ => rfl⟩
  have HC : Hid (w.drew.cell? ⟨sb, 0, none⟩ = some (.bool true)) := hs
  have HF : Hid (w.drew.frozen? ⟨sb, 0, none⟩ = false) := hz
  clear sl fk hwb hv hs hz ea ca cv e4
  go_enter Tryz.func102, Tryz.ntmps102
  refine wp_region_held_drew (S := fun w' : World => w'.cell? ⟨wb, 0, none⟩ = some (.slice (some ⟨ka, oa, none⟩) N cap) ∧ w'.cell? ⟨ka, oa + at_, none⟩ = some (.int .u64 (f at_)) ∧ w'.cell? ⟨vb, 0, none⟩ = some (.slice (some ⟨vk, 0, none⟩) H H) ∧ w'.cell? ⟨vk, at_, none⟩ = some (.int .i64 (F at_))) (by kernel_rfl) S0 (fun hS => ?_)
  clear S0
  generalize World.drew w = V at hS HC HF OD ⊢
  have HS : Hid (_ ∧ _) := hS
  have hc := HC.out
  clear hS
  refine wpAnyH_ready (rs := [0]) (by kernel_rfl) (by simp) ?_
  refine AllReadyH.cons rfl (fun K hK => ?_) AllReadyH.nil
  go_simp
  refine hK.out _ _ HS.out (fun hS => ?_)
  clear hK K
  refine takeB (i := 1) (v := .bool true) (d := some 8) rfl rfl (by kernel_rfl) (by kernel_rfl) (by kernel_rfl) (fun _ _ _ h => h) (Or.inl ⟨by rfl, fun w' hw => ?_⟩) (by assumption) ?_
  · clear hw; go_simp
  simp only [Act.put, List.setIfInBounds_toArray, List.set_cons_zero, List.set_cons_succ]
  refine takeB (i := 2) (v := .slice (some ⟨ka, oa, none⟩) N cap) (d := some 9) rfl rfl (by kernel_rfl) (by kernel_rfl) (by kernel_rfl) (fun _ _ _ h => h) (Or.inl ⟨by rfl, fun w' hw => ?_⟩) (by assumption) ?_
  · have q := hw.1; clear hw; go_simp
  simp only [Act.put, List.setIfInBounds_toArray, List.set_cons_zero, List.set_cons_succ]
  refine takeB (i := 3) (v := .int .i64 at_) (d := some 10) rfl rfl (by kernel_rfl) (by kernel_rfl) (by kernel_rfl) (fun _ _ _ h => h) (Or.inl ⟨by rfl, fun w' hw => ?_⟩) (by assumption) ?_
  · clear hw; go_simp
  simp only [Act.put, List.setIfInBounds_toArray, List.set_cons_zero, List.set_cons_succ]
  refine takeB (i := 4) (v := .pointer (some ⟨ka, oa + at_, none⟩)) (d := some 11) rfl rfl (by kernel_rfl) (by kernel_rfl) (by kernel_rfl) (fun _ _ _ h => h) (Or.inl ⟨by rfl, fun w' hw => ?_⟩) (by assumption) ?_
  · clear hw; go_simp
  simp only [Act.put, List.setIfInBounds_toArray, List.set_cons_zero, List.set_cons_succ]
  refine takeB (i := 5) (v := .int .u64 (f at_)) (d := some 12) rfl rfl (by kernel_rfl) (by kernel_rfl) (by kernel_rfl) (fun _ _ _ h => h) (Or.inl ⟨by rfl, fun w' hw => ?_⟩) (by assumption) ?_
  · have q := hw.2.1; clear hw; go_simp
  simp only [Act.put, List.setIfInBounds_toArray, List.set_cons_zero, List.set_cons_succ]
  refine takeB (i := 7) (v := .slice (some ⟨vk, 0, none⟩) H H) (d := some 14) rfl rfl (by kernel_rfl) (by kernel_rfl) (by kernel_rfl) (fun _ _ _ h => h) (Or.inl ⟨by rfl, fun w' hw => ?_⟩) (by assumption) ?_
  · have q := hw.2.2.1; clear hw; go_simp
  simp only [Act.put, List.setIfInBounds_toArray, List.set_cons_zero, List.set_cons_succ]
  refine takeB (i := 8) (v := .int .i64 at_) (d := some 15) rfl rfl (by kernel_rfl) (by kernel_rfl) (by kernel_rfl) (fun _ _ _ h => h) (Or.inl ⟨by rfl, fun w' hw => ?_⟩) (by assumption) ?_
  · clear hw; go_simp
  simp only [Act.put, List.setIfInBounds_toArray, List.set_cons_zero, List.set_cons_succ]
  refine takeB (i := 9) (v := .pointer (some ⟨vk, at_, none⟩)) (d := some 16) rfl rfl (by kernel_rfl) (by kernel_rfl) (by kernel_rfl) (fun _ _ _ h => h) (Or.inl ⟨by rfl, fun w' hw => ?_⟩) (by assumption) ?_
  · clear hw; go_simp
  simp only [Act.put, List.setIfInBounds_toArray, List.set_cons_zero, List.set_cons_succ]
  refine takeB (i := 10) (v := .int .i64 (F at_)) (d := some 17) rfl rfl (by kernel_rfl) (by kernel_rfl) (by kernel_rfl) (fun _ _ _ h => h) (Or.inl ⟨by rfl, fun w' hw => ?_⟩) (by assumption) ?_
  · have q := hw.2.2.2; clear hw; go_simp
  simp only [Act.put, List.setIfInBounds_toArray, List.set_cons_zero, List.set_cons_succ]
  clear hS
  refine wpAnyH_ready (rs := [6]) (by kernel_rfl) (by simp) ?_
  refine AllReadyH.cons rfl (fun K hK => ?_) AllReadyH.nil
  go_simp
  refine (val_any (f at_) V g0 g1).mono ?_
  rintro e V ⟨rfl, rfl⟩
  go_simp
  refine hK.out _ _ HS.out (fun hS => ?_)
  clear hK K
  refine takeB (i := 11) (v := .bool (lo32 (f at_) == F at_)) (d := some 18) rfl rfl (by kernel_rfl) (by kernel_rfl) (by kernel_rfl) (fun _ _ _ h => h) (Or.inl ⟨by rfl, fun w' hw => ?_⟩) (by assumption) ?_
  · clear hw; go_simp
  simp only [Act.put, List.setIfInBounds_toArray, List.set_cons_zero, List.set_cons_succ]
  refine takeB (i := 12) (v := .bool (lo32 (f at_) == F at_)) (d := some 19) rfl rfl (by kernel_rfl) (by kernel_rfl) (by kernel_rfl) (fun _ _ _ h => h) (Or.inl ⟨by rfl, fun w' hw => ?_⟩) (by assumption) ?_
  · clear hw; go_simp
  simp only [Act.put, List.setIfInBounds_toArray, List.set_cons_zero, List.set_cons_succ]
  refine wpAnyH_ready (rs := [13]) (by kernel_rfl) (by simp) ?_
  refine AllReadyH.cons rfl (fun K hK => ?_) AllReadyH.nil
  clear hS
  have hf := HF.out
  go_simp
  refine hK.out _ _ ⟨?_, ?_, ?_, ?_⟩ (fun hS => ?_)
  · rw [World.cell?_setCell_far _ _ _ _ (fun h => e1 h.symm)]; exact HS.out.1
  · rw [World.cell?_setCell_far _ _ _ _ (fun h => e4' h.symm)]; exact HS.out.2.1
  · rw [World.cell?_setCell_far _ _ _ _ (fun h => e2 h.symm)]; exact HS.out.2.2.1
  · rw [World.cell?_setCell_far _ _ _ _ (fun h => e3 h.symm)]; exact HS.out.2.2.2
  clear hK K hS
  refine wpAnyH_done (by kernel_rfl) ?_ _
  go_wp2_with (fail)
  exact bodyPost_end (v := .tuple #[]) (by simp [results, Tryz.results102]) rfl ⟨rfl, V, OD.out, rfl⟩

/- So far: what holds of words and values below T, beats left out. -/
def stP (S : Nat) (f F : Nat → Int) (T : Nat) : Prop := ∀ j, 3 ≤ j → j < T → ¬ (3 + S ≤ j ∧ j < 3 + S + S) → lo32 (f j) = F j
theorem stP_up {S : Nat} {f F : Nat → Int} {T : Nat} (h3 : 3 ≤ T) (hb : ¬ (3 + S ≤ T ∧ T < 3 + S + S)) : stP S f F (T + 1) ↔ stP S f F T ∧ lo32 (f T) = F T := by
  constructor
  · intro h
    exact ⟨fun j h1 h2 h3 => h j h1 (by omega) h3, h T h3 (by omega) hb⟩
  · rintro ⟨h, e⟩ j h1 h2 h3
    by_cases q : j = T
    · rw [q]; exact e
    · exact h j h1 (by omega) h3
structure Sd (W0 : World) (a : Option Addr) (N cap : Nat) (f F : Nat → Int) (S H sb wb vb vk : Nat) (T : Nat) (w : World) : Prop where
  x : ∃ x, (w.cell? ⟨sb, 0, none⟩ = some (.bool x) ∧ w.frozen? ⟨sb, 0, none⟩ = false) ∧ (x = true ↔ stP S f F T)
  xw : w.cell? ⟨wb, 0, none⟩ = some (.slice a N cap)
  xv : w.cell? ⟨vb, 0, none⟩ = some (.slice (some ⟨vk, 0, none⟩) H H)
  k : Fk .i64 H w vk F
  b : Below W0.heap.size W0 w
theorem Sd.later {W0 : World} {a : Option Addr} {N cap : Nat} {f F : Nat → Int} {S H sb wb vb vk T : Nat} {w w1 : World} (h : Sd W0 a N cap f F S H sb wb vb vk T w) (hb : Below w.heap.size w w1) : Sd W0 a N cap f F S H sb wb vb vk T w1 :=
  have bl := fun (p : Addr) (v : Value) (h : w.cell? p = some v) => (hb.cell (p := p) (World.block_lt_of_cell? w p h)).trans h
  ⟨by obtain ⟨x, ⟨h1, h2⟩, h3⟩ := h.x; exact ⟨x, ⟨bl _ _ h1, (hb.frozen (p := ⟨sb, 0, none⟩) (World.block_lt_of_cell? w _ h1)).trans h2⟩, h3⟩, bl _ _ h.xw, bl _ _ h.xv, h.k.later hb, h.b.trans (hb.mono h.b.size)⟩
theorem sd_sees {W0 : World} {a : Option Addr} {N cap : Nat} {f F : Nat → Int} {S H sb wb vb vk at_ many : Nat} (sl : Sl .u64 W0 a N f) (hw : W64 f) (h0 : W0.heap.size ≤ sb) (e1 : wb ≠ sb) (e2 : vb ≠ sb) (e3 : vk ≠ sb) (hN : at_ + many ≤ N) (hH : at_ + many ≤ H) (h3 : 3 ≤ at_) (hb : ∀ j, j < many → ¬ (3 + S ≤ at_ + j ∧ at_ + j < 3 + S + S)) :
    Sees (Sd W0 a N cap f F S H sb wb vb vk) sb (sb + 1) 102 #[.pointer (some ⟨sb, 0, none⟩), .pointer (some ⟨wb, 0, none⟩), .pointer (some ⟨vb, 0, none⟩)] at_ many := fun n w hn _ hi => by
  obtain ⟨x, ⟨hs, hz⟩, hx⟩ := hi.x
  have fin : ∀ (r : Bool) (u : World), (r = true ↔ stP S f F (at_ + n + 1)) → Below w.heap.size w u → Sd W0 a N cap f F S H sb wb vb vk (at_ + n + 1) (u.setCell ⟨sb, 0, none⟩ (.bool r)) ∧ Only sb (sb + 1) w (u.setCell ⟨sb, 0, none⟩ (.bool r)) := fun r u hr hb => by
    have hu := hi.later hb
    obtain ⟨x', ⟨hs', hz'⟩, _⟩ := hu.x
    refine ⟨⟨⟨r, ⟨World.cell?_setCell_same' _ _ _ (by rw [hs']; rfl), by rw [World.frozen?_setCell]; exact hz'⟩, hr⟩, stepL 0 (fun q => e1 q.symm) _ _ hu.xw, stepL 0 (fun q => e2 q.symm) _ _ hu.xv, hu.k.far _ (fun q => e3 q.symm) _, hu.b.setCell (p := ⟨sb, 0, none⟩) h0 _⟩, only_set hb sb 0 (Nat.le_refl _) (by omega) _⟩
  have off := off_block (k := sb) sl (by omega) h0
  have up := stP_up (S := S) (f := f) (F := F) (T := at_ + n) (by omega) (hb n hn)
  cases x
  · refine (stand_no sb wb vb vk H n (at_ + n) a N cap f F w hs hz hi.xw (sl.later hi.b) hi.xv hi.k (by omega) (by omega) hw e1 e2 e3 off).mono ?_
    rintro e w' ⟨he, u, hb, rfl⟩
    obtain ⟨q1, q2⟩ := fin false u (by rw [up]; constructor <;> intro q; cases q; exact absurd q.1 (fun g => by simpa using hx.2 g)) hb
    exact ⟨he, q1, q2⟩
  · refine (stand_yes sb wb vb vk H n (at_ + n) a N cap f F w hs hz hi.xw (sl.later hi.b) hi.xv hi.k (by omega) (by omega) hw e1 e2 e3 off).mono ?_
    rintro e w' ⟨he, u, hb, rfl⟩
    obtain ⟨q1, q2⟩ := fin (lo32 (f (at_ + n)) == F (at_ + n)) u (by rw [up, beq_iff_eq]; exact ⟨fun q => ⟨hx.1 rfl, q⟩, fun q => q.2⟩) hb
    exact ⟨he, q1, q2⟩

set_option maxHeartbeats 4000000 in
theorem stands_any (S P : Nat) (a : Option Addr) (N cap H vk : Nat) (f F : Nat → Int) (w : World) (sl : Sl .u64 w a N f) (hw : W64 f) (hS : S ≤ 4) (hP : P ≤ 6) (hN : H ≤ N) (hH : H = 3 + S + S + 4 + P + P * 8 + P * 8) (fk : Fk .i64 H w vk F) :
    Calls Tryz.prog 48 #[.slice a N cap, .agg (ints (layL S P)).toArray, .slice (some ⟨vk, 0, none⟩) H H] w fun e w' => Says e (stP S f F H) ∧ Below w.heap.size w w' := by
  have hmf : ∀ (fn : Fn) (first cap : Array Value) (w : World), (Instr.makeFunc fn first cap).run Tryz.prog w = .ok (.func fn first cap) w := fun _ _ _ _ => rfl
  have nz : (((w.alloc (.cells #[.slice a N cap] 34)).alloc (.cells (ints (layL S P)).toArray 61)).alloc (.cells #[.slice (some ⟨vk, 0, none⟩) H H] 25)).heap.size = w.heap.size + 3 := by simp
  obtain ⟨VV, hVV⟩ : ∃ VV : Array Value, VV = #[Value.nilFunc, .func (.func 102) #[] #[.pointer (some ⟨w.heap.size + 1 + 1 + 1, 0, none⟩), .pointer (some ⟨w.heap.size, 0, none⟩), .pointer (some ⟨w.heap.size + 1 + 1, 0, none⟩)], Value.nilFunc, .func (.func 102) #[] #[.pointer (some ⟨w.heap.size + 1 + 1 + 1, 0, none⟩), .pointer (some ⟨w.heap.size, 0, none⟩), .pointer (some ⟨w.heap.size + 1 + 1, 0, none⟩)], .func (.func 102) #[] #[.pointer (some ⟨w.heap.size + 1 + 1 + 1, 0, none⟩), .pointer (some ⟨w.heap.size, 0, none⟩), .pointer (some ⟨w.heap.size + 1 + 1, 0, none⟩)], .func (.func 102) #[] #[.pointer (some ⟨w.heap.size + 1 + 1 + 1, 0, none⟩), .pointer (some ⟨w.heap.size, 0, none⟩), .pointer (some ⟨w.heap.size + 1 + 1, 0, none⟩)], .func (.func 102) #[] #[.pointer (some ⟨w.heap.size + 1 + 1 + 1, 0, none⟩), .pointer (some ⟨w.heap.size, 0, none⟩), .pointer (some ⟨w.heap.size + 1 + 1, 0, none⟩)], Value.nilFunc] := ⟨_, rfl⟩
  have b3 := below3 w (.cells #[.slice a N cap] 34) (.cells (ints (layL S P)).toArray 61) (.cells #[.slice (some ⟨vk, 0, none⟩) H H] 25)
  have b2 := below2 (((w.alloc (.cells #[.slice a N cap] 34)).alloc (.cells (ints (layL S P)).toArray 61)).alloc (.cells #[.slice (some ⟨vk, 0, none⟩) H H] 25)) (.cells #[.bool true] 4) (.cells VV 65)
  have R5 : Hid (World.rangeAt (((((w.alloc (.cells #[.slice a N cap] 34)).alloc (.cells (ints (layL S P)).toArray 61)).alloc (.cells #[.slice (some ⟨vk, 0, none⟩) H H] 25)).alloc (.cells #[.bool true] 4)).alloc (.cells VV 65)) (w.heap.size + 1) 0 (ints (layL S P))) := range_below b2 (range_lit (ints (layL S P)).toArray (heap3_1 w _ _ _)) (by omega)
  have D5 : Hid (Sd w a N cap f F S H (w.heap.size + 1 + 1 + 1) w.heap.size (w.heap.size + 1 + 1) vk 3 (((((w.alloc (.cells #[.slice a N cap] 34)).alloc (.cells (ints (layL S P)).toArray 61)).alloc (.cells #[.slice (some ⟨vk, 0, none⟩) H H] 25)).alloc (.cells #[.bool true] 4)).alloc (.cells VV 65))) := by
    have bb : Below w.heap.size w (((((w.alloc (.cells #[.slice a N cap] 34)).alloc (.cells (ints (layL S P)).toArray 61)).alloc (.cells #[.slice (some ⟨vk, 0, none⟩) H H] 25)).alloc (.cells #[.bool true] 4)).alloc (.cells VV 65)) := b3.trans (b2.mono (by omega))
    have c0 := ck_lit #[.bool true] (heap2_0 (((w.alloc (.cells #[.slice a N cap] 34)).alloc (.cells (ints (layL S P)).toArray 61)).alloc (.cells #[.slice (some ⟨vk, 0, none⟩) H H] 25)) (.cells #[.bool true] 4) (.cells VV 65)) 0 _ rfl
    rw [nz, show w.heap.size + 3 = w.heap.size + 1 + 1 + 1 from rfl] at c0
    have cw := range_lit #[.slice a N cap] (heap3_0 w (.cells #[.slice a N cap] 34) (.cells (ints (layL S P)).toArray 61) (.cells #[.slice (some ⟨vk, 0, none⟩) H H] 25)) 0 _ rfl
    have cv := range_lit #[.slice (some ⟨vk, 0, none⟩) H H] (heap3_2 w (.cells #[.slice a N cap] 34) (.cells (ints (layL S P)).toArray 61) (.cells #[.slice (some ⟨vk, 0, none⟩) H H] 25)) 0 _ rfl
    exact ⟨⟨true, c0, ⟨fun _ j h1 h2 => by omega, fun _ => rfl⟩⟩, (b2.cell (p := ⟨w.heap.size, 0, none⟩) (show w.heap.size < _ by omega)).trans cw, (b2.cell (p := ⟨w.heap.size + 1 + 1, 0, none⟩) (show w.heap.size + 1 + 1 < _ by omega)).trans cv, fk.later bb, bb⟩
  have Z5 : Hid (w.heap.size + 5 ≤ (((((w.alloc (.cells #[.slice a N cap] 34)).alloc (.cells (ints (layL S P)).toArray 61)).alloc (.cells #[.slice (some ⟨vk, 0, none⟩) H H] 25)).alloc (.cells #[.bool true] 4)).alloc (.cells VV 65)).heap.size) := by unfold Hid; simp
  have vk0 : vk < w.heap.size := Fk.lt0 fk (by omega)
  have HH : Hid (H = 3 + S + S + 4 + P + P * 8 + P * 8) := hH
  have HSL : Hid (Sl .u64 w a N f) := sl
  have HW : Hid (W64 f) := hw
  clear b3 b2 nz fk hH sl hw
  subst hVV
  go_enter Tryz.func48, Tryz.ntmps48
  go_wp2_with ((refine wpList_load_mid rfl 61 _ rfl (w.heap.size + 1) 0 rfl (ints (layL S P)) _ R5.out Tryz.underlying61 rfl (by kernel_rfl) ?_))
  generalize hG : World.alloc (World.alloc _ (.cells #[.bool true] 4)) _ = W5 at R5 D5 Z5 ⊢
  clear hG R5
  have z5 := Z5.out
  have hH := HH.out
  have vis := visit_any (Sd w a N cap f F S H (w.heap.size + 1 + 1 + 1) w.heap.size (w.heap.size + 1 + 1) vk) (fun T w w1 h hb => h.later hb) (w.heap.size + 1 + 1 + 1) (w.heap.size + 1 + 1 + 1 + 1) S P 102 102 102 102 102 #[.pointer (some ⟨w.heap.size + 1 + 1 + 1, 0, none⟩), .pointer (some ⟨w.heap.size, 0, none⟩), .pointer (some ⟨w.heap.size + 1 + 1, 0, none⟩)] #[.pointer (some ⟨w.heap.size + 1 + 1 + 1, 0, none⟩), .pointer (some ⟨w.heap.size, 0, none⟩), .pointer (some ⟨w.heap.size + 1 + 1, 0, none⟩)] #[.pointer (some ⟨w.heap.size + 1 + 1 + 1, 0, none⟩), .pointer (some ⟨w.heap.size, 0, none⟩), .pointer (some ⟨w.heap.size + 1 + 1, 0, none⟩)] #[.pointer (some ⟨w.heap.size + 1 + 1 + 1, 0, none⟩), .pointer (some ⟨w.heap.size, 0, none⟩), .pointer (some ⟨w.heap.size + 1 + 1, 0, none⟩)] #[.pointer (some ⟨w.heap.size + 1 + 1 + 1, 0, none⟩), .pointer (some ⟨w.heap.size, 0, none⟩), .pointer (some ⟨w.heap.size + 1 + 1, 0, none⟩)] hS hP (fun _ _ => by kernel_rfl) (fun _ _ => by kernel_rfl) (fun _ _ => by kernel_rfl) (fun _ _ => by kernel_rfl) (fun _ _ => by kernel_rfl)
    (sd_sees HSL.out HW.out (by omega) (by omega) (by omega) (by omega) (by omega) (by omega) (by omega) (by omega))
    (sd_sees HSL.out HW.out (by omega) (by omega) (by omega) (by omega) (by omega) (by omega) (by omega) (by omega))
    (sd_sees HSL.out HW.out (by omega) (by omega) (by omega) (by omega) (by omega) (by omega) (by omega) (by omega))
    (sd_sees HSL.out HW.out (by omega) (by omega) (by omega) (by omega) (by omega) (by omega) (by omega) (by omega))
    (sd_sees HSL.out HW.out (by omega) (by omega) (by omega) (by omega) (by omega) (by omega) (by omega) (by omega))
    (fun w h => by
      obtain ⟨x, hc, hx⟩ := h.x
      refine ⟨⟨x, hc, hx.trans ⟨fun q j h1 h2 h3 => q j h1 (by omega) h3, fun q j h1 h2 h3 => q j h1 (by omega) h3⟩⟩, h.xw, h.xv, h.k, h.b⟩) W5 (by omega) D5.out
  have VI : Hid (Calls _ _ _ _ _) := vis
  clear vis
  refine VI.out.mono ?_
  rintro e W6 ⟨rfl, hd, ho⟩
  rw [← hH] at hd
  obtain ⟨x, ⟨hc, -⟩, hx⟩ := hd.x
  have HX : Hid (x = true ↔ stP S f F H) := hx
  have HB : Hid (Below w.heap.size w W6) := hd.b
  clear hH hx hd ho VI
  go_wp2_with (fail)
  go_ret
  exact ⟨⟨x, rfl, HX.out⟩, HB.out⟩


end Go.Proofs.YtipbijcmpbefpaaGreat.Book

import Derived.Test.YtipbijcmpbefpaaGreatM16
import Derived.Test.YtipbijcmpbefpaaGreatM10
import Derived.Test.YtipbijcmpbefpaaGreatM15

/- Words are read into a draft, by the program: the functions of the visitor. -/
namespace Go.Proofs.YtipbijcmpbefpaaGreat.Book
open Go.ChangeShapes Go.WideShapes Go.ChangeAt Go.RowKit
open Go.Proofs.YtipbijcmpbefpaaGreat.Aid Go.Proofs.YtipbijcmpbefpaaGreat.Lst Go.Proofs.YtipbijcmpbefpaaGreat.Words
open Go.Proofs.YtipbijcmpbefpaaGreat.Plat (okB okB_of getF W64)
set_option maxRecDepth 100000
set_option linter.unusedVariables false

theorem sl_cell {w : World} {a : Option Addr} {N : Nat} {f : Nat → Int} (h : Sl .u64 w a N f) {j : Nat} (hj : j < N) : ∃ k o, a = some ⟨k, o, none⟩ ∧ w.cell? ⟨k, o + j, none⟩ = some (.int .u64 (f j)) := by
  rcases h with h | ⟨k, o, e, hc⟩
  · omega
  · exact ⟨k, o, e, hc j hj⟩
theorem setCell_size (w : World) (p : Addr) (v : Value) : (w.setCell p v).heap.size = w.heap.size := by simp

set_option maxHeartbeats 2000000 in
theorem rcopy_any (wb lb k o n at_ ln lc : Nat) (a : Option Addr) (N cap : Nat) (f : Nat → Int) (x : Int) (w : World) (hwb : w.cell? ⟨wb, 0, none⟩ = some (.slice a N cap)) (hs : Sl .u64 w a N f) (hl : w.cell? ⟨lb, 0, none⟩ = some (.slice (some ⟨k, o, none⟩) ln lc)) (hc : w.cell? ⟨k, o + n, none⟩ = some (.int .i64 x)) (hf : w.frozen? ⟨k, o + n, none⟩ = false) (hn : n < ln) (ha : at_ < N) (hw : W64 f) (e1 : lb ≠ k) (e2 : wb ≠ k) (e3 : ∀ ka oa, a = some ⟨ka, oa, none⟩ → ka ≠ k) :
    Calls Tryz.prog 98 #[.int .i64 n, .int .i64 at_, .pointer (some ⟨wb, 0, none⟩), .pointer (some ⟨lb, 0, none⟩)] w fun e w' => e = .returned (.tuple #[]) ∧ ∃ u, Below w.heap.size w u ∧ w' = u.setCell ⟨k, o + n, none⟩ (.int .i64 (lo32 (f at_))) := by
  obtain ⟨ka, oa, ea, ca⟩ := sl_cell hs ha
  rw [ea] at hwb
  obtain ⟨g0, g1⟩ := hw at_
  have e3' : ka ≠ k := e3 ka oa ea
  have S0 : (fun w' : World => w'.cell? ⟨lb, 0, none⟩ = some (.slice (some ⟨k, o, none⟩) ln lc) ∧ w'.cell? ⟨ka, oa + at_, none⟩ = some (.int .u64 (f at_)) ∧ w'.cell? ⟨wb, 0, none⟩ = some (.slice (some ⟨ka, oa, none⟩) N cap)) w.drew := ⟨hl, ca, hwb⟩
  have hni : (n : Int) < ln := by omega
  have hai : (at_ : Int) < N := by omega
  have OD : Hid (Below w.heap.size w w.drew) := ⟨rfl, rfl, rfl, Nat.le_refl _, fun _ _ => rfl⟩
  have HC : Hid (w.drew.cell? ⟨k, o + n, none⟩ = some (.int .i64 x)) := hc
  have HF : Hid (w.drew.frozen? ⟨k, o + n, none⟩ = false) := hf
  clear hs hwb hl hc hf ea ca e3
  go_enter Tryz.func98, Tryz.ntmps98
  refine wp_region_held_drew (S := fun w' : World => w'.cell? ⟨lb, 0, none⟩ = some (.slice (some ⟨k, o, none⟩) ln lc) ∧ w'.cell? ⟨ka, oa + at_, none⟩ = some (.int .u64 (f at_)) ∧ w'.cell? ⟨wb, 0, none⟩ = some (.slice (some ⟨ka, oa, none⟩) N cap)) (by kernel_rfl) S0 (fun hS => ?_)
  clear S0
  refine takeB (i := 0) (v := .slice (some ⟨k, o, none⟩) ln lc) (d := some 6) rfl rfl (by kernel_rfl) (by kernel_rfl) (by kernel_rfl) (fun _ _ _ h => h) (Or.inl ⟨by rfl, fun w' hw => ?_⟩) (by assumption) ?_
  · have q := hw.1; clear hw; go_simp
  simp only [Act.put, List.setIfInBounds_toArray, List.set_cons_zero, List.set_cons_succ]
  refine takeB (i := 1) (v := .int .i64 n) (d := some 7) rfl rfl (by kernel_rfl) (by kernel_rfl) (by kernel_rfl) (fun _ _ _ h => h) (Or.inl ⟨by rfl, fun w' hw => ?_⟩) (by assumption) ?_
  · clear hw; go_simp
  simp only [Act.put, List.setIfInBounds_toArray, List.set_cons_zero, List.set_cons_succ]
  refine takeB (i := 2) (v := .slice (some ⟨ka, oa, none⟩) N cap) (d := some 8) rfl rfl (by kernel_rfl) (by kernel_rfl) (by kernel_rfl) (fun _ _ _ h => h) (Or.inl ⟨by rfl, fun w' hw => ?_⟩) (by assumption) ?_
  · have q := hw.2.2; clear hw; go_simp
  simp only [Act.put, List.setIfInBounds_toArray, List.set_cons_zero, List.set_cons_succ]
  refine takeB (i := 3) (v := .int .i64 at_) (d := some 9) rfl rfl (by kernel_rfl) (by kernel_rfl) (by kernel_rfl) (fun _ _ _ h => h) (Or.inl ⟨by rfl, fun w' hw => ?_⟩) (by assumption) ?_
  · clear hw; go_simp
  simp only [Act.put, List.setIfInBounds_toArray, List.set_cons_zero, List.set_cons_succ]
  refine takeB (i := 4) (v := .pointer (some ⟨ka, oa + at_, none⟩)) (d := some 10) rfl rfl (by kernel_rfl) (by kernel_rfl) (by kernel_rfl) (fun _ _ _ h => h) (Or.inl ⟨by rfl, fun w' hw => ?_⟩) (by assumption) ?_
  · clear hw; go_simp
  simp only [Act.put, List.setIfInBounds_toArray, List.set_cons_zero, List.set_cons_succ]
  refine takeB (i := 5) (v := .int .u64 (f at_)) (d := some 11) rfl rfl (by kernel_rfl) (by kernel_rfl) (by kernel_rfl) (fun _ _ _ h => h) (Or.inl ⟨by rfl, fun w' hw => ?_⟩) (by assumption) ?_
  · have q := hw.2.1; clear hw; go_simp
  simp only [Act.put, List.setIfInBounds_toArray, List.set_cons_zero, List.set_cons_succ]
  generalize World.drew _ = V at hS HC HF OD ⊢
  refine wpAnyH_ready (rs := [6]) (by kernel_rfl) (by simp) ?_
  refine AllReadyH.cons rfl (fun K hK => ?_) AllReadyH.nil
  have HS : Hid (_ ∧ _) := hS
  clear hS
  go_simp
  refine (val_any (f at_) V g0 g1).mono ?_
  rintro e V ⟨rfl, rfl⟩
  go_simp
  refine hK.out _ _ HS.out (fun hS => ?_)
  clear hK K HS
  refine takeB (i := 7) (v := .pointer (some ⟨k, o + n, none⟩)) (d := some 13) rfl rfl (by kernel_rfl) (by kernel_rfl) (by kernel_rfl) (fun _ _ _ h => h) (Or.inl ⟨by rfl, fun w' hw => ?_⟩) (by assumption) ?_
  · clear hw; go_simp
  simp only [Act.put, List.setIfInBounds_toArray, List.set_cons_zero, List.set_cons_succ]
  refine wpAnyH_ready (rs := [8]) (by kernel_rfl) (by simp) ?_
  refine AllReadyH.cons rfl (fun K hK => ?_) AllReadyH.nil
  have HS : Hid (_ ∧ _) := hS
  clear hS
  have hc := HC.out
  have hf := HF.out
  go_simp
  refine hK.out _ _ ⟨?_, ?_, ?_⟩ (fun hS => ?_)
  · rw [World.cell?_setCell_far _ _ _ _ (fun h => e1 h.symm)]; exact HS.out.1
  · rw [World.cell?_setCell_far _ _ _ _ (fun h => e3' h.symm)]; exact HS.out.2.1
  · rw [World.cell?_setCell_far _ _ _ _ (fun h => e2 h.symm)]; exact HS.out.2.2
  clear hK K
  refine wpAnyH_done (by kernel_rfl) ?_ _
  go_wp2_with (fail)
  exact bodyPost_end (v := .tuple #[]) (by simp [results, Tryz.results98]) rfl ⟨rfl, V, OD.out, rfl⟩

set_option maxHeartbeats 4000000 in
theorem rreg_any (wb db dk ki ke n at_ ni ci ne ce : Nat) (a : Option Addr) (N cap : Nat) (f : Nat → Int) (x y : Int) (w : World) (hwb : w.cell? ⟨wb, 0, none⟩ = some (.slice a N cap)) (hs : Sl .u64 w a N f) (hd : w.cell? ⟨db, 0, none⟩ = some (.pointer (some ⟨dk, 0, none⟩))) (hi : w.cell? ⟨dk, 7, none⟩ = some (.slice (some ⟨ki, 0, none⟩) ni ci)) (he : w.cell? ⟨dk, 8, none⟩ = some (.slice (some ⟨ke, 0, none⟩) ne ce)) (hc : w.cell? ⟨ki, n, none⟩ = some (.int .i64 x)) (hf : w.frozen? ⟨ki, n, none⟩ = false) (hc' : w.cell? ⟨ke, n, none⟩ = some (.int .i64 y)) (hf' : w.frozen? ⟨ke, n, none⟩ = false) (hn : n < ni) (hn' : n < ne) (ha : at_ < N) (hw : W64 f)
    (e1 : db ≠ ki) (e2 : wb ≠ ki) (e3 : ∀ ka oa, a = some ⟨ka, oa, none⟩ → ka ≠ ki) (e4 : dk ≠ ki) (q1 : db ≠ ke) (q2 : wb ≠ ke) (q3 : ∀ ka oa, a = some ⟨ka, oa, none⟩ → ka ≠ ke) (q4 : dk ≠ ke) (ne' : ki ≠ ke) :
    Calls Tryz.prog 99 #[.int .i64 n, .int .i64 at_, .pointer (some ⟨wb, 0, none⟩), .pointer (some ⟨db, 0, none⟩)] w fun e w' => e = .returned (.tuple #[]) ∧ ∃ u, Below w.heap.size w u ∧ w' = (u.setCell ⟨ki, n, none⟩ (.int .i64 (lo32 (f at_) % 4))).setCell ⟨ke, n, none⟩ (.int .i64 (lo32 (f at_) / 4)) := by
  obtain ⟨ka, oa, ea, ca⟩ := sl_cell hs ha
  rw [ea] at hwb
  obtain ⟨g0, g1⟩ := hw at_
  have e3' : ka ≠ ki := e3 ka oa ea
  have q3' : ka ≠ ke := q3 ka oa ea
  have S0 : (fun w' : World => w'.cell? ⟨db, 0, none⟩ = some (.pointer (some ⟨dk, 0, none⟩)) ∧ w'.cell? ⟨dk, 7, none⟩ = some (.slice (some ⟨ki, 0, none⟩) ni ci) ∧ w'.cell? ⟨dk, 8, none⟩ = some (.slice (some ⟨ke, 0, none⟩) ne ce) ∧ w'.cell? ⟨ka, oa + at_, none⟩ = some (.int .u64 (f at_)) ∧ w'.cell? ⟨wb, 0, none⟩ = some (.slice (some ⟨ka, oa, none⟩) N cap) ∧ (∃ y, w'.cell? ⟨ke, n, none⟩ = some (.int .i64 y) ∧ w'.frozen? ⟨ke, n, none⟩ = false)) w.drew := ⟨hd, hi, he, ca, hwb, y, hc', hf'⟩
  have hni : (n : Int) < ni := by omega
  have hne : (n : Int) < ne := by omega
  have hai : (at_ : Int) < N := by omega
  have OD : Hid (Below w.heap.size w w.drew) := ⟨rfl, rfl, rfl, Nat.le_refl _, fun _ _ => rfl⟩
  have HC : Hid (w.drew.cell? ⟨ki, n, none⟩ = some (.int .i64 x)) := hc
  have HF : Hid (w.drew.frozen? ⟨ki, n, none⟩ = false) := hf
  clear hs hwb hd hi he hc hf hc' hf' ea ca e3 q3
  go_enter Tryz.func99, Tryz.ntmps99
  refine wp_region_held_drew (S := fun w' : World => w'.cell? ⟨db, 0, none⟩ = some (.pointer (some ⟨dk, 0, none⟩)) ∧ w'.cell? ⟨dk, 7, none⟩ = some (.slice (some ⟨ki, 0, none⟩) ni ci) ∧ w'.cell? ⟨dk, 8, none⟩ = some (.slice (some ⟨ke, 0, none⟩) ne ce) ∧ w'.cell? ⟨ka, oa + at_, none⟩ = some (.int .u64 (f at_)) ∧ w'.cell? ⟨wb, 0, none⟩ = some (.slice (some ⟨ka, oa, none⟩) N cap) ∧ (∃ y, w'.cell? ⟨ke, n, none⟩ = some (.int .i64 y) ∧ w'.frozen? ⟨ke, n, none⟩ = false)) (by kernel_rfl) S0 (fun hS => ?_)
  clear S0
  refine takeB (i := 0) (v := .pointer (some ⟨dk, 0, none⟩)) (d := some 7) rfl rfl (by kernel_rfl) (by kernel_rfl) (by kernel_rfl) (fun _ _ _ h => h) (Or.inl ⟨by rfl, fun w' hw => ?_⟩) (by assumption) ?_
  · have q := hw.1; clear hw; go_simp
  simp only [Act.put, List.setIfInBounds_toArray, List.set_cons_zero, List.set_cons_succ]
  refine takeB (i := 1) (v := .pointer (some ⟨dk, 0, none⟩)) (d := some 8) rfl rfl (by kernel_rfl) (by kernel_rfl) (by kernel_rfl) (fun _ _ _ h => h) (Or.inl ⟨by rfl, fun w' hw => ?_⟩) (by assumption) ?_
  · clear hw; go_simp
  simp only [Act.put, List.setIfInBounds_toArray, List.set_cons_zero, List.set_cons_succ]
  refine takeB (i := 2) (v := .pointer (some ⟨dk, 0, none⟩)) (d := some 9) rfl rfl (by kernel_rfl) (by kernel_rfl) (by kernel_rfl) (fun _ _ _ h => h) (Or.inl ⟨by rfl, fun w' hw => ?_⟩) (by assumption) ?_
  · clear hw; go_simp
  simp only [Act.put, List.setIfInBounds_toArray, List.set_cons_zero, List.set_cons_succ]
  refine takeB (i := 3) (v := .pointer (some ⟨dk, 7, none⟩)) (d := some 10) rfl rfl (by kernel_rfl) (by kernel_rfl) (by kernel_rfl) (fun _ _ _ h => h) (Or.inl ⟨by rfl, fun w' hw => ?_⟩) (by assumption) ?_
  · clear hw; go_simp
  simp only [Act.put, List.setIfInBounds_toArray, List.set_cons_zero, List.set_cons_succ]
  refine takeB (i := 4) (v := .slice (some ⟨ki, 0, none⟩) ni ci) (d := some 11) rfl rfl (by kernel_rfl) (by kernel_rfl) (by kernel_rfl) (fun _ _ _ h => h) (Or.inl ⟨by rfl, fun w' hw => ?_⟩) (by assumption) ?_
  · have q := hw.2.1; clear hw; go_simp
  simp only [Act.put, List.setIfInBounds_toArray, List.set_cons_zero, List.set_cons_succ]
  refine takeB (i := 5) (v := .int .i64 n) (d := some 12) rfl rfl (by kernel_rfl) (by kernel_rfl) (by kernel_rfl) (fun _ _ _ h => h) (Or.inl ⟨by rfl, fun w' hw => ?_⟩) (by assumption) ?_
  · clear hw; go_simp
  simp only [Act.put, List.setIfInBounds_toArray, List.set_cons_zero, List.set_cons_succ]
  refine takeB (i := 6) (v := .pointer (some ⟨dk, 0, none⟩)) (d := some 13) rfl rfl (by kernel_rfl) (by kernel_rfl) (by kernel_rfl) (fun _ _ _ h => h) (Or.inl ⟨by rfl, fun w' hw => ?_⟩) (by assumption) ?_
  · have q := hw.1; clear hw; go_simp
  simp only [Act.put, List.setIfInBounds_toArray, List.set_cons_zero, List.set_cons_succ]
  refine takeB (i := 7) (v := .pointer (some ⟨dk, 0, none⟩)) (d := some 14) rfl rfl (by kernel_rfl) (by kernel_rfl) (by kernel_rfl) (fun _ _ _ h => h) (Or.inl ⟨by rfl, fun w' hw => ?_⟩) (by assumption) ?_
  · clear hw; go_simp
  simp only [Act.put, List.setIfInBounds_toArray, List.set_cons_zero, List.set_cons_succ]
  refine takeB (i := 8) (v := .pointer (some ⟨dk, 0, none⟩)) (d := some 15) rfl rfl (by kernel_rfl) (by kernel_rfl) (by kernel_rfl) (fun _ _ _ h => h) (Or.inl ⟨by rfl, fun w' hw => ?_⟩) (by assumption) ?_
  · clear hw; go_simp
  simp only [Act.put, List.setIfInBounds_toArray, List.set_cons_zero, List.set_cons_succ]
  refine takeB (i := 9) (v := .pointer (some ⟨dk, 8, none⟩)) (d := some 16) rfl rfl (by kernel_rfl) (by kernel_rfl) (by kernel_rfl) (fun _ _ _ h => h) (Or.inl ⟨by rfl, fun w' hw => ?_⟩) (by assumption) ?_
  · clear hw; go_simp
  simp only [Act.put, List.setIfInBounds_toArray, List.set_cons_zero, List.set_cons_succ]
  refine takeB (i := 10) (v := .slice (some ⟨ke, 0, none⟩) ne ce) (d := some 17) rfl rfl (by kernel_rfl) (by kernel_rfl) (by kernel_rfl) (fun _ _ _ h => h) (Or.inl ⟨by rfl, fun w' hw => ?_⟩) (by assumption) ?_
  · have q := hw.2.2.1; clear hw; go_simp
  simp only [Act.put, List.setIfInBounds_toArray, List.set_cons_zero, List.set_cons_succ]
  refine takeB (i := 11) (v := .int .i64 n) (d := some 18) rfl rfl (by kernel_rfl) (by kernel_rfl) (by kernel_rfl) (fun _ _ _ h => h) (Or.inl ⟨by rfl, fun w' hw => ?_⟩) (by assumption) ?_
  · clear hw; go_simp
  simp only [Act.put, List.setIfInBounds_toArray, List.set_cons_zero, List.set_cons_succ]
  refine takeB (i := 12) (v := .slice (some ⟨ka, oa, none⟩) N cap) (d := some 19) rfl rfl (by kernel_rfl) (by kernel_rfl) (by kernel_rfl) (fun _ _ _ h => h) (Or.inl ⟨by rfl, fun w' hw => ?_⟩) (by assumption) ?_
  · have q := hw.2.2.2.2.1; clear hw; go_simp
  simp only [Act.put, List.setIfInBounds_toArray, List.set_cons_zero, List.set_cons_succ]
  refine takeB (i := 13) (v := .int .i64 at_) (d := some 20) rfl rfl (by kernel_rfl) (by kernel_rfl) (by kernel_rfl) (fun _ _ _ h => h) (Or.inl ⟨by rfl, fun w' hw => ?_⟩) (by assumption) ?_
  · clear hw; go_simp
  simp only [Act.put, List.setIfInBounds_toArray, List.set_cons_zero, List.set_cons_succ]
  refine takeB (i := 14) (v := .pointer (some ⟨ka, oa + at_, none⟩)) (d := some 21) rfl rfl (by kernel_rfl) (by kernel_rfl) (by kernel_rfl) (fun _ _ _ h => h) (Or.inl ⟨by rfl, fun w' hw => ?_⟩) (by assumption) ?_
  · clear hw; go_simp
  simp only [Act.put, List.setIfInBounds_toArray, List.set_cons_zero, List.set_cons_succ]
  refine takeB (i := 15) (v := .int .u64 (f at_)) (d := some 22) rfl rfl (by kernel_rfl) (by kernel_rfl) (by kernel_rfl) (fun _ _ _ h => h) (Or.inl ⟨by rfl, fun w' hw => ?_⟩) (by assumption) ?_
  · have q := hw.2.2.2.1; clear hw; go_simp
  simp only [Act.put, List.setIfInBounds_toArray, List.set_cons_zero, List.set_cons_succ]
  generalize World.drew _ = V at hS HC HF OD ⊢
  refine wpAnyH_ready (rs := [16]) (by kernel_rfl) (by simp) ?_
  refine AllReadyH.cons rfl (fun K hK => ?_) AllReadyH.nil
  have HS : Hid (_ ∧ _) := hS
  clear hS
  go_simp
  refine (regOf_any (f at_) V g0 g1).mono ?_
  rintro e V1 ⟨rfl, -, hb⟩
  have bl := fun (p : Addr) (v : Value) (h : V.cell? p = some v) => (hb.cell (p := p) (World.block_lt_of_cell? V p h)).trans h
  have S1 : (fun w' : World => w'.cell? ⟨db, 0, none⟩ = some (.pointer (some ⟨dk, 0, none⟩)) ∧ w'.cell? ⟨dk, 7, none⟩ = some (.slice (some ⟨ki, 0, none⟩) ni ci) ∧ w'.cell? ⟨dk, 8, none⟩ = some (.slice (some ⟨ke, 0, none⟩) ne ce) ∧ w'.cell? ⟨ka, oa + at_, none⟩ = some (.int .u64 (f at_)) ∧ w'.cell? ⟨wb, 0, none⟩ = some (.slice (some ⟨ka, oa, none⟩) N cap) ∧ (∃ y, w'.cell? ⟨ke, n, none⟩ = some (.int .i64 y) ∧ w'.frozen? ⟨ke, n, none⟩ = false)) V1 := ⟨bl _ _ HS.out.1, bl _ _ HS.out.2.1, bl _ _ HS.out.2.2.1, bl _ _ HS.out.2.2.2.1, bl _ _ HS.out.2.2.2.2.1, by obtain ⟨y, q, r⟩ := HS.out.2.2.2.2.2; exact ⟨y, bl _ _ q, (hb.frozen (p := ⟨ke, n, none⟩) (World.block_lt_of_cell? V _ q)).trans r⟩⟩
  have HC1 : Hid (V1.cell? ⟨ki, n, none⟩ = some (.int .i64 x)) := bl _ _ HC.out
  have HF1 : Hid (V1.frozen? ⟨ki, n, none⟩ = false) := (hb.frozen (p := ⟨ki, n, none⟩) (World.block_lt_of_cell? V _ HC.out)).trans HF.out
  have OD1 : Hid (Below w.heap.size w V1) := OD.out.trans (hb.mono OD.out.size)
  obtain ⟨vI, hvI⟩ : ∃ v, v = lo32 (f at_) % 4 := ⟨_, rfl⟩
  obtain ⟨vE, hvE⟩ : ∃ v, v = lo32 (f at_) / 4 := ⟨_, rfl⟩
  rw [← hvI, ← hvE]
  have SS1 : Hid (_ ∧ _) := S1
  have VI : Hid (vI = lo32 (f at_) % 4) := hvI
  have VE : Hid (vE = lo32 (f at_) / 4) := hvE
  clear HS HC HF OD hb bl S1 hvI hvE
  go_simp
  refine hK.out _ _ SS1.out (fun hS => ?_)
  clear hK K SS1
  refine takeB (i := 17) (v := .tuple #[.int .i64 vI, .int .i64 vE]) (d := some 6) rfl rfl (by kernel_rfl) (by kernel_rfl) (by kernel_rfl) (fun _ _ _ h => h) (Or.inl ⟨by rfl, fun w' hw => ?_⟩) (by assumption) ?_
  · clear hw; go_simp
  simp only [Act.put, List.setIfInBounds_toArray, List.set_cons_zero, List.set_cons_succ]
  refine takeB (i := 18) (v := .int .i64 vI) (d := some 24) rfl rfl (by kernel_rfl) (by kernel_rfl) (by kernel_rfl) (fun _ _ _ h => h) (Or.inl ⟨by rfl, fun w' hw => ?_⟩) (by assumption) ?_
  · clear hw; go_simp
  simp only [Act.put, List.setIfInBounds_toArray, List.set_cons_zero, List.set_cons_succ]
  refine takeB (i := 19) (v := .int .i64 vE) (d := some 25) rfl rfl (by kernel_rfl) (by kernel_rfl) (by kernel_rfl) (fun _ _ _ h => h) (Or.inl ⟨by rfl, fun w' hw => ?_⟩) (by assumption) ?_
  · clear hw; go_simp
  simp only [Act.put, List.setIfInBounds_toArray, List.set_cons_zero, List.set_cons_succ]
  refine takeB (i := 20) (v := .pointer (some ⟨ki, n, none⟩)) (d := some 26) rfl rfl (by kernel_rfl) (by kernel_rfl) (by kernel_rfl) (fun _ _ _ h => h) (Or.inl ⟨by rfl, fun w' hw => ?_⟩) (by assumption) ?_
  · clear hw; go_simp
  simp only [Act.put, List.setIfInBounds_toArray, List.set_cons_zero, List.set_cons_succ]
  refine wpAnyH_ready (rs := [21]) (by kernel_rfl) (by simp) ?_
  refine AllReadyH.cons rfl (fun K hK => ?_) AllReadyH.nil
  have HS : Hid (_ ∧ _) := hS
  clear hS
  have hc := HC1.out
  have hf := HF1.out
  have S2 : Hid ((fun w' : World => w'.cell? ⟨db, 0, none⟩ = some (.pointer (some ⟨dk, 0, none⟩)) ∧ w'.cell? ⟨dk, 7, none⟩ = some (.slice (some ⟨ki, 0, none⟩) ni ci) ∧ w'.cell? ⟨dk, 8, none⟩ = some (.slice (some ⟨ke, 0, none⟩) ne ce) ∧ w'.cell? ⟨ka, oa + at_, none⟩ = some (.int .u64 (f at_)) ∧ w'.cell? ⟨wb, 0, none⟩ = some (.slice (some ⟨ka, oa, none⟩) N cap) ∧ (∃ y, w'.cell? ⟨ke, n, none⟩ = some (.int .i64 y) ∧ w'.frozen? ⟨ke, n, none⟩ = false)) (V1.setCell ⟨ki, n, none⟩ (.int .i64 vI))) := by
    obtain ⟨y, q, r⟩ := HS.out.2.2.2.2.2
    refine ⟨?_, ?_, ?_, ?_, ?_, y, ?_, ?_⟩
    · rw [World.cell?_setCell_far _ _ _ _ (fun h => e1 h.symm)]; exact HS.out.1
    · rw [World.cell?_setCell_far _ _ _ _ (fun h => e4 h.symm)]; exact HS.out.2.1
    · rw [World.cell?_setCell_far _ _ _ _ (fun h => e4 h.symm)]; exact HS.out.2.2.1
    · rw [World.cell?_setCell_far _ _ _ _ (fun h => e3' h.symm)]; exact HS.out.2.2.2.1
    · rw [World.cell?_setCell_far _ _ _ _ (fun h => e2 h.symm)]; exact HS.out.2.2.2.2.1
    · rw [World.cell?_setCell_far _ _ _ _ ne']; exact q
    · rw [World.frozen?_setCell]; exact r
  clear HS
  go_simp
  refine hK.out _ _ S2.out (fun hS => ?_)
  clear hK K S2 hc hf HC1 HF1
  refine takeB (i := 22) (v := .pointer (some ⟨ke, n, none⟩)) (d := some 27) rfl rfl (by kernel_rfl) (by kernel_rfl) (by kernel_rfl) (fun _ _ _ h => h) (Or.inl ⟨by rfl, fun w' hw => ?_⟩) (by assumption) ?_
  · clear hw; go_simp
  simp only [Act.put, List.setIfInBounds_toArray, List.set_cons_zero, List.set_cons_succ]
  obtain ⟨y', cd, cf⟩ := hS.2.2.2.2.2
  refine wpAnyH_ready (rs := [23]) (by kernel_rfl) (by simp) ?_
  refine AllReadyH.cons rfl (fun K hK => ?_) AllReadyH.nil
  have HS : Hid (_ ∧ _) := hS
  clear hS
  generalize hW : V1.setCell ⟨ki, n, none⟩ (.int .i64 vI) = V2 at cd cf HS ⊢
  have S3 : Hid ((fun w' : World => w'.cell? ⟨db, 0, none⟩ = some (.pointer (some ⟨dk, 0, none⟩)) ∧ w'.cell? ⟨dk, 7, none⟩ = some (.slice (some ⟨ki, 0, none⟩) ni ci) ∧ w'.cell? ⟨dk, 8, none⟩ = some (.slice (some ⟨ke, 0, none⟩) ne ce) ∧ w'.cell? ⟨ka, oa + at_, none⟩ = some (.int .u64 (f at_)) ∧ w'.cell? ⟨wb, 0, none⟩ = some (.slice (some ⟨ka, oa, none⟩) N cap) ∧ (∃ y, w'.cell? ⟨ke, n, none⟩ = some (.int .i64 y) ∧ w'.frozen? ⟨ke, n, none⟩ = false)) (V2.setCell ⟨ke, n, none⟩ (.int .i64 vE))) := by
    refine ⟨?_, ?_, ?_, ?_, ?_, vE, ?_, ?_⟩
    · rw [World.cell?_setCell_far _ _ _ _ (fun h => q1 h.symm)]; exact HS.out.1
    · rw [World.cell?_setCell_far _ _ _ _ (fun h => q4 h.symm)]; exact HS.out.2.1
    · rw [World.cell?_setCell_far _ _ _ _ (fun h => q4 h.symm)]; exact HS.out.2.2.1
    · rw [World.cell?_setCell_far _ _ _ _ (fun h => q3' h.symm)]; exact HS.out.2.2.2.1
    · rw [World.cell?_setCell_far _ _ _ _ (fun h => q2 h.symm)]; exact HS.out.2.2.2.2.1
    · exact World.cell?_setCell_same' _ _ _ (by rw [cd]; rfl)
    · rw [World.frozen?_setCell]; exact cf
  have HW2 : Hid (V2 = V1.setCell ⟨ki, n, none⟩ (.int .i64 vI)) := hW.symm
  clear HS hW
  go_simp
  refine hK.out _ _ S3.out (fun hS => ?_)
  clear hK K S3 hS
  refine wpAnyH_done (by kernel_rfl) ?_ _
  go_wp2_with (fail)
  exact bodyPost_end (v := .tuple #[]) (by simp [results, Tryz.results99]) rfl ⟨rfl, V1, OD1.out, by rw [HW2.out, ← VI.out, ← VE.out]⟩


end Go.Proofs.YtipbijcmpbefpaaGreat.Book

/- The visitor that reads words into a draft. -/
namespace Go.Proofs.YtipbijcmpbefpaaGreat.Book
open Go.ChangeShapes Go.WideShapes Go.ChangeAt Go.RowKit
open Go.Proofs.YtipbijcmpbefpaaGreat.Aid Go.Proofs.YtipbijcmpbefpaaGreat.Lst Go.Proofs.YtipbijcmpbefpaaGreat.Words
set_option maxRecDepth 100000
set_option linter.unusedVariables false

theorem rmk_any (x : Sx) (wb : Nat) (w : World) :
    Calls Tryz.prog 97 #[.slice x.a x.n x.c, .pointer (some ⟨wb, 0, none⟩)] w fun e w' => e = .returned (.func (.func 98) #[] #[.pointer (some ⟨wb, 0, none⟩), .pointer (some ⟨w.heap.size, 0, none⟩)]) ∧ w' = w.alloc (.cells #[.slice x.a x.n x.c] 25) := by
  have hmf : ∀ (fn : Fn) (first cap : Array Value) (w : World), (Instr.makeFunc fn first cap).run Tryz.prog w = .ok (.func fn first cap) w := fun _ _ _ _ => rfl
  go_enter Tryz.func97, Tryz.ntmps97
  go_wp2_with (fail)
  go_ret
  exact ⟨rfl, rfl⟩
def inBox (lb : Nat) (x : Sx) (w : World) : Prop := w.cell? ⟨lb, 0, none⟩ = some (.slice x.a x.n x.c)
theorem inBox.later {lb : Nat} {x : Sx} {w w1 : World} (h : inBox lb x w) (hb : Below w.heap.size w w1) : inBox lb x w1 := (hb.cell (p := ⟨lb, 0, none⟩) (World.block_lt_of_cell? w _ h)).trans h
theorem inBox.new (x : Sx) (w : World) (t : TypeId) : inBox w.heap.size x (w.alloc (.cells #[.slice x.a x.n x.c] t)) := by
  have := range_lit #[.slice x.a x.n x.c] (heap1_0 w (.cells #[.slice x.a x.n x.c] t)) 0 _ rfl; exact this

/- What the making of the visitor rests on. -/
structure QS (w0 : World) (ws : Value) (dk : Nat) (xp xo xl : Sx) (w : World) : Prop where
  xw : w.cell? ⟨w0.heap.size, 0, none⟩ = some ws
  xd : w.cell? ⟨w0.heap.size + 1, 0, none⟩ = some (.pointer (some ⟨dk, 0, none⟩))
  p : w.cell? ⟨dk, 1, none⟩ = some (.slice xp.a xp.n xp.c)
  o : w.cell? ⟨dk, 6, none⟩ = some (.slice xo.a xo.n xo.c)
  l : w.cell? ⟨dk, 13, none⟩ = some (.slice xl.a xl.n xl.c)
  t : ∃ c0 c1 c2 c3 c4 c5 c6 c7, Ck w (w0.heap.size + 1 + 1) [c0, c1, c2, c3, c4, c5, c6, c7]
  b : Below w0.heap.size w0 w
  z : w0.heap.size + 3 ≤ w.heap.size
theorem QS.later {w0 w w1 : World} {ws : Value} {dk : Nat} {xp xo xl : Sx} (h : QS w0 ws dk xp xo xl w) (hb : Below w.heap.size w w1) : QS w0 ws dk xp xo xl w1 :=
  have bl := fun (p : Addr) (v : Value) (h : w.cell? p = some v) => (hb.cell (p := p) (World.block_lt_of_cell? w p h)).trans h
  ⟨bl _ _ h.xw, bl _ _ h.xd, bl _ _ h.p, bl _ _ h.o, bl _ _ h.l, by obtain ⟨c0, c1, c2, c3, c4, c5, c6, c7, ht⟩ := h.t; exact ⟨c0, c1, c2, c3, c4, c5, c6, c7, ht.below hb (by have := h.z; omega)⟩, h.b.trans (hb.mono h.b.size), Nat.le_trans h.z hb.size⟩
theorem QS.drew {w0 w : World} {ws : Value} {dk : Nat} {xp xo xl : Sx} (h : QS w0 ws dk xp xo xl w) : QS w0 ws dk xp xo xl w.drew := ⟨h.xw, h.xd, h.p, h.o, h.l, h.t, ⟨h.b.os, h.b.tape, h.b.output, h.b.size, h.b.block⟩, h.z⟩

set_option maxHeartbeats 8000000 in
theorem reader_any (a : Option Addr) (N cap dk : Nat) (xp xo xl : Sx) (w : World) (hp : w.cell? ⟨dk, 1, none⟩ = some (.slice xp.a xp.n xp.c)) (ho : w.cell? ⟨dk, 6, none⟩ = some (.slice xo.a xo.n xo.c)) (hl : w.cell? ⟨dk, 13, none⟩ = some (.slice xl.a xl.n xl.c)) :
    Calls Tryz.prog 46 #[.slice a N cap, .pointer (some ⟨dk, 0, none⟩)] w fun e w' => ∃ l1 l2 l3 l4, e = .returned (.agg #[Value.nilFunc, .func (.func 99) #[] #[.pointer (some ⟨w.heap.size, 0, none⟩), .pointer (some ⟨w.heap.size + 1, 0, none⟩)], Value.nilFunc, .func (.func 98) #[] #[.pointer (some ⟨w.heap.size, 0, none⟩), .pointer (some ⟨l1, 0, none⟩)], .func (.func 98) #[] #[.pointer (some ⟨w.heap.size, 0, none⟩), .pointer (some ⟨l2, 0, none⟩)], .func (.func 98) #[] #[.pointer (some ⟨w.heap.size, 0, none⟩), .pointer (some ⟨l3, 0, none⟩)], .func (.func 98) #[] #[.pointer (some ⟨w.heap.size, 0, none⟩), .pointer (some ⟨l4, 0, none⟩)], Value.nilFunc]) ∧ w'.cell? ⟨w.heap.size, 0, none⟩ = some (.slice a N cap) ∧ w'.cell? ⟨w.heap.size + 1, 0, none⟩ = some (.pointer (some ⟨dk, 0, none⟩)) ∧ inBox l1 ⟨some ⟨dk, 9, none⟩, 4, 4, fun _ => 0⟩ w' ∧ inBox l2 xp w' ∧ inBox l3 xo w' ∧ inBox l4 xl w' ∧ (w.heap.size ≤ l1 ∧ w.heap.size ≤ l2 ∧ w.heap.size ≤ l3 ∧ w.heap.size ≤ l4) ∧ Below w.heap.size w w' := by
  have hmf : ∀ (fn : Fn) (first cap : Array Value) (w : World), (Instr.makeFunc fn first cap).run Tryz.prog w = .ok (.func fn first cap) w := fun _ _ _ _ => rfl
  have dl := World.block_lt_of_cell? w _ hp
  simp only at dl
  have S0 : QS w (.slice a N cap) dk xp xo xl (((w.alloc (.cells #[.slice a N cap] 34)).alloc (.cells #[.pointer (some ⟨dk, 0, none⟩)] 69)).alloc (.cells #[Value.nilFunc, Value.nilFunc, Value.nilFunc, Value.nilFunc, Value.nilFunc, Value.nilFunc, Value.nilFunc, Value.nilFunc] 65)) := by
    have bb := below3 w (.cells #[.slice a N cap] 34) (.cells #[.pointer (some ⟨dk, 0, none⟩)] 69) (.cells #[Value.nilFunc, Value.nilFunc, Value.nilFunc, Value.nilFunc, Value.nilFunc, Value.nilFunc, Value.nilFunc, Value.nilFunc] 65)
    have bl := fun (p : Addr) (v : Value) (h : w.cell? p = some v) => (bb.cell (p := p) (World.block_lt_of_cell? w p h)).trans h
    refine ⟨?_, ?_, bl _ _ hp, bl _ _ ho, bl _ _ hl, ⟨_, _, _, _, _, _, _, _, ck_lit #[Value.nilFunc, Value.nilFunc, Value.nilFunc, Value.nilFunc, Value.nilFunc, Value.nilFunc, Value.nilFunc, Value.nilFunc] (heap3_2 w _ _ _)⟩, bb, by simp⟩
    · have := range_lit #[.slice a N cap] (heap3_0 w (.cells #[.slice a N cap] 34) (.cells #[.pointer (some ⟨dk, 0, none⟩)] 69) (.cells #[Value.nilFunc, Value.nilFunc, Value.nilFunc, Value.nilFunc, Value.nilFunc, Value.nilFunc, Value.nilFunc, Value.nilFunc] 65)) 0 _ rfl; exact this
    · have := range_lit #[.pointer (some ⟨dk, 0, none⟩)] (heap3_1 w (.cells #[.slice a N cap] 34) (.cells #[.pointer (some ⟨dk, 0, none⟩)] 69) (.cells #[Value.nilFunc, Value.nilFunc, Value.nilFunc, Value.nilFunc, Value.nilFunc, Value.nilFunc, Value.nilFunc, Value.nilFunc] 65)) 0 _ rfl; exact this
  clear hp ho hl
  go_enter Tryz.func46, Tryz.ntmps46
  go_wp2_with (fail)
  generalize ((w.alloc (.cells #[.slice a N cap] 34)).alloc (.cells #[.pointer (some ⟨dk, 0, none⟩)] 69)).alloc (.cells #[Value.nilFunc, Value.nilFunc, Value.nilFunc, Value.nilFunc, Value.nilFunc, Value.nilFunc, Value.nilFunc, Value.nilFunc] 65) = W at S0 ⊢
  have S1 := S0.drew
  clear S0
  refine wp_region_held_drew (S := QS w (.slice a N cap) dk xp xo xl) (by kernel_rfl) S1 (fun hS => ?_)
  clear S1
  refine takeB (i := 0) (v := .func (.func 99) #[] #[.pointer (some ⟨w.heap.size, 0, none⟩), .pointer (some ⟨w.heap.size + 1, 0, none⟩)]) (d := some 7) rfl rfl (by kernel_rfl) (by kernel_rfl) (by kernel_rfl) (fun _ _ _ h => h) (Or.inl ⟨by rfl, fun w' hw => ?_⟩) (by assumption) ?_
  · clear hw; go_simp
  simp only [Act.put, List.setIfInBounds_toArray, List.set_cons_zero, List.set_cons_succ]
  refine takeB (i := 1) (v := .func (.func 97) #[] #[.pointer (some ⟨w.heap.size, 0, none⟩)]) (d := some 8) rfl rfl (by kernel_rfl) (by kernel_rfl) (by kernel_rfl) (fun _ _ _ h => h) (Or.inl ⟨by rfl, fun w' hw => ?_⟩) (by assumption) ?_
  · clear hw; go_simp
  simp only [Act.put, List.setIfInBounds_toArray, List.set_cons_zero, List.set_cons_succ]
  refine takeB (i := 2) (v := .pointer (some ⟨dk, 0, none⟩)) (d := some 9) rfl rfl (by kernel_rfl) (by kernel_rfl) (by kernel_rfl) (fun _ _ _ h => h) (Or.inl ⟨by rfl, fun w' hw => ?_⟩) (by assumption) ?_
  · have q := hw.xd; clear hw; go_simp
  simp only [Act.put, List.setIfInBounds_toArray, List.set_cons_zero, List.set_cons_succ]
  refine takeB (i := 3) (v := .pointer (some ⟨dk, 0, none⟩)) (d := some 10) rfl rfl (by kernel_rfl) (by kernel_rfl) (by kernel_rfl) (fun _ _ _ h => h) (Or.inl ⟨by rfl, fun w' hw => ?_⟩) (by assumption) ?_
  · clear hw; go_simp
  simp only [Act.put, List.setIfInBounds_toArray, List.set_cons_zero, List.set_cons_succ]
  refine takeB (i := 4) (v := .pointer (some ⟨dk, 9, none⟩)) (d := some 11) rfl rfl (by kernel_rfl) (by kernel_rfl) (by kernel_rfl) (fun _ _ _ h => h) (Or.inl ⟨by rfl, fun w' hw => ?_⟩) (by assumption) ?_
  · clear hw; go_simp
  simp only [Act.put, List.setIfInBounds_toArray, List.set_cons_zero, List.set_cons_succ]
  refine takeB (i := 5) (v := .slice (some ⟨dk, 9, none⟩) 4 4) (d := some 12) rfl rfl (by kernel_rfl) (by kernel_rfl) (by kernel_rfl) (fun _ _ _ h => h) (Or.inl ⟨by rfl, fun w' hw => ?_⟩) (by assumption) ?_
  · clear hw; go_simp
  simp only [Act.put, List.setIfInBounds_toArray, List.set_cons_zero, List.set_cons_succ]
  refine takeB (i := 7) (v := .func (.func 97) #[] #[.pointer (some ⟨w.heap.size, 0, none⟩)]) (d := some 14) rfl rfl (by kernel_rfl) (by kernel_rfl) (by kernel_rfl) (fun _ _ _ h => h) (Or.inl ⟨by rfl, fun w' hw => ?_⟩) (by assumption) ?_
  · clear hw; go_simp
  simp only [Act.put, List.setIfInBounds_toArray, List.set_cons_zero, List.set_cons_succ]
  refine takeB (i := 8) (v := .pointer (some ⟨dk, 0, none⟩)) (d := some 15) rfl rfl (by kernel_rfl) (by kernel_rfl) (by kernel_rfl) (fun _ _ _ h => h) (Or.inl ⟨by rfl, fun w' hw => ?_⟩) (by assumption) ?_
  · have q := hw.xd; clear hw; go_simp
  simp only [Act.put, List.setIfInBounds_toArray, List.set_cons_zero, List.set_cons_succ]
  refine takeB (i := 9) (v := .pointer (some ⟨dk, 0, none⟩)) (d := some 16) rfl rfl (by kernel_rfl) (by kernel_rfl) (by kernel_rfl) (fun _ _ _ h => h) (Or.inl ⟨by rfl, fun w' hw => ?_⟩) (by assumption) ?_
  · clear hw; go_simp
  simp only [Act.put, List.setIfInBounds_toArray, List.set_cons_zero, List.set_cons_succ]
  refine takeB (i := 10) (v := .pointer (some ⟨dk, 0, none⟩)) (d := some 17) rfl rfl (by kernel_rfl) (by kernel_rfl) (by kernel_rfl) (fun _ _ _ h => h) (Or.inl ⟨by rfl, fun w' hw => ?_⟩) (by assumption) ?_
  · clear hw; go_simp
  simp only [Act.put, List.setIfInBounds_toArray, List.set_cons_zero, List.set_cons_succ]
  refine takeB (i := 11) (v := .pointer (some ⟨dk, 1, none⟩)) (d := some 18) rfl rfl (by kernel_rfl) (by kernel_rfl) (by kernel_rfl) (fun _ _ _ h => h) (Or.inl ⟨by rfl, fun w' hw => ?_⟩) (by assumption) ?_
  · clear hw; go_simp
  simp only [Act.put, List.setIfInBounds_toArray, List.set_cons_zero, List.set_cons_succ]
  refine takeB (i := 12) (v := .slice xp.a xp.n xp.c) (d := some 19) rfl rfl (by kernel_rfl) (by kernel_rfl) (by kernel_rfl) (fun _ _ _ h => h) (Or.inl ⟨by rfl, fun w' hw => ?_⟩) (by assumption) ?_
  · have q := hw.p; clear hw; go_simp
  simp only [Act.put, List.setIfInBounds_toArray, List.set_cons_zero, List.set_cons_succ]
  refine takeB (i := 14) (v := .func (.func 97) #[] #[.pointer (some ⟨w.heap.size, 0, none⟩)]) (d := some 21) rfl rfl (by kernel_rfl) (by kernel_rfl) (by kernel_rfl) (fun _ _ _ h => h) (Or.inl ⟨by rfl, fun w' hw => ?_⟩) (by assumption) ?_
  · clear hw; go_simp
  simp only [Act.put, List.setIfInBounds_toArray, List.set_cons_zero, List.set_cons_succ]
  refine takeB (i := 15) (v := .pointer (some ⟨dk, 0, none⟩)) (d := some 22) rfl rfl (by kernel_rfl) (by kernel_rfl) (by kernel_rfl) (fun _ _ _ h => h) (Or.inl ⟨by rfl, fun w' hw => ?_⟩) (by assumption) ?_
  · have q := hw.xd; clear hw; go_simp
  simp only [Act.put, List.setIfInBounds_toArray, List.set_cons_zero, List.set_cons_succ]
  refine takeB (i := 16) (v := .pointer (some ⟨dk, 0, none⟩)) (d := some 23) rfl rfl (by kernel_rfl) (by kernel_rfl) (by kernel_rfl) (fun _ _ _ h => h) (Or.inl ⟨by rfl, fun w' hw => ?_⟩) (by assumption) ?_
  · clear hw; go_simp
  simp only [Act.put, List.setIfInBounds_toArray, List.set_cons_zero, List.set_cons_succ]
  refine takeB (i := 17) (v := .pointer (some ⟨dk, 0, none⟩)) (d := some 24) rfl rfl (by kernel_rfl) (by kernel_rfl) (by kernel_rfl) (fun _ _ _ h => h) (Or.inl ⟨by rfl, fun w' hw => ?_⟩) (by assumption) ?_
  · clear hw; go_simp
  simp only [Act.put, List.setIfInBounds_toArray, List.set_cons_zero, List.set_cons_succ]
  refine takeB (i := 18) (v := .pointer (some ⟨dk, 6, none⟩)) (d := some 25) rfl rfl (by kernel_rfl) (by kernel_rfl) (by kernel_rfl) (fun _ _ _ h => h) (Or.inl ⟨by rfl, fun w' hw => ?_⟩) (by assumption) ?_
  · clear hw; go_simp
  simp only [Act.put, List.setIfInBounds_toArray, List.set_cons_zero, List.set_cons_succ]
  refine takeB (i := 19) (v := .slice xo.a xo.n xo.c) (d := some 26) rfl rfl (by kernel_rfl) (by kernel_rfl) (by kernel_rfl) (fun _ _ _ h => h) (Or.inl ⟨by rfl, fun w' hw => ?_⟩) (by assumption) ?_
  · have q := hw.o; clear hw; go_simp
  simp only [Act.put, List.setIfInBounds_toArray, List.set_cons_zero, List.set_cons_succ]
  refine takeB (i := 21) (v := .func (.func 97) #[] #[.pointer (some ⟨w.heap.size, 0, none⟩)]) (d := some 28) rfl rfl (by kernel_rfl) (by kernel_rfl) (by kernel_rfl) (fun _ _ _ h => h) (Or.inl ⟨by rfl, fun w' hw => ?_⟩) (by assumption) ?_
  · clear hw; go_simp
  simp only [Act.put, List.setIfInBounds_toArray, List.set_cons_zero, List.set_cons_succ]
  refine takeB (i := 22) (v := .pointer (some ⟨dk, 0, none⟩)) (d := some 29) rfl rfl (by kernel_rfl) (by kernel_rfl) (by kernel_rfl) (fun _ _ _ h => h) (Or.inl ⟨by rfl, fun w' hw => ?_⟩) (by assumption) ?_
  · have q := hw.xd; clear hw; go_simp
  simp only [Act.put, List.setIfInBounds_toArray, List.set_cons_zero, List.set_cons_succ]
  refine takeB (i := 23) (v := .pointer (some ⟨dk, 0, none⟩)) (d := some 30) rfl rfl (by kernel_rfl) (by kernel_rfl) (by kernel_rfl) (fun _ _ _ h => h) (Or.inl ⟨by rfl, fun w' hw => ?_⟩) (by assumption) ?_
  · clear hw; go_simp
  simp only [Act.put, List.setIfInBounds_toArray, List.set_cons_zero, List.set_cons_succ]
  refine takeB (i := 24) (v := .pointer (some ⟨dk, 13, none⟩)) (d := some 31) rfl rfl (by kernel_rfl) (by kernel_rfl) (by kernel_rfl) (fun _ _ _ h => h) (Or.inl ⟨by rfl, fun w' hw => ?_⟩) (by assumption) ?_
  · clear hw; go_simp
  simp only [Act.put, List.setIfInBounds_toArray, List.set_cons_zero, List.set_cons_succ]
  refine takeB (i := 25) (v := .slice xl.a xl.n xl.c) (d := some 32) rfl rfl (by kernel_rfl) (by kernel_rfl) (by kernel_rfl) (fun _ _ _ h => h) (Or.inl ⟨by rfl, fun w' hw => ?_⟩) (by assumption) ?_
  · have q := hw.l; clear hw; go_simp
  simp only [Act.put, List.setIfInBounds_toArray, List.set_cons_zero, List.set_cons_succ]
  generalize World.drew _ = V0 at hS ⊢
  refine wpAnyH_ready (rs := [6]) (by kernel_rfl) (by simp) ?_
  refine AllReadyH.cons rfl (fun K hK => ?_) AllReadyH.nil
  have HS : Hid (QS _ _ _ _ _ _ _) := hS
  clear hS
  go_simp
  refine (rmk_any (⟨some ⟨dk, 9, none⟩, 4, 4, fun _ => 0⟩ : Sx) w.heap.size V0).mono ?_
  rintro e U ⟨rfl, rfl⟩
  have X0 : Hid (inBox V0.heap.size (⟨some ⟨dk, 9, none⟩, 4, 4, fun _ => 0⟩ : Sx) (V0.alloc (.cells #[.slice (some ⟨dk, 9, none⟩) 4 4] 25))) := inBox.new (⟨some ⟨dk, 9, none⟩, 4, 4, fun _ => 0⟩ : Sx) V0 25
  have SS : Hid (QS _ _ _ _ _ _ _) := HS.out.later (below1 V0 (.cells #[.slice (some ⟨dk, 9, none⟩) 4 4] 25))
  have y0 := HS.out.z
  clear HS
  go_simp
  refine hK.out _ _ SS.out (fun hS => ?_)
  clear hK K SS
  obtain ⟨l1, e1⟩ : ∃ l, l = V0.heap.size := ⟨_, rfl⟩
  rw [← e1] at X0 y0 ⊢
  clear e1
  generalize V0.alloc _ = V1 at X0 hS ⊢
  refine wpAnyH_ready (rs := [13]) (by kernel_rfl) (by simp) ?_
  refine AllReadyH.cons rfl (fun K hK => ?_) AllReadyH.nil
  have HS : Hid (QS _ _ _ _ _ _ _) := hS
  clear hS
  go_simp
  refine (rmk_any xp w.heap.size V1).mono ?_
  rintro e U ⟨rfl, rfl⟩
  have X1 : Hid (inBox V1.heap.size xp (V1.alloc (.cells #[.slice xp.a xp.n xp.c] 25))) := inBox.new xp V1 25
  have SS : Hid (QS _ _ _ _ _ _ _) := HS.out.later (below1 V1 (.cells #[.slice xp.a xp.n xp.c] 25))
  have y1 := HS.out.z
  clear HS
  go_simp
  refine hK.out _ _ SS.out (fun hS => ?_)
  clear hK K SS
  replace X0 : Hid (inBox l1 (⟨some ⟨dk, 9, none⟩, 4, 4, fun _ => 0⟩ : Sx) _) := X0.out.later (below1 V1 (.cells #[.slice xp.a xp.n xp.c] 25))
  obtain ⟨l2, e2⟩ : ∃ l, l = V1.heap.size := ⟨_, rfl⟩
  rw [← e2] at X1 y1 ⊢
  clear e2
  generalize V1.alloc _ = V2 at X0 X1 hS ⊢
  refine wpAnyH_ready (rs := [20]) (by kernel_rfl) (by simp) ?_
  refine AllReadyH.cons rfl (fun K hK => ?_) AllReadyH.nil
  have HS : Hid (QS _ _ _ _ _ _ _) := hS
  clear hS
  go_simp
  refine (rmk_any xo w.heap.size V2).mono ?_
  rintro e U ⟨rfl, rfl⟩
  have X2 : Hid (inBox V2.heap.size xo (V2.alloc (.cells #[.slice xo.a xo.n xo.c] 25))) := inBox.new xo V2 25
  have SS : Hid (QS _ _ _ _ _ _ _) := HS.out.later (below1 V2 (.cells #[.slice xo.a xo.n xo.c] 25))
  have y2 := HS.out.z
  clear HS
  go_simp
  refine hK.out _ _ SS.out (fun hS => ?_)
  clear hK K SS
  replace X0 : Hid (inBox l1 (⟨some ⟨dk, 9, none⟩, 4, 4, fun _ => 0⟩ : Sx) _) := X0.out.later (below1 V2 (.cells #[.slice xo.a xo.n xo.c] 25))
  replace X1 : Hid (inBox l2 xp _) := X1.out.later (below1 V2 (.cells #[.slice xo.a xo.n xo.c] 25))
  obtain ⟨l3, e3⟩ : ∃ l, l = V2.heap.size := ⟨_, rfl⟩
  rw [← e3] at X2 y2 ⊢
  clear e3
  generalize V2.alloc _ = V3 at X0 X1 X2 hS ⊢
  refine wpAnyH_ready (rs := [26]) (by kernel_rfl) (by simp) ?_
  refine AllReadyH.cons rfl (fun K hK => ?_) AllReadyH.nil
  have HS : Hid (QS _ _ _ _ _ _ _) := hS
  clear hS
  go_simp
  refine (rmk_any xl w.heap.size V3).mono ?_
  rintro e U ⟨rfl, rfl⟩
  have X3 : Hid (inBox V3.heap.size xl (V3.alloc (.cells #[.slice xl.a xl.n xl.c] 25))) := inBox.new xl V3 25
  have SS : Hid (QS _ _ _ _ _ _ _) := HS.out.later (below1 V3 (.cells #[.slice xl.a xl.n xl.c] 25))
  have y3 := HS.out.z
  clear HS
  go_simp
  refine hK.out _ _ SS.out (fun hS => ?_)
  clear hK K SS
  replace X0 : Hid (inBox l1 (⟨some ⟨dk, 9, none⟩, 4, 4, fun _ => 0⟩ : Sx) _) := X0.out.later (below1 V3 (.cells #[.slice xl.a xl.n xl.c] 25))
  replace X1 : Hid (inBox l2 xp _) := X1.out.later (below1 V3 (.cells #[.slice xl.a xl.n xl.c] 25))
  replace X2 : Hid (inBox l3 xo _) := X2.out.later (below1 V3 (.cells #[.slice xl.a xl.n xl.c] 25))
  obtain ⟨l4, e4⟩ : ∃ l, l = V3.heap.size := ⟨_, rfl⟩
  rw [← e4] at X3 y3 ⊢
  clear e4
  generalize V3.alloc _ = V4 at X0 X1 X2 X3 hS ⊢
  refine takeB (i := 27) (v := .agg #[Value.nilFunc, .func (.func 99) #[] #[.pointer (some ⟨w.heap.size, 0, none⟩), .pointer (some ⟨w.heap.size + 1, 0, none⟩)], Value.nilFunc, .func (.func 98) #[] #[.pointer (some ⟨w.heap.size, 0, none⟩), .pointer (some ⟨l1, 0, none⟩)], .func (.func 98) #[] #[.pointer (some ⟨w.heap.size, 0, none⟩), .pointer (some ⟨l2, 0, none⟩)], .func (.func 98) #[] #[.pointer (some ⟨w.heap.size, 0, none⟩), .pointer (some ⟨l3, 0, none⟩)], .func (.func 98) #[] #[.pointer (some ⟨w.heap.size, 0, none⟩), .pointer (some ⟨l4, 0, none⟩)], Value.nilFunc]) (d := some 34) rfl rfl (by kernel_rfl) (by kernel_rfl) (by kernel_rfl) (fun _ _ _ h => h) (Or.inl ⟨by rfl, fun w' hw => ?_⟩) (by assumption) ?_
  · clear hw; go_simp
  simp only [Act.put, List.setIfInBounds_toArray, List.set_cons_zero, List.set_cons_succ]
  obtain ⟨c0, c1, c2, c3, c4, c5, c6, c7, ht⟩ := hS.t
  obtain ⟨ck, oy⟩ := put8 ht (Value.nilFunc) (.func (.func 99) #[] #[.pointer (some ⟨w.heap.size, 0, none⟩), .pointer (some ⟨w.heap.size + 1, 0, none⟩)]) (Value.nilFunc) (.func (.func 98) #[] #[.pointer (some ⟨w.heap.size, 0, none⟩), .pointer (some ⟨l1, 0, none⟩)]) (.func (.func 98) #[] #[.pointer (some ⟨w.heap.size, 0, none⟩), .pointer (some ⟨l2, 0, none⟩)]) (.func (.func 98) #[] #[.pointer (some ⟨w.heap.size, 0, none⟩), .pointer (some ⟨l3, 0, none⟩)]) (.func (.func 98) #[] #[.pointer (some ⟨w.heap.size, 0, none⟩), .pointer (some ⟨l4, 0, none⟩)]) (Value.nilFunc)
  have p0 := ht 0 _ rfl
  have p1 := ht 1 _ rfl
  have p2 := ht 2 _ rfl
  have p3 := ht 3 _ rfl
  have p4 := ht 4 _ rfl
  have p5 := ht 5 _ rfl
  have p6 := ht 6 _ rfl
  have p7 := ht 7 _ rfl
  have HS : Hid (QS _ _ _ _ _ _ _) := hS
  have CK : Hid (Ck _ _ _) := ck
  have OY : Hid (Only _ _ _ _) := oy
  have TH : Hid (V4.there (w.heap.size + 1 + 1) 0 8) := there8 ht
  clear hS ck oy ht
  refine wpAnyH_ready (rs := [28]) (by kernel_rfl) (by simp) ?_
  refine AllReadyH.cons rfl (fun K hK => ?_) AllReadyH.nil
  go_simp
  clear p0 p1 p2 p3 p4 p5 p6 p7
  have zz := HS.out.z
  have zo := OY.out.size
  have B9 : Below w.heap.size w _ := HS.out.b.trans (OY.out.below (by omega) |>.mono (by omega))
  have W9 : QS w (.slice a N cap) dk xp xo xl _ := ⟨(OY.out.cell (by omega) (.inl (by omega))).trans HS.out.xw, (OY.out.cell (by omega) (.inl (by omega))).trans HS.out.xd, (OY.out.cell (by omega) (.inl (by omega))).trans HS.out.p, (OY.out.cell (by omega) (.inl (by omega))).trans HS.out.o, (OY.out.cell (by omega) (.inl (by omega))).trans HS.out.l, ⟨_, _, _, _, _, _, _, _, CK.out⟩, B9, Nat.le_trans zz zo⟩
  have M0 : inBox l1 (⟨some ⟨dk, 9, none⟩, 4, 4, fun _ => 0⟩ : Sx) _ := (OY.out.cell (World.block_lt_of_cell? _ _ X0.out) (.inr (by omega))).trans X0.out
  have M1 : inBox l2 xp _ := (OY.out.cell (World.block_lt_of_cell? _ _ X1.out) (.inr (by omega))).trans X1.out
  have M2 : inBox l3 xo _ := (OY.out.cell (World.block_lt_of_cell? _ _ X2.out) (.inr (by omega))).trans X2.out
  have M3 : inBox l4 xl _ := (OY.out.cell (World.block_lt_of_cell? _ _ X3.out) (.inr (by omega))).trans X3.out
  refine hK.out _ _ W9 (fun hS => ?_)
  clear hK K hS
  have HM0 : Hid (inBox l1 (⟨some ⟨dk, 9, none⟩, 4, 4, fun _ => 0⟩ : Sx) _) := M0
  have HM1 : Hid (inBox l2 xp _) := M1
  have HM2 : Hid (inBox l3 xo _) := M2
  have HM3 : Hid (inBox l4 xl _) := M3
  have HW9 : Hid (QS w (.slice a N cap) dk xp xo xl _) := W9
  clear M0 M1 M2 M3 W9 B9
  refine wpAnyH_done (by kernel_rfl) ?_ _
  go_wp2_with (fail)
  exact bodyPost_ret (results_cell_mid rfl _ _ (w.heap.size + 1 + 1) 0 _ _ rfl CK.out.range Tryz.underlying65 rfl (by kernel_rfl)) rfl ⟨l1, l2, l3, l4, rfl, HW9.out.xw, HW9.out.xd, HM0.out, HM1.out, HM2.out, HM3.out, ⟨by omega, by omega, by omega, by omega⟩, HW9.out.b⟩

end Go.Proofs.YtipbijcmpbefpaaGreat.Book

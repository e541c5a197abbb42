/- Words are read into a draft, by the program: the functions of the visitor. -/
import Derived.Test.YtgfbfgiohmdjmaaGreatM23
import Derived.Test.YtgfbfgiohmdjmaaGreatM20
import Derived.Test.YtgfbfgiohmdjmaaGreatM12
namespace Go.Proofs.YtgfbfgiohmdjmaaGreat.Book
open Go.ChangeShapes Go.WideShapes Go.ChangeAt Go.RowKit
open Aid Lst Words
open Plat (okB okB_of getF W64)
set_option maxRecDepth 100000
set_option linter.unusedVariables false

theorem sl_cell {w : World} {a : Option Addr} {N : Nat} {f : Nat → Int} (h : Sl .u64 w a N f) {j : Nat} (hj : j < N) : ∃ k o, a = some ⟨k, o, none⟩ ∧ w.cell? ⟨k, o + j, none⟩ = some (.int .u64 (f j)) := by
  rcases h with h | ⟨k, o, e, hc⟩
  · omega
  · exact ⟨k, o, e, hc j hj⟩
theorem setCell_size (w : World) (p : Addr) (v : Value) : (w.setCell p v).heap.size = w.heap.size := by simp

set_option maxHeartbeats 2000000 in
theorem rcopy_any (wb lb k o n at_ ln lc : Nat) (a : Option Addr) (N cap : Nat) (f : Nat → Int) (x : Int) (w : World) (hwb : w.cell? ⟨wb, 0, none⟩ = some (.slice a N cap)) (hs : Sl .u64 w a N f) (hl : w.cell? ⟨lb, 0, none⟩ = some (.slice (some ⟨k, o, none⟩) ln lc)) (hc : w.cell? ⟨k, o + n, none⟩ = some (.int .i64 x)) (hf : w.frozen? ⟨k, o + n, none⟩ = false) (hn : n < ln) (ha : at_ < N) (hw : W64 f) (e1 : lb ≠ k) (e2 : wb ≠ k) (e3 : ∀ ka oa, a = some ⟨ka, oa, none⟩ → ka ≠ k) :
    Calls Tryz.prog 100 #[.int .i64 n, .int .i64 at_, .pointer (some ⟨wb, 0, none⟩), .pointer (some ⟨lb, 0, none⟩)] w fun e w' => e = .returned (.tuple #[]) ∧ ∃ u, Below w.heap.size w u ∧ w' = u.setCell ⟨k, o + n, none⟩ (.int .i64 (lo32 (f at_))) := by
  obtain ⟨ka, oa, ea, ca⟩ := sl_cell hs ha
  rw [ea] at hwb
  obtain ⟨g0, g1⟩ := hw at_
  have e3' : ka ≠ k := e3 ka oa ea
  have S0 : (fun w' : World => w'.cell? ⟨lb, 0, none⟩ = some (.slice (some ⟨k, o, none⟩) ln lc) ∧ w'.cell? ⟨ka, oa + at_, none⟩ = some (.int .u64 (f at_)) ∧ w'.cell? ⟨wb, 0, none⟩ = some (.slice (some ⟨ka, oa, none⟩) N cap)) w.drew := ⟨hl, ca, hwb⟩
  have hni : (n : Int) < ln := by omega
  have hai : (at_ : Int) < N := by omega
  have OD : Hid (Below w.heap.size w w.drew) := ⟨rfl, rfl, rfl, Nat.le_refl _, fun _ _ => rfl⟩
  have HC : Hid (w.drew.cell? ⟨k, o + n, none⟩ = some (.int .i64 x)) := hc
  have HF : Hid (w.drew.frozen? ⟨k, o + n, none⟩ = false) := hf
  clear hs hwb hl hc hf ea ca e3
  go_enter Tryz.func100, Tryz.ntmps100
  refine wp_region_held_drew (S := fun w' : World => w'.cell? ⟨lb, 0, none⟩ = some (.slice (some ⟨k, o, none⟩) ln lc) ∧ w'.cell? ⟨ka, oa + at_, none⟩ = some (.int .u64 (f at_)) ∧ w'.cell? ⟨wb, 0, none⟩ = some (.slice (some ⟨ka, oa, none⟩) N cap)) (by kernel_rfl) S0 (fun hS => ?_)
  clear S0
  refine tI 0 (v := .slice (some ⟨k, o, none⟩) ln lc) (d := some 6) rfl rfl (fun w' hw => ?_) (by assumption) ?_
  · have q := hw.1; clear hw; go_simp
  simp only [Act.put, s1, s2, s3]
  refine tI 1 (v := .int .i64 n) (d := some 7) rfl rfl (fun w' hw => ?_) (by assumption) ?_
  · clear hw; go_simp
  simp only [Act.put, s1, s2, s3]
  refine tI 2 (v := .slice (some ⟨ka, oa, none⟩) N cap) (d := some 8) rfl rfl (fun w' hw => ?_) (by assumption) ?_
  · have q := hw.2.2; clear hw; go_simp
  simp only [Act.put, s1, s2, s3]
  refine tI 3 (v := .int .i64 at_) (d := some 9) rfl rfl (fun w' hw => ?_) (by assumption) ?_
  · clear hw; go_simp
  simp only [Act.put, s1, s2, s3]
  refine tI 4 (v := .pointer (some ⟨ka, oa + at_, none⟩)) (d := some 10) rfl rfl (fun w' hw => ?_) (by assumption) ?_
  · clear hw; go_simp
  simp only [Act.put, s1, s2, s3]
  refine tI 5 (v := .int .u64 (f at_)) (d := some 11) rfl rfl (fun w' hw => ?_) (by assumption) ?_
  · have q := hw.2.1; clear hw; go_simp
  simp only [Act.put, s1, s2, s3]
  generalize World.drew _ = V at hS HC HF OD ⊢
  refine r1 6 rfl (fun K hK => ?_)
  have HS : Hid (_ ∧ _) := hS
  clear hS
  go_simp
  refine (val_any (f at_) V g0 g1).mono ?_
  rintro e V ⟨rfl, rfl⟩
  go_simp
  refine hK.out _ _ HS.out (fun hS => ?_)
  clear hK K HS
  refine tI 7 (v := .pointer (some ⟨k, o + n, none⟩)) (d := some 13) rfl rfl (fun w' hw => ?_) (by assumption) ?_
  · clear hw; go_simp
  simp only [Act.put, s1, s2, s3]
  refine r1 8 rfl (fun K hK => ?_)
  have HS : Hid (_ ∧ _) := hS
  clear hS
  have hc := HC.out
  have hf := HF.out
  go_simp
  refine hK.out _ _ ⟨?_, ?_, ?_⟩ (fun hS => ?_)
  · rw [World.cell?_setCell_far _ _ _ _ (fun h => e1 h.symm)]; exact HS.out.1
  · rw [World.cell?_setCell_far _ _ _ _ (fun h => e3' h.symm)]; exact HS.out.2.1
  · rw [World.cell?_setCell_far _ _ _ _ (fun h => e2 h.symm)]; exact HS.out.2.2
  clear hK K
  refine wpAnyH_done (by kernel_rfl) ?_ _
  go_wp2_with (fail)
  exact bodyPost_end (v := .tuple #[]) (by simp [results, Tryz.results100]) rfl ⟨rfl, V, OD.out, rfl⟩

set_option maxHeartbeats 4000000 in
theorem rreg_any (wb db dk ki ke n at_ ni ci ne ce : Nat) (a : Option Addr) (N cap : Nat) (f : Nat → Int) (x y : Int) (w : World) (hwb : w.cell? ⟨wb, 0, none⟩ = some (.slice a N cap)) (hs : Sl .u64 w a N f) (hd : w.cell? ⟨db, 0, none⟩ = some (.pointer (some ⟨dk, 0, none⟩))) (hi : w.cell? ⟨dk, 7, none⟩ = some (.slice (some ⟨ki, 0, none⟩) ni ci)) (he : w.cell? ⟨dk, 8, none⟩ = some (.slice (some ⟨ke, 0, none⟩) ne ce)) (hc : w.cell? ⟨ki, n, none⟩ = some (.int .i64 x)) (hf : w.frozen? ⟨ki, n, none⟩ = false) (hc' : w.cell? ⟨ke, n, none⟩ = some (.int .i64 y)) (hf' : w.frozen? ⟨ke, n, none⟩ = false) (hn : n < ni) (hn' : n < ne) (ha : at_ < N) (hw : W64 f)
    (e1 : db ≠ ki) (e2 : wb ≠ ki) (e3 : ∀ ka oa, a = some ⟨ka, oa, none⟩ → ka ≠ ki) (e4 : dk ≠ ki) (q1 : db ≠ ke) (q2 : wb ≠ ke) (q3 : ∀ ka oa, a = some ⟨ka, oa, none⟩ → ka ≠ ke) (q4 : dk ≠ ke) (ne' : ki ≠ ke) :
    Calls Tryz.prog 102 #[.int .i64 n, .int .i64 at_, .pointer (some ⟨wb, 0, none⟩), .pointer (some ⟨db, 0, none⟩)] w fun e w' => e = .returned (.tuple #[]) ∧ ∃ u, Below w.heap.size w u ∧ w' = (u.setCell ⟨ki, n, none⟩ (.int .i64 (lo32 (f at_) % 4))).setCell ⟨ke, n, none⟩ (.int .i64 (lo32 (f at_) / 4)) := by
  obtain ⟨ka, oa, ea, ca⟩ := sl_cell hs ha
  rw [ea] at hwb
  obtain ⟨g0, g1⟩ := hw at_
  have e3' : ka ≠ ki := e3 ka oa ea
  have q3' : ka ≠ ke := q3 ka oa ea
  have S0 : (fun w' : World => w'.cell? ⟨db, 0, none⟩ = some (.pointer (some ⟨dk, 0, none⟩)) ∧ w'.cell? ⟨dk, 7, none⟩ = some (.slice (some ⟨ki, 0, none⟩) ni ci) ∧ w'.cell? ⟨dk, 8, none⟩ = some (.slice (some ⟨ke, 0, none⟩) ne ce) ∧ w'.cell? ⟨ka, oa + at_, none⟩ = some (.int .u64 (f at_)) ∧ w'.cell? ⟨wb, 0, none⟩ = some (.slice (some ⟨ka, oa, none⟩) N cap) ∧ (∃ y, w'.cell? ⟨ke, n, none⟩ = some (.int .i64 y) ∧ w'.frozen? ⟨ke, n, none⟩ = false)) w.drew := ⟨hd, hi, he, ca, hwb, y, hc', hf'⟩
  have hni : (n : Int) < ni := by omega
  have hne : (n : Int) < ne := by omega
  have hai : (at_ : Int) < N := by omega
  have OD : Hid (Below w.heap.size w w.drew) := ⟨rfl, rfl, rfl, Nat.le_refl _, fun _ _ => rfl⟩
  have HC : Hid (w.drew.cell? ⟨ki, n, none⟩ = some (.int .i64 x)) := hc
  have HF : Hid (w.drew.frozen? ⟨ki, n, none⟩ = false) := hf
  clear hs hwb hd hi he hc hf hc' hf' ea ca e3 q3
  go_enter Tryz.func102, Tryz.ntmps102
  refine wp_region_held_drew (S := fun w' : World => w'.cell? ⟨db, 0, none⟩ = some (.pointer (some ⟨dk, 0, none⟩)) ∧ w'.cell? ⟨dk, 7, none⟩ = some (.slice (some ⟨ki, 0, none⟩) ni ci) ∧ w'.cell? ⟨dk, 8, none⟩ = some (.slice (some ⟨ke, 0, none⟩) ne ce) ∧ w'.cell? ⟨ka, oa + at_, none⟩ = some (.int .u64 (f at_)) ∧ w'.cell? ⟨wb, 0, none⟩ = some (.slice (some ⟨ka, oa, none⟩) N cap) ∧ (∃ y, w'.cell? ⟨ke, n, none⟩ = some (.int .i64 y) ∧ w'.frozen? ⟨ke, n, none⟩ = false)) (by kernel_rfl) S0 (fun hS => ?_)
  clear S0
  refine tI 0 (v := .pointer (some ⟨dk, 0, none⟩)) (d := some 7) rfl rfl (fun w' hw => ?_) (by assumption) ?_
  · have q := hw.1; clear hw; go_simp
  simp only [Act.put, s1, s2, s3]
  refine tI 1 (v := .pointer (some ⟨dk, 0, none⟩)) (d := some 8) rfl rfl (fun w' hw => ?_) (by assumption) ?_
  · clear hw; go_simp
  simp only [Act.put, s1, s2, s3]
  refine tI 2 (v := .pointer (some ⟨dk, 0, none⟩)) (d := some 9) rfl rfl (fun w' hw => ?_) (by assumption) ?_
  · clear hw; go_simp
  simp only [Act.put, s1, s2, s3]
  refine tI 3 (v := .pointer (some ⟨dk, 7, none⟩)) (d := some 10) rfl rfl (fun w' hw => ?_) (by assumption) ?_
  · clear hw; go_simp
  simp only [Act.put, s1, s2, s3]
  refine tI 4 (v := .slice (some ⟨ki, 0, none⟩) ni ci) (d := some 11) rfl rfl (fun w' hw => ?_) (by assumption) ?_
  · have q := hw.2.1; clear hw; go_simp
  simp only [Act.put, s1, s2, s3]
  refine tI 5 (v := .int .i64 n) (d := some 12) rfl rfl (fun w' hw => ?_) (by assumption) ?_
  · clear hw; go_simp
  simp only [Act.put, s1, s2, s3]
  refine tI 6 (v := .pointer (some ⟨dk, 0, none⟩)) (d := some 13) rfl rfl (fun w' hw => ?_) (by assumption) ?_
  · have q := hw.1; clear hw; go_simp
  simp only [Act.put, s1, s2, s3]
  refine tI 7 (v := .pointer (some ⟨dk, 0, none⟩)) (d := some 14) rfl rfl (fun w' hw => ?_) (by assumption) ?_
  · clear hw; go_simp
  simp only [Act.put, s1, s2, s3]
  refine tI 8 (v := .pointer (some ⟨dk, 0, none⟩)) (d := some 15) rfl rfl (fun w' hw => ?_) (by assumption) ?_
  · clear hw; go_simp
  simp only [Act.put, s1, s2, s3]
  refine tI 9 (v := .pointer (some ⟨dk, 8, none⟩)) (d := some 16) rfl rfl (fun w' hw => ?_) (by assumption) ?_
  · clear hw; go_simp
  simp only [Act.put, s1, s2, s3]
  refine tI 10 (v := .slice (some ⟨ke, 0, none⟩) ne ce) (d := some 17) rfl rfl (fun w' hw => ?_) (by assumption) ?_
  · have q := hw.2.2.1; clear hw; go_simp
  simp only [Act.put, s1, s2, s3]
  refine tI 11 (v := .int .i64 n) (d := some 18) rfl rfl (fun w' hw => ?_) (by assumption) ?_
  · clear hw; go_simp
  simp only [Act.put, s1, s2, s3]
  refine tI 12 (v := .slice (some ⟨ka, oa, none⟩) N cap) (d := some 19) rfl rfl (fun w' hw => ?_) (by assumption) ?_
  · have q := hw.2.2.2.2.1; clear hw; go_simp
  simp only [Act.put, s1, s2, s3]
  refine tI 13 (v := .int .i64 at_) (d := some 20) rfl rfl (fun w' hw => ?_) (by assumption) ?_
  · clear hw; go_simp
  simp only [Act.put, s1, s2, s3]
  refine tI 14 (v := .pointer (some ⟨ka, oa + at_, none⟩)) (d := some 21) rfl rfl (fun w' hw => ?_) (by assumption) ?_
  · clear hw; go_simp
  simp only [Act.put, s1, s2, s3]
  refine tI 15 (v := .int .u64 (f at_)) (d := some 22) rfl rfl (fun w' hw => ?_) (by assumption) ?_
  · have q := hw.2.2.2.1; clear hw; go_simp
  simp only [Act.put, s1, s2, s3]
  generalize World.drew _ = V at hS HC HF OD ⊢
  refine r1 16 rfl (fun K hK => ?_)
  have HS : Hid (_ ∧ _) := hS
  clear hS
  go_simp
  refine (regOf_any (f at_) V g0 g1).mono ?_
  rintro e V1 ⟨rfl, -, hb⟩
  have bl := fun (p : Addr) (v : Value) (h : V.cell? p = some v) => (hb.cell (p := p) (World.block_lt_of_cell? V p h)).trans h
  have S1 : (fun w' : World => w'.cell? ⟨db, 0, none⟩ = some (.pointer (some ⟨dk, 0, none⟩)) ∧ w'.cell? ⟨dk, 7, none⟩ = some (.slice (some ⟨ki, 0, none⟩) ni ci) ∧ w'.cell? ⟨dk, 8, none⟩ = some (.slice (some ⟨ke, 0, none⟩) ne ce) ∧ w'.cell? ⟨ka, oa + at_, none⟩ = some (.int .u64 (f at_)) ∧ w'.cell? ⟨wb, 0, none⟩ = some (.slice (some ⟨ka, oa, none⟩) N cap) ∧ (∃ y, w'.cell? ⟨ke, n, none⟩ = some (.int .i64 y) ∧ w'.frozen? ⟨ke, n, none⟩ = false)) V1 := ⟨bl _ _ HS.out.1, bl _ _ HS.out.2.1, bl _ _ HS.out.2.2.1, bl _ _ HS.out.2.2.2.1, bl _ _ HS.out.2.2.2.2.1, by obtain ⟨y, q, r⟩ := HS.out.2.2.2.2.2; exact ⟨y, bl _ _ q, (hb.frozen (p := ⟨ke, n, none⟩) (World.block_lt_of_cell? V _ q)).trans r⟩⟩
  have HC1 : Hid (V1.cell? ⟨ki, n, none⟩ = some (.int .i64 x)) := bl _ _ HC.out
  have HF1 : Hid (V1.frozen? ⟨ki, n, none⟩ = false) := (hb.frozen (p := ⟨ki, n, none⟩) (World.block_lt_of_cell? V _ HC.out)).trans HF.out
  have OD1 : Hid (Below w.heap.size w V1) := OD.out.trans (hb.mono OD.out.size)
  obtain ⟨vI, hvI⟩ : ∃ v, v = lo32 (f at_) % 4 := ⟨_, rfl⟩
  obtain ⟨vE, hvE⟩ : ∃ v, v = lo32 (f at_) / 4 := ⟨_, rfl⟩
  rw [← hvI, ← hvE]
  have SS1 : Hid (_ ∧ _) := S1
  have VI : Hid (vI = lo32 (f at_) % 4) := hvI
  have VE : Hid (vE = lo32 (f at_) / 4) := hvE
  clear HS HC HF OD hb bl S1 hvI hvE
  go_simp
  refine hK.out _ _ SS1.out (fun hS => ?_)
  clear hK K SS1
  refine tI 17 (v := .tuple #[.int .i64 vI, .int .i64 vE]) (d := some 6) rfl rfl (fun w' hw => ?_) (by assumption) ?_
  · clear hw; go_simp
  simp only [Act.put, s1, s2, s3]
  refine tI 18 (v := .int .i64 vI) (d := some 24) rfl rfl (fun w' hw => ?_) (by assumption) ?_
  · clear hw; go_simp
  simp only [Act.put, s1, s2, s3]
  refine tI 19 (v := .int .i64 vE) (d := some 25) rfl rfl (fun w' hw => ?_) (by assumption) ?_
  · clear hw; go_simp
  simp only [Act.put, s1, s2, s3]
  refine tI 20 (v := .pointer (some ⟨ki, n, none⟩)) (d := some 26) rfl rfl (fun w' hw => ?_) (by assumption) ?_
  · clear hw; go_simp
  simp only [Act.put, s1, s2, s3]
  refine r1 21 rfl (fun K hK => ?_)
  have HS : Hid (_ ∧ _) := hS
  clear hS
  have hc := HC1.out
  have hf := HF1.out
  have S2 : Hid ((fun w' : World => w'.cell? ⟨db, 0, none⟩ = some (.pointer (some ⟨dk, 0, none⟩)) ∧ w'.cell? ⟨dk, 7, none⟩ = some (.slice (some ⟨ki, 0, none⟩) ni ci) ∧ w'.cell? ⟨dk, 8, none⟩ = some (.slice (some ⟨ke, 0, none⟩) ne ce) ∧ w'.cell? ⟨ka, oa + at_, none⟩ = some (.int .u64 (f at_)) ∧ w'.cell? ⟨wb, 0, none⟩ = some (.slice (some ⟨ka, oa, none⟩) N cap) ∧ (∃ y, w'.cell? ⟨ke, n, none⟩ = some (.int .i64 y) ∧ w'.frozen? ⟨ke, n, none⟩ = false)) (V1.setCell ⟨ki, n, none⟩ (.int .i64 vI))) := by
    obtain ⟨y, q, r⟩ := HS.out.2.2.2.2.2
    refine ⟨?_, ?_, ?_, ?_, ?_, y, ?_, ?_⟩
    · rw [World.cell?_setCell_far _ _ _ _ (fun h => e1 h.symm)]; exact HS.out.1
    · rw [World.cell?_setCell_far _ _ _ _ (fun h => e4 h.symm)]; exact HS.out.2.1
    · rw [World.cell?_setCell_far _ _ _ _ (fun h => e4 h.symm)]; exact HS.out.2.2.1
    · rw [World.cell?_setCell_far _ _ _ _ (fun h => e3' h.symm)]; exact HS.out.2.2.2.1
    · rw [World.cell?_setCell_far _ _ _ _ (fun h => e2 h.symm)]; exact HS.out.2.2.2.2.1
    · rw [World.cell?_setCell_far _ _ _ _ ne']; exact q
    · rw [World.frozen?_setCell]; exact r
  clear HS
  go_simp
  refine hK.out _ _ S2.out (fun hS => ?_)
  clear hK K S2 hc hf HC1 HF1
  refine tI 22 (v := .pointer (some ⟨ke, n, none⟩)) (d := some 27) rfl rfl (fun w' hw => ?_) (by assumption) ?_
  · clear hw; go_simp
  simp only [Act.put, s1, s2, s3]
  obtain ⟨y', cd, cf⟩ := hS.2.2.2.2.2
  refine r1 23 rfl (fun K hK => ?_)
  have HS : Hid (_ ∧ _) := hS
  clear hS
  generalize hW : V1.setCell ⟨ki, n, none⟩ (.int .i64 vI) = V2 at cd cf HS ⊢
  have S3 : Hid ((fun w' : World => w'.cell? ⟨db, 0, none⟩ = some (.pointer (some ⟨dk, 0, none⟩)) ∧ w'.cell? ⟨dk, 7, none⟩ = some (.slice (some ⟨ki, 0, none⟩) ni ci) ∧ w'.cell? ⟨dk, 8, none⟩ = some (.slice (some ⟨ke, 0, none⟩) ne ce) ∧ w'.cell? ⟨ka, oa + at_, none⟩ = some (.int .u64 (f at_)) ∧ w'.cell? ⟨wb, 0, none⟩ = some (.slice (some ⟨ka, oa, none⟩) N cap) ∧ (∃ y, w'.cell? ⟨ke, n, none⟩ = some (.int .i64 y) ∧ w'.frozen? ⟨ke, n, none⟩ = false)) (V2.setCell ⟨ke, n, none⟩ (.int .i64 vE))) := by
    refine ⟨?_, ?_, ?_, ?_, ?_, vE, ?_, ?_⟩
    · rw [World.cell?_setCell_far _ _ _ _ (fun h => q1 h.symm)]; exact HS.out.1
    · rw [World.cell?_setCell_far _ _ _ _ (fun h => q4 h.symm)]; exact HS.out.2.1
    · rw [World.cell?_setCell_far _ _ _ _ (fun h => q4 h.symm)]; exact HS.out.2.2.1
    · rw [World.cell?_setCell_far _ _ _ _ (fun h => q3' h.symm)]; exact HS.out.2.2.2.1
    · rw [World.cell?_setCell_far _ _ _ _ (fun h => q2 h.symm)]; exact HS.out.2.2.2.2.1
    · exact World.cell?_setCell_same' _ _ _ (by rw [cd]; rfl)
    · rw [World.frozen?_setCell]; exact cf
  have HW2 : Hid (V2 = V1.setCell ⟨ki, n, none⟩ (.int .i64 vI)) := hW.symm
  clear HS hW
  go_simp
  refine hK.out _ _ S3.out (fun hS => ?_)
  clear hK K S3 hS
  refine wpAnyH_done (by kernel_rfl) ?_ _
  go_wp2_with (fail)
  exact bodyPost_end (v := .tuple #[]) (by simp [results, Tryz.results102]) rfl ⟨rfl, V1, OD1.out, by rw [HW2.out, ← VI.out, ← VE.out]⟩


end Go.Proofs.YtgfbfgiohmdjmaaGreat.Book

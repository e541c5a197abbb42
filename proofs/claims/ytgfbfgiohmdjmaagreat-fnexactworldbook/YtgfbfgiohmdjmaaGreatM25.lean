import Derived.Test.YtgfbfgiohmdjmaaGreatCb10
import Derived.Test.YtgfbfgiohmdjmaaGreatCb5

/- Of which house words are, with their desks or without: by the program. Conditions: at most 1,000,000,000 words, each of 64 bits. -/
namespace Go.Proofs.YtgfbfgiohmdjmaaGreat.Plat
open Go.ChangeShapes Go.WideShapes Go.ChangeAt Go.RowKit
open Words Aid Lst
set_option maxRecDepth 100000
set_option linter.unusedVariables false

/- A layout in a variable. -/
theorem lay_var (L : List Int) (hL : L.length = 25) (w : World) : (w.alloc (.cells (ints zeroL).toArray 86)).there w.heap.size 0 (ints L).toArray.size ∧ Below w.heap.size w ((w.alloc (.cells (ints zeroL).toArray 86)).setCells w.heap.size 0 (ints L).toArray.toList) ∧ ((w.alloc (.cells (ints zeroL).toArray 86)).setCells w.heap.size 0 (ints L).toArray.toList).rangeAt w.heap.size 0 (ints L) ∧ w.heap.size < ((w.alloc (.cells (ints zeroL).toArray 86)).setCells w.heap.size 0 (ints L).toArray.toList).heap.size := by
  have sz : (ints L).toArray.size = 25 := by simp [ints, hL]
  have T3 : (w.alloc (.cells (ints zeroL).toArray 86)).there w.heap.size 0 (ints L).toArray.size := by
    rw [sz]; exact there_lit (ints zeroL).toArray (heap1_0 _ _)
  refine ⟨T3, below_setCells (below1 _ _) (Nat.le_refl _) _ _, World.rangeAt_setCells_same _ _ _ _ (by simpa using T3), ?_⟩
  exact Nat.lt_of_lt_of_le (by simp) (below_setCells (Below.refl (w.alloc (.cells (ints zeroL).toArray 86)).heap.size _ |>.mono (by simp)) (Nat.le_refl _) (ints L).toArray.toList 0 : Below w.heap.size _ _).size

theorem zero_len : zeroL.length = 25 := List.length_replicate

set_option maxHeartbeats 2000000 in
theorem house_no (a : Option Addr) (n cap : Nat) (f : Nat → Int) (w : World) (h : Sl .u64 w a n f) (hn : n ≤ 1000000000) (h0 : ∀ j, j < n → 0 ≤ f j ∧ f j < 18446744073709551616) (hk : kn n f = false) :
    Calls Tryz.prog 66 #[.slice a n cap] w fun e w' => e = .returned (.tuple #[.agg #[.int .i64 0, .int .i64 0, .int .i64 0], .bool false]) ∧ Below w.heap.size w w' := by
  have hsl := h.later (below1 w (.cells #[.int .i64 0, .int .i64 0, .int .i64 0] 62))
  clear h
  go_enter Tryz.func66, Tryz.ntmps66
  go_wp2_with (fail)
  refine (named_all a n cap f _ hsl hn h0).mono ?_
  rintro e w1 ⟨rfl, hb1⟩
  have k0 : kS n f = 0 := by unfold kS; rw [hk]; rfl
  have k1 : kP n f = 0 := by unfold kP; rw [hk]; rfl
  have k2 : kL n f = 0 := by unfold kL; rw [hk]; rfl
  rw [hk, k0, k1, k2]
  have hz1 := hb1.size
  simp at hz1
  have t1 : w1.there w.heap.size 0 3 := there_below hb1 (there_lit (ints [0, 0, 0]).toArray (heap1_0 _ _)) (by simp)
  have B1 : Below w.heap.size w w1 := (below1 _ _).trans (hb1.mono (by simp))
  clear hb1 hsl
  go_wp2_with (fail)
  have t3 := World.there_alloc t1 (.cells #[.int .i64 0, .int .i64 0, .int .i64 0] 62)
  have B3 := B1.alloc (by omega) (.cells #[.int .i64 0, .int .i64 0, .int .i64 0] 62)
  have z3 : w1.heap.size < (w1.alloc (.cells #[.int .i64 0, .int .i64 0, .int .i64 0] 62)).heap.size := by simp
  refine (lay_bad 0 0 0 _ (by decide)).mono ?_
  generalize w1.alloc (.cells #[.int .i64 0, .int .i64 0, .int .i64 0] 62) = w3 at t3 B3 z3 ⊢
  rintro e w4 ⟨rfl, hb4⟩
  have z4 := hb4.size
  have t4 := there_below hb4 t3 (by omega)
  have B4 := B3.trans (hb4.mono (by omega))
  obtain ⟨v1, v2, v3, v4⟩ := lay_var zeroL zero_len w4
  have HT : Hid (World.there _ _ _ _) := v1
  have t5 := there_below v2 t4 (by omega)
  have HT5 : Hid (World.there _ _ _ _) := t5
  have HB5 : Hid (Below _ _ _) := B4.trans (v2.mono (by omega))
  have HY5 : Hid (_ < _) := v4
  clear t1 B1 t3 B3 hb4 t4 B4 v1 v2 v3 v4 t5
  go_wp2_with (refine wpList_store_mid rfl 86 _ _ rfl _ _ _ rfl rfl HT.out (by kernel_rfl) (ints_one _) ?_; generalize hW : World.setCells _ _ _ _ = W5; replace HT5 : Hid (W5.there w.heap.size 0 3) := (by rw [← hW]; exact HT5.out); replace HB5 : Hid (Below w.heap.size w W5) := (by rw [← hW]; exact HB5.out); clear hW HT HY5; obtain ⟨p0, hp0⟩ := Option.isSome_iff_exists.1 (HT5.out 0 (by omega)).1; obtain ⟨p1, hp1⟩ := Option.isSome_iff_exists.1 (HT5.out 1 (by omega)).1; obtain ⟨p2, hp2⟩ := Option.isSome_iff_exists.1 (HT5.out 2 (by omega)).1; have u0 := (HT5.out 0 (by omega)).2; have u1 := (HT5.out 1 (by omega)).2; have u2 := (HT5.out 2 (by omega)).2; simp at u0 u1 u2 hp0 hp1 hp2)
  obtain ⟨hr, hB⟩ := chk_done HT5.out HB5.out (Nat.le_refl _) 0 0 0
  exact bodyPost_ret (results_cell_tmp_mid rfl _ _ w.heap.size 0 _ _ rfl hr Tryz.underlying62 rfl (by kernel_rfl)) rfl ⟨rfl, hB⟩

set_option maxHeartbeats 4000000 in
theorem house_yes (a : Option Addr) (n cap : Nat) (f : Nat → Int) (w : World) (h : Sl .u64 w a n f) (hn : n ≤ 1000000000) (h0 : ∀ j, j < n → 0 ≤ f j ∧ f j < 18446744073709551616) (hk : kn n f = true) :
    Calls Tryz.prog 66 #[.slice a n cap] w fun e w' => HsQ n f e ∧ Below w.heap.size w w' := by
  obtain ⟨m0, m1, hok⟩ := kn_of hk
  have OK : Hid (okB (cS (f 0)) (cP (f 0)) (cL (f 0)) = true) := hok
  obtain ⟨j1, j2, j3, j4, j5, j6⟩ := okB_of hok
  have hsl := h.later (below1 w (.cells #[.int .i64 0, .int .i64 0, .int .i64 0] 62))
  clear h
  go_enter Tryz.func66, Tryz.ntmps66
  go_wp2_with (fail)
  refine (named_all a n cap f _ hsl hn h0).mono ?_
  rintro e w1 ⟨rfl, hb1⟩
  have k0 : kS n f = cS (f 0) := by unfold kS; rw [hk]; rfl
  have k1 : kP n f = cP (f 0) := by unfold kP; rw [hk]; rfl
  have k2 : kL n f = cL (f 0) := by unfold kL; rw [hk]; rfl
  rw [hk, k0, k1, k2]
  obtain ⟨S, hS⟩ : ∃ S, S = cS (f 0) := ⟨_, rfl⟩
  obtain ⟨P, hP⟩ : ∃ P, P = cP (f 0) := ⟨_, rfl⟩
  obtain ⟨l, hl⟩ : ∃ l, l = cL (f 0) := ⟨_, rfl⟩
  have ES : Hid (S = cS (f 0)) := hS
  have EP : Hid (P = cP (f 0)) := hP
  have EL : Hid (l = cL (f 0)) := hl
  have HM : Hid (0 < n ∧ f 0 / 4294967296 = 201115) := ⟨m0, m1⟩
  rw [← hS, ← hP, ← hl] at OK ⊢
  rw [← hS] at j1 j2
  rw [← hP] at j3 j4
  have hz1 := hb1.size
  simp at hz1
  have t1 : w1.there w.heap.size 0 3 := there_below hb1 (there_lit (ints [0, 0, 0]).toArray (heap1_0 _ _)) (by simp)
  have B1 : Below w.heap.size w w1 := (below1 _ _).trans (hb1.mono (by simp))
  clear hb1 hsl k0 k1 k2 hk hS hP hl hok j5 j6 m0 m1
  go_wp2_with (fail)
  have r3 : (w1.alloc (.cells #[.int .i64 S, .int .i64 P, .int .i64 l] 62)).rangeAt w1.heap.size 0 (ints [S, P, l]) := range_lit (ints [S, P, l]).toArray (heap1_0 _ _)
  have t3 := World.there_alloc t1 (.cells #[.int .i64 S, .int .i64 P, .int .i64 l] 62)
  have B3 := B1.alloc (by omega) (.cells #[.int .i64 S, .int .i64 P, .int .i64 l] 62)
  have z3 : w1.heap.size < (w1.alloc (.cells #[.int .i64 S, .int .i64 P, .int .i64 l] 62)).heap.size := by simp
  refine (lay_ok S P l _ OK.out).mono ?_
  generalize w1.alloc (.cells #[.int .i64 S, .int .i64 P, .int .i64 l] 62) = w3 at r3 t3 B3 z3 ⊢
  rintro e w4 ⟨rfl, hb4⟩
  have z4 := hb4.size
  have r4 := range_below hb4 r3 (by omega)
  have t4 := there_below hb4 t3 (by omega)
  have B4 := B3.trans (hb4.mono (by omega))
  obtain ⟨v1, v2, v3, v4⟩ := lay_var (layL S P) (layL_len S P) w4
  have HT : Hid (World.there _ _ _ _) := v1
  have HT5 : Hid (World.there _ _ _ _) := there_below v2 t4 (by omega)
  have HR5 : Hid (World.rangeAt _ w1.heap.size 0 (ints [S, P, l])) := range_below v2 r4 (by omega)
  have HV5 : Hid (World.rangeAt _ w4.heap.size 0 (ints (layL S P))) := v3
  have HB5 : Hid (Below _ _ _) := B4.trans (v2.mono (by omega))
  clear t1 B1 r3 t3 B3 hb4 r4 t4 B4 v1 v2 v3 v4
  by_cases g1 : (n : Int) = 3 + S + S + 4 + P + P * 8 + P * 8 + S * 21
  · have g1b : ((n : Int) != 3 + S + S + 4 + P + P * 8 + P * 8 + S * 21) = false := by simp [g1]
    have G : Hid ((n : Int) = 7 + cS (f 0) * 23 + cP (f 0) * 17) := by unfold Hid; rw [← ES.out, ← EP.out]; omega
    clear g1
    go_wp2_with (refine wpList_store_mid rfl 86 _ _ rfl _ _ _ rfl rfl HT.out (by kernel_rfl) (ints_one _) ?_; generalize hW : World.setCells _ _ _ _ = W5; replace HT5 : Hid (W5.there w.heap.size 0 3) := (by rw [← hW]; exact HT5.out); replace HB5 : Hid (Below w.heap.size w W5) := (by rw [← hW]; exact HB5.out); replace HR5 : Hid (W5.rangeAt w1.heap.size 0 (ints [S, P, l])) := (by rw [← hW]; exact HR5.out); replace HV5 : Hid (W5.rangeAt w4.heap.size 0 (ints (layL S P))) := (by rw [← hW]; exact HV5.out); clear hW HT; have c24 : W5.cell? ⟨w4.heap.size, 24, none⟩ = some (.int .i64 (3 + S + S + 4 + P + P * 8 + P * 8 + S * 21)) := (by have := HV5.out 24 (.int .i64 (cell2 S P 8 24)) (by rw [ints_get _ _ (by rw [layL_len]; omega), layL_get _ _ _ (by omega)]); rw [cell2_size S P 8 (by omega)] at this; exact this); obtain ⟨e0, e1, e2⟩ := two_cell HR5.out; obtain ⟨p0, hp0⟩ := Option.isSome_iff_exists.1 (HT5.out 0 (by omega)).1; obtain ⟨p1, hp1⟩ := Option.isSome_iff_exists.1 (HT5.out 1 (by omega)).1; obtain ⟨p2, hp2⟩ := Option.isSome_iff_exists.1 (HT5.out 2 (by omega)).1; have u0 := (HT5.out 0 (by omega)).2; have u1 := (HT5.out 1 (by omega)).2; have u2 := (HT5.out 2 (by omega)).2; simp at u0 u1 u2 hp0 hp1 hp2)
    obtain ⟨hr, hB⟩ := chk_done HT5.out HB5.out (Nat.le_refl _) S P l
    exact bodyPost_ret (results_cell_tmp_mid rfl _ _ w.heap.size 0 _ _ rfl hr Tryz.underlying62 rfl (by kernel_rfl)) rfl ⟨by rw [show (ints [S, P, l]).toArray = #[.int .i64 (cS (f 0)), .int .i64 (cP (f 0)), .int .i64 (cL (f 0))] by rw [ES.out, EP.out, EL.out]; rfl]; exact hs_yes HM.out.1 HM.out.2 (by rw [← ES.out, ← EP.out, ← EL.out]; exact OK.out) (.inl G.out), hB⟩
  have g1b : ((n : Int) != 3 + S + S + 4 + P + P * 8 + P * 8 + S * 21) = true := by simpa using g1
  have NG1 : Hid (¬ (n : Int) = 7 + cS (f 0) * 23 + cP (f 0) * 17) := by unfold Hid; rw [← ES.out, ← EP.out]; omega
  clear g1
  by_cases g2 : (n : Int) = 3 + S + S + 4 + P + P * 8 + P * 8
  · have g2b : ((n : Int) != 3 + S + S + 4 + P + P * 8 + P * 8) = false := by simp [g2]
    have G : Hid ((n : Int) = 7 + 2 * cS (f 0) + 17 * cP (f 0)) := by unfold Hid; rw [← ES.out, ← EP.out]; omega
    clear g2
    go_wp2_with (refine wpList_store_mid rfl 86 _ _ rfl _ _ _ rfl rfl HT.out (by kernel_rfl) (ints_one _) ?_; generalize hW : World.setCells _ _ _ _ = W5; replace HT5 : Hid (W5.there w.heap.size 0 3) := (by rw [← hW]; exact HT5.out); replace HB5 : Hid (Below w.heap.size w W5) := (by rw [← hW]; exact HB5.out); replace HR5 : Hid (W5.rangeAt w1.heap.size 0 (ints [S, P, l])) := (by rw [← hW]; exact HR5.out); replace HV5 : Hid (W5.rangeAt w4.heap.size 0 (ints (layL S P))) := (by rw [← hW]; exact HV5.out); clear hW HT; have c24 : W5.cell? ⟨w4.heap.size, 24, none⟩ = some (.int .i64 (3 + S + S + 4 + P + P * 8 + P * 8 + S * 21)) := (by have := HV5.out 24 (.int .i64 (cell2 S P 8 24)) (by rw [ints_get _ _ (by rw [layL_len]; omega), layL_get _ _ _ (by omega)]); rw [cell2_size S P 8 (by omega)] at this; exact this); have c23 : W5.cell? ⟨w4.heap.size, 23, none⟩ = some (.int .i64 (3 + S + S + 4 + P + P * 8 + P * 8)) := (by have := HV5.out 23 (.int .i64 (cell2 S P 8 23)) (by rw [ints_get _ _ (by rw [layL_len]; omega), layL_get _ _ _ (by omega)]); exact this); obtain ⟨e0, e1, e2⟩ := two_cell HR5.out; obtain ⟨p0, hp0⟩ := Option.isSome_iff_exists.1 (HT5.out 0 (by omega)).1; obtain ⟨p1, hp1⟩ := Option.isSome_iff_exists.1 (HT5.out 1 (by omega)).1; obtain ⟨p2, hp2⟩ := Option.isSome_iff_exists.1 (HT5.out 2 (by omega)).1; have u0 := (HT5.out 0 (by omega)).2; have u1 := (HT5.out 1 (by omega)).2; have u2 := (HT5.out 2 (by omega)).2; simp at u0 u1 u2 hp0 hp1 hp2)
    obtain ⟨hr, hB⟩ := chk_done HT5.out HB5.out (Nat.le_refl _) S P l
    exact bodyPost_ret (results_cell_tmp_mid rfl _ _ w.heap.size 0 _ _ rfl hr Tryz.underlying62 rfl (by kernel_rfl)) rfl ⟨by rw [show (ints [S, P, l]).toArray = #[.int .i64 (cS (f 0)), .int .i64 (cP (f 0)), .int .i64 (cL (f 0))] by rw [ES.out, EP.out, EL.out]; rfl]; exact hs_yes HM.out.1 HM.out.2 (by rw [← ES.out, ← EP.out, ← EL.out]; exact OK.out) (.inr G.out), hB⟩
  · have g2b : ((n : Int) != 3 + S + S + 4 + P + P * 8 + P * 8) = true := by simpa using g2
    have NG2 : Hid (¬ (n : Int) = 7 + 2 * cS (f 0) + 17 * cP (f 0)) := by unfold Hid; rw [← ES.out, ← EP.out]; omega
    clear g2
    go_wp2_with (refine wpList_store_mid rfl 86 _ _ rfl _ _ _ rfl rfl HT.out (by kernel_rfl) (ints_one _) ?_; generalize hW : World.setCells _ _ _ _ = W5; replace HT5 : Hid (W5.there w.heap.size 0 3) := (by rw [← hW]; exact HT5.out); replace HB5 : Hid (Below w.heap.size w W5) := (by rw [← hW]; exact HB5.out); replace HR5 : Hid (W5.rangeAt w1.heap.size 0 (ints [S, P, l])) := (by rw [← hW]; exact HR5.out); replace HV5 : Hid (W5.rangeAt w4.heap.size 0 (ints (layL S P))) := (by rw [← hW]; exact HV5.out); clear hW HT; have c24 : W5.cell? ⟨w4.heap.size, 24, none⟩ = some (.int .i64 (3 + S + S + 4 + P + P * 8 + P * 8 + S * 21)) := (by have := HV5.out 24 (.int .i64 (cell2 S P 8 24)) (by rw [ints_get _ _ (by rw [layL_len]; omega), layL_get _ _ _ (by omega)]); rw [cell2_size S P 8 (by omega)] at this; exact this); have c23 : W5.cell? ⟨w4.heap.size, 23, none⟩ = some (.int .i64 (3 + S + S + 4 + P + P * 8 + P * 8)) := (by have := HV5.out 23 (.int .i64 (cell2 S P 8 23)) (by rw [ints_get _ _ (by rw [layL_len]; omega), layL_get _ _ _ (by omega)]); exact this); obtain ⟨e0, e1, e2⟩ := two_cell HR5.out; obtain ⟨p0, hp0⟩ := Option.isSome_iff_exists.1 (HT5.out 0 (by omega)).1; obtain ⟨p1, hp1⟩ := Option.isSome_iff_exists.1 (HT5.out 1 (by omega)).1; obtain ⟨p2, hp2⟩ := Option.isSome_iff_exists.1 (HT5.out 2 (by omega)).1; have u0 := (HT5.out 0 (by omega)).2; have u1 := (HT5.out 1 (by omega)).2; have u2 := (HT5.out 2 (by omega)).2; simp at u0 u1 u2 hp0 hp1 hp2)
    obtain ⟨hr, hB⟩ := chk_done HT5.out HB5.out (Nat.le_refl _) 0 0 0
    exact bodyPost_ret (results_cell_tmp_mid rfl _ _ w.heap.size 0 _ _ rfl hr Tryz.underlying62 rfl (by kernel_rfl)) rfl ⟨by exact hs_no (fun q => q.2.2.2.elim NG1.out NG2.out), hB⟩

theorem house_any (a : Option Addr) (n cap : Nat) (f : Nat → Int) (w : World) (h : Sl .u64 w a n f) (hn : n ≤ 1000000000) (h0 : ∀ j, j < n → 0 ≤ f j ∧ f j < 18446744073709551616) :
    Calls Tryz.prog 66 #[.slice a n cap] w fun e w' => HsQ n f e ∧ Below w.heap.size w w' := by
  by_cases hk : kn n f = true
  · exact house_yes a n cap f w h hn h0 hk
  · have hk' : kn n f = false := by simpa using hk
    exact (house_no a n cap f w h hn h0 hk').mono fun e w' ⟨he, hw⟩ => ⟨by rw [he]; exact hs_no (fun q => hk (kn_t ⟨q.1, q.2.1, q.2.2.1⟩)), hw⟩

end Go.Proofs.YtgfbfgiohmdjmaaGreat.Plat
/- Whether words have values, where they stand for a book; by the program. -/
namespace Go.Proofs.YtgfbfgiohmdjmaaGreat.Book
open Go.ChangeShapes Go.WideShapes Go.ChangeAt Go.RowKit
open Aid Lst Words
open Plat (okB okB_of getF W64 layL layL_len layL_get)
set_option maxRecDepth 100000
set_option linter.unusedVariables false

set_option maxHeartbeats 2000000 in
theorem stand_no (sb wb vb vk H n at_ : Nat) (a : Option Addr) (N cap : Nat) (f F : Nat → Int) (w : World) (hs : w.cell? ⟨sb, 0, none⟩ = some (.bool false)) (hz : w.frozen? ⟨sb, 0, none⟩ = false) (hwb : w.cell? ⟨wb, 0, none⟩ = some (.slice a N cap)) (sl : Sl .u64 w a N f) (hv : w.cell? ⟨vb, 0, none⟩ = some (.slice (some ⟨vk, 0, none⟩) H H)) (fk : Fk .i64 H w vk F) (ha : at_ < N) (hH : at_ < H) (hw : W64 f) (e1 : wb ≠ sb) (e2 : vb ≠ sb) (e3 : vk ≠ sb) (e4 : ∀ ka oa, a = some ⟨ka, oa, none⟩ → ka ≠ sb) :
    Calls Tryz.prog 109 #[.int .i64 n, .int .i64 at_, .pointer (some ⟨sb, 0, none⟩), .pointer (some ⟨wb, 0, none⟩), .pointer (some ⟨vb, 0, none⟩)] w fun e w' => e = .returned (.tuple #[]) ∧ ∃ u, Below w.heap.size w u ∧ w' = u.setCell ⟨sb, 0, none⟩ (.bool (false)) := by
  obtain ⟨ka, oa, ea, ca⟩ := sl_cell sl ha
  rw [ea] at hwb
  obtain ⟨g0, g1⟩ := hw at_
  have e4' : ka ≠ sb := e4 ka oa ea
  have cv := (fk at_ hH).1
  have hai : (at_ : Int) < N := by omega
  have haH : (at_ : Int) < H := by omega
  have S0 : (fun w' : World => w'.cell? ⟨wb, 0, none⟩ = some (.slice (some ⟨ka, oa, none⟩) N cap) ∧ w'.cell? ⟨ka, oa + at_, none⟩ = some (.int .u64 (f at_)) ∧ w'.cell? ⟨vb, 0, none⟩ = some (.slice (some ⟨vk, 0, none⟩) H H) ∧ w'.cell? ⟨vk, at_, none⟩ = some (.int .i64 (F at_))) w.drew := ⟨hwb, ca, hv, cv⟩
  have OD : Hid (Below w.heap.size w w.drew) := ⟨rfl, rfl, rfl, Nat.le_refl _, fun _ _ => rfl⟩
  have HC : Hid (w.drew.cell? ⟨sb, 0, none⟩ = some (.bool false)) := hs
  have HF : Hid (w.drew.frozen? ⟨sb, 0, none⟩ = false) := hz
  clear sl fk hwb hv hs hz ea ca cv e4
  go_enter Tryz.func109, Tryz.ntmps109
  refine wp_region_held_drew (S := fun w' : World => w'.cell? ⟨wb, 0, none⟩ = some (.slice (some ⟨ka, oa, none⟩) N cap) ∧ w'.cell? ⟨ka, oa + at_, none⟩ = some (.int .u64 (f at_)) ∧ w'.cell? ⟨vb, 0, none⟩ = some (.slice (some ⟨vk, 0, none⟩) H H) ∧ w'.cell? ⟨vk, at_, none⟩ = some (.int .i64 (F at_))) (by kernel_rfl) S0 (fun hS => ?_)
  clear S0
  generalize World.drew w = V at hS HC HF OD ⊢
  have HS : Hid (_ ∧ _) := hS
  have hc := HC.out
  clear hS
  refine r1 0 rfl (fun K hK => ?_)
  go_simp
  refine hK.out _ _ HS.out (fun hS => ?_)
  clear hK K
  refine tI 1 (v := .bool false) (d := some 8) rfl rfl (fun w' hw => ?_) (by assumption) ?_
  · clear hw; go_simp
  simp only [Act.put, s1, s2, s3]
  refine tS 2 (d := some 9) rfl rfl (by assumption) ?_
  simp only [Act.put, s1, s2, s3]
  refine tS 3 (d := some 10) rfl rfl (by assumption) ?_
  simp only [Act.put, s1, s2, s3]
  refine tS 4 (d := some 11) rfl rfl (by assumption) ?_
  simp only [Act.put, s1, s2, s3]
  refine tS 5 (d := some 12) rfl rfl (by assumption) ?_
  simp only [Act.put, s1, s2, s3]
  refine tS 6 (d := some 13) rfl rfl (by assumption) ?_
  simp only [Act.put, s1, s2, s3]
  refine tS 7 (d := some 14) rfl rfl (by assumption) ?_
  simp only [Act.put, s1, s2, s3]
  refine tS 8 (d := some 15) rfl rfl (by assumption) ?_
  simp only [Act.put, s1, s2, s3]
  refine tS 9 (d := some 16) rfl rfl (by assumption) ?_
  simp only [Act.put, s1, s2, s3]
  refine tS 10 (d := some 17) rfl rfl (by assumption) ?_
  simp only [Act.put, s1, s2, s3]
  refine tS 11 (d := some 18) rfl rfl (by assumption) ?_
  simp only [Act.put, s1, s2, s3]
  refine tI 12 (v := .bool false) (d := some 19) rfl rfl (fun w' hw => ?_) (by assumption) ?_
  · clear hw; go_simp
  simp only [Act.put, s1, s2, s3]
  refine r1 13 rfl (fun K hK => ?_)
  clear hS
  have hf := HF.out
  go_simp
  refine hK.out _ _ ⟨?_, ?_, ?_, ?_⟩ (fun hS => ?_)
  · rw [World.cell?_setCell_far _ _ _ _ (fun h => e1 h.symm)]; exact HS.out.1
  · rw [World.cell?_setCell_far _ _ _ _ (fun h => e4' h.symm)]; exact HS.out.2.1
  · rw [World.cell?_setCell_far _ _ _ _ (fun h => e2 h.symm)]; exact HS.out.2.2.1
  · rw [World.cell?_setCell_far _ _ _ _ (fun h => e3 h.symm)]; exact HS.out.2.2.2
  clear hK K hS
  refine wpAnyH_done (by kernel_rfl) ?_ _
  go_wp2_with (fail)
  exact bodyPost_end (v := .tuple #[]) (by simp [results, Tryz.results109]) rfl ⟨rfl, V, OD.out, rfl⟩

set_option maxHeartbeats 2000000 in
theorem stand_yes (sb wb vb vk H n at_ : Nat) (a : Option Addr) (N cap : Nat) (f F : Nat → Int) (w : World) (hs : w.cell? ⟨sb, 0, none⟩ = some (.bool true)) (hz : w.frozen? ⟨sb, 0, none⟩ = false) (hwb : w.cell? ⟨wb, 0, none⟩ = some (.slice a N cap)) (sl : Sl .u64 w a N f) (hv : w.cell? ⟨vb, 0, none⟩ = some (.slice (some ⟨vk, 0, none⟩) H H)) (fk : Fk .i64 H w vk F) (ha : at_ < N) (hH : at_ < H) (hw : W64 f) (e1 : wb ≠ sb) (e2 : vb ≠ sb) (e3 : vk ≠ sb) (e4 : ∀ ka oa, a = some ⟨ka, oa, none⟩ → ka ≠ sb) :
    Calls Tryz.prog 109 #[.int .i64 n, .int .i64 at_, .pointer (some ⟨sb, 0, none⟩), .pointer (some ⟨wb, 0, none⟩), .pointer (some ⟨vb, 0, none⟩)] w fun e w' => e = .returned (.tuple #[]) ∧ ∃ u, Below w.heap.size w u ∧ w' = u.setCell ⟨sb, 0, none⟩ (.bool (lo32 (f at_) == F at_)) := by
  obtain ⟨ka, oa, ea, ca⟩ := sl_cell sl ha
  rw [ea] at hwb
  obtain ⟨g0, g1⟩ := hw at_
  have e4' : ka ≠ sb := e4 ka oa ea
  have cv := (fk at_ hH).1
  have hai : (at_ : Int) < N := by omega
  have haH : (at_ : Int) < H := by omega
  have S0 : (fun w' : World => w'.cell? ⟨wb, 0, none⟩ = some (.slice (some ⟨ka, oa, none⟩) N cap) ∧ w'.cell? ⟨ka, oa + at_, none⟩ = some (.int .u64 (f at_)) ∧ w'.cell? ⟨vb, 0, none⟩ = some (.slice (some ⟨vk, 0, none⟩) H H) ∧ w'.cell? ⟨vk, at_, none⟩ = some (.int .i64 (F at_))) w.drew := ⟨hwb, ca, hv, cv⟩
  have OD : Hid (Below w.heap.size w w.drew) := ⟨rfl, rfl, rfl, Nat.le_refl _, fun _ _ => rfl⟩
  have HC : Hid (w.drew.cell? ⟨sb, 0, none⟩ = some (.bool true)) := hs
  have HF : Hid (w.drew.frozen? ⟨sb, 0, none⟩ = false) := hz
  clear sl fk hwb hv hs hz ea ca cv e4
  go_enter Tryz.func109, Tryz.ntmps109
  refine wp_region_held_drew (S := fun w' : World => w'.cell? ⟨wb, 0, none⟩ = some (.slice (some ⟨ka, oa, none⟩) N cap) ∧ w'.cell? ⟨ka, oa + at_, none⟩ = some (.int .u64 (f at_)) ∧ w'.cell? ⟨vb, 0, none⟩ = some (.slice (some ⟨vk, 0, none⟩) H H) ∧ w'.cell? ⟨vk, at_, none⟩ = some (.int .i64 (F at_))) (by kernel_rfl) S0 (fun hS => ?_)
  clear S0
  generalize World.drew w = V at hS HC HF OD ⊢
  have HS : Hid (_ ∧ _) := hS
  have hc := HC.out
  clear hS
  refine r1 0 rfl (fun K hK => ?_)
  go_simp
  refine hK.out _ _ HS.out (fun hS => ?_)
  clear hK K
  refine tI 1 (v := .bool true) (d := some 8) rfl rfl (fun w' hw => ?_) (by assumption) ?_
  · clear hw; go_simp
  simp only [Act.put, s1, s2, s3]
  refine tI 2 (v := .slice (some ⟨ka, oa, none⟩) N cap) (d := some 9) rfl rfl (fun w' hw => ?_) (by assumption) ?_
  · have q := hw.1; clear hw; go_simp
  simp only [Act.put, s1, s2, s3]
  refine tI 3 (v := .int .i64 at_) (d := some 10) rfl rfl (fun w' hw => ?_) (by assumption) ?_
  · clear hw; go_simp
  simp only [Act.put, s1, s2, s3]
  refine tI 4 (v := .pointer (some ⟨ka, oa + at_, none⟩)) (d := some 11) rfl rfl (fun w' hw => ?_) (by assumption) ?_
  · clear hw; go_simp
  simp only [Act.put, s1, s2, s3]
  refine tI 5 (v := .int .u64 (f at_)) (d := some 12) rfl rfl (fun w' hw => ?_) (by assumption) ?_
  · have q := hw.2.1; clear hw; go_simp
  simp only [Act.put, s1, s2, s3]
  refine tI 7 (v := .slice (some ⟨vk, 0, none⟩) H H) (d := some 14) rfl rfl (fun w' hw => ?_) (by assumption) ?_
  · have q := hw.2.2.1; clear hw; go_simp
  simp only [Act.put, s1, s2, s3]
  refine tI 8 (v := .int .i64 at_) (d := some 15) rfl rfl (fun w' hw => ?_) (by assumption) ?_
  · clear hw; go_simp
  simp only [Act.put, s1, s2, s3]
  refine tI 9 (v := .pointer (some ⟨vk, at_, none⟩)) (d := some 16) rfl rfl (fun w' hw => ?_) (by assumption) ?_
  · clear hw; go_simp
  simp only [Act.put, s1, s2, s3]
  refine tI 10 (v := .int .i64 (F at_)) (d := some 17) rfl rfl (fun w' hw => ?_) (by assumption) ?_
  · have q := hw.2.2.2; clear hw; go_simp
  simp only [Act.put, s1, s2, s3]
  clear hS
  refine r1 6 rfl (fun K hK => ?_)
  go_simp
  refine (val_any (f at_) V g0 g1).mono ?_
  rintro e V ⟨rfl, rfl⟩
  go_simp
  refine hK.out _ _ HS.out (fun hS => ?_)
  clear hK K
  refine tI 11 (v := .bool (lo32 (f at_) == F at_)) (d := some 18) rfl rfl (fun w' hw => ?_) (by assumption) ?_
  · clear hw; go_simp
  simp only [Act.put, s1, s2, s3]
  refine tI 12 (v := .bool (lo32 (f at_) == F at_)) (d := some 19) rfl rfl (fun w' hw => ?_) (by assumption) ?_
  · clear hw; go_simp
  simp only [Act.put, s1, s2, s3]
  refine r1 13 rfl (fun K hK => ?_)
  clear hS
  have hf := HF.out
  go_simp
  refine hK.out _ _ ⟨?_, ?_, ?_, ?_⟩ (fun hS => ?_)
  · rw [World.cell?_setCell_far _ _ _ _ (fun h => e1 h.symm)]; exact HS.out.1
  · rw [World.cell?_setCell_far _ _ _ _ (fun h => e4' h.symm)]; exact HS.out.2.1
  · rw [World.cell?_setCell_far _ _ _ _ (fun h => e2 h.symm)]; exact HS.out.2.2.1
  · rw [World.cell?_setCell_far _ _ _ _ (fun h => e3 h.symm)]; exact HS.out.2.2.2
  clear hK K hS
  refine wpAnyH_done (by kernel_rfl) ?_ _
  go_wp2_with (fail)
  exact bodyPost_end (v := .tuple #[]) (by simp [results, Tryz.results109]) rfl ⟨rfl, V, OD.out, rfl⟩

/- So far: what holds of words and values below T, beats left out. -/
def stP (S : Nat) (f F : Nat → Int) (T : Nat) : Prop := ∀ j, 3 ≤ j → j < T → ¬ (3 + S ≤ j ∧ j < 3 + S + S) → lo32 (f j) = F j
theorem stP_up {S : Nat} {f F : Nat → Int} {T : Nat} (h3 : 3 ≤ T) (hb : ¬ (3 + S ≤ T ∧ T < 3 + S + S)) : stP S f F (T + 1) ↔ stP S f F T ∧ lo32 (f T) = F T := by
  constructor
  · intro h
    exact ⟨fun j h1 h2 h3 => h j h1 (by omega) h3, h T h3 (by omega) hb⟩
  · rintro ⟨h, e⟩ j h1 h2 h3
    by_cases q : j = T
    · rw [q]; exact e
    · exact h j h1 (by omega) h3
structure Sd (W0 : World) (a : Option Addr) (N cap : Nat) (f F : Nat → Int) (S H sb wb vb vk : Nat) (T : Nat) (w : World) : Prop where
  x : ∃ x, (w.cell? ⟨sb, 0, none⟩ = some (.bool x) ∧ w.frozen? ⟨sb, 0, none⟩ = false) ∧ (x = true ↔ stP S f F T)
  xw : w.cell? ⟨wb, 0, none⟩ = some (.slice a N cap)
  xv : w.cell? ⟨vb, 0, none⟩ = some (.slice (some ⟨vk, 0, none⟩) H H)
  k : Fk .i64 H w vk F
  b : Below W0.heap.size W0 w
theorem Sd.later {W0 : World} {a : Option Addr} {N cap : Nat} {f F : Nat → Int} {S H sb wb vb vk T : Nat} {w w1 : World} (h : Sd W0 a N cap f F S H sb wb vb vk T w) (hb : Below w.heap.size w w1) : Sd W0 a N cap f F S H sb wb vb vk T w1 :=
  have bl := fun (p : Addr) (v : Value) (h : w.cell? p = some v) => (hb.cell (p := p) (World.block_lt_of_cell? w p h)).trans h
  ⟨by obtain ⟨x, ⟨h1, h2⟩, h3⟩ := h.x; exact ⟨x, ⟨bl _ _ h1, (hb.frozen (p := ⟨sb, 0, none⟩) (World.block_lt_of_cell? w _ h1)).trans h2⟩, h3⟩, bl _ _ h.xw, bl _ _ h.xv, h.k.later hb, h.b.trans (hb.mono h.b.size)⟩
theorem sd_sees {W0 : World} {a : Option Addr} {N cap : Nat} {f F : Nat → Int} {S H sb wb vb vk at_ many : Nat} (sl : Sl .u64 W0 a N f) (hw : W64 f) (h0 : W0.heap.size ≤ sb) (e1 : wb ≠ sb) (e2 : vb ≠ sb) (e3 : vk ≠ sb) (hN : at_ + many ≤ N) (hH : at_ + many ≤ H) (h3 : 3 ≤ at_) (hb : ∀ j, j < many → ¬ (3 + S ≤ at_ + j ∧ at_ + j < 3 + S + S)) :
    Sees (Sd W0 a N cap f F S H sb wb vb vk) sb (sb + 1) 109 #[.pointer (some ⟨sb, 0, none⟩), .pointer (some ⟨wb, 0, none⟩), .pointer (some ⟨vb, 0, none⟩)] at_ many := fun n w hn _ hi => by
  obtain ⟨x, ⟨hs, hz⟩, hx⟩ := hi.x
  have fin : ∀ (r : Bool) (u : World), (r = true ↔ stP S f F (at_ + n + 1)) → Below w.heap.size w u → Sd W0 a N cap f F S H sb wb vb vk (at_ + n + 1) (u.setCell ⟨sb, 0, none⟩ (.bool r)) ∧ Only sb (sb + 1) w (u.setCell ⟨sb, 0, none⟩ (.bool r)) := fun r u hr hb => by
    have hu := hi.later hb
    obtain ⟨x', ⟨hs', hz'⟩, _⟩ := hu.x
    refine ⟨⟨⟨r, ⟨World.cell?_setCell_same' _ _ _ (by rw [hs']; rfl), by rw [World.frozen?_setCell]; exact hz'⟩, hr⟩, stepL 0 (fun q => e1 q.symm) _ _ hu.xw, stepL 0 (fun q => e2 q.symm) _ _ hu.xv, hu.k.far _ (fun q => e3 q.symm) _, hu.b.setCell (p := ⟨sb, 0, none⟩) h0 _⟩, only_set hb sb 0 (Nat.le_refl _) (by omega) _⟩
  have off := off_block (k := sb) sl (by omega) h0
  have up := stP_up (S := S) (f := f) (F := F) (T := at_ + n) (by omega) (hb n hn)
  cases x
  · refine (stand_no sb wb vb vk H n (at_ + n) a N cap f F w hs hz hi.xw (sl.later hi.b) hi.xv hi.k (by omega) (by omega) hw e1 e2 e3 off).mono ?_
    rintro e w' ⟨he, u, hb, rfl⟩
    obtain ⟨q1, q2⟩ := fin false u (by rw [up]; constructor <;> intro q; cases q; exact absurd q.1 (fun g => by simpa using hx.2 g)) hb
    exact ⟨he, q1, q2⟩
  · refine (stand_yes sb wb vb vk H n (at_ + n) a N cap f F w hs hz hi.xw (sl.later hi.b) hi.xv hi.k (by omega) (by omega) hw e1 e2 e3 off).mono ?_
    rintro e w' ⟨he, u, hb, rfl⟩
    obtain ⟨q1, q2⟩ := fin (lo32 (f (at_ + n)) == F (at_ + n)) u (by rw [up, beq_iff_eq]; exact ⟨fun q => ⟨hx.1 rfl, q⟩, fun q => q.2⟩) hb
    exact ⟨he, q1, q2⟩

set_option maxHeartbeats 4000000 in
theorem stands_any (S P : Nat) (a : Option Addr) (N cap H vk : Nat) (f F : Nat → Int) (w : World) (sl : Sl .u64 w a N f) (hw : W64 f) (hS : S ≤ 4) (hP : P ≤ 6) (hN : H ≤ N) (hH : H = 3 + S + S + 4 + P + P * 8 + P * 8) (fk : Fk .i64 H w vk F) :
    Calls Tryz.prog 72 #[.slice a N cap, .agg (ints (layL S P)).toArray, .slice (some ⟨vk, 0, none⟩) H H] w fun e w' => Says e (stP S f F H) ∧ Below w.heap.size w w' := by
  have hmf : ∀ (fn : Fn) (first cap : Array Value) (w : World), (Instr.makeFunc fn first cap).run Tryz.prog w = .ok (.func fn first cap) w := fun _ _ _ _ => rfl
  have nz : (((w.alloc (.cells #[.slice a N cap] 22)).alloc (.cells (ints (layL S P)).toArray 86)).alloc (.cells #[.slice (some ⟨vk, 0, none⟩) H H] 27)).heap.size = w.heap.size + 3 := by simp
  obtain ⟨VV, hVV⟩ : ∃ VV : Array Value, VV = #[Value.nilFunc, .func (.func 109) #[] #[.pointer (some ⟨w.heap.size + 1 + 1 + 1, 0, none⟩), .pointer (some ⟨w.heap.size, 0, none⟩), .pointer (some ⟨w.heap.size + 1 + 1, 0, none⟩)], Value.nilFunc, .func (.func 109) #[] #[.pointer (some ⟨w.heap.size + 1 + 1 + 1, 0, none⟩), .pointer (some ⟨w.heap.size, 0, none⟩), .pointer (some ⟨w.heap.size + 1 + 1, 0, none⟩)], .func (.func 109) #[] #[.pointer (some ⟨w.heap.size + 1 + 1 + 1, 0, none⟩), .pointer (some ⟨w.heap.size, 0, none⟩), .pointer (some ⟨w.heap.size + 1 + 1, 0, none⟩)], .func (.func 109) #[] #[.pointer (some ⟨w.heap.size + 1 + 1 + 1, 0, none⟩), .pointer (some ⟨w.heap.size, 0, none⟩), .pointer (some ⟨w.heap.size + 1 + 1, 0, none⟩)], .func (.func 109) #[] #[.pointer (some ⟨w.heap.size + 1 + 1 + 1, 0, none⟩), .pointer (some ⟨w.heap.size, 0, none⟩), .pointer (some ⟨w.heap.size + 1 + 1, 0, none⟩)], Value.nilFunc] := ⟨_, rfl⟩
  have b3 := below3 w (.cells #[.slice a N cap] 22) (.cells (ints (layL S P)).toArray 86) (.cells #[.slice (some ⟨vk, 0, none⟩) H H] 27)
  have b2 := below2 (((w.alloc (.cells #[.slice a N cap] 22)).alloc (.cells (ints (layL S P)).toArray 86)).alloc (.cells #[.slice (some ⟨vk, 0, none⟩) H H] 27)) (.cells #[.bool true] 4) (.cells VV 96)
  have R5 : Hid (World.rangeAt (((((w.alloc (.cells #[.slice a N cap] 22)).alloc (.cells (ints (layL S P)).toArray 86)).alloc (.cells #[.slice (some ⟨vk, 0, none⟩) H H] 27)).alloc (.cells #[.bool true] 4)).alloc (.cells VV 96)) (w.heap.size + 1) 0 (ints (layL S P))) := range_below b2 (range_lit (ints (layL S P)).toArray (heap3_1 w _ _ _)) (by omega)
  have D5 : Hid (Sd w a N cap f F S H (w.heap.size + 1 + 1 + 1) w.heap.size (w.heap.size + 1 + 1) vk 3 (((((w.alloc (.cells #[.slice a N cap] 22)).alloc (.cells (ints (layL S P)).toArray 86)).alloc (.cells #[.slice (some ⟨vk, 0, none⟩) H H] 27)).alloc (.cells #[.bool true] 4)).alloc (.cells VV 96))) := by
    have bb : Below w.heap.size w (((((w.alloc (.cells #[.slice a N cap] 22)).alloc (.cells (ints (layL S P)).toArray 86)).alloc (.cells #[.slice (some ⟨vk, 0, none⟩) H H] 27)).alloc (.cells #[.bool true] 4)).alloc (.cells VV 96)) := b3.trans (b2.mono (by omega))
    have c0 := ck_lit #[.bool true] (heap2_0 (((w.alloc (.cells #[.slice a N cap] 22)).alloc (.cells (ints (layL S P)).toArray 86)).alloc (.cells #[.slice (some ⟨vk, 0, none⟩) H H] 27)) (.cells #[.bool true] 4) (.cells VV 96)) 0 _ rfl
    rw [nz, show w.heap.size + 3 = w.heap.size + 1 + 1 + 1 from rfl] at c0
    have cw := range_lit #[.slice a N cap] (heap3_0 w (.cells #[.slice a N cap] 22) (.cells (ints (layL S P)).toArray 86) (.cells #[.slice (some ⟨vk, 0, none⟩) H H] 27)) 0 _ rfl
    have cv := range_lit #[.slice (some ⟨vk, 0, none⟩) H H] (heap3_2 w (.cells #[.slice a N cap] 22) (.cells (ints (layL S P)).toArray 86) (.cells #[.slice (some ⟨vk, 0, none⟩) H H] 27)) 0 _ rfl
    exact ⟨⟨true, c0, ⟨fun _ j h1 h2 => by omega, fun _ => rfl⟩⟩, (b2.cell (p := ⟨w.heap.size, 0, none⟩) (show w.heap.size < _ by omega)).trans cw, (b2.cell (p := ⟨w.heap.size + 1 + 1, 0, none⟩) (show w.heap.size + 1 + 1 < _ by omega)).trans cv, fk.later bb, bb⟩
  have Z5 : Hid (w.heap.size + 5 ≤ (((((w.alloc (.cells #[.slice a N cap] 22)).alloc (.cells (ints (layL S P)).toArray 86)).alloc (.cells #[.slice (some ⟨vk, 0, none⟩) H H] 27)).alloc (.cells #[.bool true] 4)).alloc (.cells VV 96)).heap.size) := by unfold Hid; simp
  have vk0 : vk < w.heap.size := Fk.lt0 fk (by omega)
  have HH : Hid (H = 3 + S + S + 4 + P + P * 8 + P * 8) := hH
  have HSL : Hid (Sl .u64 w a N f) := sl
  have HW : Hid (W64 f) := hw
  clear b3 b2 nz fk hH sl hw
  subst hVV
  go_enter Tryz.func72, Tryz.ntmps72
  go_wp2_with ((refine wpList_load_mid rfl 86 _ rfl (w.heap.size + 1) 0 rfl (ints (layL S P)) _ R5.out Tryz.underlying86 rfl (by kernel_rfl) ?_))
  generalize hG : World.alloc (World.alloc _ (.cells #[.bool true] 4)) _ = W5 at R5 D5 Z5 ⊢
  clear hG R5
  have z5 := Z5.out
  have hH := HH.out
  have vis := visit_any (Sd w a N cap f F S H (w.heap.size + 1 + 1 + 1) w.heap.size (w.heap.size + 1 + 1) vk) (fun T w w1 h hb => h.later hb) (w.heap.size + 1 + 1 + 1) (w.heap.size + 1 + 1 + 1 + 1) S P 109 109 109 109 109 #[.pointer (some ⟨w.heap.size + 1 + 1 + 1, 0, none⟩), .pointer (some ⟨w.heap.size, 0, none⟩), .pointer (some ⟨w.heap.size + 1 + 1, 0, none⟩)] #[.pointer (some ⟨w.heap.size + 1 + 1 + 1, 0, none⟩), .pointer (some ⟨w.heap.size, 0, none⟩), .pointer (some ⟨w.heap.size + 1 + 1, 0, none⟩)] #[.pointer (some ⟨w.heap.size + 1 + 1 + 1, 0, none⟩), .pointer (some ⟨w.heap.size, 0, none⟩), .pointer (some ⟨w.heap.size + 1 + 1, 0, none⟩)] #[.pointer (some ⟨w.heap.size + 1 + 1 + 1, 0, none⟩), .pointer (some ⟨w.heap.size, 0, none⟩), .pointer (some ⟨w.heap.size + 1 + 1, 0, none⟩)] #[.pointer (some ⟨w.heap.size + 1 + 1 + 1, 0, none⟩), .pointer (some ⟨w.heap.size, 0, none⟩), .pointer (some ⟨w.heap.size + 1 + 1, 0, none⟩)] hS hP (fun _ _ => by kernel_rfl) (fun _ _ => by kernel_rfl) (fun _ _ => by kernel_rfl) (fun _ _ => by kernel_rfl) (fun _ _ => by kernel_rfl)
    (sd_sees HSL.out HW.out (by omega) (by omega) (by omega) (by omega) (by omega) (by omega) (by omega) (by omega))
    (sd_sees HSL.out HW.out (by omega) (by omega) (by omega) (by omega) (by omega) (by omega) (by omega) (by omega))
    (sd_sees HSL.out HW.out (by omega) (by omega) (by omega) (by omega) (by omega) (by omega) (by omega) (by omega))
    (sd_sees HSL.out HW.out (by omega) (by omega) (by omega) (by omega) (by omega) (by omega) (by omega) (by omega))
    (sd_sees HSL.out HW.out (by omega) (by omega) (by omega) (by omega) (by omega) (by omega) (by omega) (by omega))
    (fun w h => by
      obtain ⟨x, hc, hx⟩ := h.x
      refine ⟨⟨x, hc, hx.trans ⟨fun q j h1 h2 h3 => q j h1 (by omega) h3, fun q j h1 h2 h3 => q j h1 (by omega) h3⟩⟩, h.xw, h.xv, h.k, h.b⟩) W5 (by omega) D5.out
  have VI : Hid (Calls _ _ _ _ _) := vis
  clear vis
  refine VI.out.mono ?_
  rintro e W6 ⟨rfl, hd, ho⟩
  rw [← hH] at hd
  obtain ⟨x, ⟨hc, -⟩, hx⟩ := hd.x
  have HX : Hid (x = true ↔ stP S f F H) := hx
  have HB : Hid (Below w.heap.size w W6) := hd.b
  clear hH hx hd ho VI
  go_wp2_with (fail)
  go_ret
  exact ⟨⟨x, rfl, HX.out⟩, HB.out⟩


end Go.Proofs.YtgfbfgiohmdjmaaGreat.Book

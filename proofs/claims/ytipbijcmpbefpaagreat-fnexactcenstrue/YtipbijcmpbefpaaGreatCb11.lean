/- Of which house words are, with their desks or without: by the program. Conditions: at most 1,000,000,000 words, each of 64 bits. -/
import Derived.Test.YtipbijcmpbefpaaGreatCb10
namespace Go.Proofs.YtipbijcmpbefpaaGreat.Plat
open Go.ChangeShapes Go.WideShapes Go.ChangeAt Go.RowKit
open Go.Proofs.YtipbijcmpbefpaaGreat.Words Go.Proofs.YtipbijcmpbefpaaGreat.Aid Go.Proofs.YtipbijcmpbefpaaGreat.Lst
set_option maxRecDepth 100000
set_option linter.unusedVariables false

/- A layout in a variable. -/
theorem lay_var (L : List Int) (hL : L.length = 25) (w : World) : (w.alloc (.cells (ints zeroL).toArray 61)).there w.heap.size 0 (ints L).toArray.size ∧ Below w.heap.size w ((w.alloc (.cells (ints zeroL).toArray 61)).setCells w.heap.size 0 (ints L).toArray.toList) ∧ ((w.alloc (.cells (ints zeroL).toArray 61)).setCells w.heap.size 0 (ints L).toArray.toList).rangeAt w.heap.size 0 (ints L) ∧ w.heap.size < ((w.alloc (.cells (ints zeroL).toArray 61)).setCells w.heap.size 0 (ints L).toArray.toList).heap.size := by
  have sz : (ints L).toArray.size = 25 := by simp [ints, hL]
  have T3 : (w.alloc (.cells (ints zeroL).toArray 61)).there w.heap.size 0 (ints L).toArray.size := by
    rw [sz]; exact there_lit (ints zeroL).toArray (heap1_0 _ _)
  refine ⟨T3, below_setCells (below1 _ _) (Nat.le_refl _) _ _, World.rangeAt_setCells_same _ _ _ _ (by simpa using T3), ?_⟩
  exact Nat.lt_of_lt_of_le (by simp) (below_setCells (Below.refl (w.alloc (.cells (ints zeroL).toArray 61)).heap.size _ |>.mono (by simp)) (Nat.le_refl _) (ints L).toArray.toList 0 : Below w.heap.size _ _).size

theorem zero_len : zeroL.length = 25 := List.length_replicate

set_option maxHeartbeats 2000000 in
theorem house_no (a : Option Addr) (n cap : Nat) (f : Nat → Int) (w : World) (h : Sl .u64 w a n f) (hn : n ≤ 1000000000) (h0 : ∀ j, j < n → 0 ≤ f j ∧ f j < 18446744073709551616) (hk : kn n f = false) :
    Calls Tryz.prog 44 #[.slice a n cap] w fun e w' => e = .returned (.tuple #[.agg #[.int .i64 0, .int .i64 0, .int .i64 0], .bool false]) ∧ Below w.heap.size w w' := by
  have hsl := h.later (below1 w (.cells #[.int .i64 0, .int .i64 0, .int .i64 0] 24))
  clear h
  go_enter Tryz.func44, Tryz.ntmps44
  go_wp2_with (fail)
  refine (named_all a n cap f _ hsl hn h0).mono ?_
  rintro e w1 ⟨rfl, hb1⟩
  have k0 : kS n f = 0 := by unfold kS; rw [hk]; rfl
  have k1 : kP n f = 0 := by unfold kP; rw [hk]; rfl
  have k2 : kL n f = 0 := by unfold kL; rw [hk]; rfl
  rw [hk, k0, k1, k2]
  have hz1 := hb1.size
  simp at hz1
  have t1 : w1.there w.heap.size 0 3 := there_below hb1 (there_lit (ints [0, 0, 0]).toArray (heap1_0 _ _)) (by simp)
  have B1 : Below w.heap.size w w1 := (below1 _ _).trans (hb1.mono (by simp))
  clear hb1 hsl
  go_wp2_with (fail)
  have t3 := World.there_alloc t1 (.cells #[.int .i64 0, .int .i64 0, .int .i64 0] 24)
  have B3 := B1.alloc (by omega) (.cells #[.int .i64 0, .int .i64 0, .int .i64 0] 24)
  have z3 : w1.heap.size < (w1.alloc (.cells #[.int .i64 0, .int .i64 0, .int .i64 0] 24)).heap.size := by simp
  refine (lay_bad 0 0 0 _ (by decide)).mono ?_
  generalize w1.alloc (.cells #[.int .i64 0, .int .i64 0, .int .i64 0] 24) = w3 at t3 B3 z3 ⊢
  rintro e w4 ⟨rfl, hb4⟩
  have z4 := hb4.size
  have t4 := there_below hb4 t3 (by omega)
  have B4 := B3.trans (hb4.mono (by omega))
  obtain ⟨v1, v2, v3, v4⟩ := lay_var zeroL zero_len w4
  have HT : Hid (World.there _ _ _ _) := v1
  have t5 := there_below v2 t4 (by omega)
  have HT5 : Hid (World.there _ _ _ _) := t5
  have HB5 : Hid (Below _ _ _) := B4.trans (v2.mono (by omega))
  have HY5 : Hid (_ < _) := v4
  clear t1 B1 t3 B3 hb4 t4 B4 v1 v2 v3 v4 t5
  go_wp2_with (refine wpList_store_mid rfl 61 _ _ rfl _ _ _ rfl rfl HT.out (by kernel_rfl) (ints_one _) ?_; generalize hW : World.setCells _ _ _ _ = W5; replace HT5 : Hid (W5.there w.heap.size 0 3) := (by rw [← hW]; exact HT5.out); replace HB5 : Hid (Below w.heap.size w W5) := (by rw [← hW]; exact HB5.out); clear hW HT HY5; obtain ⟨p0, hp0⟩ := Option.isSome_iff_exists.1 (HT5.out 0 (by omega)).1; obtain ⟨p1, hp1⟩ := Option.isSome_iff_exists.1 (HT5.out 1 (by omega)).1; obtain ⟨p2, hp2⟩ := Option.isSome_iff_exists.1 (HT5.out 2 (by omega)).1; have u0 := (HT5.out 0 (by omega)).2; have u1 := (HT5.out 1 (by omega)).2; have u2 := (HT5.out 2 (by omega)).2; simp at u0 u1 u2 hp0 hp1 hp2)
  obtain ⟨hr, hB⟩ := chk_done HT5.out HB5.out (Nat.le_refl _) 0 0 0
  exact bodyPost_ret (results_cell_tmp_mid rfl _ _ w.heap.size 0 _ _ rfl hr Tryz.underlying24 rfl (by kernel_rfl)) rfl ⟨rfl, hB⟩

set_option maxHeartbeats 4000000 in
theorem house_yes (a : Option Addr) (n cap : Nat) (f : Nat → Int) (w : World) (h : Sl .u64 w a n f) (hn : n ≤ 1000000000) (h0 : ∀ j, j < n → 0 ≤ f j ∧ f j < 18446744073709551616) (hk : kn n f = true) :
    Calls Tryz.prog 44 #[.slice a n cap] w fun e w' => HsQ n f e ∧ Below w.heap.size w w' := by
  obtain ⟨m0, m1, hok⟩ := kn_of hk
  have OK : Hid (okB (cS (f 0)) (cP (f 0)) (cL (f 0)) = true) := hok
  obtain ⟨j1, j2, j3, j4, j5, j6⟩ := okB_of hok
  have hsl := h.later (below1 w (.cells #[.int .i64 0, .int .i64 0, .int .i64 0] 24))
  clear h
  go_enter Tryz.func44, Tryz.ntmps44
  go_wp2_with (fail)
  refine (named_all a n cap f _ hsl hn h0).mono ?_
  rintro e w1 ⟨rfl, hb1⟩
  have k0 : kS n f = cS (f 0) := by unfold kS; rw [hk]; rfl
  have k1 : kP n f = cP (f 0) := by unfold kP; rw [hk]; rfl
  have k2 : kL n f = cL (f 0) := by unfold kL; rw [hk]; rfl
  rw [hk, k0, k1, k2]
  obtain ⟨S, hS⟩ : ∃ S, S = cS (f 0) := ⟨_, rfl⟩
  obtain ⟨P, hP⟩ : ∃ P, P = cP (f 0) := ⟨_, rfl⟩
  obtain ⟨l, hl⟩ : ∃ l, l = cL (f 0) := ⟨_, rfl⟩
  have ES : Hid (S = cS (f 0)) := hS
  have EP : Hid (P = cP (f 0)) := hP
  have EL : Hid (l = cL (f 0)) := hl
  have HM : Hid (0 < n ∧ f 0 / 4294967296 = 201115) := ⟨m0, m1⟩
  rw [← hS, ← hP, ← hl] at OK ⊢
  rw [← hS] at j1 j2
  rw [← hP] at j3 j4
  have hz1 := hb1.size
  simp at hz1
  have t1 : w1.there w.heap.size 0 3 := there_below hb1 (there_lit (ints [0, 0, 0]).toArray (heap1_0 _ _)) (by simp)
  have B1 : Below w.heap.size w w1 := (below1 _ _).trans (hb1.mono (by simp))
  clear hb1 hsl k0 k1 k2 hk hS hP hl hok j5 j6 m0 m1
  go_wp2_with (fail)
  have r3 : (w1.alloc (.cells #[.int .i64 S, .int .i64 P, .int .i64 l] 24)).rangeAt w1.heap.size 0 (ints [S, P, l]) := range_lit (ints [S, P, l]).toArray (heap1_0 _ _)
  have t3 := World.there_alloc t1 (.cells #[.int .i64 S, .int .i64 P, .int .i64 l] 24)
  have B3 := B1.alloc (by omega) (.cells #[.int .i64 S, .int .i64 P, .int .i64 l] 24)
  have z3 : w1.heap.size < (w1.alloc (.cells #[.int .i64 S, .int .i64 P, .int .i64 l] 24)).heap.size := by simp
  refine (lay_ok S P l _ OK.out).mono ?_
  generalize w1.alloc (.cells #[.int .i64 S, .int .i64 P, .int .i64 l] 24) = w3 at r3 t3 B3 z3 ⊢
  rintro e w4 ⟨rfl, hb4⟩
  have z4 := hb4.size
  have r4 := range_below hb4 r3 (by omega)
  have t4 := there_below hb4 t3 (by omega)
  have B4 := B3.trans (hb4.mono (by omega))
  obtain ⟨v1, v2, v3, v4⟩ := lay_var (layL S P) (layL_len S P) w4
  have HT : Hid (World.there _ _ _ _) := v1
  have HT5 : Hid (World.there _ _ _ _) := there_below v2 t4 (by omega)
  have HR5 : Hid (World.rangeAt _ w1.heap.size 0 (ints [S, P, l])) := range_below v2 r4 (by omega)
  have HV5 : Hid (World.rangeAt _ w4.heap.size 0 (ints (layL S P))) := v3
  have HB5 : Hid (Below _ _ _) := B4.trans (v2.mono (by omega))
  clear t1 B1 r3 t3 B3 hb4 r4 t4 B4 v1 v2 v3 v4
  by_cases g1 : (n : Int) = 3 + S + S + 4 + P + P * 8 + P * 8 + S * 21
  · have g1b : ((n : Int) != 3 + S + S + 4 + P + P * 8 + P * 8 + S * 21) = false := by simp [g1]
    have G : Hid ((n : Int) = 7 + cS (f 0) * 23 + cP (f 0) * 17) := by unfold Hid; rw [← ES.out, ← EP.out]; omega
    clear g1
    go_wp2_with (refine wpList_store_mid rfl 61 _ _ rfl _ _ _ rfl rfl HT.out (by kernel_rfl) (ints_one _) ?_; generalize hW : World.setCells _ _ _ _ = W5; replace HT5 : Hid (W5.there w.heap.size 0 3) := (by rw [← hW]; exact HT5.out); replace HB5 : Hid (Below w.heap.size w W5) := (by rw [← hW]; exact HB5.out); replace HR5 : Hid (W5.rangeAt w1.heap.size 0 (ints [S, P, l])) := (by rw [← hW]; exact HR5.out); replace HV5 : Hid (W5.rangeAt w4.heap.size 0 (ints (layL S P))) := (by rw [← hW]; exact HV5.out); clear hW HT; have c24 : W5.cell? ⟨w4.heap.size, 24, none⟩ = some (.int .i64 (3 + S + S + 4 + P + P * 8 + P * 8 + S * 21)) := (by have := HV5.out 24 (.int .i64 (cell2 S P 8 24)) (by rw [ints_get _ _ (by rw [layL_len]; omega), layL_get _ _ _ (by omega)]); rw [cell2_size S P 8 (by omega)] at this; exact this); obtain ⟨e0, e1, e2⟩ := two_cell HR5.out; obtain ⟨p0, hp0⟩ := Option.isSome_iff_exists.1 (HT5.out 0 (by omega)).1; obtain ⟨p1, hp1⟩ := Option.isSome_iff_exists.1 (HT5.out 1 (by omega)).1; obtain ⟨p2, hp2⟩ := Option.isSome_iff_exists.1 (HT5.out 2 (by omega)).1; have u0 := (HT5.out 0 (by omega)).2; have u1 := (HT5.out 1 (by omega)).2; have u2 := (HT5.out 2 (by omega)).2; simp at u0 u1 u2 hp0 hp1 hp2)
    obtain ⟨hr, hB⟩ := chk_done HT5.out HB5.out (Nat.le_refl _) S P l
    exact bodyPost_ret (results_cell_tmp_mid rfl _ _ w.heap.size 0 _ _ rfl hr Tryz.underlying24 rfl (by kernel_rfl)) rfl ⟨by rw [show (ints [S, P, l]).toArray = #[.int .i64 (cS (f 0)), .int .i64 (cP (f 0)), .int .i64 (cL (f 0))] by rw [ES.out, EP.out, EL.out]; rfl]; exact hs_yes HM.out.1 HM.out.2 (by rw [← ES.out, ← EP.out, ← EL.out]; exact OK.out) (.inl G.out), hB⟩
  have g1b : ((n : Int) != 3 + S + S + 4 + P + P * 8 + P * 8 + S * 21) = true := by simpa using g1
  have NG1 : Hid (¬ (n : Int) = 7 + cS (f 0) * 23 + cP (f 0) * 17) := by unfold Hid; rw [← ES.out, ← EP.out]; omega
  clear g1
  by_cases g2 : (n : Int) = 3 + S + S + 4 + P + P * 8 + P * 8
  · have g2b : ((n : Int) != 3 + S + S + 4 + P + P * 8 + P * 8) = false := by simp [g2]
    have G : Hid ((n : Int) = 7 + 2 * cS (f 0) + 17 * cP (f 0)) := by unfold Hid; rw [← ES.out, ← EP.out]; omega
    clear g2
    go_wp2_with (refine wpList_store_mid rfl 61 _ _ rfl _ _ _ rfl rfl HT.out (by kernel_rfl) (ints_one _) ?_; generalize hW : World.setCells _ _ _ _ = W5; replace HT5 : Hid (W5.there w.heap.size 0 3) := (by rw [← hW]; exact HT5.out); replace HB5 : Hid (Below w.heap.size w W5) := (by rw [← hW]; exact HB5.out); replace HR5 : Hid (W5.rangeAt w1.heap.size 0 (ints [S, P, l])) := (by rw [← hW]; exact HR5.out); replace HV5 : Hid (W5.rangeAt w4.heap.size 0 (ints (layL S P))) := (by rw [← hW]; exact HV5.out); clear hW HT; have c24 : W5.cell? ⟨w4.heap.size, 24, none⟩ = some (.int .i64 (3 + S + S + 4 + P + P * 8 + P * 8 + S * 21)) := (by have := HV5.out 24 (.int .i64 (cell2 S P 8 24)) (by rw [ints_get _ _ (by rw [layL_len]; omega), layL_get _ _ _ (by omega)]); rw [cell2_size S P 8 (by omega)] at this; exact this); have c23 : W5.cell? ⟨w4.heap.size, 23, none⟩ = some (.int .i64 (3 + S + S + 4 + P + P * 8 + P * 8)) := (by have := HV5.out 23 (.int .i64 (cell2 S P 8 23)) (by rw [ints_get _ _ (by rw [layL_len]; omega), layL_get _ _ _ (by omega)]); exact this); obtain ⟨e0, e1, e2⟩ := two_cell HR5.out; obtain ⟨p0, hp0⟩ := Option.isSome_iff_exists.1 (HT5.out 0 (by omega)).1; obtain ⟨p1, hp1⟩ := Option.isSome_iff_exists.1 (HT5.out 1 (by omega)).1; obtain ⟨p2, hp2⟩ := Option.isSome_iff_exists.1 (HT5.out 2 (by omega)).1; have u0 := (HT5.out 0 (by omega)).2; have u1 := (HT5.out 1 (by omega)).2; have u2 := (HT5.out 2 (by omega)).2; simp at u0 u1 u2 hp0 hp1 hp2)
    obtain ⟨hr, hB⟩ := chk_done HT5.out HB5.out (Nat.le_refl _) S P l
    exact bodyPost_ret (results_cell_tmp_mid rfl _ _ w.heap.size 0 _ _ rfl hr Tryz.underlying24 rfl (by kernel_rfl)) rfl ⟨by rw [show (ints [S, P, l]).toArray = #[.int .i64 (cS (f 0)), .int .i64 (cP (f 0)), .int .i64 (cL (f 0))] by rw [ES.out, EP.out, EL.out]; rfl]; exact hs_yes HM.out.1 HM.out.2 (by rw [← ES.out, ← EP.out, ← EL.out]; exact OK.out) (.inr G.out), hB⟩
  · have g2b : ((n : Int) != 3 + S + S + 4 + P + P * 8 + P * 8) = true := by simpa using g2
    have NG2 : Hid (¬ (n : Int) = 7 + 2 * cS (f 0) + 17 * cP (f 0)) := by unfold Hid; rw [← ES.out, ← EP.out]; omega
    clear g2
    go_wp2_with (refine wpList_store_mid rfl 61 _ _ rfl _ _ _ rfl rfl HT.out (by kernel_rfl) (ints_one _) ?_; generalize hW : World.setCells _ _ _ _ = W5; replace HT5 : Hid (W5.there w.heap.size 0 3) := (by rw [← hW]; exact HT5.out); replace HB5 : Hid (Below w.heap.size w W5) := (by rw [← hW]; exact HB5.out); replace HR5 : Hid (W5.rangeAt w1.heap.size 0 (ints [S, P, l])) := (by rw [← hW]; exact HR5.out); replace HV5 : Hid (W5.rangeAt w4.heap.size 0 (ints (layL S P))) := (by rw [← hW]; exact HV5.out); clear hW HT; have c24 : W5.cell? ⟨w4.heap.size, 24, none⟩ = some (.int .i64 (3 + S + S + 4 + P + P * 8 + P * 8 + S * 21)) := (by have := HV5.out 24 (.int .i64 (cell2 S P 8 24)) (by rw [ints_get _ _ (by rw [layL_len]; omega), layL_get _ _ _ (by omega)]); rw [cell2_size S P 8 (by omega)] at this; exact this); have c23 : W5.cell? ⟨w4.heap.size, 23, none⟩ = some (.int .i64 (3 + S + S + 4 + P + P * 8 + P * 8)) := (by have := HV5.out 23 (.int .i64 (cell2 S P 8 23)) (by rw [ints_get _ _ (by rw [layL_len]; omega), layL_get _ _ _ (by omega)]); exact this); obtain ⟨e0, e1, e2⟩ := two_cell HR5.out; obtain ⟨p0, hp0⟩ := Option.isSome_iff_exists.1 (HT5.out 0 (by omega)).1; obtain ⟨p1, hp1⟩ := Option.isSome_iff_exists.1 (HT5.out 1 (by omega)).1; obtain ⟨p2, hp2⟩ := Option.isSome_iff_exists.1 (HT5.out 2 (by omega)).1; have u0 := (HT5.out 0 (by omega)).2; have u1 := (HT5.out 1 (by omega)).2; have u2 := (HT5.out 2 (by omega)).2; simp at u0 u1 u2 hp0 hp1 hp2)
    obtain ⟨hr, hB⟩ := chk_done HT5.out HB5.out (Nat.le_refl _) 0 0 0
    exact bodyPost_ret (results_cell_tmp_mid rfl _ _ w.heap.size 0 _ _ rfl hr Tryz.underlying24 rfl (by kernel_rfl)) rfl ⟨by exact hs_no (fun q => q.2.2.2.elim NG1.out NG2.out), hB⟩

theorem house_any (a : Option Addr) (n cap : Nat) (f : Nat → Int) (w : World) (h : Sl .u64 w a n f) (hn : n ≤ 1000000000) (h0 : ∀ j, j < n → 0 ≤ f j ∧ f j < 18446744073709551616) :
    Calls Tryz.prog 44 #[.slice a n cap] w fun e w' => HsQ n f e ∧ Below w.heap.size w w' := by
  by_cases hk : kn n f = true
  · exact house_yes a n cap f w h hn h0 hk
  · have hk' : kn n f = false := by simpa using hk
    exact (house_no a n cap f w h hn h0 hk').mono fun e w' ⟨he, hw⟩ => ⟨by rw [he]; exact hs_no (fun q => hk (kn_t ⟨q.1, q.2.1, q.2.2.1⟩)), hw⟩

end Go.Proofs.YtipbijcmpbefpaaGreat.Plat

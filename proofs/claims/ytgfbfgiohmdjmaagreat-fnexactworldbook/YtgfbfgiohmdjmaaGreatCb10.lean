/- Of which house words are, with their desks or without: by the specification. Conditions: each word of 64 bits. -/
import Derived.Test.YtgfbfgiohmdjmaaGreatM10
namespace Go.Proofs.YtgfbfgiohmdjmaaGreat.Plat
open Go.ChangeShapes Go.WideShapes Go.ChangeAt Go.RowKit
open Words Aid Lst
set_option maxRecDepth 100000
set_option linter.unusedVariables false

theorem swhole_none (a : Option Addr) (cap : Nat) (w : World) :
    Calls Tryz.prog 48 #[.slice a 0 cap] w fun e w' => e = .returned (.tuple #[.agg #[.int .i64 0, .int .i64 0, .int .i64 0], .bool false]) ∧ Below w.heap.size w w' := by
  go_enter Tryz.func48, Tryz.ntmps48
  go_wp2_with (fail)
  exact bodyPost_ret (v := .tuple #[.agg #[.int .i64 0, .int .i64 0, .int .i64 0], .bool false]) (by simp [results, Tryz.results48, go_sem]) rfl ⟨rfl, below1 _ _⟩

set_option maxHeartbeats 4000000 in
theorem swhole_bad (b0 off n cap : Nat) (x s p l : Int) (w : World) (hn0 : 0 < n) (hc : w.cell? ⟨b0, off, none⟩ = some (.int .u64 x)) (h0 : 0 ≤ x) (h1 : x < 18446744073709551616) (hs : lo32 x % 8 = s) (hp : lo32 x / 8 % 8 = p) (hl : lo32 x / 64 = l) (hok : okB s p l = false) :
    Calls Tryz.prog 48 #[.slice (some ⟨b0, off, none⟩) n cap] w fun e w' => e = .returned (.tuple #[.agg #[.int .i64 0, .int .i64 0, .int .i64 0], .bool false]) ∧ Below w.heap.size w w' := by
  have hnb : ((n : Int) == 0) = false := by simp; omega
  have hni : (0 : Int) < n := by omega
  have hbl := World.block_lt_of_cell? w _ hc
  simp at hbl
  have l0 := lo32_lo x
  have l1 := lo32_hi x
  go_enter Tryz.func48, Tryz.ntmps48
  go_wp2_with (go_at_call 42; refine (sval_any x _ h0 h1).mono ?_; rintro e w' ⟨rfl, rfl⟩)
  have hS := CS.start w b0 off x s p l 62 hc
  generalize (w.alloc (.cells #[.int .i64 0, .int .i64 0, .int .i64 0] 62)).alloc (.cells #[.int .i64 s, .int .i64 p, .int .i64 l] 62) = W at *
  clear hs hp hl l0 l1 hnb
  refine wp_region_held_drew (S := CS w b0 off x s p l) (by kernel_rfl) hS.drew (fun hS => ?_)
  refine tI 0 (v := .agg #[.int .i64 s, .int .i64 p, .int .i64 l]) (d := some 22) rfl rfl (fun w' hw => ?_) (by assumption) ?_
  · obtain ⟨e0, e1, e2⟩ := two_cell hw.r; go_simp
  simp only [Act.put, s1, s2, s3]
  refine r1 1 rfl (fun K hK => ?_)
  go_simp
  refine (sok_any s p l _).mono ?_
  rintro e w1 ⟨rfl, hb1⟩
  rw [hok]
  go_wp2_with (fail)
  refine hK.out _ _ (hS.later hb1) (fun hS => ?_)
  clear hK K
  refine tI 2 (v := .bool true) (d := some 24) rfl rfl (fun w' hw => ?_) (by assumption) ?_
  · go_simp
  simp only [Act.put, s1, s2, s3]
  refine tI 3 (v := .bool true) (d := some 25) rfl rfl (fun w' hw => ?_) (by assumption) ?_
  · go_simp
  simp only [Act.put, s1, s2, s3]
  refine tS 4 (d := some 26) rfl rfl (by assumption) ?_
  simp only [Act.put, s1, s2, s3]
  refine tS 5 (d := some 27) rfl rfl (by assumption) ?_
  simp only [Act.put, s1, s2, s3]
  refine tS 6 (d := some 28) rfl rfl (by assumption) ?_
  simp only [Act.put, s1, s2, s3]
  refine tS 7 (d := some 29) rfl rfl (by assumption) ?_
  simp only [Act.put, s1, s2, s3]
  refine tS 8 (d := some 30) rfl rfl (by assumption) ?_
  simp only [Act.put, s1, s2, s3]
  refine tS 9 (d := some 31) rfl rfl (by assumption) ?_
  simp only [Act.put, s1, s2, s3]
  refine tI 10 (v := .bool true) (d := some 32) rfl rfl (fun w' hw => ?_) (by assumption) ?_
  · go_simp
  simp only [Act.put, s1, s2, s3]
  refine tI 11 (v := .bool true) (d := some 33) rfl rfl (fun w' hw => ?_) (by assumption) ?_
  · go_simp
  simp only [Act.put, s1, s2, s3]
  refine tS 12 (d := some 34) rfl rfl (by assumption) ?_
  simp only [Act.put, s1, s2, s3]
  refine tS 13 (d := some 35) rfl rfl (by assumption) ?_
  simp only [Act.put, s1, s2, s3]
  refine tS 14 (d := some 36) rfl rfl (by assumption) ?_
  simp only [Act.put, s1, s2, s3]
  refine tS 15 (d := some 37) rfl rfl (by assumption) ?_
  simp only [Act.put, s1, s2, s3]
  refine tS 16 (d := some 38) rfl rfl (by assumption) ?_
  simp only [Act.put, s1, s2, s3]
  refine tS 17 (d := some 39) rfl rfl (by assumption) ?_
  simp only [Act.put, s1, s2, s3]
  refine tS 18 (d := some 40) rfl rfl (by assumption) ?_
  simp only [Act.put, s1, s2, s3]
  refine tS 19 (d := some 41) rfl rfl (by assumption) ?_
  simp only [Act.put, s1, s2, s3]
  refine tS 20 (d := some 42) rfl rfl (by assumption) ?_
  simp only [Act.put, s1, s2, s3]
  refine tS 21 (d := some 43) rfl rfl (by assumption) ?_
  simp only [Act.put, s1, s2, s3]
  refine tS 22 (d := some 44) rfl rfl (by assumption) ?_
  simp only [Act.put, s1, s2, s3]
  refine tS 23 (d := some 45) rfl rfl (by assumption) ?_
  simp only [Act.put, s1, s2, s3]
  refine tI 24 (v := .bool true) (d := some 46) rfl rfl (fun w' hw => ?_) (by assumption) ?_
  · go_simp
  simp only [Act.put, s1, s2, s3]
  refine wpAnyH_done (by kernel_rfl) ?_ _
  obtain ⟨q0, q1, q2⟩ := two_cell hS.r
  obtain ⟨p0, hp0⟩ := Option.isSome_iff_exists.1 (hS.t 0 (by decide)).1
  obtain ⟨p1, hp1⟩ := Option.isSome_iff_exists.1 (hS.t 1 (by decide)).1
  obtain ⟨p2, hp2⟩ := Option.isSome_iff_exists.1 (hS.t 2 (by decide)).1
  have u0 := (hS.t 0 (by decide)).2
  have u1 := (hS.t 1 (by decide)).2
  have u2 := (hS.t 2 (by decide)).2
  simp at u0 u1 u2 hp0 hp1 hp2
  go_wp2_with (fail)
  obtain ⟨hr, hB⟩ := chk_done hS.t hS.b (Nat.le_refl _) 0 0 0
  exact bodyPost_ret (results_cell_tmp_mid rfl _ _ w.heap.size 0 _ _ rfl hr Tryz.underlying62 rfl (by kernel_rfl)) rfl ⟨rfl, hB⟩

set_option maxHeartbeats 4000000 in
theorem swhole_stamp (b0 off n cap : Nat) (x s p l : Int) (w : World) (hn0 : 0 < n) (hc : w.cell? ⟨b0, off, none⟩ = some (.int .u64 x)) (h0 : 0 ≤ x) (h1 : x < 18446744073709551616) (hs : lo32 x % 8 = s) (hp : lo32 x / 8 % 8 = p) (hl : lo32 x / 64 = l) (hok : okB s p l = true) (hst : (x != magic s p l) = true) :
    Calls Tryz.prog 48 #[.slice (some ⟨b0, off, none⟩) n cap] w fun e w' => e = .returned (.tuple #[.agg #[.int .i64 0, .int .i64 0, .int .i64 0], .bool false]) ∧ Below w.heap.size w w' := by
  have hnb : ((n : Int) == 0) = false := by simp; omega
  have hni : (0 : Int) < n := by omega
  have hbl := World.block_lt_of_cell? w _ hc
  simp at hbl
  have l0 := lo32_lo x
  have l1 := lo32_hi x
  go_enter Tryz.func48, Tryz.ntmps48
  go_wp2_with (go_at_call 42; refine (sval_any x _ h0 h1).mono ?_; rintro e w' ⟨rfl, rfl⟩)
  have hS := CS.start w b0 off x s p l 62 hc
  generalize (w.alloc (.cells #[.int .i64 0, .int .i64 0, .int .i64 0] 62)).alloc (.cells #[.int .i64 s, .int .i64 p, .int .i64 l] 62) = W at *
  clear hs hp hl l0 l1 hnb
  refine wp_region_held_drew (S := CS w b0 off x s p l) (by kernel_rfl) hS.drew (fun hS => ?_)
  refine tI 0 (v := .agg #[.int .i64 s, .int .i64 p, .int .i64 l]) (d := some 22) rfl rfl (fun w' hw => ?_) (by assumption) ?_
  · obtain ⟨e0, e1, e2⟩ := two_cell hw.r; go_simp
  simp only [Act.put, s1, s2, s3]
  refine r1 1 rfl (fun K hK => ?_)
  go_simp
  refine (sok_any s p l _).mono ?_
  rintro e w1 ⟨rfl, hb1⟩
  rw [hok]
  go_wp2_with (fail)
  refine hK.out _ _ (hS.later hb1) (fun hS => ?_)
  clear hK K
  refine tI 2 (v := .bool false) (d := some 24) rfl rfl (fun w' hw => ?_) (by assumption) ?_
  · go_simp
  simp only [Act.put, s1, s2, s3]
  refine tI 3 (v := .bool false) (d := some 25) rfl rfl (fun w' hw => ?_) (by assumption) ?_
  · go_simp
  simp only [Act.put, s1, s2, s3]
  refine tI 4 (v := .slice (some ⟨b0, off, none⟩) n cap) (d := some 26) rfl rfl (fun w' hw => ?_) (by assumption) ?_
  · go_simp
  simp only [Act.put, s1, s2, s3]
  refine tI 5 (v := .pointer (some ⟨b0, off, none⟩)) (d := some 27) rfl rfl (fun w' hw => ?_) (by assumption) ?_
  · go_simp
  simp only [Act.put, s1, s2, s3]
  refine tI 6 (v := .int .u64 x) (d := some 28) rfl rfl (fun w' hw => ?_) (by assumption) ?_
  · have e0 := hw.c; go_simp
  simp only [Act.put, s1, s2, s3]
  refine tI 7 (v := .agg #[.int .i64 s, .int .i64 p, .int .i64 l]) (d := some 29) rfl rfl (fun w' hw => ?_) (by assumption) ?_
  · obtain ⟨e0, e1, e2⟩ := two_cell hw.r; go_simp
  simp only [Act.put, s1, s2, s3]
  refine r1 8 rfl (fun K hK => ?_)
  go_simp
  refine (smagic_ok s p l _ (okB_of hok)).mono ?_
  rintro e w2 ⟨rfl, hb2⟩
  go_wp2_with (fail)
  refine hK.out _ _ (hS.later hb2) (fun hS => ?_)
  clear hK K
  refine tI 9 (v := .bool true) (d := some 31) rfl rfl (fun w' hw => ?_) (by assumption) ?_
  · go_simp
  simp only [Act.put, s1, s2, s3]
  refine tI 10 (v := .bool true) (d := some 32) rfl rfl (fun w' hw => ?_) (by assumption) ?_
  · go_simp
  simp only [Act.put, s1, s2, s3]
  refine tI 11 (v := .bool true) (d := some 33) rfl rfl (fun w' hw => ?_) (by assumption) ?_
  · go_simp
  simp only [Act.put, s1, s2, s3]
  refine tS 12 (d := some 34) rfl rfl (by assumption) ?_
  simp only [Act.put, s1, s2, s3]
  refine tS 13 (d := some 35) rfl rfl (by assumption) ?_
  simp only [Act.put, s1, s2, s3]
  refine tS 14 (d := some 36) rfl rfl (by assumption) ?_
  simp only [Act.put, s1, s2, s3]
  refine tS 15 (d := some 37) rfl rfl (by assumption) ?_
  simp only [Act.put, s1, s2, s3]
  refine tS 16 (d := some 38) rfl rfl (by assumption) ?_
  simp only [Act.put, s1, s2, s3]
  refine tS 17 (d := some 39) rfl rfl (by assumption) ?_
  simp only [Act.put, s1, s2, s3]
  refine tS 18 (d := some 40) rfl rfl (by assumption) ?_
  simp only [Act.put, s1, s2, s3]
  refine tS 19 (d := some 41) rfl rfl (by assumption) ?_
  simp only [Act.put, s1, s2, s3]
  refine tS 20 (d := some 42) rfl rfl (by assumption) ?_
  simp only [Act.put, s1, s2, s3]
  refine tS 21 (d := some 43) rfl rfl (by assumption) ?_
  simp only [Act.put, s1, s2, s3]
  refine tS 22 (d := some 44) rfl rfl (by assumption) ?_
  simp only [Act.put, s1, s2, s3]
  refine tS 23 (d := some 45) rfl rfl (by assumption) ?_
  simp only [Act.put, s1, s2, s3]
  refine tI 24 (v := .bool true) (d := some 46) rfl rfl (fun w' hw => ?_) (by assumption) ?_
  · go_simp
  simp only [Act.put, s1, s2, s3]
  refine wpAnyH_done (by kernel_rfl) ?_ _
  obtain ⟨q0, q1, q2⟩ := two_cell hS.r
  obtain ⟨p0, hp0⟩ := Option.isSome_iff_exists.1 (hS.t 0 (by decide)).1
  obtain ⟨p1, hp1⟩ := Option.isSome_iff_exists.1 (hS.t 1 (by decide)).1
  obtain ⟨p2, hp2⟩ := Option.isSome_iff_exists.1 (hS.t 2 (by decide)).1
  have u0 := (hS.t 0 (by decide)).2
  have u1 := (hS.t 1 (by decide)).2
  have u2 := (hS.t 2 (by decide)).2
  simp at u0 u1 u2 hp0 hp1 hp2
  go_wp2_with (fail)
  obtain ⟨hr, hB⟩ := chk_done hS.t hS.b (Nat.le_refl _) 0 0 0
  exact bodyPost_ret (results_cell_tmp_mid rfl _ _ w.heap.size 0 _ _ rfl hr Tryz.underlying62 rfl (by kernel_rfl)) rfl ⟨rfl, hB⟩

set_option maxHeartbeats 4000000 in
theorem swhole_size (b0 off n cap : Nat) (x s p l : Int) (w : World) (hn0 : 0 < n) (hc : w.cell? ⟨b0, off, none⟩ = some (.int .u64 x)) (h0 : 0 ≤ x) (h1 : x < 18446744073709551616) (hs : lo32 x % 8 = s) (hp : lo32 x / 8 % 8 = p) (hl : lo32 x / 64 = l) (hok : okB s p l = true) (hst : (x != magic s p l) = false) (hsz : ((n : Int) != 7 + s * 23 + p * 17) = false) :
    Calls Tryz.prog 48 #[.slice (some ⟨b0, off, none⟩) n cap] w fun e w' => e = .returned (.tuple #[.agg #[.int .i64 s, .int .i64 p, .int .i64 l], .bool true]) ∧ Below w.heap.size w w' := by
  have hnb : ((n : Int) == 0) = false := by simp; omega
  have hni : (0 : Int) < n := by omega
  have hbl := World.block_lt_of_cell? w _ hc
  simp at hbl
  have l0 := lo32_lo x
  have l1 := lo32_hi x
  go_enter Tryz.func48, Tryz.ntmps48
  go_wp2_with (go_at_call 42; refine (sval_any x _ h0 h1).mono ?_; rintro e w' ⟨rfl, rfl⟩)
  have hS := CS.start w b0 off x s p l 62 hc
  generalize (w.alloc (.cells #[.int .i64 0, .int .i64 0, .int .i64 0] 62)).alloc (.cells #[.int .i64 s, .int .i64 p, .int .i64 l] 62) = W at *
  clear hs hp hl l0 l1 hnb
  refine wp_region_held_drew (S := CS w b0 off x s p l) (by kernel_rfl) hS.drew (fun hS => ?_)
  refine tI 0 (v := .agg #[.int .i64 s, .int .i64 p, .int .i64 l]) (d := some 22) rfl rfl (fun w' hw => ?_) (by assumption) ?_
  · obtain ⟨e0, e1, e2⟩ := two_cell hw.r; go_simp
  simp only [Act.put, s1, s2, s3]
  refine r1 1 rfl (fun K hK => ?_)
  go_simp
  refine (sok_any s p l _).mono ?_
  rintro e w1 ⟨rfl, hb1⟩
  rw [hok]
  go_wp2_with (fail)
  refine hK.out _ _ (hS.later hb1) (fun hS => ?_)
  clear hK K
  refine tI 2 (v := .bool false) (d := some 24) rfl rfl (fun w' hw => ?_) (by assumption) ?_
  · go_simp
  simp only [Act.put, s1, s2, s3]
  refine tI 3 (v := .bool false) (d := some 25) rfl rfl (fun w' hw => ?_) (by assumption) ?_
  · go_simp
  simp only [Act.put, s1, s2, s3]
  refine tI 4 (v := .slice (some ⟨b0, off, none⟩) n cap) (d := some 26) rfl rfl (fun w' hw => ?_) (by assumption) ?_
  · go_simp
  simp only [Act.put, s1, s2, s3]
  refine tI 5 (v := .pointer (some ⟨b0, off, none⟩)) (d := some 27) rfl rfl (fun w' hw => ?_) (by assumption) ?_
  · go_simp
  simp only [Act.put, s1, s2, s3]
  refine tI 6 (v := .int .u64 x) (d := some 28) rfl rfl (fun w' hw => ?_) (by assumption) ?_
  · have e0 := hw.c; go_simp
  simp only [Act.put, s1, s2, s3]
  refine tI 7 (v := .agg #[.int .i64 s, .int .i64 p, .int .i64 l]) (d := some 29) rfl rfl (fun w' hw => ?_) (by assumption) ?_
  · obtain ⟨e0, e1, e2⟩ := two_cell hw.r; go_simp
  simp only [Act.put, s1, s2, s3]
  refine r1 8 rfl (fun K hK => ?_)
  go_simp
  refine (smagic_ok s p l _ (okB_of hok)).mono ?_
  rintro e w2 ⟨rfl, hb2⟩
  go_wp2_with (fail)
  refine hK.out _ _ (hS.later hb2) (fun hS => ?_)
  clear hK K
  refine tI 9 (v := .bool false) (d := some 31) rfl rfl (fun w' hw => ?_) (by assumption) ?_
  · go_simp
  simp only [Act.put, s1, s2, s3]
  refine tI 10 (v := .bool false) (d := some 32) rfl rfl (fun w' hw => ?_) (by assumption) ?_
  · go_simp
  simp only [Act.put, s1, s2, s3]
  refine tI 11 (v := .bool false) (d := some 33) rfl rfl (fun w' hw => ?_) (by assumption) ?_
  · go_simp
  simp only [Act.put, s1, s2, s3]
  refine tI 12 (v := .slice (some ⟨b0, off, none⟩) n cap) (d := some 34) rfl rfl (fun w' hw => ?_) (by assumption) ?_
  · go_simp
  simp only [Act.put, s1, s2, s3]
  refine tI 13 (v := .int .i64 n) (d := some 35) rfl rfl (fun w' hw => ?_) (by assumption) ?_
  · go_simp
  simp only [Act.put, s1, s2, s3]
  refine tI 14 (v := .agg #[.int .i64 s, .int .i64 p, .int .i64 l]) (d := some 36) rfl rfl (fun w' hw => ?_) (by assumption) ?_
  · obtain ⟨e0, e1, e2⟩ := two_cell hw.r; go_simp
  simp only [Act.put, s1, s2, s3]
  refine r1 15 rfl (fun K hK => ?_)
  go_simp
  refine (sl2Size_ok s p l _ (okB_of hok)).mono ?_
  rintro e w3 ⟨rfl, hb3⟩
  go_wp2_with (fail)
  refine hK.out _ _ (hS.later hb3) (fun hS => ?_)
  clear hK K
  refine tI 16 (v := .bool false) (d := some 38) rfl rfl (fun w' hw => ?_) (by assumption) ?_
  · go_simp
  simp only [Act.put, s1, s2, s3]
  refine tI 17 (v := .bool false) (d := some 39) rfl rfl (fun w' hw => ?_) (by assumption) ?_
  · go_simp
  simp only [Act.put, s1, s2, s3]
  refine tS 18 (d := some 40) rfl rfl (by assumption) ?_
  simp only [Act.put, s1, s2, s3]
  refine tS 19 (d := some 41) rfl rfl (by assumption) ?_
  simp only [Act.put, s1, s2, s3]
  refine tS 20 (d := some 42) rfl rfl (by assumption) ?_
  simp only [Act.put, s1, s2, s3]
  refine tS 21 (d := some 43) rfl rfl (by assumption) ?_
  simp only [Act.put, s1, s2, s3]
  refine tS 22 (d := some 44) rfl rfl (by assumption) ?_
  simp only [Act.put, s1, s2, s3]
  refine tI 23 (v := .bool false) (d := some 45) rfl rfl (fun w' hw => ?_) (by assumption) ?_
  · go_simp
  simp only [Act.put, s1, s2, s3]
  refine tI 24 (v := .bool false) (d := some 46) rfl rfl (fun w' hw => ?_) (by assumption) ?_
  · go_simp
  simp only [Act.put, s1, s2, s3]
  refine wpAnyH_done (by kernel_rfl) ?_ _
  obtain ⟨q0, q1, q2⟩ := two_cell hS.r
  obtain ⟨p0, hp0⟩ := Option.isSome_iff_exists.1 (hS.t 0 (by decide)).1
  obtain ⟨p1, hp1⟩ := Option.isSome_iff_exists.1 (hS.t 1 (by decide)).1
  obtain ⟨p2, hp2⟩ := Option.isSome_iff_exists.1 (hS.t 2 (by decide)).1
  have u0 := (hS.t 0 (by decide)).2
  have u1 := (hS.t 1 (by decide)).2
  have u2 := (hS.t 2 (by decide)).2
  simp at u0 u1 u2 hp0 hp1 hp2
  go_wp2_with (fail)
  obtain ⟨hr, hB⟩ := chk_done hS.t hS.b (Nat.le_refl _) s p l
  exact bodyPost_ret (results_cell_tmp_mid rfl _ _ w.heap.size 0 _ _ rfl hr Tryz.underlying62 rfl (by kernel_rfl)) rfl ⟨rfl, hB⟩

set_option maxHeartbeats 4000000 in
theorem swhole_house (b0 off n cap : Nat) (x s p l : Int) (w : World) (hn0 : 0 < n) (hc : w.cell? ⟨b0, off, none⟩ = some (.int .u64 x)) (h0 : 0 ≤ x) (h1 : x < 18446744073709551616) (hs : lo32 x % 8 = s) (hp : lo32 x / 8 % 8 = p) (hl : lo32 x / 64 = l) (hok : okB s p l = true) (hst : (x != magic s p l) = false) (hsz : ((n : Int) != 7 + s * 23 + p * 17) = true) (hho : ((n : Int) != 7 + 2 * s + 17 * p) = false) :
    Calls Tryz.prog 48 #[.slice (some ⟨b0, off, none⟩) n cap] w fun e w' => e = .returned (.tuple #[.agg #[.int .i64 s, .int .i64 p, .int .i64 l], .bool true]) ∧ Below w.heap.size w w' := by
  have hnb : ((n : Int) == 0) = false := by simp; omega
  have hni : (0 : Int) < n := by omega
  have hbl := World.block_lt_of_cell? w _ hc
  simp at hbl
  have l0 := lo32_lo x
  have l1 := lo32_hi x
  go_enter Tryz.func48, Tryz.ntmps48
  go_wp2_with (go_at_call 42; refine (sval_any x _ h0 h1).mono ?_; rintro e w' ⟨rfl, rfl⟩)
  have hS := CS.start w b0 off x s p l 62 hc
  generalize (w.alloc (.cells #[.int .i64 0, .int .i64 0, .int .i64 0] 62)).alloc (.cells #[.int .i64 s, .int .i64 p, .int .i64 l] 62) = W at *
  clear hs hp hl l0 l1 hnb
  refine wp_region_held_drew (S := CS w b0 off x s p l) (by kernel_rfl) hS.drew (fun hS => ?_)
  refine tI 0 (v := .agg #[.int .i64 s, .int .i64 p, .int .i64 l]) (d := some 22) rfl rfl (fun w' hw => ?_) (by assumption) ?_
  · obtain ⟨e0, e1, e2⟩ := two_cell hw.r; go_simp
  simp only [Act.put, s1, s2, s3]
  refine r1 1 rfl (fun K hK => ?_)
  go_simp
  refine (sok_any s p l _).mono ?_
  rintro e w1 ⟨rfl, hb1⟩
  rw [hok]
  go_wp2_with (fail)
  refine hK.out _ _ (hS.later hb1) (fun hS => ?_)
  clear hK K
  refine tI 2 (v := .bool false) (d := some 24) rfl rfl (fun w' hw => ?_) (by assumption) ?_
  · go_simp
  simp only [Act.put, s1, s2, s3]
  refine tI 3 (v := .bool false) (d := some 25) rfl rfl (fun w' hw => ?_) (by assumption) ?_
  · go_simp
  simp only [Act.put, s1, s2, s3]
  refine tI 4 (v := .slice (some ⟨b0, off, none⟩) n cap) (d := some 26) rfl rfl (fun w' hw => ?_) (by assumption) ?_
  · go_simp
  simp only [Act.put, s1, s2, s3]
  refine tI 5 (v := .pointer (some ⟨b0, off, none⟩)) (d := some 27) rfl rfl (fun w' hw => ?_) (by assumption) ?_
  · go_simp
  simp only [Act.put, s1, s2, s3]
  refine tI 6 (v := .int .u64 x) (d := some 28) rfl rfl (fun w' hw => ?_) (by assumption) ?_
  · have e0 := hw.c; go_simp
  simp only [Act.put, s1, s2, s3]
  refine tI 7 (v := .agg #[.int .i64 s, .int .i64 p, .int .i64 l]) (d := some 29) rfl rfl (fun w' hw => ?_) (by assumption) ?_
  · obtain ⟨e0, e1, e2⟩ := two_cell hw.r; go_simp
  simp only [Act.put, s1, s2, s3]
  refine r1 8 rfl (fun K hK => ?_)
  go_simp
  refine (smagic_ok s p l _ (okB_of hok)).mono ?_
  rintro e w2 ⟨rfl, hb2⟩
  go_wp2_with (fail)
  refine hK.out _ _ (hS.later hb2) (fun hS => ?_)
  clear hK K
  refine tI 9 (v := .bool false) (d := some 31) rfl rfl (fun w' hw => ?_) (by assumption) ?_
  · go_simp
  simp only [Act.put, s1, s2, s3]
  refine tI 10 (v := .bool false) (d := some 32) rfl rfl (fun w' hw => ?_) (by assumption) ?_
  · go_simp
  simp only [Act.put, s1, s2, s3]
  refine tI 11 (v := .bool false) (d := some 33) rfl rfl (fun w' hw => ?_) (by assumption) ?_
  · go_simp
  simp only [Act.put, s1, s2, s3]
  refine tI 12 (v := .slice (some ⟨b0, off, none⟩) n cap) (d := some 34) rfl rfl (fun w' hw => ?_) (by assumption) ?_
  · go_simp
  simp only [Act.put, s1, s2, s3]
  refine tI 13 (v := .int .i64 n) (d := some 35) rfl rfl (fun w' hw => ?_) (by assumption) ?_
  · go_simp
  simp only [Act.put, s1, s2, s3]
  refine tI 14 (v := .agg #[.int .i64 s, .int .i64 p, .int .i64 l]) (d := some 36) rfl rfl (fun w' hw => ?_) (by assumption) ?_
  · obtain ⟨e0, e1, e2⟩ := two_cell hw.r; go_simp
  simp only [Act.put, s1, s2, s3]
  refine r1 15 rfl (fun K hK => ?_)
  go_simp
  refine (sl2Size_ok s p l _ (okB_of hok)).mono ?_
  rintro e w3 ⟨rfl, hb3⟩
  go_wp2_with (fail)
  refine hK.out _ _ (hS.later hb3) (fun hS => ?_)
  clear hK K
  refine tI 16 (v := .bool true) (d := some 38) rfl rfl (fun w' hw => ?_) (by assumption) ?_
  · go_simp
  simp only [Act.put, s1, s2, s3]
  refine tI 17 (v := .bool true) (d := some 39) rfl rfl (fun w' hw => ?_) (by assumption) ?_
  · go_simp
  simp only [Act.put, s1, s2, s3]
  refine tI 18 (v := .slice (some ⟨b0, off, none⟩) n cap) (d := some 40) rfl rfl (fun w' hw => ?_) (by assumption) ?_
  · go_simp
  simp only [Act.put, s1, s2, s3]
  refine tI 19 (v := .int .i64 n) (d := some 41) rfl rfl (fun w' hw => ?_) (by assumption) ?_
  · go_simp
  simp only [Act.put, s1, s2, s3]
  refine tI 20 (v := .agg #[.int .i64 s, .int .i64 p, .int .i64 l]) (d := some 42) rfl rfl (fun w' hw => ?_) (by assumption) ?_
  · obtain ⟨e0, e1, e2⟩ := two_cell hw.r; go_simp
  simp only [Act.put, s1, s2, s3]
  refine r1 21 rfl (fun K hK => ?_)
  go_simp
  refine (sHouse_ok s p l _ (okB_of hok)).mono ?_
  rintro e w4 ⟨rfl, rfl⟩
  go_wp2_with (fail)
  refine hK.out _ _ (hS.later (below1 _ _)) (fun hS => ?_)
  clear hK K
  refine tI 22 (v := .bool false) (d := some 44) rfl rfl (fun w' hw => ?_) (by assumption) ?_
  · go_simp
  simp only [Act.put, s1, s2, s3]
  refine tI 23 (v := .bool false) (d := some 45) rfl rfl (fun w' hw => ?_) (by assumption) ?_
  · go_simp
  simp only [Act.put, s1, s2, s3]
  refine tI 24 (v := .bool false) (d := some 46) rfl rfl (fun w' hw => ?_) (by assumption) ?_
  · go_simp
  simp only [Act.put, s1, s2, s3]
  refine wpAnyH_done (by kernel_rfl) ?_ _
  obtain ⟨q0, q1, q2⟩ := two_cell hS.r
  obtain ⟨p0, hp0⟩ := Option.isSome_iff_exists.1 (hS.t 0 (by decide)).1
  obtain ⟨p1, hp1⟩ := Option.isSome_iff_exists.1 (hS.t 1 (by decide)).1
  obtain ⟨p2, hp2⟩ := Option.isSome_iff_exists.1 (hS.t 2 (by decide)).1
  have u0 := (hS.t 0 (by decide)).2
  have u1 := (hS.t 1 (by decide)).2
  have u2 := (hS.t 2 (by decide)).2
  simp at u0 u1 u2 hp0 hp1 hp2
  go_wp2_with (fail)
  obtain ⟨hr, hB⟩ := chk_done hS.t hS.b (Nat.le_refl _) s p l
  exact bodyPost_ret (results_cell_tmp_mid rfl _ _ w.heap.size 0 _ _ rfl hr Tryz.underlying62 rfl (by kernel_rfl)) rfl ⟨rfl, hB⟩

set_option maxHeartbeats 4000000 in
theorem swhole_not (b0 off n cap : Nat) (x s p l : Int) (w : World) (hn0 : 0 < n) (hc : w.cell? ⟨b0, off, none⟩ = some (.int .u64 x)) (h0 : 0 ≤ x) (h1 : x < 18446744073709551616) (hs : lo32 x % 8 = s) (hp : lo32 x / 8 % 8 = p) (hl : lo32 x / 64 = l) (hok : okB s p l = true) (hst : (x != magic s p l) = false) (hsz : ((n : Int) != 7 + s * 23 + p * 17) = true) (hho : ((n : Int) != 7 + 2 * s + 17 * p) = true) :
    Calls Tryz.prog 48 #[.slice (some ⟨b0, off, none⟩) n cap] w fun e w' => e = .returned (.tuple #[.agg #[.int .i64 0, .int .i64 0, .int .i64 0], .bool false]) ∧ Below w.heap.size w w' := by
  have hnb : ((n : Int) == 0) = false := by simp; omega
  have hni : (0 : Int) < n := by omega
  have hbl := World.block_lt_of_cell? w _ hc
  simp at hbl
  have l0 := lo32_lo x
  have l1 := lo32_hi x
  go_enter Tryz.func48, Tryz.ntmps48
  go_wp2_with (go_at_call 42; refine (sval_any x _ h0 h1).mono ?_; rintro e w' ⟨rfl, rfl⟩)
  have hS := CS.start w b0 off x s p l 62 hc
  generalize (w.alloc (.cells #[.int .i64 0, .int .i64 0, .int .i64 0] 62)).alloc (.cells #[.int .i64 s, .int .i64 p, .int .i64 l] 62) = W at *
  clear hs hp hl l0 l1 hnb
  refine wp_region_held_drew (S := CS w b0 off x s p l) (by kernel_rfl) hS.drew (fun hS => ?_)
  refine tI 0 (v := .agg #[.int .i64 s, .int .i64 p, .int .i64 l]) (d := some 22) rfl rfl (fun w' hw => ?_) (by assumption) ?_
  · obtain ⟨e0, e1, e2⟩ := two_cell hw.r; go_simp
  simp only [Act.put, s1, s2, s3]
  refine r1 1 rfl (fun K hK => ?_)
  go_simp
  refine (sok_any s p l _).mono ?_
  rintro e w1 ⟨rfl, hb1⟩
  rw [hok]
  go_wp2_with (fail)
  refine hK.out _ _ (hS.later hb1) (fun hS => ?_)
  clear hK K
  refine tI 2 (v := .bool false) (d := some 24) rfl rfl (fun w' hw => ?_) (by assumption) ?_
  · go_simp
  simp only [Act.put, s1, s2, s3]
  refine tI 3 (v := .bool false) (d := some 25) rfl rfl (fun w' hw => ?_) (by assumption) ?_
  · go_simp
  simp only [Act.put, s1, s2, s3]
  refine tI 4 (v := .slice (some ⟨b0, off, none⟩) n cap) (d := some 26) rfl rfl (fun w' hw => ?_) (by assumption) ?_
  · go_simp
  simp only [Act.put, s1, s2, s3]
  refine tI 5 (v := .pointer (some ⟨b0, off, none⟩)) (d := some 27) rfl rfl (fun w' hw => ?_) (by assumption) ?_
  · go_simp
  simp only [Act.put, s1, s2, s3]
  refine tI 6 (v := .int .u64 x) (d := some 28) rfl rfl (fun w' hw => ?_) (by assumption) ?_
  · have e0 := hw.c; go_simp
  simp only [Act.put, s1, s2, s3]
  refine tI 7 (v := .agg #[.int .i64 s, .int .i64 p, .int .i64 l]) (d := some 29) rfl rfl (fun w' hw => ?_) (by assumption) ?_
  · obtain ⟨e0, e1, e2⟩ := two_cell hw.r; go_simp
  simp only [Act.put, s1, s2, s3]
  refine r1 8 rfl (fun K hK => ?_)
  go_simp
  refine (smagic_ok s p l _ (okB_of hok)).mono ?_
  rintro e w2 ⟨rfl, hb2⟩
  go_wp2_with (fail)
  refine hK.out _ _ (hS.later hb2) (fun hS => ?_)
  clear hK K
  refine tI 9 (v := .bool false) (d := some 31) rfl rfl (fun w' hw => ?_) (by assumption) ?_
  · go_simp
  simp only [Act.put, s1, s2, s3]
  refine tI 10 (v := .bool false) (d := some 32) rfl rfl (fun w' hw => ?_) (by assumption) ?_
  · go_simp
  simp only [Act.put, s1, s2, s3]
  refine tI 11 (v := .bool false) (d := some 33) rfl rfl (fun w' hw => ?_) (by assumption) ?_
  · go_simp
  simp only [Act.put, s1, s2, s3]
  refine tI 12 (v := .slice (some ⟨b0, off, none⟩) n cap) (d := some 34) rfl rfl (fun w' hw => ?_) (by assumption) ?_
  · go_simp
  simp only [Act.put, s1, s2, s3]
  refine tI 13 (v := .int .i64 n) (d := some 35) rfl rfl (fun w' hw => ?_) (by assumption) ?_
  · go_simp
  simp only [Act.put, s1, s2, s3]
  refine tI 14 (v := .agg #[.int .i64 s, .int .i64 p, .int .i64 l]) (d := some 36) rfl rfl (fun w' hw => ?_) (by assumption) ?_
  · obtain ⟨e0, e1, e2⟩ := two_cell hw.r; go_simp
  simp only [Act.put, s1, s2, s3]
  refine r1 15 rfl (fun K hK => ?_)
  go_simp
  refine (sl2Size_ok s p l _ (okB_of hok)).mono ?_
  rintro e w3 ⟨rfl, hb3⟩
  go_wp2_with (fail)
  refine hK.out _ _ (hS.later hb3) (fun hS => ?_)
  clear hK K
  refine tI 16 (v := .bool true) (d := some 38) rfl rfl (fun w' hw => ?_) (by assumption) ?_
  · go_simp
  simp only [Act.put, s1, s2, s3]
  refine tI 17 (v := .bool true) (d := some 39) rfl rfl (fun w' hw => ?_) (by assumption) ?_
  · go_simp
  simp only [Act.put, s1, s2, s3]
  refine tI 18 (v := .slice (some ⟨b0, off, none⟩) n cap) (d := some 40) rfl rfl (fun w' hw => ?_) (by assumption) ?_
  · go_simp
  simp only [Act.put, s1, s2, s3]
  refine tI 19 (v := .int .i64 n) (d := some 41) rfl rfl (fun w' hw => ?_) (by assumption) ?_
  · go_simp
  simp only [Act.put, s1, s2, s3]
  refine tI 20 (v := .agg #[.int .i64 s, .int .i64 p, .int .i64 l]) (d := some 42) rfl rfl (fun w' hw => ?_) (by assumption) ?_
  · obtain ⟨e0, e1, e2⟩ := two_cell hw.r; go_simp
  simp only [Act.put, s1, s2, s3]
  refine r1 21 rfl (fun K hK => ?_)
  go_simp
  refine (sHouse_ok s p l _ (okB_of hok)).mono ?_
  rintro e w4 ⟨rfl, rfl⟩
  go_wp2_with (fail)
  refine hK.out _ _ (hS.later (below1 _ _)) (fun hS => ?_)
  clear hK K
  refine tI 22 (v := .bool true) (d := some 44) rfl rfl (fun w' hw => ?_) (by assumption) ?_
  · go_simp
  simp only [Act.put, s1, s2, s3]
  refine tI 23 (v := .bool true) (d := some 45) rfl rfl (fun w' hw => ?_) (by assumption) ?_
  · go_simp
  simp only [Act.put, s1, s2, s3]
  refine tI 24 (v := .bool true) (d := some 46) rfl rfl (fun w' hw => ?_) (by assumption) ?_
  · go_simp
  simp only [Act.put, s1, s2, s3]
  refine wpAnyH_done (by kernel_rfl) ?_ _
  obtain ⟨q0, q1, q2⟩ := two_cell hS.r
  obtain ⟨p0, hp0⟩ := Option.isSome_iff_exists.1 (hS.t 0 (by decide)).1
  obtain ⟨p1, hp1⟩ := Option.isSome_iff_exists.1 (hS.t 1 (by decide)).1
  obtain ⟨p2, hp2⟩ := Option.isSome_iff_exists.1 (hS.t 2 (by decide)).1
  have u0 := (hS.t 0 (by decide)).2
  have u1 := (hS.t 1 (by decide)).2
  have u2 := (hS.t 2 (by decide)).2
  simp at u0 u1 u2 hp0 hp1 hp2
  go_wp2_with (fail)
  obtain ⟨hr, hB⟩ := chk_done hS.t hS.b (Nat.le_refl _) 0 0 0
  exact bodyPost_ret (results_cell_tmp_mid rfl _ _ w.heap.size 0 _ _ rfl hr Tryz.underlying62 rfl (by kernel_rfl)) rfl ⟨rfl, hB⟩

/- Whether so many words are those of a house, with their desks or without. -/
def Hs (n : Nat) (f : Nat → Int) (S P : Nat) (l : Int) : Prop := 0 < n ∧ f 0 / 4294967296 = 201115 ∧ okB S P l = true ∧ cS (f 0) = S ∧ cP (f 0) = P ∧ cL (f 0) = l ∧ (n = 3 + S + S + 4 + P + P * 8 + P * 8 + S * 21 ∨ n = 3 + S + S + 4 + P + P * 8 + P * 8)
def HsQ (n : Nat) (f : Nat → Int) (e : Ending) : Prop := (∃ (S P : Nat) (l : Int), Hs n f S P l ∧ e = .returned (.tuple #[.agg #[.int .i64 S, .int .i64 P, .int .i64 l], .bool true])) ∨ ((∀ (S P : Nat) (l : Int), ¬ Hs n f S P l) ∧ e = .returned (.tuple #[.agg #[.int .i64 0, .int .i64 0, .int .i64 0], .bool false]))
theorem hs_one {n : Nat} {f : Nat → Int} {S P S' P' : Nat} {l l' : Int} (h : Hs n f S P l) (h' : Hs n f S' P' l') : S = S' ∧ P = P' ∧ l = l' := by
  obtain ⟨-, -, -, a1, a2, a3, -⟩ := h
  obtain ⟨-, -, -, b1, b2, b3, -⟩ := h'
  exact ⟨by omega, by omega, by omega⟩
theorem hs_yes {n : Nat} {f : Nat → Int} (h0 : 0 < n) (h1 : f 0 / 4294967296 = 201115) (h2 : okB (cS (f 0)) (cP (f 0)) (cL (f 0)) = true) (h3 : (n : Int) = 7 + cS (f 0) * 23 + cP (f 0) * 17 ∨ (n : Int) = 7 + 2 * cS (f 0) + 17 * cP (f 0)) : HsQ n f (.returned (.tuple #[.agg #[.int .i64 (cS (f 0)), .int .i64 (cP (f 0)), .int .i64 (cL (f 0))], .bool true])) := by
  obtain ⟨k1, k2, k3, k4, k5, k6⟩ := okB_of h2
  obtain ⟨S, hS⟩ := Int.eq_ofNat_of_zero_le (show 0 ≤ cS (f 0) by omega)
  obtain ⟨P, hP⟩ := Int.eq_ofNat_of_zero_le (show 0 ≤ cP (f 0) by omega)
  refine .inl ⟨S, P, cL (f 0), ⟨h0, h1, by rw [← hS, ← hP]; exact h2, hS, hP, rfl, ?_⟩, by rw [hS, hP]⟩
  rw [hS, hP] at h3
  omega
theorem hs_no {n : Nat} {f : Nat → Int} (h : ¬ (0 < n ∧ f 0 / 4294967296 = 201115 ∧ okB (cS (f 0)) (cP (f 0)) (cL (f 0)) = true ∧ ((n : Int) = 7 + cS (f 0) * 23 + cP (f 0) * 17 ∨ (n : Int) = 7 + 2 * cS (f 0) + 17 * cP (f 0)))) : HsQ n f (.returned (.tuple #[.agg #[.int .i64 0, .int .i64 0, .int .i64 0], .bool false])) := by
  refine .inr ⟨fun S P l ⟨a1, a2, a3, a4, a5, a6, a7⟩ => h ⟨a1, a2, by rw [a4, a5, a6]; exact a3, ?_⟩, rfl⟩
  rw [a4, a5]
  omega

theorem swhole_any (a : Option Addr) (n cap : Nat) (f : Nat → Int) (w : World) (h : Sl .u64 w a n f) (h0 : ∀ j, j < n → 0 ≤ f j ∧ f j < 18446744073709551616) :
    Calls Tryz.prog 48 #[.slice a n cap] w fun e w' => HsQ n f e ∧ Below w.heap.size w w' := by
  by_cases hz : n = 0
  · subst hz
    exact (swhole_none a cap w).mono fun e w' ⟨he, hw⟩ => ⟨by rw [he]; exact hs_no (by omega), hw⟩
  · rcases h with h | ⟨b, off, rfl, h⟩
    · exact absurd h hz
    · have hc := h 0 (by omega)
      rw [Nat.add_zero] at hc
      obtain ⟨x0, x1⟩ := h0 0 (by omega)
      have hm : magic (cS (f 0)) (cP (f 0)) (cL (f 0)) = 201115 * 4294967296 + lo32 (f 0) := magic_of
      have hx : lo32 (f 0) = f 0 % 4294967296 := rfl
      by_cases hok : okB (cS (f 0)) (cP (f 0)) (cL (f 0)) = true
      · by_cases hst : f 0 / 4294967296 = 201115
        · have hst' : (f 0 != magic (cS (f 0)) (cP (f 0)) (cL (f 0))) = false := by rw [hm]; simp; omega
          by_cases hsz : (n : Int) = 7 + cS (f 0) * 23 + cP (f 0) * 17
          · exact (swhole_size b off n cap (f 0) (cS (f 0)) (cP (f 0)) (cL (f 0)) w (by omega) hc x0 x1 rfl rfl rfl hok hst' (by simpa using hsz)).mono fun e w' ⟨he, hw⟩ => ⟨by rw [he]; exact hs_yes (by omega) hst hok (.inl hsz), hw⟩
          · by_cases hho : (n : Int) = 7 + 2 * cS (f 0) + 17 * cP (f 0)
            · exact (swhole_house b off n cap (f 0) (cS (f 0)) (cP (f 0)) (cL (f 0)) w (by omega) hc x0 x1 rfl rfl rfl hok hst' (by simpa using hsz) (by simpa using hho)).mono fun e w' ⟨he, hw⟩ => ⟨by rw [he]; exact hs_yes (by omega) hst hok (.inr hho), hw⟩
            · exact (swhole_not b off n cap (f 0) (cS (f 0)) (cP (f 0)) (cL (f 0)) w (by omega) hc x0 x1 rfl rfl rfl hok hst' (by simpa using hsz) (by simpa using hho)).mono fun e w' ⟨he, hw⟩ => ⟨by rw [he]; exact hs_no (fun q => q.2.2.2.elim hsz hho), hw⟩
        · exact (swhole_stamp b off n cap (f 0) (cS (f 0)) (cP (f 0)) (cL (f 0)) w (by omega) hc x0 x1 rfl rfl rfl hok (by rw [hm]; simp; omega)).mono fun e w' ⟨he, hw⟩ => ⟨by rw [he]; exact hs_no (fun q => hst q.2.1), hw⟩
      · exact (swhole_bad b off n cap (f 0) (cS (f 0)) (cP (f 0)) (cL (f 0)) w (by omega) hc x0 x1 rfl rfl rfl (by simpa using hok)).mono fun e w' ⟨he, hw⟩ => ⟨by rw [he]; exact hs_no (fun q => hok q.2.2.1), hw⟩

end Go.Proofs.YtgfbfgiohmdjmaaGreat.Plat

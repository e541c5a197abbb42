/- Of which house some words are, by the specification. Conditions: at most 1,000,000,000 words, each of 64 bits. -/
import Derived.Test.YtgfbfgiohmdjmaaGreatCheck
import Derived.Test.YtgfbfgiohmdjmaaGreatM9
import Derived.Deep.RegionHeld3
namespace Go.Proofs.YtgfbfgiohmdjmaaGreat.Plat
open Go.ChangeShapes Go.WideShapes Go.ChangeAt Go.RowKit
open Words Aid Lst

theorem scheck_none (a : Option Addr) (cap : Nat) (w : World) :
    Calls Tryz.prog 32 #[.slice a 0 cap] w fun e w' => e = .returned (.tuple #[.agg #[.int .i64 0, .int .i64 0, .int .i64 0], .bool false]) ∧ Below w.heap.size w w' := by
  go_enter Tryz.func32, Tryz.ntmps32
  go_wp2_with (fail)
  exact bodyPost_ret (v := .tuple #[.agg #[.int .i64 0, .int .i64 0, .int .i64 0], .bool false]) (by simp [results, Tryz.results32, go_sem]) rfl ⟨rfl, below1 _ _⟩

theorem takeH {P : Program} {md : Region.Mode} {ops : Array Oper} {Q : Exit → Act → World → Prop} {S : World → Prop} {i : Nat} {oi : Oper} {v : Value} {d : Option Tmp} {fuel : Nat} {listed : Array Bool} {a : Act} {w : World} (hi : ops[i]? = some oi) (hd : oi.dst = d)
    (hs : Region.noSelect ops = true) (hf : Region.free md ops listed i = true) (hr : (Region.ready md ops listed).contains i = true)
    (hQ : ∀ c a w, Q (.panic c) (a.put d v) w → Q (.panic c) a w) (hy : YieldsIf P ops S oi v a) (hS : S w)
    (h : wpAnyH P md ops Q S fuel (listed.setIfInBounds i true) (a.put d v) w) : wpAnyH P md ops Q S (fuel + 1) listed a w := by
  subst hd
  exact wpAnyH_take hi hs hf hr hQ hy hS h

/- What the reading of a house rests on: two structs of the call's own, and the word. -/
structure CS (w0 : World) (b0 off : Nat) (x s p l : Int) (w : World) : Prop where
  r : w.rangeAt (w0.heap.size + 1) 0 (ints [s, p, l])
  t : w.there w0.heap.size 0 3
  c : w.cell? ⟨b0, off, none⟩ = some (.int .u64 x)
  b : Below w0.heap.size w0 w
  z : w0.heap.size + 2 ≤ w.heap.size

theorem CS.drew {w0 : World} {b0 off : Nat} {x s p l : Int} {w : World} (h : CS w0 b0 off x s p l w) : CS w0 b0 off x s p l w.drew := ⟨h.r, h.t, h.c, h.b.drew, h.z⟩
theorem CS.later {w0 : World} {b0 off : Nat} {x s p l : Int} {w w1 : World} (h : CS w0 b0 off x s p l w) (hb : Below w.heap.size w w1) : CS w0 b0 off x s p l w1 :=
  ⟨range_below hb h.r (by have := h.z; omega), there_below hb h.t (by have := h.z; omega), (hb.cell (p := ⟨b0, off, none⟩) (World.block_lt_of_cell? w _ h.c)).trans h.c, h.b.trans (hb.mono (by have := h.z; omega)), Nat.le_trans h.z hb.size⟩
theorem CS.start (w : World) (b0 off : Nat) (x s p l : Int) (t : TypeId) (hc : w.cell? ⟨b0, off, none⟩ = some (.int .u64 x)) : CS w b0 off x s p l ((w.alloc (.cells #[.int .i64 0, .int .i64 0, .int .i64 0] t)).alloc (.cells #[.int .i64 s, .int .i64 p, .int .i64 l] t)) :=
  ⟨range_lit (ints [s, p, l]).toArray (heap2_1 w _ _), there_lit (ints [0, 0, 0]).toArray (heap2_0 w _ _), ((below2 w _ _).cell (p := ⟨b0, off, none⟩) (World.block_lt_of_cell? w _ hc)).trans hc, below2 w _ _, by simp⟩

set_option maxHeartbeats 4000000 in
theorem scheck_bad (b0 off n cap : Nat) (x s p l : Int) (w : World) (hn0 : 0 < n) (hc : w.cell? ⟨b0, off, none⟩ = some (.int .u64 x)) (h0 : 0 ≤ x) (h1 : x < 18446744073709551616) (hs : lo32 x % 8 = s) (hp : lo32 x / 8 % 8 = p) (hl : lo32 x / 64 = l) (hok : okB s p l = false) :
    Calls Tryz.prog 32 #[.slice (some ⟨b0, off, none⟩) n cap] w fun e w' => e = .returned (.tuple #[.agg #[.int .i64 0, .int .i64 0, .int .i64 0], .bool false]) ∧ Below w.heap.size w w' := by
  have hnb : ((n : Int) == 0) = false := by simp; omega
  have hni : (0 : Int) < n := by omega
  have hbl := World.block_lt_of_cell? w _ hc
  simp at hbl
  have l0 := lo32_lo x
  have l1 := lo32_hi x
  go_enter Tryz.func32, Tryz.ntmps32
  go_wp2_with (go_at_call 42; refine (sval_any x _ h0 h1).mono ?_; rintro e w' ⟨rfl, rfl⟩)
  have hS := CS.start w b0 off x s p l 62 hc
  generalize (w.alloc (.cells #[.int .i64 0, .int .i64 0, .int .i64 0] 62)).alloc (.cells #[.int .i64 s, .int .i64 p, .int .i64 l] 62) = W at *
  clear hs hp hl l0 l1 hnb
  refine wp_region_held_drew (S := CS w b0 off x s p l) (by kernel_rfl) hS.drew (fun hS => ?_)
  refine tI 0 (v := .agg #[.int .i64 s, .int .i64 p, .int .i64 l]) (d := some 22) rfl rfl (fun w' hw => ?_) (by assumption) ?_
  · obtain ⟨e0, e1, e2⟩ := two_cell hw.r; go_simp
  simp only [Act.put, s1, s2, s3]
  refine r1 1 rfl (fun K hK => ?_)
  go_simp
  refine (sok_any s p l _).mono ?_
  rintro e w1 ⟨rfl, hb1⟩
  rw [hok]
  go_wp2_with (fail)
  refine hK.out _ _ (hS.later hb1) (fun hS => ?_)
  clear hK K
  refine tI 2 (v := .bool true) (d := some 24) rfl rfl (fun w' hw => ?_) (by assumption) ?_
  · go_simp
  simp only [Act.put, s1, s2, s3]
  refine tI 3 (v := .bool true) (d := some 25) rfl rfl (fun w' hw => ?_) (by assumption) ?_
  · go_simp
  simp only [Act.put, s1, s2, s3]
  refine tS 4 (d := some 26) rfl rfl (by assumption) ?_
  simp only [Act.put, s1, s2, s3]
  refine tS 5 (d := some 27) rfl rfl (by assumption) ?_
  simp only [Act.put, s1, s2, s3]
  refine tS 6 (d := some 28) rfl rfl (by assumption) ?_
  simp only [Act.put, s1, s2, s3]
  refine tS 7 (d := some 29) rfl rfl (by assumption) ?_
  simp only [Act.put, s1, s2, s3]
  refine tS 8 (d := some 30) rfl rfl (by assumption) ?_
  simp only [Act.put, s1, s2, s3]
  refine tS 9 (d := some 31) rfl rfl (by assumption) ?_
  simp only [Act.put, s1, s2, s3]
  refine tI 10 (v := .bool true) (d := some 32) rfl rfl (fun w' hw => ?_) (by assumption) ?_
  · go_simp
  simp only [Act.put, s1, s2, s3]
  refine tI 11 (v := .bool true) (d := some 33) rfl rfl (fun w' hw => ?_) (by assumption) ?_
  · go_simp
  simp only [Act.put, s1, s2, s3]
  refine tS 12 (d := some 34) rfl rfl (by assumption) ?_
  simp only [Act.put, s1, s2, s3]
  refine tS 13 (d := some 35) rfl rfl (by assumption) ?_
  simp only [Act.put, s1, s2, s3]
  refine tS 14 (d := some 36) rfl rfl (by assumption) ?_
  simp only [Act.put, s1, s2, s3]
  refine tS 15 (d := some 37) rfl rfl (by assumption) ?_
  simp only [Act.put, s1, s2, s3]
  refine tS 16 (d := some 38) rfl rfl (by assumption) ?_
  simp only [Act.put, s1, s2, s3]
  refine tI 17 (v := .bool true) (d := some 39) rfl rfl (fun w' hw => ?_) (by assumption) ?_
  · go_simp
  simp only [Act.put, s1, s2, s3]
  refine wpAnyH_done (by kernel_rfl) ?_ _
  obtain ⟨q0, q1, q2⟩ := two_cell hS.r
  obtain ⟨p0, hp0⟩ := Option.isSome_iff_exists.1 (hS.t 0 (by decide)).1
  obtain ⟨p1, hp1⟩ := Option.isSome_iff_exists.1 (hS.t 1 (by decide)).1
  obtain ⟨p2, hp2⟩ := Option.isSome_iff_exists.1 (hS.t 2 (by decide)).1
  have u0 := (hS.t 0 (by decide)).2
  have u1 := (hS.t 1 (by decide)).2
  have u2 := (hS.t 2 (by decide)).2
  simp at u0 u1 u2 hp0 hp1 hp2
  go_wp2_with (fail)
  obtain ⟨hr, hB⟩ := chk_done hS.t hS.b (Nat.le_refl _) 0 0 0
  exact bodyPost_ret (results_cell_tmp_mid rfl _ _ w.heap.size 0 _ _ rfl hr Tryz.underlying62 rfl (by kernel_rfl)) rfl ⟨rfl, hB⟩

set_option maxHeartbeats 4000000 in
theorem scheck_stamp (b0 off n cap : Nat) (x s p l : Int) (w : World) (hn0 : 0 < n) (hc : w.cell? ⟨b0, off, none⟩ = some (.int .u64 x)) (h0 : 0 ≤ x) (h1 : x < 18446744073709551616) (hs : lo32 x % 8 = s) (hp : lo32 x / 8 % 8 = p) (hl : lo32 x / 64 = l) (hok : okB s p l = true) (hst : (x != magic s p l) = true) :
    Calls Tryz.prog 32 #[.slice (some ⟨b0, off, none⟩) n cap] w fun e w' => e = .returned (.tuple #[.agg #[.int .i64 0, .int .i64 0, .int .i64 0], .bool false]) ∧ Below w.heap.size w w' := by
  have hnb : ((n : Int) == 0) = false := by simp; omega
  have hni : (0 : Int) < n := by omega
  have hbl := World.block_lt_of_cell? w _ hc
  simp at hbl
  have l0 := lo32_lo x
  have l1 := lo32_hi x
  go_enter Tryz.func32, Tryz.ntmps32
  go_wp2_with (go_at_call 42; refine (sval_any x _ h0 h1).mono ?_; rintro e w' ⟨rfl, rfl⟩)
  have hS := CS.start w b0 off x s p l 62 hc
  generalize (w.alloc (.cells #[.int .i64 0, .int .i64 0, .int .i64 0] 62)).alloc (.cells #[.int .i64 s, .int .i64 p, .int .i64 l] 62) = W at *
  clear hs hp hl l0 l1 hnb
  refine wp_region_held_drew (S := CS w b0 off x s p l) (by kernel_rfl) hS.drew (fun hS => ?_)
  refine tI 0 (v := .agg #[.int .i64 s, .int .i64 p, .int .i64 l]) (d := some 22) rfl rfl (fun w' hw => ?_) (by assumption) ?_
  · obtain ⟨e0, e1, e2⟩ := two_cell hw.r; go_simp
  simp only [Act.put, s1, s2, s3]
  refine r1 1 rfl (fun K hK => ?_)
  go_simp
  refine (sok_any s p l _).mono ?_
  rintro e w1 ⟨rfl, hb1⟩
  rw [hok]
  go_wp2_with (fail)
  refine hK.out _ _ (hS.later hb1) (fun hS => ?_)
  clear hK K
  refine tI 2 (v := .bool false) (d := some 24) rfl rfl (fun w' hw => ?_) (by assumption) ?_
  · go_simp
  simp only [Act.put, s1, s2, s3]
  refine tI 3 (v := .bool false) (d := some 25) rfl rfl (fun w' hw => ?_) (by assumption) ?_
  · go_simp
  simp only [Act.put, s1, s2, s3]
  refine tI 4 (v := .slice (some ⟨b0, off, none⟩) n cap) (d := some 26) rfl rfl (fun w' hw => ?_) (by assumption) ?_
  · go_simp
  simp only [Act.put, s1, s2, s3]
  refine tI 5 (v := .pointer (some ⟨b0, off, none⟩)) (d := some 27) rfl rfl (fun w' hw => ?_) (by assumption) ?_
  · go_simp
  simp only [Act.put, s1, s2, s3]
  refine tI 6 (v := .int .u64 x) (d := some 28) rfl rfl (fun w' hw => ?_) (by assumption) ?_
  · have e0 := hw.c; go_simp
  simp only [Act.put, s1, s2, s3]
  refine tI 7 (v := .agg #[.int .i64 s, .int .i64 p, .int .i64 l]) (d := some 29) rfl rfl (fun w' hw => ?_) (by assumption) ?_
  · obtain ⟨e0, e1, e2⟩ := two_cell hw.r; go_simp
  simp only [Act.put, s1, s2, s3]
  refine r1 8 rfl (fun K hK => ?_)
  go_simp
  refine (smagic_ok s p l _ (okB_of hok)).mono ?_
  rintro e w2 ⟨rfl, hb2⟩
  go_wp2_with (fail)
  refine hK.out _ _ (hS.later hb2) (fun hS => ?_)
  clear hK K
  refine tI 9 (v := .bool true) (d := some 31) rfl rfl (fun w' hw => ?_) (by assumption) ?_
  · go_simp
  simp only [Act.put, s1, s2, s3]
  refine tI 10 (v := .bool true) (d := some 32) rfl rfl (fun w' hw => ?_) (by assumption) ?_
  · go_simp
  simp only [Act.put, s1, s2, s3]
  refine tI 11 (v := .bool true) (d := some 33) rfl rfl (fun w' hw => ?_) (by assumption) ?_
  · go_simp
  simp only [Act.put, s1, s2, s3]
  refine tS 12 (d := some 34) rfl rfl (by assumption) ?_
  simp only [Act.put, s1, s2, s3]
  refine tS 13 (d := some 35) rfl rfl (by assumption) ?_
  simp only [Act.put, s1, s2, s3]
  refine tS 14 (d := some 36) rfl rfl (by assumption) ?_
  simp only [Act.put, s1, s2, s3]
  refine tS 15 (d := some 37) rfl rfl (by assumption) ?_
  simp only [Act.put, s1, s2, s3]
  refine tS 16 (d := some 38) rfl rfl (by assumption) ?_
  simp only [Act.put, s1, s2, s3]
  refine tI 17 (v := .bool true) (d := some 39) rfl rfl (fun w' hw => ?_) (by assumption) ?_
  · go_simp
  simp only [Act.put, s1, s2, s3]
  refine wpAnyH_done (by kernel_rfl) ?_ _
  obtain ⟨q0, q1, q2⟩ := two_cell hS.r
  obtain ⟨p0, hp0⟩ := Option.isSome_iff_exists.1 (hS.t 0 (by decide)).1
  obtain ⟨p1, hp1⟩ := Option.isSome_iff_exists.1 (hS.t 1 (by decide)).1
  obtain ⟨p2, hp2⟩ := Option.isSome_iff_exists.1 (hS.t 2 (by decide)).1
  have u0 := (hS.t 0 (by decide)).2
  have u1 := (hS.t 1 (by decide)).2
  have u2 := (hS.t 2 (by decide)).2
  simp at u0 u1 u2 hp0 hp1 hp2
  go_wp2_with (fail)
  obtain ⟨hr, hB⟩ := chk_done hS.t hS.b (Nat.le_refl _) 0 0 0
  exact bodyPost_ret (results_cell_tmp_mid rfl _ _ w.heap.size 0 _ _ rfl hr Tryz.underlying62 rfl (by kernel_rfl)) rfl ⟨rfl, hB⟩

set_option maxHeartbeats 4000000 in
theorem scheck_size (b0 off n cap : Nat) (x s p l : Int) (w : World) (hn0 : 0 < n) (hc : w.cell? ⟨b0, off, none⟩ = some (.int .u64 x)) (h0 : 0 ≤ x) (h1 : x < 18446744073709551616) (hs : lo32 x % 8 = s) (hp : lo32 x / 8 % 8 = p) (hl : lo32 x / 64 = l) (hok : okB s p l = true) (hst : (x != magic s p l) = false) (hsz : ((n : Int) != 7 + s * 23 + p * 17) = true) :
    Calls Tryz.prog 32 #[.slice (some ⟨b0, off, none⟩) n cap] w fun e w' => e = .returned (.tuple #[.agg #[.int .i64 0, .int .i64 0, .int .i64 0], .bool false]) ∧ Below w.heap.size w w' := by
  have hnb : ((n : Int) == 0) = false := by simp; omega
  have hni : (0 : Int) < n := by omega
  have hbl := World.block_lt_of_cell? w _ hc
  simp at hbl
  have l0 := lo32_lo x
  have l1 := lo32_hi x
  go_enter Tryz.func32, Tryz.ntmps32
  go_wp2_with (go_at_call 42; refine (sval_any x _ h0 h1).mono ?_; rintro e w' ⟨rfl, rfl⟩)
  have hS := CS.start w b0 off x s p l 62 hc
  generalize (w.alloc (.cells #[.int .i64 0, .int .i64 0, .int .i64 0] 62)).alloc (.cells #[.int .i64 s, .int .i64 p, .int .i64 l] 62) = W at *
  clear hs hp hl l0 l1 hnb
  refine wp_region_held_drew (S := CS w b0 off x s p l) (by kernel_rfl) hS.drew (fun hS => ?_)
  refine tI 0 (v := .agg #[.int .i64 s, .int .i64 p, .int .i64 l]) (d := some 22) rfl rfl (fun w' hw => ?_) (by assumption) ?_
  · obtain ⟨e0, e1, e2⟩ := two_cell hw.r; go_simp
  simp only [Act.put, s1, s2, s3]
  refine r1 1 rfl (fun K hK => ?_)
  go_simp
  refine (sok_any s p l _).mono ?_
  rintro e w1 ⟨rfl, hb1⟩
  rw [hok]
  go_wp2_with (fail)
  refine hK.out _ _ (hS.later hb1) (fun hS => ?_)
  clear hK K
  refine tI 2 (v := .bool false) (d := some 24) rfl rfl (fun w' hw => ?_) (by assumption) ?_
  · go_simp
  simp only [Act.put, s1, s2, s3]
  refine tI 3 (v := .bool false) (d := some 25) rfl rfl (fun w' hw => ?_) (by assumption) ?_
  · go_simp
  simp only [Act.put, s1, s2, s3]
  refine tI 4 (v := .slice (some ⟨b0, off, none⟩) n cap) (d := some 26) rfl rfl (fun w' hw => ?_) (by assumption) ?_
  · go_simp
  simp only [Act.put, s1, s2, s3]
  refine tI 5 (v := .pointer (some ⟨b0, off, none⟩)) (d := some 27) rfl rfl (fun w' hw => ?_) (by assumption) ?_
  · go_simp
  simp only [Act.put, s1, s2, s3]
  refine tI 6 (v := .int .u64 x) (d := some 28) rfl rfl (fun w' hw => ?_) (by assumption) ?_
  · have e0 := hw.c; go_simp
  simp only [Act.put, s1, s2, s3]
  refine tI 7 (v := .agg #[.int .i64 s, .int .i64 p, .int .i64 l]) (d := some 29) rfl rfl (fun w' hw => ?_) (by assumption) ?_
  · obtain ⟨e0, e1, e2⟩ := two_cell hw.r; go_simp
  simp only [Act.put, s1, s2, s3]
  refine r1 8 rfl (fun K hK => ?_)
  go_simp
  refine (smagic_ok s p l _ (okB_of hok)).mono ?_
  rintro e w2 ⟨rfl, hb2⟩
  go_wp2_with (fail)
  refine hK.out _ _ (hS.later hb2) (fun hS => ?_)
  clear hK K
  refine tI 9 (v := .bool false) (d := some 31) rfl rfl (fun w' hw => ?_) (by assumption) ?_
  · go_simp
  simp only [Act.put, s1, s2, s3]
  refine tI 10 (v := .bool false) (d := some 32) rfl rfl (fun w' hw => ?_) (by assumption) ?_
  · go_simp
  simp only [Act.put, s1, s2, s3]
  refine tI 11 (v := .bool false) (d := some 33) rfl rfl (fun w' hw => ?_) (by assumption) ?_
  · go_simp
  simp only [Act.put, s1, s2, s3]
  refine tI 12 (v := .slice (some ⟨b0, off, none⟩) n cap) (d := some 34) rfl rfl (fun w' hw => ?_) (by assumption) ?_
  · go_simp
  simp only [Act.put, s1, s2, s3]
  refine tI 13 (v := .int .i64 n) (d := some 35) rfl rfl (fun w' hw => ?_) (by assumption) ?_
  · go_simp
  simp only [Act.put, s1, s2, s3]
  refine tI 14 (v := .agg #[.int .i64 s, .int .i64 p, .int .i64 l]) (d := some 36) rfl rfl (fun w' hw => ?_) (by assumption) ?_
  · obtain ⟨e0, e1, e2⟩ := two_cell hw.r; go_simp
  simp only [Act.put, s1, s2, s3]
  refine r1 15 rfl (fun K hK => ?_)
  go_simp
  refine (sl2Size_ok s p l _ (okB_of hok)).mono ?_
  rintro e w3 ⟨rfl, hb3⟩
  go_wp2_with (fail)
  refine hK.out _ _ (hS.later hb3) (fun hS => ?_)
  clear hK K
  refine tI 16 (v := .bool true) (d := some 38) rfl rfl (fun w' hw => ?_) (by assumption) ?_
  · go_simp
  simp only [Act.put, s1, s2, s3]
  refine tI 17 (v := .bool true) (d := some 39) rfl rfl (fun w' hw => ?_) (by assumption) ?_
  · go_simp
  simp only [Act.put, s1, s2, s3]
  refine wpAnyH_done (by kernel_rfl) ?_ _
  obtain ⟨q0, q1, q2⟩ := two_cell hS.r
  obtain ⟨p0, hp0⟩ := Option.isSome_iff_exists.1 (hS.t 0 (by decide)).1
  obtain ⟨p1, hp1⟩ := Option.isSome_iff_exists.1 (hS.t 1 (by decide)).1
  obtain ⟨p2, hp2⟩ := Option.isSome_iff_exists.1 (hS.t 2 (by decide)).1
  have u0 := (hS.t 0 (by decide)).2
  have u1 := (hS.t 1 (by decide)).2
  have u2 := (hS.t 2 (by decide)).2
  simp at u0 u1 u2 hp0 hp1 hp2
  go_wp2_with (fail)
  obtain ⟨hr, hB⟩ := chk_done hS.t hS.b (Nat.le_refl _) 0 0 0
  exact bodyPost_ret (results_cell_tmp_mid rfl _ _ w.heap.size 0 _ _ rfl hr Tryz.underlying62 rfl (by kernel_rfl)) rfl ⟨rfl, hB⟩

set_option maxHeartbeats 4000000 in
theorem scheck_ok (b0 off n cap : Nat) (x s p l : Int) (w : World) (hn0 : 0 < n) (hc : w.cell? ⟨b0, off, none⟩ = some (.int .u64 x)) (h0 : 0 ≤ x) (h1 : x < 18446744073709551616) (hs : lo32 x % 8 = s) (hp : lo32 x / 8 % 8 = p) (hl : lo32 x / 64 = l) (hok : okB s p l = true) (hst : (x != magic s p l) = false) (hsz : ((n : Int) != 7 + s * 23 + p * 17) = false) :
    Calls Tryz.prog 32 #[.slice (some ⟨b0, off, none⟩) n cap] w fun e w' => e = .returned (.tuple #[.agg #[.int .i64 s, .int .i64 p, .int .i64 l], .bool true]) ∧ Below w.heap.size w w' := by
  have hnb : ((n : Int) == 0) = false := by simp; omega
  have hni : (0 : Int) < n := by omega
  have hbl := World.block_lt_of_cell? w _ hc
  simp at hbl
  have l0 := lo32_lo x
  have l1 := lo32_hi x
  go_enter Tryz.func32, Tryz.ntmps32
  go_wp2_with (go_at_call 42; refine (sval_any x _ h0 h1).mono ?_; rintro e w' ⟨rfl, rfl⟩)
  have hS := CS.start w b0 off x s p l 62 hc
  generalize (w.alloc (.cells #[.int .i64 0, .int .i64 0, .int .i64 0] 62)).alloc (.cells #[.int .i64 s, .int .i64 p, .int .i64 l] 62) = W at *
  clear hs hp hl l0 l1 hnb
  refine wp_region_held_drew (S := CS w b0 off x s p l) (by kernel_rfl) hS.drew (fun hS => ?_)
  refine tI 0 (v := .agg #[.int .i64 s, .int .i64 p, .int .i64 l]) (d := some 22) rfl rfl (fun w' hw => ?_) (by assumption) ?_
  · obtain ⟨e0, e1, e2⟩ := two_cell hw.r; go_simp
  simp only [Act.put, s1, s2, s3]
  refine r1 1 rfl (fun K hK => ?_)
  go_simp
  refine (sok_any s p l _).mono ?_
  rintro e w1 ⟨rfl, hb1⟩
  rw [hok]
  go_wp2_with (fail)
  refine hK.out _ _ (hS.later hb1) (fun hS => ?_)
  clear hK K
  refine tI 2 (v := .bool false) (d := some 24) rfl rfl (fun w' hw => ?_) (by assumption) ?_
  · go_simp
  simp only [Act.put, s1, s2, s3]
  refine tI 3 (v := .bool false) (d := some 25) rfl rfl (fun w' hw => ?_) (by assumption) ?_
  · go_simp
  simp only [Act.put, s1, s2, s3]
  refine tI 4 (v := .slice (some ⟨b0, off, none⟩) n cap) (d := some 26) rfl rfl (fun w' hw => ?_) (by assumption) ?_
  · go_simp
  simp only [Act.put, s1, s2, s3]
  refine tI 5 (v := .pointer (some ⟨b0, off, none⟩)) (d := some 27) rfl rfl (fun w' hw => ?_) (by assumption) ?_
  · go_simp
  simp only [Act.put, s1, s2, s3]
  refine tI 6 (v := .int .u64 x) (d := some 28) rfl rfl (fun w' hw => ?_) (by assumption) ?_
  · have e0 := hw.c; go_simp
  simp only [Act.put, s1, s2, s3]
  refine tI 7 (v := .agg #[.int .i64 s, .int .i64 p, .int .i64 l]) (d := some 29) rfl rfl (fun w' hw => ?_) (by assumption) ?_
  · obtain ⟨e0, e1, e2⟩ := two_cell hw.r; go_simp
  simp only [Act.put, s1, s2, s3]
  refine r1 8 rfl (fun K hK => ?_)
  go_simp
  refine (smagic_ok s p l _ (okB_of hok)).mono ?_
  rintro e w2 ⟨rfl, hb2⟩
  go_wp2_with (fail)
  refine hK.out _ _ (hS.later hb2) (fun hS => ?_)
  clear hK K
  refine tI 9 (v := .bool false) (d := some 31) rfl rfl (fun w' hw => ?_) (by assumption) ?_
  · go_simp
  simp only [Act.put, s1, s2, s3]
  refine tI 10 (v := .bool false) (d := some 32) rfl rfl (fun w' hw => ?_) (by assumption) ?_
  · go_simp
  simp only [Act.put, s1, s2, s3]
  refine tI 11 (v := .bool false) (d := some 33) rfl rfl (fun w' hw => ?_) (by assumption) ?_
  · go_simp
  simp only [Act.put, s1, s2, s3]
  refine tI 12 (v := .slice (some ⟨b0, off, none⟩) n cap) (d := some 34) rfl rfl (fun w' hw => ?_) (by assumption) ?_
  · go_simp
  simp only [Act.put, s1, s2, s3]
  refine tI 13 (v := .int .i64 n) (d := some 35) rfl rfl (fun w' hw => ?_) (by assumption) ?_
  · go_simp
  simp only [Act.put, s1, s2, s3]
  refine tI 14 (v := .agg #[.int .i64 s, .int .i64 p, .int .i64 l]) (d := some 36) rfl rfl (fun w' hw => ?_) (by assumption) ?_
  · obtain ⟨e0, e1, e2⟩ := two_cell hw.r; go_simp
  simp only [Act.put, s1, s2, s3]
  refine r1 15 rfl (fun K hK => ?_)
  go_simp
  refine (sl2Size_ok s p l _ (okB_of hok)).mono ?_
  rintro e w3 ⟨rfl, hb3⟩
  go_wp2_with (fail)
  refine hK.out _ _ (hS.later hb3) (fun hS => ?_)
  clear hK K
  refine tI 16 (v := .bool false) (d := some 38) rfl rfl (fun w' hw => ?_) (by assumption) ?_
  · go_simp
  simp only [Act.put, s1, s2, s3]
  refine tI 17 (v := .bool false) (d := some 39) rfl rfl (fun w' hw => ?_) (by assumption) ?_
  · go_simp
  simp only [Act.put, s1, s2, s3]
  refine wpAnyH_done (by kernel_rfl) ?_ _
  obtain ⟨q0, q1, q2⟩ := two_cell hS.r
  obtain ⟨p0, hp0⟩ := Option.isSome_iff_exists.1 (hS.t 0 (by decide)).1
  obtain ⟨p1, hp1⟩ := Option.isSome_iff_exists.1 (hS.t 1 (by decide)).1
  obtain ⟨p2, hp2⟩ := Option.isSome_iff_exists.1 (hS.t 2 (by decide)).1
  have u0 := (hS.t 0 (by decide)).2
  have u1 := (hS.t 1 (by decide)).2
  have u2 := (hS.t 2 (by decide)).2
  simp at u0 u1 u2 hp0 hp1 hp2
  go_wp2_with (fail)
  obtain ⟨hr, hB⟩ := chk_done hS.t hS.b (Nat.le_refl _) s p l
  exact bodyPost_ret (results_cell_tmp_mid rfl _ _ w.heap.size 0 _ _ rfl hr Tryz.underlying62 rfl (by kernel_rfl)) rfl ⟨rfl, hB⟩

end Go.Proofs.YtgfbfgiohmdjmaaGreat.Plat

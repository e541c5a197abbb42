/- What is done is carried out: where the changes stand, by the program. Conditions: the words are those of a house. -/
import Derived.Test.YtgfbfgiohmdjmaaGreatM22
namespace Go.Proofs.YtgfbfgiohmdjmaaGreat.Plat
open Go.ChangeShapes Go.WideShapes Go.ChangeAt Go.RowKit
open Words Aid Lst
open Book (takeB)
set_option maxRecDepth 100000
set_option linter.unusedVariables false

/- Where the desk of the door's slot lies. -/
def sl8 (x : Int) : Int := lo32 x / 4 % 8
def dkA (s p : Int) : Int := 3 + s + s + 4 + p + p * 8 + p * 8
def dk (s p l x : Int) : Int := addr s p l s 21 (dkA s p) (sl8 x)
theorem sl8_lo (x : Int) : 0 ≤ sl8 x := by unfold sl8; omega
theorem dk_out {s p l x : Int} (h : ¬ sl8 x < s) : dk s p l x = 0 := by
  unfold dk addr fnd
  split
  · rw [if_pos (.inr (by omega))]
  · rfl
theorem dk_in {s p l x : Int} (ho : okB s p l = true) (h : sl8 x < s) : dk s p l x = dkA s p + sl8 x * 21 := by
  unfold dk addr fnd
  rw [if_pos ho, if_neg (by have := sl8_lo x; omega)]
theorem dk_bd {s p l x : Int} (ho : okB s p l = true) (h : sl8 x < s) : ∃ d : Nat, dk s p l x = d ∧ 3 ≤ d ∧ (d : Int) + 21 ≤ 7 + s * 23 + p * 17 := by
  obtain ⟨h1, h2, h3, h4, _, _⟩ := okB_of ho
  have h0 := sl8_lo x
  have e := dk_in ho h
  have e2 : dkA s p = 7 + s * 2 + p * 17 := by unfold dkA; omega
  refine ⟨(dk s p l x).toNat, ?_, ?_, ?_⟩ <;> omega

/- Whether anything is done. -/
structure DoneP (f : Nat → Int) (s d : Int) : Prop where
  st : lo32 (f 2) % 4 = 2
  sl : sl8 (f 2) < s
  sm : f d.toNat / 4294967296 = f 2 / 4294967296
  mn : lo32 (f d.toNat) ≤ 20

structure DS (w0 : World) (b off n : Nat) (f : Nat → Int) (s p l : Int) (w : World) : Prop where
  r : w.rangeAt w0.heap.size 0 (ints [s, p, l])
  q : w.cell? ⟨w0.heap.size + 1, 0, none⟩ = some (.int .u64 (f 2))
  a : ∀ j, j < n → w.cell? ⟨b, off + j, none⟩ = some (.int .u64 (f j))
  b : Below w0.heap.size w0 w
  z : w0.heap.size + 2 ≤ w.heap.size
theorem DS.later {w0 w w1 : World} {b off n : Nat} {f : Nat → Int} {s p l : Int} (h : DS w0 b off n f s p l w) (hb : Below w.heap.size w w1) : DS w0 b off n f s p l w1 :=
  ⟨range_below hb h.r (by have := h.z; omega), (hb.cell (p := ⟨w0.heap.size + 1, 0, none⟩) (by have := h.z; simp; omega)).trans h.q, fun j hj => (hb.cell (p := ⟨b, off + j, none⟩) (World.block_lt_of_cell? w _ (h.a j hj))).trans (h.a j hj), h.b.trans (hb.mono h.b.size), Nat.le_trans h.z hb.size⟩
theorem DS.drew {w0 w : World} {b off n : Nat} {f : Nat → Int} {s p l : Int} (h : DS w0 b off n f s p l w) : DS w0 b off n f s p l w.drew := ⟨h.r, h.q, h.a, ⟨h.b.os, h.b.tape, h.b.output, h.b.size, h.b.block⟩, h.z⟩

set_option maxHeartbeats 4000000 in
theorem desk_state (b off n cap : Nat) (f : Nat → Int) (s p l : Int) (w : World) (h : ∀ j, j < n → w.cell? ⟨b, off + j, none⟩ = some (.int .u64 (f j))) (hb : b < w.heap.size) (hok : okB s p l = true) (hn : (n : Int) = 7 + s * 23 + p * 17) (hcap : n ≤ cap) (hw : W64 f) (hs : ¬ lo32 (f 2) % 4 = 2) :
    Calls Tryz.prog 74 #[.slice (some ⟨b, off, none⟩) n cap, .agg #[.int .i64 s, .int .i64 p, .int .i64 l]] w fun e w' => e = .returned (.tuple #[.slice none 0 0, .bool false]) ∧ Below w.heap.size w w' := by
  have hsb : (lo32 (f 2) % 4 != 2) = true := by simpa using hs
  have HS : Hid (¬ lo32 (f 2) % 4 = 2) := hs
  clear hs
  obtain ⟨k1, k2, k3, k4, k5, k6⟩ := okB_of hok
  have c2 := h 2 (by omega)
  have S0 : DS w b off n f s p l ((w.alloc (.cells #[.int .i64 s, .int .i64 p, .int .i64 l] 62)).alloc (.cells #[.int .u64 (f 2)] 127)) := ⟨range_lit (ints [s, p, l]).toArray (heap2_0 w _ _), by have := range_lit #[.int .u64 (f 2)] (heap2_1 w (.cells #[.int .i64 s, .int .i64 p, .int .i64 l] 62) (.cells #[.int .u64 (f 2)] 127)) 0 _ rfl; exact this, fun j hj => ((below2 w _ _).cell (p := ⟨b, off + j, none⟩) hb).trans (h j hj), below2 w _ _, by simp⟩
  have h2n : 2 < n := by omega
  have h2i : (2 : Int) < n := by omega
  obtain ⟨x0, x1⟩ := hw 2
  have HN : Hid ((n : Int) = 7 + s * 23 + p * 17) := hn
  clear hn
  have HA : Hid (∀ j, j < n → w.cell? ⟨b, off + j, none⟩ = some (.int .u64 (f j))) := h
  clear h
  go_enter Tryz.func74, Tryz.ntmps74
  go_wp2_with (fail)
  generalize (w.alloc (.cells #[.int .i64 s, .int .i64 p, .int .i64 l] 62)).alloc (.cells #[.int .u64 (f 2)] 127) = W at S0 ⊢
  clear HA c2
  refine wp_region_held_drew (S := DS w b off n f s p l) (by kernel_rfl) S0.drew (fun hS => ?_)
  clear S0
  refine tI 0 (v := .agg #[.int .i64 s, .int .i64 p, .int .i64 l]) (d := some 13) rfl rfl (fun w' hw => ?_) (by assumption) ?_
  · have e0 := hw.r 0 _ rfl; have e1 := hw.r 1 _ rfl; have e2 := hw.r 2 _ rfl; simp only [Nat.zero_add] at e0 e1 e2; go_simp
  simp only [Act.put, s1, s2, s3]
  refine tI 1 (v := .agg #[.int .u64 (f 2)]) (d := some 14) rfl rfl (fun w' hw => ?_) (by assumption) ?_
  · have q := hw.q; go_simp
  simp only [Act.put, s1, s2, s3]
  generalize World.drew _ = V at hS ⊢
  refine r1 2 rfl (fun K hK => ?_)
  go_simp
  refine (dslot_any (f 2) V x0 x1).mono ?_
  rintro e V1 ⟨rfl, rfl⟩
  go_simp
  refine hK.out _ _ (hS.later (below1 _ _)) (fun hS => ?_)
  clear hK K
  generalize V.alloc _ = V1 at hS ⊢
  refine r1 3 rfl (fun K hK => ?_)
  go_simp
  refine (desk_any s p l (lo32 (f 2) / 4 % 8) V1).mono ?_
  rintro e V2 ⟨rfl, hd⟩
  go_simp
  refine hK.out _ _ (hS.later hd) (fun hS => ?_)
  clear hK K
  clear hd
  refine tI 4 (v := .int .i64 (dk s p l (f 2))) (d := some 7) rfl rfl (fun w' hw => ?_) (by assumption) ?_
  · go_simp; rfl
  simp only [Act.put, s1, s2, s3]
  refine wpAnyH_done (by kernel_rfl) ?_ _
  have q := hS.q
  have lt1 := hS.z
  go_wp2_with (fail)
  refine (dstate_any (f 2) V2 x0 x1).mono ?_
  rintro e V3 ⟨rfl, rfl⟩
  replace hS := hS.later (below1 V2 (.cells #[.int .u64 (f 2)] 127))
  clear q lt1
  generalize V2.alloc (.cells #[.int .u64 (f 2)] 127) = V3 at hS ⊢
  go_wp2_with (fail)
  go_ret2
  exact ⟨rfl, hS.b⟩

set_option maxHeartbeats 4000000 in
theorem desk_slot (b off n cap : Nat) (f : Nat → Int) (s p l : Int) (w : World) (h : ∀ j, j < n → w.cell? ⟨b, off + j, none⟩ = some (.int .u64 (f j))) (hb : b < w.heap.size) (hok : okB s p l = true) (hn : (n : Int) = 7 + s * 23 + p * 17) (hcap : n ≤ cap) (hw : W64 f) (hs : lo32 (f 2) % 4 = 2) (hl : ¬ sl8 (f 2) < s) :
    Calls Tryz.prog 74 #[.slice (some ⟨b, off, none⟩) n cap, .agg #[.int .i64 s, .int .i64 p, .int .i64 l]] w fun e w' => e = .returned (.tuple #[.slice none 0 0, .bool false]) ∧ Below w.heap.size w w' := by
  have hsb : (lo32 (f 2) % 4 != 2) = false := by simp [hs]
  have HS : Hid (lo32 (f 2) % 4 = 2) := hs
  have HD : Hid (dk s p l (f 2) = 0) := dk_out hl
  clear hs hl
  obtain ⟨k1, k2, k3, k4, k5, k6⟩ := okB_of hok
  have c2 := h 2 (by omega)
  have S0 : DS w b off n f s p l ((w.alloc (.cells #[.int .i64 s, .int .i64 p, .int .i64 l] 62)).alloc (.cells #[.int .u64 (f 2)] 127)) := ⟨range_lit (ints [s, p, l]).toArray (heap2_0 w _ _), by have := range_lit #[.int .u64 (f 2)] (heap2_1 w (.cells #[.int .i64 s, .int .i64 p, .int .i64 l] 62) (.cells #[.int .u64 (f 2)] 127)) 0 _ rfl; exact this, fun j hj => ((below2 w _ _).cell (p := ⟨b, off + j, none⟩) hb).trans (h j hj), below2 w _ _, by simp⟩
  have h2n : 2 < n := by omega
  have h2i : (2 : Int) < n := by omega
  obtain ⟨x0, x1⟩ := hw 2
  have HN : Hid ((n : Int) = 7 + s * 23 + p * 17) := hn
  clear hn
  have HA : Hid (∀ j, j < n → w.cell? ⟨b, off + j, none⟩ = some (.int .u64 (f j))) := h
  clear h
  go_enter Tryz.func74, Tryz.ntmps74
  go_wp2_with (fail)
  generalize (w.alloc (.cells #[.int .i64 s, .int .i64 p, .int .i64 l] 62)).alloc (.cells #[.int .u64 (f 2)] 127) = W at S0 ⊢
  clear HA c2
  refine wp_region_held_drew (S := DS w b off n f s p l) (by kernel_rfl) S0.drew (fun hS => ?_)
  clear S0
  refine tI 0 (v := .agg #[.int .i64 s, .int .i64 p, .int .i64 l]) (d := some 13) rfl rfl (fun w' hw => ?_) (by assumption) ?_
  · have e0 := hw.r 0 _ rfl; have e1 := hw.r 1 _ rfl; have e2 := hw.r 2 _ rfl; simp only [Nat.zero_add] at e0 e1 e2; go_simp
  simp only [Act.put, s1, s2, s3]
  refine tI 1 (v := .agg #[.int .u64 (f 2)]) (d := some 14) rfl rfl (fun w' hw => ?_) (by assumption) ?_
  · have q := hw.q; go_simp
  simp only [Act.put, s1, s2, s3]
  generalize World.drew _ = V at hS ⊢
  refine r1 2 rfl (fun K hK => ?_)
  go_simp
  refine (dslot_any (f 2) V x0 x1).mono ?_
  rintro e V1 ⟨rfl, rfl⟩
  go_simp
  refine hK.out _ _ (hS.later (below1 _ _)) (fun hS => ?_)
  clear hK K
  generalize V.alloc _ = V1 at hS ⊢
  refine r1 3 rfl (fun K hK => ?_)
  go_simp
  refine (desk_any s p l (lo32 (f 2) / 4 % 8) V1).mono ?_
  rintro e V2 ⟨rfl, hd⟩
  go_simp
  refine hK.out _ _ (hS.later hd) (fun hS => ?_)
  clear hK K
  clear hd
  refine tI 4 (v := .int .i64 (dk s p l (f 2))) (d := some 7) rfl rfl (fun w' hw => ?_) (by assumption) ?_
  · go_simp; rfl
  simp only [Act.put, s1, s2, s3]
  refine wpAnyH_done (by kernel_rfl) ?_ _
  have q := hS.q
  have lt1 := hS.z
  rw [HD.out]
  go_wp2_with (fail)
  refine (dstate_any (f 2) V2 x0 x1).mono ?_
  rintro e V3 ⟨rfl, rfl⟩
  replace hS := hS.later (below1 V2 (.cells #[.int .u64 (f 2)] 127))
  clear q lt1
  generalize V2.alloc (.cells #[.int .u64 (f 2)] 127) = V3 at hS ⊢
  go_wp2_with (fail)
  go_ret2
  exact ⟨rfl, hS.b⟩

set_option maxHeartbeats 8000000 in
theorem desk_sm (b off n cap : Nat) (f : Nat → Int) (s p l : Int) (w : World) (h : ∀ j, j < n → w.cell? ⟨b, off + j, none⟩ = some (.int .u64 (f j))) (hb : b < w.heap.size) (hok : okB s p l = true) (hn : (n : Int) = 7 + s * 23 + p * 17) (hcap : n ≤ cap) (hw : W64 f) (hs : lo32 (f 2) % 4 = 2) (d : Nat) (hd : dk s p l (f 2) = d) (hd3 : 3 ≤ d) (hd21 : d + 21 ≤ n) (hm : ¬ f d / 4294967296 = f 2 / 4294967296) :
    Calls Tryz.prog 74 #[.slice (some ⟨b, off, none⟩) n cap, .agg #[.int .i64 s, .int .i64 p, .int .i64 l]] w fun e w' => e = .returned (.tuple #[.slice none 0 0, .bool false]) ∧ Below w.heap.size w w' := by
  have hsb : (lo32 (f 2) % 4 != 2) = false := by simp [hs]
  have HS : Hid (lo32 (f 2) % 4 = 2) := hs
  have HD : Hid (dk s p l (f 2) = d) := hd
  have hdn : d < n := by omega
  have hdi : (d : Int) < n := by omega
  have hdz : ((d : Int) == 0) = false := by simp; omega
  have hdz' : ¬ (d : Int) = 0 := by omega
  have hdz2 : (d == 0) = false := by simp; omega
  obtain ⟨d0, d1⟩ := hw d
  have hmb : (f d / 4294967296 != f 2 / 4294967296) = true := by simpa using hm
  clear hm
  clear hs hd
  obtain ⟨k1, k2, k3, k4, k5, k6⟩ := okB_of hok
  have c2 := h 2 (by omega)
  have S0 : DS w b off n f s p l ((w.alloc (.cells #[.int .i64 s, .int .i64 p, .int .i64 l] 62)).alloc (.cells #[.int .u64 (f 2)] 127)) := ⟨range_lit (ints [s, p, l]).toArray (heap2_0 w _ _), by have := range_lit #[.int .u64 (f 2)] (heap2_1 w (.cells #[.int .i64 s, .int .i64 p, .int .i64 l] 62) (.cells #[.int .u64 (f 2)] 127)) 0 _ rfl; exact this, fun j hj => ((below2 w _ _).cell (p := ⟨b, off + j, none⟩) hb).trans (h j hj), below2 w _ _, by simp⟩
  have h2n : 2 < n := by omega
  have h2i : (2 : Int) < n := by omega
  obtain ⟨x0, x1⟩ := hw 2
  have HN : Hid ((n : Int) = 7 + s * 23 + p * 17) := hn
  clear hn
  have HA : Hid (∀ j, j < n → w.cell? ⟨b, off + j, none⟩ = some (.int .u64 (f j))) := h
  clear h
  go_enter Tryz.func74, Tryz.ntmps74
  go_wp2_with (fail)
  generalize (w.alloc (.cells #[.int .i64 s, .int .i64 p, .int .i64 l] 62)).alloc (.cells #[.int .u64 (f 2)] 127) = W at S0 ⊢
  clear HA c2
  refine wp_region_held_drew (S := DS w b off n f s p l) (by kernel_rfl) S0.drew (fun hS => ?_)
  clear S0
  refine tI 0 (v := .agg #[.int .i64 s, .int .i64 p, .int .i64 l]) (d := some 13) rfl rfl (fun w' hw => ?_) (by assumption) ?_
  · have e0 := hw.r 0 _ rfl; have e1 := hw.r 1 _ rfl; have e2 := hw.r 2 _ rfl; simp only [Nat.zero_add] at e0 e1 e2; go_simp
  simp only [Act.put, s1, s2, s3]
  refine tI 1 (v := .agg #[.int .u64 (f 2)]) (d := some 14) rfl rfl (fun w' hw => ?_) (by assumption) ?_
  · have q := hw.q; go_simp
  simp only [Act.put, s1, s2, s3]
  generalize World.drew _ = V at hS ⊢
  refine r1 2 rfl (fun K hK => ?_)
  go_simp
  refine (dslot_any (f 2) V x0 x1).mono ?_
  rintro e V1 ⟨rfl, rfl⟩
  go_simp
  refine hK.out _ _ (hS.later (below1 _ _)) (fun hS => ?_)
  clear hK K
  generalize V.alloc _ = V1 at hS ⊢
  refine r1 3 rfl (fun K hK => ?_)
  go_simp
  refine (desk_any s p l (lo32 (f 2) / 4 % 8) V1).mono ?_
  rintro e V2 ⟨rfl, hd⟩
  go_simp
  refine hK.out _ _ (hS.later hd) (fun hS => ?_)
  clear hK K
  clear hd
  refine tI 4 (v := .int .i64 (dk s p l (f 2))) (d := some 7) rfl rfl (fun w' hw => ?_) (by assumption) ?_
  · go_simp; rfl
  simp only [Act.put, s1, s2, s3]
  refine wpAnyH_done (by kernel_rfl) ?_ _
  have q := hS.q
  have lt1 := hS.z
  rw [HD.out]
  go_wp2_with (fail)
  refine (dstate_any (f 2) V2 x0 x1).mono ?_
  rintro e V3 ⟨rfl, rfl⟩
  replace hS := hS.later (below1 V2 (.cells #[.int .u64 (f 2)] 127))
  clear q lt1
  generalize V2.alloc (.cells #[.int .u64 (f 2)] 127) = V3 at hS ⊢
  have ad := hS.a d hdn
  go_wp2_with (go_at_call 101; refine (val_any (f d) V3 d0 d1).mono ?_; rintro e V3 ⟨rfl, rfl⟩)
  clear ad
  refine wp_region_held_drew (S := DS w b off n f s p l) (by kernel_rfl) hS.drew (fun hS => ?_)
  refine tI 0 (v := .slice (some ⟨b, off, none⟩) n cap) (d := some 29) rfl rfl (fun w' hw => ?_) (by assumption) ?_
  · go_simp
  simp only [Act.put, s1, s2, s3]
  refine tI 1 (v := .int .i64 d) (d := some 30) rfl rfl (fun w' hw => ?_) (by assumption) ?_
  · go_simp
  simp only [Act.put, s1, s2, s3]
  refine tI 2 (v := .pointer (some ⟨b, off + d, none⟩)) (d := some 31) rfl rfl (fun w' hw => ?_) (by assumption) ?_
  · go_simp
  simp only [Act.put, s1, s2, s3]
  refine tI 3 (v := .int .u64 (f d)) (d := some 32) rfl rfl (fun w' hw => ?_) (by assumption) ?_
  · have q := hw.a d hdn; go_simp
  simp only [Act.put, s1, s2, s3]
  refine tI 5 (v := .pointer (some ⟨w.heap.size + 1, 0, none⟩)) (d := some 34) rfl rfl (fun w' hw => ?_) (by assumption) ?_
  · go_simp
  simp only [Act.put, s1, s2, s3]
  refine tI 6 (v := .int .u64 (f 2)) (d := some 35) rfl rfl (fun w' hw => ?_) (by assumption) ?_
  · have q := hw.q; go_simp
  simp only [Act.put, s1, s2, s3]
  generalize World.drew _ = V at hS ⊢
  refine r1 4 rfl (fun K hK => ?_)
  go_simp
  refine (st_any (f d) V d0 d1).mono ?_
  rintro e V ⟨rfl, rfl⟩
  go_simp
  refine hK.out _ _ (hS) (fun hS => ?_)
  clear hK K
  refine r1 7 rfl (fun K hK => ?_)
  go_simp
  refine (stamp_any (f 2) V x0 x1).mono ?_
  rintro e V ⟨rfl, rfl⟩
  go_simp
  refine hK.out _ _ (hS) (fun hS => ?_)
  clear hK K
  refine tI 8 (v := .bool true) (d := some 37) rfl rfl (fun w' hw => ?_) (by assumption) ?_
  · go_simp
  simp only [Act.put, s1, s2, s3]
  refine tI 9 (v := .bool true) (d := some 38) rfl rfl (fun w' hw => ?_) (by assumption) ?_
  · go_simp
  simp only [Act.put, s1, s2, s3]
  refine tS 10 (d := some 39) rfl rfl (by assumption) ?_
  simp only [Act.put, s1, s2, s3]
  refine tS 11 (d := some 40) rfl rfl (by assumption) ?_
  simp only [Act.put, s1, s2, s3]
  refine tI 12 (v := .bool true) (d := some 41) rfl rfl (fun w' hw => ?_) (by assumption) ?_
  · go_simp
  simp only [Act.put, s1, s2, s3]
  refine wpAnyH_done (by kernel_rfl) ?_ _
  go_wp2_with (fail)
  go_ret2
  exact ⟨rfl, hS.b⟩

set_option maxHeartbeats 8000000 in
theorem desk_mn (b off n cap : Nat) (f : Nat → Int) (s p l : Int) (w : World) (h : ∀ j, j < n → w.cell? ⟨b, off + j, none⟩ = some (.int .u64 (f j))) (hb : b < w.heap.size) (hok : okB s p l = true) (hn : (n : Int) = 7 + s * 23 + p * 17) (hcap : n ≤ cap) (hw : W64 f) (hs : lo32 (f 2) % 4 = 2) (d : Nat) (hd : dk s p l (f 2) = d) (hd3 : 3 ≤ d) (hd21 : d + 21 ≤ n) (hm : f d / 4294967296 = f 2 / 4294967296) (hl : ¬ lo32 (f d) ≤ 20) :
    Calls Tryz.prog 74 #[.slice (some ⟨b, off, none⟩) n cap, .agg #[.int .i64 s, .int .i64 p, .int .i64 l]] w fun e w' => e = .returned (.tuple #[.slice none 0 0, .bool false]) ∧ Below w.heap.size w w' := by
  have hsb : (lo32 (f 2) % 4 != 2) = false := by simp [hs]
  have HS : Hid (lo32 (f 2) % 4 = 2) := hs
  have HD : Hid (dk s p l (f 2) = d) := hd
  have hdn : d < n := by omega
  have hdi : (d : Int) < n := by omega
  have hdz : ((d : Int) == 0) = false := by simp; omega
  have hdz' : ¬ (d : Int) = 0 := by omega
  have hdz2 : (d == 0) = false := by simp; omega
  obtain ⟨d0, d1⟩ := hw d
  have hmb : (f d / 4294967296 != f 2 / 4294967296) = false := by simp [hm]
  have hlb : decide (20 < lo32 (f d)) = true := by simp; omega
  have hlb2 : 20 < lo32 (f d) := by omega
  clear hm hl
  clear hs hd
  obtain ⟨k1, k2, k3, k4, k5, k6⟩ := okB_of hok
  have c2 := h 2 (by omega)
  have S0 : DS w b off n f s p l ((w.alloc (.cells #[.int .i64 s, .int .i64 p, .int .i64 l] 62)).alloc (.cells #[.int .u64 (f 2)] 127)) := ⟨range_lit (ints [s, p, l]).toArray (heap2_0 w _ _), by have := range_lit #[.int .u64 (f 2)] (heap2_1 w (.cells #[.int .i64 s, .int .i64 p, .int .i64 l] 62) (.cells #[.int .u64 (f 2)] 127)) 0 _ rfl; exact this, fun j hj => ((below2 w _ _).cell (p := ⟨b, off + j, none⟩) hb).trans (h j hj), below2 w _ _, by simp⟩
  have h2n : 2 < n := by omega
  have h2i : (2 : Int) < n := by omega
  obtain ⟨x0, x1⟩ := hw 2
  have HN : Hid ((n : Int) = 7 + s * 23 + p * 17) := hn
  clear hn
  have HA : Hid (∀ j, j < n → w.cell? ⟨b, off + j, none⟩ = some (.int .u64 (f j))) := h
  clear h
  go_enter Tryz.func74, Tryz.ntmps74
  go_wp2_with (fail)
  generalize (w.alloc (.cells #[.int .i64 s, .int .i64 p, .int .i64 l] 62)).alloc (.cells #[.int .u64 (f 2)] 127) = W at S0 ⊢
  clear HA c2
  refine wp_region_held_drew (S := DS w b off n f s p l) (by kernel_rfl) S0.drew (fun hS => ?_)
  clear S0
  refine tI 0 (v := .agg #[.int .i64 s, .int .i64 p, .int .i64 l]) (d := some 13) rfl rfl (fun w' hw => ?_) (by assumption) ?_
  · have e0 := hw.r 0 _ rfl; have e1 := hw.r 1 _ rfl; have e2 := hw.r 2 _ rfl; simp only [Nat.zero_add] at e0 e1 e2; go_simp
  simp only [Act.put, s1, s2, s3]
  refine tI 1 (v := .agg #[.int .u64 (f 2)]) (d := some 14) rfl rfl (fun w' hw => ?_) (by assumption) ?_
  · have q := hw.q; go_simp
  simp only [Act.put, s1, s2, s3]
  generalize World.drew _ = V at hS ⊢
  refine r1 2 rfl (fun K hK => ?_)
  go_simp
  refine (dslot_any (f 2) V x0 x1).mono ?_
  rintro e V1 ⟨rfl, rfl⟩
  go_simp
  refine hK.out _ _ (hS.later (below1 _ _)) (fun hS => ?_)
  clear hK K
  generalize V.alloc _ = V1 at hS ⊢
  refine r1 3 rfl (fun K hK => ?_)
  go_simp
  refine (desk_any s p l (lo32 (f 2) / 4 % 8) V1).mono ?_
  rintro e V2 ⟨rfl, hd⟩
  go_simp
  refine hK.out _ _ (hS.later hd) (fun hS => ?_)
  clear hK K
  clear hd
  refine tI 4 (v := .int .i64 (dk s p l (f 2))) (d := some 7) rfl rfl (fun w' hw => ?_) (by assumption) ?_
  · go_simp; rfl
  simp only [Act.put, s1, s2, s3]
  refine wpAnyH_done (by kernel_rfl) ?_ _
  have q := hS.q
  have lt1 := hS.z
  rw [HD.out]
  go_wp2_with (fail)
  refine (dstate_any (f 2) V2 x0 x1).mono ?_
  rintro e V3 ⟨rfl, rfl⟩
  replace hS := hS.later (below1 V2 (.cells #[.int .u64 (f 2)] 127))
  clear q lt1
  generalize V2.alloc (.cells #[.int .u64 (f 2)] 127) = V3 at hS ⊢
  have ad := hS.a d hdn
  go_wp2_with (go_at_call 101; refine (val_any (f d) V3 d0 d1).mono ?_; rintro e V3 ⟨rfl, rfl⟩)
  clear ad
  refine wp_region_held_drew (S := DS w b off n f s p l) (by kernel_rfl) hS.drew (fun hS => ?_)
  refine tI 0 (v := .slice (some ⟨b, off, none⟩) n cap) (d := some 29) rfl rfl (fun w' hw => ?_) (by assumption) ?_
  · go_simp
  simp only [Act.put, s1, s2, s3]
  refine tI 1 (v := .int .i64 d) (d := some 30) rfl rfl (fun w' hw => ?_) (by assumption) ?_
  · go_simp
  simp only [Act.put, s1, s2, s3]
  refine tI 2 (v := .pointer (some ⟨b, off + d, none⟩)) (d := some 31) rfl rfl (fun w' hw => ?_) (by assumption) ?_
  · go_simp
  simp only [Act.put, s1, s2, s3]
  refine tI 3 (v := .int .u64 (f d)) (d := some 32) rfl rfl (fun w' hw => ?_) (by assumption) ?_
  · have q := hw.a d hdn; go_simp
  simp only [Act.put, s1, s2, s3]
  refine tI 5 (v := .pointer (some ⟨w.heap.size + 1, 0, none⟩)) (d := some 34) rfl rfl (fun w' hw => ?_) (by assumption) ?_
  · go_simp
  simp only [Act.put, s1, s2, s3]
  refine tI 6 (v := .int .u64 (f 2)) (d := some 35) rfl rfl (fun w' hw => ?_) (by assumption) ?_
  · have q := hw.q; go_simp
  simp only [Act.put, s1, s2, s3]
  generalize World.drew _ = V at hS ⊢
  refine r1 4 rfl (fun K hK => ?_)
  go_simp
  refine (st_any (f d) V d0 d1).mono ?_
  rintro e V ⟨rfl, rfl⟩
  go_simp
  refine hK.out _ _ (hS) (fun hS => ?_)
  clear hK K
  refine r1 7 rfl (fun K hK => ?_)
  go_simp
  refine (stamp_any (f 2) V x0 x1).mono ?_
  rintro e V ⟨rfl, rfl⟩
  go_simp
  refine hK.out _ _ (hS) (fun hS => ?_)
  clear hK K
  refine tI 8 (v := .bool false) (d := some 37) rfl rfl (fun w' hw => ?_) (by assumption) ?_
  · go_simp
  simp only [Act.put, s1, s2, s3]
  refine tI 9 (v := .bool false) (d := some 38) rfl rfl (fun w' hw => ?_) (by assumption) ?_
  · go_simp
  simp only [Act.put, s1, s2, s3]
  refine tI 10 (v := .int .i64 (lo32 (f d))) (d := some 39) rfl rfl (fun w' hw => ?_) (by assumption) ?_
  · go_simp
  simp only [Act.put, s1, s2, s3]
  refine tI 11 (v := .bool true) (d := some 40) rfl rfl (fun w' hw => ?_) (by assumption) ?_
  · go_simp
  simp only [Act.put, s1, s2, s3]
  refine tI 12 (v := .bool true) (d := some 41) rfl rfl (fun w' hw => ?_) (by assumption) ?_
  · go_simp
  simp only [Act.put, s1, s2, s3]
  refine wpAnyH_done (by kernel_rfl) ?_ _
  go_wp2_with (fail)
  go_ret2
  exact ⟨rfl, hS.b⟩

end Go.Proofs.YtgfbfgiohmdjmaaGreat.Plat

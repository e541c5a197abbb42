import Derived.Test.YtgfbfgiohmdjmaaGreatDone2
import Derived.Test.YtgfbfgiohmdjmaaGreatM3

/- What is done is carried out: where the changes stand, by the program. Conditions: the words are those of a house. -/
namespace Go.Proofs.YtgfbfgiohmdjmaaGreat.Plat
open Go.ChangeShapes Go.WideShapes Go.ChangeAt Go.RowKit
open Words Aid Lst
open Book (takeB)
set_option maxRecDepth 100000
set_option linter.unusedVariables false

set_option maxHeartbeats 8000000 in
theorem desk_ok (b off n cap : Nat) (f : Nat → Int) (s p l : Int) (w : World) (h : ∀ j, j < n → w.cell? ⟨b, off + j, none⟩ = some (.int .u64 (f j))) (hb : b < w.heap.size) (hok : okB s p l = true) (hn : (n : Int) = 7 + s * 23 + p * 17) (hcap : n ≤ cap) (hw : W64 f) (hs : lo32 (f 2) % 4 = 2) (d : Nat) (hd : dk s p l (f 2) = d) (hd3 : 3 ≤ d) (hd21 : d + 21 ≤ n) (hm : f d / 4294967296 = f 2 / 4294967296) (m : Nat) (hl : lo32 (f d) = m) (hm20 : m ≤ 20) :
    Calls Tryz.prog 74 #[.slice (some ⟨b, off, none⟩) n cap, .agg #[.int .i64 s, .int .i64 p, .int .i64 l]] w fun e w' => (∃ c, e = .returned (.tuple #[.slice (some ⟨b, off + (d + 1), none⟩) m c, .bool true])) ∧ Below w.heap.size w w' := by
  have hsb : (lo32 (f 2) % 4 != 2) = false := by simp [hs]
  have HS : Hid (lo32 (f 2) % 4 = 2) := hs
  have HD : Hid (dk s p l (f 2) = d) := hd
  have hdn : d < n := by omega
  have hdi : (d : Int) < n := by omega
  have hdz : ((d : Int) == 0) = false := by simp; omega
  have hdz' : ¬ (d : Int) = 0 := by omega
  have hdz2 : (d == 0) = false := by simp; omega
  obtain ⟨d0, d1⟩ := hw d
  have hmb : (f d / 4294967296 != f 2 / 4294967296) = false := by simp [hm]
  have hlb : decide (20 < lo32 (f d)) = false := by simp; omega
  have hlb2 : ¬ 20 < lo32 (f d) := by omega
  have HL : Hid (lo32 (f d) = m) := hl
  clear hm hl
  clear hs hd
  obtain ⟨k1, k2, k3, k4, k5, k6⟩ := okB_of hok
  have c2 := h 2 (by omega)
  have S0 : DS w b off n f s p l ((w.alloc (.cells #[.int .i64 s, .int .i64 p, .int .i64 l] 62)).alloc (.cells #[.int .u64 (f 2)] 127)) := ⟨range_lit (ints [s, p, l]).toArray (heap2_0 w _ _), by have := range_lit #[.int .u64 (f 2)] (heap2_1 w (.cells #[.int .i64 s, .int .i64 p, .int .i64 l] 62) (.cells #[.int .u64 (f 2)] 127)) 0 _ rfl; exact this, fun j hj => ((below2 w _ _).cell (p := ⟨b, off + j, none⟩) hb).trans (h j hj), below2 w _ _, by simp⟩
  have h2n : 2 < n := by omega
  have h2i : (2 : Int) < n := by omega
  obtain ⟨x0, x1⟩ := hw 2
  have HN : Hid ((n : Int) = 7 + s * 23 + p * 17) := hn
  clear hn
  have HA : Hid (∀ j, j < n → w.cell? ⟨b, off + j, none⟩ = some (.int .u64 (f j))) := h
  clear h
  go_enter Tryz.func74, Tryz.ntmps74
  go_wp2_with (fail)
  generalize (w.alloc (.cells #[.int .i64 s, .int .i64 p, .int .i64 l] 62)).alloc (.cells #[.int .u64 (f 2)] 127) = W at S0 ⊢
  clear HA c2
  refine wp_region_held_drew (S := DS w b off n f s p l) (by kernel_rfl) S0.drew (fun hS => ?_)
  clear S0
  refine tI 0 (v := .agg #[.int .i64 s, .int .i64 p, .int .i64 l]) (d := some 13) rfl rfl (fun w' hw => ?_) (by assumption) ?_
  · have e0 := hw.r 0 _ rfl; have e1 := hw.r 1 _ rfl; have e2 := hw.r 2 _ rfl; simp only [Nat.zero_add] at e0 e1 e2; go_simp
  simp only [Act.put, s1, s2, s3]
  refine tI 1 (v := .agg #[.int .u64 (f 2)]) (d := some 14) rfl rfl (fun w' hw => ?_) (by assumption) ?_
  · have q := hw.q; go_simp
  simp only [Act.put, s1, s2, s3]
  generalize World.drew _ = V at hS ⊢
  refine r1 2 rfl (fun K hK => ?_)
  go_simp
  refine (dslot_any (f 2) V x0 x1).mono ?_
  rintro e V1 ⟨rfl, rfl⟩
  go_simp
  refine hK.out _ _ (hS.later (below1 _ _)) (fun hS => ?_)
  clear hK K
  generalize V.alloc _ = V1 at hS ⊢
  refine r1 3 rfl (fun K hK => ?_)
  go_simp
  refine (desk_any s p l (lo32 (f 2) / 4 % 8) V1).mono ?_
  rintro e V2 ⟨rfl, hd⟩
  go_simp
  refine hK.out _ _ (hS.later hd) (fun hS => ?_)
  clear hK K
  clear hd
  refine tI 4 (v := .int .i64 (dk s p l (f 2))) (d := some 7) rfl rfl (fun w' hw => ?_) (by assumption) ?_
  · go_simp; rfl
  simp only [Act.put, s1, s2, s3]
  refine wpAnyH_done (by kernel_rfl) ?_ _
  have q := hS.q
  have lt1 := hS.z
  rw [HD.out]
  go_wp2_with (fail)
  refine (dstate_any (f 2) V2 x0 x1).mono ?_
  rintro e V3 ⟨rfl, rfl⟩
  replace hS := hS.later (below1 V2 (.cells #[.int .u64 (f 2)] 127))
  clear q lt1
  generalize V2.alloc (.cells #[.int .u64 (f 2)] 127) = V3 at hS ⊢
  have ad := hS.a d hdn
  go_wp2_with (go_at_call 101; refine (val_any (f d) V3 d0 d1).mono ?_; rintro e V3 ⟨rfl, rfl⟩)
  clear ad
  refine wp_region_held_drew (S := DS w b off n f s p l) (by kernel_rfl) hS.drew (fun hS => ?_)
  refine tI 0 (v := .slice (some ⟨b, off, none⟩) n cap) (d := some 29) rfl rfl (fun w' hw => ?_) (by assumption) ?_
  · go_simp
  simp only [Act.put, s1, s2, s3]
  refine tI 1 (v := .int .i64 d) (d := some 30) rfl rfl (fun w' hw => ?_) (by assumption) ?_
  · go_simp
  simp only [Act.put, s1, s2, s3]
  refine tI 2 (v := .pointer (some ⟨b, off + d, none⟩)) (d := some 31) rfl rfl (fun w' hw => ?_) (by assumption) ?_
  · go_simp
  simp only [Act.put, s1, s2, s3]
  refine tI 3 (v := .int .u64 (f d)) (d := some 32) rfl rfl (fun w' hw => ?_) (by assumption) ?_
  · have q := hw.a d hdn; go_simp
  simp only [Act.put, s1, s2, s3]
  refine tI 5 (v := .pointer (some ⟨w.heap.size + 1, 0, none⟩)) (d := some 34) rfl rfl (fun w' hw => ?_) (by assumption) ?_
  · go_simp
  simp only [Act.put, s1, s2, s3]
  refine tI 6 (v := .int .u64 (f 2)) (d := some 35) rfl rfl (fun w' hw => ?_) (by assumption) ?_
  · have q := hw.q; go_simp
  simp only [Act.put, s1, s2, s3]
  generalize World.drew _ = V at hS ⊢
  refine r1 4 rfl (fun K hK => ?_)
  go_simp
  refine (st_any (f d) V d0 d1).mono ?_
  rintro e V ⟨rfl, rfl⟩
  go_simp
  refine hK.out _ _ (hS) (fun hS => ?_)
  clear hK K
  refine r1 7 rfl (fun K hK => ?_)
  go_simp
  refine (stamp_any (f 2) V x0 x1).mono ?_
  rintro e V ⟨rfl, rfl⟩
  go_simp
  refine hK.out _ _ (hS) (fun hS => ?_)
  clear hK K
  refine tI 8 (v := .bool false) (d := some 37) rfl rfl (fun w' hw => ?_) (by assumption) ?_
  · go_simp
  simp only [Act.put, s1, s2, s3]
  refine tI 9 (v := .bool false) (d := some 38) rfl rfl (fun w' hw => ?_) (by assumption) ?_
  · go_simp
  simp only [Act.put, s1, s2, s3]
  refine tI 10 (v := .int .i64 (lo32 (f d))) (d := some 39) rfl rfl (fun w' hw => ?_) (by assumption) ?_
  · go_simp
  simp only [Act.put, s1, s2, s3]
  refine tI 11 (v := .bool false) (d := some 40) rfl rfl (fun w' hw => ?_) (by assumption) ?_
  · go_simp
  simp only [Act.put, s1, s2, s3]
  refine tI 12 (v := .bool false) (d := some 41) rfl rfl (fun w' hw => ?_) (by assumption) ?_
  · go_simp
  simp only [Act.put, s1, s2, s3]
  refine wpAnyH_done (by kernel_rfl) ?_ _
  rw [HL.out]
  have t0 : (d : Int) ≤ 300 := by have := HN.out; omega
  have t00 : d ≤ 300 := by omega
  have t01 : d + 1 < cap := by omega
  have t02 : ¬ cap ≤ d + 1 := by omega
  have t03 : (d : Int) + 1 < cap := by omega
  have t04 : ¬ cap = d + 1 := by omega
  have t05 : ¬ cap - (d + 1) = 0 := by omega
  have t1 : ¬ ((d : Int) + 1 + m < d + 1) := by omega
  have t2 : d + 1 + m ≤ cap := by have := HN.out; omega
  have t3 : (d : Int) + 1 + m ≤ cap := by omega
  have t4 : d + 1 ≤ d + 1 + m := by omega
  have t5 : (d : Int) + 1 ≤ d + 1 + m := by omega
  have t6 : (d : Int) + 1 ≤ cap := by omega
  clear hcap hd21 hd3
  go_wp2_with (fail)
  go_ret2
  exact ⟨⟨_, rfl⟩, hS.b⟩

theorem desk_no (b off n cap : Nat) (f : Nat → Int) (s p l : Int) (w : World) (h : ∀ j, j < n → w.cell? ⟨b, off + j, none⟩ = some (.int .u64 (f j))) (hb : b < w.heap.size) (hok : okB s p l = true) (hn : (n : Int) = 7 + s * 23 + p * 17) (hcap : n ≤ cap) (hw : W64 f) (hd : ¬ DoneP f s (dk s p l (f 2))) :
    Calls Tryz.prog 74 #[.slice (some ⟨b, off, none⟩) n cap, .agg #[.int .i64 s, .int .i64 p, .int .i64 l]] w fun e w' => e = .returned (.tuple #[.slice none 0 0, .bool false]) ∧ Below w.heap.size w w' := by
  by_cases h1 : lo32 (f 2) % 4 = 2
  · by_cases h2 : sl8 (f 2) < s
    · obtain ⟨d, e, d3, d21⟩ := dk_bd hok h2
      have ed : (dk s p l (f 2)).toNat = d := by rw [e]; rfl
      by_cases h3 : f d / 4294967296 = f 2 / 4294967296
      · by_cases h4 : lo32 (f d) ≤ 20
        · exact absurd ⟨h1, h2, by rw [ed]; exact h3, by rw [ed]; exact h4⟩ hd
        · exact desk_mn b off n cap f s p l w h hb hok hn hcap hw h1 d e d3 (by omega) h3 h4
      · exact desk_sm b off n cap f s p l w h hb hok hn hcap hw h1 d e d3 (by omega) h3
    · exact desk_slot b off n cap f s p l w h hb hok hn hcap hw h1 h2
  · exact desk_state b off n cap f s p l w h hb hok hn hcap hw h1

/- The words, so many changes having been carried out. -/
def allF (n : Nat) (f : Nat → Int) (d : Nat) (st : Int) : Nat → Nat → Int
  | 0 => f
  | i + 1 => if f (d + 1 + i) / 4294967296 = st then putF n (allF n f d st i) (f (d + 1 + i)) else allF n f d st i
theorem allF_w {n : Nat} {f : Nat → Int} (h : W64 f) (d : Nat) (st : Int) : ∀ i, W64 (allF n f d st i)
  | 0 => h
  | i + 1 => by
    unfold allF
    split
    · exact putF_w (allF_w h d st i) _
    · exact allF_w h d st i
theorem allF_yes {n : Nat} {f : Nat → Int} {d : Nat} {st : Int} {i : Nat} (h : f (d + 1 + i) / 4294967296 = st) : allF n f d st (i + 1) = putF n (allF n f d st i) (f (d + 1 + i)) := by
  simp only [allF]; rw [if_pos h]
theorem allF_no {n : Nat} {f : Nat → Int} {d : Nat} {st : Int} {i : Nat} (h : ¬ f (d + 1 + i) / 4294967296 = st) : allF n f d st (i + 1) = allF n f d st i := by
  simp only [allF]; rw [if_neg h]
def gD (n : Nat) (f : Nat → Int) : Int := dk (gS n f) (gP n f) (gL n f) (f 2)
def IsDone (n : Nat) (f : Nat → Int) : Prop := gd n f = true ∧ DoneP f (gS n f) (gD n f)
def endF (n : Nat) (f : Nat → Int) : Nat → Int := fun j => if j = 2 then pack (doorV 0 0 0) (f 2 / 4294967296 + 1) else allF n f (gD n f).toNat (f 2 / 4294967296) (lo32 (f (gD n f).toNat)).toNat j
def DnQ (n : Nat) (f g : Nat → Int) : Prop := (IsDone n f ∧ g = endF n f) ∨ (¬ IsDone n f ∧ g = f)
theorem dnq_one {n : Nat} {f g g' : Nat → Int} (h : DnQ n f g) (h' : DnQ n f g') : g = g' := by
  rcases h with ⟨h, rfl⟩ | ⟨h, rfl⟩ <;> rcases h' with ⟨h', rfl⟩ | ⟨h', rfl⟩
  · rfl
  · exact absurd h h'
  · exact absurd h' h
  · rfl
theorem gd_ok {n : Nat} {f : Nat → Int} (h : gd n f = true) : okB (gS n f) (gP n f) (gL n f) = true ∧ (n : Int) = 7 + gS n f * 23 + gP n f * 17 := by
  have h' : 0 < n ∧ f 0 / 4294967296 = 201115 ∧ (n : Int) = size (cS (f 0)) (cP (f 0)) (cL (f 0)) := of_decide_eq_true h
  have e1 : gS n f = cS (f 0) := by unfold gS; rw [if_pos h]
  have e2 : gP n f = cP (f 0) := by unfold gP; rw [if_pos h]
  have e3 : gL n f = cL (f 0) := by unfold gL; rw [if_pos h]
  rw [e1, e2, e3]
  have h3 := h'.2.2
  unfold size at h3
  split at h3
  · rename_i ok
    exact ⟨ok, h3⟩
  · omega

set_option maxHeartbeats 4000000 in
theorem done_any (a : Option Addr) (n cap : Nat) (f : Nat → Int) (w : World) (h : Sl .u64 w a n f) (hn : n ≤ 1000000000) (hcap : n ≤ cap) (hw : W64 f) :
    Calls Tryz.prog 40 #[.slice a n cap] w fun e w' => ∃ g, e = .returned (.slice (some ⟨w.heap.size, 0, none⟩) n n) ∧ DnQ n f g ∧ Fk .u64 n w' w.heap.size g ∧ Below w.heap.size w w' ∧ w.heap.size < w'.heap.size := by
  have HW : Hid (W64 f) := hw
  have HS : Hid (Sl .u64 w a n f) := h
  go_enter Tryz.func40, Tryz.ntmps40
  go_wp2_with (fail)
  refine (copy_any a n cap f w h hn).mono ?_
  rintro e w1 ⟨rfl, f1, B1, z1⟩
  clear h hw
  go_wp2_with (fail)
  refine (check_all a n cap f w1 (HS.out.later B1) hn (fun j _ => HW.out j)).mono ?_
  rintro e w2 ⟨rfl, B2⟩
  have f2 := f1.later B2
  have C2 := B1.trans (B2.mono (by omega))
  have z2 := B2.size
  clear B2 f1 B1
  by_cases hg : gd n f = true
  case neg =>
    have hg' : gd n f = false := by simpa using hg
    have ND : Hid (¬ IsDone n f) := fun g => hg g.1
    rw [hg']
    clear hg hg'
    have HF : Hid (Fk .u64 n w2 w.heap.size f) := f2
    clear f2
    go_wp2_with (fail)
    go_ret
    exact ⟨f, rfl, .inr ⟨ND.out, rfl⟩, HF.out.later (below1 _ _), C2.alloc (by omega) _, by simp; omega⟩
  obtain ⟨ok, en⟩ := gd_ok hg
  rw [hg]
  have HD0 : Hid (∀ q, q ↔ DoneP f (gS n f) (gD n f)) ∨ True := .inr trivial
  clear HD0
  by_cases hd : DoneP f (gS n f) (gD n f)
  case neg =>
    have ND : Hid (¬ IsDone n f) := fun g => hd g.2
    rcases HS.out with h0 | ⟨b, off, rfl, hc⟩
    · obtain ⟨k1, k2, k3, k4, _, _⟩ := okB_of ok
      omega
    have hb : b < w.heap.size := World.block_lt_of_cell? w _ (hc 0 (by obtain ⟨k1, k2, k3, k4, _, _⟩ := okB_of ok; omega))
    have HC : Hid (∀ j, j < n → w.cell? ⟨b, off + j, none⟩ = some (.int .u64 (f j))) := hc
    have HD : Hid (¬ DoneP f (gS n f) (dk (gS n f) (gP n f) (gL n f) (f 2))) := hd
    have OK : Hid (okB (gS n f) (gP n f) (gL n f) = true) := ok
    have EN : Hid ((n : Int) = 7 + gS n f * 23 + gP n f * 17) := en
    have HF : Hid (Fk .u64 n w2 w.heap.size f) := f2
    clear hc hd hg ok en f2
    generalize gS n f = s, gP n f = p, gL n f = l at *
    have b3 := below1 w2 (.cells #[.int .i64 s, .int .i64 p, .int .i64 l] 62)
    have C3 := C2.trans (b3.mono (by omega))
    have F3 : Hid (Fk .u64 n _ w.heap.size f) := HF.out.later b3
    have z3 : w2.heap.size < (w2.alloc (.cells #[.int .i64 s, .int .i64 p, .int .i64 l] 62)).heap.size := by simp
    go_wp2_with (fail)
    generalize w2.alloc (.cells #[.int .i64 s, .int .i64 p, .int .i64 l] 62) = w3 at b3 C3 F3 z3 ⊢
    refine (desk_no b off n cap f s p l w3 (fun j hj => (C3.cell (p := ⟨b, off + j, none⟩) hb).trans (HC.out j hj)) (by omega) OK.out EN.out hcap HW.out HD.out).mono ?_
    rintro e w4 ⟨rfl, B4⟩
    have F4 : Hid (Fk .u64 n w4 w.heap.size f) := F3.out.later B4
    have C4 := C3.trans (B4.mono (by omega))
    have z4 := B4.size
    clear B4 C3 F3 b3 C2 HF
    go_wp2_with (fail)
    go_ret
    exact ⟨f, rfl, .inr ⟨ND.out, rfl⟩, F4.out, C4, by omega⟩
  have ID : Hid (IsDone n f) := ⟨hg, hd⟩
  obtain ⟨d, ed, d3, d21⟩ := dk_bd ok hd.sl
  have eD : (gD n f).toNat = d := by unfold gD; rw [ed]; rfl
  obtain ⟨m, em⟩ := Int.eq_ofNat_of_zero_le (lo32_lo (f d))
  have sm : f d / 4294967296 = f 2 / 4294967296 := by have := hd.sm; rwa [eD] at this
  have m20 : m ≤ 20 := by have := hd.mn; rw [eD, em] at this; omega
  have EE : Hid (endF n f = fun j => if j = 2 then pack (doorV 0 0 0) (f 2 / 4294967296 + 1) else allF n f d (f 2 / 4294967296) m j) := by unfold Hid endF; rw [eD, em]; rfl
  have hs2 := hd.st
  rcases HS.out with h0 | ⟨b, off, rfl, hc⟩
  · obtain ⟨k1, k2, k3, k4, _, _⟩ := okB_of ok
    omega
  have hb : b < w.heap.size := World.block_lt_of_cell? w _ (hc 0 (by obtain ⟨k1, k2, k3, k4, _, _⟩ := okB_of ok; omega))
  have HC : Hid (∀ j, j < n → w.cell? ⟨b, off + j, none⟩ = some (.int .u64 (f j))) := hc
  have OK : Hid (okB (gS n f) (gP n f) (gL n f) = true) := ok
  have EN : Hid ((n : Int) = 7 + gS n f * 23 + gP n f * 17) := en
  have ED : Hid (dk (gS n f) (gP n f) (gL n f) (f 2) = d) := ed
  have EM : Hid (lo32 (f d) = m) := em
  have SM : Hid (f d / 4294967296 = f 2 / 4294967296) := sm
  have S2 : Hid (lo32 (f 2) % 4 = 2) := hs2
  have HF : Hid (Fk .u64 n w2 w.heap.size f) := f2
  have dn : d + 21 ≤ n := by omega
  have n2 : 2 < n := by omega
  clear hc hd hg ok en f2 ed em sm hs2 eD d21
  generalize gS n f = s, gP n f = p, gL n f = l at *
  have b3 := below1 w2 (.cells #[.int .i64 s, .int .i64 p, .int .i64 l] 62)
  have C3 := C2.trans (b3.mono (by omega))
  have F3 : Hid (Fk .u64 n _ w.heap.size f) := HF.out.later b3
  have z3 : w2.heap.size < (w2.alloc (.cells #[.int .i64 s, .int .i64 p, .int .i64 l] 62)).heap.size := by simp
  go_wp2_with (fail)
  generalize w2.alloc (.cells #[.int .i64 s, .int .i64 p, .int .i64 l] 62) = w3 at b3 C3 F3 z3 ⊢
  refine (desk_ok b off n cap f s p l w3 (fun j hj => (C3.cell (p := ⟨b, off + j, none⟩) hb).trans (HC.out j hj)) (by omega) OK.out EN.out hcap HW.out S2.out d ED.out d3 dn SM.out m EM.out m20).mono ?_
  rintro e w4 ⟨⟨c, rfl⟩, B4⟩
  have F4 : Hid (Fk .u64 n w4 w.heap.size f) := F3.out.later B4
  have C4 := C3.trans (B4.mono (by omega))
  have z4 := B4.size
  have c2 : w4.cell? ⟨b, off + 2, none⟩ = some (.int .u64 (f 2)) := (C4.cell (p := ⟨b, off + 2, none⟩) hb).trans (HC.out 2 n2)
  obtain ⟨x0, x1⟩ := HW.out 2
  have n2i : (2 : Int) < n := by omega
  clear B4 C3 F3 b3 C2 HF
  go_wp2_with (go_at_call 75; refine (st_any (f 2) w4 x0 x1).mono ?_; rintro e w4 ⟨rfl, rfl⟩)
  have st0 : 0 ≤ f 2 / 4294967296 := by omega
  have st1 : f 2 / 4294967296 ≤ 4294967295 := by omega
  clear c2 x0 x1
  generalize hst : f 2 / 4294967296 = st at *
  clear hst
  go_loopw [36] (fun i wr => ∃ k : Nat, k ≤ m ∧ i = .int .i64 k ∧ Fk .u64 n wr w.heap.size (allF n f d st k) ∧ Below w.heap.size w wr ∧ w.heap.size < wr.heap.size) (fun i _ => m - (intOf i).toNat)
  case atStart => exact ⟨0, by omega, rfl, F4.out, C4, by omega⟩
  case round =>
    obtain ⟨k, hk, rfl, fk, C5, z5⟩ := hrel
    have FK : Hid (Fk .u64 n wr w.heap.size (allF n f d st k)) := fk
    clear F4 C4 z4 fk
    by_cases lt : (k : Int) < m
    · have ltn : k < m := by omega
      have ck : wr.cell? ⟨b, off + (d + 1) + k, none⟩ = some (.int .u64 (f (d + 1 + k))) := by
        rw [show off + (d + 1) + k = off + (d + 1 + k) by omega]
        exact (C5.cell (p := ⟨b, off + (d + 1 + k), none⟩) hb).trans (HC.out (d + 1 + k) (by omega))
      obtain ⟨y0, y1⟩ := HW.out (d + 1 + k)
      by_cases eq : f (d + 1 + k) / 4294967296 = st
      · have FN : Hid (allF n f d st (k + 1) = putF n (allF n f d st k) (f (d + 1 + k))) := allF_yes eq
        have eqb : (f (d + 1 + k) / 4294967296 == st) = true := by simpa using eq
        clear eq
        go_wp2_with (go_at_call 75; refine (st_any (f (d + 1 + k)) wr y0 y1).mono ?_; rintro e wr ⟨rfl, rfl⟩)
        refine (carry_any w.heap.size n n (allF n f d st k) (f (d + 1 + k)) wr FK.out z5 hn (allF_w HW.out d st k) y0 y1).mono ?_
        rintro e w5 ⟨rfl, f5, B5⟩
        have F5 : Hid (Fk .u64 n w5 w.heap.size (allF n f d st (k + 1))) := by unfold Hid; rw [FN.out]; exact f5
        have C6 := C5.trans B5
        have z6 := B5.size
        clear f5 B5 FN eqb ck
        go_wp2_with (fail)
        go_roundw
        case rel => exact ⟨k + 1, by omega, by go_num, F5.out, C6, by omega⟩
        case measure => simp [intOf]; omega
      · have FN : Hid (allF n f d st (k + 1) = allF n f d st k) := allF_no eq
        have eqb : (f (d + 1 + k) / 4294967296 == st) = false := by simpa using eq
        have F5 : Hid (Fk .u64 n wr w.heap.size (allF n f d st (k + 1))) := by unfold Hid; rw [FN.out]; exact FK.out
        clear FN FK
        go_wp2_with (go_at_call 75; refine (st_any (f (d + 1 + k)) wr y0 y1).mono ?_; rintro e wr ⟨rfl, rfl⟩)
        go_roundw
        case rel => exact ⟨k + 1, by omega, by go_num, F5.out, C5, z5⟩
        case measure => simp [intOf]; omega
    · have ek : k = m := by omega
      subst ek
      have cc := FK.out 2 n2
      go_wp2_with (go_at_call 77; refine (door_any 0 0 0 (st + 1) wr).mono ?_; rintro e wr ⟨rfl, rfl⟩)
      go_ret
      refine ⟨endF n f, rfl, .inl ⟨ID.out, rfl⟩, ?_, C5.setCell (Nat.le_refl _) _, by simpa [World.setCell] using z5⟩
      rw [EE.out]
      exact FK.out.set 2 _ _ (by simp) (fun j _ hne => by simp [hne])

open Words Aid
set_option maxHeartbeats 8000000 in
theorem sdesk_any (s p l n : Int) (w : World) :
    Calls Tryz.prog 55 #[.agg #[.int .i64 s, .int .i64 p, .int .i64 l], .int .i64 n] w fun e w' => e = .returned (.int .i64 (addr s p l s 21 (3 + s + s + 4 + p + p * 8 + p * 8) n)) ∧ Below w.heap.size w w' := by
  by_cases h : okB s p l = true
  · have hk := okB_of h
    go_enter Tryz.func55, Tryz.ntmps55
    go_wp2_with (fail)
    go_region_with (first | (go_at_call 80; refine (sHouse_ok s p l _ hk).mono ?_; rintro e w' ⟨rfl, rfl⟩) | (go_at_call 93; refine (sAt_ok s p l _ n _ _ _ h (by omega) (by omega) (by omega) (by omega) (by omega) (by omega)).mono ?_; rintro e w' ⟨rfl, rfl⟩))
    all_goals go_wp2_with (fail)
    all_goals go_ret
    all_goals exact ⟨ret_int (by unfold addr; rw [if_pos h]; all_goals (congr 1 <;> omega)), by repeat (first | exact Below.refl _ _ | refine Below.alloc ?_ (by simp <;> omega) _ | apply Below.drew)⟩
  · have h' : okB s p l = false := by simpa using h
    go_enter Tryz.func55, Tryz.ntmps55
    go_wp2_with (fail)
    go_region_with (first | (go_at_call 80; refine (sHouse_any s p l _).mono ?_; rintro e w' ⟨⟨x, rfl⟩, rfl⟩) | (go_at_call 93; refine (sAt_bad s p l _ n _ _ _ h').mono ?_; rintro e w' ⟨rfl, rfl⟩))
    all_goals go_wp2_with (fail)
    all_goals go_ret
    all_goals exact ⟨ret_int (by unfold addr; rw [if_neg h]), by repeat (first | exact Below.refl _ _ | refine Below.alloc ?_ (by simp <;> omega) _ | apply Below.drew)⟩

end Go.Proofs.YtgfbfgiohmdjmaaGreat.Plat

import Derived.Test.YtgfbfgiohmdjmaaGreatM27
import Derived.Test.YtgfbfgiohmdjmaaGreatCb14
import Derived.Test.YtgfbfgiohmdjmaaGreatM6
import Derived.Test.YtgfbfgiohmdjmaaGreatM13

/- What is done is carried out, by the specification. Conditions: at most 1,000,000,000 words, each of 64 bits. -/
namespace Go.Proofs.YtgfbfgiohmdjmaaGreat.Plat
open Go.ChangeShapes Go.WideShapes Go.ChangeAt Go.RowKit
open Words Aid Lst
set_option maxRecDepth 100000
set_option linter.unusedVariables false

theorem allF_yes' {n : Nat} {f : Nat → Int} {d : Nat} {st : Int} {j : Nat} (hj : 1 ≤ j) (h : f (d + j) / 4294967296 = st) : allF n f d st j = putF n (allF n f d st (j - 1)) (f (d + j)) := by
  obtain ⟨k, rfl⟩ : ∃ k, j = k + 1 := ⟨j - 1, by omega⟩
  have e : d + (k + 1) = d + 1 + k := by omega
  rw [e] at h ⊢
  exact allF_yes h
theorem allF_no' {n : Nat} {f : Nat → Int} {d : Nat} {st : Int} {j : Nat} (hj : 1 ≤ j) (h : ¬ f (d + j) / 4294967296 = st) : allF n f d st j = allF n f d st (j - 1) := by
  obtain ⟨k, rfl⟩ : ∃ k, j = k + 1 := ⟨j - 1, by omega⟩
  have e : d + (k + 1) = d + 1 + k := by omega
  rw [e] at h
  exact allF_no h

set_option maxHeartbeats 8000000 in
theorem sdone_any (b off n cap : Nat) (f : Nat → Int) (w : World) (h : ∀ j, j < n → w.cell? ⟨b, off + j, none⟩ = some (.int .u64 (f j))) (hb : 0 < n → b < w.heap.size) (hn : n ≤ 1000000000) (hw : W64 f) :
    Calls Tryz.prog 35 #[.slice (some ⟨b, off, none⟩) n cap] w fun e w' => ∃ g q c, w.heap.size ≤ q ∧ q < w'.heap.size ∧ e = .returned (.slice (some ⟨q, 0, none⟩) n c) ∧ DnQ n f g ∧ Fk .u64 n w' q g ∧ Below w.heap.size w w' := by
  obtain ⟨i0, hi0, hz0, hz1, hz2⟩ := info_parts infoUint64
  have HW : Hid (W64 f) := hw
  have HC : Hid (∀ j, j < n → w.cell? ⟨b, off + j, none⟩ = some (.int .u64 (f j))) := h
  clear h hw
  go_enter Tryz.func35, Tryz.ntmps35
  go_wp2_with (fail)
  refine (scheck_all _ n cap f w (.inr ⟨b, off, rfl, HC.out⟩) (fun j _ => HW.out j)).mono ?_
  rintro e w1 ⟨rfl, B1⟩
  generalize hS : gS n f = s
  generalize hP : gP n f = p
  generalize hL : gL n f = l
  have GS : Hid (gS n f = s) := hS
  have GP : Hid (gP n f = p) := hP
  have GL : Hid (gL n f = l) := hL
  clear hS hP hL
  have z1 := B1.size
  have b2 := below1 w1 (.cells #[.int .i64 s, .int .i64 p, .int .i64 l] 62)
  have r2 := range_lit (ints [s, p, l]).toArray (heap1_0 w1 (.cells #[.int .i64 s, .int .i64 p, .int .i64 l] 62))
  have z2 : w1.heap.size + 1 ≤ (w1.alloc (.cells #[.int .i64 s, .int .i64 p, .int .i64 l] 62)).heap.size := by simp
  have C2 := B1.trans (b2.mono z1)
  have OB : Hid (∀ V : World, Below w.heap.size w V → ∀ j u, (rowOf n f)[j]? = some u → V.cell? ((⟨b, off, none⟩ : Addr).add j) = some u) := fun V hV j u hu => by
    obtain ⟨hj, rfl⟩ := rowOf_lt hu
    rw [Addr.add_mid]
    exact (hV.cell (p := ⟨b, off + j, none⟩) (hb (by omega))).trans (HC.out j hj)
  have HR : Hid (World.rangeAt _ _ _ _) := r2
  have HB : Hid (Below w.heap.size w _) := C2
  clear B1 b2 r2 C2
  have OO : Hid ((((w1.alloc (.cells #[.int .i64 s, .int .i64 p, .int .i64 l] 62))).alloc (.cells #[] 58)).ownsRow (w1.heap.size + 1) 58 1 (.slice (some ⟨w1.heap.size + 1, 0, none⟩) 0 0) 0 []) := ⟨rfl, .inr ⟨w1.heap.size + 1, 0, #[], rfl, Nat.le_refl _, heap2_1 w1 _ _, Nat.le_refl _, Nat.zero_le _, rfl, rfl⟩⟩
  have B3 : Hid (Below w.heap.size w (((w1.alloc (.cells #[.int .i64 s, .int .i64 p, .int .i64 l] 62))).alloc (.cells #[] 58))) := HB.out.alloc (by omega) _
  have R3 : Hid ((((w1.alloc (.cells #[.int .i64 s, .int .i64 p, .int .i64 l] 62))).alloc (.cells #[] 58)).rangeAt w1.heap.size 0 (ints [s, p, l])) := range_below (below1 _ _) HR.out (by simp)
  have z3 : w1.heap.size + 2 ≤ (((w1.alloc (.cells #[.int .i64 s, .int .i64 p, .int .i64 l] 62))).alloc (.cells #[] 58)).heap.size := by simp
  clear HR HB z2
  go_wp2_with (refine wpList_append_own _ rfl _ _ 22 rfl (w1.heap.size + 1) 58 i0 (.int .u64 0) 1 8 Tryz.underlying22 hi0 hz0 hz1 hz2 rfl (by decide) _ 0 [] rfl OO.out ⟨b, off, none⟩ n _ (rowOf n f) rfl (by rw [rowOf_len]; omega) (OB.out _ B3.out) (rowOf_one n f) (by unfold maxLen; omega) (by omega) (by omega) ?_)
  intro v w4 hown hgrow hiff
  obtain ⟨q, c, rfl, hbq, hqs, f4⟩ := own_fk hown hiff
  have C4 : Below w.heap.size w w4 := B3.out.grown hgrow (by omega) (fun k hk => by simp [Value.ownBlock] at hk; omega)
  have r4 : w4.rangeAt w1.heap.size 0 (ints [s, p, l]) := fun j u hu => by
    refine hgrow.cell (R3.out j u hu) ?_
    simp [Value.ownBlock]
  have z4 := hgrow.size
  have hq1 : w1.heap.size < q := by omega
  clear hown hgrow hiff OO B3 R3 OB hi0 hz0 hz1 hz2
  have zq : w.heap.size ≤ q := by omega
  have l1 : w1.heap.size < w4.heap.size := by omega
  clear z3 z4
  have HF : Hid (Fk .u64 n w4 q f) := f4
  have HR : Hid (w4.rangeAt w1.heap.size 0 (ints [s, p, l])) := r4
  clear f4 r4
  by_cases hg : gd n f = true
  case neg =>
    have hg' : gd n f = false := by simpa using hg
    have ND : Hid (¬ IsDone n f) := fun g => hg g.1
    rw [hg']
    clear hg hg'
    go_wp2_with (fail)
    go_ret
    exact ⟨f, q, c, zq, hqs, rfl, .inr ⟨ND.out, rfl⟩, HF.out, C4⟩
  obtain ⟨ok, en⟩ := gd_ok hg
  rw [GS.out, GP.out, GL.out] at ok
  rw [GS.out, GP.out] at en
  rw [hg]
  obtain ⟨k1, k2, k3, k4, k5, k6⟩ := okB_of ok
  have n2 : 2 < n := by omega
  have n2i : (2 : Int) < n := by omega
  have hb' : b < w.heap.size := hb (by omega)
  have c2 : w4.cell? ⟨b, off + 2, none⟩ = some (.int .u64 (f 2)) := (C4.cell (p := ⟨b, off + 2, none⟩) hb').trans (HC.out 2 n2)
  obtain ⟨x0, x1⟩ := HW.out 2
  have r0 := at0 HR.out 0 (v := .int .i64 s) rfl
  have r1 := at0 HR.out 1 (v := .int .i64 p) rfl
  have r2 := at0 HR.out 2 (v := .int .i64 l) rfl
  have NG : Hid (IsDone n f ↔ DoneP f s (dk s p l (f 2))) := by
    unfold Hid IsDone gD
    rw [GS.out, GP.out, GL.out]
    exact ⟨fun g => g.2, fun g => ⟨hg, g⟩⟩
  have EN : Hid ((n : Int) = 7 + s * 23 + p * 17) := en
  have OK : Hid (okB s p l = true) := ok
  clear hg en ok
  by_cases h1 : lo32 (f 2) % 4 = 2
  case neg =>
    have h1b : (lo32 (f 2) % 4 != 2) = true := by simpa using h1
    have ND : Hid (¬ IsDone n f) := fun g => h1 (NG.out.1 g).st
    clear h1
    go_wp2_with (go_at_call 54; refine (sdoorOf_any (f 2) w4 x0 x1).mono ?_; rintro e w4 ⟨rfl, rfl⟩)
    go_ret
    exact ⟨f, q, c, zq, hqs, rfl, .inr ⟨ND.out, rfl⟩, HF.out, C4⟩
  have h1b : (lo32 (f 2) % 4 != 2) = false := by simp [h1]
  have H1 : Hid (lo32 (f 2) % 4 = 2) := h1
  clear h1
  by_cases h2 : lo32 (f 2) / 4 % 8 < s
  case neg =>
    have h2b : decide (s ≤ lo32 (f 2) / 4 % 8) = true := by simp; omega
    have h2c : s ≤ lo32 (f 2) / 4 % 8 := by omega
    have ND : Hid (¬ IsDone n f) := fun g => h2 (NG.out.1 g).sl
    clear h2
    go_wp2_with (go_at_call 54; refine (sdoorOf_any (f 2) w4 x0 x1).mono ?_; rintro e w4 ⟨rfl, rfl⟩)
    go_ret
    exact ⟨f, q, c, zq, hqs, rfl, .inr ⟨ND.out, rfl⟩, HF.out, C4⟩
  have h2c : ¬ s ≤ lo32 (f 2) / 4 % 8 := by omega
  have h2b : decide (s ≤ lo32 (f 2) / 4 % 8) = false := by simp; omega
  obtain ⟨d, ed, d3, d21⟩ := dk_bd OK.out (x := f 2) h2
  have ED : Hid (dk s p l (f 2) = d) := ed
  have H2 : Hid (sl8 (f 2) < s) := h2
  have dn : d + 21 ≤ n := by have := EN.out; omega
  clear h2 ed d21
  go_wp2_with (go_at_call 54; refine (sdoorOf_any (f 2) w4 x0 x1).mono ?_; rintro e w4 ⟨rfl, rfl⟩)
  refine (sdesk_any s p l (lo32 (f 2) / 4 % 8) w4).mono ?_
  rintro e w5 ⟨rfl, B5⟩
  have eA : addr s p l s 21 (3 + s + s + 4 + p + p * 8 + p * 8) (lo32 (f 2) / 4 % 8) = d := ED.out
  rw [eA]
  have F5 : Hid (Fk .u64 n w5 q f) := HF.out.later B5
  have C5 := C4.trans (B5.mono (by omega))
  have z5 := B5.size
  have cd : w5.cell? ⟨b, off + d, none⟩ = some (.int .u64 (f d)) := (C5.cell (p := ⟨b, off + d, none⟩) hb').trans (HC.out d (by omega))
  obtain ⟨y0, y1⟩ := HW.out d
  have hdn : d < n := by omega
  have hdi : (d : Int) < n := by omega
  have d300 : (d : Int) ≤ 300 := by have := EN.out; omega
  have d300' : d ≤ 300 := by omega
  clear B5 C4 HF HR r0 r1 r2 c2 eA h1b h2b h2c
  have ed2 : (dk s p l (f 2)).toNat = d := by rw [ED.out]; rfl
  have E2 : Hid ((dk s p l (f 2)).toNat = d) := ed2
  clear ed2
  by_cases h3 : f d / 4294967296 = f 2 / 4294967296
  case neg =>
    have h3b : (f d / 4294967296 != f 2 / 4294967296) = true := by simpa using h3
    have ND : Hid (¬ IsDone n f) := fun g => h3 (by have := (NG.out.1 g).sm; rwa [E2.out] at this)
    clear h3
    go_wp2_with (first | (go_at_call 42; refine (sval_any (f d) w5 y0 y1).mono ?_; rintro e w5 ⟨rfl, rfl⟩) | (go_at_call 56; refine (sst_any _ w5 ?_ ?_).mono ?_; (assumption); (assumption); rintro e w5 ⟨rfl, rfl⟩))
    go_ret
    exact ⟨f, q, c, zq, by omega, rfl, .inr ⟨ND.out, rfl⟩, F5.out, C5⟩
  have h3b : (f d / 4294967296 != f 2 / 4294967296) = false := by simp [h3]
  have H3 : Hid (f d / 4294967296 = f 2 / 4294967296) := h3
  clear h3
  by_cases h4 : lo32 (f d) ≤ 20
  case neg =>
    have h4b : decide (20 < lo32 (f d)) = true := by simp; omega
    have h4c : 20 < lo32 (f d) := by omega
    have ND : Hid (¬ IsDone n f) := fun g => h4 (by have := (NG.out.1 g).mn; rwa [E2.out] at this)
    clear h4
    go_wp2_with (first | (go_at_call 42; refine (sval_any (f d) w5 y0 y1).mono ?_; rintro e w5 ⟨rfl, rfl⟩) | (go_at_call 56; refine (sst_any _ w5 ?_ ?_).mono ?_; (assumption); (assumption); rintro e w5 ⟨rfl, rfl⟩))
    go_ret
    exact ⟨f, q, c, zq, by omega, rfl, .inr ⟨ND.out, rfl⟩, F5.out, C5⟩
  have h4c : ¬ 20 < lo32 (f d) := by omega
  have h4b : decide (20 < lo32 (f d)) = false := by simp; omega
  obtain ⟨m, em⟩ := Int.eq_ofNat_of_zero_le (lo32_lo (f d))
  have EM : Hid (lo32 (f d) = m) := em
  have m20 : m ≤ 20 := by omega
  have ID : Hid (IsDone n f) := NG.out.2 ⟨H1.out, H2.out, by rw [E2.out]; exact H3.out, by rw [E2.out]; exact h4⟩
  have EE : Hid (endF n f = fun j => if j = 2 then pack (doorV 0 0 0) (f 2 / 4294967296 + 1) else allF n f d (f 2 / 4294967296) m j) := by
    unfold Hid endF gD
    rw [GS.out, GP.out, GL.out, E2.out, EM.out]
    rfl
  clear em h4
  go_wp2_with (first | (go_at_call 42; refine (sval_any (f d) w5 y0 y1).mono ?_; rintro e w5 ⟨rfl, rfl⟩; rw [EM.out]) | (go_at_call 56; refine (sst_any _ w5 ?_ ?_).mono ?_; (assumption); (assumption); rintro e w5 ⟨rfl, rfl⟩))
  have st0 : 0 ≤ f 2 / 4294967296 := by omega
  have st1 : f 2 / 4294967296 ≤ 4294967295 := by omega
  go_loopw [5, 12] (fun v i wr => ∃ j : Nat, 1 ≤ j ∧ j ≤ m + 1 ∧ i = .int .i64 j ∧ v = .slice (some ⟨q, 0, none⟩) n c ∧ Fk .u64 n wr q (allF n f d (f 2 / 4294967296) (j - 1)) ∧ Below w.heap.size w wr ∧ q < wr.heap.size) (fun _ i _ => m + 1 - (intOf i).toNat)
  case atStart => exact ⟨1, by omega, by omega, rfl, rfl, F5.out, C5, by omega⟩
  case round =>
    obtain ⟨j, j1, j2, rfl, rfl, fk, C6, z6⟩ := hrel
    have FK : Hid (Fk .u64 n wr q (allF n f d (f 2 / 4294967296) (j - 1))) := fk
    clear F5 C5 z5 fk cd h3b h4c h4b
    by_cases lt : (j : Int) ≤ m
    · have ltn : j ≤ m := by omega
      have ck : wr.cell? ⟨b, off + (d + j), none⟩ = some (.int .u64 (f (d + j))) := (C6.cell (p := ⟨b, off + (d + j), none⟩) hb').trans (HC.out (d + j) (by omega))
      obtain ⟨y2, y3⟩ := HW.out (d + j)
      have dj : d + j < n := by omega
      have dji : (d : Int) + j < n := by omega
      by_cases eq : f (d + j) / 4294967296 = f 2 / 4294967296
      · have FN : Hid (allF n f d (f 2 / 4294967296) j = putF n (allF n f d (f 2 / 4294967296) (j - 1)) (f (d + j))) := allF_yes' j1 eq
        have eqb : (f (d + j) / 4294967296 == f 2 / 4294967296) = true := by simpa using eq
        clear eq
        go_wp2_with (first | (go_at_call 56; refine (sst_any (f (d + j)) wr y2 y3).mono ?_; rintro e wr ⟨rfl, rfl⟩) | (go_at_call 56; refine (sst_any (f 2) wr x0 x1).mono ?_; rintro e wr ⟨rfl, rfl⟩))
        refine (sput_any q n c (allF n f d (f 2 / 4294967296) (j - 1)) (f (d + j)) wr FK.out z6 hn (allF_w HW.out d _ _) y2 y3).mono ?_
        rintro e w7 ⟨rfl, f7, B7⟩
        have F7 : Hid (Fk .u64 n w7 q (allF n f d (f 2 / 4294967296) (j + 1 - 1))) := by unfold Hid; rw [Nat.add_sub_cancel, FN.out]; exact f7
        have C7 := C6.trans (B7.mono zq)
        have z7 := B7.size
        clear f7 B7 FN eqb ck
        go_wp2_with (fail)
        go_roundw
        case rel => exact ⟨j + 1, by omega, by omega, by go_num, rfl, F7.out, C7, by omega⟩
        case measure => simp [intOf]; omega
      · have FN : Hid (allF n f d (f 2 / 4294967296) j = allF n f d (f 2 / 4294967296) (j - 1)) := allF_no' j1 eq
        have eqb : (f (d + j) / 4294967296 == f 2 / 4294967296) = false := by simpa using eq
        have F7 : Hid (Fk .u64 n wr q (allF n f d (f 2 / 4294967296) (j + 1 - 1))) := by unfold Hid; rw [Nat.add_sub_cancel, FN.out]; exact FK.out
        clear FN FK
        go_wp2_with (first | (go_at_call 56; refine (sst_any (f (d + j)) wr y2 y3).mono ?_; rintro e wr ⟨rfl, rfl⟩) | (go_at_call 56; refine (sst_any (f 2) wr x0 x1).mono ?_; rintro e wr ⟨rfl, rfl⟩))
        go_roundw
        case rel => exact ⟨j + 1, by omega, by omega, by go_num, rfl, F7.out, C6, z6⟩
        case measure => simp [intOf]; omega
    · have ek : j - 1 = m := by omega
      have ltb : ¬ (j : Int) ≤ m := lt
      have ltn : ¬ j ≤ m := by omega
      have FM : Hid (Fk .u64 n wr q (allF n f d (f 2 / 4294967296) m)) := by unfold Hid; rw [← ek]; exact FK.out
      have cc := FM.out 2 n2
      clear ek FK lt
      go_wp2_with (first | (go_at_call 56; refine (sst_any (f 2) wr x0 x1).mono ?_; rintro e wr ⟨rfl, rfl⟩) | (go_at_call 58; refine (sdoor_any 0 0 0 (f 2 / 4294967296 + 1) wr).mono ?_; rintro e wr ⟨rfl, rfl⟩))
      go_ret
      refine ⟨endF n f, q, c, zq, by simpa [World.setCell] using z6, rfl, .inl ⟨ID.out, rfl⟩, ?_, C6.setCell zq _⟩
      rw [EE.out]
      exact FM.out.set 2 _ _ (by simp) (fun j _ hne => by simp [hne])

end Go.Proofs.YtgfbfgiohmdjmaaGreat.Plat
/- The book that words stand for, with what is done carried out: CensTrue of both. Conditions: at most 1,000,000,000 words, each of 64 bits. -/
namespace Go.Proofs.YtgfbfgiohmdjmaaGreat.Book
open Go.ChangeShapes Go.WideShapes Go.ChangeAt Go.RowKit
open Aid Lst Words
open Plat (W64 gd DnQ dnq_one IsDone endF allF allF_w)
set_option maxRecDepth 100000
set_option linter.unusedVariables false

theorem dnq_w {n : Nat} {f g : Nat → Int} (h : DnQ n f g) (hw : W64 f) : W64 g := by
  rcases h with ⟨_, rfl⟩ | ⟨_, rfl⟩
  · intro j
    unfold endF
    split
    · exact ⟨pack_lo _ _, pack_hi _ _⟩
    · exact allF_w hw _ _ _ j
  · exact hw
def CtQ (n : Nat) (f : Nat → Int) (c : Bx) (r : Bool) : Prop := (gd n f = true ∧ ∃ g, DnQ n f g ∧ CbQ n g c r) ∨ (gd n f = false ∧ r = false ∧ c.m = noneM)
theorem ctq_one {n : Nat} {f : Nat → Int} {c d : Bx} {r q : Bool} (h : CtQ n f c r) (g : CtQ n f d q) : c.m = d.m ∧ r = q := by
  rcases h with ⟨h, g1, d1, c1⟩ | ⟨h, rfl, h2⟩ <;> rcases g with ⟨g, g2, d2, c2⟩ | ⟨g, rfl, g3⟩
  · rw [dnq_one d2 d1] at c2
    exact cbq_one c1 c2
  · rw [h] at g; cases g
  · rw [h] at g; cases g
  · exact ⟨h2.trans g3.symm, rfl⟩
/- The answer: a book of its own, and whether it is one. -/
def CtA (n : Nat) (f : Nat → Int) (w w' : World) (e : Ending) : Prop := ∃ (c : Bx) (r : Bool), e = .returned (.tuple #[.agg c.cells.toArray, .bool r]) ∧ CtQ n f c r ∧ c.Own w.heap.size w'.heap.size w' ∧ Below w.heap.size w w'
theorem CtA.mk {n : Nat} {f : Nat → Int} {w w' : World} {e : Ending} (c : Bx) (r : Bool) (he : e = .returned (.tuple #[.agg c.cells.toArray, .bool r])) (hq : CtQ n f c r) (ho : c.Own w.heap.size w'.heap.size w') (hb : Below w.heap.size w w') : CtA n f w w' e := ⟨c, r, he, hq, ho, hb⟩

set_option maxHeartbeats 4000000 in
theorem ctrue_any (a : Option Addr) (n cap : Nat) (f : Nat → Int) (w : World) (h : Sl .u64 w a n f) (hn : n ≤ 1000000000) (hcap : n ≤ cap) (hw : W64 f) :
    Calls Tryz.prog 20 #[.slice a n cap] w fun e w' => CtA n f w w' e := by
  have HW : Hid (W64 f) := hw
  have HSL : Hid (Sl .u64 w a n f) := h
  clear h
  have T0 : Hid (Ck (w.alloc (.cells #[.int .i64 0, .slice none 0 0, .slice none 0 0, .slice none 0 0, .slice none 0 0, .slice none 0 0, .slice none 0 0, .slice none 0 0, .slice none 0 0] 30)) w.heap.size Z9) := ck_lit #[.int .i64 0, .slice none 0 0, .slice none 0 0, .slice none 0 0, .slice none 0 0, .slice none 0 0, .slice none 0 0, .slice none 0 0, .slice none 0 0] (heap1_0 w _)
  have B0 : Hid (Below w.heap.size w (w.alloc (.cells #[.int .i64 0, .slice none 0 0, .slice none 0 0, .slice none 0 0, .slice none 0 0, .slice none 0 0, .slice none 0 0, .slice none 0 0, .slice none 0 0] 30))) := below1 _ _
  have z0 : w.heap.size < (w.alloc (.cells #[.int .i64 0, .slice none 0 0, .slice none 0 0, .slice none 0 0, .slice none 0 0, .slice none 0 0, .slice none 0 0, .slice none 0 0, .slice none 0 0] 30)).heap.size := by simp
  clear hw
  go_enter Tryz.func20, Tryz.ntmps20
  go_wp2_with (fail)
  generalize w.alloc (.cells #[.int .i64 0, .slice none 0 0, .slice none 0 0, .slice none 0 0, .slice none 0 0, .slice none 0 0, .slice none 0 0, .slice none 0 0, .slice none 0 0] 30) = W0 at T0 B0 z0 ⊢
  refine (Plat.check_all a n cap f W0 (HSL.out.later B0.out) hn (fun j _ => HW.out j)).mono ?_
  rintro e W1 ⟨rfl, hb⟩
  have T1 : Hid (Ck W1 w.heap.size Z9) := T0.out.below hb z0
  have B1 : Hid (Below w.heap.size w W1) := B0.out.trans (hb.mono B0.out.size)
  have z1 : w.heap.size < W1.heap.size := Nat.lt_of_lt_of_le z0 hb.size
  clear hb T0 B0 z0
  cases hk : gd n f
  · have NO : Hid (gd n f = false) := hk
    clear hk
    obtain ⟨w9, e9, ck9, ow9, be9⟩ := ans0 T1.out B1.out z1 (none_own W1.heap.size W1.heap.size _) z1 (Nat.le_refl _)
    simp only [noneB] at e9
    have tk0 := T1.out 0 _ rfl
    have tk1 := T1.out 1 _ rfl
    have tk2 := T1.out 2 _ rfl
    have tk3 := T1.out 3 _ rfl
    have tk4 := T1.out 4 _ rfl
    have tk5 := T1.out 5 _ rfl
    have tk6 := T1.out 6 _ rfl
    have tk7 := T1.out 7 _ rfl
    have tk8 := T1.out 8 _ rfl
    have HE : Hid (w9 = _) := e9
    clear e9
    go_wp2_with (fail)
    rw [← HE.out]
    have bb := below1 w9 (.cells #[.int .i64 (Plat.gS n f), .int .i64 (Plat.gP n f), .int .i64 (Plat.gL n f)] 62)
    have lt9 : w.heap.size < w9.heap.size := ck9.lt
    exact bodyPost_ret (Plat.results_cell_tmp_mid rfl _ _ w.heap.size 0 _ _ rfl (ck9.below bb lt9).range Tryz.underlying30 rfl (by kernel_rfl)) rfl (CtA.mk noneB false rfl (.inr ⟨NO.out, rfl, rfl⟩) ((ow9.later bb).mono (Nat.le_refl _) bb.size) (be9.trans (bb.mono be9.size)))
  have YES : Hid (gd n f = true) := hk
  clear hk
  have b1 := below1 W1 (.cells #[.int .i64 (Plat.gS n f), .int .i64 (Plat.gP n f), .int .i64 (Plat.gL n f)] 62)
  have T1' : Hid (Ck (W1.alloc (.cells #[.int .i64 (Plat.gS n f), .int .i64 (Plat.gP n f), .int .i64 (Plat.gL n f)] 62)) w.heap.size Z9) := T1.out.below b1 z1
  have B1' : Hid (Below w.heap.size w (W1.alloc (.cells #[.int .i64 (Plat.gS n f), .int .i64 (Plat.gP n f), .int .i64 (Plat.gL n f)] 62))) := B1.out.trans (b1.mono B1.out.size)
  have z1' : w.heap.size < (W1.alloc (.cells #[.int .i64 (Plat.gS n f), .int .i64 (Plat.gP n f), .int .i64 (Plat.gL n f)] 62)).heap.size := Nat.lt_of_lt_of_le z1 b1.size
  clear T1 B1 z1 b1
  go_wp2_with (fail)
  generalize W1.alloc (.cells #[.int .i64 (Plat.gS n f), .int .i64 (Plat.gP n f), .int .i64 (Plat.gL n f)] 62) = W1' at T1' B1' z1' ⊢
  obtain ⟨W1, hW1⟩ : ∃ x, x = W1' := ⟨W1', rfl⟩
  subst hW1
  have T1 := T1'
  have B1 := B1'
  have z1 := z1'
  clear T1' B1' z1'
  refine (Plat.done_any a n cap f W1 (HSL.out.later B1.out) hn hcap HW.out).mono ?_
  rintro e W2 ⟨g, rfl, dq, fk, hb, z2⟩
  have DQ : Hid (DnQ n f g) := dq
  have GW : Hid (W64 g) := dnq_w dq HW.out
  have FK : Hid (Fk .u64 n W2 W1.heap.size g) := fk
  have T2 : Hid (Ck W2 w.heap.size Z9) := T1.out.below hb z1
  have B2 : Hid (Below w.heap.size w W2) := B1.out.trans (hb.mono B1.out.size)
  have y2 : w.heap.size < W2.heap.size := Nat.lt_of_lt_of_le z1 hb.size
  clear dq fk hb T1
  go_wp2_with (fail)
  refine (cbook_any (some ⟨W1.heap.size, 0, none⟩) n n g W2 FK.out.sl hn GW.out).mono ?_
  rintro e W3 ⟨c, r, rfl, cq, co, hb⟩
  have T3 := T2.out.below hb y2
  have B3 : Below w.heap.size w W3 := B2.out.trans (hb.mono B2.out.size)
  have y3 := hb.size
  obtain ⟨w9, e9, ck9, ow9, be9⟩ := ans0 T3 B3 (by omega) co (by omega) (Nat.le_refl _)
  have CQ : Hid (CbQ n g c r) := cq
  have tk0 := T3 0 _ rfl
  have tk1 := T3 1 _ rfl
  have tk2 := T3 2 _ rfl
  have tk3 := T3 3 _ rfl
  have tk4 := T3 4 _ rfl
  have tk5 := T3 5 _ rfl
  have tk6 := T3 6 _ rfl
  have tk7 := T3 7 _ rfl
  have tk8 := T3 8 _ rfl
  have HE : Hid (w9 = _) := e9
  clear e9 T3 B3 co cq hb
  simp only [Bx.cells]
  go_wp2_with (fail)
  rw [← HE.out]
  exact bodyPost_ret (Plat.results_cell_tmp_mid rfl _ _ w.heap.size 0 _ _ rfl ck9.range Tryz.underlying30 rfl (by kernel_rfl)) rfl (CtA.mk c r rfl (.inl ⟨YES.out, g, DQ.out, CQ.out⟩) ow9 be9)

set_option maxHeartbeats 4000000 in
theorem sctrue_any (b off n cap : Nat) (f : Nat → Int) (w : World) (h : ∀ j, j < n → w.cell? ⟨b, off + j, none⟩ = some (.int .u64 (f j))) (hb : 0 < n → b < w.heap.size) (hn : n ≤ 1000000000) (hw : W64 f) :
    Calls Tryz.prog 16 #[.slice (some ⟨b, off, none⟩) n cap] w fun e w' => CtA n f w w' e := by
  have HW : Hid (W64 f) := hw
  have HC : Hid (∀ j, j < n → w.cell? ⟨b, off + j, none⟩ = some (.int .u64 (f j))) := h
  have HBL : Hid (0 < n → b < w.heap.size) := hb
  have HSL : Hid (Sl .u64 w (some ⟨b, off, none⟩) n f) := .inr ⟨b, off, rfl, h⟩
  clear h hb
  have T0 : Hid (Ck (w.alloc (.cells #[.int .i64 0, .slice none 0 0, .slice none 0 0, .slice none 0 0, .slice none 0 0, .slice none 0 0, .slice none 0 0, .slice none 0 0, .slice none 0 0] 30)) w.heap.size Z9) := ck_lit #[.int .i64 0, .slice none 0 0, .slice none 0 0, .slice none 0 0, .slice none 0 0, .slice none 0 0, .slice none 0 0, .slice none 0 0, .slice none 0 0] (heap1_0 w _)
  have B0 : Hid (Below w.heap.size w (w.alloc (.cells #[.int .i64 0, .slice none 0 0, .slice none 0 0, .slice none 0 0, .slice none 0 0, .slice none 0 0, .slice none 0 0, .slice none 0 0, .slice none 0 0] 30))) := below1 _ _
  have z0 : w.heap.size < (w.alloc (.cells #[.int .i64 0, .slice none 0 0, .slice none 0 0, .slice none 0 0, .slice none 0 0, .slice none 0 0, .slice none 0 0, .slice none 0 0, .slice none 0 0] 30)).heap.size := by simp
  clear hw
  go_enter Tryz.func16, Tryz.ntmps16
  go_wp2_with (fail)
  generalize w.alloc (.cells #[.int .i64 0, .slice none 0 0, .slice none 0 0, .slice none 0 0, .slice none 0 0, .slice none 0 0, .slice none 0 0, .slice none 0 0, .slice none 0 0] 30) = W0 at T0 B0 z0 ⊢
  refine (Plat.scheck_all (some ⟨b, off, none⟩) n cap f W0 (HSL.out.later B0.out) (fun j _ => HW.out j)).mono ?_
  rintro e W1 ⟨rfl, hb⟩
  have T1 : Hid (Ck W1 w.heap.size Z9) := T0.out.below hb z0
  have B1 : Hid (Below w.heap.size w W1) := B0.out.trans (hb.mono B0.out.size)
  have z1 : w.heap.size < W1.heap.size := Nat.lt_of_lt_of_le z0 hb.size
  clear hb T0 B0 z0
  cases hk : gd n f
  · have NO : Hid (gd n f = false) := hk
    clear hk
    obtain ⟨w9, e9, ck9, ow9, be9⟩ := ans0 T1.out B1.out z1 (none_own W1.heap.size W1.heap.size _) z1 (Nat.le_refl _)
    simp only [noneB] at e9
    have tk0 := T1.out 0 _ rfl
    have tk1 := T1.out 1 _ rfl
    have tk2 := T1.out 2 _ rfl
    have tk3 := T1.out 3 _ rfl
    have tk4 := T1.out 4 _ rfl
    have tk5 := T1.out 5 _ rfl
    have tk6 := T1.out 6 _ rfl
    have tk7 := T1.out 7 _ rfl
    have tk8 := T1.out 8 _ rfl
    have HE : Hid (w9 = _) := e9
    clear e9
    go_wp2_with (fail)
    rw [← HE.out]
    have bb := below1 w9 (.cells #[.int .i64 (Plat.gS n f), .int .i64 (Plat.gP n f), .int .i64 (Plat.gL n f)] 62)
    have lt9 : w.heap.size < w9.heap.size := ck9.lt
    exact bodyPost_ret (Plat.results_cell_tmp_mid rfl _ _ w.heap.size 0 _ _ rfl (ck9.below bb lt9).range Tryz.underlying30 rfl (by kernel_rfl)) rfl (CtA.mk noneB false rfl (.inr ⟨NO.out, rfl, rfl⟩) ((ow9.later bb).mono (Nat.le_refl _) bb.size) (be9.trans (bb.mono be9.size)))
  have YES : Hid (gd n f = true) := hk
  clear hk
  have b1 := below1 W1 (.cells #[.int .i64 (Plat.gS n f), .int .i64 (Plat.gP n f), .int .i64 (Plat.gL n f)] 62)
  have T1' : Hid (Ck (W1.alloc (.cells #[.int .i64 (Plat.gS n f), .int .i64 (Plat.gP n f), .int .i64 (Plat.gL n f)] 62)) w.heap.size Z9) := T1.out.below b1 z1
  have B1' : Hid (Below w.heap.size w (W1.alloc (.cells #[.int .i64 (Plat.gS n f), .int .i64 (Plat.gP n f), .int .i64 (Plat.gL n f)] 62))) := B1.out.trans (b1.mono B1.out.size)
  have z1' : w.heap.size < (W1.alloc (.cells #[.int .i64 (Plat.gS n f), .int .i64 (Plat.gP n f), .int .i64 (Plat.gL n f)] 62)).heap.size := Nat.lt_of_lt_of_le z1 b1.size
  clear T1 B1 z1 b1
  go_wp2_with (fail)
  generalize W1.alloc (.cells #[.int .i64 (Plat.gS n f), .int .i64 (Plat.gP n f), .int .i64 (Plat.gL n f)] 62) = W1' at T1' B1' z1' ⊢
  obtain ⟨W1, hW1⟩ : ∃ x, x = W1' := ⟨W1', rfl⟩
  subst hW1
  have T1 := T1'
  have B1 := B1'
  have z1 := z1'
  clear T1' B1' z1'
  refine (Plat.sdone_any b off n cap f W1 (fun j hj => by have q := HC.out j hj; rw [B1.out.cell (p := ⟨b, off + j, none⟩) (World.block_lt_of_cell? w _ q)]; exact q) (fun q => Nat.lt_of_lt_of_le (HBL.out q) B1.out.size) hn HW.out).mono ?_
  rintro e W2 ⟨g, k, cp, g0, g1, rfl, dq, fk, hb⟩
  have DQ : Hid (DnQ n f g) := dq
  have GW : Hid (W64 g) := dnq_w dq HW.out
  have FK : Hid (Fk .u64 n W2 k g) := fk
  have T2 : Hid (Ck W2 w.heap.size Z9) := T1.out.below hb z1
  have B2 : Hid (Below w.heap.size w W2) := B1.out.trans (hb.mono B1.out.size)
  have y2 : w.heap.size < W2.heap.size := Nat.lt_of_lt_of_le z1 hb.size
  clear dq fk hb T1
  go_wp2_with (fail)
  refine (scbook_any (some ⟨k, 0, none⟩) n cp g W2 FK.out.sl hn GW.out).mono ?_
  rintro e W3 ⟨c, r, rfl, cq, co, hb⟩
  have T3 := T2.out.below hb y2
  have B3 : Below w.heap.size w W3 := B2.out.trans (hb.mono B2.out.size)
  have y3 := hb.size
  obtain ⟨w9, e9, ck9, ow9, be9⟩ := ans0 T3 B3 (by omega) co (by omega) (Nat.le_refl _)
  have CQ : Hid (CbQ n g c r) := cq
  have tk0 := T3 0 _ rfl
  have tk1 := T3 1 _ rfl
  have tk2 := T3 2 _ rfl
  have tk3 := T3 3 _ rfl
  have tk4 := T3 4 _ rfl
  have tk5 := T3 5 _ rfl
  have tk6 := T3 6 _ rfl
  have tk7 := T3 7 _ rfl
  have tk8 := T3 8 _ rfl
  have HE : Hid (w9 = _) := e9
  clear e9 T3 B3 co cq hb
  simp only [Bx.cells]
  go_wp2_with (fail)
  rw [← HE.out]
  exact bodyPost_ret (Plat.results_cell_tmp_mid rfl _ _ w.heap.size 0 _ _ rfl ck9.range Tryz.underlying30 rfl (by kernel_rfl)) rfl (CtA.mk c r rfl (.inl ⟨YES.out, g, DQ.out, CQ.out⟩) ow9 be9)

open Plat (W64 okB_of)
theorem cbq_total {n : Nat} {f : Nat → Int} {c : Bx} {r : Bool} (h : CbQ n f c r) : c.total ≤ 1000 := by
  rcases h with ⟨_, S, P, l, hs, hr, _⟩ | ⟨_, h, _⟩
  · obtain ⟨k1, k2, k3, k4, k5, k6⟩ := okB_of hs.2.2.1
    exact rd_total hr (by omega) (by omega)
  · simp only [noneM, none1, Bx.m, Bm.mk.injEq, Sx.m, Prod.mk.injEq] at h
    obtain ⟨_, ⟨h1, _⟩, ⟨h2, _⟩, ⟨h3, _⟩, ⟨h4, _⟩, ⟨h5, _⟩, ⟨h6, _⟩, ⟨h7, _⟩, ⟨h8, _⟩⟩ := h
    simp only [Bx.total]
    omega
theorem St.drewN {w0 w : World} {rs : List (Nat × List Value)} {bs : List Bx} (h : St w0 rs bs w) (q : Nat) : St w0 rs bs (w.drewN q) := ⟨h.r, h.a, ⟨h.b.os, h.b.tape, h.b.output, h.b.size, h.b.block⟩⟩
theorem St.onlyN {w0 w w1 : World} {rs : List (Nat × List Value)} {B C : Nat} (h : St w0 rs [] w) (ho : Only B C w w1) (hr : ∀ p ∈ rs, p.1 < B ∨ C ≤ p.1) (hB : w0.heap.size ≤ B) : St w0 rs [] w1 :=
  ⟨fun p hp => ⟨fun j x hx => by rw [ho.cell (h.r p hp).2 (hr p hp)]; exact (h.r p hp).1 j x hx, Nat.lt_of_lt_of_le (h.r p hp).2 ho.size⟩, by simp, h.b.trans ⟨ho.os, ho.tape, ho.output, ho.size, fun k hk => ho.block k (Nat.lt_of_lt_of_le hk h.b.size) (.inl (by omega))⟩⟩

theorem ctq_total {n : Nat} {f : Nat → Int} {c : Bx} {r : Bool} (h : CtQ n f c r) : c.total ≤ 1000 := by
  rcases h with ⟨_, g, _, h⟩ | ⟨_, _, h⟩
  · exact cbq_total h
  · simp only [noneM, none1, Bx.m, Bm.mk.injEq, Sx.m, Prod.mk.injEq] at h
    obtain ⟨_, ⟨h1, _⟩, ⟨h2, _⟩, ⟨h3, _⟩, ⟨h4, _⟩, ⟨h5, _⟩, ⟨h6, _⟩, ⟨h7, _⟩, ⟨h8, _⟩⟩ := h
    simp only [Bx.total]
    omega

end Go.Proofs.YtgfbfgiohmdjmaaGreat.Book

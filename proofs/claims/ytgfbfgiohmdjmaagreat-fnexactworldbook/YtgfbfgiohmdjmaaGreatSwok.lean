/- WorldOk of the specification. Conditions: at most 1,000,000,000 words. -/
import Derived.Test.YtgfbfgiohmdjmaaGreatM11
namespace Go.Proofs.YtgfbfgiohmdjmaaGreat.Gs
open Go.ChangeShapes Go.WideShapes Go.ChangeAt Go.RowKit
open Aid Lst Plat
open Book (Ck ck_lit Sx takeB)
set_option maxRecDepth 100000
set_option linter.unusedVariables false

/- .. and a guest of it. -/
structure Ls (w0 : World) (x : Wx) (s p l : Int) (C : Nat) (b o : Nat) (cs : List Value) (w : World) : Prop where
  l : Lw w0 x s p l C w
  r : w.rangeAt b o cs
  q : w.cell? ⟨w0.heap.size, 1, none⟩ = some (.slice x.a x.n x.c)
theorem Lw.drew {w0 w : World} {x : Wx} {s p l : Int} {C : Nat} (h : Lw w0 x s p l C w) : Lw w0 x s p l C w.drew := ⟨h.b, h.c, ⟨h.z.os, h.z.tape, h.z.output, h.z.size, h.z.block⟩, h.lb, h.lc⟩

set_option maxHeartbeats 4000000 in
theorem swok_any (x : Wx) (w : World) (h : x.At w) (hw : Words64 x.ws) :
    Calls Tryz.prog 15 #[.agg x.cells.toArray] w fun e w' => e = .returned (.bool (boolOf (Wok x))) ∧ Below w.heap.size w w' := by
  have R : Hid (World.rangeAt _ w.heap.size 0 x.cells) := range_lit x.cells.toArray (heap1_0 w (.cells x.cells.toArray 35))
  have B : Hid (Below w.heap.size w (w.alloc (.cells x.cells.toArray 35))) := below1 w _
  have Z : Hid (w.heap.size + 1 ≤ (w.alloc (.cells x.cells.toArray 35)).heap.size) := by show _ ≤ _; simp
  have HA : Hid (x.At w) := h
  have HW : Hid (Words64 x.ws) := hw
  clear h hw
  go_enter Tryz.func15, Tryz.ntmps15
  go_wp2_with (with_reducible refine halt_at (.fieldAddr 35 (.tmp 1) 0) rfl ?_)
  unfold Hid
  generalize w.alloc (.cells x.cells.toArray 35) = W at R B Z ⊢
  go_wp2_with (refine rg_load R.out rfl 22 _ rfl _ rfl _ rfl (by kernel_rfl) ?_)
  refine (scheck_all _ _ _ _ _ (HA.out.ws.later B.out) HW.out.2).mono ?_
  rintro e w1 ⟨rfl, hb⟩
  have L : Hid (Lw w x (gS x.ws.n x.ws.f) (gP x.ws.n x.ws.f) (gL x.ws.n x.ws.f) w1.heap.size ((w1.alloc (.cells #[.int .i64 0, .int .i64 0, .int .i64 0] 62)).setCells w1.heap.size 0 (ints [gS x.ws.n x.ws.f, gP x.ws.n x.ws.f, gL x.ws.n x.ws.f]))) := by
    have z := Z.out
    have t := there_lit #[.int .i64 0, .int .i64 0, .int .i64 0] (heap1_0 w1 (.cells #[.int .i64 0, .int .i64 0, .int .i64 0] 62))
    have hz := hb.size
    have b2 : Below w1.heap.size w1 ((w1.alloc (.cells #[.int .i64 0, .int .i64 0, .int .i64 0] 62)).setCells w1.heap.size 0 (ints [gS x.ws.n x.ws.f, gP x.ws.n x.ws.f, gL x.ws.n x.ws.f])) := below_setCells (below1 w1 _) (Nat.le_refl _) _ _
    have hz2 := b2.size
    have hz3 := setCells_size w1.heap.size (ints [gS x.ws.n x.ws.f, gP x.ws.n x.ws.f, gL x.ws.n x.ws.f]) 0 (w1.alloc (.cells #[.int .i64 0, .int .i64 0, .int .i64 0] 62))
    have hz4 : (w1.alloc (.cells #[.int .i64 0, .int .i64 0, .int .i64 0] 62)).heap.size = w1.heap.size + 1 := by simp
    exact ⟨range_below b2 (range_below hb R.out (by omega)) (by omega), World.rangeAt_setCells_same _ _ _ _ t, (B.out.trans (hb.mono (by omega))).trans (b2.mono (by omega)), by omega, by omega⟩
  have T : Hid ((w1.alloc (.cells #[.int .i64 0, .int .i64 0, .int .i64 0] 62)).there w1.heap.size 0 3) := there_lit #[.int .i64 0, .int .i64 0, .int .i64 0] (heap1_0 w1 (.cells #[.int .i64 0, .int .i64 0, .int .i64 0] 62))
  clear hb R B Z
  go_wp2_with (with_reducible refine halt_at (.store 62 (.tmp 3) (.tmp 10)) rfl ?_)
  unfold Hid
  refine wpList_store_mid rfl 62 _ _ rfl w1.heap.size 0 (ints [gS x.ws.n x.ws.f, gP x.ws.n x.ws.f, gL x.ws.n x.ws.f]).toArray rfl rfl T.out (by kernel_rfl) (ints_one _) ?_
  rw [show (ints [gS x.ws.n x.ws.f, gP x.ws.n x.ws.f, gL x.ws.n x.ws.f]).toArray.toList = ints [gS x.ws.n x.ws.f, gP x.ws.n x.ws.f, gL x.ws.n x.ws.f] from rfl]
  generalize (w1.alloc (.cells #[.int .i64 0, .int .i64 0, .int .i64 0] 62)).setCells w1.heap.size 0 (ints [gS x.ws.n x.ws.f, gP x.ws.n x.ws.f, gL x.ws.n x.ws.f]) = V at L ⊢
  clear T
  have c1 := at0 L.out.b 1 (v := .slice x.a x.n x.c) rfl
  cases hg : gd x.ws.n x.ws.f
  · have HN : Hid (¬ Wok x) := fun h => by have := h.1; rw [hg] at this; cases this
    clear hg
    go_wp2_with (fail)
    go_ret
    exact ⟨ret_bool (boolOf_f HN.out), L.out.z⟩
  have HG : Hid (gd x.ws.n x.ws.f = true) := hg
  clear hg
  by_cases h6 : (6 : Int) < x.n
  · have HN : Hid (¬ Wok x) := fun h => by have := h.2.1; omega
    go_wp2_with (fail)
    go_ret
    exact ⟨ret_bool (boolOf_f HN.out), L.out.z⟩
  go_wp2_with (fail)
  clear c1
  go_loopw [5] (fun i wr => ∃ (k : Nat), k ≤ x.n ∧ i = .int .i64 k ∧ Lw w x (gS x.ws.n x.ws.f) (gP x.ws.n x.ws.f) (gL x.ws.n x.ws.f) w1.heap.size wr ∧ (∀ j, j < k → Gok (gS x.ws.n x.ws.f) (gP x.ws.n x.ws.f) (gL x.ws.n x.ws.f) (x.g j))) (fun i _ => x.n - (intOf i).toNat)
  case atStart => exact ⟨0, by omega, rfl, L.out, fun j hj => by omega⟩
  case round =>
    obtain ⟨k, hk, rfl, hL, hJ⟩ := hrel
    have HJ : Hid (∀ j, j < k → Gok (gS x.ws.n x.ws.f) (gP x.ws.n x.ws.f) (gL x.ws.n x.ws.f) (x.g j)) := hJ
    clear hJ L
    have c1 := at0 hL.b 1 (v := .slice x.a x.n x.c) rfl
    by_cases hlt : (k : Int) < x.n
    · have hR := HA.out.row
      rcases hR with h1 | ⟨b1, o1, e1, h1⟩
      · omega
      have l1 := World.block_lt_of_cell? w _ (h1 k (by omega) 0 _ rfl)
      have HS0 : Hid (Ls w x (gS x.ws.n x.ws.f) (gP x.ws.n x.ws.f) (gL x.ws.n x.ws.f) w1.heap.size b1 (o1 + k * 26) (x.g k).cells wr) := ⟨hL, range_below hL.z (h1 k (by omega)) l1, c1⟩
      have tk : ¬ (x.n : Int) ≤ k := by omega
      clear hL h1 l1
      rw [e1] at c1
      have E1 : Hid (x.a = some ⟨b1, o1, none⟩) := e1
      clear e1
      go_wp2_with (fail)
      refine wp_region_held_drew (S := Ls w x (gS x.ws.n x.ws.f) (gP x.ws.n x.ws.f) (gL x.ws.n x.ws.f) w1.heap.size b1 (o1 + k * 26) (x.g k).cells) (by kernel_rfl) ⟨HS0.out.l.drew, HS0.out.r, HS0.out.q⟩ (fun hS => ?_)
      clear HS0 c1
      generalize wr.drew = v at hS ⊢
      refine tB 0 (v := .agg (ints [gS x.ws.n x.ws.f, gP x.ws.n x.ws.f, gL x.ws.n x.ws.f]).toArray) (d := some 27) rfl rfl (yieldsIf_load_mid (by rfl) 62 _ rfl w1.heap.size 0 rfl (ints [gS x.ws.n x.ws.f, gP x.ws.n x.ws.f, gL x.ws.n x.ws.f]) _ (fun w' hw => hw.l.c) Tryz.underlying62 rfl (by kernel_rfl)) hS ?_
      try simp only [Act.put, s1, s2, s3]
      refine tI 1 (v := .pointer (some ⟨w.heap.size, 1, none⟩)) (d := some 28) rfl rfl (fun w' hw => ?_) hS ?_
      · clear hw; go_simp
      try simp only [Act.put, s1, s2, s3]
      refine tI 2 (v := .slice (some ⟨b1, o1, none⟩) x.n x.c) (d := some 29) rfl rfl (fun w' hw => ?_) hS ?_
      · have c1 := hw.q; rw [E1.out] at c1; clear hw; go_simp
      try simp only [Act.put, s1, s2, s3]
      refine tI 3 (v := .int .i64 k) (d := some 30) rfl rfl (fun w' hw => ?_) hS ?_
      · clear hw; go_simp
      try simp only [Act.put, s1, s2, s3]
      refine tI 4 (v := .pointer (some ⟨b1, o1 + k * 26, none⟩)) (d := some 31) rfl rfl (fun w' hw => ?_) hS ?_
      · clear hw; go_simp
      try simp only [Act.put, s1, s2, s3]
      refine tB 5 (v := .agg (x.g k).cells.toArray) (d := some 32) rfl rfl (yieldsIf_load_mid (by rfl) 68 _ rfl b1 (o1 + k * 26) rfl (x.g k).cells _ (fun w' hw => hw.r) Tryz.underlying68 rfl (by kernel_rfl)) hS ?_
      try simp only [Act.put, s1, s2, s3]
      refine r1 6 rfl (fun K hK => ?_)
      have HS : Hid (Ls w x (gS x.ws.n x.ws.f) (gP x.ws.n x.ws.f) (gL x.ws.n x.ws.f) w1.heap.size b1 (o1 + k * 26) (x.g k).cells v) := hS
      clear hS
      go_simp
      refine (sgok_any (gS x.ws.n x.ws.f) (gP x.ws.n x.ws.f) (gL x.ws.n x.ws.f) (x.g k) v).mono ?_
      rintro e w2 ⟨rfl, hb⟩
      have l1 := World.block_lt_of_cell? v _ (HS.out.r 0 _ rfl)
      have L3 : Hid (Lw w x (gS x.ws.n x.ws.f) (gP x.ws.n x.ws.f) (gL x.ws.n x.ws.f) w1.heap.size w2) := HS.out.l.later hb
      refine hK.out _ _ ⟨HS.out.l.later hb, range_below hb HS.out.r l1, (HS.out.l.later hb).b 1 _ rfl⟩ (fun hS => ?_)
      clear hK K HS hb l1
      by_cases hG : Gok (gS x.ws.n x.ws.f) (gP x.ws.n x.ws.f) (gL x.ws.n x.ws.f) (x.g k)
      · rw [← boolOf_t hG]
        have HJ2 : Hid (∀ j, j < k + 1 → Gok (gS x.ws.n x.ws.f) (gP x.ws.n x.ws.f) (gL x.ws.n x.ws.f) (x.g j)) := fun j hj => by
          by_cases e : j = k
          · subst e; exact hG
          · exact HJ.out j (by omega)
        clear hG
        refine tI 7 (v := .bool false) (d := some 34) rfl rfl (fun w' hw => ?_) hS ?_
        · clear hw; go_simp
        try simp only [Act.put, s1, s2, s3]
        refine wpAnyH_done (by kernel_rfl) ?_ _
        clear hS
        go_wp2_with (fail)
        go_roundw
        case rel => exact ⟨k + 1, by omega, by go_num, L3.out, HJ2.out⟩
        case measure => simp [intOf]; omega
      · rw [← boolOf_f hG]
        have HN : Hid (¬ Wok x) := fun h => hG (h.2.2 k (by omega))
        clear hG
        refine tI 7 (v := .bool true) (d := some 34) rfl rfl (fun w' hw => ?_) hS ?_
        · clear hw; go_simp
        try simp only [Act.put, s1, s2, s3]
        refine wpAnyH_done (by kernel_rfl) ?_ _
        clear hS
        go_wp2_with (fail)
        go_ret
        exact ⟨ret_bool (boolOf_f HN.out), L3.out.z⟩
    · obtain rfl : k = x.n := by omega
      have HY : Hid (Wok x) := ⟨HG.out, by omega, HJ.out⟩
      have HL : Hid (Below w.heap.size w wr) := hL.z
      clear hL
      go_wp2_with (fail)
      go_ret
      exact ⟨ret_bool (boolOf_t HY.out), HL.out⟩

set_option maxHeartbeats 1000000 in
/- Two copies of one world are the same. -/
theorem eqworld_of (x : Wx) (b R b' R' : Nat) (B1 B2 B1' B2' : Nat → Nat) (w0 w0' w : World) (h : Wo w0 x b R B1 B2 w) (h' : Wo w0' x b' R' B1' B2' w) (hl : x.Lim) :
    Calls Tryz.prog 9 #[.agg (x.of b R B1 B2).cells.toArray, .agg (x.of b' R' B1' B2').cells.toArray] w fun e w' => e = .returned (.bool true) ∧ Below w.heap.size w w' := by
  have R1 : Hid (World.rangeAt _ w.heap.size 0 (x.of b R B1 B2).cells) := range_lit (x.of b R B1 B2).cells.toArray (heap2_0 w (.cells (x.of b R B1 B2).cells.toArray 35) (.cells (x.of b' R' B1' B2').cells.toArray 35))
  have R2 : Hid (World.rangeAt _ (w.heap.size + 1) 0 (x.of b' R' B1' B2').cells) := range_lit (x.of b' R' B1' B2').cells.toArray (heap2_1 w (.cells (x.of b R B1 B2).cells.toArray 35) (.cells (x.of b' R' B1' B2').cells.toArray 35))
  have B : Hid (Below w.heap.size w _) := below2 w (.cells (x.of b R B1 B2).cells.toArray 35) (.cells (x.of b' R' B1' B2').cells.toArray 35)
  have HA : Hid (Wo w0 x b R B1 B2 w) := h
  have HB : Hid (Wo w0' x b' R' B1' B2' w) := h'
  have HL : Hid x.Lim := hl
  clear h h' hl
  go_enter Tryz.func9, Tryz.ntmps9
  go_wp2_with (with_reducible refine halt_at (.fieldAddr 35 (.tmp 2) 0) rfl ?_)
  unfold Hid
  generalize (w.alloc (.cells (x.of b R B1 B2).cells.toArray 35)).alloc (.cells (x.of b' R' B1' B2').cells.toArray 35) = W at R1 R2 B ⊢
  go_wp2_with (first
    | refine rg_load R1.out rfl 22 _ rfl _ rfl _ rfl (by kernel_rfl) ?_
    | refine rg_load R2.out rfl 22 _ rfl _ rfl _ rfl (by kernel_rfl) ?_)
  refine (eqUint64_any _ _ x.ws.n _ _ _ _ _ (HA.out.at.ws.later B.out) (HB.out.at.ws.later B.out) (fun _ _ => rfl) HL.out.ws).mono ?_
  rintro e w1 ⟨rfl, q, rfl⟩
  have R1 : Hid (World.rangeAt (W.drewN q) w.heap.size 0 (x.of b R B1 B2).cells) := R1.out
  have R2 : Hid (World.rangeAt (W.drewN q) (w.heap.size + 1) 0 (x.of b' R' B1' B2').cells) := R2.out
  have B1x : Hid (Below w.heap.size w (W.drewN q)) := ⟨B.out.os, B.out.tape, B.out.output, B.out.size, B.out.block⟩
  clear B
  generalize W.drewN q = V at R1 R2 B1x ⊢
  go_wp2_with (first
    | refine rg_load R1.out rfl 33 _ rfl _ rfl _ rfl (by kernel_rfl) ?_
    | refine rg_load R2.out rfl 33 _ rfl _ rfl _ rfl (by kernel_rfl) ?_)
  have e : x.n ≤ 10000000 := HL.out.n
  refine (eqguests_at _ _ x.n _ _ (x.of b R B1 B2).g (fun j => ((x.of b' R' B1' B2').g j).snap) (fun j => ((x.of b' R' B1' B2').g j).plan) V (HA.out.at.later B1x.out).row (HB.out.at.later B1x.out).row (fun j hj => ⟨(HA.out.at.later B1x.out).each j hj, ((HB.out.at.later B1x.out).each j hj).1, ((HB.out.at.later B1x.out).each j hj).2, rfl, rfl, fun _ _ => rfl, fun _ _ => rfl, (HL.out.each j hj).1, (HL.out.each j hj).2⟩) e).mono ?_
  rintro e w2 ⟨rfl, hb⟩
  have HZ : Hid (Below w.heap.size w w2) := B1x.out.trans (hb.mono B1x.out.size)
  clear hb
  go_wp2_with (fail)
  go_ret
  exact ⟨rfl, HZ.out⟩

end Go.Proofs.YtgfbfgiohmdjmaaGreat.Gs

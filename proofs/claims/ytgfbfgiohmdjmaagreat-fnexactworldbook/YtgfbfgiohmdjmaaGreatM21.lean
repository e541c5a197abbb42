import Derived.Test.YtgfbfgiohmdjmaaGreatM20

/- CensLay of the program. -/
namespace Go.Proofs.YtgfbfgiohmdjmaaGreat.Book
open Go.ChangeShapes Go.WideShapes Go.ChangeAt Go.RowKit
open Aid Lst
open Plat (okB okB_of layL layL_len layL_get)
set_option maxRecDepth 100000
set_option linter.unusedVariables false

/- Whether a book is one of a house. -/
def FitP (s p l : Int) (b : Bx) : Prop := okB s p l = true ∧ OkP b ∧ b.s = s ∧ (b.p.n : Int) = p
def LayQ (s p l : Int) (b : Bx) (base : Nat) (w' : World) (e : Ending) : Prop :=
  (FitP s p l b ∧ ∃ (S P k : Nat), s = S ∧ p = P ∧ e = .returned (.slice (some ⟨k, 0, none⟩) (3 + S + S + 4 + P + P * 8 + P * 8) (3 + S + S + 4 + P + P * 8 + P * 8)) ∧ base ≤ k ∧ k < w'.heap.size ∧ Fk .i64 (3 + S + S + 4 + P + P * 8 + P * 8) w' k (layF b S P)) ∨
  (¬ FitP s p l b ∧ e = .returned (.slice none 0 0))

/- A house and a book, each in a box. -/
structure HB (w0 : World) (s p l : Int) (b : Bx) (w : World) : Prop where
  c : w.rangeAt w0.heap.size 0 (ints [s, p, l])
  e : BB (w0.heap.size + 1) b w
  b : Below w0.heap.size w0 w
  z : w0.heap.size + 2 ≤ w.heap.size
theorem HB.later {w0 w w1 : World} {s p l : Int} {b : Bx} (h : HB w0 s p l b w) (hb : Below w.heap.size w w1) : HB w0 s p l b w1 :=
  ⟨range_below hb h.c (by have := h.z; omega), h.e.later hb, h.b.trans (hb.mono h.b.size), Nat.le_trans h.z hb.size⟩

theorem HB.drew {w0 w : World} {s p l : Int} {b : Bx} (h : HB w0 s p l b w) : HB w0 s p l b w.drew := ⟨h.c, ⟨h.e.r, h.e.a⟩, ⟨h.b.os, h.b.tape, h.b.output, h.b.size, h.b.block⟩, h.z⟩
theorem HB.only {w0 w w1 : World} {s p l : Int} {b : Bx} {k : Nat} (h : HB w0 s p l b w) (hA : b.At w0) (ho : Only k (k + 1) w w1) (hk : w0.heap.size + 2 ≤ k) : HB w0 s p l b w1 :=
  have hz := h.z
  have hb : Below (w0.heap.size + 2) w w1 := ⟨ho.os, ho.tape, ho.output, ho.size, fun i hi => ho.block i (by omega) (.inl (by omega))⟩
  have hw : Below w0.heap.size w0 w1 := h.b.trans (hb.mono (by omega))
  ⟨range_below hb h.c (by omega), ⟨range_below hb h.e.r (by omega), hA.later hw⟩, hw, Nat.le_trans hz ho.size⟩
theorem away_of {b : Bx} {w : World} {vk : Nat} (h : b.At w) (hv : w.heap.size ≤ vk) : Away b vk := fun x hx k o e hp hk => by
  rcases h x hx with h0 | ⟨k', o', e', hc⟩
  · omega
  · rw [e] at e'
    cases e'
    have := World.block_lt_of_cell? w _ (hc 0 hp)
    simp at this
    omega

set_option maxHeartbeats 16000000 in
theorem lay_any (s p l : Int) (b : Bx) (w : World) (h : b.At w) (hn : b.total ≤ 1000000000) (hcap : b.o.n ≤ b.o.c) :
    Calls Tryz.prog 71 #[.agg #[.int .i64 s, .int .i64 p, .int .i64 l], .agg b.cells.toArray] w fun e w' => LayQ s p l b w.heap.size w' e ∧ Below w.heap.size w w' := by
  have S0 : HB w s p l b ((w.alloc (.cells #[.int .i64 s, .int .i64 p, .int .i64 l] 62)).alloc (.cells #[.int .i64 b.s, .slice b.p.a b.p.n b.p.c, .slice b.h0.a b.h0.n b.h0.c, .slice b.h1.a b.h1.n b.h1.c, .slice b.h2.a b.h2.n b.h2.c, .slice b.h3.a b.h3.n b.h3.c, .slice b.o.a b.o.n b.o.c, .slice b.i.a b.i.n b.i.c, .slice b.e.a b.e.n b.e.c] 30)) := ⟨range_lit (ints [s, p, l]).toArray (heap2_0 w _ _), ⟨range_lit #[.int .i64 b.s, .slice b.p.a b.p.n b.p.c, .slice b.h0.a b.h0.n b.h0.c, .slice b.h1.a b.h1.n b.h1.c, .slice b.h2.a b.h2.n b.h2.c, .slice b.h3.a b.h3.n b.h3.c, .slice b.o.a b.o.n b.o.c, .slice b.i.a b.i.n b.i.c, .slice b.e.a b.e.n b.e.c] (heap2_1 w _ _), h.later (below2 _ _ _)⟩, below2 _ _ _, by simp⟩
  simp only [Bx.cells]
  go_enter Tryz.func71, Tryz.ntmps71
  go_wp2_with (fail)
  generalize (w.alloc (.cells #[.int .i64 s, .int .i64 p, .int .i64 l] 62)).alloc (.cells #[.int .i64 b.s, .slice b.p.a b.p.n b.p.c, .slice b.h0.a b.h0.n b.h0.c, .slice b.h1.a b.h1.n b.h1.c, .slice b.h2.a b.h2.n b.h2.c, .slice b.h3.a b.h3.n b.h3.c, .slice b.o.a b.o.n b.o.c, .slice b.i.a b.i.n b.i.c, .slice b.e.a b.e.n b.e.c] 30) = W at S0 ⊢
  refine (Plat.ok_any s p l W).mono ?_
  rintro e w1 ⟨rfl, hb⟩
  have hS := S0.later hb
  clear hb S0
  by_cases hok : okB s p l = true
  case neg =>
    have hok' : okB s p l = false := by simpa using hok
    have NF : Hid (¬ FitP s p l b) := fun g => hok g.1
    rw [hok']
    clear hok hok'
    go_wp2_with (fail)
    go_ret
    exact ⟨.inr ⟨NF.out, rfl⟩, hS.b⟩
  rw [hok]
  have OKB : Hid (okB s p l = true) := hok
  clear hok
  have HS : Hid (HB w s p l b w1) := hS
  obtain ⟨u0, u1, u2, u3, u4, u5, u6, u7, u8⟩ := nine hS.e.r
  have z1 := hS.z
  clear hS
  go_wp2_with (fail)
  clear u0 u1 u2 u3 u4 u5 u6 u7 u8
  refine (ok_any b w1 HS.out.e.a hn hcap).mono ?_
  rintro e w2 ⟨⟨r, rfl, hr⟩, hb⟩
  have hS := HS.out.later hb
  clear hb HS z1
  cases r
  · have NF : Hid (¬ FitP s p l b) := fun g => hr.f g.2.1
    clear hr
    go_wp2_with (fail)
    go_ret
    exact ⟨.inr ⟨NF.out, rfl⟩, hS.b⟩
  have OKP : Hid (OkP b) := hr.t
  clear hr
  obtain ⟨u0, u1, u2, u3, u4, u5, u6, u7, u8⟩ := nine hS.e.r
  have c0 := at0 hS.c 0 (v := .int .i64 s) rfl
  have c1 := at0 hS.c 1 (v := .int .i64 p) rfl
  have c2 := at0 hS.c 2 (v := .int .i64 l) rfl
  have HS : Hid (HB w s p l b w2) := hS
  have z2 := hS.z
  clear hS
  by_cases e1 : b.s = s
  case neg =>
    have e1b : (b.s != s) = true := by simpa using e1
    have NF : Hid (¬ FitP s p l b) := fun g => e1 g.2.2.1
    clear e1
    go_wp2_with (fail)
    go_ret
    exact ⟨.inr ⟨NF.out, rfl⟩, HS.out.b⟩
  have e1b : (b.s != s) = false := by simp [e1]
  have E1 : Hid (b.s = s) := e1
  clear e1
  by_cases e2 : (b.p.n : Int) = p
  case neg =>
    have e2b : ((b.p.n : Int) != p) = true := by simpa using e2
    have NF : Hid (¬ FitP s p l b) := fun g => e2 g.2.2.2
    clear e2
    go_wp2_with (fail)
    go_ret
    exact ⟨.inr ⟨NF.out, rfl⟩, HS.out.b⟩
  have e2b : ((b.p.n : Int) != p) = false := by simp [e2]
  have E2 : Hid ((b.p.n : Int) = p) := e2
  clear e2
  go_wp2_with (fail)
  clear u0 u1 u2 u3 u4 u5 u6 u7 u8 c0 c1 c2 e1b e2b
  obtain ⟨k1, k2, k3, k4, k5, k6⟩ := okB_of OKB.out
  obtain ⟨S, rfl⟩ := Int.eq_ofNat_of_zero_le (show 0 ≤ s by omega)
  obtain ⟨P, rfl⟩ := Int.eq_ofNat_of_zero_le (show 0 ≤ p by omega)
  refine (Plat.lay_ok S P l w2 OKB.out).mono ?_
  rintro e w3 ⟨rfl, hb⟩
  have hS := HS.out.later hb
  have sz25 : (ints (layL S P)).toArray.size = 25 := by simp [ints, layL]
  have T3 : (w3.alloc (.cells (ints Plat.zeroL).toArray 86)).there w3.heap.size 0 (ints (layL S P)).toArray.size := by
    rw [sz25]; exact there_lit (ints Plat.zeroL).toArray (heap1_0 _ _)
  have b4 : Below w3.heap.size w3 ((w3.alloc (.cells (ints Plat.zeroL).toArray 86)).setCells w3.heap.size 0 (ints (layL S P)).toArray.toList) := below_setCells (below1 _ _) (Nat.le_refl _) _ _
  have r4 : ((w3.alloc (.cells (ints Plat.zeroL).toArray 86)).setCells w3.heap.size 0 (ints (layL S P)).toArray.toList).rangeAt w3.heap.size 0 (ints (layL S P)) := World.rangeAt_setCells_same _ _ _ _ (by simpa using T3)
  have y4 : w3.heap.size < ((w3.alloc (.cells (ints Plat.zeroL).toArray 86)).setCells w3.heap.size 0 (ints (layL S P)).toArray.toList).heap.size := Nat.lt_of_lt_of_le (by simp) (below_setCells (Below.refl (w3.alloc (.cells (ints Plat.zeroL).toArray 86)).heap.size _ |>.mono (by simp)) (Nat.le_refl _) (ints (layL S P)).toArray.toList 0 : Below w3.heap.size _ _).size
  have HT : Hid (World.there _ _ _ _) := T3
  have HS4 : Hid (HB w S P l b _) := hS.later b4
  have HR4 : Hid (World.rangeAt _ _ _ _) := r4
  have HY4 : Hid (_ < _) := y4
  have z3 := hS.z
  clear hb HS z2 hS T3 b4 r4 y4 sz25
  obtain ⟨H, hH⟩ : ∃ H : Nat, H = 3 + S + S + 4 + P + P * 8 + P * 8 := ⟨_, rfl⟩
  have nH : H ≤ 300 := by omega
  have HH : Hid (H = 3 + S + S + 4 + P + P * 8 + P * 8) := hH
  clear hH
  have hmk := fun w => run_make_row' (P := Tryz.prog) 27 3 (.int .i64 0) 8 Tryz.underlying27 infoInt rfl .i64 .i64 H (by omega) (by omega) w
  go_wp2_with (refine wpList_store_mid rfl 86 _ _ rfl _ _ _ rfl rfl HT.out (by kernel_rfl) (ints_one _) ?_; generalize hW : World.setCells _ _ _ _ = W4; replace HS4 : Hid (HB w S P l b W4) := (by rw [← hW]; exact HS4.out); replace HR4 : Hid (W4.rangeAt w3.heap.size 0 (ints (layL S P))) := (by rw [← hW]; exact HR4.out); replace HY4 : Hid (w3.heap.size < W4.heap.size) := (by rw [← hW]; exact HY4.out); clear hW HT; have c23 : W4.cell? ⟨w3.heap.size, 23, none⟩ = some (.int .i64 (H : Int)) := (by rw [HH.out]; have := HR4.out 23 (.int .i64 (Plat.cell2 S P 8 23)) (by rw [ints_get _ _ (by rw [layL_len]; omega), layL_get _ _ _ (by omega)]); exact this))
  clear c23 hmk
  have b5 := below1 W4 (.cells (madeCells #[.int .i64 0] H) 3)
  have f5 : Hid (Fk .i64 H _ W4.heap.size (fun _ => 0)) := fk_made .i64 W4 H 3
  have HS5 : Hid (HB w S P l b _) := HS4.out.later b5
  have HR5 : Hid (World.rangeAt _ w3.heap.size 0 (ints (layL S P))) := range_below b5 HR4.out HY4.out
  have y5 : W4.heap.size < (W4.alloc (.cells (madeCells #[.int .i64 0] H) 3)).heap.size := by simp
  have y4 : w3.heap.size < W4.heap.size := HY4.out
  clear b5 HS4 HR4 HY4
  generalize W4.alloc (.cells (madeCells #[.int .i64 0] H) 3) = W5 at f5 HS5 HR5 y5 ⊢
  obtain ⟨vk, hvk⟩ : ∃ vk, vk = W4.heap.size := ⟨_, rfl⟩
  rw [← hvk] at f5 y5 y4 ⊢
  clear hvk
  have S1 : (fun w' : World => HB w S P l b w' ∧ w'.rangeAt w3.heap.size 0 (ints (layL S P))) W5.drew := ⟨HS5.out.drew, HR5.out⟩
  have f6 : Hid (Fk .i64 H W5.drew vk (fun _ => 0)) := f5.out
  have y6 : vk < W5.drew.heap.size := y5
  clear HS5 HR5 f5 y5
  refine wp_region_held_drew (S := (fun w' : World => HB w S P l b w' ∧ w'.rangeAt w3.heap.size 0 (ints (layL S P)))) (by kernel_rfl) S1 (fun hS => ?_)
  clear S1
  refine tI 0 (v := .agg #[.int .i64 b.s, .slice b.p.a b.p.n b.p.c, .slice b.h0.a b.h0.n b.h0.c, .slice b.h1.a b.h1.n b.h1.c, .slice b.h2.a b.h2.n b.h2.c, .slice b.h3.a b.h3.n b.h3.c, .slice b.o.a b.o.n b.o.c, .slice b.i.a b.i.n b.i.c, .slice b.e.a b.e.n b.e.c]) (d := some 36) rfl rfl (fun w' hw => ?_) (by assumption) ?_
  · obtain ⟨u0, u1, u2, u3, u4, u5, u6, u7, u8⟩ := nine hw.1.e.r; clear hw; go_simp
  simp only [Act.put, s1, s2, s3]
  refine tI 1 (v := .agg #[.int .i64 b.s, .slice b.p.a b.p.n b.p.c, .slice b.h0.a b.h0.n b.h0.c, .slice b.h1.a b.h1.n b.h1.c, .slice b.h2.a b.h2.n b.h2.c, .slice b.h3.a b.h3.n b.h3.c, .slice b.o.a b.o.n b.o.c, .slice b.i.a b.i.n b.i.c, .slice b.e.a b.e.n b.e.c]) (d := some 37) rfl rfl (fun w' hw => ?_) (by assumption) ?_
  · obtain ⟨u0, u1, u2, u3, u4, u5, u6, u7, u8⟩ := nine hw.1.e.r; clear hw; go_simp
  simp only [Act.put, s1, s2, s3]
  refine tI 3 (v := .slice (some ⟨vk, 0, none⟩) H H) (d := some 39) rfl rfl (fun w' hw => ?_) (by assumption) ?_
  · clear hw; go_simp
  simp only [Act.put, s1, s2, s3]
  refine tB 5 (v := .agg (ints (layL S P)).toArray) (d := some 41) rfl rfl (yieldsIf_load_mid (by rfl) 86 _ rfl w3.heap.size 0 rfl (ints (layL S P)) _ (fun w' hw => hw.2) Tryz.underlying86 rfl (by kernel_rfl)) (by assumption) ?_
  simp only [Act.put, s1, s2, s3]
  generalize World.drew _ = V at hS f6 y6 ⊢
  have n48 := OKP.out.nums
  have n3 : b.o.n ≤ 48 := n48.2.2.2.2
  clear n48
  refine r1 2 rfl (fun K hK => ?_)
  have HS : Hid (_ ∧ _) := hS
  clear hS
  go_simp
  refine (links_any b V HS.out.1.e.a n3 (fun k hk => hd_small OKP.out k hk)).mono ?_
  rintro e V1 ⟨rfl, fl, hb, zl⟩
  have S2 : (fun w' : World => HB w S P l b w' ∧ w'.rangeAt w3.heap.size 0 (ints (layL S P))) V1 := ⟨HS.out.1.later hb, range_below hb HS.out.2 (by have := y6; omega)⟩
  have f7 : Hid (Fk .i64 H V1 vk (fun _ => 0)) := f6.out.later hb
  have FL : Hid ((⟨some ⟨V.heap.size + 1, 0, none⟩, b.o.n, b.o.n, lkK b 4⟩ : Sx).At V1) := fl.sl
  have y7 : vk < V.heap.size + 1 := by omega
  have y8 := hb.size
  have SS : Hid (_ ∧ _) := S2
  clear fl hb HS S2 f6
  go_simp
  refine hK.out _ _ SS.out (fun hS => ?_)
  clear hK K SS
  refine r1 4 rfl (fun K hK => ?_)
  have HS : Hid (_ ∧ _) := hS
  clear hS
  go_simp
  refine (writer_any b (⟨some ⟨V.heap.size + 1, 0, none⟩, b.o.n, b.o.n, lkK b 4⟩ : Sx) (some ⟨vk, 0, none⟩) H H V1 HS.out.1.e.a FL.out).mono ?_
  rintro e V2 ⟨l1, l2, l3, rfl, xb, xv, x1, x2, x3, g1, g2, g3, hb⟩
  have S2 : (fun w' : World => HB w S P l b w' ∧ w'.rangeAt w3.heap.size 0 (ints (layL S P))) V2 := ⟨HS.out.1.later hb, range_below hb HS.out.2 (by have := y8; omega)⟩
  have f8 : Hid (Fk .i64 H V2 vk (fun _ => 0)) := f7.out.later hb
  have z8 := hb.size
  have LY : Hid (Lays b (⟨some ⟨V.heap.size + 1, 0, none⟩, b.o.n, b.o.n, lkK b 4⟩ : Sx) S P V1.heap.size (V1.heap.size + 1) vk l1 l2 l3 3 V2) := ⟨⟨by rw [← HH.out]; exact xv, by rw [← HH.out, cut_zero]; exact f8.out⟩, xb, x1, x2, x3⟩
  have AW : Hid (Aways b (⟨some ⟨V.heap.size + 1, 0, none⟩, b.o.n, b.o.n, lkK b 4⟩ : Sx) V1.heap.size (V1.heap.size + 1) vk l1 l2 l3) := ⟨away_of h (by have := HS.out.1.b.size; omega), fun k o e _ => by simp at e; omega, by omega, by omega, by omega, by omega, by omega⟩
  have SS : Hid (_ ∧ _) := S2
  clear xb xv x1 x2 x3 hb HS S2 f7 f8 FL
  go_simp
  refine hK.out _ _ SS.out (fun hS => ?_)
  clear hK K SS
  refine r1 6 rfl (fun K hK => ?_)
  have HS : Hid (_ ∧ _) := hS
  clear hS
  have es : b.s = S := E1.out
  have ep : b.p.n = P := by have := E2.out; omega
  have vis := visit_any (Lays b (⟨some ⟨V.heap.size + 1, 0, none⟩, b.o.n, b.o.n, lkK b 4⟩ : Sx) S P V1.heap.size (V1.heap.size + 1) vk l1 l2 l3) (fun T w w1 h hb => h.later hb) vk (vk + 1) S P 135 136 134 134 134 _ _ _ _ _ (by omega) (by omega) (fun _ _ => by kernel_rfl) (fun _ _ => by kernel_rfl) (fun _ _ => by kernel_rfl) (fun _ _ => by kernel_rfl) (fun _ _ => by kernel_rfl) (sees_reg OKP.out es ep AW.out) (sees_head OKP.out es ep AW.out) (sees_page OKP.out es ep AW.out) (sees_tag OKP.out es ep AW.out) (sees_link OKP.out es ep AW.out rfl rfl) (fun w h => ⟨⟨h.v.b, by rw [← cut_beats]; exact h.v.f⟩, h.e, h.x1, h.x2, h.x3⟩) V2 (by omega) LY.out
  have VI : Hid (Calls _ _ _ _ _) := vis
  clear vis es ep
  go_simp
  refine VI.out.mono ?_
  rintro e V3 ⟨rfl, ly, ho⟩
  have S3 : (fun w' : World => HB w S P l b w' ∧ w'.rangeAt w3.heap.size 0 (ints (layL S P))) V3 := ⟨HS.out.1.only h ho (by omega), fun j v hv => (ho.cell (k := w3.heap.size) (o := 0 + j) (by omega) (.inl (by omega))).trans (HS.out.2 j v hv)⟩
  have FV : Hid (Fk .i64 H V3 vk (layF b S P)) := by
    unfold Hid
    rw [HH.out]
    exact ly.v.f.congr (fun j hj => by unfold cutv; rw [if_pos hj])
  have FIT : Hid (FitP S P l b) := ⟨OKB.out, OKP.out, E1.out, E2.out⟩
  have y9 := ho.size
  have yb := HS.out.1.b.size
  have SS : Hid (_ ∧ _) := S3
  clear ly ho S3 HS VI LY AW
  go_simp
  refine hK.out _ _ SS.out (fun hS => ?_)
  clear hK K hS
  refine wpAnyH_done (by kernel_rfl) ?_ _
  go_wp2_with (fail)
  go_ret
  exact ⟨.inl ⟨FIT.out, S, P, vk, rfl, rfl, by rw [← HH.out]; rfl, by omega, by omega, by rw [← HH.out]; exact FV.out⟩, SS.out.1.b⟩

theorem cnt_one {f : Nat → Int} {a : Int} : ∀ {n i : Nat}, i < n → f i = a → 1 ≤ cnt f a n
  | n + 1, i, hi, e => by
    simp only [cnt]
    by_cases h : i = n
    · subst h; rw [if_pos e]; omega
    · have := cnt_one (f := f) (a := a) (show i < n by omega) e
      omega
theorem cnt_two {f : Nat → Int} {a : Int} : ∀ {n i j : Nat}, i < j → j < n → f i = a → f j = a → 2 ≤ cnt f a n
  | n + 1, i, j, hij, hj, ei, ej => by
    simp only [cnt]
    by_cases h : j = n
    · subst h
      have := cnt_one (f := f) (a := a) hij ei
      rw [if_pos ej]; omega
    · have := cnt_two (f := f) (a := a) hij (show j < n by omega) ei ej
      omega
theorem hd_once {b : Bx} (ok : OkP b) {k : Nat} (hk : k < 4) {i : Nat} (hi : i < (b.hd k).n) : cnt (b.hd k).f ((b.hd k).f i) (b.hd k).n ≤ 1 := by
  obtain ⟨u0, u1, u2, u3⟩ := (ok.2.1 k hk).2 i hi
  generalize (b.hd k).f i = u at *
  have nn := ok.nums
  have hq : (u / 8).toNat < b.p.n := by omega
  have hu : (u % 8).toNat < 8 := by omega
  have eu : ((u / 8).toNat : Int) * 8 + ((u % 8).toNat : Int) = u := by omega
  rcases ok.2.2 (u / 8).toNat hq with ⟨h, _⟩ | ⟨m, hm, h, hr, _⟩ | ⟨h, _⟩ | h
  · omega
  · have e : m = k := by omega
    subst e
    have := hr (u % 8).toNat hu
    unfold RoomU at this
    rw [eu] at this
    omega
  · omega
  · have := h.1; omega
theorem hd_inj {b : Bx} (ok : OkP b) {k : Nat} (hk : k < 4) {i j : Nat} (hi : i < (b.hd k).n) (hj : j < (b.hd k).n) (e : (b.hd k).f i = (b.hd k).f j) : i = j := by
  have h1 := hd_once ok hk hi
  rcases Nat.lt_trichotomy i j with h | h | h
  · have := cnt_two (a := (b.hd k).f i) h hj rfl e.symm; omega
  · exact h
  · have := cnt_two (a := (b.hd k).f i) h hi e.symm rfl; omega
theorem hd_far {b : Bx} (ok : OkP b) {k k' : Nat} (hk : k < 4) (hk' : k' < 4) (hne : k ≠ k') {i j : Nat} (hi : i < (b.hd k).n) (hj : j < (b.hd k').n) : (b.hd k).f i ≠ (b.hd k').f j := fun e => by
  have h1 := ((ok.2.1 k hk).2 i hi).2.2.1
  have h2 := ((ok.2.1 k' hk').2 j hj).2.2.1
  rw [e, h2] at h1
  omega

theorem lk1_far {x : Sx} {g : Nat → Int} {u : Nat} : ∀ i, (∀ j, j < i → (x.f j).toNat ≠ u) → lk1 x g i u = g u
  | 0, _ => rfl
  | i + 1, h => by
    simp only [lk1, upd]
    rw [if_neg (fun e => h i (by omega) e.symm)]
    exact lk1_far i (fun j hj => h j (by omega))
theorem lk1_in {x : Sx} {g : Nat → Int} {j : Nat} : ∀ i, j < i → (∀ a c, a < i → c < i → (x.f a).toNat = (x.f c).toNat → a = c) → lk1 x g i (x.f j).toNat = nx x (j + 1)
  | i + 1, hj, h => by
    simp only [lk1, upd]
    by_cases e : j = i
    · subst e; rw [if_pos rfl]
    · rw [if_neg (fun q => e (h j i (by omega) (by omega) q))]
      exact lk1_in i (by omega) (fun a c ha hc => h a c (by omega) (by omega))

/- The units of a list, of a book that is ok, as places. -/
theorem hd_places {b : Bx} (ok : OkP b) {k : Nat} (hk : k < 4) : ∀ a c, a < (b.hd k).n → c < (b.hd k).n → ((b.hd k).f a).toNat = ((b.hd k).f c).toNat → a = c := fun a c ha hc e => by
  have h1 := ((ok.2.1 k hk).2 a ha).1
  have h2 := ((ok.2.1 k hk).2 c hc).1
  exact hd_inj ok hk ha hc (by omega)
theorem hd_apart {b : Bx} (ok : OkP b) {k k' : Nat} (hk : k < 4) (hk' : k' < 4) (hne : k ≠ k') {i j : Nat} (hi : i < (b.hd k).n) (hj : j < (b.hd k').n) : ((b.hd k).f i).toNat ≠ ((b.hd k').f j).toNat := fun e => by
  have h1 := ((ok.2.1 k hk).2 i hi).1
  have h2 := ((ok.2.1 k' hk').2 j hj).1
  exact hd_far ok hk hk' hne hi hj (by omega)

theorem lkK_in {b : Bx} (ok : OkP b) {k i : Nat} (hk : k < 4) (hi : i < (b.hd k).n) : ∀ m, k < m → m ≤ 4 → lkK b m ((b.hd k).f i).toNat = nx (b.hd k) (i + 1)
  | m + 1, hm, h4 => by
    simp only [lkK]
    by_cases e : k = m
    · subst e
      exact lk1_in _ hi (hd_places ok hk)
    · rw [lk1_far _ (fun j hj => hd_apart ok (by omega) hk (fun q => e q.symm) hj hi)]
      exact lkK_in ok hk hi m (by omega) (by omega)
theorem lkK_out {b : Bx} {u : Nat} : ∀ m, (∀ k, k < m → ∀ i, i < (b.hd k).n → ((b.hd k).f i).toNat ≠ u) → lkK b m u = 0
  | 0, _ => rfl
  | m + 1, h => by
    simp only [lkK]
    rw [lk1_far _ (h m (by omega))]
    exact lkK_out m (fun k hk => h k (by omega))

/- So many slots, pages and owners have been laid. -/
def pv (b : Bx) (s p a c d : Nat) (j : Nat) : Int := if (3 ≤ j ∧ j < 3 + a) ∨ (3 + s + s + 4 ≤ j ∧ j < 3 + s + s + 4 + c) ∨ (3 + s + s + 4 + p ≤ j ∧ j < 3 + s + s + 4 + p + d) then layF b s p j else 0
/- Where the room number i of a list is told of: at its head, or at the link of the room ahead. -/
def pos (b : Bx) (s p k : Nat) : Nat → Nat
  | 0 => 3 + s + s + k
  | i + 1 => 3 + s + s + 4 + p + p * 8 + ((b.hd k).f i).toNat
def spI (b : Bx) (s p k : Nat) (g : Nat → Int) : Nat → Nat → Int
  | 0 => g
  | i + 1 => upd (spI b s p k g i) (pos b s p k i) ((b.hd k).f i + 1)
def spK (b : Bx) (s p : Nat) : Nat → Nat → Int
  | 0 => pv b s p s p (p * 8)
  | k + 1 => spI b s p k (spK b s p k) (b.hd k).n

theorem pv_none {b : Bx} {s p : Nat} : pv b s p 0 0 0 = fun _ => 0 := by
  funext j; unfold pv; rw [if_neg (by omega)]
theorem pv_reg {b : Bx} {s p a : Nat} (ha : a < s) {v : Int} (h : layF b s p (3 + a) = v) : upd (pv b s p a 0 0) (3 + a) v = pv b s p (a + 1) 0 0 := by
  funext j
  unfold upd pv
  by_cases e : j = 3 + a
  · subst e; rw [if_pos rfl, if_pos (by omega), h]
  · rw [if_neg e]
    by_cases g : 3 ≤ j ∧ j < 3 + a
    · rw [if_pos (by omega), if_pos (by omega)]
    · rw [if_neg (by omega), if_neg (by omega)]
theorem pv_page {b : Bx} {s p c : Nat} (hc : c < p) {v : Int} (h : layF b s p (3 + s + s + 4 + c) = v) : upd (pv b s p s c 0) (3 + s + s + 4 + c) v = pv b s p s (c + 1) 0 := by
  funext j
  unfold upd pv
  by_cases e : j = 3 + s + s + 4 + c
  · subst e; rw [if_pos rfl, if_pos (by omega), h]
  · rw [if_neg e]
    by_cases g : (3 ≤ j ∧ j < 3 + s) ∨ (3 + s + s + 4 ≤ j ∧ j < 3 + s + s + 4 + c)
    · rw [if_pos (by omega), if_pos (by omega)]
    · rw [if_neg (by omega), if_neg (by omega)]
theorem pv_tag {b : Bx} {s p d : Nat} (hd : d < p * 8) {v : Int} (h : layF b s p (3 + s + s + 4 + p + d) = v) : upd (pv b s p s p d) (3 + s + s + 4 + p + d) v = pv b s p s p (d + 1) := by
  funext j
  unfold upd pv
  by_cases e : j = 3 + s + s + 4 + p + d
  · subst e; rw [if_pos rfl, if_pos (by omega), h]
  · rw [if_neg e]
    by_cases g : (3 ≤ j ∧ j < 3 + s) ∨ (3 + s + s + 4 ≤ j ∧ j < 3 + s + s + 4 + p) ∨ (3 + s + s + 4 + p ≤ j ∧ j < 3 + s + s + 4 + p + d)
    · rw [if_pos g, if_pos (by omega)]
    · rw [if_neg g, if_neg (by omega)]

theorem pos_inj {b : Bx} (ok : OkP b) {s p k k' i i' : Nat} (hk : k < 4) (hk' : k' < 4) (hi : i < (b.hd k).n) (hi' : i' < (b.hd k').n) (e : pos b s p k i = pos b s p k' i') : k = k' ∧ i = i' := by
  cases i with
  | zero =>
    cases i' with
    | zero => simp only [pos] at e; exact ⟨by omega, rfl⟩
    | succ j' => simp only [pos] at e; omega
  | succ j =>
    cases i' with
    | zero => simp only [pos] at e; omega
    | succ j' =>
      simp only [pos] at e
      have e' : ((b.hd k).f j).toNat = ((b.hd k').f j').toNat := by omega
      by_cases q : k = k'
      · subst q
        exact ⟨rfl, by have := hd_places ok hk j j' (by omega) (by omega) e'; omega⟩
      · exact absurd e' (hd_apart ok hk hk' q (by omega) (by omega))
theorem spI_far {b : Bx} {s p k : Nat} {g : Nat → Int} {j : Nat} : ∀ i, (∀ i', i' < i → pos b s p k i' ≠ j) → spI b s p k g i j = g j
  | 0, _ => rfl
  | i + 1, h => by
    simp only [spI, upd]
    rw [if_neg (fun e => h i (by omega) e.symm)]
    exact spI_far i (fun i' hi => h i' (by omega))
theorem spI_in {b : Bx} (ok : OkP b) {s p k : Nat} (hk : k < 4) {g : Nat → Int} {i' : Nat} : ∀ i, i ≤ (b.hd k).n → i' < i → spI b s p k g i (pos b s p k i') = (b.hd k).f i' + 1
  | i + 1, hn, h => by
    simp only [spI, upd]
    by_cases e : i' = i
    · subst e; rw [if_pos rfl]
    · rw [if_neg (fun q => e (pos_inj ok hk hk (by omega) (by omega) q).2)]
      exact spI_in ok hk i (by omega) (by omega)
theorem spK_in {b : Bx} (ok : OkP b) {s p k i : Nat} (hk : k < 4) (hi : i < (b.hd k).n) : ∀ m, k < m → m ≤ 4 → spK b s p m (pos b s p k i) = (b.hd k).f i + 1
  | m + 1, hm, h4 => by
    simp only [spK]
    by_cases e : k = m
    · subst e; exact spI_in ok hk _ (Nat.le_refl _) hi
    · rw [spI_far _ (fun i' hi' q => e (pos_inj ok (by omega) hk hi' hi q).1.symm)]
      exact spK_in ok hk hi m (by omega) (by omega)
theorem spK_far {b : Bx} {s p j : Nat} : ∀ m, (∀ k, k < m → ∀ i, i < (b.hd k).n → pos b s p k i ≠ j) → spK b s p m j = pv b s p s p (p * 8) j
  | 0, _ => rfl
  | m + 1, h => by
    simp only [spK]
    rw [spI_far _ (h m (by omega))]
    exact spK_far m (fun k hk => h k (by omega))

theorem sp_lay {b : Bx} (ok : OkP b) {s p : Nat} {j : Nat} : spK b s p 4 j = layF b s p j := by
  by_cases hh : 3 + s + s ≤ j ∧ j < 3 + s + s + 4
  · obtain ⟨k, rfl⟩ : ∃ k, j = 3 + s + s + k := ⟨j - (3 + s + s), by omega⟩
    have hk : k < 4 := by omega
    rw [lay_head hk]
    unfold nx
    by_cases h0 : 0 < (b.hd k).n
    · rw [if_pos h0]
      exact spK_in ok (i := 0) hk h0 4 hk (Nat.le_refl _)
    · rw [if_neg h0, spK_far 4 (fun k' hk' i hi q => by
        cases i with
        | zero => simp only [pos] at q; have : k' = k := by omega
                  subst this; omega
        | succ i => simp only [pos] at q; omega)]
      unfold pv
      rw [if_neg (by omega)]
  · by_cases hl : 3 + s + s + 4 + p + p * 8 ≤ j
    · obtain ⟨u, rfl⟩ : ∃ u, j = 3 + s + s + 4 + p + p * 8 + u := ⟨j - (3 + s + s + 4 + p + p * 8), by omega⟩
      rw [lay_link]
      by_cases hx : ∃ k i, k < 4 ∧ i < (b.hd k).n ∧ ((b.hd k).f i).toNat = u
      · obtain ⟨k, i, hk, hi, rfl⟩ := hx
        rw [lkK_in ok hk hi 4 hk (Nat.le_refl _)]
        unfold nx
        by_cases hn : i + 1 < (b.hd k).n
        · rw [if_pos hn]
          exact spK_in ok (i := i + 1) hk hn 4 hk (Nat.le_refl _)
        · rw [if_neg hn, spK_far 4 (fun k' hk' i' hi' q => by
            cases i' with
            | zero => simp only [pos] at q; omega
            | succ i' =>
              simp only [pos] at q
              have e : ((b.hd k').f i').toNat = ((b.hd k).f i).toNat := by omega
              by_cases c : k' = k
              · subst c
                have := hd_places ok hk' i' i (by omega) hi e
                omega
              · exact hd_apart ok hk' hk c (by omega) hi e)]
          unfold pv
          rw [if_neg (by omega)]
      · rw [lkK_out 4 (fun k hk i hi q => hx ⟨k, i, hk, hi, q⟩), spK_far 4 (fun k' hk' i' hi' q => by
          cases i' with
          | zero => simp only [pos] at q; omega
          | succ i' => simp only [pos] at q; exact hx ⟨k', i', hk', by omega, by omega⟩)]
        unfold pv
        rw [if_neg (by omega)]
    · rw [spK_far 4 (fun k' hk' i' hi' q => by
        cases i' with
        | zero => simp only [pos] at q; omega
        | succ i' => simp only [pos] at q; omega)]
      unfold pv
      split
      · rfl
      · unfold layF
        by_cases h1 : j < 3
        · rw [if_pos h1]
        · rw [if_neg h1, if_neg (by omega)]
          by_cases h2 : j < 3 + s + s
          · rw [if_pos h2]
          · omega

end Go.Proofs.YtgfbfgiohmdjmaaGreat.Book

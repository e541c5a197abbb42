import Derived.Test.YtbeamigbcfkjjaaGreatDoorM33

/- Of every book and every list of what has happened, the book behind it, and whether the book says the same, held against the specification; in new memory of its own. Conditions: none. -/
namespace Go.Proofs.YtbeamigbcfkjjaaGreatDoor.Dra
open Go.ChangeShapes Go.WideShapes Go.ChangeAt Go.RowKit
open Go.Proofs.YtbeamigbcfkjjaaGreatDoor.Aid Go.Proofs.YtbeamigbcfkjjaaGreatDoor.Lst Go.Proofs.YtbeamigbcfkjjaaGreatDoor.Book Go.Proofs.YtbeamigbcfkjjaaGreatDoor.Rin
set_option maxRecDepth 100000
set_option linter.unusedVariables false
open Go.Proofs.YtbeamigbcfkjjaaGreatDoor.Gs (halt_at)
set_option linter.unusedSimpArgs false

set_option maxHeartbeats 16000000 in
theorem law_tb {a : Nat → Addr} (b0 : Bx) (la : Option Addr) (n cc : Nat) (gi : Nat → Ti.Tx) (w : World) (g0 : b0.Good w) (hl : Ti.RowT w la n gi) (hm : n ≤ maxLen) (he : Ea a w) :
    Calls Tryz.prog 3 #[.agg b0.cells.toArray, .slice la n cc] w fun e w' => e = .returned (.bool true) ∧ Below w.heap.size w w' := by
  have n0 := g0.short
  have HWf : Hid b0.Wf := g0.wf
  have HEa : Hid (Ea a w) := he
  have HL : Hid (Ti.RowT w la n gi) := hl
  have T0 : St w [(w.heap.size, b0.cells)] [b0] (w.alloc (.cells b0.cells.toArray 25)) := by
    have t1 := (St.start (bs := [b0]) (w := w) (by simpa using g0.at)).row b0.cells.toArray 25
    simpa using t1
  have HT0 : Hid (St w _ _ _) := T0
  have HRB : Hid (World.rangeAt _ w.heap.size 0 b0.cells) := (T0.r (w.heap.size, b0.cells) (by simp)).1
  clear he T0 hl
  simp only [Bx.cells] at HT0 HRB ⊢
  go_enter Tryz.func3, Tryz.ntmps3
  go_wp2_with (refine wpList_load_mid rfl 25 _ rfl w.heap.size 0 rfl b0.cells _ HRB.out Tryz.underlying25 rfl (by kernel_rfl) ?_)
  refine (sz_any b0 1048576 _ n0 (by omega) (by omega)).mono ?_
  rintro e W1 ⟨⟨l1, rfl, t1, t2, t3⟩, hb⟩
  have HT1 : Hid (St w [(w.heap.size, b0.cells)] [b0] W1) := HT0.out.later hb
  clear hb HT0 HRB
  by_cases h1 : l1 < 0
  · go_wp2_with (fail)
    go_ret
    exact ⟨rfl, HT1.out.b⟩
  replace t1 := t1 (by omega)
  have m0 : b0.total ≤ 1000000000 := by omega
  clear n0 t3
  go_wp2_with (fail)
  refine (Ti.szitems_any la n cc l1 W1 (by omega) (by omega) t2).mono ?_
  rintro e W1' ⟨rfl, rfl⟩
  by_cases e0 : l1 < n
  · rw [szM_neg e0]
    go_wp2_with (fail)
    go_ret
    exact ⟨rfl, HT1.out.b⟩
  rw [szM_pos e0]
  have nn : n ≤ 10000000 := by omega
  have n9 : ¬ (l1 - (n : Int) < 0) := by omega
  clear hm t1 t2 e0 h1
  have HRB : Hid (World.rangeAt _ w.heap.size 0 b0.cells) := (HT1.out.r (w.heap.size, b0.cells) (by simp)).1
  go_wp2_with (refine wpList_load_mid rfl 25 _ rfl w.heap.size 0 rfl b0.cells _ HRB.out Tryz.underlying25 rfl (by kernel_rfl) ?_)
  clear n9
  refine (Book.to_any b0 _ (HT1.out.a b0 (by simp)) m0).mono ?_
  rintro e W2 ⟨c0, rfl, k0, o0, hb⟩
  have HT2 : Hid (St w [(w.heap.size, b0.cells)] [b0] W2) := HT1.out.later hb
  have HK0 : Hid (c0.m = b0.m) := k0
  have HA0 : Hid (c0.At W2) := o0.at
  clear k0 o0 hb HT1 HRB
  go_wp2_with (fail)
  refine (copy_res la n cc gi W2 (HL.out.later HT2.out.b) nn).mono ?_
  rintro e W3 ⟨s0, rfl, r0, hb⟩
  have HT3 : Hid (St w [(w.heap.size, b0.cells)] [b0] W3) := HT2.out.later hb
  have HA1 : Hid (c0.At W3) := HA0.out.later hb
  have HR0 : Hid (Ti.RowT W3 s0 n gi) := r0.row
  clear r0 hb HT2 HA0
  go_wp2_with (fail)
  refine (stbook_any c0 s0 n n gi _ HA1.out (by rw [Book.total_m HK0.out]; exact m0) (at_nil HA1.out) ((Book.wf_m HK0.out).2 HWf.out) HR0.out).mono ?_
  rintro e W4 ⟨d, r, rfl, hq, hl, hb⟩
  have HQ : Hid (TbS c0 n gi d r) := hq
  have HT4 : Hid (St w [(w.heap.size, b0.cells)] [d, b0] W4) := (HT3.out.later hb).book hl.at
  have l4 := laid HT4.out d 29
  have HTH : Hid (World.there _ W4.heap.size 0 _) := (mk_book W4 29 d).1
  clear hq hl hb HT3 HA1 HR0
  have HL4 : Hid (St w _ _ _) := l4
  clear l4
  go_wp2_with (with_reducible refine halt_at (.store 29 (.tmp 6) (.tmp 33)) rfl ?_)
  unfold Hid
  refine wpList_store_mid rfl 29 _ _ rfl W4.heap.size 0 d.cells.toArray rfl rfl HTH.out (by kernel_rfl) (cells_one _) ?_
  clear HTH
  clear HT4
  generalize World.setCells _ _ _ _ = V1 at HL4 ⊢
  have HT5 : Hid (St w [(W4.heap.size, d.cells), (w.heap.size, b0.cells)] [d, b0] V1) := HL4.out
  clear HL4
  have HRB : Hid (World.rangeAt _ w.heap.size 0 b0.cells) := (HT5.out.r (w.heap.size, b0.cells) (by simp)).1
  go_wp2_with (refine wpList_load_mid rfl 25 _ rfl w.heap.size 0 rfl b0.cells _ HRB.out Tryz.underlying25 rfl (by kernel_rfl) ?_)
  refine (Book.to_any b0 _ (HT5.out.a b0 (by simp)) m0).mono ?_
  rintro e W5 ⟨x0, rfl, k0, o0, hb⟩
  have HK : Hid (x0.m = c0.m) := k0.trans HK0.out.symm
  have HTX : Hid (x0.total ≤ 1000000000) := (by rw [Book.total_m k0]; exact m0)
  have HZ0 : Hid (Lz w V1 [(W4.heap.size, d.cells), (w.heap.size, b0.cells)] [d, b0] [] [(x0, V1.heap.size, W5.heap.size)] W5) := ((Lz.start HT5.out).later hb).own o0 (Nat.le_refl _)
  have HP0 : Hid (Lz w V1 [(W4.heap.size, d.cells), (w.heap.size, b0.cells)] [d, b0] [(W5.heap.size, x0.cells)] [(x0, V1.heap.size, W5.heap.size)] _) := HZ0.out.put x0 29
  have HTH : Hid (World.there _ W5.heap.size 0 _) := (mk_book W5 29 x0).1
  have HN0 : Hid (V1.heap.size ≤ W5.heap.size) := hb.size
  clear k0 o0 hb HZ0 HRB
  go_wp2_with (with_reducible refine halt_at (.store 29 (.tmp 8) (.tmp 36)) rfl ?_)
  unfold Hid
  refine wpList_store_mid rfl 29 _ _ rfl W5.heap.size 0 x0.cells.toArray rfl rfl HTH.out (by kernel_rfl) (cells_one _) ?_
  clear HTH
  generalize World.setCells _ _ _ _ = V2 at HP0 ⊢
  have HN1 : Hid (W5.heap.size < V2.heap.size) := (HP0.out.n (W5.heap.size, x0.cells) (by simp)).2
  go_wp2_with (fail)
  refine (copy_res la n cc gi V2 (HL.out.later HP0.out.st.b) nn).mono ?_
  rintro e W6 ⟨x1, rfl, hi, hb⟩
  have HI : Hid (Ti.Res V2.heap.size W6.heap.size W6 x1 n gi) := hi
  have HZ : Hid (Lz w V1 [(W4.heap.size, d.cells), (w.heap.size, b0.cells)] [d, b0] [(W5.heap.size, x0.cells)] [(x0, V1.heap.size, W5.heap.size)] W6) := HP0.out.later hb
  have HN2 : Hid (V2.heap.size ≤ W6.heap.size) := hb.size
  clear hi hb HP0
  have HRX : Hid (World.rangeAt _ W5.heap.size 0 x0.cells) := (HZ.out.n (W5.heap.size, x0.cells) (by simp)).1
  go_wp2_with (refine wpList_load_mid rfl 29 _ rfl (W5.heap.size) 0 rfl x0.cells _ HRX.out Tryz.underlying29 rfl (by kernel_rfl) ?_)
  refine (tbook_any (a := a) x0 c0 x1 n n gi _ (HZ.out.o (x0, V1.heap.size, W5.heap.size) (by simp)).1.at HTX.out (HZ.out.o (x0, V1.heap.size, W5.heap.size) (by simp)).1.cap HI.out.row (HEa.out.later HZ.out.st.b) HK.out (hrun_of HQ.out)).mono ?_
  rintro e W7 ⟨g, r', rfl, hp, ho, hb⟩
  obtain ⟨gm, er⟩ := tb_met HK.out hp HQ.out
  subst er
  have HGM : Hid (g.trim.m = d.trim.m) := gm
  have HTG : Hid (g.total ≤ 1000) := (by rw [trim_total gm]; exact tbs_total HQ.out)
  have HP0 : Hid (Lz w V1 [(W4.heap.size, d.cells), (w.heap.size, b0.cells)] [d, b0] [(W7.heap.size, g.cells), (W5.heap.size, x0.cells)] [(g, W6.heap.size, W7.heap.size), (x0, V1.heap.size, W5.heap.size)] _) := ((HZ.out.later hb).own ho (Nat.le_refl _)).put g 29
  have HTH : Hid (World.there _ W7.heap.size 0 _) := (mk_book W7 29 g).1
  replace HI : Hid (Ti.Res V2.heap.size W6.heap.size _ x1 n gi) := (HI.out.later hb).later (mk_book W7 29 g).2.2
  have HN3 : Hid (W6.heap.size ≤ W7.heap.size) := hb.size
  clear gm hp ho hb HZ HRX
  go_wp2_with (with_reducible refine halt_at (.store 29 (.tmp 10) (.tmp 43)) rfl ?_)
  unfold Hid
  refine wpList_store_mid rfl 29 _ _ rfl W7.heap.size 0 g.cells.toArray rfl rfl HTH.out (by kernel_rfl) (cells_one _) ?_
  clear HTH
  generalize World.setCells _ _ _ _ = V3 at HP0 HI ⊢
  have HZ : Hid (Lz w V1 [(W4.heap.size, d.cells), (w.heap.size, b0.cells)] [d, b0] [(W7.heap.size, g.cells), (W5.heap.size, x0.cells)] [(g, W6.heap.size, W7.heap.size), (x0, V1.heap.size, W5.heap.size)] V3) := HP0.out
  clear HP0
  have HRG : Hid (World.rangeAt _ W7.heap.size 0 g.cells) := (HZ.out.n (W7.heap.size, g.cells) (by simp)).1
  have HRDD : Hid (World.rangeAt _ W4.heap.size 0 d.cells) := (HZ.out.st.r (W4.heap.size, d.cells) (by simp)).1
  go_wp2_with (first
      | refine wpList_load_mid rfl 29 _ rfl (W7.heap.size) 0 rfl g.cells _ HRG.out Tryz.underlying29 rfl (by kernel_rfl) ?_
      | refine wpList_load_mid rfl 29 _ rfl (W4.heap.size) 0 rfl d.cells _ HRDD.out Tryz.underlying29 rfl (by kernel_rfl) ?_)
  refine (eqt_any g d _ (HZ.out.o (g, W6.heap.size, W7.heap.size) (by simp)).1.at (HZ.out.st.a d (by simp)) HGM.out (Nat.le_trans HTG.out (by omega))).mono ?_
  rintro e W8 ⟨rfl, hb⟩
  replace HZ : Hid (Lz w V1 [(W4.heap.size, d.cells), (w.heap.size, b0.cells)] [d, b0] [(W7.heap.size, g.cells), (W5.heap.size, x0.cells)] [(g, W6.heap.size, W7.heap.size), (x0, V1.heap.size, W5.heap.size)] W8) := HZ.out.later hb
  replace HI : Hid (Ti.Res V2.heap.size W6.heap.size W8 x1 n gi) := HI.out.later hb
  clear hb HRG HRDD
  go_wp2_with (fail)
  have HS8 : Hid (Sb w W8 [(W7.heap.size, g.cells), (W5.heap.size, x0.cells), (W4.heap.size, d.cells), (w.heap.size, b0.cells)] [x0, d, b0] W8) := HZ.out.sb x0 (HZ.out.o (x0, V1.heap.size, W5.heap.size) (by simp)).1.at
  refine wp_region_held_drew (S := Sb w W8 [(W7.heap.size, g.cells), (W5.heap.size, x0.cells), (W4.heap.size, d.cells), (w.heap.size, b0.cells)] [x0, d, b0]) (by kernel_rfl) HS8.out.drew (fun hS => ?_)
  generalize World.drew _ = Y1 at hS ⊢
  refine takeB (i := 0) (v := .agg x0.cells.toArray) (d := some 54) rfl rfl (by kernel_rfl) (by kernel_rfl) (by kernel_rfl) (fun _ _ _ h => h) (yieldsIf_load_mid (by rfl) 29 _ rfl (W5.heap.size) 0 rfl x0.cells _ (fun w' hw => (hw.r (W5.heap.size, x0.cells) (by simp)).1) Tryz.underlying29 rfl (by kernel_rfl)) hS ?_
  try simp only [Act.put, List.setIfInBounds_toArray, List.set_cons_zero, List.set_cons_succ]
  refine takeB (i := 1) (v := .agg b0.cells.toArray) (d := some 55) rfl rfl (by kernel_rfl) (by kernel_rfl) (by kernel_rfl) (fun _ _ _ h => h) (yieldsIf_load_mid (by rfl) 25 _ rfl (w.heap.size) 0 rfl b0.cells _ (fun w' hw => (hw.r (w.heap.size, b0.cells) (by simp)).1) Tryz.underlying25 rfl (by kernel_rfl)) hS ?_
  try simp only [Act.put, List.setIfInBounds_toArray, List.set_cons_zero, List.set_cons_succ]
  refine wpAnyH_ready (rs := [2]) (by kernel_rfl) (by simp) ?_
  refine AllReadyH.cons rfl (fun K hK => ?_) AllReadyH.nil
  have HT1 : Hid (Sb w W8 [(W7.heap.size, g.cells), (W5.heap.size, x0.cells), (W4.heap.size, d.cells), (w.heap.size, b0.cells)] [x0, d, b0] Y1) := hS
  clear hS
  go_simp
  refine (Book.to_any b0 _ (HT1.out.a b0 (by simp)) m0).mono ?_
  rintro e Y2 ⟨f, rfl, kf, of, hb⟩
  have HKF : Hid (x0.m = f.m) := (HK.out.trans HK0.out).trans kf.symm
  have HOF : Hid (f.At Y2) := of.at
  have HT2' : Hid (Sb w W8 [(W7.heap.size, g.cells), (W5.heap.size, x0.cells), (W4.heap.size, d.cells), (w.heap.size, b0.cells)] [x0, d, b0] Y2) := HT1.out.later hb
  clear hb kf of
  go_wp2_with (fail)
  refine hK.out _ _ HT2'.out (fun hS => ?_)
  clear hK K
  try simp only [Act.put, List.setIfInBounds_toArray, List.set_cons_zero, List.set_cons_succ]
  refine wpAnyH_ready (rs := [3]) (by kernel_rfl) (by simp) ?_
  refine AllReadyH.cons rfl (fun K hK => ?_) AllReadyH.nil
  have HT3' : Hid (Sb w W8 [(W7.heap.size, g.cells), (W5.heap.size, x0.cells), (W4.heap.size, d.cells), (w.heap.size, b0.cells)] [x0, d, b0] Y2) := hS
  clear hS
  go_simp
  refine (Book.eq_any x0 f _ (HT3'.out.a x0 (by simp)) HOF.out HKF.out HTX.out).mono ?_
  rintro e Y3 ⟨rfl, hb⟩
  have HT4' : Hid (Sb w W8 [(W7.heap.size, g.cells), (W5.heap.size, x0.cells), (W4.heap.size, d.cells), (w.heap.size, b0.cells)] [x0, d, b0] Y3) := HT3'.out.later hb
  clear hb
  go_wp2_with (fail)
  refine hK.out _ _ HT4'.out (fun hS => ?_)
  clear hK K
  try simp only [Act.put, List.setIfInBounds_toArray, List.set_cons_zero, List.set_cons_succ]
  refine takeB (i := 4) (v := .bool false) (d := some 58) rfl rfl (by kernel_rfl) (by kernel_rfl) (by kernel_rfl) (fun _ _ _ h => h) (Or.inl ⟨by rfl, fun w' hw => ?_⟩) hS ?_
  · clear hw; go_simp
  try simp only [Act.put, List.setIfInBounds_toArray, List.set_cons_zero, List.set_cons_succ]
  refine wpAnyH_done (by kernel_rfl) ?_ _
  have HBY : Hid (Below W8.heap.size W8 Y3) := HT4'.out.be
  clear hS HT4' HT3' HT2' HT1 HKF HOF HS8
  replace HZ : Hid (Lz w V1 [(W4.heap.size, d.cells), (w.heap.size, b0.cells)] [d, b0] [(W7.heap.size, g.cells), (W5.heap.size, x0.cells)] [(g, W6.heap.size, W7.heap.size), (x0, V1.heap.size, W5.heap.size)] Y3) := HZ.out.later HBY.out
  replace HI : Hid (Ti.Res V2.heap.size W6.heap.size Y3 x1 n gi) := HI.out.later HBY.out
  clear HBY
  go_wp2_with (fail)
  refine (copy_res la n cc gi Y3 (HL.out.later HZ.out.st.b) nn).mono ?_
  rintro e W9 ⟨y1, rfl, hi, hb⟩
  replace HZ : Hid (Lz w V1 [(W4.heap.size, d.cells), (w.heap.size, b0.cells)] [d, b0] [(W7.heap.size, g.cells), (W5.heap.size, x0.cells)] [(g, W6.heap.size, W7.heap.size), (x0, V1.heap.size, W5.heap.size)] W9) := HZ.out.later hb
  replace HI : Hid (Ti.Res V2.heap.size W6.heap.size W9 x1 n gi) := HI.out.later hb
  have HIY : Hid (Ti.RowT W9 y1 n gi) := hi.row
  clear hb hi
  go_wp2_with (fail)
  refine (Ti.eqitems_at x1 y1 n n n gi W9 HI.out.row HIY.out nn).mono ?_
  rintro e W10 ⟨rfl, hb⟩
  replace HZ : Hid (Lz w V1 [(W4.heap.size, d.cells), (w.heap.size, b0.cells)] [d, b0] [(W7.heap.size, g.cells), (W5.heap.size, x0.cells)] [(g, W6.heap.size, W7.heap.size), (x0, V1.heap.size, W5.heap.size)] W10) := HZ.out.later hb
  replace HI : Hid (Ti.Res V2.heap.size W6.heap.size W10 x1 n gi) := HI.out.later hb
  clear hb HIY
  have HRX : Hid (World.rangeAt _ W5.heap.size 0 x0.cells) := (HZ.out.n (W5.heap.size, x0.cells) (by simp)).1
  go_wp2_with (first
      | refine wpList_load_mid rfl 29 _ rfl (W5.heap.size) 0 rfl x0.cells _ HRX.out Tryz.underlying29 rfl (by kernel_rfl) ?_)
  refine (Book.mark_any x0 1 V1.heap.size W5.heap.size _ (HZ.out.o (x0, V1.heap.size, W5.heap.size) (by simp)).2 (HZ.out.o (x0, V1.heap.size, W5.heap.size) (by simp)).1 HTX.out (by omega) (by omega)).mono ?_
  rintro e W11 ⟨rfl, -, on⟩
  have HZ1 : Hid (Lz w V1 [(W4.heap.size, d.cells), (w.heap.size, b0.cells)] [d, b0] [(W7.heap.size, g.cells)] [(g, W6.heap.size, W7.heap.size)] W11) := (HZ.out.take (ns' := [(W7.heap.size, g.cells)]) (os' := [(g, W6.heap.size, W7.heap.size)]) (by simp) (by simp)).only on (Nat.le_refl _) (by
    have h1 := HN1.out
    have h2 := HN2.out
    have h3 := HN3.out
    simp only [List.forall_mem_cons, List.not_mem_nil, false_implies, implies_true, and_true]
    exact .inr (by omega)) (by
    have h1 := HN1.out
    have h2 := HN2.out
    simp only [List.forall_mem_cons, List.not_mem_nil, false_implies, implies_true, and_true]
    exact .inr (by omega))
  replace HI : Hid (Ti.Res V2.heap.size W6.heap.size W11 x1 n gi) := res_only HI.out on (by have h1 := (HZ.out.o (g, W6.heap.size, W7.heap.size) (by simp)).2; have h3 := HN3.out; simp only at h1; omega) (.inr (by have := HN1.out; omega))
  clear on HRX HZ
  go_wp2_with (fail)
  refine (Ti.markres_any _ _ x1 n n gi _ W11 HI.out nn (by omega) (by have := HTX.out; omega)).mono ?_
  rintro e W12 ⟨rfl, -, t9⟩
  have on := turn_only t9
  have HZ : Hid (Lz w V1 [(W4.heap.size, d.cells), (w.heap.size, b0.cells)] [d, b0] [(W7.heap.size, g.cells)] [(g, W6.heap.size, W7.heap.size)] W12) := HZ1.out.only on (by have h0 := HN0.out; have h1 := HN1.out; omega) (by
    have h3 := HN3.out
    simp only [List.forall_mem_cons, List.not_mem_nil, false_implies, implies_true, and_true]
    exact .inr (by omega)) (by
    simp only [List.forall_mem_cons, List.not_mem_nil, false_implies, implies_true, and_true]
    exact .inr (Nat.le_refl _))
  clear on t9 HZ1 HI
  have nk : ¬ ((1 : Int) + x0.total + 8 * n < 0) := (by omega)
  have nkb : decide ((1 : Int) + x0.total + 8 * n < 0) = false := (by simpa using nk)
  have HRG : Hid (World.rangeAt _ W7.heap.size 0 g.cells) := (HZ.out.n (W7.heap.size, g.cells) (by simp)).1
  have HRDD : Hid (World.rangeAt _ W4.heap.size 0 d.cells) := (HZ.out.st.r (W4.heap.size, d.cells) (by simp)).1
  go_wp2_with (first
      | (refine load_want (by rfl) 29 _ rfl W7.heap.size 0 rfl g.cells _ HRG.out Tryz.underlying29 rfl (by kernel_rfl) ?_)
      | (refine load_want (by rfl) 29 _ rfl W4.heap.size 0 rfl d.cells _ HRDD.out Tryz.underlying29 rfl (by kernel_rfl) ?_))
  clear nk nkb
  refine (eqt_any g d _ (HZ.out.o (g, W6.heap.size, W7.heap.size) (by simp)).1.at (HZ.out.st.a d (by simp)) HGM.out (Nat.le_trans HTG.out (by omega))).mono ?_
  rintro e W13 ⟨rfl, hb⟩
  replace HZ : Hid (Lz w V1 [(W4.heap.size, d.cells), (w.heap.size, b0.cells)] [d, b0] [(W7.heap.size, g.cells)] [(g, W6.heap.size, W7.heap.size)] W13) := HZ.out.later hb
  clear hb HRG HRDD
  have HRG : Hid (World.rangeAt _ W7.heap.size 0 g.cells) := (HZ.out.n (W7.heap.size, g.cells) (by simp)).1
  go_wp2_with (first
      | refine wpList_load_mid rfl 29 _ rfl (W7.heap.size) 0 rfl g.cells _ HRG.out Tryz.underlying29 rfl (by kernel_rfl) ?_)
  refine (Book.mark_any g 1 W6.heap.size W7.heap.size _ (HZ.out.o (g, W6.heap.size, W7.heap.size) (by simp)).2 (HZ.out.o (g, W6.heap.size, W7.heap.size) (by simp)).1 (Nat.le_trans HTG.out (by omega)) (by omega) (by omega)).mono ?_
  rintro e W14 ⟨rfl, gk, on⟩
  have hz : W7.heap.size ≤ W14.heap.size := Nat.le_trans (HZ.out.o (g, W6.heap.size, W7.heap.size) (by simp)).2 on.size
  have HZ1 : Hid (Lz w V1 [(W4.heap.size, d.cells), (w.heap.size, b0.cells)] [d, b0] [(W7.heap.size, g.cells)] [(g.mkd 1, W6.heap.size, W7.heap.size)] W14) := ((HZ.out.take (ns' := [(W7.heap.size, g.cells)]) (os' := []) (by simp) (by simp)).only on (by have h0 := HN0.out; have h1 := HN1.out; have h2 := HN2.out; omega) (by
    simp only [List.forall_mem_cons, List.not_mem_nil, false_implies, implies_true, and_true]
    exact .inr (Nat.le_refl _)) (by simp)).own gk hz
  clear on gk hz HRG HZ
  have HZ := HZ1
  clear HZ1
  have HRG : Hid (World.rangeAt _ W7.heap.size 0 g.cells) := (HZ.out.n (W7.heap.size, g.cells) (by simp)).1
  go_wp2_with (first
      | refine wpList_load_mid rfl 29 _ rfl (W7.heap.size) 0 rfl g.cells _ HRG.out Tryz.underlying29 rfl (by kernel_rfl) ?_)
  refine (Book.held_any g 1 _ (HZ.out.o (g.mkd 1, W6.heap.size, W7.heap.size) (by simp)).1.at (Nat.le_trans HTG.out (by omega)) (by omega) (by omega)).mono ?_
  rintro e W15 ⟨rfl, hb⟩
  replace HZ : Hid (Lz w V1 [(W4.heap.size, d.cells), (w.heap.size, b0.cells)] [d, b0] [(W7.heap.size, g.cells)] [(g.mkd 1, W6.heap.size, W7.heap.size)] W15) := HZ.out.later hb
  clear hb HRG
  have tg := HTG.out
  have nk : ¬ ((1 : Int) + g.total < 0) := (by omega)
  have nkb : decide ((1 : Int) + g.total < 0) = false := (by simpa using nk)
  clear tg
  have HRB : Hid (World.rangeAt _ w.heap.size 0 b0.cells) := (HZ.out.st.r (w.heap.size, b0.cells) (by simp)).1
  go_wp2_with (refine wpList_load_mid rfl 25 _ rfl w.heap.size 0 rfl b0.cells _ HRB.out Tryz.underlying25 rfl (by kernel_rfl) ?_)
  clear nk nkb
  refine (Book.to_any b0 _ (HZ.out.st.a b0 (by simp)) m0).mono ?_
  rintro e W16 ⟨c9, rfl, k0, o0, hb⟩
  have HK9 : Hid (c9.m = c0.m) := k0.trans HK0.out.symm
  have HTX9 : Hid (c9.total ≤ 1000000000) := (by rw [Book.total_m k0]; exact m0)
  have HA9 : Hid (c9.At W16 ∧ c9.o.n ≤ c9.o.c) := ⟨o0.at, o0.cap⟩
  replace HZ : Hid (Lz w V1 [(W4.heap.size, d.cells), (w.heap.size, b0.cells)] [d, b0] [(W7.heap.size, g.cells)] [(g.mkd 1, W6.heap.size, W7.heap.size)] W16) := HZ.out.later hb
  clear k0 o0 hb HRB
  go_wp2_with (fail)
  refine (copy_res la n cc gi W16 (HL.out.later HZ.out.st.b) nn).mono ?_
  rintro e W17 ⟨s9, rfl, hi, hb⟩
  replace HZ : Hid (Lz w V1 [(W4.heap.size, d.cells), (w.heap.size, b0.cells)] [d, b0] [(W7.heap.size, g.cells)] [(g.mkd 1, W6.heap.size, W7.heap.size)] W17) := HZ.out.later hb
  replace HA9 : Hid (c9.At W17 ∧ c9.o.n ≤ c9.o.c) := ⟨HA9.out.1.later hb, HA9.out.2⟩
  have HI9 : Hid (Ti.RowT W17 s9 n gi) := hi.row
  clear hi hb
  go_wp2_with (fail)
  refine (tbook_any (a := a) c9 c0 s9 n n gi _ HA9.out.1 HTX9.out HA9.out.2 HI9.out (HEa.out.later HZ.out.st.b) HK9.out (hrun_of HQ.out)).mono ?_
  rintro e W18 ⟨h, r', rfl, hp, ho, hb⟩
  obtain ⟨hm, er⟩ := tb_met HK9.out hp HQ.out
  subst er
  have HHM : Hid (h.trim.m = d.trim.m) := hm
  have HTT : Hid (h.total ≤ 1000) := (by rw [trim_total hm]; exact tbs_total HQ.out)
  have HP0 : Hid (Lz w V1 [(W4.heap.size, d.cells), (w.heap.size, b0.cells)] [d, b0] [(W18.heap.size, h.cells), (W7.heap.size, g.cells)] [(h, W17.heap.size, W18.heap.size), (g.mkd 1, W6.heap.size, W7.heap.size)] _) := ((HZ.out.later hb).own ho (Nat.le_refl _)).put h 29
  have HTH : Hid (World.there _ W18.heap.size 0 _) := (mk_book W18 29 h).1
  clear hm hp ho hb HZ HA9 HI9
  go_wp2_with (with_reducible refine halt_at (.store 29 (.tmp 15) (.tmp 100)) rfl ?_)
  unfold Hid
  refine wpList_store_mid rfl 29 _ _ rfl W18.heap.size 0 h.cells.toArray rfl rfl HTH.out (by kernel_rfl) (cells_one _) ?_
  clear HTH
  generalize World.setCells _ _ _ _ = V4 at HP0 ⊢
  have HZ : Hid (Lz w V1 [(W4.heap.size, d.cells), (w.heap.size, b0.cells)] [d, b0] [(W18.heap.size, h.cells), (W7.heap.size, g.cells)] [(h, W17.heap.size, W18.heap.size), (g.mkd 1, W6.heap.size, W7.heap.size)] V4) := HP0.out
  clear HP0
  have HRH : Hid (World.rangeAt _ W18.heap.size 0 h.cells) := (HZ.out.n (W18.heap.size, h.cells) (by simp)).1
  have HRDD : Hid (World.rangeAt _ W4.heap.size 0 d.cells) := (HZ.out.st.r (W4.heap.size, d.cells) (by simp)).1
  go_wp2_with (first
      | refine wpList_load_mid rfl 29 _ rfl (W18.heap.size) 0 rfl h.cells _ HRH.out Tryz.underlying29 rfl (by kernel_rfl) ?_
      | refine wpList_load_mid rfl 29 _ rfl (W4.heap.size) 0 rfl d.cells _ HRDD.out Tryz.underlying29 rfl (by kernel_rfl) ?_)
  refine (eqt_any h d _ (HZ.out.o (h, W17.heap.size, W18.heap.size) (by simp)).1.at (HZ.out.st.a d (by simp)) HHM.out (Nat.le_trans HTT.out (by omega))).mono ?_
  rintro e W19 ⟨rfl, hb⟩
  replace HZ : Hid (Lz w V1 [(W4.heap.size, d.cells), (w.heap.size, b0.cells)] [d, b0] [(W18.heap.size, h.cells), (W7.heap.size, g.cells)] [(h, W17.heap.size, W18.heap.size), (g.mkd 1, W6.heap.size, W7.heap.size)] W19) := HZ.out.later hb
  clear hb HRH HRDD
  have HRG : Hid (World.rangeAt _ W7.heap.size 0 g.cells) := (HZ.out.n (W7.heap.size, g.cells) (by simp)).1
  go_wp2_with (first
      | refine wpList_load_mid rfl 29 _ rfl (W7.heap.size) 0 rfl g.cells _ HRG.out Tryz.underlying29 rfl (by kernel_rfl) ?_)
  refine (Book.held_any g 1 _ (HZ.out.o (g.mkd 1, W6.heap.size, W7.heap.size) (by simp)).1.at (Nat.le_trans HTG.out (by omega)) (by omega) (by omega)).mono ?_
  rintro e W20 ⟨rfl, hb⟩
  replace HZ : Hid (Lz w V1 [(W4.heap.size, d.cells), (w.heap.size, b0.cells)] [d, b0] [(W18.heap.size, h.cells), (W7.heap.size, g.cells)] [(h, W17.heap.size, W18.heap.size), (g.mkd 1, W6.heap.size, W7.heap.size)] W20) := HZ.out.later hb
  clear hb HRG
  have tg := HTG.out
  have nk : ¬ ((1 : Int) + g.total < 0) := (by omega)
  have nkb : decide ((1 : Int) + g.total < 0) = false := (by simpa using nk)
  clear tg
  go_wp2_with (fail)
  go_ret
  exact ⟨rfl, HZ.out.st.b⟩
end Go.Proofs.YtbeamigbcfkjjaaGreatDoor.Dra

import Derived.Test.YtbipolfbkemmpaaDoorM47

/- A call is drawn. -/
namespace Go.Proofs.YtbipolfbkemmpaaDoor.Book
open Go.ChangeShapes Go.WideShapes Go.ChangeAt Go.RowKit
open Aid Lst Draw
set_option maxRecDepth 100000
set_option linter.unusedVariables false

theorem lit3_get (w : World) (A B : Obj) (t : TypeId) (xs : List Int) : ∀ i, i < xs.length → (((w.alloc A).alloc B).alloc (.cells (ints xs).toArray t)).cell? ⟨w.heap.size + 1 + 1, i, none⟩ = some (.int .i64 (xs.getD i 0)) := fun i hi => by
  have := lit_get ((w.alloc A).alloc B) t xs i hi
  simpa using this

set_option maxHeartbeats 16000000 in
theorem lop_any (r : Nat) (ra : Option Addr) (rl rc : Nat) (zs : List Int) (p : Int) (b : Bx) (w : World) (hr : Rd w r ra rl rc zs p) (hp : p ≤ 1000000000) (ha : b.At w) (ho : b.Off r w.heap.size) (on : b.o.n ≤ 1000) (ob : ∀ u, u < b.o.n → 0 ≤ b.o.f u ∧ b.o.f u ≤ 1000) :
    Calls Tryd.prog 26 #[.pointer (some ⟨r, 0, none⟩), .agg b.cells.toArray] w fun e w' => OpQ w r ra rl rc zs (p + 10) e w' := by
  have p0 := hr.p0
  have rlt := hr.lt
  have old := hr.old
  have R3 := rd_later hr (below3 w (.cells b.cells.toArray 26) (.cells z4.toArray 28) (.cells #[.int .i64 1, .int .i64 2, .int .i64 2, .int .i64 2, .int .i64 2, .int .i64 3, .int .i64 3, .int .i64 3, .int .i64 4, .int .i64 5, .int .i64 6, .int .i64 6] 3))
  have E3 := range_lit b.cells.toArray (heap3_0 w (.cells b.cells.toArray 26) (.cells z4.toArray 28) (.cells #[.int .i64 1, .int .i64 2, .int .i64 2, .int .i64 2, .int .i64 2, .int .i64 3, .int .i64 3, .int .i64 3, .int .i64 4, .int .i64 5, .int .i64 6, .int .i64 6] 3))
  have T3 := ck_lit z4.toArray (heap3_1 w (.cells b.cells.toArray 26) (.cells z4.toArray 28) (.cells #[.int .i64 1, .int .i64 2, .int .i64 2, .int .i64 2, .int .i64 2, .int .i64 3, .int .i64 3, .int .i64 3, .int .i64 4, .int .i64 5, .int .i64 6, .int .i64 6] 3))
  have B3 := below3 w (.cells b.cells.toArray 26) (.cells z4.toArray 28) (.cells #[.int .i64 1, .int .i64 2, .int .i64 2, .int .i64 2, .int .i64 2, .int .i64 3, .int .i64 3, .int .i64 3, .int .i64 4, .int .i64 5, .int .i64 6, .int .i64 6] 3)
  have X3' : ∀ i, i < 12 → (((w.alloc (.cells b.cells.toArray 26)).alloc (.cells z4.toArray 28)).alloc (.cells #[.int .i64 1, .int .i64 2, .int .i64 2, .int .i64 2, .int .i64 2, .int .i64 3, .int .i64 3, .int .i64 3, .int .i64 4, .int .i64 5, .int .i64 6, .int .i64 6] 3)).cell? ⟨w.heap.size + 1 + 1, i, none⟩ = some (.int .i64 (([1, 2, 2, 2, 2, 3, 3, 3, 4, 5, 6, 6] : List Int).getD i 0)) := lit3_get w _ _ 3 [1, 2, 2, 2, 2, 3, 3, 3, 4, 5, 6, 6]
  have z3 : w.heap.size + 3 ≤ (((w.alloc (.cells b.cells.toArray 26)).alloc (.cells z4.toArray 28)).alloc (.cells #[.int .i64 1, .int .i64 2, .int .i64 2, .int .i64 2, .int .i64 2, .int .i64 3, .int .i64 3, .int .i64 3, .int .i64 4, .int .i64 5, .int .i64 6, .int .i64 6] 3)).heap.size := by simp
  simp only [Bx.cells, z4] at R3 E3 T3 B3 X3' z3 ⊢
  have HE : Hid (World.rangeAt _ w.heap.size 0 b.cells) := E3
  have HT3 : Hid (Ck _ (w.heap.size + 1) z4) := T3
  have HR3 : Hid (Rd _ r ra rl rc zs p) := R3
  have HB3 : Hid (Below w.heap.size w _) := B3
  have HX3 : Hid (∀ i, i < 12 → _) := X3'
  clear E3 T3 R3 B3 X3'
  go_enter Tryd.func26, Tryd.ntmps26
  go_wp2_with (fail)
  refine (num_any r ra rl rc zs p _ HR3.out (by omega) (w.heap.size + 1 + 1) 12 12 [1, 2, 2, 2, 2, 3, 3, 3, 4, 5, 6, 6] (by omega) (by omega) (by omega) HX3.out).mono ?_
  rintro e w4 ⟨k4, k4', rfl, rd4, sv4⟩
  have E4 := range_save sv4 HE.out (by omega) (by omega)
  have T4 := ck_save HT3.out sv4 (by omega) (by omega)
  have V4 : Save r w w4 := (save_of HB3.out).trans sv4
  have z4' := sv4.size
  clear HE HT3 HR3 HX3 HB3 sv4
  generalize (([1, 2, 2, 2, 2, 3, 3, 3, 4, 5, 6, 6] : List Int).getD k4 0) = kd
  have HE : Hid (World.rangeAt _ w.heap.size 0 b.cells) := E4
  have HT4 : Hid (Ck _ (w.heap.size + 1) z4) := T4
  clear E4 T4
  go_wp2_with (fail)
  refine (pick_on r ra rl rc zs (p + 1) 3 _ rd4 (by omega)).mono ?_
  rintro e w5 ⟨sl, rfl, sl0, sl1, -, rd5, sv5⟩
  have E5 := range_save sv5 HE.out (by omega) (by omega)
  have T5 := ck_save HT4.out sv5 (by omega) (by omega)
  have V5 : Save r w w5 := V4.trans sv5
  have z5 := sv5.size
  clear HE HT4 V4 sv5 rd4
  have hb5 := below1 w5 (.cells #[.int .i64 kd, .int .i64 sl, .int .i64 0, .int .i64 0] 28)
  have S : Lo w r ra rl rc zs (p + 2) b w5.heap.size ⟨kd, sl, 0, 0⟩ (w5.alloc (.cells #[.int .i64 kd, .int .i64 sl, .int .i64 0, .int .i64 0] 28)) :=
    ⟨range_below hb5 E5 (by omega), T5.below hb5 (by omega), ck_lit #[.int .i64 kd, .int .i64 sl, .int .i64 0, .int .i64 0] (heap1_0 w5 _), ⟨p + 1 + 1, by omega, rd_later rd5 hb5⟩, V5.trans (save_of hb5), by omega, by simp, hr.old, hr.lt⟩
  have HS : Hid (Lo _ _ _ _ _ _ _ _ _ _ _) := S
  clear S E5 T5 V5 rd5 hb5
  by_cases k2 : kd = 2
  · subst k2
    have S7 := HS.out.later (below1 (w5.alloc (.cells #[.int .i64 2, .int .i64 sl, .int .i64 0, .int .i64 0] 28)) (.cells #[.int .i64 1, .int .i64 1, .int .i64 2, .int .i64 2, .int .i64 3, .int .i64 4, .int .i64 5, .int .i64 8, .int .i64 9, .int .i64 16, .int .i64 17, .int .i64 24, .int .i64 32, .int .i64 33, .int .i64 0] 3))
    have HX : ∀ i, i < 15 → (World.alloc (w5.alloc (.cells #[.int .i64 2, .int .i64 sl, .int .i64 0, .int .i64 0] 28)) (.cells #[.int .i64 1, .int .i64 1, .int .i64 2, .int .i64 2, .int .i64 3, .int .i64 4, .int .i64 5, .int .i64 8, .int .i64 9, .int .i64 16, .int .i64 17, .int .i64 24, .int .i64 32, .int .i64 33, .int .i64 0] 3)).cell? ⟨w5.heap.size + 1, i, none⟩ = some (.int .i64 (([1, 1, 2, 2, 3, 4, 5, 8, 9, 16, 17, 24, 32, 33, 0] : List Int).getD i 0)) := fun i hi => by
      have := lit_get (w5.alloc (.cells #[.int .i64 2, .int .i64 sl, .int .i64 0, .int .i64 0] 28)) 3 [1, 1, 2, 2, 3, 4, 5, 8, 9, 16, 17, 24, 32, 33, 0] i hi
      rw [show (World.alloc (w5.alloc (.cells #[.int .i64 2, .int .i64 sl, .int .i64 0, .int .i64 0] 28)) (.cells (ints [1, 1, 2, 2, 3, 4, 5, 8, 9, 16, 17, 24, 32, 33, 0]).toArray 3)).cell? ⟨(World.heap (w5.alloc (.cells #[.int .i64 2, .int .i64 sl, .int .i64 0, .int .i64 0] 28))).size, i, none⟩ = (World.alloc (w5.alloc (.cells #[.int .i64 2, .int .i64 sl, .int .i64 0, .int .i64 0] 28)) (.cells #[.int .i64 1, .int .i64 1, .int .i64 2, .int .i64 2, .int .i64 3, .int .i64 4, .int .i64 5, .int .i64 8, .int .i64 9, .int .i64 16, .int .i64 17, .int .i64 24, .int .i64 32, .int .i64 33, .int .i64 0] 3)).cell? ⟨w5.heap.size + 1, i, none⟩ by simp [ints]] at this
      exact this
    have HS7 : Hid (Lo _ _ _ _ _ _ _ _ _ _ _) := S7
    have HZZ : Hid (∀ i, i < 15 → _) := HX
    clear HS S7 HX
    go_wp2_with (fail)
    generalize World.alloc (w5.alloc (.cells #[.int .i64 2, .int .i64 sl, .int .i64 0, .int .i64 0] 28)) (.cells #[.int .i64 1, .int .i64 1, .int .i64 2, .int .i64 2, .int .i64 3, .int .i64 4, .int .i64 5, .int .i64 8, .int .i64 9, .int .i64 16, .int .i64 17, .int .i64 24, .int .i64 32, .int .i64 33, .int .i64 0] 3) = W7 at HS7 HZZ ⊢
    obtain ⟨p7, p7', hd7⟩ := HS7.out.d
    refine (num_any r ra rl rc zs p7 _ hd7 (by omega) (w5.heap.size + 1) 15 15 [1, 1, 2, 2, 3, 4, 5, 8, 9, 16, 17, 24, 32, 33, 0] (by omega) (by omega) (by omega) HZZ.out).mono ?_
    rintro e w8 ⟨k8, k8', rfl, rd8, sv8⟩
    have S := HS7.out.read sv8 rd8 (by omega)
    clear HS7 HZZ hd7 rd8 sv8
    generalize (([1, 1, 2, 2, 3, 4, 5, 8, 9, 16, 17, 24, 32, 33, 0] : List Int).getD k8 0) = av
    obtain ⟨o0, o1, o2, o3⟩ := S.p.four
    have o2f := (S.p 2 _ rfl).2
    simp only at o0 o1 o2 o3
    replace S := S.set (o' := ⟨2, sl, av, 0⟩) 2 av rfl
    have HS : Hid (Lo _ _ _ _ _ _ _ _ _ _ _) := S
    clear S
    go_wp2_with (fail)
    clear o0 o1 o2 o3 o2f
    generalize World.setCell _ _ _ = W9 at HS ⊢
    generalize w5.heap.size = v at HS ⊢
    have S := HS.out
    clear HS
    obtain ⟨p9, p9', hd9⟩ := S.d
    have HS : Hid (Lo w r ra rl rc zs _ b v ⟨2, sl, av, 0⟩ _) := S
    clear S
    refine (pick_on r ra rl rc zs p9 20 _ hd9 (by omega)).mono ?_
    rintro e w9 ⟨x9, rfl, x90, x91, -, rd9, sv9⟩
    have S := HS.out.read sv9 rd9 (by omega)
    clear HS hd9 rd9 sv9
    obtain ⟨o0, o1, o2, o3⟩ := S.p.four
    have o0f := (S.p 0 _ rfl).2
    simp only at o0 o1 o2 o3
    by_cases z9 : x9 = 0
    · subst z9
      have S10 := S.later (below1 w9 (.cells #[.int .i64 0, .int .i64 7, .int .i64 (-1)] 3))
      have H10 : Hid (Lo w r ra rl rc zs _ b v ⟨2, sl, av, 0⟩ _) := S10
      obtain ⟨p8, p8', hd8⟩ := S10.d
      have HX : Hid (∀ i, i < 3 → (w9.alloc (.cells #[.int .i64 0, .int .i64 7, .int .i64 (-1)] 3)).cell? ⟨w9.heap.size, i, none⟩ = some (.int .i64 (([0, 7, -1] : List Int).getD i 0))) := lit_get w9 3 [0, 7, -1]
      have rlt := S.r0
      have slt := S.s.size
      clear S S10
      go_wp2_with (fail)
      refine (num_any r ra rl rc zs p8 _ hd8 (by omega) w9.heap.size 3 3 [0, 7, -1] (by omega) (by omega) (by omega) HX.out).mono ?_
      rintro e w11 ⟨k11, k11', rfl, rd11, sv11⟩
      have S := H10.out.read sv11 rd11 (by omega)
      clear H10 HX hd8 rd11 sv11 o0 o1 o2 o3 o0f
      generalize (([0, 7, -1] : List Int).getD k11 0) = kk
      obtain ⟨o0, o1, o2, o3⟩ := S.p.four
      have o0f := (S.p 0 _ rfl).2
      simp only at o0 o1 o2 o3
      replace S := S.set (o' := ⟨kk, sl, av, 0⟩) 0 kk rfl
      obtain ⟨a1, a2, a3, a4⟩ := S.ans
      have HA : Hid (_ ∧ _ ∧ _) := ⟨a1, a2, a3⟩
      have HT : Hid (World.there _ (w.heap.size + 1) 0 4) := a4
      have HP : Hid (World.rangeAt _ v 0 (Ox.cells ⟨kk, sl, av, 0⟩)) := S.p.range
      clear S a1 a2 a3 a4
      go_wp2_with (first | (refine wpList_load_mid rfl 28 _ rfl v 0 rfl (Ox.cells ⟨kk, sl, av, 0⟩) _ HP.out Tryd.underlying28 rfl (by kernel_rfl) ?_) | (refine wpList_store_mid rfl 28 _ _ rfl (w.heap.size + 1) 0 (Ox.cells ⟨kk, sl, av, 0⟩).toArray rfl rfl HT.out (by kernel_rfl) (ox_one _) ?_))
      obtain ⟨q1, ⟨q, q2, q3⟩, q4⟩ := HA.out
      exact bodyPost_ret (results_cell_mid rfl _ _ (w.heap.size + 1) 0 _ _ rfl q1 Tryd.underlying28 rfl (by kernel_rfl)) rfl ⟨⟨kk, sl, av, 0⟩, rfl, ⟨q, by omega, q3⟩, q4⟩
    · clear o0 o1 o2 o3 o0f
      obtain ⟨a1, a2, a3, a4⟩ := S.ans
      have HA : Hid (_ ∧ _ ∧ _) := ⟨a1, a2, a3⟩
      have HT : Hid (World.there _ (w.heap.size + 1) 0 4) := a4
      have HP : Hid (World.rangeAt _ v 0 (Ox.cells ⟨2, sl, av, 0⟩)) := S.p.range
      clear S a1 a2 a3 a4
      go_wp2_with (first | (refine wpList_load_mid rfl 28 _ rfl v 0 rfl (Ox.cells ⟨2, sl, av, 0⟩) _ HP.out Tryd.underlying28 rfl (by kernel_rfl) ?_) | (refine wpList_store_mid rfl 28 _ _ rfl (w.heap.size + 1) 0 (Ox.cells ⟨2, sl, av, 0⟩).toArray rfl rfl HT.out (by kernel_rfl) (ox_one _) ?_))
      obtain ⟨q1, ⟨q, q2, q3⟩, q4⟩ := HA.out
      exact bodyPost_ret (results_cell_mid rfl _ _ (w.heap.size + 1) 0 _ _ rfl q1 Tryd.underlying28 rfl (by kernel_rfl)) rfl ⟨⟨2, sl, av, 0⟩, rfl, ⟨q, by omega, q3⟩, q4⟩
  by_cases k3 : kd = 3
  · subst k3
    have u6 := HS.out.e 6 _ rfl
    simp only [Nat.zero_add] at u6
    have OB : Hid (∀ u, u < b.o.n → 0 ≤ b.o.f u ∧ b.o.f u ≤ 1000) := ob
    clear ob
    go_wp2_with (fail)
    generalize (w5.alloc (.cells #[.int .i64 3, .int .i64 sl, .int .i64 0, .int .i64 0] 28)) = W6 at HS u6 ⊢
    generalize w5.heap.size = v at HS ⊢
    clear u6
    obtain ⟨p7, p7', hd7⟩ := HS.out.d
    refine (pick_on r ra rl rc zs p7 _ _ hd7 (by omega)).mono ?_
    rintro e w8 ⟨x8, rfl, x80, x81, -, rd8, sv8⟩
    have x82 := x81 (by omega)
    have S := HS.out.read sv8 rd8 (by omega)
    clear HS hd7 rd8 sv8 x81
    obtain ⟨o0, o1, o2, o3⟩ := S.p.four
    have o2f := (S.p 2 _ rfl).2
    simp only at o0 o1 o2 o3
    replace S := S.set (o' := ⟨3, sl, x8 - 1, 0⟩) 2 (x8 - 1) rfl
    have HS : Hid (Lo _ _ _ _ _ _ _ _ _ _ _) := S
    clear S
    go_wp2_with (fail)
    clear o0 o1 o2 o3 o2f
    obtain ⟨w9, h9⟩ : ∃ w9, w9 = w8.setCell ⟨v, 2, none⟩ (.int .i64 (x8 - 1)) := ⟨_, rfl⟩
    have s9 : w9.heap.size = w8.heap.size := by rw [h9]; simp [World.setCell]
    rw [← s9, ← h9]
    rw [← h9] at HS
    clear h9 s9
    have z9w : w.heap.size ≤ w9.heap.size := HS.out.s.size
    go_loopw [6, 7] (fun l i wr => ∃ (u : Nat) (y : Sx), u ≤ b.o.n ∧ i = .int .i64 u ∧ Hid (l = .slice y.a y.n y.c) ∧ y.n ≤ u ∧ (∀ j, j < y.n → 0 ≤ y.f j ∧ y.f j < b.o.n) ∧ y.Hl w.heap.size wr ∧ (∀ j o, y.a = some ⟨j, o, none⟩ → w9.heap.size ≤ j) ∧ Below w9.heap.size w9 wr) (fun _ i _ => b.o.n - (intOf i).toNat)
    case atStart => exact ⟨0, ⟨some ⟨w9.heap.size, 0, none⟩, 0, 0, fun _ => 0⟩, by omega, rfl, rfl, Nat.le_refl _, fun j hj => absurd hj (Nat.not_lt_zero j), ⟨Nat.le_refl _, .inl rfl⟩, fun j o e => by cases e; exact Nat.le_refl _, below1 _ _⟩
    case round =>
      obtain ⟨u, y, hu, rfl, HL, yn, yf, yh, ya, hb⟩ := hrel
      have Sr := HS.out.later hb
      have zr := Sr.s.size
      have bat := Sr.at ha ho
      have u6 := Sr.e 6 _ rfl
      simp only [Nat.zero_add] at u6
      have YF : Hid (∀ j, j < y.n → 0 ≤ y.f j ∧ y.f j < b.o.n) := yf
      have YH : Hid (y.Hl w.heap.size wr) := yh
      have YA : Hid (∀ j o, y.a = some ⟨j, o, none⟩ → w9.heap.size ≤ j) := ya
      have HB9 : Hid (Below w9.heap.size w9 wr) := hb
      have HSR : Hid (Lo _ _ _ _ _ _ _ _ _ _ _) := Sr
      clear yf yh ya hb Sr
      by_cases hlt : (u : Int) < b.o.n
      · obtain ⟨ko, oo, eo, hco⟩ := bat.o.cells (by omega)
        rw [eo] at u6
        have c1 := hco u (by omega)
        clear hco bat eo
        by_cases e0 : 0 < b.o.f u
        · go_wp2_with (refine wpList_app1 rfl _ _ y (u : Int) w.heap.size _ wr.heap.size 0 1 rfl (by rw [HL.out]; rfl) rfl (YH.out.later (below1 _ _)) (by simp; omega) (by omega) (ck_lit #[.int .i64 (u : Int)] (heap1_0 wr _) 0 _ rfl).1 ?_)
          intro rv w8' hq
          obtain ⟨y', hrv, yn', yf', yh', yw⟩ := hq
          have HL' : Hid (rv = .slice y'.a y'.n y'.c) := hrv
          have R8 : Hid ((∀ j o, y'.a = some ⟨j, o, none⟩ → w9.heap.size ≤ j) ∧ Below w9.heap.size w9 w8') := by
            have hb := HB9.out
            have b1 := hb.trans ((below1 wr (.cells #[.int .i64 (u : Int)] 3)).mono hb.size)
            have s8 := b1.size
            rcases yw with ⟨k1, o1, e1, e2, e3, e4, rfl⟩ | ⟨e1, g, hs⟩
            · exact ⟨fun j o e => YA.out j o (by rw [← e2]; exact e), b1.setCell (p := ⟨k1, o1 + y.n, none⟩) (YA.out k1 o1 e1) _⟩
            · exact ⟨fun j o e => by rw [e1] at e; cases e; exact s8, b1.trans (g.mono s8)⟩
          have YH' : Hid (y'.Hl w.heap.size w8') := yh'
          have YF' : Hid (∀ j, j < y'.n → 0 ≤ y'.f j ∧ y'.f j < b.o.n) := fun j hj => by
            rw [yf']
            simp only [upd]
            split
            · omega
            · exact YF.out j (by omega)
          have yn2 : y'.n ≤ u + 1 := by omega
          clear hrv yn' yf' yh' yw c1 u6
          go_wp2_with (fail)
          go_roundw
          case rel => exact ⟨u + 1, y', by omega, by go_num, HL', yn2, YF'.out, YH'.out, R8.out.1, R8.out.2⟩
          case measure => simp [intOf]; omega
        · go_wp2_with (fail)
          go_roundw
          case rel => exact ⟨u + 1, y, by omega, by go_num, HL, by omega, YF.out, YH.out, YA.out, HB9.out⟩
          case measure => simp [intOf]; omega
      · have hl := HL.out
        subst hl
        clear HS
        by_cases y0 : y.n = 0
        · rw [y0]
          go_wp2_with (fail)
          have S := HSR.out
          clear HSR
          obtain ⟨p6, p6', hd6⟩ := S.d
          have HS : Hid (Lo _ _ _ _ _ _ _ _ _ _ _) := S
          clear S
          refine (pick_on r ra rl rc zs p6 4 _ hd6 (by omega)).mono ?_
          rintro e w12 ⟨x12, rfl, x120, x121, -, rd12, sv12⟩
          have x122 := x121 (by omega)
          have S := HS.out.read sv12 rd12 (by omega)
          clear HS hd6 rd12 sv12 x121
          obtain ⟨o0, o1, o2, o3⟩ := S.p.four
          have o3f := (S.p 3 _ rfl).2
          simp only at o0 o1 o2 o3
          replace S := S.set (o' := ⟨3, sl, x8 - 1, x12 - 1⟩) 3 (x12 - 1) rfl
          have HS : Hid (Lo _ _ _ _ _ _ _ _ _ _ _) := S
          clear S
          go_wp2_with (fail)
          clear o0 o1 o2 o3 o3f
          generalize World.setCell _ _ _ = W13 at HS ⊢
          have S := HS.out
          clear HS
          obtain ⟨p9, p9', hd9⟩ := S.d
          have HS : Hid (Lo w r ra rl rc zs _ b v ⟨3, sl, x8 - 1, x12 - 1⟩ _) := S
          clear S
          refine (pick_on r ra rl rc zs p9 20 _ hd9 (by omega)).mono ?_
          rintro e w9 ⟨x9, rfl, x90, x91, -, rd9, sv9⟩
          have S := HS.out.read sv9 rd9 (by omega)
          clear HS hd9 rd9 sv9
          obtain ⟨o0, o1, o2, o3⟩ := S.p.four
          have o0f := (S.p 0 _ rfl).2
          simp only at o0 o1 o2 o3
          by_cases z9 : x9 = 0
          · subst z9
            have S10 := S.later (below1 w9 (.cells #[.int .i64 0, .int .i64 7, .int .i64 (-1)] 3))
            have H10 : Hid (Lo w r ra rl rc zs _ b v ⟨3, sl, x8 - 1, x12 - 1⟩ _) := S10
            obtain ⟨p8, p8', hd8⟩ := S10.d
            have HX : Hid (∀ i, i < 3 → (w9.alloc (.cells #[.int .i64 0, .int .i64 7, .int .i64 (-1)] 3)).cell? ⟨w9.heap.size, i, none⟩ = some (.int .i64 (([0, 7, -1] : List Int).getD i 0))) := lit_get w9 3 [0, 7, -1]
            have rlt := S.r0
            have slt := S.s.size
            clear S S10
            go_wp2_with (fail)
            refine (num_any r ra rl rc zs p8 _ hd8 (by omega) w9.heap.size 3 3 [0, 7, -1] (by omega) (by omega) (by omega) HX.out).mono ?_
            rintro e w11 ⟨k11, k11', rfl, rd11, sv11⟩
            have S := H10.out.read sv11 rd11 (by omega)
            clear H10 HX hd8 rd11 sv11 o0 o1 o2 o3 o0f
            generalize (([0, 7, -1] : List Int).getD k11 0) = kk
            obtain ⟨o0, o1, o2, o3⟩ := S.p.four
            have o0f := (S.p 0 _ rfl).2
            simp only at o0 o1 o2 o3
            replace S := S.set (o' := ⟨kk, sl, x8 - 1, x12 - 1⟩) 0 kk rfl
            obtain ⟨a1, a2, a3, a4⟩ := S.ans
            have HA : Hid (_ ∧ _ ∧ _) := ⟨a1, a2, a3⟩
            have HT : Hid (World.there _ (w.heap.size + 1) 0 4) := a4
            have HP : Hid (World.rangeAt _ v 0 (Ox.cells ⟨kk, sl, x8 - 1, x12 - 1⟩)) := S.p.range
            clear S a1 a2 a3 a4
            go_wp2_with (first | (refine wpList_load_mid rfl 28 _ rfl v 0 rfl (Ox.cells ⟨kk, sl, x8 - 1, x12 - 1⟩) _ HP.out Tryd.underlying28 rfl (by kernel_rfl) ?_) | (refine wpList_store_mid rfl 28 _ _ rfl (w.heap.size + 1) 0 (Ox.cells ⟨kk, sl, x8 - 1, x12 - 1⟩).toArray rfl rfl HT.out (by kernel_rfl) (ox_one _) ?_))
            obtain ⟨q1, ⟨q, q2, q3⟩, q4⟩ := HA.out
            exact bodyPost_ret (results_cell_mid rfl _ _ (w.heap.size + 1) 0 _ _ rfl q1 Tryd.underlying28 rfl (by kernel_rfl)) rfl ⟨⟨kk, sl, x8 - 1, x12 - 1⟩, rfl, ⟨q, by omega, q3⟩, q4⟩
          · clear o0 o1 o2 o3 o0f
            obtain ⟨a1, a2, a3, a4⟩ := S.ans
            have HA : Hid (_ ∧ _ ∧ _) := ⟨a1, a2, a3⟩
            have HT : Hid (World.there _ (w.heap.size + 1) 0 4) := a4
            have HP : Hid (World.rangeAt _ v 0 (Ox.cells ⟨3, sl, x8 - 1, x12 - 1⟩)) := S.p.range
            clear S a1 a2 a3 a4
            go_wp2_with (first | (refine wpList_load_mid rfl 28 _ rfl v 0 rfl (Ox.cells ⟨3, sl, x8 - 1, x12 - 1⟩) _ HP.out Tryd.underlying28 rfl (by kernel_rfl) ?_) | (refine wpList_store_mid rfl 28 _ _ rfl (w.heap.size + 1) 0 (Ox.cells ⟨3, sl, x8 - 1, x12 - 1⟩).toArray rfl rfl HT.out (by kernel_rfl) (ox_one _) ?_))
            obtain ⟨q1, ⟨q, q2, q3⟩, q4⟩ := HA.out
            exact bodyPost_ret (results_cell_mid rfl _ _ (w.heap.size + 1) 0 _ _ rfl q1 Tryd.underlying28 rfl (by kernel_rfl)) rfl ⟨⟨3, sl, x8 - 1, x12 - 1⟩, rfl, ⟨q, by omega, q3⟩, q4⟩
        · have y1 : (0 : Int) < y.n := by omega
          obtain ⟨ky, oy, ey, hcy⟩ := YH.out.at.cells (by omega)
          have ky9 := YA.out ky oy ey
          have HCY : Hid (∀ j, j < y.n → _) := hcy
          rw [ey]
          clear hcy
          go_wp2_with (fail)
          obtain ⟨p5, p5', hd5⟩ := HSR.out.d
          refine (pick_on r ra rl rc zs p5 5 _ hd5 (by omega)).mono ?_
          rintro e w14 ⟨x14, rfl, x140, x141, -, rd14, sv14⟩
          have S := HSR.out.read sv14 rd14 (by omega)
          have rlt' := S.r0
          have kyr : ky ≠ r := by omega
          have kys : ky < wr.heap.size := by
            have := HCY.out 0 (by omega)
            exact World.block_lt_of_cell? wr _ this
          have HCY2 : Hid (∀ j, j < y.n → w14.cell? ⟨ky, oy + j, none⟩ = some (.int .i64 (y.f j))) := fun j hj => by
            rw [sv14.cell (q := ⟨ky, oy + j, none⟩) kyr kys]; exact HCY.out j hj
          have ks14 : ky < w14.heap.size := Nat.lt_of_lt_of_le kys sv14.size
          clear HSR HCY hd5 rd14 sv14 x141
          by_cases z14 : 0 < x14
          · have HS : Hid (Lo _ _ _ _ _ _ _ _ _ _ _) := S
            clear S
            go_wp2_with (fail)
            obtain ⟨p4, p4', hd4⟩ := HS.out.d
            refine (pick_on r ra rl rc zs p4 y.n _ hd4 (by omega)).mono ?_
            rintro e w15 ⟨x15, rfl, x150, x151, -, rd15, sv15⟩
            have x152 := x151 (by omega)
            obtain ⟨j15, rfl⟩ := Int.eq_ofNat_of_zero_le x150
            have S := HS.out.read sv15 rd15 (by omega)
            have c15 : w15.cell? ⟨ky, oy + j15, none⟩ = some (.int .i64 (y.f j15)) := by
              rw [sv15.cell (q := ⟨ky, oy + j15, none⟩) kyr ks14]; exact HCY2.out j15 (by omega)
            obtain ⟨g0, g1⟩ := YF.out j15 (by omega)
            obtain ⟨A, hA⟩ : ∃ A : Nat, y.f j15 = A := ⟨(y.f j15).toNat, by omega⟩
            rw [hA] at c15 g1
            have jn : (j15 : Int) < y.n := by omega
            clear HS HCY2 hd4 rd15 sv15 x151 hA g0
            obtain ⟨o0, o1, o2, o3⟩ := S.p.four
            have o2f := (S.p 2 _ rfl).2
            simp only at o0 o1 o2 o3
            have S1 := S.set (o' := ⟨3, sl, A, 0⟩) 2 (A : Int) rfl
            obtain ⟨ko, oo, eo, hco⟩ := (S1.at ha ho).o.cells (by omega)
            have c16 := hco A (by omega)
            have u6' := S1.e 6 _ rfl
            simp only [Nat.zero_add] at u6'
            rw [eo] at u6'
            obtain ⟨q0, q1, q2, q3⟩ := S1.p.four
            have q1f := (S1.p 1 _ rfl).2
            simp only at q0 q1 q2 q3
            obtain ⟨g2, g3⟩ := OB.out A (by omega)
            have S2 := S1.set (o' := ⟨3, b.o.f A - 1, A, 0⟩) 1 (b.o.f A - 1) rfl
            have HS : Hid (Lo _ _ _ _ _ _ _ _ _ _ _) := S2
            clear S S1 S2 hco eo u6
            go_wp2_with (fail)
            clear o0 o1 o2 o3 o2f q0 q1 q2 q3 q1f c15 c16 u6'
            generalize World.setCell _ _ _ = W16 at HS ⊢
            have S := HS.out
            clear HS
            obtain ⟨p6, p6', hd6⟩ := S.d
            have HS : Hid (Lo _ _ _ _ _ _ _ _ _ _ _) := S
            clear S
            refine (pick_on r ra rl rc zs p6 4 _ hd6 (by omega)).mono ?_
            rintro e w12 ⟨x12, rfl, x120, x121, -, rd12, sv12⟩
            have x122 := x121 (by omega)
            have S := HS.out.read sv12 rd12 (by omega)
            clear HS hd6 rd12 sv12 x121
            obtain ⟨o0, o1, o2, o3⟩ := S.p.four
            have o3f := (S.p 3 _ rfl).2
            simp only at o0 o1 o2 o3
            replace S := S.set (o' := ⟨3, b.o.f A - 1, A, x12 - 1⟩) 3 (x12 - 1) rfl
            have HS : Hid (Lo _ _ _ _ _ _ _ _ _ _ _) := S
            clear S
            go_wp2_with (fail)
            clear o0 o1 o2 o3 o3f
            generalize World.setCell _ _ _ = W13 at HS ⊢
            have S := HS.out
            clear HS
            obtain ⟨p9, p9', hd9⟩ := S.d
            have HS : Hid (Lo w r ra rl rc zs _ b v ⟨3, b.o.f A - 1, A, x12 - 1⟩ _) := S
            clear S
            refine (pick_on r ra rl rc zs p9 20 _ hd9 (by omega)).mono ?_
            rintro e w9 ⟨x9, rfl, x90, x91, -, rd9, sv9⟩
            have S := HS.out.read sv9 rd9 (by omega)
            clear HS hd9 rd9 sv9
            obtain ⟨o0, o1, o2, o3⟩ := S.p.four
            have o0f := (S.p 0 _ rfl).2
            simp only at o0 o1 o2 o3
            by_cases z9 : x9 = 0
            · subst z9
              have S10 := S.later (below1 w9 (.cells #[.int .i64 0, .int .i64 7, .int .i64 (-1)] 3))
              have H10 : Hid (Lo w r ra rl rc zs _ b v ⟨3, b.o.f A - 1, A, x12 - 1⟩ _) := S10
              obtain ⟨p8, p8', hd8⟩ := S10.d
              have HX : Hid (∀ i, i < 3 → (w9.alloc (.cells #[.int .i64 0, .int .i64 7, .int .i64 (-1)] 3)).cell? ⟨w9.heap.size, i, none⟩ = some (.int .i64 (([0, 7, -1] : List Int).getD i 0))) := lit_get w9 3 [0, 7, -1]
              have rlt := S.r0
              have slt := S.s.size
              clear S S10
              go_wp2_with (fail)
              refine (num_any r ra rl rc zs p8 _ hd8 (by omega) w9.heap.size 3 3 [0, 7, -1] (by omega) (by omega) (by omega) HX.out).mono ?_
              rintro e w11 ⟨k11, k11', rfl, rd11, sv11⟩
              have S := H10.out.read sv11 rd11 (by omega)
              clear H10 HX hd8 rd11 sv11 o0 o1 o2 o3 o0f
              generalize (([0, 7, -1] : List Int).getD k11 0) = kk
              obtain ⟨o0, o1, o2, o3⟩ := S.p.four
              have o0f := (S.p 0 _ rfl).2
              simp only at o0 o1 o2 o3
              replace S := S.set (o' := ⟨kk, b.o.f A - 1, A, x12 - 1⟩) 0 kk rfl
              obtain ⟨a1, a2, a3, a4⟩ := S.ans
              have HA : Hid (_ ∧ _ ∧ _) := ⟨a1, a2, a3⟩
              have HT : Hid (World.there _ (w.heap.size + 1) 0 4) := a4
              have HP : Hid (World.rangeAt _ v 0 (Ox.cells ⟨kk, b.o.f A - 1, A, x12 - 1⟩)) := S.p.range
              clear S a1 a2 a3 a4
              go_wp2_with (first | (refine wpList_load_mid rfl 28 _ rfl v 0 rfl (Ox.cells ⟨kk, b.o.f A - 1, A, x12 - 1⟩) _ HP.out Tryd.underlying28 rfl (by kernel_rfl) ?_) | (refine wpList_store_mid rfl 28 _ _ rfl (w.heap.size + 1) 0 (Ox.cells ⟨kk, b.o.f A - 1, A, x12 - 1⟩).toArray rfl rfl HT.out (by kernel_rfl) (ox_one _) ?_))
              obtain ⟨q1, ⟨q, q2, q3⟩, q4⟩ := HA.out
              exact bodyPost_ret (results_cell_mid rfl _ _ (w.heap.size + 1) 0 _ _ rfl q1 Tryd.underlying28 rfl (by kernel_rfl)) rfl ⟨⟨kk, b.o.f A - 1, A, x12 - 1⟩, rfl, ⟨q, by omega, q3⟩, q4⟩
            · clear o0 o1 o2 o3 o0f
              obtain ⟨a1, a2, a3, a4⟩ := S.ans
              have HA : Hid (_ ∧ _ ∧ _) := ⟨a1, a2, a3⟩
              have HT : Hid (World.there _ (w.heap.size + 1) 0 4) := a4
              have HP : Hid (World.rangeAt _ v 0 (Ox.cells ⟨3, b.o.f A - 1, A, x12 - 1⟩)) := S.p.range
              clear S a1 a2 a3 a4
              go_wp2_with (first | (refine wpList_load_mid rfl 28 _ rfl v 0 rfl (Ox.cells ⟨3, b.o.f A - 1, A, x12 - 1⟩) _ HP.out Tryd.underlying28 rfl (by kernel_rfl) ?_) | (refine wpList_store_mid rfl 28 _ _ rfl (w.heap.size + 1) 0 (Ox.cells ⟨3, b.o.f A - 1, A, x12 - 1⟩).toArray rfl rfl HT.out (by kernel_rfl) (ox_one _) ?_))
              obtain ⟨q1, ⟨q, q2, q3⟩, q4⟩ := HA.out
              exact bodyPost_ret (results_cell_mid rfl _ _ (w.heap.size + 1) 0 _ _ rfl q1 Tryd.underlying28 rfl (by kernel_rfl)) rfl ⟨⟨3, b.o.f A - 1, A, x12 - 1⟩, rfl, ⟨q, by omega, q3⟩, q4⟩
          · go_wp2_with (fail)
            obtain ⟨p6, p6', hd6⟩ := S.d
            have HS : Hid (Lo _ _ _ _ _ _ _ _ _ _ _) := S
            clear S
            refine (pick_on r ra rl rc zs p6 4 _ hd6 (by omega)).mono ?_
            rintro e w12 ⟨x12, rfl, x120, x121, -, rd12, sv12⟩
            have x122 := x121 (by omega)
            have S := HS.out.read sv12 rd12 (by omega)
            clear HS hd6 rd12 sv12 x121
            obtain ⟨o0, o1, o2, o3⟩ := S.p.four
            have o3f := (S.p 3 _ rfl).2
            simp only at o0 o1 o2 o3
            replace S := S.set (o' := ⟨3, sl, x8 - 1, x12 - 1⟩) 3 (x12 - 1) rfl
            have HS : Hid (Lo _ _ _ _ _ _ _ _ _ _ _) := S
            clear S
            go_wp2_with (fail)
            clear o0 o1 o2 o3 o3f
            generalize World.setCell _ _ _ = W13 at HS ⊢
            have S := HS.out
            clear HS
            obtain ⟨p9, p9', hd9⟩ := S.d
            have HS : Hid (Lo w r ra rl rc zs _ b v ⟨3, sl, x8 - 1, x12 - 1⟩ _) := S
            clear S
            refine (pick_on r ra rl rc zs p9 20 _ hd9 (by omega)).mono ?_
            rintro e w9 ⟨x9, rfl, x90, x91, -, rd9, sv9⟩
            have S := HS.out.read sv9 rd9 (by omega)
            clear HS hd9 rd9 sv9
            obtain ⟨o0, o1, o2, o3⟩ := S.p.four
            have o0f := (S.p 0 _ rfl).2
            simp only at o0 o1 o2 o3
            by_cases z9 : x9 = 0
            · subst z9
              have S10 := S.later (below1 w9 (.cells #[.int .i64 0, .int .i64 7, .int .i64 (-1)] 3))
              have H10 : Hid (Lo w r ra rl rc zs _ b v ⟨3, sl, x8 - 1, x12 - 1⟩ _) := S10
              obtain ⟨p8, p8', hd8⟩ := S10.d
              have HX : Hid (∀ i, i < 3 → (w9.alloc (.cells #[.int .i64 0, .int .i64 7, .int .i64 (-1)] 3)).cell? ⟨w9.heap.size, i, none⟩ = some (.int .i64 (([0, 7, -1] : List Int).getD i 0))) := lit_get w9 3 [0, 7, -1]
              have rlt := S.r0
              have slt := S.s.size
              clear S S10
              go_wp2_with (fail)
              refine (num_any r ra rl rc zs p8 _ hd8 (by omega) w9.heap.size 3 3 [0, 7, -1] (by omega) (by omega) (by omega) HX.out).mono ?_
              rintro e w11 ⟨k11, k11', rfl, rd11, sv11⟩
              have S := H10.out.read sv11 rd11 (by omega)
              clear H10 HX hd8 rd11 sv11 o0 o1 o2 o3 o0f
              generalize (([0, 7, -1] : List Int).getD k11 0) = kk
              obtain ⟨o0, o1, o2, o3⟩ := S.p.four
              have o0f := (S.p 0 _ rfl).2
              simp only at o0 o1 o2 o3
              replace S := S.set (o' := ⟨kk, sl, x8 - 1, x12 - 1⟩) 0 kk rfl
              obtain ⟨a1, a2, a3, a4⟩ := S.ans
              have HA : Hid (_ ∧ _ ∧ _) := ⟨a1, a2, a3⟩
              have HT : Hid (World.there _ (w.heap.size + 1) 0 4) := a4
              have HP : Hid (World.rangeAt _ v 0 (Ox.cells ⟨kk, sl, x8 - 1, x12 - 1⟩)) := S.p.range
              clear S a1 a2 a3 a4
              go_wp2_with (first | (refine wpList_load_mid rfl 28 _ rfl v 0 rfl (Ox.cells ⟨kk, sl, x8 - 1, x12 - 1⟩) _ HP.out Tryd.underlying28 rfl (by kernel_rfl) ?_) | (refine wpList_store_mid rfl 28 _ _ rfl (w.heap.size + 1) 0 (Ox.cells ⟨kk, sl, x8 - 1, x12 - 1⟩).toArray rfl rfl HT.out (by kernel_rfl) (ox_one _) ?_))
              obtain ⟨q1, ⟨q, q2, q3⟩, q4⟩ := HA.out
              exact bodyPost_ret (results_cell_mid rfl _ _ (w.heap.size + 1) 0 _ _ rfl q1 Tryd.underlying28 rfl (by kernel_rfl)) rfl ⟨⟨kk, sl, x8 - 1, x12 - 1⟩, rfl, ⟨q, by omega, q3⟩, q4⟩
            · clear o0 o1 o2 o3 o0f
              obtain ⟨a1, a2, a3, a4⟩ := S.ans
              have HA : Hid (_ ∧ _ ∧ _) := ⟨a1, a2, a3⟩
              have HT : Hid (World.there _ (w.heap.size + 1) 0 4) := a4
              have HP : Hid (World.rangeAt _ v 0 (Ox.cells ⟨3, sl, x8 - 1, x12 - 1⟩)) := S.p.range
              clear S a1 a2 a3 a4
              go_wp2_with (first | (refine wpList_load_mid rfl 28 _ rfl v 0 rfl (Ox.cells ⟨3, sl, x8 - 1, x12 - 1⟩) _ HP.out Tryd.underlying28 rfl (by kernel_rfl) ?_) | (refine wpList_store_mid rfl 28 _ _ rfl (w.heap.size + 1) 0 (Ox.cells ⟨3, sl, x8 - 1, x12 - 1⟩).toArray rfl rfl HT.out (by kernel_rfl) (ox_one _) ?_))
              obtain ⟨q1, ⟨q, q2, q3⟩, q4⟩ := HA.out
              exact bodyPost_ret (results_cell_mid rfl _ _ (w.heap.size + 1) 0 _ _ rfl q1 Tryd.underlying28 rfl (by kernel_rfl)) rfl ⟨⟨3, sl, x8 - 1, x12 - 1⟩, rfl, ⟨q, by omega, q3⟩, q4⟩
  by_cases k4 : kd = 4
  · subst k4
    have u6 := HS.out.e 6 _ rfl
    simp only [Nat.zero_add] at u6
    have OB : Hid (∀ u, u < b.o.n → 0 ≤ b.o.f u ∧ b.o.f u ≤ 1000) := ob
    clear ob
    go_wp2_with (fail)
    generalize (w5.alloc (.cells #[.int .i64 4, .int .i64 sl, .int .i64 0, .int .i64 0] 28)) = W6 at HS u6 ⊢
    generalize w5.heap.size = v at HS ⊢
    clear u6
    obtain ⟨p7, p7', hd7⟩ := HS.out.d
    refine (pick_on r ra rl rc zs p7 _ _ hd7 (by omega)).mono ?_
    rintro e w8 ⟨x8, rfl, x80, x81, -, rd8, sv8⟩
    have x82 := x81 (by omega)
    have S := HS.out.read sv8 rd8 (by omega)
    clear HS hd7 rd8 sv8 x81
    obtain ⟨o0, o1, o2, o3⟩ := S.p.four
    have o2f := (S.p 2 _ rfl).2
    simp only at o0 o1 o2 o3
    replace S := S.set (o' := ⟨4, sl, x8 - 1, 0⟩) 2 (x8 - 1) rfl
    have HS : Hid (Lo _ _ _ _ _ _ _ _ _ _ _) := S
    clear S
    go_wp2_with (fail)
    clear o0 o1 o2 o3 o2f
    obtain ⟨w9, h9⟩ : ∃ w9, w9 = w8.setCell ⟨v, 2, none⟩ (.int .i64 (x8 - 1)) := ⟨_, rfl⟩
    have s9 : w9.heap.size = w8.heap.size := by rw [h9]; simp [World.setCell]
    rw [← s9, ← h9]
    rw [← h9] at HS
    clear h9 s9
    have z9w : w.heap.size ≤ w9.heap.size := HS.out.s.size
    go_loopw [6, 7] (fun l i wr => ∃ (u : Nat) (y : Sx), u ≤ b.o.n ∧ i = .int .i64 u ∧ Hid (l = .slice y.a y.n y.c) ∧ y.n ≤ u ∧ (∀ j, j < y.n → 0 ≤ y.f j ∧ y.f j < b.o.n) ∧ y.Hl w.heap.size wr ∧ (∀ j o, y.a = some ⟨j, o, none⟩ → w9.heap.size ≤ j) ∧ Below w9.heap.size w9 wr) (fun _ i _ => b.o.n - (intOf i).toNat)
    case atStart => exact ⟨0, ⟨some ⟨w9.heap.size, 0, none⟩, 0, 0, fun _ => 0⟩, by omega, rfl, rfl, Nat.le_refl _, fun j hj => absurd hj (Nat.not_lt_zero j), ⟨Nat.le_refl _, .inl rfl⟩, fun j o e => by cases e; exact Nat.le_refl _, below1 _ _⟩
    case round =>
      obtain ⟨u, y, hu, rfl, HL, yn, yf, yh, ya, hb⟩ := hrel
      have Sr := HS.out.later hb
      have zr := Sr.s.size
      have bat := Sr.at ha ho
      have u6 := Sr.e 6 _ rfl
      simp only [Nat.zero_add] at u6
      have YF : Hid (∀ j, j < y.n → 0 ≤ y.f j ∧ y.f j < b.o.n) := yf
      have YH : Hid (y.Hl w.heap.size wr) := yh
      have YA : Hid (∀ j o, y.a = some ⟨j, o, none⟩ → w9.heap.size ≤ j) := ya
      have HB9 : Hid (Below w9.heap.size w9 wr) := hb
      have HSR : Hid (Lo _ _ _ _ _ _ _ _ _ _ _) := Sr
      clear yf yh ya hb Sr
      by_cases hlt : (u : Int) < b.o.n
      · obtain ⟨ko, oo, eo, hco⟩ := bat.o.cells (by omega)
        rw [eo] at u6
        have c1 := hco u (by omega)
        clear hco bat eo
        by_cases e0 : 0 < b.o.f u
        · go_wp2_with (refine wpList_app1 rfl _ _ y (u : Int) w.heap.size _ wr.heap.size 0 1 rfl (by rw [HL.out]; rfl) rfl (YH.out.later (below1 _ _)) (by simp; omega) (by omega) (ck_lit #[.int .i64 (u : Int)] (heap1_0 wr _) 0 _ rfl).1 ?_)
          intro rv w8' hq
          obtain ⟨y', hrv, yn', yf', yh', yw⟩ := hq
          have HL' : Hid (rv = .slice y'.a y'.n y'.c) := hrv
          have R8 : Hid ((∀ j o, y'.a = some ⟨j, o, none⟩ → w9.heap.size ≤ j) ∧ Below w9.heap.size w9 w8') := by
            have hb := HB9.out
            have b1 := hb.trans ((below1 wr (.cells #[.int .i64 (u : Int)] 3)).mono hb.size)
            have s8 := b1.size
            rcases yw with ⟨k1, o1, e1, e2, e3, e4, rfl⟩ | ⟨e1, g, hs⟩
            · exact ⟨fun j o e => YA.out j o (by rw [← e2]; exact e), b1.setCell (p := ⟨k1, o1 + y.n, none⟩) (YA.out k1 o1 e1) _⟩
            · exact ⟨fun j o e => by rw [e1] at e; cases e; exact s8, b1.trans (g.mono s8)⟩
          have YH' : Hid (y'.Hl w.heap.size w8') := yh'
          have YF' : Hid (∀ j, j < y'.n → 0 ≤ y'.f j ∧ y'.f j < b.o.n) := fun j hj => by
            rw [yf']
            simp only [upd]
            split
            · omega
            · exact YF.out j (by omega)
          have yn2 : y'.n ≤ u + 1 := by omega
          clear hrv yn' yf' yh' yw c1 u6
          go_wp2_with (fail)
          go_roundw
          case rel => exact ⟨u + 1, y', by omega, by go_num, HL', yn2, YF'.out, YH'.out, R8.out.1, R8.out.2⟩
          case measure => simp [intOf]; omega
        · go_wp2_with (fail)
          go_roundw
          case rel => exact ⟨u + 1, y, by omega, by go_num, HL, by omega, YF.out, YH.out, YA.out, HB9.out⟩
          case measure => simp [intOf]; omega
      · have hl := HL.out
        subst hl
        clear HS
        by_cases y0 : y.n = 0
        · rw [y0]
          go_wp2_with (fail)
          have S := HSR.out
          clear HSR
          obtain ⟨p6, p6', hd6⟩ := S.d
          have HS : Hid (Lo _ _ _ _ _ _ _ _ _ _ _) := S
          clear S
          refine (pick_on r ra rl rc zs p6 4 _ hd6 (by omega)).mono ?_
          rintro e w12 ⟨x12, rfl, x120, x121, -, rd12, sv12⟩
          have x122 := x121 (by omega)
          have S := HS.out.read sv12 rd12 (by omega)
          clear HS hd6 rd12 sv12 x121
          obtain ⟨o0, o1, o2, o3⟩ := S.p.four
          have o3f := (S.p 3 _ rfl).2
          simp only at o0 o1 o2 o3
          replace S := S.set (o' := ⟨4, sl, x8 - 1, x12 - 1⟩) 3 (x12 - 1) rfl
          have HS : Hid (Lo _ _ _ _ _ _ _ _ _ _ _) := S
          clear S
          go_wp2_with (fail)
          clear o0 o1 o2 o3 o3f
          generalize World.setCell _ _ _ = W13 at HS ⊢
          have S := HS.out
          clear HS
          obtain ⟨p9, p9', hd9⟩ := S.d
          have HS : Hid (Lo w r ra rl rc zs _ b v ⟨4, sl, x8 - 1, x12 - 1⟩ _) := S
          clear S
          refine (pick_on r ra rl rc zs p9 20 _ hd9 (by omega)).mono ?_
          rintro e w9 ⟨x9, rfl, x90, x91, -, rd9, sv9⟩
          have S := HS.out.read sv9 rd9 (by omega)
          clear HS hd9 rd9 sv9
          obtain ⟨o0, o1, o2, o3⟩ := S.p.four
          have o0f := (S.p 0 _ rfl).2
          simp only at o0 o1 o2 o3
          by_cases z9 : x9 = 0
          · subst z9
            have S10 := S.later (below1 w9 (.cells #[.int .i64 0, .int .i64 7, .int .i64 (-1)] 3))
            have H10 : Hid (Lo w r ra rl rc zs _ b v ⟨4, sl, x8 - 1, x12 - 1⟩ _) := S10
            obtain ⟨p8, p8', hd8⟩ := S10.d
            have HX : Hid (∀ i, i < 3 → (w9.alloc (.cells #[.int .i64 0, .int .i64 7, .int .i64 (-1)] 3)).cell? ⟨w9.heap.size, i, none⟩ = some (.int .i64 (([0, 7, -1] : List Int).getD i 0))) := lit_get w9 3 [0, 7, -1]
            have rlt := S.r0
            have slt := S.s.size
            clear S S10
            go_wp2_with (fail)
            refine (num_any r ra rl rc zs p8 _ hd8 (by omega) w9.heap.size 3 3 [0, 7, -1] (by omega) (by omega) (by omega) HX.out).mono ?_
            rintro e w11 ⟨k11, k11', rfl, rd11, sv11⟩
            have S := H10.out.read sv11 rd11 (by omega)
            clear H10 HX hd8 rd11 sv11 o0 o1 o2 o3 o0f
            generalize (([0, 7, -1] : List Int).getD k11 0) = kk
            obtain ⟨o0, o1, o2, o3⟩ := S.p.four
            have o0f := (S.p 0 _ rfl).2
            simp only at o0 o1 o2 o3
            replace S := S.set (o' := ⟨kk, sl, x8 - 1, x12 - 1⟩) 0 kk rfl
            obtain ⟨a1, a2, a3, a4⟩ := S.ans
            have HA : Hid (_ ∧ _ ∧ _) := ⟨a1, a2, a3⟩
            have HT : Hid (World.there _ (w.heap.size + 1) 0 4) := a4
            have HP : Hid (World.rangeAt _ v 0 (Ox.cells ⟨kk, sl, x8 - 1, x12 - 1⟩)) := S.p.range
            clear S a1 a2 a3 a4
            go_wp2_with (first | (refine wpList_load_mid rfl 28 _ rfl v 0 rfl (Ox.cells ⟨kk, sl, x8 - 1, x12 - 1⟩) _ HP.out Tryd.underlying28 rfl (by kernel_rfl) ?_) | (refine wpList_store_mid rfl 28 _ _ rfl (w.heap.size + 1) 0 (Ox.cells ⟨kk, sl, x8 - 1, x12 - 1⟩).toArray rfl rfl HT.out (by kernel_rfl) (ox_one _) ?_))
            obtain ⟨q1, ⟨q, q2, q3⟩, q4⟩ := HA.out
            exact bodyPost_ret (results_cell_mid rfl _ _ (w.heap.size + 1) 0 _ _ rfl q1 Tryd.underlying28 rfl (by kernel_rfl)) rfl ⟨⟨kk, sl, x8 - 1, x12 - 1⟩, rfl, ⟨q, by omega, q3⟩, q4⟩
          · clear o0 o1 o2 o3 o0f
            obtain ⟨a1, a2, a3, a4⟩ := S.ans
            have HA : Hid (_ ∧ _ ∧ _) := ⟨a1, a2, a3⟩
            have HT : Hid (World.there _ (w.heap.size + 1) 0 4) := a4
            have HP : Hid (World.rangeAt _ v 0 (Ox.cells ⟨4, sl, x8 - 1, x12 - 1⟩)) := S.p.range
            clear S a1 a2 a3 a4
            go_wp2_with (first | (refine wpList_load_mid rfl 28 _ rfl v 0 rfl (Ox.cells ⟨4, sl, x8 - 1, x12 - 1⟩) _ HP.out Tryd.underlying28 rfl (by kernel_rfl) ?_) | (refine wpList_store_mid rfl 28 _ _ rfl (w.heap.size + 1) 0 (Ox.cells ⟨4, sl, x8 - 1, x12 - 1⟩).toArray rfl rfl HT.out (by kernel_rfl) (ox_one _) ?_))
            obtain ⟨q1, ⟨q, q2, q3⟩, q4⟩ := HA.out
            exact bodyPost_ret (results_cell_mid rfl _ _ (w.heap.size + 1) 0 _ _ rfl q1 Tryd.underlying28 rfl (by kernel_rfl)) rfl ⟨⟨4, sl, x8 - 1, x12 - 1⟩, rfl, ⟨q, by omega, q3⟩, q4⟩
        · have y1 : (0 : Int) < y.n := by omega
          obtain ⟨ky, oy, ey, hcy⟩ := YH.out.at.cells (by omega)
          have ky9 := YA.out ky oy ey
          have HCY : Hid (∀ j, j < y.n → _) := hcy
          rw [ey]
          clear hcy
          go_wp2_with (fail)
          obtain ⟨p5, p5', hd5⟩ := HSR.out.d
          refine (pick_on r ra rl rc zs p5 5 _ hd5 (by omega)).mono ?_
          rintro e w14 ⟨x14, rfl, x140, x141, -, rd14, sv14⟩
          have S := HSR.out.read sv14 rd14 (by omega)
          have rlt' := S.r0
          have kyr : ky ≠ r := by omega
          have kys : ky < wr.heap.size := by
            have := HCY.out 0 (by omega)
            exact World.block_lt_of_cell? wr _ this
          have HCY2 : Hid (∀ j, j < y.n → w14.cell? ⟨ky, oy + j, none⟩ = some (.int .i64 (y.f j))) := fun j hj => by
            rw [sv14.cell (q := ⟨ky, oy + j, none⟩) kyr kys]; exact HCY.out j hj
          have ks14 : ky < w14.heap.size := Nat.lt_of_lt_of_le kys sv14.size
          clear HSR HCY hd5 rd14 sv14 x141
          by_cases z14 : 0 < x14
          · have HS : Hid (Lo _ _ _ _ _ _ _ _ _ _ _) := S
            clear S
            go_wp2_with (fail)
            obtain ⟨p4, p4', hd4⟩ := HS.out.d
            refine (pick_on r ra rl rc zs p4 y.n _ hd4 (by omega)).mono ?_
            rintro e w15 ⟨x15, rfl, x150, x151, -, rd15, sv15⟩
            have x152 := x151 (by omega)
            obtain ⟨j15, rfl⟩ := Int.eq_ofNat_of_zero_le x150
            have S := HS.out.read sv15 rd15 (by omega)
            have c15 : w15.cell? ⟨ky, oy + j15, none⟩ = some (.int .i64 (y.f j15)) := by
              rw [sv15.cell (q := ⟨ky, oy + j15, none⟩) kyr ks14]; exact HCY2.out j15 (by omega)
            obtain ⟨g0, g1⟩ := YF.out j15 (by omega)
            obtain ⟨A, hA⟩ : ∃ A : Nat, y.f j15 = A := ⟨(y.f j15).toNat, by omega⟩
            rw [hA] at c15 g1
            have jn : (j15 : Int) < y.n := by omega
            clear HS HCY2 hd4 rd15 sv15 x151 hA g0
            obtain ⟨o0, o1, o2, o3⟩ := S.p.four
            have o2f := (S.p 2 _ rfl).2
            simp only at o0 o1 o2 o3
            have S1 := S.set (o' := ⟨4, sl, A, 0⟩) 2 (A : Int) rfl
            obtain ⟨ko, oo, eo, hco⟩ := (S1.at ha ho).o.cells (by omega)
            have c16 := hco A (by omega)
            have u6' := S1.e 6 _ rfl
            simp only [Nat.zero_add] at u6'
            rw [eo] at u6'
            obtain ⟨q0, q1, q2, q3⟩ := S1.p.four
            have q1f := (S1.p 1 _ rfl).2
            simp only at q0 q1 q2 q3
            obtain ⟨g2, g3⟩ := OB.out A (by omega)
            have S2 := S1.set (o' := ⟨4, b.o.f A - 1, A, 0⟩) 1 (b.o.f A - 1) rfl
            have HS : Hid (Lo _ _ _ _ _ _ _ _ _ _ _) := S2
            clear S S1 S2 hco eo u6
            go_wp2_with (fail)
            clear o0 o1 o2 o3 o2f q0 q1 q2 q3 q1f c15 c16 u6'
            generalize World.setCell _ _ _ = W16 at HS ⊢
            have S := HS.out
            clear HS
            obtain ⟨p6, p6', hd6⟩ := S.d
            have HS : Hid (Lo _ _ _ _ _ _ _ _ _ _ _) := S
            clear S
            refine (pick_on r ra rl rc zs p6 4 _ hd6 (by omega)).mono ?_
            rintro e w12 ⟨x12, rfl, x120, x121, -, rd12, sv12⟩
            have x122 := x121 (by omega)
            have S := HS.out.read sv12 rd12 (by omega)
            clear HS hd6 rd12 sv12 x121
            obtain ⟨o0, o1, o2, o3⟩ := S.p.four
            have o3f := (S.p 3 _ rfl).2
            simp only at o0 o1 o2 o3
            replace S := S.set (o' := ⟨4, b.o.f A - 1, A, x12 - 1⟩) 3 (x12 - 1) rfl
            have HS : Hid (Lo _ _ _ _ _ _ _ _ _ _ _) := S
            clear S
            go_wp2_with (fail)
            clear o0 o1 o2 o3 o3f
            generalize World.setCell _ _ _ = W13 at HS ⊢
            have S := HS.out
            clear HS
            obtain ⟨p9, p9', hd9⟩ := S.d
            have HS : Hid (Lo w r ra rl rc zs _ b v ⟨4, b.o.f A - 1, A, x12 - 1⟩ _) := S
            clear S
            refine (pick_on r ra rl rc zs p9 20 _ hd9 (by omega)).mono ?_
            rintro e w9 ⟨x9, rfl, x90, x91, -, rd9, sv9⟩
            have S := HS.out.read sv9 rd9 (by omega)
            clear HS hd9 rd9 sv9
            obtain ⟨o0, o1, o2, o3⟩ := S.p.four
            have o0f := (S.p 0 _ rfl).2
            simp only at o0 o1 o2 o3
            by_cases z9 : x9 = 0
            · subst z9
              have S10 := S.later (below1 w9 (.cells #[.int .i64 0, .int .i64 7, .int .i64 (-1)] 3))
              have H10 : Hid (Lo w r ra rl rc zs _ b v ⟨4, b.o.f A - 1, A, x12 - 1⟩ _) := S10
              obtain ⟨p8, p8', hd8⟩ := S10.d
              have HX : Hid (∀ i, i < 3 → (w9.alloc (.cells #[.int .i64 0, .int .i64 7, .int .i64 (-1)] 3)).cell? ⟨w9.heap.size, i, none⟩ = some (.int .i64 (([0, 7, -1] : List Int).getD i 0))) := lit_get w9 3 [0, 7, -1]
              have rlt := S.r0
              have slt := S.s.size
              clear S S10
              go_wp2_with (fail)
              refine (num_any r ra rl rc zs p8 _ hd8 (by omega) w9.heap.size 3 3 [0, 7, -1] (by omega) (by omega) (by omega) HX.out).mono ?_
              rintro e w11 ⟨k11, k11', rfl, rd11, sv11⟩
              have S := H10.out.read sv11 rd11 (by omega)
              clear H10 HX hd8 rd11 sv11 o0 o1 o2 o3 o0f
              generalize (([0, 7, -1] : List Int).getD k11 0) = kk
              obtain ⟨o0, o1, o2, o3⟩ := S.p.four
              have o0f := (S.p 0 _ rfl).2
              simp only at o0 o1 o2 o3
              replace S := S.set (o' := ⟨kk, b.o.f A - 1, A, x12 - 1⟩) 0 kk rfl
              obtain ⟨a1, a2, a3, a4⟩ := S.ans
              have HA : Hid (_ ∧ _ ∧ _) := ⟨a1, a2, a3⟩
              have HT : Hid (World.there _ (w.heap.size + 1) 0 4) := a4
              have HP : Hid (World.rangeAt _ v 0 (Ox.cells ⟨kk, b.o.f A - 1, A, x12 - 1⟩)) := S.p.range
              clear S a1 a2 a3 a4
              go_wp2_with (first | (refine wpList_load_mid rfl 28 _ rfl v 0 rfl (Ox.cells ⟨kk, b.o.f A - 1, A, x12 - 1⟩) _ HP.out Tryd.underlying28 rfl (by kernel_rfl) ?_) | (refine wpList_store_mid rfl 28 _ _ rfl (w.heap.size + 1) 0 (Ox.cells ⟨kk, b.o.f A - 1, A, x12 - 1⟩).toArray rfl rfl HT.out (by kernel_rfl) (ox_one _) ?_))
              obtain ⟨q1, ⟨q, q2, q3⟩, q4⟩ := HA.out
              exact bodyPost_ret (results_cell_mid rfl _ _ (w.heap.size + 1) 0 _ _ rfl q1 Tryd.underlying28 rfl (by kernel_rfl)) rfl ⟨⟨kk, b.o.f A - 1, A, x12 - 1⟩, rfl, ⟨q, by omega, q3⟩, q4⟩
            · clear o0 o1 o2 o3 o0f
              obtain ⟨a1, a2, a3, a4⟩ := S.ans
              have HA : Hid (_ ∧ _ ∧ _) := ⟨a1, a2, a3⟩
              have HT : Hid (World.there _ (w.heap.size + 1) 0 4) := a4
              have HP : Hid (World.rangeAt _ v 0 (Ox.cells ⟨4, b.o.f A - 1, A, x12 - 1⟩)) := S.p.range
              clear S a1 a2 a3 a4
              go_wp2_with (first | (refine wpList_load_mid rfl 28 _ rfl v 0 rfl (Ox.cells ⟨4, b.o.f A - 1, A, x12 - 1⟩) _ HP.out Tryd.underlying28 rfl (by kernel_rfl) ?_) | (refine wpList_store_mid rfl 28 _ _ rfl (w.heap.size + 1) 0 (Ox.cells ⟨4, b.o.f A - 1, A, x12 - 1⟩).toArray rfl rfl HT.out (by kernel_rfl) (ox_one _) ?_))
              obtain ⟨q1, ⟨q, q2, q3⟩, q4⟩ := HA.out
              exact bodyPost_ret (results_cell_mid rfl _ _ (w.heap.size + 1) 0 _ _ rfl q1 Tryd.underlying28 rfl (by kernel_rfl)) rfl ⟨⟨4, b.o.f A - 1, A, x12 - 1⟩, rfl, ⟨q, by omega, q3⟩, q4⟩
          · go_wp2_with (fail)
            obtain ⟨p6, p6', hd6⟩ := S.d
            have HS : Hid (Lo _ _ _ _ _ _ _ _ _ _ _) := S
            clear S
            refine (pick_on r ra rl rc zs p6 4 _ hd6 (by omega)).mono ?_
            rintro e w12 ⟨x12, rfl, x120, x121, -, rd12, sv12⟩
            have x122 := x121 (by omega)
            have S := HS.out.read sv12 rd12 (by omega)
            clear HS hd6 rd12 sv12 x121
            obtain ⟨o0, o1, o2, o3⟩ := S.p.four
            have o3f := (S.p 3 _ rfl).2
            simp only at o0 o1 o2 o3
            replace S := S.set (o' := ⟨4, sl, x8 - 1, x12 - 1⟩) 3 (x12 - 1) rfl
            have HS : Hid (Lo _ _ _ _ _ _ _ _ _ _ _) := S
            clear S
            go_wp2_with (fail)
            clear o0 o1 o2 o3 o3f
            generalize World.setCell _ _ _ = W13 at HS ⊢
            have S := HS.out
            clear HS
            obtain ⟨p9, p9', hd9⟩ := S.d
            have HS : Hid (Lo w r ra rl rc zs _ b v ⟨4, sl, x8 - 1, x12 - 1⟩ _) := S
            clear S
            refine (pick_on r ra rl rc zs p9 20 _ hd9 (by omega)).mono ?_
            rintro e w9 ⟨x9, rfl, x90, x91, -, rd9, sv9⟩
            have S := HS.out.read sv9 rd9 (by omega)
            clear HS hd9 rd9 sv9
            obtain ⟨o0, o1, o2, o3⟩ := S.p.four
            have o0f := (S.p 0 _ rfl).2
            simp only at o0 o1 o2 o3
            by_cases z9 : x9 = 0
            · subst z9
              have S10 := S.later (below1 w9 (.cells #[.int .i64 0, .int .i64 7, .int .i64 (-1)] 3))
              have H10 : Hid (Lo w r ra rl rc zs _ b v ⟨4, sl, x8 - 1, x12 - 1⟩ _) := S10
              obtain ⟨p8, p8', hd8⟩ := S10.d
              have HX : Hid (∀ i, i < 3 → (w9.alloc (.cells #[.int .i64 0, .int .i64 7, .int .i64 (-1)] 3)).cell? ⟨w9.heap.size, i, none⟩ = some (.int .i64 (([0, 7, -1] : List Int).getD i 0))) := lit_get w9 3 [0, 7, -1]
              have rlt := S.r0
              have slt := S.s.size
              clear S S10
              go_wp2_with (fail)
              refine (num_any r ra rl rc zs p8 _ hd8 (by omega) w9.heap.size 3 3 [0, 7, -1] (by omega) (by omega) (by omega) HX.out).mono ?_
              rintro e w11 ⟨k11, k11', rfl, rd11, sv11⟩
              have S := H10.out.read sv11 rd11 (by omega)
              clear H10 HX hd8 rd11 sv11 o0 o1 o2 o3 o0f
              generalize (([0, 7, -1] : List Int).getD k11 0) = kk
              obtain ⟨o0, o1, o2, o3⟩ := S.p.four
              have o0f := (S.p 0 _ rfl).2
              simp only at o0 o1 o2 o3
              replace S := S.set (o' := ⟨kk, sl, x8 - 1, x12 - 1⟩) 0 kk rfl
              obtain ⟨a1, a2, a3, a4⟩ := S.ans
              have HA : Hid (_ ∧ _ ∧ _) := ⟨a1, a2, a3⟩
              have HT : Hid (World.there _ (w.heap.size + 1) 0 4) := a4
              have HP : Hid (World.rangeAt _ v 0 (Ox.cells ⟨kk, sl, x8 - 1, x12 - 1⟩)) := S.p.range
              clear S a1 a2 a3 a4
              go_wp2_with (first | (refine wpList_load_mid rfl 28 _ rfl v 0 rfl (Ox.cells ⟨kk, sl, x8 - 1, x12 - 1⟩) _ HP.out Tryd.underlying28 rfl (by kernel_rfl) ?_) | (refine wpList_store_mid rfl 28 _ _ rfl (w.heap.size + 1) 0 (Ox.cells ⟨kk, sl, x8 - 1, x12 - 1⟩).toArray rfl rfl HT.out (by kernel_rfl) (ox_one _) ?_))
              obtain ⟨q1, ⟨q, q2, q3⟩, q4⟩ := HA.out
              exact bodyPost_ret (results_cell_mid rfl _ _ (w.heap.size + 1) 0 _ _ rfl q1 Tryd.underlying28 rfl (by kernel_rfl)) rfl ⟨⟨kk, sl, x8 - 1, x12 - 1⟩, rfl, ⟨q, by omega, q3⟩, q4⟩
            · clear o0 o1 o2 o3 o0f
              obtain ⟨a1, a2, a3, a4⟩ := S.ans
              have HA : Hid (_ ∧ _ ∧ _) := ⟨a1, a2, a3⟩
              have HT : Hid (World.there _ (w.heap.size + 1) 0 4) := a4
              have HP : Hid (World.rangeAt _ v 0 (Ox.cells ⟨4, sl, x8 - 1, x12 - 1⟩)) := S.p.range
              clear S a1 a2 a3 a4
              go_wp2_with (first | (refine wpList_load_mid rfl 28 _ rfl v 0 rfl (Ox.cells ⟨4, sl, x8 - 1, x12 - 1⟩) _ HP.out Tryd.underlying28 rfl (by kernel_rfl) ?_) | (refine wpList_store_mid rfl 28 _ _ rfl (w.heap.size + 1) 0 (Ox.cells ⟨4, sl, x8 - 1, x12 - 1⟩).toArray rfl rfl HT.out (by kernel_rfl) (ox_one _) ?_))
              obtain ⟨q1, ⟨q, q2, q3⟩, q4⟩ := HA.out
              exact bodyPost_ret (results_cell_mid rfl _ _ (w.heap.size + 1) 0 _ _ rfl q1 Tryd.underlying28 rfl (by kernel_rfl)) rfl ⟨⟨4, sl, x8 - 1, x12 - 1⟩, rfl, ⟨q, by omega, q3⟩, q4⟩
  by_cases k6 : kd = 6
  · subst k6
    go_wp2_with (fail)
    generalize (w5.alloc (.cells #[.int .i64 6, .int .i64 sl, .int .i64 0, .int .i64 0] 28)) = W6 at HS ⊢
    obtain ⟨p7, p7', hd7⟩ := HS.out.d
    refine (pick_on r ra rl rc zs p7 5 _ hd7 (by omega)).mono ?_
    rintro e w8 ⟨x8, rfl, x80, x81, -, rd8, sv8⟩
    have x82 := x81 (by omega)
    have S := HS.out.read sv8 rd8 (by omega)
    clear HS hd7 rd8 sv8 x81
    obtain ⟨o0, o1, o2, o3⟩ := S.p.four
    have o2f := (S.p 2 _ rfl).2
    simp only at o0 o1 o2 o3
    replace S := S.set (o' := ⟨6, sl, x8 - 1, 0⟩) 2 (x8 - 1) rfl
    have HS : Hid (Lo _ _ _ _ _ _ _ _ _ _ _) := S
    clear S
    go_wp2_with (fail)
    clear o0 o1 o2 o3 o2f
    generalize World.setCell _ _ _ = W9 at HS ⊢
    generalize w5.heap.size = v at HS ⊢
    have S := HS.out
    clear HS
    obtain ⟨p9, p9', hd9⟩ := S.d
    have HS : Hid (Lo w r ra rl rc zs _ b v ⟨6, sl, x8 - 1, 0⟩ _) := S
    clear S
    refine (pick_on r ra rl rc zs p9 20 _ hd9 (by omega)).mono ?_
    rintro e w9 ⟨x9, rfl, x90, x91, -, rd9, sv9⟩
    have S := HS.out.read sv9 rd9 (by omega)
    clear HS hd9 rd9 sv9
    obtain ⟨o0, o1, o2, o3⟩ := S.p.four
    have o0f := (S.p 0 _ rfl).2
    simp only at o0 o1 o2 o3
    by_cases z9 : x9 = 0
    · subst z9
      have S10 := S.later (below1 w9 (.cells #[.int .i64 0, .int .i64 7, .int .i64 (-1)] 3))
      have H10 : Hid (Lo w r ra rl rc zs _ b v ⟨6, sl, x8 - 1, 0⟩ _) := S10
      obtain ⟨p8, p8', hd8⟩ := S10.d
      have HX : Hid (∀ i, i < 3 → (w9.alloc (.cells #[.int .i64 0, .int .i64 7, .int .i64 (-1)] 3)).cell? ⟨w9.heap.size, i, none⟩ = some (.int .i64 (([0, 7, -1] : List Int).getD i 0))) := lit_get w9 3 [0, 7, -1]
      have rlt := S.r0
      have slt := S.s.size
      clear S S10
      go_wp2_with (fail)
      refine (num_any r ra rl rc zs p8 _ hd8 (by omega) w9.heap.size 3 3 [0, 7, -1] (by omega) (by omega) (by omega) HX.out).mono ?_
      rintro e w11 ⟨k11, k11', rfl, rd11, sv11⟩
      have S := H10.out.read sv11 rd11 (by omega)
      clear H10 HX hd8 rd11 sv11 o0 o1 o2 o3 o0f
      generalize (([0, 7, -1] : List Int).getD k11 0) = kk
      obtain ⟨o0, o1, o2, o3⟩ := S.p.four
      have o0f := (S.p 0 _ rfl).2
      simp only at o0 o1 o2 o3
      replace S := S.set (o' := ⟨kk, sl, x8 - 1, 0⟩) 0 kk rfl
      obtain ⟨a1, a2, a3, a4⟩ := S.ans
      have HA : Hid (_ ∧ _ ∧ _) := ⟨a1, a2, a3⟩
      have HT : Hid (World.there _ (w.heap.size + 1) 0 4) := a4
      have HP : Hid (World.rangeAt _ v 0 (Ox.cells ⟨kk, sl, x8 - 1, 0⟩)) := S.p.range
      clear S a1 a2 a3 a4
      go_wp2_with (first | (refine wpList_load_mid rfl 28 _ rfl v 0 rfl (Ox.cells ⟨kk, sl, x8 - 1, 0⟩) _ HP.out Tryd.underlying28 rfl (by kernel_rfl) ?_) | (refine wpList_store_mid rfl 28 _ _ rfl (w.heap.size + 1) 0 (Ox.cells ⟨kk, sl, x8 - 1, 0⟩).toArray rfl rfl HT.out (by kernel_rfl) (ox_one _) ?_))
      obtain ⟨q1, ⟨q, q2, q3⟩, q4⟩ := HA.out
      exact bodyPost_ret (results_cell_mid rfl _ _ (w.heap.size + 1) 0 _ _ rfl q1 Tryd.underlying28 rfl (by kernel_rfl)) rfl ⟨⟨kk, sl, x8 - 1, 0⟩, rfl, ⟨q, by omega, q3⟩, q4⟩
    · clear o0 o1 o2 o3 o0f
      obtain ⟨a1, a2, a3, a4⟩ := S.ans
      have HA : Hid (_ ∧ _ ∧ _) := ⟨a1, a2, a3⟩
      have HT : Hid (World.there _ (w.heap.size + 1) 0 4) := a4
      have HP : Hid (World.rangeAt _ v 0 (Ox.cells ⟨6, sl, x8 - 1, 0⟩)) := S.p.range
      clear S a1 a2 a3 a4
      go_wp2_with (first | (refine wpList_load_mid rfl 28 _ rfl v 0 rfl (Ox.cells ⟨6, sl, x8 - 1, 0⟩) _ HP.out Tryd.underlying28 rfl (by kernel_rfl) ?_) | (refine wpList_store_mid rfl 28 _ _ rfl (w.heap.size + 1) 0 (Ox.cells ⟨6, sl, x8 - 1, 0⟩).toArray rfl rfl HT.out (by kernel_rfl) (ox_one _) ?_))
      obtain ⟨q1, ⟨q, q2, q3⟩, q4⟩ := HA.out
      exact bodyPost_ret (results_cell_mid rfl _ _ (w.heap.size + 1) 0 _ _ rfl q1 Tryd.underlying28 rfl (by kernel_rfl)) rfl ⟨⟨6, sl, x8 - 1, 0⟩, rfl, ⟨q, by omega, q3⟩, q4⟩
  go_wp2_with (fail)
  generalize (w5.alloc (.cells #[.int .i64 kd, .int .i64 sl, .int .i64 0, .int .i64 0] 28)) = W6 at HS ⊢
  generalize w5.heap.size = v at HS ⊢
  have S := HS.out
  clear HS
  obtain ⟨p9, p9', hd9⟩ := S.d
  have HS : Hid (Lo w r ra rl rc zs _ b v ⟨kd, sl, 0, 0⟩ _) := S
  clear S
  refine (pick_on r ra rl rc zs p9 20 _ hd9 (by omega)).mono ?_
  rintro e w9 ⟨x9, rfl, x90, x91, -, rd9, sv9⟩
  have S := HS.out.read sv9 rd9 (by omega)
  clear HS hd9 rd9 sv9
  obtain ⟨o0, o1, o2, o3⟩ := S.p.four
  have o0f := (S.p 0 _ rfl).2
  simp only at o0 o1 o2 o3
  by_cases z9 : x9 = 0
  · subst z9
    have S10 := S.later (below1 w9 (.cells #[.int .i64 0, .int .i64 7, .int .i64 (-1)] 3))
    have H10 : Hid (Lo w r ra rl rc zs _ b v ⟨kd, sl, 0, 0⟩ _) := S10
    obtain ⟨p8, p8', hd8⟩ := S10.d
    have HX : Hid (∀ i, i < 3 → (w9.alloc (.cells #[.int .i64 0, .int .i64 7, .int .i64 (-1)] 3)).cell? ⟨w9.heap.size, i, none⟩ = some (.int .i64 (([0, 7, -1] : List Int).getD i 0))) := lit_get w9 3 [0, 7, -1]
    have rlt := S.r0
    have slt := S.s.size
    clear S S10
    go_wp2_with (fail)
    refine (num_any r ra rl rc zs p8 _ hd8 (by omega) w9.heap.size 3 3 [0, 7, -1] (by omega) (by omega) (by omega) HX.out).mono ?_
    rintro e w11 ⟨k11, k11', rfl, rd11, sv11⟩
    have S := H10.out.read sv11 rd11 (by omega)
    clear H10 HX hd8 rd11 sv11 o0 o1 o2 o3 o0f
    generalize (([0, 7, -1] : List Int).getD k11 0) = kk
    obtain ⟨o0, o1, o2, o3⟩ := S.p.four
    have o0f := (S.p 0 _ rfl).2
    simp only at o0 o1 o2 o3
    replace S := S.set (o' := ⟨kk, sl, 0, 0⟩) 0 kk rfl
    obtain ⟨a1, a2, a3, a4⟩ := S.ans
    have HA : Hid (_ ∧ _ ∧ _) := ⟨a1, a2, a3⟩
    have HT : Hid (World.there _ (w.heap.size + 1) 0 4) := a4
    have HP : Hid (World.rangeAt _ v 0 (Ox.cells ⟨kk, sl, 0, 0⟩)) := S.p.range
    clear S a1 a2 a3 a4
    go_wp2_with (first | (refine wpList_load_mid rfl 28 _ rfl v 0 rfl (Ox.cells ⟨kk, sl, 0, 0⟩) _ HP.out Tryd.underlying28 rfl (by kernel_rfl) ?_) | (refine wpList_store_mid rfl 28 _ _ rfl (w.heap.size + 1) 0 (Ox.cells ⟨kk, sl, 0, 0⟩).toArray rfl rfl HT.out (by kernel_rfl) (ox_one _) ?_))
    obtain ⟨q1, ⟨q, q2, q3⟩, q4⟩ := HA.out
    exact bodyPost_ret (results_cell_mid rfl _ _ (w.heap.size + 1) 0 _ _ rfl q1 Tryd.underlying28 rfl (by kernel_rfl)) rfl ⟨⟨kk, sl, 0, 0⟩, rfl, ⟨q, by omega, q3⟩, q4⟩
  · clear o0 o1 o2 o3 o0f
    obtain ⟨a1, a2, a3, a4⟩ := S.ans
    have HA : Hid (_ ∧ _ ∧ _) := ⟨a1, a2, a3⟩
    have HT : Hid (World.there _ (w.heap.size + 1) 0 4) := a4
    have HP : Hid (World.rangeAt _ v 0 (Ox.cells ⟨kd, sl, 0, 0⟩)) := S.p.range
    clear S a1 a2 a3 a4
    go_wp2_with (first | (refine wpList_load_mid rfl 28 _ rfl v 0 rfl (Ox.cells ⟨kd, sl, 0, 0⟩) _ HP.out Tryd.underlying28 rfl (by kernel_rfl) ?_) | (refine wpList_store_mid rfl 28 _ _ rfl (w.heap.size + 1) 0 (Ox.cells ⟨kd, sl, 0, 0⟩).toArray rfl rfl HT.out (by kernel_rfl) (ox_one _) ?_))
    obtain ⟨q1, ⟨q, q2, q3⟩, q4⟩ := HA.out
    exact bodyPost_ret (results_cell_mid rfl _ _ (w.heap.size + 1) 0 _ _ rfl q1 Tryd.underlying28 rfl (by kernel_rfl)) rfl ⟨⟨kd, sl, 0, 0⟩, rfl, ⟨q, by omega, q3⟩, q4⟩

end Go.Proofs.YtbipolfbkemmpaaDoor.Book

import Derived.Test.YtbipolfbkemmpaaDoorM50

/- A book is drawn and, one in six, bent: the specification's l3Bent. -/
namespace Go.Proofs.YtbipolfbkemmpaaDoor.Book
open Go.ChangeShapes Go.WideShapes Go.ChangeAt Go.RowKit
open Go.Proofs.YtbipolfbkemmpaaDoor.Aid Go.Proofs.YtbipolfbkemmpaaDoor.Lst Go.Proofs.YtbipolfbkemmpaaDoor.Draw
set_option maxRecDepth 100000
set_option linter.unusedVariables false

theorem ob_ok {b : Bx} (h : OkP b) : OB b := by
  have l := h.1.1
  unfold LensP at l
  refine ⟨by omega, fun u hu => ?_⟩
  have q := h.1.2.2 u hu
  unfold OwnU at q
  omega
theorem six_get {k : Nat} (h : k < 6) : ∃ n : Nat, n ≤ 45 ∧ ([0, 3, 8, 16, 30, 45] : List Int).getD k 0 = (n : Int) := by
  match k, h with
  | 0, _ => exact ⟨0, by omega, rfl⟩
  | 1, _ => exact ⟨3, by omega, rfl⟩
  | 2, _ => exact ⟨8, by omega, rfl⟩
  | 3, _ => exact ⟨16, by omega, rfl⟩
  | 4, _ => exact ⟨30, by omega, rfl⟩
  | 5, _ => exact ⟨45, by omega, rfl⟩
theorem small_get (xs : List Int) (h : ∀ x ∈ xs, -100 ≤ x ∧ x ≤ 5000) (k : Nat) : -100 ≤ xs.getD k 0 ∧ xs.getD k 0 ≤ 5000 := by
  by_cases hk : k < xs.length
  · rw [List.getD_eq_getElem?_getD, List.getElem?_eq_getElem hk]; exact h _ (List.getElem_mem hk)
  · rw [List.getD_eq_getElem?_getD, List.getElem?_eq_none (by omega)]; simp
theorem Ln.fre {w0 w : World} {r : Nat} {ra : Option Addr} {rl rc : Nat} {zs : List Int} {P : Int} {b : Bx} {v : Nat} (h : Ln w0 r ra rl rc zs P b v w) {x : Sx} (hx : x ∈ b.lists) {k o : Nat} (e : x.a = some ⟨k, o, none⟩) {j : Nat} (hj : j < x.n) : k ≠ v ∧ w.cell? ⟨k, o + j, none⟩ = some (.int .i64 (x.f j)) ∧ w.frozen? ⟨k, o + j, none⟩ = false := by
  obtain ⟨h1, h2⟩ := h.h.each x hx
  have lk : b.Lies k := ⟨x, hx, by omega, o, e⟩
  rcases h2 with h2 | ⟨k', o', e', _, _, g3, g4⟩
  · omega
  · rw [e] at e'
    cases e'
    exact ⟨(h.k k lk).2, g4 j hj, (g3 j (by omega)).2⟩
theorem Ln.addr {w0 w : World} {r : Nat} {ra : Option Addr} {rl rc : Nat} {zs : List Int} {P : Int} {b : Bx} {v : Nat} (h : Ln w0 r ra rl rc zs P b v w) {x : Sx} (hx : x ∈ b.lists) (hn : 0 < x.n) : ∃ k o, x.a = some ⟨k, o, none⟩ := by
  obtain ⟨h1, h2⟩ := h.h.each x hx
  rcases h2 with h2 | ⟨k', o', e', _⟩
  · omega
  · exact ⟨k', o', e'⟩

theorem Ln.fre' {w0 w : World} {r : Nat} {ra : Option Addr} {rl rc : Nat} {zs : List Int} {P : Int} {b : Bx} {v : Nat} (h : Ln w0 r ra rl rc zs P b v w) {x : Sx} (hx : x ∈ b.lists) {k o : Nat} (e : x.a = some ⟨k, o, none⟩) (hj : 0 < x.c) : k ≠ v := (h.k k ⟨x, hx, hj, o, e⟩).2

set_option maxHeartbeats 16000000 in
theorem lbent_any (r : Nat) (ra : Option Addr) (rl rc : Nat) (zs : List Int) (p : Int) (w : World) (hr : Rd w r ra rl rc zs p) (hp : p ≤ 10000000) :
    Calls Tryd.prog 25 #[.pointer (some ⟨r, 0, none⟩)] w fun e w' => BnQ w r ra rl rc zs (p + 1000) e w' := by
  have p0 := hr.p0
  have rlt := hr.lt
  have R1 := rd_later hr (below1 w (.cells z9.toArray 26))
  have T1 := ck_lit z9.toArray (heap1_0 w (.cells z9.toArray 26))
  have B1 := below1 w (.cells z9.toArray 26)
  have z1 : w.heap.size + 1 ≤ (w.alloc (.cells z9.toArray 26)).heap.size := by simp
  simp only [z9] at R1 T1 B1 z1
  have HR1 : Hid (Rd _ r ra rl rc zs p) := R1
  have HT1 : Hid (Ck _ w.heap.size z9) := T1
  have HB1 : Hid (Below w.heap.size w _) := B1
  clear R1 T1 B1
  go_enter Tryd.func25, Tryd.ntmps25
  go_wp2_with (fail)
  generalize w.alloc (.cells #[.int .i64 0, .slice none 0 0, .slice none 0 0, .slice none 0 0, .slice none 0 0, .slice none 0 0, .slice none 0 0, .slice none 0 0, .slice none 0 0] 26) = W1 at HR1 HT1 HB1 z1 ⊢
  refine (lcfg_any r ra rl rc zs p W1 HR1.out (by omega)).mono ?_
  rintro e w2 ⟨s, q, l, ok, rfl, R2, s2⟩
  have z2 := s2.size
  have HR2 : Hid (Rd _ r ra rl rc zs _) := rd_later R2 (below1 w2 (.cells #[.int .i64 0, .int .i64 3, .int .i64 8, .int .i64 16, .int .i64 30, .int .i64 45] 3))
  have HX : Hid (∀ i, i < 6 → (w2.alloc (.cells #[.int .i64 0, .int .i64 3, .int .i64 8, .int .i64 16, .int .i64 30, .int .i64 45] 3)).cell? ⟨w2.heap.size, i, none⟩ = some (.int .i64 (([0, 3, 8, 16, 30, 45] : List Int).getD i 0))) := lit_get w2 3 [0, 3, 8, 16, 30, 45]
  have HT2 : Hid (Ck _ w.heap.size z9) := (ck_save HT1.out s2 (by omega) (by omega)).below (below1 w2 (.cells #[.int .i64 0, .int .i64 3, .int .i64 8, .int .i64 16, .int .i64 30, .int .i64 45] 3)) (by omega)
  have HV2 : Hid (Save r w _) := ((save_of HB1.out).trans s2).trans (save_of (below1 w2 (.cells #[.int .i64 0, .int .i64 3, .int .i64 8, .int .i64 16, .int .i64 30, .int .i64 45] 3)))
  have z3 : w2.heap.size + 1 ≤ (w2.alloc (.cells #[.int .i64 0, .int .i64 3, .int .i64 8, .int .i64 16, .int .i64 30, .int .i64 45] 3)).heap.size := by simp
  have HOK : Hid (Plat.okB s q l = true) := ok
  clear R2 s2 HR1 HT1 HB1 ok
  go_wp2_with (fail)
  generalize w2.alloc (.cells #[.int .i64 0, .int .i64 3, .int .i64 8, .int .i64 16, .int .i64 30, .int .i64 45] 3) = W3 at HR2 HX HT2 HV2 z3 ⊢
  refine (num_any r ra rl rc zs (p + 1 + 1 + 1) W3 HR2.out (by omega) w2.heap.size 6 6 [0, 3, 8, 16, 30, 45] (by omega) (by omega) (by omega) HX.out).mono ?_
  rintro e w4 ⟨k4, k4', rfl, R4, s4⟩
  obtain ⟨m, hm, em⟩ := six_get k4'
  rw [em]
  have z4 := s4.size
  have HT4 : Hid (Ck _ w.heap.size z9) := ck_save HT2.out s4 (by omega) (by omega)
  have HV4 : Hid (Save r w _) := HV2.out.trans s4
  have HR4 : Hid (Rd _ r ra rl rc zs _) := R4
  clear em HR2 HX HT2 HV2 R4 s4 k4'
  go_wp2_with (fail)
  refine (lbook_any r ra rl rc zs (p + 1 + 1 + 1 + 1) s q l m w4 HR4.out (by omega) HOK.out (by omega)).mono ?_
  rintro e w5 ⟨b, rfl, okb, wf, hl, hn, ⟨p5, p5', R5⟩, s5⟩
  have z5 := s5.size
  have hne : 0 < b.p.n ∧ 0 < b.o.n ∧ 0 < b.i.n ∧ 0 < b.e.n ∧ b.total ≤ 1000 := by
    have g := okb.1.1
    have t := ok_total okb
    unfold LensP at g
    omega
  obtain ⟨np, no, ni, ne, tot⟩ := hne
  have lm : b.p.n < 1000000 ∧ b.o.n < 1000000 := by unfold Bx.total at tot; omega
  obtain ⟨lmp, lmo⟩ := lm
  obtain ⟨th, S⟩ := Ln.start (w0 := w) (P := p + 950) 26 (ck_save HT4.out s5 (by omega) (by omega)) (hl.mono (by omega)) R5 (by omega) (HV4.out.trans s5) hr.old rlt (by omega) wf (by omega) (ob_ok okb)
  simp only [z9] at th S
  have HT : Hid (World.there _ w5.heap.size 0 9) := th
  have HS : Hid (Ln _ _ _ _ _ _ _ _ _ _) := S
  clear th S okb wf hl hn R5 s5 HT4 HV4 HR4 HOK
  go_wp2_with (refine wpList_store_mid rfl 26 _ _ rfl w5.heap.size 0 b.cells.toArray rfl rfl HT.out (by kernel_rfl) (cells_one b) ?_; apply Hid.out)
  generalize World.setCells _ _ _ _ = w6 at HS ⊢
  generalize w5.heap.size = v at HS ⊢
  unfold Hid
  clear HT
  go_wp2_with (fail)
  obtain ⟨p7, p7', hd7⟩ := HS.out.d
  refine (pick_on r ra rl rc zs p7 36 _ hd7 (by omega)).mono ?_
  rintro e w7 ⟨x, rfl, x0, x1, -, rd7, sv7⟩
  have S := HS.out.read sv7 rd7 (P' := p + 951) (by omega)
  have HS7 : Hid (Ln _ _ _ _ _ _ _ _ _ _) := S
  have rlt7 : r < w7.heap.size := by have := S.s.size; omega
  clear HS hd7 rd7 sv7 x1 S z1 z2 z3 z4 z5 p5'
  by_cases c0 : x = 0
  · subst c0
    have H8 : Hid (Ln _ _ _ _ _ _ _ _ _ _) := HS7.out.later (below1 w7 (.cells #[.int .i64 0, .int .i64 5, .int .i64 1] 3))
    have HX : Hid (∀ i, i < 3 → (w7.alloc (.cells #[.int .i64 0, .int .i64 5, .int .i64 1] 3)).cell? ⟨w7.heap.size, i, none⟩ = some (.int .i64 (([0, 5, 1] : List Int).getD i 0))) := lit_get w7 3 [0, 5, 1]
    clear HS7
    go_wp2_with (fail)
    generalize w7.alloc (.cells #[.int .i64 0, .int .i64 5, .int .i64 1] 3) = W8 at H8 HX ⊢
    obtain ⟨p8, p8', hd8⟩ := H8.out.d
    refine (num_any r ra rl rc zs p8 _ hd8 (by omega) w7.heap.size 3 3 [0, 5, 1] (by omega) (by omega) (by omega) HX.out).mono ?_
    rintro e w9 ⟨k9, k9', rfl, rd9, sv9⟩
    have S := H8.out.read sv9 rd9 (P' := p + 1000) (by omega)
    generalize ([0, 5, 1] : List Int).getD k9 0 = y
    have f0 := S.e 0 _ rfl
    have HS : Hid (Ln _ _ _ _ _ _ _ _ _ _) := S.slots y
    obtain ⟨g0, g1⟩ := f0
    clear S H8 HX hd8 rd9 sv9
    obtain ⟨th, rg, bq⟩ := HS.out.ans
    have HT : Hid (World.there _ w.heap.size 0 9) := th
    have HG : Hid (World.rangeAt _ w.heap.size 0 _) := rg
    have HQ : Hid (BnQ _ _ _ _ _ _ _ _ _) := bq
    have HR : Hid (World.rangeAt _ v 0 _) := HS.out.e.range
    clear th rg bq
    go_wp2_with (first | (refine wpList_load_mid rfl 26 _ rfl v 0 rfl _ _ HR.out Tryd.underlying26 rfl (by kernel_rfl) ?_) | (refine wpList_store_mid rfl 26 _ _ rfl w.heap.size 0 _ rfl rfl HT.out (by kernel_rfl) (cells_one _) ?_))
    exact bodyPost_ret (results_cell_mid rfl _ _ w.heap.size 0 _ _ rfl HG.out Tryd.underlying26 rfl (by kernel_rfl)) rfl HQ.out
  by_cases c1 : x = 1
  · subst c1
    have HS : Hid (Ln _ _ _ _ _ _ _ _ _ _) := HS7.out.later (below_drew w7)
    have hS0 : (w7.drew).cell? ⟨v, 1, none⟩ = some (.slice b.p.a b.p.n b.p.c) := (HS.out.e 1 _ rfl).1
    obtain ⟨kp, op, ea⟩ := HS.out.addr (x := b.p) (by simp [Bx.lists]) (by omega)
    have EA : Hid (b.p.a = some ⟨kp, op, none⟩) := ea
    rw [ea] at hS0
    clear HS7 ea
    go_wp2_with (fail)
    refine wp_region_held_drew (S := fun w' => w'.cell? ⟨v, 1, none⟩ = some (.slice (some ⟨kp, op, none⟩) b.p.n b.p.c)) (by kernel_rfl) hS0 (fun hS => ?_)
    clear hS0
    generalize World.drew w7 = V at HS hS ⊢
    have sf : ∀ {P' : Int} {W : World}, Ln w r ra rl rc zs P' b v W → W.cell? ⟨v, 1, none⟩ = some (.slice (some ⟨kp, op, none⟩) b.p.n b.p.c) := fun h => by rw [← EA.out]; exact (h.e 1 _ rfl).1
    refine takeB (i := 0) (v := .pointer (some ⟨v, 1, none⟩)) (d := some 22) rfl rfl (by kernel_rfl) (by kernel_rfl) (by kernel_rfl) (fun _ _ _ h => h) (Or.inl ⟨by rfl, fun w' hw => ?_⟩) hS ?_
    · clear hw; go_simp
    try simp only [Act.put, List.setIfInBounds_toArray, List.set_cons_zero, List.set_cons_succ]
    refine takeB (i := 1) (v := .slice (some ⟨kp, op, none⟩) b.p.n b.p.c) (d := some 23) rfl rfl (by kernel_rfl) (by kernel_rfl) (by kernel_rfl) (fun _ _ _ h => h) (Or.inl ⟨by rfl, fun w' hw => ?_⟩) hS ?_
    · have hw' := hw; simp only at hw'; clear hw; go_simp
    try simp only [Act.put, List.setIfInBounds_toArray, List.set_cons_zero, List.set_cons_succ]
    refine takeB (i := 2) (v := .pointer (some ⟨r, 0, none⟩)) (d := some 24) rfl rfl (by kernel_rfl) (by kernel_rfl) (by kernel_rfl) (fun _ _ _ h => h) (Or.inl ⟨by rfl, fun w' hw => ?_⟩) hS ?_
    · clear hw; go_simp
    try simp only [Act.put, List.setIfInBounds_toArray, List.set_cons_zero, List.set_cons_succ]
    refine takeB (i := 3) (v := .pointer (some ⟨v, 1, none⟩)) (d := some 25) rfl rfl (by kernel_rfl) (by kernel_rfl) (by kernel_rfl) (fun _ _ _ h => h) (Or.inl ⟨by rfl, fun w' hw => ?_⟩) hS ?_
    · clear hw; go_simp
    try simp only [Act.put, List.setIfInBounds_toArray, List.set_cons_zero, List.set_cons_succ]
    refine takeB (i := 4) (v := .slice (some ⟨kp, op, none⟩) b.p.n b.p.c) (d := some 26) rfl rfl (by kernel_rfl) (by kernel_rfl) (by kernel_rfl) (fun _ _ _ h => h) (Or.inl ⟨by rfl, fun w' hw => ?_⟩) hS ?_
    · have hw' := hw; simp only at hw'; clear hw; go_simp
    try simp only [Act.put, List.setIfInBounds_toArray, List.set_cons_zero, List.set_cons_succ]
    refine takeB (i := 5) (v := .int .i64 b.p.n) (d := some 27) rfl rfl (by kernel_rfl) (by kernel_rfl) (by kernel_rfl) (fun _ _ _ h => h) (Or.inl ⟨by rfl, fun w' hw => ?_⟩) hS ?_
    · clear hw; go_simp
    try simp only [Act.put, List.setIfInBounds_toArray, List.set_cons_zero, List.set_cons_succ]
    refine takeB (i := 7) (v := .pointer (some ⟨r, 0, none⟩)) (d := some 29) rfl rfl (by kernel_rfl) (by kernel_rfl) (by kernel_rfl) (fun _ _ _ h => h) (Or.inl ⟨by rfl, fun w' hw => ?_⟩) hS ?_
    · clear hw; go_simp
    try simp only [Act.put, List.setIfInBounds_toArray, List.set_cons_zero, List.set_cons_succ]
    refine wpAnyH_ready (rs := [6, 8]) (by kernel_rfl) (by simp) ?_
    refine AllReadyH.cons rfl (fun K hK => ?_) (AllReadyH.cons rfl (fun K hK => ?_) AllReadyH.nil)
    · skip
      obtain ⟨pp, pp', hd⟩ := HS.out.d
      go_simp
      refine (pick_on r ra rl rc zs pp b.p.n _ hd (by omega)).mono ?_
      rintro e w8 ⟨j, rfl, j0, j1, -, rd, sv⟩
      have j2 := j1 (by omega)
      obtain ⟨j, rfl⟩ := Int.eq_ofNat_of_zero_le j0
      have S := HS.out.read sv rd (P' := p + 952) (by omega)
      clear HS hd rd sv j1
      have HS : Hid (Ln _ _ _ _ _ _ _ _ _ _) := S
      clear S
      go_wp2_with (fail)
      refine hK.out _ _ (sf HS.out) (fun hS => ?_)
      clear hK K
      try simp only [Act.put, List.setIfInBounds_toArray, List.set_cons_zero, List.set_cons_succ]
      refine wpAnyH_ready (rs := [8]) (by kernel_rfl) (by simp) ?_
      refine AllReadyH.cons rfl (fun K hK => ?_) AllReadyH.nil
      have H : Hid (Ln _ _ _ _ _ _ _ _ _ _) := HS.out.later (below1 w8 (.cells #[.int .i64 0, .int .i64 1, .int .i64 2, .int .i64 5, .int .i64 6, .int .i64 7, .int .i64 8, .int .i64 9, .int .i64 10, .int .i64 13] 3))
      have HX : Hid (∀ i, i < 10 → (w8.alloc (.cells #[.int .i64 0, .int .i64 1, .int .i64 2, .int .i64 5, .int .i64 6, .int .i64 7, .int .i64 8, .int .i64 9, .int .i64 10, .int .i64 13] 3)).cell? ⟨w8.heap.size, i, none⟩ = some (.int .i64 (([0, 1, 2, 5, 6, 7, 8, 9, 10, 13] : List Int).getD i 0))) := lit_get w8 3 [0, 1, 2, 5, 6, 7, 8, 9, 10, 13]
      have rltv : r < w8.heap.size := by have := HS.out.s.size; omega
      have zltv : w8.heap.size < (w8.alloc (.cells #[.int .i64 0, .int .i64 1, .int .i64 2, .int .i64 5, .int .i64 6, .int .i64 7, .int .i64 8, .int .i64 9, .int .i64 10, .int .i64 13] 3)).heap.size := by simp
      clear HS
      go_simp
      refine hK.out _ _ (sf H.out) (fun hS => ?_)
      clear hK K
      generalize w8.alloc (.cells #[.int .i64 0, .int .i64 1, .int .i64 2, .int .i64 5, .int .i64 6, .int .i64 7, .int .i64 8, .int .i64 9, .int .i64 10, .int .i64 13] 3) = V9 at H HX hS zltv ⊢
      have HS : Hid (Ln _ _ _ _ _ _ _ _ _ _) := H
      clear H
      try simp only [Act.put, List.setIfInBounds_toArray, List.set_cons_zero, List.set_cons_succ]
      refine wpAnyH_ready (rs := [9]) (by kernel_rfl) (by simp) ?_
      refine AllReadyH.cons rfl (fun K hK => ?_) AllReadyH.nil
      obtain ⟨pp, pp', hd⟩ := HS.out.d
      go_simp
      refine (num_any r ra rl rc zs pp _ hd (by omega) w8.heap.size 10 10 [0, 1, 2, 5, 6, 7, 8, 9, 10, 13] (by omega) (by omega) (by omega) HX.out).mono ?_
      rintro e w10 ⟨ky, ky', rfl, rd, sv⟩
      have S := HS.out.read sv rd (P' := p + 953) (by omega)
      have hy := small_get [0, 1, 2, 5, 6, 7, 8, 9, 10, 13] (by decide) ky
      generalize ([0, 1, 2, 5, 6, 7, 8, 9, 10, 13] : List Int).getD ky 0 = y at hy
      clear HS HX hd rd sv
      have HS : Hid (Ln _ _ _ _ _ _ _ _ _ _) := S
      clear S
      go_wp2_with (fail)
      refine hK.out _ _ (sf HS.out) (fun hS => ?_)
      clear hK K
      try simp only [Act.put, List.setIfInBounds_toArray, List.set_cons_zero, List.set_cons_succ]
      refine takeB (i := 10) (v := .pointer (some ⟨kp, op + j, none⟩)) (d := some 32) rfl rfl (by kernel_rfl) (by kernel_rfl) (by kernel_rfl) (fun _ _ _ h => h) (Or.inl ⟨by rfl, fun w' hw => ?_⟩) hS ?_
      · clear hw; go_simp
      try simp only [Act.put, List.setIfInBounds_toArray, List.set_cons_zero, List.set_cons_succ]
      refine wpAnyH_ready (rs := [11]) (by kernel_rfl) (by simp) ?_
      refine AllReadyH.cons rfl (fun K hK => ?_) AllReadyH.nil
      obtain ⟨nv, f1, f2⟩ := HS.out.fre (x := b.p) (by simp [Bx.lists]) EA.out (j := j) (by omega)
      have S := HS.out.write (b' := { b with p := b.p.put j y }) 0 b.p rfl kp op j EA.out (by omega) y (by omega) rfl rfl rfl HS.out.ob
      skip
      go_simp
      clear HS f1 f2
      have HS : Hid (Ln _ _ _ _ _ _ _ _ _ _) := S.mono (P' := p + 1000) (by omega)
      refine hK.out _ _ (by rw [← EA.out]; exact (S.e 1 _ rfl).1) (fun hS => ?_)
      clear hK K hS S
      generalize World.setCell _ _ _ = WW at HS ⊢
      refine wpAnyH_done (by kernel_rfl) ?_ _
      obtain ⟨th, rg, bq⟩ := HS.out.ans
      have HT : Hid (World.there _ w.heap.size 0 9) := th
      have HG : Hid (World.rangeAt _ w.heap.size 0 _) := rg
      have HQ : Hid (BnQ _ _ _ _ _ _ _ _ _) := bq
      have HR : Hid (World.rangeAt _ v 0 _) := HS.out.e.range
      clear th rg bq
      go_wp2_with (first | (refine wpList_load_mid rfl 26 _ rfl v 0 rfl _ _ HR.out Tryd.underlying26 rfl (by kernel_rfl) ?_) | (refine wpList_store_mid rfl 26 _ _ rfl w.heap.size 0 _ rfl rfl HT.out (by kernel_rfl) (cells_one _) ?_))
      exact bodyPost_ret (results_cell_mid rfl _ _ w.heap.size 0 _ _ rfl HG.out Tryd.underlying26 rfl (by kernel_rfl)) rfl HQ.out
    · skip
      have H : Hid (Ln _ _ _ _ _ _ _ _ _ _) := HS.out.later (below1 V (.cells #[.int .i64 0, .int .i64 1, .int .i64 2, .int .i64 5, .int .i64 6, .int .i64 7, .int .i64 8, .int .i64 9, .int .i64 10, .int .i64 13] 3))
      have HX : Hid (∀ i, i < 10 → (V.alloc (.cells #[.int .i64 0, .int .i64 1, .int .i64 2, .int .i64 5, .int .i64 6, .int .i64 7, .int .i64 8, .int .i64 9, .int .i64 10, .int .i64 13] 3)).cell? ⟨V.heap.size, i, none⟩ = some (.int .i64 (([0, 1, 2, 5, 6, 7, 8, 9, 10, 13] : List Int).getD i 0))) := lit_get V 3 [0, 1, 2, 5, 6, 7, 8, 9, 10, 13]
      have rltv : r < V.heap.size := by have := HS.out.s.size; omega
      have zltv : V.heap.size < (V.alloc (.cells #[.int .i64 0, .int .i64 1, .int .i64 2, .int .i64 5, .int .i64 6, .int .i64 7, .int .i64 8, .int .i64 9, .int .i64 10, .int .i64 13] 3)).heap.size := by simp
      clear HS
      go_simp
      refine hK.out _ _ (sf H.out) (fun hS => ?_)
      clear hK K
      generalize V.alloc (.cells #[.int .i64 0, .int .i64 1, .int .i64 2, .int .i64 5, .int .i64 6, .int .i64 7, .int .i64 8, .int .i64 9, .int .i64 10, .int .i64 13] 3) = V8 at H HX hS zltv ⊢
      have HS : Hid (Ln _ _ _ _ _ _ _ _ _ _) := H
      clear H
      try simp only [Act.put, List.setIfInBounds_toArray, List.set_cons_zero, List.set_cons_succ]
      refine wpAnyH_ready (rs := [6]) (by kernel_rfl) (by simp) ?_
      refine AllReadyH.cons rfl (fun K hK => ?_) AllReadyH.nil
      obtain ⟨pp, pp', hd⟩ := HS.out.d
      go_simp
      refine (pick_on r ra rl rc zs pp b.p.n _ hd (by omega)).mono ?_
      rintro e w9 ⟨j, rfl, j0, j1, -, rd, sv⟩
      have j2 := j1 (by omega)
      obtain ⟨j, rfl⟩ := Int.eq_ofNat_of_zero_le j0
      have HX' : Hid (∀ i, i < 10 → w9.cell? ⟨V.heap.size, i, none⟩ = some (.int .i64 (([0, 1, 2, 5, 6, 7, 8, 9, 10, 13] : List Int).getD i 0))) := fun i hi => (sv.cell (q := ⟨V.heap.size, i, none⟩) (by show V.heap.size ≠ r; omega) (by show V.heap.size < _; omega)).trans (HX.out i hi)
      clear HX
      have HX := HX'
      clear HX'
      have S := HS.out.read sv rd (P' := p + 952) (by omega)
      clear HS hd rd sv j1
      have HS : Hid (Ln _ _ _ _ _ _ _ _ _ _) := S
      clear S
      go_wp2_with (fail)
      refine hK.out _ _ (sf HS.out) (fun hS => ?_)
      clear hK K
      try simp only [Act.put, List.setIfInBounds_toArray, List.set_cons_zero, List.set_cons_succ]
      refine wpAnyH_ready (rs := [9]) (by kernel_rfl) (by simp) ?_
      refine AllReadyH.cons rfl (fun K hK => ?_) AllReadyH.nil
      obtain ⟨pp, pp', hd⟩ := HS.out.d
      go_simp
      refine (num_any r ra rl rc zs pp _ hd (by omega) V.heap.size 10 10 [0, 1, 2, 5, 6, 7, 8, 9, 10, 13] (by omega) (by omega) (by omega) HX.out).mono ?_
      rintro e w10 ⟨ky, ky', rfl, rd, sv⟩
      have S := HS.out.read sv rd (P' := p + 953) (by omega)
      have hy := small_get [0, 1, 2, 5, 6, 7, 8, 9, 10, 13] (by decide) ky
      generalize ([0, 1, 2, 5, 6, 7, 8, 9, 10, 13] : List Int).getD ky 0 = y at hy
      clear HS HX hd rd sv
      have HS : Hid (Ln _ _ _ _ _ _ _ _ _ _) := S
      clear S
      go_wp2_with (fail)
      refine hK.out _ _ (sf HS.out) (fun hS => ?_)
      clear hK K
      try simp only [Act.put, List.setIfInBounds_toArray, List.set_cons_zero, List.set_cons_succ]
      refine takeB (i := 10) (v := .pointer (some ⟨kp, op + j, none⟩)) (d := some 32) rfl rfl (by kernel_rfl) (by kernel_rfl) (by kernel_rfl) (fun _ _ _ h => h) (Or.inl ⟨by rfl, fun w' hw => ?_⟩) hS ?_
      · clear hw; go_simp
      try simp only [Act.put, List.setIfInBounds_toArray, List.set_cons_zero, List.set_cons_succ]
      refine wpAnyH_ready (rs := [11]) (by kernel_rfl) (by simp) ?_
      refine AllReadyH.cons rfl (fun K hK => ?_) AllReadyH.nil
      obtain ⟨nv, f1, f2⟩ := HS.out.fre (x := b.p) (by simp [Bx.lists]) EA.out (j := j) (by omega)
      have S := HS.out.write (b' := { b with p := b.p.put j y }) 0 b.p rfl kp op j EA.out (by omega) y (by omega) rfl rfl rfl HS.out.ob
      skip
      go_simp
      clear HS f1 f2
      have HS : Hid (Ln _ _ _ _ _ _ _ _ _ _) := S.mono (P' := p + 1000) (by omega)
      refine hK.out _ _ (by rw [← EA.out]; exact (S.e 1 _ rfl).1) (fun hS => ?_)
      clear hK K hS S
      generalize World.setCell _ _ _ = WW at HS ⊢
      refine wpAnyH_done (by kernel_rfl) ?_ _
      obtain ⟨th, rg, bq⟩ := HS.out.ans
      have HT : Hid (World.there _ w.heap.size 0 9) := th
      have HG : Hid (World.rangeAt _ w.heap.size 0 _) := rg
      have HQ : Hid (BnQ _ _ _ _ _ _ _ _ _) := bq
      have HR : Hid (World.rangeAt _ v 0 _) := HS.out.e.range
      clear th rg bq
      go_wp2_with (first | (refine wpList_load_mid rfl 26 _ rfl v 0 rfl _ _ HR.out Tryd.underlying26 rfl (by kernel_rfl) ?_) | (refine wpList_store_mid rfl 26 _ _ rfl w.heap.size 0 _ rfl rfl HT.out (by kernel_rfl) (cells_one _) ?_))
      exact bodyPost_ret (results_cell_mid rfl _ _ w.heap.size 0 _ _ rfl HG.out Tryd.underlying26 rfl (by kernel_rfl)) rfl HQ.out
  by_cases c3 : x = 3
  · subst c3
    have HS : Hid (Ln _ _ _ _ _ _ _ _ _ _) := HS7.out.later (below_drew w7)
    have hS0 : (w7.drew).cell? ⟨v, 6, none⟩ = some (.slice b.o.a b.o.n b.o.c) := (HS.out.e 6 _ rfl).1
    obtain ⟨kp, op, ea⟩ := HS.out.addr (x := b.o) (by simp [Bx.lists]) (by omega)
    have EA : Hid (b.o.a = some ⟨kp, op, none⟩) := ea
    rw [ea] at hS0
    clear HS7 ea
    go_wp2_with (fail)
    refine wp_region_held_drew (S := fun w' => w'.cell? ⟨v, 6, none⟩ = some (.slice (some ⟨kp, op, none⟩) b.o.n b.o.c)) (by kernel_rfl) hS0 (fun hS => ?_)
    clear hS0
    generalize World.drew w7 = V at HS hS ⊢
    have sf : ∀ {P' : Int} {W : World}, Ln w r ra rl rc zs P' b v W → W.cell? ⟨v, 6, none⟩ = some (.slice (some ⟨kp, op, none⟩) b.o.n b.o.c) := fun h => by rw [← EA.out]; exact (h.e 6 _ rfl).1
    refine takeB (i := 0) (v := .pointer (some ⟨v, 6, none⟩)) (d := some 51) rfl rfl (by kernel_rfl) (by kernel_rfl) (by kernel_rfl) (fun _ _ _ h => h) (Or.inl ⟨by rfl, fun w' hw => ?_⟩) hS ?_
    · clear hw; go_simp
    try simp only [Act.put, List.setIfInBounds_toArray, List.set_cons_zero, List.set_cons_succ]
    refine takeB (i := 1) (v := .slice (some ⟨kp, op, none⟩) b.o.n b.o.c) (d := some 52) rfl rfl (by kernel_rfl) (by kernel_rfl) (by kernel_rfl) (fun _ _ _ h => h) (Or.inl ⟨by rfl, fun w' hw => ?_⟩) hS ?_
    · have hw' := hw; simp only at hw'; clear hw; go_simp
    try simp only [Act.put, List.setIfInBounds_toArray, List.set_cons_zero, List.set_cons_succ]
    refine takeB (i := 2) (v := .pointer (some ⟨r, 0, none⟩)) (d := some 53) rfl rfl (by kernel_rfl) (by kernel_rfl) (by kernel_rfl) (fun _ _ _ h => h) (Or.inl ⟨by rfl, fun w' hw => ?_⟩) hS ?_
    · clear hw; go_simp
    try simp only [Act.put, List.setIfInBounds_toArray, List.set_cons_zero, List.set_cons_succ]
    refine takeB (i := 3) (v := .pointer (some ⟨v, 6, none⟩)) (d := some 54) rfl rfl (by kernel_rfl) (by kernel_rfl) (by kernel_rfl) (fun _ _ _ h => h) (Or.inl ⟨by rfl, fun w' hw => ?_⟩) hS ?_
    · clear hw; go_simp
    try simp only [Act.put, List.setIfInBounds_toArray, List.set_cons_zero, List.set_cons_succ]
    refine takeB (i := 4) (v := .slice (some ⟨kp, op, none⟩) b.o.n b.o.c) (d := some 55) rfl rfl (by kernel_rfl) (by kernel_rfl) (by kernel_rfl) (fun _ _ _ h => h) (Or.inl ⟨by rfl, fun w' hw => ?_⟩) hS ?_
    · have hw' := hw; simp only at hw'; clear hw; go_simp
    try simp only [Act.put, List.setIfInBounds_toArray, List.set_cons_zero, List.set_cons_succ]
    refine takeB (i := 5) (v := .int .i64 b.o.n) (d := some 56) rfl rfl (by kernel_rfl) (by kernel_rfl) (by kernel_rfl) (fun _ _ _ h => h) (Or.inl ⟨by rfl, fun w' hw => ?_⟩) hS ?_
    · clear hw; go_simp
    try simp only [Act.put, List.setIfInBounds_toArray, List.set_cons_zero, List.set_cons_succ]
    refine takeB (i := 7) (v := .pointer (some ⟨r, 0, none⟩)) (d := some 58) rfl rfl (by kernel_rfl) (by kernel_rfl) (by kernel_rfl) (fun _ _ _ h => h) (Or.inl ⟨by rfl, fun w' hw => ?_⟩) hS ?_
    · clear hw; go_simp
    try simp only [Act.put, List.setIfInBounds_toArray, List.set_cons_zero, List.set_cons_succ]
    refine wpAnyH_ready (rs := [6]) (by kernel_rfl) (by simp) ?_
    refine AllReadyH.cons rfl (fun K hK => ?_) AllReadyH.nil
    obtain ⟨pp, pp', hd⟩ := HS.out.d
    go_simp
    refine (pick_on r ra rl rc zs pp b.o.n _ hd (by omega)).mono ?_
    rintro e w8 ⟨j, rfl, j0, j1, -, rd, sv⟩
    have j2 := j1 (by omega)
    obtain ⟨j, rfl⟩ := Int.eq_ofNat_of_zero_le j0
    have S := HS.out.read sv rd (P' := p + 952) (by omega)
    clear HS hd rd sv j1
    have HS : Hid (Ln _ _ _ _ _ _ _ _ _ _) := S
    clear S
    go_wp2_with (fail)
    refine hK.out _ _ (sf HS.out) (fun hS => ?_)
    clear hK K
    try simp only [Act.put, List.setIfInBounds_toArray, List.set_cons_zero, List.set_cons_succ]
    refine wpAnyH_ready (rs := [8]) (by kernel_rfl) (by simp) ?_
    refine AllReadyH.cons rfl (fun K hK => ?_) AllReadyH.nil
    obtain ⟨pp, pp', hd⟩ := HS.out.d
    go_simp
    refine (pick_on r ra rl rc zs pp 5 _ hd (by omega)).mono ?_
    rintro e w9 ⟨y, rfl, y0, y1, -, rd, sv⟩
    have y2 := y1 (by omega)
    obtain ⟨y, rfl⟩ := Int.eq_ofNat_of_zero_le y0
    have S := HS.out.read sv rd (P' := p + 953) (by omega)
    clear HS hd rd sv y1
    have HS : Hid (Ln _ _ _ _ _ _ _ _ _ _) := S
    clear S
    go_wp2_with (fail)
    refine hK.out _ _ (sf HS.out) (fun hS => ?_)
    clear hK K
    try simp only [Act.put, List.setIfInBounds_toArray, List.set_cons_zero, List.set_cons_succ]
    refine takeB (i := 9) (v := .pointer (some ⟨kp, op + j, none⟩)) (d := some 60) rfl rfl (by kernel_rfl) (by kernel_rfl) (by kernel_rfl) (fun _ _ _ h => h) (Or.inl ⟨by rfl, fun w' hw => ?_⟩) hS ?_
    · clear hw; go_simp
    try simp only [Act.put, List.setIfInBounds_toArray, List.set_cons_zero, List.set_cons_succ]
    refine wpAnyH_ready (rs := [10]) (by kernel_rfl) (by simp) ?_
    refine AllReadyH.cons rfl (fun K hK => ?_) AllReadyH.nil
    obtain ⟨nv, f1, f2⟩ := HS.out.fre (x := b.o) (by simp [Bx.lists]) EA.out (j := j) (by omega)
    have S := HS.out.write (b' := { b with o := b.o.put j (y : Int) }) 5 b.o rfl kp op j EA.out (by omega) (y : Int) (by omega) rfl rfl rfl (HS.out.ob.put j (by omega) (by omega))
    skip
    go_simp
    clear HS f1 f2
    have HS : Hid (Ln _ _ _ _ _ _ _ _ _ _) := S.mono (P' := p + 1000) (by omega)
    refine hK.out _ _ (by rw [← EA.out]; exact (S.e 6 _ rfl).1) (fun hS => ?_)
    clear hK K hS S
    generalize World.setCell _ _ _ = WW at HS ⊢
    refine wpAnyH_done (by kernel_rfl) ?_ _
    obtain ⟨th, rg, bq⟩ := HS.out.ans
    have HT : Hid (World.there _ w.heap.size 0 9) := th
    have HG : Hid (World.rangeAt _ w.heap.size 0 _) := rg
    have HQ : Hid (BnQ _ _ _ _ _ _ _ _ _) := bq
    have HR : Hid (World.rangeAt _ v 0 _) := HS.out.e.range
    clear th rg bq
    go_wp2_with (first | (refine wpList_load_mid rfl 26 _ rfl v 0 rfl _ _ HR.out Tryd.underlying26 rfl (by kernel_rfl) ?_) | (refine wpList_store_mid rfl 26 _ _ rfl w.heap.size 0 _ rfl rfl HT.out (by kernel_rfl) (cells_one _) ?_))
    exact bodyPost_ret (results_cell_mid rfl _ _ w.heap.size 0 _ _ rfl HG.out Tryd.underlying26 rfl (by kernel_rfl)) rfl HQ.out
  by_cases c4 : x = 4
  · subst c4
    have HS : Hid (Ln _ _ _ _ _ _ _ _ _ _) := HS7.out.later (below_drew w7)
    have hS0 : (w7.drew).cell? ⟨v, 7, none⟩ = some (.slice b.i.a b.i.n b.i.c) := (HS.out.e 7 _ rfl).1
    obtain ⟨kp, op, ea⟩ := HS.out.addr (x := b.i) (by simp [Bx.lists]) (by omega)
    have EA : Hid (b.i.a = some ⟨kp, op, none⟩) := ea
    rw [ea] at hS0
    clear HS7 ea
    go_wp2_with (fail)
    refine wp_region_held_drew (S := fun w' => w'.cell? ⟨v, 7, none⟩ = some (.slice (some ⟨kp, op, none⟩) b.i.n b.i.c)) (by kernel_rfl) hS0 (fun hS => ?_)
    clear hS0
    generalize World.drew w7 = V at HS hS ⊢
    have sf : ∀ {P' : Int} {W : World}, Ln w r ra rl rc zs P' b v W → W.cell? ⟨v, 7, none⟩ = some (.slice (some ⟨kp, op, none⟩) b.i.n b.i.c) := fun h => by rw [← EA.out]; exact (h.e 7 _ rfl).1
    refine takeB (i := 0) (v := .pointer (some ⟨v, 7, none⟩)) (d := some 63) rfl rfl (by kernel_rfl) (by kernel_rfl) (by kernel_rfl) (fun _ _ _ h => h) (Or.inl ⟨by rfl, fun w' hw => ?_⟩) hS ?_
    · clear hw; go_simp
    try simp only [Act.put, List.setIfInBounds_toArray, List.set_cons_zero, List.set_cons_succ]
    refine takeB (i := 1) (v := .slice (some ⟨kp, op, none⟩) b.i.n b.i.c) (d := some 64) rfl rfl (by kernel_rfl) (by kernel_rfl) (by kernel_rfl) (fun _ _ _ h => h) (Or.inl ⟨by rfl, fun w' hw => ?_⟩) hS ?_
    · have hw' := hw; simp only at hw'; clear hw; go_simp
    try simp only [Act.put, List.setIfInBounds_toArray, List.set_cons_zero, List.set_cons_succ]
    refine takeB (i := 2) (v := .pointer (some ⟨r, 0, none⟩)) (d := some 65) rfl rfl (by kernel_rfl) (by kernel_rfl) (by kernel_rfl) (fun _ _ _ h => h) (Or.inl ⟨by rfl, fun w' hw => ?_⟩) hS ?_
    · clear hw; go_simp
    try simp only [Act.put, List.setIfInBounds_toArray, List.set_cons_zero, List.set_cons_succ]
    refine wpAnyH_ready (rs := [3]) (by kernel_rfl) (by simp) ?_
    refine AllReadyH.cons rfl (fun K hK => ?_) AllReadyH.nil
    have H : Hid (Ln _ _ _ _ _ _ _ _ _ _) := HS.out.later (below1 V (.cells #[.int .i64 (-1), .int .i64 0, .int .i64 1, .int .i64 2, .int .i64 3] 3))
    have HX : Hid (∀ i, i < 5 → (V.alloc (.cells #[.int .i64 (-1), .int .i64 0, .int .i64 1, .int .i64 2, .int .i64 3] 3)).cell? ⟨V.heap.size, i, none⟩ = some (.int .i64 (([-1, 0, 1, 2, 3] : List Int).getD i 0))) := lit_get V 3 [-1, 0, 1, 2, 3]
    have rltv : r < V.heap.size := by have := HS.out.s.size; omega
    have zltv : V.heap.size < (V.alloc (.cells #[.int .i64 (-1), .int .i64 0, .int .i64 1, .int .i64 2, .int .i64 3] 3)).heap.size := by simp
    clear HS
    go_simp
    refine hK.out _ _ (sf H.out) (fun hS => ?_)
    clear hK K
    generalize V.alloc (.cells #[.int .i64 (-1), .int .i64 0, .int .i64 1, .int .i64 2, .int .i64 3] 3) = V8 at H HX hS zltv ⊢
    have HS : Hid (Ln _ _ _ _ _ _ _ _ _ _) := H
    clear H
    try simp only [Act.put, List.setIfInBounds_toArray, List.set_cons_zero, List.set_cons_succ]
    refine wpAnyH_ready (rs := [4]) (by kernel_rfl) (by simp) ?_
    refine AllReadyH.cons rfl (fun K hK => ?_) AllReadyH.nil
    obtain ⟨pp, pp', hd⟩ := HS.out.d
    go_simp
    refine (num_any r ra rl rc zs pp _ hd (by omega) V.heap.size 5 5 [-1, 0, 1, 2, 3] (by omega) (by omega) (by omega) HX.out).mono ?_
    rintro e w10 ⟨ky, ky', rfl, rd, sv⟩
    have S := HS.out.read sv rd (P' := p + 953) (by omega)
    have hy := small_get [-1, 0, 1, 2, 3] (by decide) ky
    generalize ([-1, 0, 1, 2, 3] : List Int).getD ky 0 = y at hy
    clear HS HX hd rd sv
    have HS : Hid (Ln _ _ _ _ _ _ _ _ _ _) := S
    clear S
    go_wp2_with (fail)
    refine hK.out _ _ (sf HS.out) (fun hS => ?_)
    clear hK K
    try simp only [Act.put, List.setIfInBounds_toArray, List.set_cons_zero, List.set_cons_succ]
    refine takeB (i := 5) (v := .pointer (some ⟨kp, op, none⟩)) (d := some 68) rfl rfl (by kernel_rfl) (by kernel_rfl) (by kernel_rfl) (fun _ _ _ h => h) (Or.inl ⟨by rfl, fun w' hw => ?_⟩) hS ?_
    · clear hw; go_simp
    try simp only [Act.put, List.setIfInBounds_toArray, List.set_cons_zero, List.set_cons_succ]
    refine wpAnyH_ready (rs := [6]) (by kernel_rfl) (by simp) ?_
    refine AllReadyH.cons rfl (fun K hK => ?_) AllReadyH.nil
    obtain ⟨nv, f1, f2⟩ := HS.out.fre (x := b.i) (by simp [Bx.lists]) EA.out (j := 0) (by omega)
    have S := HS.out.write (b' := { b with i := b.i.put 0 y }) 6 b.i rfl kp op 0 EA.out (by omega) y (by omega) rfl rfl rfl HS.out.ob
    simp only [Nat.add_zero] at f1 f2 S
    go_simp
    clear HS f1 f2
    have HS : Hid (Ln _ _ _ _ _ _ _ _ _ _) := S.mono (P' := p + 1000) (by omega)
    refine hK.out _ _ (by rw [← EA.out]; exact (S.e 7 _ rfl).1) (fun hS => ?_)
    clear hK K hS S
    generalize World.setCell _ _ _ = WW at HS ⊢
    refine wpAnyH_done (by kernel_rfl) ?_ _
    obtain ⟨th, rg, bq⟩ := HS.out.ans
    have HT : Hid (World.there _ w.heap.size 0 9) := th
    have HG : Hid (World.rangeAt _ w.heap.size 0 _) := rg
    have HQ : Hid (BnQ _ _ _ _ _ _ _ _ _) := bq
    have HR : Hid (World.rangeAt _ v 0 _) := HS.out.e.range
    clear th rg bq
    go_wp2_with (first | (refine wpList_load_mid rfl 26 _ rfl v 0 rfl _ _ HR.out Tryd.underlying26 rfl (by kernel_rfl) ?_) | (refine wpList_store_mid rfl 26 _ _ rfl w.heap.size 0 _ rfl rfl HT.out (by kernel_rfl) (cells_one _) ?_))
    exact bodyPost_ret (results_cell_mid rfl _ _ w.heap.size 0 _ _ rfl HG.out Tryd.underlying26 rfl (by kernel_rfl)) rfl HQ.out
  by_cases c5 : x = 5
  · subst c5
    have HS : Hid (Ln _ _ _ _ _ _ _ _ _ _) := HS7.out.later (below_drew w7)
    have hS0 : (w7.drew).cell? ⟨v, 8, none⟩ = some (.slice b.e.a b.e.n b.e.c) := (HS.out.e 8 _ rfl).1
    obtain ⟨kp, op, ea⟩ := HS.out.addr (x := b.e) (by simp [Bx.lists]) (by omega)
    have EA : Hid (b.e.a = some ⟨kp, op, none⟩) := ea
    rw [ea] at hS0
    clear HS7 ea
    go_wp2_with (fail)
    refine wp_region_held_drew (S := fun w' => w'.cell? ⟨v, 8, none⟩ = some (.slice (some ⟨kp, op, none⟩) b.e.n b.e.c)) (by kernel_rfl) hS0 (fun hS => ?_)
    clear hS0
    generalize World.drew w7 = V at HS hS ⊢
    have sf : ∀ {P' : Int} {W : World}, Ln w r ra rl rc zs P' b v W → W.cell? ⟨v, 8, none⟩ = some (.slice (some ⟨kp, op, none⟩) b.e.n b.e.c) := fun h => by rw [← EA.out]; exact (h.e 8 _ rfl).1
    refine takeB (i := 0) (v := .pointer (some ⟨v, 8, none⟩)) (d := some 71) rfl rfl (by kernel_rfl) (by kernel_rfl) (by kernel_rfl) (fun _ _ _ h => h) (Or.inl ⟨by rfl, fun w' hw => ?_⟩) hS ?_
    · clear hw; go_simp
    try simp only [Act.put, List.setIfInBounds_toArray, List.set_cons_zero, List.set_cons_succ]
    refine takeB (i := 1) (v := .slice (some ⟨kp, op, none⟩) b.e.n b.e.c) (d := some 72) rfl rfl (by kernel_rfl) (by kernel_rfl) (by kernel_rfl) (fun _ _ _ h => h) (Or.inl ⟨by rfl, fun w' hw => ?_⟩) hS ?_
    · have hw' := hw; simp only at hw'; clear hw; go_simp
    try simp only [Act.put, List.setIfInBounds_toArray, List.set_cons_zero, List.set_cons_succ]
    refine takeB (i := 2) (v := .pointer (some ⟨r, 0, none⟩)) (d := some 73) rfl rfl (by kernel_rfl) (by kernel_rfl) (by kernel_rfl) (fun _ _ _ h => h) (Or.inl ⟨by rfl, fun w' hw => ?_⟩) hS ?_
    · clear hw; go_simp
    try simp only [Act.put, List.setIfInBounds_toArray, List.set_cons_zero, List.set_cons_succ]
    refine wpAnyH_ready (rs := [3]) (by kernel_rfl) (by simp) ?_
    refine AllReadyH.cons rfl (fun K hK => ?_) AllReadyH.nil
    have H : Hid (Ln _ _ _ _ _ _ _ _ _ _) := HS.out.later (below1 V (.cells #[.int .i64 (-1), .int .i64 0, .int .i64 4095, .int .i64 4096] 3))
    have HX : Hid (∀ i, i < 4 → (V.alloc (.cells #[.int .i64 (-1), .int .i64 0, .int .i64 4095, .int .i64 4096] 3)).cell? ⟨V.heap.size, i, none⟩ = some (.int .i64 (([-1, 0, 4095, 4096] : List Int).getD i 0))) := lit_get V 3 [-1, 0, 4095, 4096]
    have rltv : r < V.heap.size := by have := HS.out.s.size; omega
    have zltv : V.heap.size < (V.alloc (.cells #[.int .i64 (-1), .int .i64 0, .int .i64 4095, .int .i64 4096] 3)).heap.size := by simp
    clear HS
    go_simp
    refine hK.out _ _ (sf H.out) (fun hS => ?_)
    clear hK K
    generalize V.alloc (.cells #[.int .i64 (-1), .int .i64 0, .int .i64 4095, .int .i64 4096] 3) = V8 at H HX hS zltv ⊢
    have HS : Hid (Ln _ _ _ _ _ _ _ _ _ _) := H
    clear H
    try simp only [Act.put, List.setIfInBounds_toArray, List.set_cons_zero, List.set_cons_succ]
    refine wpAnyH_ready (rs := [4]) (by kernel_rfl) (by simp) ?_
    refine AllReadyH.cons rfl (fun K hK => ?_) AllReadyH.nil
    obtain ⟨pp, pp', hd⟩ := HS.out.d
    go_simp
    refine (num_any r ra rl rc zs pp _ hd (by omega) V.heap.size 4 4 [-1, 0, 4095, 4096] (by omega) (by omega) (by omega) HX.out).mono ?_
    rintro e w10 ⟨ky, ky', rfl, rd, sv⟩
    have S := HS.out.read sv rd (P' := p + 953) (by omega)
    have hy := small_get [-1, 0, 4095, 4096] (by decide) ky
    generalize ([-1, 0, 4095, 4096] : List Int).getD ky 0 = y at hy
    clear HS HX hd rd sv
    have HS : Hid (Ln _ _ _ _ _ _ _ _ _ _) := S
    clear S
    go_wp2_with (fail)
    refine hK.out _ _ (sf HS.out) (fun hS => ?_)
    clear hK K
    try simp only [Act.put, List.setIfInBounds_toArray, List.set_cons_zero, List.set_cons_succ]
    refine takeB (i := 5) (v := .pointer (some ⟨kp, op, none⟩)) (d := some 76) rfl rfl (by kernel_rfl) (by kernel_rfl) (by kernel_rfl) (fun _ _ _ h => h) (Or.inl ⟨by rfl, fun w' hw => ?_⟩) hS ?_
    · clear hw; go_simp
    try simp only [Act.put, List.setIfInBounds_toArray, List.set_cons_zero, List.set_cons_succ]
    refine wpAnyH_ready (rs := [6]) (by kernel_rfl) (by simp) ?_
    refine AllReadyH.cons rfl (fun K hK => ?_) AllReadyH.nil
    obtain ⟨nv, f1, f2⟩ := HS.out.fre (x := b.e) (by simp [Bx.lists]) EA.out (j := 0) (by omega)
    have S := HS.out.write (b' := { b with e := b.e.put 0 y }) 7 b.e rfl kp op 0 EA.out (by omega) y (by omega) rfl rfl rfl HS.out.ob
    simp only [Nat.add_zero] at f1 f2 S
    go_simp
    clear HS f1 f2
    have HS : Hid (Ln _ _ _ _ _ _ _ _ _ _) := S.mono (P' := p + 1000) (by omega)
    refine hK.out _ _ (by rw [← EA.out]; exact (S.e 8 _ rfl).1) (fun hS => ?_)
    clear hK K hS S
    generalize World.setCell _ _ _ = WW at HS ⊢
    refine wpAnyH_done (by kernel_rfl) ?_ _
    obtain ⟨th, rg, bq⟩ := HS.out.ans
    have HT : Hid (World.there _ w.heap.size 0 9) := th
    have HG : Hid (World.rangeAt _ w.heap.size 0 _) := rg
    have HQ : Hid (BnQ _ _ _ _ _ _ _ _ _) := bq
    have HR : Hid (World.rangeAt _ v 0 _) := HS.out.e.range
    clear th rg bq
    go_wp2_with (first | (refine wpList_load_mid rfl 26 _ rfl v 0 rfl _ _ HR.out Tryd.underlying26 rfl (by kernel_rfl) ?_) | (refine wpList_store_mid rfl 26 _ _ rfl w.heap.size 0 _ rfl rfl HT.out (by kernel_rfl) (cells_one _) ?_))
    exact bodyPost_ret (results_cell_mid rfl _ _ w.heap.size 0 _ _ rfl HG.out Tryd.underlying26 rfl (by kernel_rfl)) rfl HQ.out
  by_cases c2 : x = 2
  · subst c2
    go_wp2_with (fail)
    obtain ⟨p8, p8', hd8⟩ := HS7.out.d
    refine (pick_on r ra rl rc zs p8 4 _ hd8 (by omega)).mono ?_
    rintro e w8 ⟨kk, rfl, kk0, kk1, -, rd, sv⟩
    have kk2 := kk1 (by omega)
    obtain ⟨k, rfl⟩ := Int.eq_ofNat_of_zero_le kk0
    have S := HS7.out.read sv rd (P' := p + 952) (by omega)
    clear HS7 hd8 rd sv kk1
    have HS8 : Hid (Ln _ _ _ _ _ _ _ _ _ _) := S
    clear S
    have k4 : k < 4 := by omega
    have HK : Hid (∀ {P' : Int} {W : World}, Ln w r ra rl rc zs P' b v W → W.cell? ⟨v, 2 + k, none⟩ = some (.slice (b.hd k).a (b.hd k).n (b.hd k).c) ∧ W.frozen? ⟨v, 2 + k, none⟩ = false) := fun h => ck_hd h.e k4
    generalize hq : b.hd k = hx at HK
    have HQ : Hid (b.hd k = hx) := hq
    clear hq
    go_wp2_with (fail)
    have HS : Hid (Ln _ _ _ _ _ _ _ _ _ _) := HS8.out.later (below_drew w8)
    clear HS8
    refine wp_region_held_drew (S := fun _ => True) (by kernel_rfl) trivial (fun hS => ?_)
    generalize World.drew w8 = V at HS ⊢
    refine takeB (i := 0) (v := .int .i64 k) (d := some 37) rfl rfl (by kernel_rfl) (by kernel_rfl) (by kernel_rfl) (fun _ _ _ h => h) (Or.inl ⟨by rfl, fun w' hw => ?_⟩) hS ?_
    · clear hw; go_simp
    try simp only [Act.put, List.setIfInBounds_toArray, List.set_cons_zero, List.set_cons_succ]
    refine takeB (i := 1) (v := .int .i64 k) (d := some 38) rfl rfl (by kernel_rfl) (by kernel_rfl) (by kernel_rfl) (fun _ _ _ h => h) (Or.inl ⟨by rfl, fun w' hw => ?_⟩) hS ?_
    · clear hw; go_simp
    try simp only [Act.put, List.setIfInBounds_toArray, List.set_cons_zero, List.set_cons_succ]
    refine takeB (i := 2) (v := .pointer (some ⟨v, 2, none⟩)) (d := some 39) rfl rfl (by kernel_rfl) (by kernel_rfl) (by kernel_rfl) (fun _ _ _ h => h) (Or.inl ⟨by rfl, fun w' hw => ?_⟩) hS ?_
    · clear hw; go_simp
    try simp only [Act.put, List.setIfInBounds_toArray, List.set_cons_zero, List.set_cons_succ]
    refine takeB (i := 3) (v := .pointer (some ⟨v, 2 + k, none⟩)) (d := some 40) rfl rfl (by kernel_rfl) (by kernel_rfl) (by kernel_rfl) (fun _ _ _ h => h) (Or.inl ⟨by rfl, fun w' hw => ?_⟩) hS ?_
    · clear hw; go_simp
    try simp only [Act.put, List.setIfInBounds_toArray, List.set_cons_zero, List.set_cons_succ]
    refine takeB (i := 5) (v := .pointer (some ⟨r, 0, none⟩)) (d := some 42) rfl rfl (by kernel_rfl) (by kernel_rfl) (by kernel_rfl) (fun _ _ _ h => h) (Or.inl ⟨by rfl, fun w' hw => ?_⟩) hS ?_
    · clear hw; go_simp
    try simp only [Act.put, List.setIfInBounds_toArray, List.set_cons_zero, List.set_cons_succ]
    refine takeB (i := 10) (v := .pointer (some ⟨v, 2, none⟩)) (d := some 47) rfl rfl (by kernel_rfl) (by kernel_rfl) (by kernel_rfl) (fun _ _ _ h => h) (Or.inl ⟨by rfl, fun w' hw => ?_⟩) hS ?_
    · clear hw; go_simp
    try simp only [Act.put, List.setIfInBounds_toArray, List.set_cons_zero, List.set_cons_succ]
    refine wpAnyH_ready (rs := [4, 6]) (by kernel_rfl) (by simp) ?_
    refine AllReadyH.cons rfl (fun K hK => ?_) (AllReadyH.cons rfl (fun K hK => ?_) AllReadyH.nil)
    · skip
      obtain ⟨g0, g1⟩ := HK.out HS.out
      go_simp
      clear g0 g1
      refine hK.out _ _ trivial (fun hS => ?_)
      clear hK K
      try simp only [Act.put, List.setIfInBounds_toArray, List.set_cons_zero, List.set_cons_succ]
      refine wpAnyH_ready (rs := [6]) (by kernel_rfl) (by simp) ?_
      refine AllReadyH.cons rfl (fun K hK => ?_) AllReadyH.nil
      have H : Hid (Ln _ _ _ _ _ _ _ _ _ _) := HS.out.later (below1 V (.cells #[.int .i64 (-1), .int .i64 0, .int .i64 1, .int .i64 2, .int .i64 8, .int .i64 99] 3))
      have HX : Hid (∀ i, i < 6 → (V.alloc (.cells #[.int .i64 (-1), .int .i64 0, .int .i64 1, .int .i64 2, .int .i64 8, .int .i64 99] 3)).cell? ⟨V.heap.size, i, none⟩ = some (.int .i64 (([-1, 0, 1, 2, 8, 99] : List Int).getD i 0))) := lit_get V 3 [-1, 0, 1, 2, 8, 99]
      have rltv : r < V.heap.size := by have := HS.out.s.size; omega
      clear HS
      go_simp
      refine hK.out _ _ trivial (fun hS => ?_)
      clear hK K
      generalize V.alloc (.cells #[.int .i64 (-1), .int .i64 0, .int .i64 1, .int .i64 2, .int .i64 8, .int .i64 99] 3) = Va at H HX ⊢
      generalize V.heap.size = lb at HX rltv ⊢
      have HS : Hid (Ln _ _ _ _ _ _ _ _ _ _) := H
      clear H
      try simp only [Act.put, List.setIfInBounds_toArray, List.set_cons_zero, List.set_cons_succ]
      refine wpAnyH_ready (rs := [7]) (by kernel_rfl) (by simp) ?_
      refine AllReadyH.cons rfl (fun K hK => ?_) AllReadyH.nil
      obtain ⟨pp, pp', hd⟩ := HS.out.d
      go_simp
      refine (num_any r ra rl rc zs pp _ hd (by omega) lb 6 6 [-1, 0, 1, 2, 8, 99] (by omega) (by omega) (by omega) HX.out).mono ?_
      rintro e Van ⟨ky, ky', rfl, rd, sv⟩
      have S := HS.out.read sv rd (P' := p + 953) (by omega)
      have hy := small_get [-1, 0, 1, 2, 8, 99] (by decide) ky
      generalize ([-1, 0, 1, 2, 8, 99] : List Int).getD ky 0 = y at hy
      clear HS HX hd rd sv
      have HS : Hid (Ln _ _ _ _ _ _ _ _ _ _) := S
      clear S
      go_wp2_with (fail)
      refine hK.out _ _ trivial (fun hS => ?_)
      clear hK K
      try simp only [Act.put, List.setIfInBounds_toArray, List.set_cons_zero, List.set_cons_succ]
      refine wpAnyH_ready (rs := [8]) (by kernel_rfl) (by simp) ?_
      refine AllReadyH.cons rfl (fun K hK => ?_) AllReadyH.nil
      have H : Hid (Ln _ _ _ _ _ _ _ _ _ _) := HS.out.later (below1 Van (.cells #[.int .i64 y] 3))
      have H1 : Hid ((Van.alloc (.cells #[.int .i64 y] 3)).cell? ⟨Van.heap.size, 0, none⟩ = some (.int .i64 y)) := range_lit #[.int .i64 y] (heap1_0 _ _) 0 _ rfl
      clear HS
      go_simp
      refine hK.out _ _ trivial (fun hS => ?_)
      clear hK K
      generalize Van.alloc (.cells #[.int .i64 y] 3) = Vanb at H H1 ⊢
      generalize Van.heap.size = l1 at H1 ⊢
      have HS : Hid (Ln _ _ _ _ _ _ _ _ _ _) := H
      clear H
      try simp only [Act.put, List.setIfInBounds_toArray, List.set_cons_zero, List.set_cons_succ]
      refine wpAnyH_ready (rs := [9]) (by kernel_rfl) (by simp) ?_
      refine AllReadyH.cons rfl (fun K hK => ?_) AllReadyH.nil
      refine wp_app1 _ _ hx y w.heap.size Vanb l1 0 1 rfl rfl rfl (by rw [← HQ.out]; exact HS.out.h.each _ (List.mem_of_getElem? (hd_lists b k4))) (by have := HS.out.s.size; omega) (by rw [← HQ.out]; have := Bx.hd_total b k; omega) H1.out (fun val w2 ap => ?_)
      obtain ⟨xa, xn, xc, rfl⟩ : ∃ (a : Option Addr) (n c : Nat), val = .slice a n c := by
        obtain ⟨x', e, -⟩ := ap
        exact ⟨_, _, _, e⟩
      have ap2 : App1 (b.hd k) y w.heap.size Vanb (.slice xa xn xc) w2 := by rw [HQ.out]; exact ap
      obtain ⟨c, S⟩ := HS.out.app k4 ap2 (by omega) tot
      have G : w2.cell? ⟨v, 2 + k, none⟩ = some (.slice hx.a hx.n hx.c) ∧ w2.frozen? ⟨v, 2 + k, none⟩ = false := by
        have g := HK.out HS.out
        rcases ap with ⟨x', -, -, -, -, ⟨k1, o1, e1, e2, -, e4, rfl⟩ | ⟨e1, hb, hs⟩⟩
        · have nv : k1 ≠ v := (HS.out.fre' (x := hx) (by rw [← HQ.out]; exact List.mem_of_getElem? (hd_lists b k4)) e1 (by omega))
          exact ⟨by rw [World.cell?_setCell_far _ _ _ _ nv]; exact g.1, by simpa using g.2⟩
        · have lt := World.block_lt_of_cell? Vanb _ g.1
          exact ⟨by rw [hb.cell (p := ⟨v, 2 + k, none⟩) lt]; exact g.1, by rw [hb.frozen (p := ⟨v, 2 + k, none⟩) lt]; exact g.2⟩
      refine hK.out _ _ trivial (fun hS => ?_)
      clear hK K ap ap2 HS H1
      try simp only [Act.put, List.setIfInBounds_toArray]
      refine takeB (i := 11) (v := .pointer (some ⟨v, 2 + k, none⟩)) (d := some 48) rfl rfl (by kernel_rfl) (by kernel_rfl) (by kernel_rfl) (fun _ _ _ h => h) (Or.inl ⟨by rfl, fun w' hw => ?_⟩) hS ?_
      · clear hw; go_simp
      try simp only [Act.put]
      refine wpAnyH_ready (rs := [12]) (by kernel_rfl) (by simp) ?_
      refine AllReadyH.cons rfl (fun K hK => ?_) AllReadyH.nil
      obtain ⟨g0, g1⟩ := G
      have HS : Hid (Ln _ _ _ _ _ _ _ _ _ _) := S.mono (P' := p + 1000) (by omega)
      clear S
      go_simp
      clear g0 g1
      refine hK.out _ _ trivial (fun hS => ?_)
      clear hK K hS
      generalize World.setCell _ _ _ = WW at HS ⊢
      refine wpAnyH_done (by kernel_rfl) ?_ _
      obtain ⟨th, rg, bq⟩ := HS.out.ans
      have HT : Hid (World.there _ w.heap.size 0 9) := th
      have HG : Hid (World.rangeAt _ w.heap.size 0 _) := rg
      have HQ : Hid (BnQ _ _ _ _ _ _ _ _ _) := bq
      have HR : Hid (World.rangeAt _ v 0 _) := HS.out.e.range
      clear th rg bq
      go_wp2_with (first | (refine wpList_load_mid rfl 26 _ rfl v 0 rfl _ _ HR.out Tryd.underlying26 rfl (by kernel_rfl) ?_) | (refine wpList_store_mid rfl 26 _ _ rfl w.heap.size 0 _ rfl rfl HT.out (by kernel_rfl) (cells_one _) ?_))
      exact bodyPost_ret (results_cell_mid rfl _ _ w.heap.size 0 _ _ rfl HG.out Tryd.underlying26 rfl (by kernel_rfl)) rfl HQ.out
    · skip
      have H : Hid (Ln _ _ _ _ _ _ _ _ _ _) := HS.out.later (below1 V (.cells #[.int .i64 (-1), .int .i64 0, .int .i64 1, .int .i64 2, .int .i64 8, .int .i64 99] 3))
      have HX : Hid (∀ i, i < 6 → (V.alloc (.cells #[.int .i64 (-1), .int .i64 0, .int .i64 1, .int .i64 2, .int .i64 8, .int .i64 99] 3)).cell? ⟨V.heap.size, i, none⟩ = some (.int .i64 (([-1, 0, 1, 2, 8, 99] : List Int).getD i 0))) := lit_get V 3 [-1, 0, 1, 2, 8, 99]
      have rltv : r < V.heap.size := by have := HS.out.s.size; omega
      clear HS
      go_simp
      refine hK.out _ _ trivial (fun hS => ?_)
      clear hK K
      generalize V.alloc (.cells #[.int .i64 (-1), .int .i64 0, .int .i64 1, .int .i64 2, .int .i64 8, .int .i64 99] 3) = Va at H HX ⊢
      generalize V.heap.size = lb at HX rltv ⊢
      have HS : Hid (Ln _ _ _ _ _ _ _ _ _ _) := H
      clear H
      try simp only [Act.put, List.setIfInBounds_toArray, List.set_cons_zero, List.set_cons_succ]
      refine wpAnyH_ready (rs := [4, 7]) (by kernel_rfl) (by simp) ?_
      refine AllReadyH.cons rfl (fun K hK => ?_) (AllReadyH.cons rfl (fun K hK => ?_) AllReadyH.nil)
      · skip
        obtain ⟨g0, g1⟩ := HK.out HS.out
        go_simp
        clear g0 g1
        refine hK.out _ _ trivial (fun hS => ?_)
        clear hK K
        try simp only [Act.put, List.setIfInBounds_toArray, List.set_cons_zero, List.set_cons_succ]
        refine wpAnyH_ready (rs := [7]) (by kernel_rfl) (by simp) ?_
        refine AllReadyH.cons rfl (fun K hK => ?_) AllReadyH.nil
        obtain ⟨pp, pp', hd⟩ := HS.out.d
        go_simp
        refine (num_any r ra rl rc zs pp _ hd (by omega) lb 6 6 [-1, 0, 1, 2, 8, 99] (by omega) (by omega) (by omega) HX.out).mono ?_
        rintro e Van ⟨ky, ky', rfl, rd, sv⟩
        have S := HS.out.read sv rd (P' := p + 953) (by omega)
        have hy := small_get [-1, 0, 1, 2, 8, 99] (by decide) ky
        generalize ([-1, 0, 1, 2, 8, 99] : List Int).getD ky 0 = y at hy
        clear HS HX hd rd sv
        have HS : Hid (Ln _ _ _ _ _ _ _ _ _ _) := S
        clear S
        go_wp2_with (fail)
        refine hK.out _ _ trivial (fun hS => ?_)
        clear hK K
        try simp only [Act.put, List.setIfInBounds_toArray, List.set_cons_zero, List.set_cons_succ]
        refine wpAnyH_ready (rs := [8]) (by kernel_rfl) (by simp) ?_
        refine AllReadyH.cons rfl (fun K hK => ?_) AllReadyH.nil
        have H : Hid (Ln _ _ _ _ _ _ _ _ _ _) := HS.out.later (below1 Van (.cells #[.int .i64 y] 3))
        have H1 : Hid ((Van.alloc (.cells #[.int .i64 y] 3)).cell? ⟨Van.heap.size, 0, none⟩ = some (.int .i64 y)) := range_lit #[.int .i64 y] (heap1_0 _ _) 0 _ rfl
        clear HS
        go_simp
        refine hK.out _ _ trivial (fun hS => ?_)
        clear hK K
        generalize Van.alloc (.cells #[.int .i64 y] 3) = Vanb at H H1 ⊢
        generalize Van.heap.size = l1 at H1 ⊢
        have HS : Hid (Ln _ _ _ _ _ _ _ _ _ _) := H
        clear H
        try simp only [Act.put, List.setIfInBounds_toArray, List.set_cons_zero, List.set_cons_succ]
        refine wpAnyH_ready (rs := [9]) (by kernel_rfl) (by simp) ?_
        refine AllReadyH.cons rfl (fun K hK => ?_) AllReadyH.nil
        refine wp_app1 _ _ hx y w.heap.size Vanb l1 0 1 rfl rfl rfl (by rw [← HQ.out]; exact HS.out.h.each _ (List.mem_of_getElem? (hd_lists b k4))) (by have := HS.out.s.size; omega) (by rw [← HQ.out]; have := Bx.hd_total b k; omega) H1.out (fun val w2 ap => ?_)
        obtain ⟨xa, xn, xc, rfl⟩ : ∃ (a : Option Addr) (n c : Nat), val = .slice a n c := by
          obtain ⟨x', e, -⟩ := ap
          exact ⟨_, _, _, e⟩
        have ap2 : App1 (b.hd k) y w.heap.size Vanb (.slice xa xn xc) w2 := by rw [HQ.out]; exact ap
        obtain ⟨c, S⟩ := HS.out.app k4 ap2 (by omega) tot
        have G : w2.cell? ⟨v, 2 + k, none⟩ = some (.slice hx.a hx.n hx.c) ∧ w2.frozen? ⟨v, 2 + k, none⟩ = false := by
          have g := HK.out HS.out
          rcases ap with ⟨x', -, -, -, -, ⟨k1, o1, e1, e2, -, e4, rfl⟩ | ⟨e1, hb, hs⟩⟩
          · have nv : k1 ≠ v := (HS.out.fre' (x := hx) (by rw [← HQ.out]; exact List.mem_of_getElem? (hd_lists b k4)) e1 (by omega))
            exact ⟨by rw [World.cell?_setCell_far _ _ _ _ nv]; exact g.1, by simpa using g.2⟩
          · have lt := World.block_lt_of_cell? Vanb _ g.1
            exact ⟨by rw [hb.cell (p := ⟨v, 2 + k, none⟩) lt]; exact g.1, by rw [hb.frozen (p := ⟨v, 2 + k, none⟩) lt]; exact g.2⟩
        refine hK.out _ _ trivial (fun hS => ?_)
        clear hK K ap ap2 HS H1
        try simp only [Act.put, List.setIfInBounds_toArray]
        refine takeB (i := 11) (v := .pointer (some ⟨v, 2 + k, none⟩)) (d := some 48) rfl rfl (by kernel_rfl) (by kernel_rfl) (by kernel_rfl) (fun _ _ _ h => h) (Or.inl ⟨by rfl, fun w' hw => ?_⟩) hS ?_
        · clear hw; go_simp
        try simp only [Act.put]
        refine wpAnyH_ready (rs := [12]) (by kernel_rfl) (by simp) ?_
        refine AllReadyH.cons rfl (fun K hK => ?_) AllReadyH.nil
        obtain ⟨g0, g1⟩ := G
        have HS : Hid (Ln _ _ _ _ _ _ _ _ _ _) := S.mono (P' := p + 1000) (by omega)
        clear S
        go_simp
        clear g0 g1
        refine hK.out _ _ trivial (fun hS => ?_)
        clear hK K hS
        generalize World.setCell _ _ _ = WW at HS ⊢
        refine wpAnyH_done (by kernel_rfl) ?_ _
        obtain ⟨th, rg, bq⟩ := HS.out.ans
        have HT : Hid (World.there _ w.heap.size 0 9) := th
        have HG : Hid (World.rangeAt _ w.heap.size 0 _) := rg
        have HQ : Hid (BnQ _ _ _ _ _ _ _ _ _) := bq
        have HR : Hid (World.rangeAt _ v 0 _) := HS.out.e.range
        clear th rg bq
        go_wp2_with (first | (refine wpList_load_mid rfl 26 _ rfl v 0 rfl _ _ HR.out Tryd.underlying26 rfl (by kernel_rfl) ?_) | (refine wpList_store_mid rfl 26 _ _ rfl w.heap.size 0 _ rfl rfl HT.out (by kernel_rfl) (cells_one _) ?_))
        exact bodyPost_ret (results_cell_mid rfl _ _ w.heap.size 0 _ _ rfl HG.out Tryd.underlying26 rfl (by kernel_rfl)) rfl HQ.out
      · skip
        obtain ⟨pp, pp', hd⟩ := HS.out.d
        go_simp
        refine (num_any r ra rl rc zs pp _ hd (by omega) lb 6 6 [-1, 0, 1, 2, 8, 99] (by omega) (by omega) (by omega) HX.out).mono ?_
        rintro e Van ⟨ky, ky', rfl, rd, sv⟩
        have S := HS.out.read sv rd (P' := p + 953) (by omega)
        have hy := small_get [-1, 0, 1, 2, 8, 99] (by decide) ky
        generalize ([-1, 0, 1, 2, 8, 99] : List Int).getD ky 0 = y at hy
        clear HS HX hd rd sv
        have HS : Hid (Ln _ _ _ _ _ _ _ _ _ _) := S
        clear S
        go_wp2_with (fail)
        refine hK.out _ _ trivial (fun hS => ?_)
        clear hK K
        try simp only [Act.put, List.setIfInBounds_toArray, List.set_cons_zero, List.set_cons_succ]
        refine wpAnyH_ready (rs := [4, 8]) (by kernel_rfl) (by simp) ?_
        refine AllReadyH.cons rfl (fun K hK => ?_) (AllReadyH.cons rfl (fun K hK => ?_) AllReadyH.nil)
        · skip
          obtain ⟨g0, g1⟩ := HK.out HS.out
          go_simp
          clear g0 g1
          refine hK.out _ _ trivial (fun hS => ?_)
          clear hK K
          try simp only [Act.put, List.setIfInBounds_toArray, List.set_cons_zero, List.set_cons_succ]
          refine wpAnyH_ready (rs := [8]) (by kernel_rfl) (by simp) ?_
          refine AllReadyH.cons rfl (fun K hK => ?_) AllReadyH.nil
          have H : Hid (Ln _ _ _ _ _ _ _ _ _ _) := HS.out.later (below1 Van (.cells #[.int .i64 y] 3))
          have H1 : Hid ((Van.alloc (.cells #[.int .i64 y] 3)).cell? ⟨Van.heap.size, 0, none⟩ = some (.int .i64 y)) := range_lit #[.int .i64 y] (heap1_0 _ _) 0 _ rfl
          clear HS
          go_simp
          refine hK.out _ _ trivial (fun hS => ?_)
          clear hK K
          generalize Van.alloc (.cells #[.int .i64 y] 3) = Vanb at H H1 ⊢
          generalize Van.heap.size = l1 at H1 ⊢
          have HS : Hid (Ln _ _ _ _ _ _ _ _ _ _) := H
          clear H
          try simp only [Act.put, List.setIfInBounds_toArray, List.set_cons_zero, List.set_cons_succ]
          refine wpAnyH_ready (rs := [9]) (by kernel_rfl) (by simp) ?_
          refine AllReadyH.cons rfl (fun K hK => ?_) AllReadyH.nil
          refine wp_app1 _ _ hx y w.heap.size Vanb l1 0 1 rfl rfl rfl (by rw [← HQ.out]; exact HS.out.h.each _ (List.mem_of_getElem? (hd_lists b k4))) (by have := HS.out.s.size; omega) (by rw [← HQ.out]; have := Bx.hd_total b k; omega) H1.out (fun val w2 ap => ?_)
          obtain ⟨xa, xn, xc, rfl⟩ : ∃ (a : Option Addr) (n c : Nat), val = .slice a n c := by
            obtain ⟨x', e, -⟩ := ap
            exact ⟨_, _, _, e⟩
          have ap2 : App1 (b.hd k) y w.heap.size Vanb (.slice xa xn xc) w2 := by rw [HQ.out]; exact ap
          obtain ⟨c, S⟩ := HS.out.app k4 ap2 (by omega) tot
          have G : w2.cell? ⟨v, 2 + k, none⟩ = some (.slice hx.a hx.n hx.c) ∧ w2.frozen? ⟨v, 2 + k, none⟩ = false := by
            have g := HK.out HS.out
            rcases ap with ⟨x', -, -, -, -, ⟨k1, o1, e1, e2, -, e4, rfl⟩ | ⟨e1, hb, hs⟩⟩
            · have nv : k1 ≠ v := (HS.out.fre' (x := hx) (by rw [← HQ.out]; exact List.mem_of_getElem? (hd_lists b k4)) e1 (by omega))
              exact ⟨by rw [World.cell?_setCell_far _ _ _ _ nv]; exact g.1, by simpa using g.2⟩
            · have lt := World.block_lt_of_cell? Vanb _ g.1
              exact ⟨by rw [hb.cell (p := ⟨v, 2 + k, none⟩) lt]; exact g.1, by rw [hb.frozen (p := ⟨v, 2 + k, none⟩) lt]; exact g.2⟩
          refine hK.out _ _ trivial (fun hS => ?_)
          clear hK K ap ap2 HS H1
          try simp only [Act.put, List.setIfInBounds_toArray]
          refine takeB (i := 11) (v := .pointer (some ⟨v, 2 + k, none⟩)) (d := some 48) rfl rfl (by kernel_rfl) (by kernel_rfl) (by kernel_rfl) (fun _ _ _ h => h) (Or.inl ⟨by rfl, fun w' hw => ?_⟩) hS ?_
          · clear hw; go_simp
          try simp only [Act.put]
          refine wpAnyH_ready (rs := [12]) (by kernel_rfl) (by simp) ?_
          refine AllReadyH.cons rfl (fun K hK => ?_) AllReadyH.nil
          obtain ⟨g0, g1⟩ := G
          have HS : Hid (Ln _ _ _ _ _ _ _ _ _ _) := S.mono (P' := p + 1000) (by omega)
          clear S
          go_simp
          clear g0 g1
          refine hK.out _ _ trivial (fun hS => ?_)
          clear hK K hS
          generalize World.setCell _ _ _ = WW at HS ⊢
          refine wpAnyH_done (by kernel_rfl) ?_ _
          obtain ⟨th, rg, bq⟩ := HS.out.ans
          have HT : Hid (World.there _ w.heap.size 0 9) := th
          have HG : Hid (World.rangeAt _ w.heap.size 0 _) := rg
          have HQ : Hid (BnQ _ _ _ _ _ _ _ _ _) := bq
          have HR : Hid (World.rangeAt _ v 0 _) := HS.out.e.range
          clear th rg bq
          go_wp2_with (first | (refine wpList_load_mid rfl 26 _ rfl v 0 rfl _ _ HR.out Tryd.underlying26 rfl (by kernel_rfl) ?_) | (refine wpList_store_mid rfl 26 _ _ rfl w.heap.size 0 _ rfl rfl HT.out (by kernel_rfl) (cells_one _) ?_))
          exact bodyPost_ret (results_cell_mid rfl _ _ w.heap.size 0 _ _ rfl HG.out Tryd.underlying26 rfl (by kernel_rfl)) rfl HQ.out
        · skip
          have H : Hid (Ln _ _ _ _ _ _ _ _ _ _) := HS.out.later (below1 Van (.cells #[.int .i64 y] 3))
          have H1 : Hid ((Van.alloc (.cells #[.int .i64 y] 3)).cell? ⟨Van.heap.size, 0, none⟩ = some (.int .i64 y)) := range_lit #[.int .i64 y] (heap1_0 _ _) 0 _ rfl
          clear HS
          go_simp
          refine hK.out _ _ trivial (fun hS => ?_)
          clear hK K
          generalize Van.alloc (.cells #[.int .i64 y] 3) = Vanb at H H1 ⊢
          generalize Van.heap.size = l1 at H1 ⊢
          have HS : Hid (Ln _ _ _ _ _ _ _ _ _ _) := H
          clear H
          try simp only [Act.put, List.setIfInBounds_toArray, List.set_cons_zero, List.set_cons_succ]
          refine wpAnyH_ready (rs := [4]) (by kernel_rfl) (by simp) ?_
          refine AllReadyH.cons rfl (fun K hK => ?_) AllReadyH.nil
          obtain ⟨g0, g1⟩ := HK.out HS.out
          go_simp
          clear g0 g1
          refine hK.out _ _ trivial (fun hS => ?_)
          clear hK K
          try simp only [Act.put, List.setIfInBounds_toArray, List.set_cons_zero, List.set_cons_succ]
          refine wpAnyH_ready (rs := [9]) (by kernel_rfl) (by simp) ?_
          refine AllReadyH.cons rfl (fun K hK => ?_) AllReadyH.nil
          refine wp_app1 _ _ hx y w.heap.size Vanb l1 0 1 rfl rfl rfl (by rw [← HQ.out]; exact HS.out.h.each _ (List.mem_of_getElem? (hd_lists b k4))) (by have := HS.out.s.size; omega) (by rw [← HQ.out]; have := Bx.hd_total b k; omega) H1.out (fun val w2 ap => ?_)
          obtain ⟨xa, xn, xc, rfl⟩ : ∃ (a : Option Addr) (n c : Nat), val = .slice a n c := by
            obtain ⟨x', e, -⟩ := ap
            exact ⟨_, _, _, e⟩
          have ap2 : App1 (b.hd k) y w.heap.size Vanb (.slice xa xn xc) w2 := by rw [HQ.out]; exact ap
          obtain ⟨c, S⟩ := HS.out.app k4 ap2 (by omega) tot
          have G : w2.cell? ⟨v, 2 + k, none⟩ = some (.slice hx.a hx.n hx.c) ∧ w2.frozen? ⟨v, 2 + k, none⟩ = false := by
            have g := HK.out HS.out
            rcases ap with ⟨x', -, -, -, -, ⟨k1, o1, e1, e2, -, e4, rfl⟩ | ⟨e1, hb, hs⟩⟩
            · have nv : k1 ≠ v := (HS.out.fre' (x := hx) (by rw [← HQ.out]; exact List.mem_of_getElem? (hd_lists b k4)) e1 (by omega))
              exact ⟨by rw [World.cell?_setCell_far _ _ _ _ nv]; exact g.1, by simpa using g.2⟩
            · have lt := World.block_lt_of_cell? Vanb _ g.1
              exact ⟨by rw [hb.cell (p := ⟨v, 2 + k, none⟩) lt]; exact g.1, by rw [hb.frozen (p := ⟨v, 2 + k, none⟩) lt]; exact g.2⟩
          refine hK.out _ _ trivial (fun hS => ?_)
          clear hK K ap ap2 HS H1
          try simp only [Act.put, List.setIfInBounds_toArray]
          refine takeB (i := 11) (v := .pointer (some ⟨v, 2 + k, none⟩)) (d := some 48) rfl rfl (by kernel_rfl) (by kernel_rfl) (by kernel_rfl) (fun _ _ _ h => h) (Or.inl ⟨by rfl, fun w' hw => ?_⟩) hS ?_
          · clear hw; go_simp
          try simp only [Act.put]
          refine wpAnyH_ready (rs := [12]) (by kernel_rfl) (by simp) ?_
          refine AllReadyH.cons rfl (fun K hK => ?_) AllReadyH.nil
          obtain ⟨g0, g1⟩ := G
          have HS : Hid (Ln _ _ _ _ _ _ _ _ _ _) := S.mono (P' := p + 1000) (by omega)
          clear S
          go_simp
          clear g0 g1
          refine hK.out _ _ trivial (fun hS => ?_)
          clear hK K hS
          generalize World.setCell _ _ _ = WW at HS ⊢
          refine wpAnyH_done (by kernel_rfl) ?_ _
          obtain ⟨th, rg, bq⟩ := HS.out.ans
          have HT : Hid (World.there _ w.heap.size 0 9) := th
          have HG : Hid (World.rangeAt _ w.heap.size 0 _) := rg
          have HQ : Hid (BnQ _ _ _ _ _ _ _ _ _) := bq
          have HR : Hid (World.rangeAt _ v 0 _) := HS.out.e.range
          clear th rg bq
          go_wp2_with (first | (refine wpList_load_mid rfl 26 _ rfl v 0 rfl _ _ HR.out Tryd.underlying26 rfl (by kernel_rfl) ?_) | (refine wpList_store_mid rfl 26 _ _ rfl w.heap.size 0 _ rfl rfl HT.out (by kernel_rfl) (cells_one _) ?_))
          exact bodyPost_ret (results_cell_mid rfl _ _ w.heap.size 0 _ _ rfl HG.out Tryd.underlying26 rfl (by kernel_rfl)) rfl HQ.out
  have t0 : (x == 0) = false := by simp; omega
  have t1 : (x == 1) = false := by simp; omega
  have t2 : (x == 2) = false := by simp; omega
  have t3 : (x == 3) = false := by simp; omega
  have t4 : (x == 4) = false := by simp; omega
  have t5 : (x == 5) = false := by simp; omega
  have HS : Hid (Ln _ _ _ _ _ _ _ _ _ _) := HS7.out.mono (P' := p + 1000) (by omega)
  clear HS7
  obtain ⟨th, rg, bq⟩ := HS.out.ans
  have HT : Hid (World.there _ w.heap.size 0 9) := th
  have HG : Hid (World.rangeAt _ w.heap.size 0 _) := rg
  have HQ : Hid (BnQ _ _ _ _ _ _ _ _ _) := bq
  have HR : Hid (World.rangeAt _ v 0 _) := HS.out.e.range
  clear th rg bq
  go_wp2_with (first | (refine wpList_load_mid rfl 26 _ rfl v 0 rfl _ _ HR.out Tryd.underlying26 rfl (by kernel_rfl) ?_) | (refine wpList_store_mid rfl 26 _ _ rfl w.heap.size 0 _ rfl rfl HT.out (by kernel_rfl) (cells_one _) ?_))
  exact bodyPost_ret (results_cell_mid rfl _ _ w.heap.size 0 _ _ rfl HG.out Tryd.underlying26 rfl (by kernel_rfl)) rfl HQ.out

end Go.Proofs.YtbipolfbkemmpaaDoor.Book

import Derived.Test.YtoaopapnpndklaaDoorM32

/- Of every book and call, the book behind it, the code and the number, held against the specification; in new memory of its own. Conditions: none. -/
namespace Go.Proofs.YtoaopapnpndklaaDoor.Dra
open Go.ChangeShapes Go.WideShapes Go.ChangeAt Go.RowKit
open Go.Proofs.YtoaopapnpndklaaDoor.Aid Go.Proofs.YtoaopapnpndklaaDoor.Lst Go.Proofs.YtoaopapnpndklaaDoor.Book Go.Proofs.YtoaopapnpndklaaDoor.Rin
set_option maxRecDepth 100000
set_option linter.unusedVariables false
set_option linter.unusedSimpArgs false
open Go.Proofs.YtoaopapnpndklaaDoor.Gs

set_option maxHeartbeats 16000000 in
theorem law_bd {a : Nat → Addr} (b0 : Bx) (o : Ox) (w : World) (g0 : b0.Good w) (he : Ea a w) :
    Calls Tryd.prog 3 #[.agg b0.cells.toArray, .agg o.cells.toArray] w fun e w' => e = .returned (.bool true) ∧ Below w.heap.size w w' := by
  have n0 := g0.short
  have HWf : Hid b0.Wf := g0.wf
  have HEa : Hid (Ea a w) := he
  have T0 : St w [(w.heap.size + 1, o.cells), (w.heap.size, b0.cells)] [b0] ((w.alloc (.cells b0.cells.toArray 25)).alloc (.cells o.cells.toArray 27)) := by
    have t1 := ((St.start (bs := [b0]) (w := w) (by simpa using g0.at)).row b0.cells.toArray 25).row o.cells.toArray 27
    simpa using t1
  have HT0 : Hid (St w _ _ _) := T0
  have HR0 : Hid (World.rangeAt _ w.heap.size 0 b0.cells) := (T0.r (w.heap.size, b0.cells) (by simp)).1
  clear he T0
  simp only [Bx.cells, Ox.cells] at HT0 HR0 ⊢
  go_enter Tryd.func3, Tryd.ntmps3
  go_wp2_with (refine wpList_load_mid rfl 25 _ rfl w.heap.size 0 rfl b0.cells _ HR0.out Tryd.underlying25 rfl (by kernel_rfl) ?_)
  refine (sz_any b0 1048576 _ n0 (by omega) (by omega)).mono ?_
  rintro e W1 ⟨⟨l1, rfl, t1, t2, t3⟩, hb⟩
  have HT1 : Hid (St w [(w.heap.size + 1, o.cells), (w.heap.size, b0.cells)] [b0] W1) := HT0.out.later hb
  clear hb HT0 HR0
  by_cases h1 : l1 < 0
  · go_wp2_with (fail)
    go_ret
    exact ⟨rfl, HT1.out.b⟩
  replace t1 := t1 (by omega)
  have m0 : b0.total ≤ 1000000000 := by omega
  clear t1 t2 t3 n0
  go_wp2_with (fail)
  rename_i K1 k1
  apply via5 (fun _ d x y r W => F5 w [(w.heap.size + 1, o.cells), (w.heap.size, b0.cells)] b0 o d x y r W)
  · intro tail
    refine wp_region_held_drew (S := Sb w W1 [(w.heap.size + 1, o.cells), (w.heap.size, b0.cells)] [b0]) (by kernel_rfl) (Sb.refl HT1.out).drew (fun hS => ?_)
    generalize World.drew _ = Y2 at hS ⊢
    refine takeB (i := 0) (v := .agg b0.cells.toArray) (d := some 25) rfl rfl (by kernel_rfl) (by kernel_rfl) (by kernel_rfl) (fun _ _ _ h => h) (yieldsIf_load_mid (by rfl) 25 _ rfl (w.heap.size) 0 rfl b0.cells _ (fun w' hw => (hw.r (w.heap.size, b0.cells) (by simp)).1) Tryd.underlying25 rfl (by kernel_rfl)) hS ?_
    try simp only [Act.put, List.setIfInBounds_toArray, List.set_cons_zero, List.set_cons_succ]
    refine takeB (i := 2) (v := .agg o.cells.toArray) (d := some 27) rfl rfl (by kernel_rfl) (by kernel_rfl) (by kernel_rfl) (fun _ _ _ h => h) (yieldsIf_load_mid (by rfl) 27 _ rfl (w.heap.size + 1) 0 rfl o.cells _ (fun w' hw => (hw.r (w.heap.size + 1, o.cells) (by simp)).1) Tryd.underlying27 rfl (by kernel_rfl)) hS ?_
    try simp only [Act.put, List.setIfInBounds_toArray, List.set_cons_zero, List.set_cons_succ]
    refine wpAnyH_ready (rs := [1, 9]) (by kernel_rfl) (by simp) ?_
    refine AllReadyH.cons rfl (fun K hK => ?_) (AllReadyH.cons rfl (fun K hK => ?_) AllReadyH.nil)
    · skip
      have HI2 : Hid (Sb w W1 [(w.heap.size + 1, o.cells), (w.heap.size, b0.cells)] [b0] Y2) := hS
      clear hS
      go_simp
      refine (Book.to_any b0 _ (HI2.out.a b0 (by simp)) m0).mono ?_
      rintro e Y3 ⟨c, rfl, k0, o0, hb⟩
      have HK : Hid (c.m = b0.m) := k0
      have HO : Hid (c.At Y3 ∧ c.o.n ≤ c.o.c) := ⟨o0.at, o0.cap⟩
      clear k0 o0
      have HI3 : Hid (Sb w W1 [(w.heap.size + 1, o.cells), (w.heap.size, b0.cells)] [b0] Y3) := HI2.out.later hb
      clear hb HI2
      go_wp2_with (fail)
      refine hK.out _ _ HI3.out (fun hS => ?_)
      clear hK K
      try simp only [Act.put, List.setIfInBounds_toArray, List.set_cons_zero, List.set_cons_succ]
      refine wpAnyH_ready (rs := [3, 9]) (by kernel_rfl) (by simp) ?_
      refine AllReadyH.cons rfl (fun K hK => ?_) (AllReadyH.cons rfl (fun K hK => ?_) AllReadyH.nil)
      · skip
        have HI3 : Hid (Sb w W1 [(w.heap.size + 1, o.cells), (w.heap.size, b0.cells)] [b0] Y3) := hS
        clear hS
        go_simp
        refine (tobop_any o _).mono ?_
        rintro e Y4 ⟨rfl, hb⟩
        replace HO : Hid (c.At Y4 ∧ c.o.n ≤ c.o.c) := ⟨HO.out.1.later hb, HO.out.2⟩
        have HI4 : Hid (Sb w W1 [(w.heap.size + 1, o.cells), (w.heap.size, b0.cells)] [b0] Y4) := HI3.out.later hb
        clear hb HI3
        go_wp2_with (fail)
        refine hK.out _ _ HI4.out (fun hS => ?_)
        clear hK K
        try simp only [Act.put, List.setIfInBounds_toArray, List.set_cons_zero, List.set_cons_succ]
        refine wpAnyH_ready (rs := [4, 9]) (by kernel_rfl) (by simp) ?_
        refine AllReadyH.cons rfl (fun K hK => ?_) (AllReadyH.cons rfl (fun K hK => ?_) AllReadyH.nil)
        · skip
          have HI4 : Hid (Sb w W1 [(w.heap.size + 1, o.cells), (w.heap.size, b0.cells)] [b0] Y4) := hS
          clear hS
          go_simp
          refine (sbookdo_any c o _ HO.out.1 (by rw [Book.total_m HK.out]; exact m0) (at_nil HO.out.1) ((Book.wf_m HK.out).2 HWf.out)).mono ?_
          rintro e Y5 ⟨dd, xx, yy, rfl, hq, da, hb⟩
          have HQ : Hid (SbQ b0 o dd xx yy) := sbq_m HK.out hq
          replace HO : Hid (c.At Y5 ∧ c.o.n ≤ c.o.c) := ⟨HO.out.1.later hb, HO.out.2⟩
          have HDA : Hid (dd.Hl w.heap.size Y5) := hl_mono da (HI4.out.b.size)
          clear hq da
          have HI5 : Hid (Sb w W1 [(w.heap.size + 1, o.cells), (w.heap.size, b0.cells)] [b0] Y5) := HI4.out.later hb
          clear hb HI4
          go_wp2_with (fail)
          refine hK.out _ _ HI5.out (fun hS => ?_)
          clear hK K
          try simp only [Act.put, List.setIfInBounds_toArray, List.set_cons_zero, List.set_cons_succ]
          refine takeB (i := 5) (v := .tuple #[.agg dd.cells.toArray, .int .i64 xx, .int .i64 yy]) (d := some 24) rfl rfl (by kernel_rfl) (by kernel_rfl) (by kernel_rfl) (fun _ _ _ h => h) (Or.inl ⟨by rfl, fun w' hw => ?_⟩) hS ?_
          · clear hw; go_simp
          try simp only [Act.put, List.setIfInBounds_toArray, List.set_cons_zero, List.set_cons_succ]
          refine takeB (i := 6) (v := .agg dd.cells.toArray) (d := some 30) rfl rfl (by kernel_rfl) (by kernel_rfl) (by kernel_rfl) (fun _ _ _ h => h) (Or.inl ⟨by rfl, fun w' hw => ?_⟩) hS ?_
          · clear hw; go_simp
          try simp only [Act.put, List.setIfInBounds_toArray, List.set_cons_zero, List.set_cons_succ]
          refine takeB (i := 7) (v := .int .i64 xx) (d := some 31) rfl rfl (by kernel_rfl) (by kernel_rfl) (by kernel_rfl) (fun _ _ _ h => h) (Or.inl ⟨by rfl, fun w' hw => ?_⟩) hS ?_
          · clear hw; go_simp
          try simp only [Act.put, List.setIfInBounds_toArray, List.set_cons_zero, List.set_cons_succ]
          refine takeB (i := 8) (v := .int .i64 yy) (d := some 32) rfl rfl (by kernel_rfl) (by kernel_rfl) (by kernel_rfl) (fun _ _ _ h => h) (Or.inl ⟨by rfl, fun w' hw => ?_⟩) hS ?_
          · clear hw; go_simp
          try simp only [Act.put, List.setIfInBounds_toArray, List.set_cons_zero, List.set_cons_succ]
          refine wpAnyH_ready (rs := [9]) (by kernel_rfl) (by simp) ?_
          refine AllReadyH.cons rfl (fun K hK => ?_) AllReadyH.nil
          have HI5 : Hid (Sb w W1 [(w.heap.size + 1, o.cells), (w.heap.size, b0.cells)] [b0] Y5) := hS
          clear hS
          obtain ⟨r, er⟩ : ∃ r, r = Y5.heap.size := ⟨_, rfl⟩
          have hb := below1 Y5 (.cells ([.int .i64 0, .slice none 0 0, .slice none 0 0, .slice none 0 0, .slice none 0 0, .slice none 0 0, .slice none 0 0, .slice none 0 0, .slice none 0 0] : List Value).toArray 29)
          have hz := ck_lit ([.int .i64 0, .slice none 0 0, .slice none 0 0, .slice none 0 0, .slice none 0 0, .slice none 0 0, .slice none 0 0, .slice none 0 0, .slice none 0 0] : List Value).toArray (heap1_0 Y5 (.cells ([.int .i64 0, .slice none 0 0, .slice none 0 0, .slice none 0 0, .slice none 0 0, .slice none 0 0, .slice none 0 0, .slice none 0 0, .slice none 0 0] : List Value).toArray 29))
          go_simp
          refine hK.out _ _ (HI5.out.later hb) (fun hS => ?_)
          clear hS
          generalize Y5.alloc (.cells #[.int .i64 0, .slice none 0 0, .slice none 0 0, .slice none 0 0, .slice none 0 0, .slice none 0 0, .slice none 0 0, .slice none 0 0, .slice none 0 0] 29) = Y6 at hb hz ⊢
          rw [← er] at hz ⊢
          have HNR : Hid (∀ i, dd.Lies i → i ≠ r) := fun i hi e => by have h1 := (HDA.out.lies hi).2; omega
          replace HDA : Hid (dd.Hl w.heap.size Y6) := HDA.out.later hb
          have HZ : Hid (Ck Y6 r [.int .i64 0, .slice none 0 0, .slice none 0 0, .slice none 0 0, .slice none 0 0, .slice none 0 0, .slice none 0 0, .slice none 0 0, .slice none 0 0]) := hz
          have HRR : Hid (W1.heap.size ≤ r) := (by have := HI5.out.be.size; show W1.heap.size ≤ r; omega)
          have hS : Sb w W1 [(w.heap.size + 1, o.cells), (w.heap.size, b0.cells)] [b0] Y6 := HI5.out.later hb
          clear hb hz er HI5
          clear hK K
          try simp only [Act.put, List.setIfInBounds_toArray, List.set_cons_zero, List.set_cons_succ]
          refine wpAnyH_ready (rs := [10]) (by kernel_rfl) (by simp) ?_
          refine AllReadyH.cons rfl (fun K hK => ?_) AllReadyH.nil
          have HI6 : Hid (Sb w W1 [(w.heap.size + 1, o.cells), (w.heap.size, b0.cells)] [b0] Y6) := hS
          clear hS
          have HTH : Hid (Y6.there r 0 dd.cells.toArray.toList.length) := there9 HZ.out
          obtain ⟨s1, s2, s3⟩ := Sb.stored (cs := dd.cells.toArray.toList) HT1.out HI6.out HRR.out (Ck.lt HZ.out) HTH.out
          have HSS : Hid (Sb w W1 [(w.heap.size + 1, o.cells), (w.heap.size, b0.cells)] [b0] (Y6.setCells r 0 dd.cells.toArray.toList)) := s1
          have da := (hl_off HDA.out s3 HNR.out).at
          have HF : Hid (F5 w [(w.heap.size + 1, o.cells), (w.heap.size, b0.cells)] b0 o dd xx yy r _) := ⟨HQ.out, ⟨s2.st.r, by
            intro z hz
            rcases List.mem_cons.1 hz with rfl | hz
            · exact da
            · exact s2.st.a z hz, s2.st.b⟩, (by have h1 := HRR.out; have h2 := (HT1.out.r (w.heap.size + 1, o.cells) (by simp)).2; omega)⟩
          clear da s1 s2 s3
          refine wp_store_mid 29 _ _ rfl r 0 dd.cells.toArray rfl rfl HTH.out (by kernel_rfl) (cells_one _) ?_
          refine hK.out _ _ HSS.out (fun hS => ?_)
          clear HTH HSS HZ HDA HI6
          generalize Y6.setCells r 0 dd.cells.toArray.toList = Y7 at HF hS ⊢
          clear hK K
          try simp only [Act.put, List.setIfInBounds_toArray, List.set_cons_zero, List.set_cons_succ]
          refine takeB (i := 11) (v := .int .i64 xx) (d := some 7) rfl rfl (by kernel_rfl) (by kernel_rfl) (by kernel_rfl) (fun _ _ _ h => h) (Or.inl ⟨by rfl, fun w' hw => ?_⟩) hS ?_
          · clear hw; go_simp
          try simp only [Act.put, List.setIfInBounds_toArray, List.set_cons_zero, List.set_cons_succ]
          refine takeB (i := 12) (v := .int .i64 yy) (d := some 8) rfl rfl (by kernel_rfl) (by kernel_rfl) (by kernel_rfl) (fun _ _ _ h => h) (Or.inl ⟨by rfl, fun w' hw => ?_⟩) hS ?_
          · clear hw; go_simp
          try simp only [Act.put, List.setIfInBounds_toArray, List.set_cons_zero, List.set_cons_succ]
          refine wpAnyH_done (by kernel_rfl) ?_ _
          exact tail c dd xx yy r _ HF.out
        · skip
          have HI4 : Hid (Sb w W1 [(w.heap.size + 1, o.cells), (w.heap.size, b0.cells)] [b0] Y4) := hS
          clear hS
          obtain ⟨r, er⟩ : ∃ r, r = Y4.heap.size := ⟨_, rfl⟩
          have hb := below1 Y4 (.cells ([.int .i64 0, .slice none 0 0, .slice none 0 0, .slice none 0 0, .slice none 0 0, .slice none 0 0, .slice none 0 0, .slice none 0 0, .slice none 0 0] : List Value).toArray 29)
          have hz := ck_lit ([.int .i64 0, .slice none 0 0, .slice none 0 0, .slice none 0 0, .slice none 0 0, .slice none 0 0, .slice none 0 0, .slice none 0 0, .slice none 0 0] : List Value).toArray (heap1_0 Y4 (.cells ([.int .i64 0, .slice none 0 0, .slice none 0 0, .slice none 0 0, .slice none 0 0, .slice none 0 0, .slice none 0 0, .slice none 0 0, .slice none 0 0] : List Value).toArray 29))
          go_simp
          refine hK.out _ _ (HI4.out.later hb) (fun hS => ?_)
          clear hS
          generalize Y4.alloc (.cells #[.int .i64 0, .slice none 0 0, .slice none 0 0, .slice none 0 0, .slice none 0 0, .slice none 0 0, .slice none 0 0, .slice none 0 0, .slice none 0 0] 29) = Y5 at hb hz ⊢
          rw [← er] at hz ⊢
          replace HO : Hid (c.At Y5 ∧ c.o.n ≤ c.o.c) := ⟨HO.out.1.later hb, HO.out.2⟩
          have HZ : Hid (Ck Y5 r [.int .i64 0, .slice none 0 0, .slice none 0 0, .slice none 0 0, .slice none 0 0, .slice none 0 0, .slice none 0 0, .slice none 0 0, .slice none 0 0]) := hz
          have HRR : Hid (W1.heap.size ≤ r) := (by have := HI4.out.be.size; show W1.heap.size ≤ r; omega)
          have hS : Sb w W1 [(w.heap.size + 1, o.cells), (w.heap.size, b0.cells)] [b0] Y5 := HI4.out.later hb
          clear hb hz er HI4
          clear hK K
          try simp only [Act.put, List.setIfInBounds_toArray, List.set_cons_zero, List.set_cons_succ]
          refine wpAnyH_ready (rs := [4]) (by kernel_rfl) (by simp) ?_
          refine AllReadyH.cons rfl (fun K hK => ?_) AllReadyH.nil
          have HI5 : Hid (Sb w W1 [(w.heap.size + 1, o.cells), (w.heap.size, b0.cells)] [b0] Y5) := hS
          clear hS
          go_simp
          refine (sbookdo_any c o _ HO.out.1 (by rw [Book.total_m HK.out]; exact m0) (at_nil HO.out.1) ((Book.wf_m HK.out).2 HWf.out)).mono ?_
          rintro e Y6 ⟨dd, xx, yy, rfl, hq, da, hb⟩
          have HQ : Hid (SbQ b0 o dd xx yy) := sbq_m HK.out hq
          have HNR : Hid (∀ i, dd.Lies i → i ≠ r) := fun i hi e => by have h1 := (da.lies hi).1; have h2 := Ck.lt HZ.out; omega
          replace HZ : Hid (Ck Y6 r [.int .i64 0, .slice none 0 0, .slice none 0 0, .slice none 0 0, .slice none 0 0, .slice none 0 0, .slice none 0 0, .slice none 0 0, .slice none 0 0]) := HZ.out.below hb (Ck.lt HZ.out)
          replace HO : Hid (c.At Y6 ∧ c.o.n ≤ c.o.c) := ⟨HO.out.1.later hb, HO.out.2⟩
          have HDA : Hid (dd.Hl w.heap.size Y6) := hl_mono da (HI5.out.b.size)
          clear hq da
          have HI6 : Hid (Sb w W1 [(w.heap.size + 1, o.cells), (w.heap.size, b0.cells)] [b0] Y6) := HI5.out.later hb
          clear hb HI5
          go_wp2_with (fail)
          refine hK.out _ _ HI6.out (fun hS => ?_)
          clear hK K
          try simp only [Act.put, List.setIfInBounds_toArray, List.set_cons_zero, List.set_cons_succ]
          refine takeB (i := 5) (v := .tuple #[.agg dd.cells.toArray, .int .i64 xx, .int .i64 yy]) (d := some 24) rfl rfl (by kernel_rfl) (by kernel_rfl) (by kernel_rfl) (fun _ _ _ h => h) (Or.inl ⟨by rfl, fun w' hw => ?_⟩) hS ?_
          · clear hw; go_simp
          try simp only [Act.put, List.setIfInBounds_toArray, List.set_cons_zero, List.set_cons_succ]
          refine takeB (i := 6) (v := .agg dd.cells.toArray) (d := some 30) rfl rfl (by kernel_rfl) (by kernel_rfl) (by kernel_rfl) (fun _ _ _ h => h) (Or.inl ⟨by rfl, fun w' hw => ?_⟩) hS ?_
          · clear hw; go_simp
          try simp only [Act.put, List.setIfInBounds_toArray, List.set_cons_zero, List.set_cons_succ]
          refine takeB (i := 7) (v := .int .i64 xx) (d := some 31) rfl rfl (by kernel_rfl) (by kernel_rfl) (by kernel_rfl) (fun _ _ _ h => h) (Or.inl ⟨by rfl, fun w' hw => ?_⟩) hS ?_
          · clear hw; go_simp
          try simp only [Act.put, List.setIfInBounds_toArray, List.set_cons_zero, List.set_cons_succ]
          refine takeB (i := 8) (v := .int .i64 yy) (d := some 32) rfl rfl (by kernel_rfl) (by kernel_rfl) (by kernel_rfl) (fun _ _ _ h => h) (Or.inl ⟨by rfl, fun w' hw => ?_⟩) hS ?_
          · clear hw; go_simp
          try simp only [Act.put, List.setIfInBounds_toArray, List.set_cons_zero, List.set_cons_succ]
          refine wpAnyH_ready (rs := [10]) (by kernel_rfl) (by simp) ?_
          refine AllReadyH.cons rfl (fun K hK => ?_) AllReadyH.nil
          have HI6 : Hid (Sb w W1 [(w.heap.size + 1, o.cells), (w.heap.size, b0.cells)] [b0] Y6) := hS
          clear hS
          have HTH : Hid (Y6.there r 0 dd.cells.toArray.toList.length) := there9 HZ.out
          obtain ⟨s1, s2, s3⟩ := Sb.stored (cs := dd.cells.toArray.toList) HT1.out HI6.out HRR.out (Ck.lt HZ.out) HTH.out
          have HSS : Hid (Sb w W1 [(w.heap.size + 1, o.cells), (w.heap.size, b0.cells)] [b0] (Y6.setCells r 0 dd.cells.toArray.toList)) := s1
          have da := (hl_off HDA.out s3 HNR.out).at
          have HF : Hid (F5 w [(w.heap.size + 1, o.cells), (w.heap.size, b0.cells)] b0 o dd xx yy r _) := ⟨HQ.out, ⟨s2.st.r, by
            intro z hz
            rcases List.mem_cons.1 hz with rfl | hz
            · exact da
            · exact s2.st.a z hz, s2.st.b⟩, (by have h1 := HRR.out; have h2 := (HT1.out.r (w.heap.size + 1, o.cells) (by simp)).2; omega)⟩
          clear da s1 s2 s3
          refine wp_store_mid 29 _ _ rfl r 0 dd.cells.toArray rfl rfl HTH.out (by kernel_rfl) (cells_one _) ?_
          refine hK.out _ _ HSS.out (fun hS => ?_)
          clear HTH HSS HZ HDA HI6
          generalize Y6.setCells r 0 dd.cells.toArray.toList = Y7 at HF hS ⊢
          clear hK K
          try simp only [Act.put, List.setIfInBounds_toArray, List.set_cons_zero, List.set_cons_succ]
          refine takeB (i := 11) (v := .int .i64 xx) (d := some 7) rfl rfl (by kernel_rfl) (by kernel_rfl) (by kernel_rfl) (fun _ _ _ h => h) (Or.inl ⟨by rfl, fun w' hw => ?_⟩) hS ?_
          · clear hw; go_simp
          try simp only [Act.put, List.setIfInBounds_toArray, List.set_cons_zero, List.set_cons_succ]
          refine takeB (i := 12) (v := .int .i64 yy) (d := some 8) rfl rfl (by kernel_rfl) (by kernel_rfl) (by kernel_rfl) (fun _ _ _ h => h) (Or.inl ⟨by rfl, fun w' hw => ?_⟩) hS ?_
          · clear hw; go_simp
          try simp only [Act.put, List.setIfInBounds_toArray, List.set_cons_zero, List.set_cons_succ]
          refine wpAnyH_done (by kernel_rfl) ?_ _
          exact tail c dd xx yy r _ HF.out
      · skip
        have HI3 : Hid (Sb w W1 [(w.heap.size + 1, o.cells), (w.heap.size, b0.cells)] [b0] Y3) := hS
        clear hS
        obtain ⟨r, er⟩ : ∃ r, r = Y3.heap.size := ⟨_, rfl⟩
        have hb := below1 Y3 (.cells ([.int .i64 0, .slice none 0 0, .slice none 0 0, .slice none 0 0, .slice none 0 0, .slice none 0 0, .slice none 0 0, .slice none 0 0, .slice none 0 0] : List Value).toArray 29)
        have hz := ck_lit ([.int .i64 0, .slice none 0 0, .slice none 0 0, .slice none 0 0, .slice none 0 0, .slice none 0 0, .slice none 0 0, .slice none 0 0, .slice none 0 0] : List Value).toArray (heap1_0 Y3 (.cells ([.int .i64 0, .slice none 0 0, .slice none 0 0, .slice none 0 0, .slice none 0 0, .slice none 0 0, .slice none 0 0, .slice none 0 0, .slice none 0 0] : List Value).toArray 29))
        go_simp
        refine hK.out _ _ (HI3.out.later hb) (fun hS => ?_)
        clear hS
        generalize Y3.alloc (.cells #[.int .i64 0, .slice none 0 0, .slice none 0 0, .slice none 0 0, .slice none 0 0, .slice none 0 0, .slice none 0 0, .slice none 0 0, .slice none 0 0] 29) = Y4 at hb hz ⊢
        rw [← er] at hz ⊢
        replace HO : Hid (c.At Y4 ∧ c.o.n ≤ c.o.c) := ⟨HO.out.1.later hb, HO.out.2⟩
        have HZ : Hid (Ck Y4 r [.int .i64 0, .slice none 0 0, .slice none 0 0, .slice none 0 0, .slice none 0 0, .slice none 0 0, .slice none 0 0, .slice none 0 0, .slice none 0 0]) := hz
        have HRR : Hid (W1.heap.size ≤ r) := (by have := HI3.out.be.size; show W1.heap.size ≤ r; omega)
        have hS : Sb w W1 [(w.heap.size + 1, o.cells), (w.heap.size, b0.cells)] [b0] Y4 := HI3.out.later hb
        clear hb hz er HI3
        clear hK K
        try simp only [Act.put, List.setIfInBounds_toArray, List.set_cons_zero, List.set_cons_succ]
        refine wpAnyH_ready (rs := [3]) (by kernel_rfl) (by simp) ?_
        refine AllReadyH.cons rfl (fun K hK => ?_) AllReadyH.nil
        have HI4 : Hid (Sb w W1 [(w.heap.size + 1, o.cells), (w.heap.size, b0.cells)] [b0] Y4) := hS
        clear hS
        go_simp
        refine (tobop_any o _).mono ?_
        rintro e Y5 ⟨rfl, hb⟩
        replace HZ : Hid (Ck Y5 r [.int .i64 0, .slice none 0 0, .slice none 0 0, .slice none 0 0, .slice none 0 0, .slice none 0 0, .slice none 0 0, .slice none 0 0, .slice none 0 0]) := HZ.out.below hb (Ck.lt HZ.out)
        replace HO : Hid (c.At Y5 ∧ c.o.n ≤ c.o.c) := ⟨HO.out.1.later hb, HO.out.2⟩
        have HI5 : Hid (Sb w W1 [(w.heap.size + 1, o.cells), (w.heap.size, b0.cells)] [b0] Y5) := HI4.out.later hb
        clear hb HI4
        go_wp2_with (fail)
        refine hK.out _ _ HI5.out (fun hS => ?_)
        clear hK K
        try simp only [Act.put, List.setIfInBounds_toArray, List.set_cons_zero, List.set_cons_succ]
        refine wpAnyH_ready (rs := [4]) (by kernel_rfl) (by simp) ?_
        refine AllReadyH.cons rfl (fun K hK => ?_) AllReadyH.nil
        have HI5 : Hid (Sb w W1 [(w.heap.size + 1, o.cells), (w.heap.size, b0.cells)] [b0] Y5) := hS
        clear hS
        go_simp
        refine (sbookdo_any c o _ HO.out.1 (by rw [Book.total_m HK.out]; exact m0) (at_nil HO.out.1) ((Book.wf_m HK.out).2 HWf.out)).mono ?_
        rintro e Y6 ⟨dd, xx, yy, rfl, hq, da, hb⟩
        have HQ : Hid (SbQ b0 o dd xx yy) := sbq_m HK.out hq
        have HNR : Hid (∀ i, dd.Lies i → i ≠ r) := fun i hi e => by have h1 := (da.lies hi).1; have h2 := Ck.lt HZ.out; omega
        replace HZ : Hid (Ck Y6 r [.int .i64 0, .slice none 0 0, .slice none 0 0, .slice none 0 0, .slice none 0 0, .slice none 0 0, .slice none 0 0, .slice none 0 0, .slice none 0 0]) := HZ.out.below hb (Ck.lt HZ.out)
        replace HO : Hid (c.At Y6 ∧ c.o.n ≤ c.o.c) := ⟨HO.out.1.later hb, HO.out.2⟩
        have HDA : Hid (dd.Hl w.heap.size Y6) := hl_mono da (HI5.out.b.size)
        clear hq da
        have HI6 : Hid (Sb w W1 [(w.heap.size + 1, o.cells), (w.heap.size, b0.cells)] [b0] Y6) := HI5.out.later hb
        clear hb HI5
        go_wp2_with (fail)
        refine hK.out _ _ HI6.out (fun hS => ?_)
        clear hK K
        try simp only [Act.put, List.setIfInBounds_toArray, List.set_cons_zero, List.set_cons_succ]
        refine takeB (i := 5) (v := .tuple #[.agg dd.cells.toArray, .int .i64 xx, .int .i64 yy]) (d := some 24) rfl rfl (by kernel_rfl) (by kernel_rfl) (by kernel_rfl) (fun _ _ _ h => h) (Or.inl ⟨by rfl, fun w' hw => ?_⟩) hS ?_
        · clear hw; go_simp
        try simp only [Act.put, List.setIfInBounds_toArray, List.set_cons_zero, List.set_cons_succ]
        refine takeB (i := 6) (v := .agg dd.cells.toArray) (d := some 30) rfl rfl (by kernel_rfl) (by kernel_rfl) (by kernel_rfl) (fun _ _ _ h => h) (Or.inl ⟨by rfl, fun w' hw => ?_⟩) hS ?_
        · clear hw; go_simp
        try simp only [Act.put, List.setIfInBounds_toArray, List.set_cons_zero, List.set_cons_succ]
        refine takeB (i := 7) (v := .int .i64 xx) (d := some 31) rfl rfl (by kernel_rfl) (by kernel_rfl) (by kernel_rfl) (fun _ _ _ h => h) (Or.inl ⟨by rfl, fun w' hw => ?_⟩) hS ?_
        · clear hw; go_simp
        try simp only [Act.put, List.setIfInBounds_toArray, List.set_cons_zero, List.set_cons_succ]
        refine takeB (i := 8) (v := .int .i64 yy) (d := some 32) rfl rfl (by kernel_rfl) (by kernel_rfl) (by kernel_rfl) (fun _ _ _ h => h) (Or.inl ⟨by rfl, fun w' hw => ?_⟩) hS ?_
        · clear hw; go_simp
        try simp only [Act.put, List.setIfInBounds_toArray, List.set_cons_zero, List.set_cons_succ]
        refine wpAnyH_ready (rs := [10]) (by kernel_rfl) (by simp) ?_
        refine AllReadyH.cons rfl (fun K hK => ?_) AllReadyH.nil
        have HI6 : Hid (Sb w W1 [(w.heap.size + 1, o.cells), (w.heap.size, b0.cells)] [b0] Y6) := hS
        clear hS
        have HTH : Hid (Y6.there r 0 dd.cells.toArray.toList.length) := there9 HZ.out
        obtain ⟨s1, s2, s3⟩ := Sb.stored (cs := dd.cells.toArray.toList) HT1.out HI6.out HRR.out (Ck.lt HZ.out) HTH.out
        have HSS : Hid (Sb w W1 [(w.heap.size + 1, o.cells), (w.heap.size, b0.cells)] [b0] (Y6.setCells r 0 dd.cells.toArray.toList)) := s1
        have da := (hl_off HDA.out s3 HNR.out).at
        have HF : Hid (F5 w [(w.heap.size + 1, o.cells), (w.heap.size, b0.cells)] b0 o dd xx yy r _) := ⟨HQ.out, ⟨s2.st.r, by
          intro z hz
          rcases List.mem_cons.1 hz with rfl | hz
          · exact da
          · exact s2.st.a z hz, s2.st.b⟩, (by have h1 := HRR.out; have h2 := (HT1.out.r (w.heap.size + 1, o.cells) (by simp)).2; omega)⟩
        clear da s1 s2 s3
        refine wp_store_mid 29 _ _ rfl r 0 dd.cells.toArray rfl rfl HTH.out (by kernel_rfl) (cells_one _) ?_
        refine hK.out _ _ HSS.out (fun hS => ?_)
        clear HTH HSS HZ HDA HI6
        generalize Y6.setCells r 0 dd.cells.toArray.toList = Y7 at HF hS ⊢
        clear hK K
        try simp only [Act.put, List.setIfInBounds_toArray, List.set_cons_zero, List.set_cons_succ]
        refine takeB (i := 11) (v := .int .i64 xx) (d := some 7) rfl rfl (by kernel_rfl) (by kernel_rfl) (by kernel_rfl) (fun _ _ _ h => h) (Or.inl ⟨by rfl, fun w' hw => ?_⟩) hS ?_
        · clear hw; go_simp
        try simp only [Act.put, List.setIfInBounds_toArray, List.set_cons_zero, List.set_cons_succ]
        refine takeB (i := 12) (v := .int .i64 yy) (d := some 8) rfl rfl (by kernel_rfl) (by kernel_rfl) (by kernel_rfl) (fun _ _ _ h => h) (Or.inl ⟨by rfl, fun w' hw => ?_⟩) hS ?_
        · clear hw; go_simp
        try simp only [Act.put, List.setIfInBounds_toArray, List.set_cons_zero, List.set_cons_succ]
        refine wpAnyH_done (by kernel_rfl) ?_ _
        exact tail c dd xx yy r _ HF.out
    · skip
      have HI2 : Hid (Sb w W1 [(w.heap.size + 1, o.cells), (w.heap.size, b0.cells)] [b0] Y2) := hS
      clear hS
      obtain ⟨r, er⟩ : ∃ r, r = Y2.heap.size := ⟨_, rfl⟩
      have hb := below1 Y2 (.cells ([.int .i64 0, .slice none 0 0, .slice none 0 0, .slice none 0 0, .slice none 0 0, .slice none 0 0, .slice none 0 0, .slice none 0 0, .slice none 0 0] : List Value).toArray 29)
      have hz := ck_lit ([.int .i64 0, .slice none 0 0, .slice none 0 0, .slice none 0 0, .slice none 0 0, .slice none 0 0, .slice none 0 0, .slice none 0 0, .slice none 0 0] : List Value).toArray (heap1_0 Y2 (.cells ([.int .i64 0, .slice none 0 0, .slice none 0 0, .slice none 0 0, .slice none 0 0, .slice none 0 0, .slice none 0 0, .slice none 0 0, .slice none 0 0] : List Value).toArray 29))
      go_simp
      refine hK.out _ _ (HI2.out.later hb) (fun hS => ?_)
      clear hS
      generalize Y2.alloc (.cells #[.int .i64 0, .slice none 0 0, .slice none 0 0, .slice none 0 0, .slice none 0 0, .slice none 0 0, .slice none 0 0, .slice none 0 0, .slice none 0 0] 29) = Y3 at hb hz ⊢
      rw [← er] at hz ⊢
      have HZ : Hid (Ck Y3 r [.int .i64 0, .slice none 0 0, .slice none 0 0, .slice none 0 0, .slice none 0 0, .slice none 0 0, .slice none 0 0, .slice none 0 0, .slice none 0 0]) := hz
      have HRR : Hid (W1.heap.size ≤ r) := (by have := HI2.out.be.size; show W1.heap.size ≤ r; omega)
      have hS : Sb w W1 [(w.heap.size + 1, o.cells), (w.heap.size, b0.cells)] [b0] Y3 := HI2.out.later hb
      clear hb hz er HI2
      clear hK K
      try simp only [Act.put, List.setIfInBounds_toArray, List.set_cons_zero, List.set_cons_succ]
      refine wpAnyH_ready (rs := [1]) (by kernel_rfl) (by simp) ?_
      refine AllReadyH.cons rfl (fun K hK => ?_) AllReadyH.nil
      have HI3 : Hid (Sb w W1 [(w.heap.size + 1, o.cells), (w.heap.size, b0.cells)] [b0] Y3) := hS
      clear hS
      go_simp
      refine (Book.to_any b0 _ (HI3.out.a b0 (by simp)) m0).mono ?_
      rintro e Y4 ⟨c, rfl, k0, o0, hb⟩
      have HK : Hid (c.m = b0.m) := k0
      replace HZ : Hid (Ck Y4 r [.int .i64 0, .slice none 0 0, .slice none 0 0, .slice none 0 0, .slice none 0 0, .slice none 0 0, .slice none 0 0, .slice none 0 0, .slice none 0 0]) := HZ.out.below hb (Ck.lt HZ.out)
      have HO : Hid (c.At Y4 ∧ c.o.n ≤ c.o.c) := ⟨o0.at, o0.cap⟩
      clear k0 o0
      have HI4 : Hid (Sb w W1 [(w.heap.size + 1, o.cells), (w.heap.size, b0.cells)] [b0] Y4) := HI3.out.later hb
      clear hb HI3
      go_wp2_with (fail)
      refine hK.out _ _ HI4.out (fun hS => ?_)
      clear hK K
      try simp only [Act.put, List.setIfInBounds_toArray, List.set_cons_zero, List.set_cons_succ]
      refine wpAnyH_ready (rs := [3]) (by kernel_rfl) (by simp) ?_
      refine AllReadyH.cons rfl (fun K hK => ?_) AllReadyH.nil
      have HI4 : Hid (Sb w W1 [(w.heap.size + 1, o.cells), (w.heap.size, b0.cells)] [b0] Y4) := hS
      clear hS
      go_simp
      refine (tobop_any o _).mono ?_
      rintro e Y5 ⟨rfl, hb⟩
      replace HZ : Hid (Ck Y5 r [.int .i64 0, .slice none 0 0, .slice none 0 0, .slice none 0 0, .slice none 0 0, .slice none 0 0, .slice none 0 0, .slice none 0 0, .slice none 0 0]) := HZ.out.below hb (Ck.lt HZ.out)
      replace HO : Hid (c.At Y5 ∧ c.o.n ≤ c.o.c) := ⟨HO.out.1.later hb, HO.out.2⟩
      have HI5 : Hid (Sb w W1 [(w.heap.size + 1, o.cells), (w.heap.size, b0.cells)] [b0] Y5) := HI4.out.later hb
      clear hb HI4
      go_wp2_with (fail)
      refine hK.out _ _ HI5.out (fun hS => ?_)
      clear hK K
      try simp only [Act.put, List.setIfInBounds_toArray, List.set_cons_zero, List.set_cons_succ]
      refine wpAnyH_ready (rs := [4]) (by kernel_rfl) (by simp) ?_
      refine AllReadyH.cons rfl (fun K hK => ?_) AllReadyH.nil
      have HI5 : Hid (Sb w W1 [(w.heap.size + 1, o.cells), (w.heap.size, b0.cells)] [b0] Y5) := hS
      clear hS
      go_simp
      refine (sbookdo_any c o _ HO.out.1 (by rw [Book.total_m HK.out]; exact m0) (at_nil HO.out.1) ((Book.wf_m HK.out).2 HWf.out)).mono ?_
      rintro e Y6 ⟨dd, xx, yy, rfl, hq, da, hb⟩
      have HQ : Hid (SbQ b0 o dd xx yy) := sbq_m HK.out hq
      have HNR : Hid (∀ i, dd.Lies i → i ≠ r) := fun i hi e => by have h1 := (da.lies hi).1; have h2 := Ck.lt HZ.out; omega
      replace HZ : Hid (Ck Y6 r [.int .i64 0, .slice none 0 0, .slice none 0 0, .slice none 0 0, .slice none 0 0, .slice none 0 0, .slice none 0 0, .slice none 0 0, .slice none 0 0]) := HZ.out.below hb (Ck.lt HZ.out)
      replace HO : Hid (c.At Y6 ∧ c.o.n ≤ c.o.c) := ⟨HO.out.1.later hb, HO.out.2⟩
      have HDA : Hid (dd.Hl w.heap.size Y6) := hl_mono da (HI5.out.b.size)
      clear hq da
      have HI6 : Hid (Sb w W1 [(w.heap.size + 1, o.cells), (w.heap.size, b0.cells)] [b0] Y6) := HI5.out.later hb
      clear hb HI5
      go_wp2_with (fail)
      refine hK.out _ _ HI6.out (fun hS => ?_)
      clear hK K
      try simp only [Act.put, List.setIfInBounds_toArray, List.set_cons_zero, List.set_cons_succ]
      refine takeB (i := 5) (v := .tuple #[.agg dd.cells.toArray, .int .i64 xx, .int .i64 yy]) (d := some 24) rfl rfl (by kernel_rfl) (by kernel_rfl) (by kernel_rfl) (fun _ _ _ h => h) (Or.inl ⟨by rfl, fun w' hw => ?_⟩) hS ?_
      · clear hw; go_simp
      try simp only [Act.put, List.setIfInBounds_toArray, List.set_cons_zero, List.set_cons_succ]
      refine takeB (i := 6) (v := .agg dd.cells.toArray) (d := some 30) rfl rfl (by kernel_rfl) (by kernel_rfl) (by kernel_rfl) (fun _ _ _ h => h) (Or.inl ⟨by rfl, fun w' hw => ?_⟩) hS ?_
      · clear hw; go_simp
      try simp only [Act.put, List.setIfInBounds_toArray, List.set_cons_zero, List.set_cons_succ]
      refine takeB (i := 7) (v := .int .i64 xx) (d := some 31) rfl rfl (by kernel_rfl) (by kernel_rfl) (by kernel_rfl) (fun _ _ _ h => h) (Or.inl ⟨by rfl, fun w' hw => ?_⟩) hS ?_
      · clear hw; go_simp
      try simp only [Act.put, List.setIfInBounds_toArray, List.set_cons_zero, List.set_cons_succ]
      refine takeB (i := 8) (v := .int .i64 yy) (d := some 32) rfl rfl (by kernel_rfl) (by kernel_rfl) (by kernel_rfl) (fun _ _ _ h => h) (Or.inl ⟨by rfl, fun w' hw => ?_⟩) hS ?_
      · clear hw; go_simp
      try simp only [Act.put, List.setIfInBounds_toArray, List.set_cons_zero, List.set_cons_succ]
      refine wpAnyH_ready (rs := [10]) (by kernel_rfl) (by simp) ?_
      refine AllReadyH.cons rfl (fun K hK => ?_) AllReadyH.nil
      have HI6 : Hid (Sb w W1 [(w.heap.size + 1, o.cells), (w.heap.size, b0.cells)] [b0] Y6) := hS
      clear hS
      have HTH : Hid (Y6.there r 0 dd.cells.toArray.toList.length) := there9 HZ.out
      obtain ⟨s1, s2, s3⟩ := Sb.stored (cs := dd.cells.toArray.toList) HT1.out HI6.out HRR.out (Ck.lt HZ.out) HTH.out
      have HSS : Hid (Sb w W1 [(w.heap.size + 1, o.cells), (w.heap.size, b0.cells)] [b0] (Y6.setCells r 0 dd.cells.toArray.toList)) := s1
      have da := (hl_off HDA.out s3 HNR.out).at
      have HF : Hid (F5 w [(w.heap.size + 1, o.cells), (w.heap.size, b0.cells)] b0 o dd xx yy r _) := ⟨HQ.out, ⟨s2.st.r, by
        intro z hz
        rcases List.mem_cons.1 hz with rfl | hz
        · exact da
        · exact s2.st.a z hz, s2.st.b⟩, (by have h1 := HRR.out; have h2 := (HT1.out.r (w.heap.size + 1, o.cells) (by simp)).2; omega)⟩
      clear da s1 s2 s3
      refine wp_store_mid 29 _ _ rfl r 0 dd.cells.toArray rfl rfl HTH.out (by kernel_rfl) (cells_one _) ?_
      refine hK.out _ _ HSS.out (fun hS => ?_)
      clear HTH HSS HZ HDA HI6
      generalize Y6.setCells r 0 dd.cells.toArray.toList = Y7 at HF hS ⊢
      clear hK K
      try simp only [Act.put, List.setIfInBounds_toArray, List.set_cons_zero, List.set_cons_succ]
      refine takeB (i := 11) (v := .int .i64 xx) (d := some 7) rfl rfl (by kernel_rfl) (by kernel_rfl) (by kernel_rfl) (fun _ _ _ h => h) (Or.inl ⟨by rfl, fun w' hw => ?_⟩) hS ?_
      · clear hw; go_simp
      try simp only [Act.put, List.setIfInBounds_toArray, List.set_cons_zero, List.set_cons_succ]
      refine takeB (i := 12) (v := .int .i64 yy) (d := some 8) rfl rfl (by kernel_rfl) (by kernel_rfl) (by kernel_rfl) (fun _ _ _ h => h) (Or.inl ⟨by rfl, fun w' hw => ?_⟩) hS ?_
      · clear hw; go_simp
      try simp only [Act.put, List.setIfInBounds_toArray, List.set_cons_zero, List.set_cons_succ]
      refine wpAnyH_done (by kernel_rfl) ?_ _
      exact tail c dd xx yy r _ HF.out
  · intro c5 d x y rd V1 hf
    have HQ : Hid (SbQ b0 o d x y) := hf.q
    have HT2 : Hid (St w [(rd, d.cells), (w.heap.size + 1, o.cells), (w.heap.size, b0.cells)] [d, b0] V1) := hf.s
    have HRD : Hid (w.heap.size + 2 ≤ rd ∧ rd < V1.heap.size) := ⟨hf.g, (hf.s.r (rd, d.cells) (by simp)).2⟩
    have HRB : Hid (World.rangeAt V1 w.heap.size 0 b0.cells) := (hf.s.r (w.heap.size, b0.cells) (by simp)).1
    clear hf HT1
    refine k1 _ _ ?_
    clear k1 K1
    go_wp2_with (first
      | refine wpList_load_mid rfl 25 _ rfl w.heap.size 0 rfl b0.cells _ HRB.out Tryd.underlying25 rfl (by kernel_rfl) ?_)
    refine (Book.to_any b0 _ (HT2.out.a b0 (by simp)) m0).mono ?_
    rintro e V2 ⟨x0, rfl, k0, o0, hb⟩
    have HK : Hid (x0.m = b0.m) := k0
    have HCX : Hid (x0.o.n ≤ x0.o.c) := o0.cap
    have h2 : St w [(rd, d.cells), (w.heap.size + 1, o.cells), (w.heap.size, b0.cells)] [x0, d, b0] V2 := (HT2.out.later hb).book o0.at
    have hbx := below1 V2 (.cells ([.int .i64 0, .slice none 0 0, .slice none 0 0, .slice none 0 0, .slice none 0 0, .slice none 0 0, .slice none 0 0, .slice none 0 0, .slice none 0 0] : List Value).toArray 29)
    have hz := ck_lit ([.int .i64 0, .slice none 0 0, .slice none 0 0, .slice none 0 0, .slice none 0 0, .slice none 0 0, .slice none 0 0, .slice none 0 0, .slice none 0 0] : List Value).toArray (heap1_0 V2 (.cells ([.int .i64 0, .slice none 0 0, .slice none 0 0, .slice none 0 0, .slice none 0 0, .slice none 0 0, .slice none 0 0, .slice none 0 0, .slice none 0 0] : List Value).toArray 29))
    have HTH : Hid ((V2.alloc (.cells #[.int .i64 0, .slice none 0 0, .slice none 0 0, .slice none 0 0, .slice none 0 0, .slice none 0 0, .slice none 0 0, .slice none 0 0, .slice none 0 0] 29)).there V2.heap.size 0 x0.cells.toArray.toList.length) := there9 hz
    obtain ⟨s1, s2, s3⟩ := Sb.stored (cs := x0.cells.toArray.toList) h2 ((Sb.refl h2).later hbx) (Nat.le_refl _) (Ck.lt hz) HTH.out
    have ox := (o0.later hbx).only s3 (.inl (Nat.le_refl _))
    have sz := s3.size
    have sx := hbx.size
    have lz := Ck.lt hz
    have HB13 : Hid (Below V1.heap.size V1 _) := hb.trans (s1.be.mono hb.size)
    have yy := hb.size
    clear hb s1 s3 o0 k0
    go_wp2_with (refine wpList_store_mid rfl 29 _ _ rfl V2.heap.size 0 x0.cells.toArray rfl rfl HTH.out (by kernel_rfl) (cells_one _) ?_)
    
    clear HTH hz hbx
    generalize World.setCells _ _ _ _ = V3 at s2 ox sz HB13 ⊢
    obtain ⟨rx, ex⟩ : ∃ r, r = V2.heap.size := ⟨_, rfl⟩
    obtain ⟨B0, eB⟩ : ∃ B, B = V1.heap.size := ⟨_, rfl⟩
    rw [← ex] at s2 ox lz ⊢
    rw [← eB] at ox
    have HBX : Hid (V1.heap.size ≤ B0 ∧ B0 ≤ rx ∧ rx < V3.heap.size) := ⟨by omega, by omega, by omega⟩
    have HOX : Hid (x0.Own B0 rx V3) := ox
    have HT3 : Hid (St w [(rx, x0.cells), (rd, d.cells), (w.heap.size + 1, o.cells), (w.heap.size, b0.cells)] [x0, d, b0] V3) := s2.st
    clear s2 ox sz sx lz ex eB yy h2 HRB
    rename_i K1 k1
    apply via6 (fun g B C x y r W => F7 w V3 [(rx, x0.cells), (rd, d.cells), (w.heap.size + 1, o.cells), (w.heap.size, b0.cells)] [x0, d, b0] b0 o x0 g B C x y r W)
    · intro tail
      refine wp_region_held_drew (S := Sb w V3 [(rx, x0.cells), (rd, d.cells), (w.heap.size + 1, o.cells), (w.heap.size, b0.cells)] [x0, d, b0]) (by kernel_rfl) (Sb.refl HT3.out).drew (fun hS => ?_)
      generalize World.drew _ = Y2 at hS ⊢
      refine takeB (i := 0) (v := .agg x0.cells.toArray) (d := some 36) rfl rfl (by kernel_rfl) (by kernel_rfl) (by kernel_rfl) (fun _ _ _ h => h) (yieldsIf_load_mid (by rfl) 29 _ rfl (rx) 0 rfl x0.cells _ (fun w' hw => (hw.r (rx, x0.cells) (by simp)).1) Tryd.underlying29 rfl (by kernel_rfl)) hS ?_
      try simp only [Act.put, List.setIfInBounds_toArray, List.set_cons_zero, List.set_cons_succ]
      refine takeB (i := 1) (v := .agg o.cells.toArray) (d := some 37) rfl rfl (by kernel_rfl) (by kernel_rfl) (by kernel_rfl) (fun _ _ _ h => h) (yieldsIf_load_mid (by rfl) 27 _ rfl (w.heap.size + 1) 0 rfl o.cells _ (fun w' hw => (hw.r (w.heap.size + 1, o.cells) (by simp)).1) Tryd.underlying27 rfl (by kernel_rfl)) hS ?_
      try simp only [Act.put, List.setIfInBounds_toArray, List.set_cons_zero, List.set_cons_succ]
      refine wpAnyH_ready (rs := [2, 8]) (by kernel_rfl) (by simp) ?_
      refine AllReadyH.cons rfl (fun K hK => ?_) (AllReadyH.cons rfl (fun K hK => ?_) AllReadyH.nil)
      · skip
        have HI2 : Hid (Sb w V3 [(rx, x0.cells), (rd, d.cells), (w.heap.size + 1, o.cells), (w.heap.size, b0.cells)] [x0, d, b0] Y2) := hS
        clear hS
        go_simp
        refine (tobop_any o _).mono ?_
        rintro e Y3 ⟨rfl, hb⟩
        have HI3 : Hid (Sb w V3 [(rx, x0.cells), (rd, d.cells), (w.heap.size + 1, o.cells), (w.heap.size, b0.cells)] [x0, d, b0] Y3) := HI2.out.later hb
        clear hb HI2
        go_wp2_with (fail)
        refine hK.out _ _ HI3.out (fun hS => ?_)
        clear hK K
        try simp only [Act.put, List.setIfInBounds_toArray, List.set_cons_zero, List.set_cons_succ]
        refine wpAnyH_ready (rs := [3, 8]) (by kernel_rfl) (by simp) ?_
        refine AllReadyH.cons rfl (fun K hK => ?_) (AllReadyH.cons rfl (fun K hK => ?_) AllReadyH.nil)
        · skip
          have HI3 : Hid (Sb w V3 [(rx, x0.cells), (rd, d.cells), (w.heap.size + 1, o.cells), (w.heap.size, b0.cells)] [x0, d, b0] Y3) := hS
          clear hS
          go_simp
          refine (bookdo_any x0 o _ (HI3.out.a x0 (by simp)) (by rw [Book.total_m HK.out]; exact m0) (at_nil (HI3.out.a x0 (by simp))) HCX.out (HEa.out.later HI3.out.b)).mono ?_
          rintro e Y4 ⟨dd, xx, yy, rfl, hq, da, hb⟩
          have HQ : Hid (BdQ x0 o dd xx yy) := hq
          obtain ⟨B, eB⟩ : ∃ B, B = Y3.heap.size := ⟨_, rfl⟩
          obtain ⟨C, eC⟩ : ∃ C, C = Y4.heap.size := ⟨_, rfl⟩
          have HVB : Hid (V3.heap.size ≤ B ∧ B ≤ C ∧ C ≤ Y4.heap.size) := (by have h1 := HI3.out.be.size; have h2 := hb.size; refine ⟨?_, ?_, ?_⟩ <;> omega)
          have HDA : Hid (dd.Own B C Y4) := (by rw [eB, eC]; exact da)
          clear eB eC
          clear hq da
          have HI4 : Hid (Sb w V3 [(rx, x0.cells), (rd, d.cells), (w.heap.size + 1, o.cells), (w.heap.size, b0.cells)] [x0, d, b0] Y4) := HI3.out.later hb
          clear hb HI3
          go_wp2_with (fail)
          refine hK.out _ _ HI4.out (fun hS => ?_)
          clear hK K
          try simp only [Act.put, List.setIfInBounds_toArray, List.set_cons_zero, List.set_cons_succ]
          refine takeB (i := 4) (v := .tuple #[.agg dd.cells.toArray, .int .i64 xx, .int .i64 yy]) (d := some 35) rfl rfl (by kernel_rfl) (by kernel_rfl) (by kernel_rfl) (fun _ _ _ h => h) (Or.inl ⟨by rfl, fun w' hw => ?_⟩) hS ?_
          · clear hw; go_simp
          try simp only [Act.put, List.setIfInBounds_toArray, List.set_cons_zero, List.set_cons_succ]
          refine takeB (i := 5) (v := .agg dd.cells.toArray) (d := some 40) rfl rfl (by kernel_rfl) (by kernel_rfl) (by kernel_rfl) (fun _ _ _ h => h) (Or.inl ⟨by rfl, fun w' hw => ?_⟩) hS ?_
          · clear hw; go_simp
          try simp only [Act.put, List.setIfInBounds_toArray, List.set_cons_zero, List.set_cons_succ]
          refine takeB (i := 6) (v := .int .i64 xx) (d := some 41) rfl rfl (by kernel_rfl) (by kernel_rfl) (by kernel_rfl) (fun _ _ _ h => h) (Or.inl ⟨by rfl, fun w' hw => ?_⟩) hS ?_
          · clear hw; go_simp
          try simp only [Act.put, List.setIfInBounds_toArray, List.set_cons_zero, List.set_cons_succ]
          refine takeB (i := 7) (v := .int .i64 yy) (d := some 42) rfl rfl (by kernel_rfl) (by kernel_rfl) (by kernel_rfl) (fun _ _ _ h => h) (Or.inl ⟨by rfl, fun w' hw => ?_⟩) hS ?_
          · clear hw; go_simp
          try simp only [Act.put, List.setIfInBounds_toArray, List.set_cons_zero, List.set_cons_succ]
          refine wpAnyH_ready (rs := [8]) (by kernel_rfl) (by simp) ?_
          refine AllReadyH.cons rfl (fun K hK => ?_) AllReadyH.nil
          have HI4 : Hid (Sb w V3 [(rx, x0.cells), (rd, d.cells), (w.heap.size + 1, o.cells), (w.heap.size, b0.cells)] [x0, d, b0] Y4) := hS
          clear hS
          obtain ⟨r, er⟩ : ∃ r, r = Y4.heap.size := ⟨_, rfl⟩
          have hb := below1 Y4 (.cells ([.int .i64 0, .slice none 0 0, .slice none 0 0, .slice none 0 0, .slice none 0 0, .slice none 0 0, .slice none 0 0, .slice none 0 0, .slice none 0 0] : List Value).toArray 29)
          have hz := ck_lit ([.int .i64 0, .slice none 0 0, .slice none 0 0, .slice none 0 0, .slice none 0 0, .slice none 0 0, .slice none 0 0, .slice none 0 0, .slice none 0 0] : List Value).toArray (heap1_0 Y4 (.cells ([.int .i64 0, .slice none 0 0, .slice none 0 0, .slice none 0 0, .slice none 0 0, .slice none 0 0, .slice none 0 0, .slice none 0 0, .slice none 0 0] : List Value).toArray 29))
          go_simp
          refine hK.out _ _ (HI4.out.later hb) (fun hS => ?_)
          clear hS
          generalize Y4.alloc (.cells #[.int .i64 0, .slice none 0 0, .slice none 0 0, .slice none 0 0, .slice none 0 0, .slice none 0 0, .slice none 0 0, .slice none 0 0, .slice none 0 0] 29) = Y5 at hb hz ⊢
          rw [← er] at hz ⊢
          have HNR : Hid (r < B ∨ C ≤ r) := .inr (by have := HVB.out.2.2; omega)
          replace HVB : Hid (V3.heap.size ≤ B ∧ B ≤ C ∧ C ≤ Y5.heap.size) := ⟨HVB.out.1, HVB.out.2.1, Nat.le_trans HVB.out.2.2 hb.size⟩
          replace HDA : Hid (dd.Own B C Y5) := HDA.out.later hb
          have HZ : Hid (Ck Y5 r [.int .i64 0, .slice none 0 0, .slice none 0 0, .slice none 0 0, .slice none 0 0, .slice none 0 0, .slice none 0 0, .slice none 0 0, .slice none 0 0]) := hz
          have HRR : Hid (V3.heap.size ≤ r) := (by have := HI4.out.be.size; show V3.heap.size ≤ r; omega)
          have hS : Sb w V3 [(rx, x0.cells), (rd, d.cells), (w.heap.size + 1, o.cells), (w.heap.size, b0.cells)] [x0, d, b0] Y5 := HI4.out.later hb
          clear hb hz er HI4
          clear hK K
          try simp only [Act.put, List.setIfInBounds_toArray, List.set_cons_zero, List.set_cons_succ]
          refine wpAnyH_ready (rs := [9]) (by kernel_rfl) (by simp) ?_
          refine AllReadyH.cons rfl (fun K hK => ?_) AllReadyH.nil
          have HI5 : Hid (Sb w V3 [(rx, x0.cells), (rd, d.cells), (w.heap.size + 1, o.cells), (w.heap.size, b0.cells)] [x0, d, b0] Y5) := hS
          clear hS
          have HTH : Hid (Y5.there r 0 dd.cells.toArray.toList.length) := there9 HZ.out
          obtain ⟨s1, s2, s3⟩ := Sb.stored (cs := dd.cells.toArray.toList) HT3.out HI5.out HRR.out (Ck.lt HZ.out) HTH.out
          have HSS : Hid (Sb w V3 [(rx, x0.cells), (rd, d.cells), (w.heap.size + 1, o.cells), (w.heap.size, b0.cells)] [x0, d, b0] (Y5.setCells r 0 dd.cells.toArray.toList)) := s1
          have da := HDA.out.only s3 (by have h1 := HNR.out; omega)
          have HF : Hid (F7 w V3 [(rx, x0.cells), (rd, d.cells), (w.heap.size + 1, o.cells), (w.heap.size, b0.cells)] [x0, d, b0] b0 o x0 dd B C xx yy r _) := ⟨HK.out, HQ.out, s2, da, HVB.out.1, HVB.out.2.1, Nat.le_trans HVB.out.2.2 s3.size, HNR.out, HRR.out⟩
          clear da s1 s2 s3
          refine wp_store_mid 29 _ _ rfl r 0 dd.cells.toArray rfl rfl HTH.out (by kernel_rfl) (cells_one _) ?_
          refine hK.out _ _ HSS.out (fun hS => ?_)
          clear HTH HSS HZ HDA HI5
          generalize Y5.setCells r 0 dd.cells.toArray.toList = Y6 at HF hS ⊢
          clear hK K
          try simp only [Act.put, List.setIfInBounds_toArray, List.set_cons_zero, List.set_cons_succ]
          refine takeB (i := 10) (v := .int .i64 xx) (d := some 11) rfl rfl (by kernel_rfl) (by kernel_rfl) (by kernel_rfl) (fun _ _ _ h => h) (Or.inl ⟨by rfl, fun w' hw => ?_⟩) hS ?_
          · clear hw; go_simp
          try simp only [Act.put, List.setIfInBounds_toArray, List.set_cons_zero, List.set_cons_succ]
          refine takeB (i := 11) (v := .int .i64 yy) (d := some 12) rfl rfl (by kernel_rfl) (by kernel_rfl) (by kernel_rfl) (fun _ _ _ h => h) (Or.inl ⟨by rfl, fun w' hw => ?_⟩) hS ?_
          · clear hw; go_simp
          try simp only [Act.put, List.setIfInBounds_toArray, List.set_cons_zero, List.set_cons_succ]
          refine wpAnyH_done (by kernel_rfl) ?_ _
          exact tail dd B C xx yy r _ HF.out
        · skip
          have HI3 : Hid (Sb w V3 [(rx, x0.cells), (rd, d.cells), (w.heap.size + 1, o.cells), (w.heap.size, b0.cells)] [x0, d, b0] Y3) := hS
          clear hS
          obtain ⟨r, er⟩ : ∃ r, r = Y3.heap.size := ⟨_, rfl⟩
          have hb := below1 Y3 (.cells ([.int .i64 0, .slice none 0 0, .slice none 0 0, .slice none 0 0, .slice none 0 0, .slice none 0 0, .slice none 0 0, .slice none 0 0, .slice none 0 0] : List Value).toArray 29)
          have hz := ck_lit ([.int .i64 0, .slice none 0 0, .slice none 0 0, .slice none 0 0, .slice none 0 0, .slice none 0 0, .slice none 0 0, .slice none 0 0, .slice none 0 0] : List Value).toArray (heap1_0 Y3 (.cells ([.int .i64 0, .slice none 0 0, .slice none 0 0, .slice none 0 0, .slice none 0 0, .slice none 0 0, .slice none 0 0, .slice none 0 0, .slice none 0 0] : List Value).toArray 29))
          go_simp
          refine hK.out _ _ (HI3.out.later hb) (fun hS => ?_)
          clear hS
          generalize Y3.alloc (.cells #[.int .i64 0, .slice none 0 0, .slice none 0 0, .slice none 0 0, .slice none 0 0, .slice none 0 0, .slice none 0 0, .slice none 0 0, .slice none 0 0] 29) = Y4 at hb hz ⊢
          rw [← er] at hz ⊢
          have HZ : Hid (Ck Y4 r [.int .i64 0, .slice none 0 0, .slice none 0 0, .slice none 0 0, .slice none 0 0, .slice none 0 0, .slice none 0 0, .slice none 0 0, .slice none 0 0]) := hz
          have HRR : Hid (V3.heap.size ≤ r) := (by have := HI3.out.be.size; show V3.heap.size ≤ r; omega)
          have hS : Sb w V3 [(rx, x0.cells), (rd, d.cells), (w.heap.size + 1, o.cells), (w.heap.size, b0.cells)] [x0, d, b0] Y4 := HI3.out.later hb
          clear hb hz er HI3
          clear hK K
          try simp only [Act.put, List.setIfInBounds_toArray, List.set_cons_zero, List.set_cons_succ]
          refine wpAnyH_ready (rs := [3]) (by kernel_rfl) (by simp) ?_
          refine AllReadyH.cons rfl (fun K hK => ?_) AllReadyH.nil
          have HI4 : Hid (Sb w V3 [(rx, x0.cells), (rd, d.cells), (w.heap.size + 1, o.cells), (w.heap.size, b0.cells)] [x0, d, b0] Y4) := hS
          clear hS
          go_simp
          refine (bookdo_any x0 o _ (HI4.out.a x0 (by simp)) (by rw [Book.total_m HK.out]; exact m0) (at_nil (HI4.out.a x0 (by simp))) HCX.out (HEa.out.later HI4.out.b)).mono ?_
          rintro e Y5 ⟨dd, xx, yy, rfl, hq, da, hb⟩
          have HQ : Hid (BdQ x0 o dd xx yy) := hq
          obtain ⟨B, eB⟩ : ∃ B, B = Y4.heap.size := ⟨_, rfl⟩
          obtain ⟨C, eC⟩ : ∃ C, C = Y5.heap.size := ⟨_, rfl⟩
          have HVB : Hid (V3.heap.size ≤ B ∧ B ≤ C ∧ C ≤ Y5.heap.size) := (by have h1 := HI4.out.be.size; have h2 := hb.size; refine ⟨?_, ?_, ?_⟩ <;> omega)
          have HNR : Hid (r < B ∨ C ≤ r) := .inl (by have h2 := Ck.lt HZ.out; omega)
          replace HZ : Hid (Ck Y5 r [.int .i64 0, .slice none 0 0, .slice none 0 0, .slice none 0 0, .slice none 0 0, .slice none 0 0, .slice none 0 0, .slice none 0 0, .slice none 0 0]) := HZ.out.below hb (Ck.lt HZ.out)
          have HDA : Hid (dd.Own B C Y5) := (by rw [eB, eC]; exact da)
          clear eB eC
          clear hq da
          have HI5 : Hid (Sb w V3 [(rx, x0.cells), (rd, d.cells), (w.heap.size + 1, o.cells), (w.heap.size, b0.cells)] [x0, d, b0] Y5) := HI4.out.later hb
          clear hb HI4
          go_wp2_with (fail)
          refine hK.out _ _ HI5.out (fun hS => ?_)
          clear hK K
          try simp only [Act.put, List.setIfInBounds_toArray, List.set_cons_zero, List.set_cons_succ]
          refine takeB (i := 4) (v := .tuple #[.agg dd.cells.toArray, .int .i64 xx, .int .i64 yy]) (d := some 35) rfl rfl (by kernel_rfl) (by kernel_rfl) (by kernel_rfl) (fun _ _ _ h => h) (Or.inl ⟨by rfl, fun w' hw => ?_⟩) hS ?_
          · clear hw; go_simp
          try simp only [Act.put, List.setIfInBounds_toArray, List.set_cons_zero, List.set_cons_succ]
          refine takeB (i := 5) (v := .agg dd.cells.toArray) (d := some 40) rfl rfl (by kernel_rfl) (by kernel_rfl) (by kernel_rfl) (fun _ _ _ h => h) (Or.inl ⟨by rfl, fun w' hw => ?_⟩) hS ?_
          · clear hw; go_simp
          try simp only [Act.put, List.setIfInBounds_toArray, List.set_cons_zero, List.set_cons_succ]
          refine takeB (i := 6) (v := .int .i64 xx) (d := some 41) rfl rfl (by kernel_rfl) (by kernel_rfl) (by kernel_rfl) (fun _ _ _ h => h) (Or.inl ⟨by rfl, fun w' hw => ?_⟩) hS ?_
          · clear hw; go_simp
          try simp only [Act.put, List.setIfInBounds_toArray, List.set_cons_zero, List.set_cons_succ]
          refine takeB (i := 7) (v := .int .i64 yy) (d := some 42) rfl rfl (by kernel_rfl) (by kernel_rfl) (by kernel_rfl) (fun _ _ _ h => h) (Or.inl ⟨by rfl, fun w' hw => ?_⟩) hS ?_
          · clear hw; go_simp
          try simp only [Act.put, List.setIfInBounds_toArray, List.set_cons_zero, List.set_cons_succ]
          refine wpAnyH_ready (rs := [9]) (by kernel_rfl) (by simp) ?_
          refine AllReadyH.cons rfl (fun K hK => ?_) AllReadyH.nil
          have HI5 : Hid (Sb w V3 [(rx, x0.cells), (rd, d.cells), (w.heap.size + 1, o.cells), (w.heap.size, b0.cells)] [x0, d, b0] Y5) := hS
          clear hS
          have HTH : Hid (Y5.there r 0 dd.cells.toArray.toList.length) := there9 HZ.out
          obtain ⟨s1, s2, s3⟩ := Sb.stored (cs := dd.cells.toArray.toList) HT3.out HI5.out HRR.out (Ck.lt HZ.out) HTH.out
          have HSS : Hid (Sb w V3 [(rx, x0.cells), (rd, d.cells), (w.heap.size + 1, o.cells), (w.heap.size, b0.cells)] [x0, d, b0] (Y5.setCells r 0 dd.cells.toArray.toList)) := s1
          have da := HDA.out.only s3 (by have h1 := HNR.out; omega)
          have HF : Hid (F7 w V3 [(rx, x0.cells), (rd, d.cells), (w.heap.size + 1, o.cells), (w.heap.size, b0.cells)] [x0, d, b0] b0 o x0 dd B C xx yy r _) := ⟨HK.out, HQ.out, s2, da, HVB.out.1, HVB.out.2.1, Nat.le_trans HVB.out.2.2 s3.size, HNR.out, HRR.out⟩
          clear da s1 s2 s3
          refine wp_store_mid 29 _ _ rfl r 0 dd.cells.toArray rfl rfl HTH.out (by kernel_rfl) (cells_one _) ?_
          refine hK.out _ _ HSS.out (fun hS => ?_)
          clear HTH HSS HZ HDA HI5
          generalize Y5.setCells r 0 dd.cells.toArray.toList = Y6 at HF hS ⊢
          clear hK K
          try simp only [Act.put, List.setIfInBounds_toArray, List.set_cons_zero, List.set_cons_succ]
          refine takeB (i := 10) (v := .int .i64 xx) (d := some 11) rfl rfl (by kernel_rfl) (by kernel_rfl) (by kernel_rfl) (fun _ _ _ h => h) (Or.inl ⟨by rfl, fun w' hw => ?_⟩) hS ?_
          · clear hw; go_simp
          try simp only [Act.put, List.setIfInBounds_toArray, List.set_cons_zero, List.set_cons_succ]
          refine takeB (i := 11) (v := .int .i64 yy) (d := some 12) rfl rfl (by kernel_rfl) (by kernel_rfl) (by kernel_rfl) (fun _ _ _ h => h) (Or.inl ⟨by rfl, fun w' hw => ?_⟩) hS ?_
          · clear hw; go_simp
          try simp only [Act.put, List.setIfInBounds_toArray, List.set_cons_zero, List.set_cons_succ]
          refine wpAnyH_done (by kernel_rfl) ?_ _
          exact tail dd B C xx yy r _ HF.out
      · skip
        have HI2 : Hid (Sb w V3 [(rx, x0.cells), (rd, d.cells), (w.heap.size + 1, o.cells), (w.heap.size, b0.cells)] [x0, d, b0] Y2) := hS
        clear hS
        obtain ⟨r, er⟩ : ∃ r, r = Y2.heap.size := ⟨_, rfl⟩
        have hb := below1 Y2 (.cells ([.int .i64 0, .slice none 0 0, .slice none 0 0, .slice none 0 0, .slice none 0 0, .slice none 0 0, .slice none 0 0, .slice none 0 0, .slice none 0 0] : List Value).toArray 29)
        have hz := ck_lit ([.int .i64 0, .slice none 0 0, .slice none 0 0, .slice none 0 0, .slice none 0 0, .slice none 0 0, .slice none 0 0, .slice none 0 0, .slice none 0 0] : List Value).toArray (heap1_0 Y2 (.cells ([.int .i64 0, .slice none 0 0, .slice none 0 0, .slice none 0 0, .slice none 0 0, .slice none 0 0, .slice none 0 0, .slice none 0 0, .slice none 0 0] : List Value).toArray 29))
        go_simp
        refine hK.out _ _ (HI2.out.later hb) (fun hS => ?_)
        clear hS
        generalize Y2.alloc (.cells #[.int .i64 0, .slice none 0 0, .slice none 0 0, .slice none 0 0, .slice none 0 0, .slice none 0 0, .slice none 0 0, .slice none 0 0, .slice none 0 0] 29) = Y3 at hb hz ⊢
        rw [← er] at hz ⊢
        have HZ : Hid (Ck Y3 r [.int .i64 0, .slice none 0 0, .slice none 0 0, .slice none 0 0, .slice none 0 0, .slice none 0 0, .slice none 0 0, .slice none 0 0, .slice none 0 0]) := hz
        have HRR : Hid (V3.heap.size ≤ r) := (by have := HI2.out.be.size; show V3.heap.size ≤ r; omega)
        have hS : Sb w V3 [(rx, x0.cells), (rd, d.cells), (w.heap.size + 1, o.cells), (w.heap.size, b0.cells)] [x0, d, b0] Y3 := HI2.out.later hb
        clear hb hz er HI2
        clear hK K
        try simp only [Act.put, List.setIfInBounds_toArray, List.set_cons_zero, List.set_cons_succ]
        refine wpAnyH_ready (rs := [2]) (by kernel_rfl) (by simp) ?_
        refine AllReadyH.cons rfl (fun K hK => ?_) AllReadyH.nil
        have HI3 : Hid (Sb w V3 [(rx, x0.cells), (rd, d.cells), (w.heap.size + 1, o.cells), (w.heap.size, b0.cells)] [x0, d, b0] Y3) := hS
        clear hS
        go_simp
        refine (tobop_any o _).mono ?_
        rintro e Y4 ⟨rfl, hb⟩
        replace HZ : Hid (Ck Y4 r [.int .i64 0, .slice none 0 0, .slice none 0 0, .slice none 0 0, .slice none 0 0, .slice none 0 0, .slice none 0 0, .slice none 0 0, .slice none 0 0]) := HZ.out.below hb (Ck.lt HZ.out)
        have HI4 : Hid (Sb w V3 [(rx, x0.cells), (rd, d.cells), (w.heap.size + 1, o.cells), (w.heap.size, b0.cells)] [x0, d, b0] Y4) := HI3.out.later hb
        clear hb HI3
        go_wp2_with (fail)
        refine hK.out _ _ HI4.out (fun hS => ?_)
        clear hK K
        try simp only [Act.put, List.setIfInBounds_toArray, List.set_cons_zero, List.set_cons_succ]
        refine wpAnyH_ready (rs := [3]) (by kernel_rfl) (by simp) ?_
        refine AllReadyH.cons rfl (fun K hK => ?_) AllReadyH.nil
        have HI4 : Hid (Sb w V3 [(rx, x0.cells), (rd, d.cells), (w.heap.size + 1, o.cells), (w.heap.size, b0.cells)] [x0, d, b0] Y4) := hS
        clear hS
        go_simp
        refine (bookdo_any x0 o _ (HI4.out.a x0 (by simp)) (by rw [Book.total_m HK.out]; exact m0) (at_nil (HI4.out.a x0 (by simp))) HCX.out (HEa.out.later HI4.out.b)).mono ?_
        rintro e Y5 ⟨dd, xx, yy, rfl, hq, da, hb⟩
        have HQ : Hid (BdQ x0 o dd xx yy) := hq
        obtain ⟨B, eB⟩ : ∃ B, B = Y4.heap.size := ⟨_, rfl⟩
        obtain ⟨C, eC⟩ : ∃ C, C = Y5.heap.size := ⟨_, rfl⟩
        have HVB : Hid (V3.heap.size ≤ B ∧ B ≤ C ∧ C ≤ Y5.heap.size) := (by have h1 := HI4.out.be.size; have h2 := hb.size; refine ⟨?_, ?_, ?_⟩ <;> omega)
        have HNR : Hid (r < B ∨ C ≤ r) := .inl (by have h2 := Ck.lt HZ.out; omega)
        replace HZ : Hid (Ck Y5 r [.int .i64 0, .slice none 0 0, .slice none 0 0, .slice none 0 0, .slice none 0 0, .slice none 0 0, .slice none 0 0, .slice none 0 0, .slice none 0 0]) := HZ.out.below hb (Ck.lt HZ.out)
        have HDA : Hid (dd.Own B C Y5) := (by rw [eB, eC]; exact da)
        clear eB eC
        clear hq da
        have HI5 : Hid (Sb w V3 [(rx, x0.cells), (rd, d.cells), (w.heap.size + 1, o.cells), (w.heap.size, b0.cells)] [x0, d, b0] Y5) := HI4.out.later hb
        clear hb HI4
        go_wp2_with (fail)
        refine hK.out _ _ HI5.out (fun hS => ?_)
        clear hK K
        try simp only [Act.put, List.setIfInBounds_toArray, List.set_cons_zero, List.set_cons_succ]
        refine takeB (i := 4) (v := .tuple #[.agg dd.cells.toArray, .int .i64 xx, .int .i64 yy]) (d := some 35) rfl rfl (by kernel_rfl) (by kernel_rfl) (by kernel_rfl) (fun _ _ _ h => h) (Or.inl ⟨by rfl, fun w' hw => ?_⟩) hS ?_
        · clear hw; go_simp
        try simp only [Act.put, List.setIfInBounds_toArray, List.set_cons_zero, List.set_cons_succ]
        refine takeB (i := 5) (v := .agg dd.cells.toArray) (d := some 40) rfl rfl (by kernel_rfl) (by kernel_rfl) (by kernel_rfl) (fun _ _ _ h => h) (Or.inl ⟨by rfl, fun w' hw => ?_⟩) hS ?_
        · clear hw; go_simp
        try simp only [Act.put, List.setIfInBounds_toArray, List.set_cons_zero, List.set_cons_succ]
        refine takeB (i := 6) (v := .int .i64 xx) (d := some 41) rfl rfl (by kernel_rfl) (by kernel_rfl) (by kernel_rfl) (fun _ _ _ h => h) (Or.inl ⟨by rfl, fun w' hw => ?_⟩) hS ?_
        · clear hw; go_simp
        try simp only [Act.put, List.setIfInBounds_toArray, List.set_cons_zero, List.set_cons_succ]
        refine takeB (i := 7) (v := .int .i64 yy) (d := some 42) rfl rfl (by kernel_rfl) (by kernel_rfl) (by kernel_rfl) (fun _ _ _ h => h) (Or.inl ⟨by rfl, fun w' hw => ?_⟩) hS ?_
        · clear hw; go_simp
        try simp only [Act.put, List.setIfInBounds_toArray, List.set_cons_zero, List.set_cons_succ]
        refine wpAnyH_ready (rs := [9]) (by kernel_rfl) (by simp) ?_
        refine AllReadyH.cons rfl (fun K hK => ?_) AllReadyH.nil
        have HI5 : Hid (Sb w V3 [(rx, x0.cells), (rd, d.cells), (w.heap.size + 1, o.cells), (w.heap.size, b0.cells)] [x0, d, b0] Y5) := hS
        clear hS
        have HTH : Hid (Y5.there r 0 dd.cells.toArray.toList.length) := there9 HZ.out
        obtain ⟨s1, s2, s3⟩ := Sb.stored (cs := dd.cells.toArray.toList) HT3.out HI5.out HRR.out (Ck.lt HZ.out) HTH.out
        have HSS : Hid (Sb w V3 [(rx, x0.cells), (rd, d.cells), (w.heap.size + 1, o.cells), (w.heap.size, b0.cells)] [x0, d, b0] (Y5.setCells r 0 dd.cells.toArray.toList)) := s1
        have da := HDA.out.only s3 (by have h1 := HNR.out; omega)
        have HF : Hid (F7 w V3 [(rx, x0.cells), (rd, d.cells), (w.heap.size + 1, o.cells), (w.heap.size, b0.cells)] [x0, d, b0] b0 o x0 dd B C xx yy r _) := ⟨HK.out, HQ.out, s2, da, HVB.out.1, HVB.out.2.1, Nat.le_trans HVB.out.2.2 s3.size, HNR.out, HRR.out⟩
        clear da s1 s2 s3
        refine wp_store_mid 29 _ _ rfl r 0 dd.cells.toArray rfl rfl HTH.out (by kernel_rfl) (cells_one _) ?_
        refine hK.out _ _ HSS.out (fun hS => ?_)
        clear HTH HSS HZ HDA HI5
        generalize Y5.setCells r 0 dd.cells.toArray.toList = Y6 at HF hS ⊢
        clear hK K
        try simp only [Act.put, List.setIfInBounds_toArray, List.set_cons_zero, List.set_cons_succ]
        refine takeB (i := 10) (v := .int .i64 xx) (d := some 11) rfl rfl (by kernel_rfl) (by kernel_rfl) (by kernel_rfl) (fun _ _ _ h => h) (Or.inl ⟨by rfl, fun w' hw => ?_⟩) hS ?_
        · clear hw; go_simp
        try simp only [Act.put, List.setIfInBounds_toArray, List.set_cons_zero, List.set_cons_succ]
        refine takeB (i := 11) (v := .int .i64 yy) (d := some 12) rfl rfl (by kernel_rfl) (by kernel_rfl) (by kernel_rfl) (fun _ _ _ h => h) (Or.inl ⟨by rfl, fun w' hw => ?_⟩) hS ?_
        · clear hw; go_simp
        try simp only [Act.put, List.setIfInBounds_toArray, List.set_cons_zero, List.set_cons_succ]
        refine wpAnyH_done (by kernel_rfl) ?_ _
        exact tail dd B C xx yy r _ HF.out
    · intro g B C x7 y7 rg V4 hf
      obtain ⟨gm, e1, e2⟩ := bdq_sb hf.m hf.q HQ.out
      subst e1
      subst e2
      have HG : Hid (g.Own B C V4) := hf.g
      have HN : Hid (V3.heap.size ≤ B ∧ B ≤ C ∧ C ≤ V4.heap.size ∧ (rg < B ∨ C ≤ rg) ∧ V3.heap.size ≤ rg) := ⟨hf.vB, hf.BC, hf.CW, hf.rr, hf.vr⟩
      have HS4 : Hid (Sb w V3 [(rg, g.cells), (rx, x0.cells), (rd, d.cells), (w.heap.size + 1, o.cells), (w.heap.size, b0.cells)] [x0, d, b0] V4) := hf.s
      have HGM : Hid (g.trim.m = d.trim.m) := gm
      have HTG : Hid (g.total ≤ 1000) := (by rw [trim_total gm]; exact sbq_total HQ.out)
      clear hf gm
      refine k1 _ _ ?_
      clear k1 K1
      have HRG : Hid (World.rangeAt _ rg 0 g.cells) := (HS4.out.r (rg, g.cells) (by simp)).1
      have HRDD : Hid (World.rangeAt _ rd 0 d.cells) := (HS4.out.r (rd, d.cells) (by simp)).1
      go_wp2_with (first
          | refine wpList_load_mid rfl 29 _ rfl (rg) 0 rfl g.cells _ HRG.out Tryd.underlying29 rfl (by kernel_rfl) ?_
          | refine wpList_load_mid rfl 29 _ rfl (rd) 0 rfl d.cells _ HRDD.out Tryd.underlying29 rfl (by kernel_rfl) ?_)
      refine (eqt_any g d _ HG.out.at (HS4.out.a d (by simp)) HGM.out (Nat.le_trans HTG.out (by omega))).mono ?_
      rintro e V5 ⟨rfl, hb⟩
      have HS5 : Hid (Sb w V3 [(rg, g.cells), (rx, x0.cells), (rd, d.cells), (w.heap.size + 1, o.cells), (w.heap.size, b0.cells)] [x0, d, b0] V5) := HS4.out.later hb
      replace HG : Hid (g.Own B C V5) := HG.out.later hb
      replace HN : Hid (V3.heap.size ≤ B ∧ B ≤ C ∧ C ≤ V5.heap.size ∧ (rg < B ∨ C ≤ rg) ∧ V3.heap.size ≤ rg) := ⟨HN.out.1, HN.out.2.1, Nat.le_trans HN.out.2.2.1 hb.size, HN.out.2.2.2⟩
      clear hb HRG HRDD HS4
      go_wp2_with (fail)
      refine wp_region_held_drew (S := Sb w V5 [(rg, g.cells), (rx, x0.cells), (rd, d.cells), (w.heap.size + 1, o.cells), (w.heap.size, b0.cells)] [x0, d, b0]) (by kernel_rfl) (Sb.refl HS5.out.st).drew (fun hS => ?_)
      generalize World.drew _ = Y1 at hS ⊢
      refine takeB (i := 0) (v := .agg x0.cells.toArray) (d := some 57) rfl rfl (by kernel_rfl) (by kernel_rfl) (by kernel_rfl) (fun _ _ _ h => h) (yieldsIf_load_mid (by rfl) 29 _ rfl (rx) 0 rfl x0.cells _ (fun w' hw => (hw.r (rx, x0.cells) (by simp)).1) Tryd.underlying29 rfl (by kernel_rfl)) hS ?_
      try simp only [Act.put, List.setIfInBounds_toArray, List.set_cons_zero, List.set_cons_succ]
      refine takeB (i := 1) (v := .agg b0.cells.toArray) (d := some 58) rfl rfl (by kernel_rfl) (by kernel_rfl) (by kernel_rfl) (fun _ _ _ h => h) (yieldsIf_load_mid (by rfl) 25 _ rfl (w.heap.size) 0 rfl b0.cells _ (fun w' hw => (hw.r (w.heap.size, b0.cells) (by simp)).1) Tryd.underlying25 rfl (by kernel_rfl)) hS ?_
      try simp only [Act.put, List.setIfInBounds_toArray, List.set_cons_zero, List.set_cons_succ]
      refine wpAnyH_ready (rs := [2]) (by kernel_rfl) (by simp) ?_
      refine AllReadyH.cons rfl (fun K hK => ?_) AllReadyH.nil
      have HT1 : Hid (Sb w V5 [(rg, g.cells), (rx, x0.cells), (rd, d.cells), (w.heap.size + 1, o.cells), (w.heap.size, b0.cells)] [x0, d, b0] Y1) := hS
      clear hS
      go_simp
      refine (Book.to_any b0 _ (HT1.out.a b0 (by simp)) m0).mono ?_
      rintro e Y2 ⟨f, rfl, kf, of, hb⟩
      have HKF : Hid (x0.m = f.m) := HK.out.trans kf.symm
      have HOF : Hid (f.At Y2) := of.at
      have HT2' : Hid (Sb w V5 [(rg, g.cells), (rx, x0.cells), (rd, d.cells), (w.heap.size + 1, o.cells), (w.heap.size, b0.cells)] [x0, d, b0] Y2) := HT1.out.later hb
      clear hb kf of
      go_wp2_with (fail)
      refine hK.out _ _ HT2'.out (fun hS => ?_)
      clear hK K
      try simp only [Act.put, List.setIfInBounds_toArray, List.set_cons_zero, List.set_cons_succ]
      refine wpAnyH_ready (rs := [3]) (by kernel_rfl) (by simp) ?_
      refine AllReadyH.cons rfl (fun K hK => ?_) AllReadyH.nil
      have HT3' : Hid (Sb w V5 [(rg, g.cells), (rx, x0.cells), (rd, d.cells), (w.heap.size + 1, o.cells), (w.heap.size, b0.cells)] [x0, d, b0] Y2) := hS
      clear hS
      go_simp
      refine (Book.eq_any x0 f _ (HT3'.out.a x0 (by simp)) HOF.out HKF.out (by rw [Book.total_m HK.out]; exact m0)).mono ?_
      rintro e Y3 ⟨rfl, hb⟩
      have HT4' : Hid (Sb w V5 [(rg, g.cells), (rx, x0.cells), (rd, d.cells), (w.heap.size + 1, o.cells), (w.heap.size, b0.cells)] [x0, d, b0] Y3) := HT3'.out.later hb
      clear hb
      go_wp2_with (fail)
      refine hK.out _ _ HT4'.out (fun hS => ?_)
      clear hK K
      try simp only [Act.put, List.setIfInBounds_toArray, List.set_cons_zero, List.set_cons_succ]
      refine takeB (i := 4) (v := .bool false) (d := some 61) rfl rfl (by kernel_rfl) (by kernel_rfl) (by kernel_rfl) (fun _ _ _ h => h) (Or.inl ⟨by rfl, fun w' hw => ?_⟩) hS ?_
      · clear hw; go_simp
      try simp only [Act.put, List.setIfInBounds_toArray, List.set_cons_zero, List.set_cons_succ]
      refine wpAnyH_done (by kernel_rfl) ?_ _
      have HS6 : Hid (Sb w V5 [(rg, g.cells), (rx, x0.cells), (rd, d.cells), (w.heap.size + 1, o.cells), (w.heap.size, b0.cells)] [x0, d, b0] Y3) := hS
      clear hS HT4' HT3' HT2' HT1 HKF HOF
      have HBE : Hid (Below V3.heap.size V3 Y3) := HS5.out.be.trans (HS6.out.be.mono HS5.out.be.size)
      have HB15 : Hid (Below V1.heap.size V1 V5) := HB13.out.trans (HS5.out.be.mono HB13.out.size)
      replace HG : Hid (g.Own B C Y3) := HG.out.later HS6.out.be
      replace HOX : Hid (x0.Own B0 rx Y3) := HOX.out.later HBE.out
      replace HN : Hid (V3.heap.size ≤ B ∧ B ≤ C ∧ C ≤ Y3.heap.size ∧ (rg < B ∨ C ≤ rg) ∧ V3.heap.size ≤ rg) := ⟨HN.out.1, HN.out.2.1, Nat.le_trans HN.out.2.2.1 HS6.out.be.size, HN.out.2.2.2⟩
      have HLX : Hid (rx ≤ Y3.heap.size) := Nat.le_trans (Nat.le_of_lt HBX.out.2.2) HBE.out.size
      have HTX : Hid (x0.total ≤ 1000000000) := (by rw [Book.total_m HK.out]; exact m0)
      clear HS5
      have HRX : Hid (World.rangeAt _ rx 0 x0.cells) := (HS6.out.r (rx, x0.cells) (by simp)).1
      go_wp2_with (first
          | refine wpList_load_mid rfl 29 _ rfl (rx) 0 rfl x0.cells _ HRX.out Tryd.underlying29 rfl (by kernel_rfl) ?_)
      refine (Book.mark_any x0 1 B0 rx _ HLX.out HOX.out HTX.out (by omega) (by omega)).mono ?_
      rintro e V6 ⟨rfl, -, on⟩
      have HS7 : Hid (Sb w V1 [(rg, g.cells), (rx, x0.cells), (rd, d.cells), (w.heap.size + 1, o.cells), (w.heap.size, b0.cells)] [d, b0] V6) := Sb.only HT2.out (HS6.out.base HB15.out HB15.out.size (by simp)) on HBX.out.1 (by
        have h1 := HBX.out
        have h2 := HRD.out
        have h3 := HN.out
        simp only [List.forall_mem_cons, List.not_mem_nil, false_implies, implies_true, and_true]
        exact ⟨.inr (by omega), .inr (by omega), .inl (by omega), .inl (by omega), .inl (by omega)⟩)
      replace HG : Hid (g.Own B C V6) := HG.out.only on (.inr (by have h1 := HBX.out; have h3 := HN.out; omega))
      replace HN : Hid (V3.heap.size ≤ B ∧ B ≤ C ∧ C ≤ V6.heap.size ∧ (rg < B ∨ C ≤ rg) ∧ V3.heap.size ≤ rg) := ⟨HN.out.1, HN.out.2.1, Nat.le_trans HN.out.2.2.1 on.size, HN.out.2.2.2⟩
      clear on HRX HS6 HOX HLX
      have nk : ¬ ((1 : Int) + x0.total < 0) := (by omega)
      have nkb : decide ((1 : Int) + x0.total < 0) = false := (by simpa using nk)
      have HRG : Hid (World.rangeAt _ rg 0 g.cells) := (HS7.out.r (rg, g.cells) (by simp)).1
      have HRDD : Hid (World.rangeAt _ rd 0 d.cells) := (HS7.out.r (rd, d.cells) (by simp)).1
      go_wp2_with (first
          | (refine load_want (by rfl) 29 _ rfl rg 0 rfl g.cells _ HRG.out Tryd.underlying29 rfl (by kernel_rfl) ?_)
          | (refine load_want (by rfl) 29 _ rfl rd 0 rfl d.cells _ HRDD.out Tryd.underlying29 rfl (by kernel_rfl) ?_))
      clear nk nkb
      refine (eqt_any g d _ HG.out.at (HS7.out.a d (by simp)) HGM.out (Nat.le_trans HTG.out (by omega))).mono ?_
      rintro e V7 ⟨rfl, hb⟩
      have HS8 : Hid (Sb w V1 [(rg, g.cells), (rx, x0.cells), (rd, d.cells), (w.heap.size + 1, o.cells), (w.heap.size, b0.cells)] [d, b0] V7) := HS7.out.later hb
      replace HG : Hid (g.Own B C V7) := HG.out.later hb
      replace HN : Hid (V3.heap.size ≤ B ∧ B ≤ C ∧ C ≤ V7.heap.size ∧ (rg < B ∨ C ≤ rg) ∧ V3.heap.size ≤ rg) := ⟨HN.out.1, HN.out.2.1, Nat.le_trans HN.out.2.2.1 hb.size, HN.out.2.2.2⟩
      clear hb HRG HRDD HS7
      have HRG : Hid (World.rangeAt _ rg 0 g.cells) := (HS8.out.r (rg, g.cells) (by simp)).1
      go_wp2_with (first
          | refine wpList_load_mid rfl 29 _ rfl (rg) 0 rfl g.cells _ HRG.out Tryd.underlying29 rfl (by kernel_rfl) ?_)
      refine (Book.mark_any g 1 B C _ HN.out.2.2.1 HG.out (Nat.le_trans HTG.out (by omega)) (by omega) (by omega)).mono ?_
      rintro e V8 ⟨rfl, gk, on⟩
      have HS9 : Hid (Sb w V1 [(rg, g.cells), (rx, x0.cells), (rd, d.cells), (w.heap.size + 1, o.cells), (w.heap.size, b0.cells)] [d, b0] V8) := Sb.only HT2.out HS8.out on (Nat.le_trans HB13.out.size HN.out.1) (by
        have h1 := HBX.out
        have h2 := HRD.out
        have h3 := HN.out
        have h4 := HB13.out.size
        simp only [List.forall_mem_cons, List.not_mem_nil, false_implies, implies_true, and_true]
        exact ⟨by omega, .inl (by omega), .inl (by omega), .inl (by omega), .inl (by omega)⟩)
      have HGK : Hid ((g.mkd 1).Own B C V8) := gk
      clear on gk HG HS8 HRG
      have HRG : Hid (World.rangeAt _ rg 0 g.cells) := (HS9.out.r (rg, g.cells) (by simp)).1
      go_wp2_with (first
          | refine wpList_load_mid rfl 29 _ rfl (rg) 0 rfl g.cells _ HRG.out Tryd.underlying29 rfl (by kernel_rfl) ?_)
      refine (Book.held_any g 1 _ HGK.out.at (Nat.le_trans HTG.out (by omega)) (by omega) (by omega)).mono ?_
      rintro e V9 ⟨rfl, hb⟩
      have HS10 : Hid (Sb w V1 [(rg, g.cells), (rx, x0.cells), (rd, d.cells), (w.heap.size + 1, o.cells), (w.heap.size, b0.cells)] [d, b0] V9) := HS9.out.later hb
      have HT9 : Hid (St w [(rg, g.cells), (rx, x0.cells), (rd, d.cells), (w.heap.size + 1, o.cells), (w.heap.size, b0.cells)] [d, b0] V9) := HS10.out.st
      replace HGK : Hid ((g.mkd 1).Own B C V9) := HGK.out.later hb
      clear hb HRG HS9 HS10
      have tg := HTG.out
      have nk : ¬ ((1 : Int) + g.total < 0) := (by omega)
      have nkb : decide ((1 : Int) + g.total < 0) = false := (by simpa using nk)
      clear tg
      go_wp2_with (fail)
      clear nk nkb
      rename_i K1 k1
      apply via7 (fun c gz B C x y r W => F7 w V9 [(rg, g.cells), (rx, x0.cells), (rd, d.cells), (w.heap.size + 1, o.cells), (w.heap.size, b0.cells)] [d, b0] b0 o c gz B C x y r W)
      · intro tail
        refine wp_region_held_drew (S := Sb w V9 [(rg, g.cells), (rx, x0.cells), (rd, d.cells), (w.heap.size + 1, o.cells), (w.heap.size, b0.cells)] [d, b0]) (by kernel_rfl) (Sb.refl HT9.out).drew (fun hS => ?_)
        generalize World.drew _ = Y2 at hS ⊢
        refine takeB (i := 0) (v := .agg b0.cells.toArray) (d := some 95) rfl rfl (by kernel_rfl) (by kernel_rfl) (by kernel_rfl) (fun _ _ _ h => h) (yieldsIf_load_mid (by rfl) 25 _ rfl (w.heap.size) 0 rfl b0.cells _ (fun w' hw => (hw.r (w.heap.size, b0.cells) (by simp)).1) Tryd.underlying25 rfl (by kernel_rfl)) hS ?_
        try simp only [Act.put, List.setIfInBounds_toArray, List.set_cons_zero, List.set_cons_succ]
        refine takeB (i := 2) (v := .agg o.cells.toArray) (d := some 97) rfl rfl (by kernel_rfl) (by kernel_rfl) (by kernel_rfl) (fun _ _ _ h => h) (yieldsIf_load_mid (by rfl) 27 _ rfl (w.heap.size + 1) 0 rfl o.cells _ (fun w' hw => (hw.r (w.heap.size + 1, o.cells) (by simp)).1) Tryd.underlying27 rfl (by kernel_rfl)) hS ?_
        try simp only [Act.put, List.setIfInBounds_toArray, List.set_cons_zero, List.set_cons_succ]
        refine wpAnyH_ready (rs := [1, 9]) (by kernel_rfl) (by simp) ?_
        refine AllReadyH.cons rfl (fun K hK => ?_) (AllReadyH.cons rfl (fun K hK => ?_) AllReadyH.nil)
        · skip
          have HI2 : Hid (Sb w V9 [(rg, g.cells), (rx, x0.cells), (rd, d.cells), (w.heap.size + 1, o.cells), (w.heap.size, b0.cells)] [d, b0] Y2) := hS
          clear hS
          go_simp
          refine (Book.to_any b0 _ (HI2.out.a b0 (by simp)) m0).mono ?_
          rintro e Y3 ⟨c, rfl, k0, o0, hb⟩
          have HK : Hid (c.m = b0.m) := k0
          have HO : Hid (c.At Y3 ∧ c.o.n ≤ c.o.c) := ⟨o0.at, o0.cap⟩
          clear k0 o0
          have HI3 : Hid (Sb w V9 [(rg, g.cells), (rx, x0.cells), (rd, d.cells), (w.heap.size + 1, o.cells), (w.heap.size, b0.cells)] [d, b0] Y3) := HI2.out.later hb
          clear hb HI2
          go_wp2_with (fail)
          refine hK.out _ _ HI3.out (fun hS => ?_)
          clear hK K
          try simp only [Act.put, List.setIfInBounds_toArray, List.set_cons_zero, List.set_cons_succ]
          refine wpAnyH_ready (rs := [3, 9]) (by kernel_rfl) (by simp) ?_
          refine AllReadyH.cons rfl (fun K hK => ?_) (AllReadyH.cons rfl (fun K hK => ?_) AllReadyH.nil)
          · skip
            have HI3 : Hid (Sb w V9 [(rg, g.cells), (rx, x0.cells), (rd, d.cells), (w.heap.size + 1, o.cells), (w.heap.size, b0.cells)] [d, b0] Y3) := hS
            clear hS
            go_simp
            refine (tobop_any o _).mono ?_
            rintro e Y4 ⟨rfl, hb⟩
            replace HO : Hid (c.At Y4 ∧ c.o.n ≤ c.o.c) := ⟨HO.out.1.later hb, HO.out.2⟩
            have HI4 : Hid (Sb w V9 [(rg, g.cells), (rx, x0.cells), (rd, d.cells), (w.heap.size + 1, o.cells), (w.heap.size, b0.cells)] [d, b0] Y4) := HI3.out.later hb
            clear hb HI3
            go_wp2_with (fail)
            refine hK.out _ _ HI4.out (fun hS => ?_)
            clear hK K
            try simp only [Act.put, List.setIfInBounds_toArray, List.set_cons_zero, List.set_cons_succ]
            refine wpAnyH_ready (rs := [4, 9]) (by kernel_rfl) (by simp) ?_
            refine AllReadyH.cons rfl (fun K hK => ?_) (AllReadyH.cons rfl (fun K hK => ?_) AllReadyH.nil)
            · skip
              have HI4 : Hid (Sb w V9 [(rg, g.cells), (rx, x0.cells), (rd, d.cells), (w.heap.size + 1, o.cells), (w.heap.size, b0.cells)] [d, b0] Y4) := hS
              clear hS
              go_simp
              refine (bookdo_any c o _ HO.out.1 (by rw [Book.total_m HK.out]; exact m0) (at_nil HO.out.1) HO.out.2 (HEa.out.later HI4.out.b)).mono ?_
              rintro e Y5 ⟨dd, xx, yy, rfl, hq, da, hb⟩
              have HQ : Hid (BdQ c o dd xx yy) := hq
              obtain ⟨B, eB⟩ : ∃ B, B = Y4.heap.size := ⟨_, rfl⟩
              obtain ⟨C, eC⟩ : ∃ C, C = Y5.heap.size := ⟨_, rfl⟩
              have HVB : Hid (V9.heap.size ≤ B ∧ B ≤ C ∧ C ≤ Y5.heap.size) := (by have h1 := HI4.out.be.size; have h2 := hb.size; refine ⟨?_, ?_, ?_⟩ <;> omega)
              replace HO : Hid (c.At Y5 ∧ c.o.n ≤ c.o.c) := ⟨HO.out.1.later hb, HO.out.2⟩
              have HDA : Hid (dd.Own B C Y5) := (by rw [eB, eC]; exact da)
              clear eB eC
              clear hq da
              have HI5 : Hid (Sb w V9 [(rg, g.cells), (rx, x0.cells), (rd, d.cells), (w.heap.size + 1, o.cells), (w.heap.size, b0.cells)] [d, b0] Y5) := HI4.out.later hb
              clear hb HI4
              go_wp2_with (fail)
              refine hK.out _ _ HI5.out (fun hS => ?_)
              clear hK K
              try simp only [Act.put, List.setIfInBounds_toArray, List.set_cons_zero, List.set_cons_succ]
              refine takeB (i := 5) (v := .tuple #[.agg dd.cells.toArray, .int .i64 xx, .int .i64 yy]) (d := some 94) rfl rfl (by kernel_rfl) (by kernel_rfl) (by kernel_rfl) (fun _ _ _ h => h) (Or.inl ⟨by rfl, fun w' hw => ?_⟩) hS ?_
              · clear hw; go_simp
              try simp only [Act.put, List.setIfInBounds_toArray, List.set_cons_zero, List.set_cons_succ]
              refine takeB (i := 6) (v := .agg dd.cells.toArray) (d := some 100) rfl rfl (by kernel_rfl) (by kernel_rfl) (by kernel_rfl) (fun _ _ _ h => h) (Or.inl ⟨by rfl, fun w' hw => ?_⟩) hS ?_
              · clear hw; go_simp
              try simp only [Act.put, List.setIfInBounds_toArray, List.set_cons_zero, List.set_cons_succ]
              refine takeB (i := 7) (v := .int .i64 xx) (d := some 101) rfl rfl (by kernel_rfl) (by kernel_rfl) (by kernel_rfl) (fun _ _ _ h => h) (Or.inl ⟨by rfl, fun w' hw => ?_⟩) hS ?_
              · clear hw; go_simp
              try simp only [Act.put, List.setIfInBounds_toArray, List.set_cons_zero, List.set_cons_succ]
              refine takeB (i := 8) (v := .int .i64 yy) (d := some 102) rfl rfl (by kernel_rfl) (by kernel_rfl) (by kernel_rfl) (fun _ _ _ h => h) (Or.inl ⟨by rfl, fun w' hw => ?_⟩) hS ?_
              · clear hw; go_simp
              try simp only [Act.put, List.setIfInBounds_toArray, List.set_cons_zero, List.set_cons_succ]
              refine wpAnyH_ready (rs := [9]) (by kernel_rfl) (by simp) ?_
              refine AllReadyH.cons rfl (fun K hK => ?_) AllReadyH.nil
              have HI5 : Hid (Sb w V9 [(rg, g.cells), (rx, x0.cells), (rd, d.cells), (w.heap.size + 1, o.cells), (w.heap.size, b0.cells)] [d, b0] Y5) := hS
              clear hS
              obtain ⟨r, er⟩ : ∃ r, r = Y5.heap.size := ⟨_, rfl⟩
              have hb := below1 Y5 (.cells ([.int .i64 0, .slice none 0 0, .slice none 0 0, .slice none 0 0, .slice none 0 0, .slice none 0 0, .slice none 0 0, .slice none 0 0, .slice none 0 0] : List Value).toArray 29)
              have hz := ck_lit ([.int .i64 0, .slice none 0 0, .slice none 0 0, .slice none 0 0, .slice none 0 0, .slice none 0 0, .slice none 0 0, .slice none 0 0, .slice none 0 0] : List Value).toArray (heap1_0 Y5 (.cells ([.int .i64 0, .slice none 0 0, .slice none 0 0, .slice none 0 0, .slice none 0 0, .slice none 0 0, .slice none 0 0, .slice none 0 0, .slice none 0 0] : List Value).toArray 29))
              go_simp
              refine hK.out _ _ (HI5.out.later hb) (fun hS => ?_)
              clear hS
              generalize Y5.alloc (.cells #[.int .i64 0, .slice none 0 0, .slice none 0 0, .slice none 0 0, .slice none 0 0, .slice none 0 0, .slice none 0 0, .slice none 0 0, .slice none 0 0] 29) = Y6 at hb hz ⊢
              rw [← er] at hz ⊢
              have HNR : Hid (r < B ∨ C ≤ r) := .inr (by have := HVB.out.2.2; omega)
              replace HVB : Hid (V9.heap.size ≤ B ∧ B ≤ C ∧ C ≤ Y6.heap.size) := ⟨HVB.out.1, HVB.out.2.1, Nat.le_trans HVB.out.2.2 hb.size⟩
              replace HDA : Hid (dd.Own B C Y6) := HDA.out.later hb
              have HZ : Hid (Ck Y6 r [.int .i64 0, .slice none 0 0, .slice none 0 0, .slice none 0 0, .slice none 0 0, .slice none 0 0, .slice none 0 0, .slice none 0 0, .slice none 0 0]) := hz
              have HRR : Hid (V9.heap.size ≤ r) := (by have := HI5.out.be.size; show V9.heap.size ≤ r; omega)
              have hS : Sb w V9 [(rg, g.cells), (rx, x0.cells), (rd, d.cells), (w.heap.size + 1, o.cells), (w.heap.size, b0.cells)] [d, b0] Y6 := HI5.out.later hb
              clear hb hz er HI5
              clear hK K
              try simp only [Act.put, List.setIfInBounds_toArray, List.set_cons_zero, List.set_cons_succ]
              refine wpAnyH_ready (rs := [10]) (by kernel_rfl) (by simp) ?_
              refine AllReadyH.cons rfl (fun K hK => ?_) AllReadyH.nil
              have HI6 : Hid (Sb w V9 [(rg, g.cells), (rx, x0.cells), (rd, d.cells), (w.heap.size + 1, o.cells), (w.heap.size, b0.cells)] [d, b0] Y6) := hS
              clear hS
              have HTH : Hid (Y6.there r 0 dd.cells.toArray.toList.length) := there9 HZ.out
              obtain ⟨s1, s2, s3⟩ := Sb.stored (cs := dd.cells.toArray.toList) HT9.out HI6.out HRR.out (Ck.lt HZ.out) HTH.out
              have HSS : Hid (Sb w V9 [(rg, g.cells), (rx, x0.cells), (rd, d.cells), (w.heap.size + 1, o.cells), (w.heap.size, b0.cells)] [d, b0] (Y6.setCells r 0 dd.cells.toArray.toList)) := s1
              have da := HDA.out.only s3 (by have h1 := HNR.out; omega)
              have HF : Hid (F7 w V9 [(rg, g.cells), (rx, x0.cells), (rd, d.cells), (w.heap.size + 1, o.cells), (w.heap.size, b0.cells)] [d, b0] b0 o c dd B C xx yy r _) := ⟨HK.out, HQ.out, s2, da, HVB.out.1, HVB.out.2.1, Nat.le_trans HVB.out.2.2 s3.size, HNR.out, HRR.out⟩
              clear da s1 s2 s3
              refine wp_store_mid 29 _ _ rfl r 0 dd.cells.toArray rfl rfl HTH.out (by kernel_rfl) (cells_one _) ?_
              refine hK.out _ _ HSS.out (fun hS => ?_)
              clear HTH HSS HZ HDA HI6
              generalize Y6.setCells r 0 dd.cells.toArray.toList = Y7 at HF hS ⊢
              clear hK K
              try simp only [Act.put, List.setIfInBounds_toArray, List.set_cons_zero, List.set_cons_succ]
              refine takeB (i := 11) (v := .int .i64 xx) (d := some 17) rfl rfl (by kernel_rfl) (by kernel_rfl) (by kernel_rfl) (fun _ _ _ h => h) (Or.inl ⟨by rfl, fun w' hw => ?_⟩) hS ?_
              · clear hw; go_simp
              try simp only [Act.put, List.setIfInBounds_toArray, List.set_cons_zero, List.set_cons_succ]
              refine takeB (i := 12) (v := .int .i64 yy) (d := some 18) rfl rfl (by kernel_rfl) (by kernel_rfl) (by kernel_rfl) (fun _ _ _ h => h) (Or.inl ⟨by rfl, fun w' hw => ?_⟩) hS ?_
              · clear hw; go_simp
              try simp only [Act.put, List.setIfInBounds_toArray, List.set_cons_zero, List.set_cons_succ]
              refine wpAnyH_done (by kernel_rfl) ?_ _
              exact tail c dd B C xx yy r _ HF.out
            · skip
              have HI4 : Hid (Sb w V9 [(rg, g.cells), (rx, x0.cells), (rd, d.cells), (w.heap.size + 1, o.cells), (w.heap.size, b0.cells)] [d, b0] Y4) := hS
              clear hS
              obtain ⟨r, er⟩ : ∃ r, r = Y4.heap.size := ⟨_, rfl⟩
              have hb := below1 Y4 (.cells ([.int .i64 0, .slice none 0 0, .slice none 0 0, .slice none 0 0, .slice none 0 0, .slice none 0 0, .slice none 0 0, .slice none 0 0, .slice none 0 0] : List Value).toArray 29)
              have hz := ck_lit ([.int .i64 0, .slice none 0 0, .slice none 0 0, .slice none 0 0, .slice none 0 0, .slice none 0 0, .slice none 0 0, .slice none 0 0, .slice none 0 0] : List Value).toArray (heap1_0 Y4 (.cells ([.int .i64 0, .slice none 0 0, .slice none 0 0, .slice none 0 0, .slice none 0 0, .slice none 0 0, .slice none 0 0, .slice none 0 0, .slice none 0 0] : List Value).toArray 29))
              go_simp
              refine hK.out _ _ (HI4.out.later hb) (fun hS => ?_)
              clear hS
              generalize Y4.alloc (.cells #[.int .i64 0, .slice none 0 0, .slice none 0 0, .slice none 0 0, .slice none 0 0, .slice none 0 0, .slice none 0 0, .slice none 0 0, .slice none 0 0] 29) = Y5 at hb hz ⊢
              rw [← er] at hz ⊢
              replace HO : Hid (c.At Y5 ∧ c.o.n ≤ c.o.c) := ⟨HO.out.1.later hb, HO.out.2⟩
              have HZ : Hid (Ck Y5 r [.int .i64 0, .slice none 0 0, .slice none 0 0, .slice none 0 0, .slice none 0 0, .slice none 0 0, .slice none 0 0, .slice none 0 0, .slice none 0 0]) := hz
              have HRR : Hid (V9.heap.size ≤ r) := (by have := HI4.out.be.size; show V9.heap.size ≤ r; omega)
              have hS : Sb w V9 [(rg, g.cells), (rx, x0.cells), (rd, d.cells), (w.heap.size + 1, o.cells), (w.heap.size, b0.cells)] [d, b0] Y5 := HI4.out.later hb
              clear hb hz er HI4
              clear hK K
              try simp only [Act.put, List.setIfInBounds_toArray, List.set_cons_zero, List.set_cons_succ]
              refine wpAnyH_ready (rs := [4]) (by kernel_rfl) (by simp) ?_
              refine AllReadyH.cons rfl (fun K hK => ?_) AllReadyH.nil
              have HI5 : Hid (Sb w V9 [(rg, g.cells), (rx, x0.cells), (rd, d.cells), (w.heap.size + 1, o.cells), (w.heap.size, b0.cells)] [d, b0] Y5) := hS
              clear hS
              go_simp
              refine (bookdo_any c o _ HO.out.1 (by rw [Book.total_m HK.out]; exact m0) (at_nil HO.out.1) HO.out.2 (HEa.out.later HI5.out.b)).mono ?_
              rintro e Y6 ⟨dd, xx, yy, rfl, hq, da, hb⟩
              have HQ : Hid (BdQ c o dd xx yy) := hq
              obtain ⟨B, eB⟩ : ∃ B, B = Y5.heap.size := ⟨_, rfl⟩
              obtain ⟨C, eC⟩ : ∃ C, C = Y6.heap.size := ⟨_, rfl⟩
              have HVB : Hid (V9.heap.size ≤ B ∧ B ≤ C ∧ C ≤ Y6.heap.size) := (by have h1 := HI5.out.be.size; have h2 := hb.size; refine ⟨?_, ?_, ?_⟩ <;> omega)
              have HNR : Hid (r < B ∨ C ≤ r) := .inl (by have h2 := Ck.lt HZ.out; omega)
              replace HZ : Hid (Ck Y6 r [.int .i64 0, .slice none 0 0, .slice none 0 0, .slice none 0 0, .slice none 0 0, .slice none 0 0, .slice none 0 0, .slice none 0 0, .slice none 0 0]) := HZ.out.below hb (Ck.lt HZ.out)
              replace HO : Hid (c.At Y6 ∧ c.o.n ≤ c.o.c) := ⟨HO.out.1.later hb, HO.out.2⟩
              have HDA : Hid (dd.Own B C Y6) := (by rw [eB, eC]; exact da)
              clear eB eC
              clear hq da
              have HI6 : Hid (Sb w V9 [(rg, g.cells), (rx, x0.cells), (rd, d.cells), (w.heap.size + 1, o.cells), (w.heap.size, b0.cells)] [d, b0] Y6) := HI5.out.later hb
              clear hb HI5
              go_wp2_with (fail)
              refine hK.out _ _ HI6.out (fun hS => ?_)
              clear hK K
              try simp only [Act.put, List.setIfInBounds_toArray, List.set_cons_zero, List.set_cons_succ]
              refine takeB (i := 5) (v := .tuple #[.agg dd.cells.toArray, .int .i64 xx, .int .i64 yy]) (d := some 94) rfl rfl (by kernel_rfl) (by kernel_rfl) (by kernel_rfl) (fun _ _ _ h => h) (Or.inl ⟨by rfl, fun w' hw => ?_⟩) hS ?_
              · clear hw; go_simp
              try simp only [Act.put, List.setIfInBounds_toArray, List.set_cons_zero, List.set_cons_succ]
              refine takeB (i := 6) (v := .agg dd.cells.toArray) (d := some 100) rfl rfl (by kernel_rfl) (by kernel_rfl) (by kernel_rfl) (fun _ _ _ h => h) (Or.inl ⟨by rfl, fun w' hw => ?_⟩) hS ?_
              · clear hw; go_simp
              try simp only [Act.put, List.setIfInBounds_toArray, List.set_cons_zero, List.set_cons_succ]
              refine takeB (i := 7) (v := .int .i64 xx) (d := some 101) rfl rfl (by kernel_rfl) (by kernel_rfl) (by kernel_rfl) (fun _ _ _ h => h) (Or.inl ⟨by rfl, fun w' hw => ?_⟩) hS ?_
              · clear hw; go_simp
              try simp only [Act.put, List.setIfInBounds_toArray, List.set_cons_zero, List.set_cons_succ]
              refine takeB (i := 8) (v := .int .i64 yy) (d := some 102) rfl rfl (by kernel_rfl) (by kernel_rfl) (by kernel_rfl) (fun _ _ _ h => h) (Or.inl ⟨by rfl, fun w' hw => ?_⟩) hS ?_
              · clear hw; go_simp
              try simp only [Act.put, List.setIfInBounds_toArray, List.set_cons_zero, List.set_cons_succ]
              refine wpAnyH_ready (rs := [10]) (by kernel_rfl) (by simp) ?_
              refine AllReadyH.cons rfl (fun K hK => ?_) AllReadyH.nil
              have HI6 : Hid (Sb w V9 [(rg, g.cells), (rx, x0.cells), (rd, d.cells), (w.heap.size + 1, o.cells), (w.heap.size, b0.cells)] [d, b0] Y6) := hS
              clear hS
              have HTH : Hid (Y6.there r 0 dd.cells.toArray.toList.length) := there9 HZ.out
              obtain ⟨s1, s2, s3⟩ := Sb.stored (cs := dd.cells.toArray.toList) HT9.out HI6.out HRR.out (Ck.lt HZ.out) HTH.out
              have HSS : Hid (Sb w V9 [(rg, g.cells), (rx, x0.cells), (rd, d.cells), (w.heap.size + 1, o.cells), (w.heap.size, b0.cells)] [d, b0] (Y6.setCells r 0 dd.cells.toArray.toList)) := s1
              have da := HDA.out.only s3 (by have h1 := HNR.out; omega)
              have HF : Hid (F7 w V9 [(rg, g.cells), (rx, x0.cells), (rd, d.cells), (w.heap.size + 1, o.cells), (w.heap.size, b0.cells)] [d, b0] b0 o c dd B C xx yy r _) := ⟨HK.out, HQ.out, s2, da, HVB.out.1, HVB.out.2.1, Nat.le_trans HVB.out.2.2 s3.size, HNR.out, HRR.out⟩
              clear da s1 s2 s3
              refine wp_store_mid 29 _ _ rfl r 0 dd.cells.toArray rfl rfl HTH.out (by kernel_rfl) (cells_one _) ?_
              refine hK.out _ _ HSS.out (fun hS => ?_)
              clear HTH HSS HZ HDA HI6
              generalize Y6.setCells r 0 dd.cells.toArray.toList = Y7 at HF hS ⊢
              clear hK K
              try simp only [Act.put, List.setIfInBounds_toArray, List.set_cons_zero, List.set_cons_succ]
              refine takeB (i := 11) (v := .int .i64 xx) (d := some 17) rfl rfl (by kernel_rfl) (by kernel_rfl) (by kernel_rfl) (fun _ _ _ h => h) (Or.inl ⟨by rfl, fun w' hw => ?_⟩) hS ?_
              · clear hw; go_simp
              try simp only [Act.put, List.setIfInBounds_toArray, List.set_cons_zero, List.set_cons_succ]
              refine takeB (i := 12) (v := .int .i64 yy) (d := some 18) rfl rfl (by kernel_rfl) (by kernel_rfl) (by kernel_rfl) (fun _ _ _ h => h) (Or.inl ⟨by rfl, fun w' hw => ?_⟩) hS ?_
              · clear hw; go_simp
              try simp only [Act.put, List.setIfInBounds_toArray, List.set_cons_zero, List.set_cons_succ]
              refine wpAnyH_done (by kernel_rfl) ?_ _
              exact tail c dd B C xx yy r _ HF.out
          · skip
            have HI3 : Hid (Sb w V9 [(rg, g.cells), (rx, x0.cells), (rd, d.cells), (w.heap.size + 1, o.cells), (w.heap.size, b0.cells)] [d, b0] Y3) := hS
            clear hS
            obtain ⟨r, er⟩ : ∃ r, r = Y3.heap.size := ⟨_, rfl⟩
            have hb := below1 Y3 (.cells ([.int .i64 0, .slice none 0 0, .slice none 0 0, .slice none 0 0, .slice none 0 0, .slice none 0 0, .slice none 0 0, .slice none 0 0, .slice none 0 0] : List Value).toArray 29)
            have hz := ck_lit ([.int .i64 0, .slice none 0 0, .slice none 0 0, .slice none 0 0, .slice none 0 0, .slice none 0 0, .slice none 0 0, .slice none 0 0, .slice none 0 0] : List Value).toArray (heap1_0 Y3 (.cells ([.int .i64 0, .slice none 0 0, .slice none 0 0, .slice none 0 0, .slice none 0 0, .slice none 0 0, .slice none 0 0, .slice none 0 0, .slice none 0 0] : List Value).toArray 29))
            go_simp
            refine hK.out _ _ (HI3.out.later hb) (fun hS => ?_)
            clear hS
            generalize Y3.alloc (.cells #[.int .i64 0, .slice none 0 0, .slice none 0 0, .slice none 0 0, .slice none 0 0, .slice none 0 0, .slice none 0 0, .slice none 0 0, .slice none 0 0] 29) = Y4 at hb hz ⊢
            rw [← er] at hz ⊢
            replace HO : Hid (c.At Y4 ∧ c.o.n ≤ c.o.c) := ⟨HO.out.1.later hb, HO.out.2⟩
            have HZ : Hid (Ck Y4 r [.int .i64 0, .slice none 0 0, .slice none 0 0, .slice none 0 0, .slice none 0 0, .slice none 0 0, .slice none 0 0, .slice none 0 0, .slice none 0 0]) := hz
            have HRR : Hid (V9.heap.size ≤ r) := (by have := HI3.out.be.size; show V9.heap.size ≤ r; omega)
            have hS : Sb w V9 [(rg, g.cells), (rx, x0.cells), (rd, d.cells), (w.heap.size + 1, o.cells), (w.heap.size, b0.cells)] [d, b0] Y4 := HI3.out.later hb
            clear hb hz er HI3
            clear hK K
            try simp only [Act.put, List.setIfInBounds_toArray, List.set_cons_zero, List.set_cons_succ]
            refine wpAnyH_ready (rs := [3]) (by kernel_rfl) (by simp) ?_
            refine AllReadyH.cons rfl (fun K hK => ?_) AllReadyH.nil
            have HI4 : Hid (Sb w V9 [(rg, g.cells), (rx, x0.cells), (rd, d.cells), (w.heap.size + 1, o.cells), (w.heap.size, b0.cells)] [d, b0] Y4) := hS
            clear hS
            go_simp
            refine (tobop_any o _).mono ?_
            rintro e Y5 ⟨rfl, hb⟩
            replace HZ : Hid (Ck Y5 r [.int .i64 0, .slice none 0 0, .slice none 0 0, .slice none 0 0, .slice none 0 0, .slice none 0 0, .slice none 0 0, .slice none 0 0, .slice none 0 0]) := HZ.out.below hb (Ck.lt HZ.out)
            replace HO : Hid (c.At Y5 ∧ c.o.n ≤ c.o.c) := ⟨HO.out.1.later hb, HO.out.2⟩
            have HI5 : Hid (Sb w V9 [(rg, g.cells), (rx, x0.cells), (rd, d.cells), (w.heap.size + 1, o.cells), (w.heap.size, b0.cells)] [d, b0] Y5) := HI4.out.later hb
            clear hb HI4
            go_wp2_with (fail)
            refine hK.out _ _ HI5.out (fun hS => ?_)
            clear hK K
            try simp only [Act.put, List.setIfInBounds_toArray, List.set_cons_zero, List.set_cons_succ]
            refine wpAnyH_ready (rs := [4]) (by kernel_rfl) (by simp) ?_
            refine AllReadyH.cons rfl (fun K hK => ?_) AllReadyH.nil
            have HI5 : Hid (Sb w V9 [(rg, g.cells), (rx, x0.cells), (rd, d.cells), (w.heap.size + 1, o.cells), (w.heap.size, b0.cells)] [d, b0] Y5) := hS
            clear hS
            go_simp
            refine (bookdo_any c o _ HO.out.1 (by rw [Book.total_m HK.out]; exact m0) (at_nil HO.out.1) HO.out.2 (HEa.out.later HI5.out.b)).mono ?_
            rintro e Y6 ⟨dd, xx, yy, rfl, hq, da, hb⟩
            have HQ : Hid (BdQ c o dd xx yy) := hq
            obtain ⟨B, eB⟩ : ∃ B, B = Y5.heap.size := ⟨_, rfl⟩
            obtain ⟨C, eC⟩ : ∃ C, C = Y6.heap.size := ⟨_, rfl⟩
            have HVB : Hid (V9.heap.size ≤ B ∧ B ≤ C ∧ C ≤ Y6.heap.size) := (by have h1 := HI5.out.be.size; have h2 := hb.size; refine ⟨?_, ?_, ?_⟩ <;> omega)
            have HNR : Hid (r < B ∨ C ≤ r) := .inl (by have h2 := Ck.lt HZ.out; omega)
            replace HZ : Hid (Ck Y6 r [.int .i64 0, .slice none 0 0, .slice none 0 0, .slice none 0 0, .slice none 0 0, .slice none 0 0, .slice none 0 0, .slice none 0 0, .slice none 0 0]) := HZ.out.below hb (Ck.lt HZ.out)
            replace HO : Hid (c.At Y6 ∧ c.o.n ≤ c.o.c) := ⟨HO.out.1.later hb, HO.out.2⟩
            have HDA : Hid (dd.Own B C Y6) := (by rw [eB, eC]; exact da)
            clear eB eC
            clear hq da
            have HI6 : Hid (Sb w V9 [(rg, g.cells), (rx, x0.cells), (rd, d.cells), (w.heap.size + 1, o.cells), (w.heap.size, b0.cells)] [d, b0] Y6) := HI5.out.later hb
            clear hb HI5
            go_wp2_with (fail)
            refine hK.out _ _ HI6.out (fun hS => ?_)
            clear hK K
            try simp only [Act.put, List.setIfInBounds_toArray, List.set_cons_zero, List.set_cons_succ]
            refine takeB (i := 5) (v := .tuple #[.agg dd.cells.toArray, .int .i64 xx, .int .i64 yy]) (d := some 94) rfl rfl (by kernel_rfl) (by kernel_rfl) (by kernel_rfl) (fun _ _ _ h => h) (Or.inl ⟨by rfl, fun w' hw => ?_⟩) hS ?_
            · clear hw; go_simp
            try simp only [Act.put, List.setIfInBounds_toArray, List.set_cons_zero, List.set_cons_succ]
            refine takeB (i := 6) (v := .agg dd.cells.toArray) (d := some 100) rfl rfl (by kernel_rfl) (by kernel_rfl) (by kernel_rfl) (fun _ _ _ h => h) (Or.inl ⟨by rfl, fun w' hw => ?_⟩) hS ?_
            · clear hw; go_simp
            try simp only [Act.put, List.setIfInBounds_toArray, List.set_cons_zero, List.set_cons_succ]
            refine takeB (i := 7) (v := .int .i64 xx) (d := some 101) rfl rfl (by kernel_rfl) (by kernel_rfl) (by kernel_rfl) (fun _ _ _ h => h) (Or.inl ⟨by rfl, fun w' hw => ?_⟩) hS ?_
            · clear hw; go_simp
            try simp only [Act.put, List.setIfInBounds_toArray, List.set_cons_zero, List.set_cons_succ]
            refine takeB (i := 8) (v := .int .i64 yy) (d := some 102) rfl rfl (by kernel_rfl) (by kernel_rfl) (by kernel_rfl) (fun _ _ _ h => h) (Or.inl ⟨by rfl, fun w' hw => ?_⟩) hS ?_
            · clear hw; go_simp
            try simp only [Act.put, List.setIfInBounds_toArray, List.set_cons_zero, List.set_cons_succ]
            refine wpAnyH_ready (rs := [10]) (by kernel_rfl) (by simp) ?_
            refine AllReadyH.cons rfl (fun K hK => ?_) AllReadyH.nil
            have HI6 : Hid (Sb w V9 [(rg, g.cells), (rx, x0.cells), (rd, d.cells), (w.heap.size + 1, o.cells), (w.heap.size, b0.cells)] [d, b0] Y6) := hS
            clear hS
            have HTH : Hid (Y6.there r 0 dd.cells.toArray.toList.length) := there9 HZ.out
            obtain ⟨s1, s2, s3⟩ := Sb.stored (cs := dd.cells.toArray.toList) HT9.out HI6.out HRR.out (Ck.lt HZ.out) HTH.out
            have HSS : Hid (Sb w V9 [(rg, g.cells), (rx, x0.cells), (rd, d.cells), (w.heap.size + 1, o.cells), (w.heap.size, b0.cells)] [d, b0] (Y6.setCells r 0 dd.cells.toArray.toList)) := s1
            have da := HDA.out.only s3 (by have h1 := HNR.out; omega)
            have HF : Hid (F7 w V9 [(rg, g.cells), (rx, x0.cells), (rd, d.cells), (w.heap.size + 1, o.cells), (w.heap.size, b0.cells)] [d, b0] b0 o c dd B C xx yy r _) := ⟨HK.out, HQ.out, s2, da, HVB.out.1, HVB.out.2.1, Nat.le_trans HVB.out.2.2 s3.size, HNR.out, HRR.out⟩
            clear da s1 s2 s3
            refine wp_store_mid 29 _ _ rfl r 0 dd.cells.toArray rfl rfl HTH.out (by kernel_rfl) (cells_one _) ?_
            refine hK.out _ _ HSS.out (fun hS => ?_)
            clear HTH HSS HZ HDA HI6
            generalize Y6.setCells r 0 dd.cells.toArray.toList = Y7 at HF hS ⊢
            clear hK K
            try simp only [Act.put, List.setIfInBounds_toArray, List.set_cons_zero, List.set_cons_succ]
            refine takeB (i := 11) (v := .int .i64 xx) (d := some 17) rfl rfl (by kernel_rfl) (by kernel_rfl) (by kernel_rfl) (fun _ _ _ h => h) (Or.inl ⟨by rfl, fun w' hw => ?_⟩) hS ?_
            · clear hw; go_simp
            try simp only [Act.put, List.setIfInBounds_toArray, List.set_cons_zero, List.set_cons_succ]
            refine takeB (i := 12) (v := .int .i64 yy) (d := some 18) rfl rfl (by kernel_rfl) (by kernel_rfl) (by kernel_rfl) (fun _ _ _ h => h) (Or.inl ⟨by rfl, fun w' hw => ?_⟩) hS ?_
            · clear hw; go_simp
            try simp only [Act.put, List.setIfInBounds_toArray, List.set_cons_zero, List.set_cons_succ]
            refine wpAnyH_done (by kernel_rfl) ?_ _
            exact tail c dd B C xx yy r _ HF.out
        · skip
          have HI2 : Hid (Sb w V9 [(rg, g.cells), (rx, x0.cells), (rd, d.cells), (w.heap.size + 1, o.cells), (w.heap.size, b0.cells)] [d, b0] Y2) := hS
          clear hS
          obtain ⟨r, er⟩ : ∃ r, r = Y2.heap.size := ⟨_, rfl⟩
          have hb := below1 Y2 (.cells ([.int .i64 0, .slice none 0 0, .slice none 0 0, .slice none 0 0, .slice none 0 0, .slice none 0 0, .slice none 0 0, .slice none 0 0, .slice none 0 0] : List Value).toArray 29)
          have hz := ck_lit ([.int .i64 0, .slice none 0 0, .slice none 0 0, .slice none 0 0, .slice none 0 0, .slice none 0 0, .slice none 0 0, .slice none 0 0, .slice none 0 0] : List Value).toArray (heap1_0 Y2 (.cells ([.int .i64 0, .slice none 0 0, .slice none 0 0, .slice none 0 0, .slice none 0 0, .slice none 0 0, .slice none 0 0, .slice none 0 0, .slice none 0 0] : List Value).toArray 29))
          go_simp
          refine hK.out _ _ (HI2.out.later hb) (fun hS => ?_)
          clear hS
          generalize Y2.alloc (.cells #[.int .i64 0, .slice none 0 0, .slice none 0 0, .slice none 0 0, .slice none 0 0, .slice none 0 0, .slice none 0 0, .slice none 0 0, .slice none 0 0] 29) = Y3 at hb hz ⊢
          rw [← er] at hz ⊢
          have HZ : Hid (Ck Y3 r [.int .i64 0, .slice none 0 0, .slice none 0 0, .slice none 0 0, .slice none 0 0, .slice none 0 0, .slice none 0 0, .slice none 0 0, .slice none 0 0]) := hz
          have HRR : Hid (V9.heap.size ≤ r) := (by have := HI2.out.be.size; show V9.heap.size ≤ r; omega)
          have hS : Sb w V9 [(rg, g.cells), (rx, x0.cells), (rd, d.cells), (w.heap.size + 1, o.cells), (w.heap.size, b0.cells)] [d, b0] Y3 := HI2.out.later hb
          clear hb hz er HI2
          clear hK K
          try simp only [Act.put, List.setIfInBounds_toArray, List.set_cons_zero, List.set_cons_succ]
          refine wpAnyH_ready (rs := [1]) (by kernel_rfl) (by simp) ?_
          refine AllReadyH.cons rfl (fun K hK => ?_) AllReadyH.nil
          have HI3 : Hid (Sb w V9 [(rg, g.cells), (rx, x0.cells), (rd, d.cells), (w.heap.size + 1, o.cells), (w.heap.size, b0.cells)] [d, b0] Y3) := hS
          clear hS
          go_simp
          refine (Book.to_any b0 _ (HI3.out.a b0 (by simp)) m0).mono ?_
          rintro e Y4 ⟨c, rfl, k0, o0, hb⟩
          have HK : Hid (c.m = b0.m) := k0
          replace HZ : Hid (Ck Y4 r [.int .i64 0, .slice none 0 0, .slice none 0 0, .slice none 0 0, .slice none 0 0, .slice none 0 0, .slice none 0 0, .slice none 0 0, .slice none 0 0]) := HZ.out.below hb (Ck.lt HZ.out)
          have HO : Hid (c.At Y4 ∧ c.o.n ≤ c.o.c) := ⟨o0.at, o0.cap⟩
          clear k0 o0
          have HI4 : Hid (Sb w V9 [(rg, g.cells), (rx, x0.cells), (rd, d.cells), (w.heap.size + 1, o.cells), (w.heap.size, b0.cells)] [d, b0] Y4) := HI3.out.later hb
          clear hb HI3
          go_wp2_with (fail)
          refine hK.out _ _ HI4.out (fun hS => ?_)
          clear hK K
          try simp only [Act.put, List.setIfInBounds_toArray, List.set_cons_zero, List.set_cons_succ]
          refine wpAnyH_ready (rs := [3]) (by kernel_rfl) (by simp) ?_
          refine AllReadyH.cons rfl (fun K hK => ?_) AllReadyH.nil
          have HI4 : Hid (Sb w V9 [(rg, g.cells), (rx, x0.cells), (rd, d.cells), (w.heap.size + 1, o.cells), (w.heap.size, b0.cells)] [d, b0] Y4) := hS
          clear hS
          go_simp
          refine (tobop_any o _).mono ?_
          rintro e Y5 ⟨rfl, hb⟩
          replace HZ : Hid (Ck Y5 r [.int .i64 0, .slice none 0 0, .slice none 0 0, .slice none 0 0, .slice none 0 0, .slice none 0 0, .slice none 0 0, .slice none 0 0, .slice none 0 0]) := HZ.out.below hb (Ck.lt HZ.out)
          replace HO : Hid (c.At Y5 ∧ c.o.n ≤ c.o.c) := ⟨HO.out.1.later hb, HO.out.2⟩
          have HI5 : Hid (Sb w V9 [(rg, g.cells), (rx, x0.cells), (rd, d.cells), (w.heap.size + 1, o.cells), (w.heap.size, b0.cells)] [d, b0] Y5) := HI4.out.later hb
          clear hb HI4
          go_wp2_with (fail)
          refine hK.out _ _ HI5.out (fun hS => ?_)
          clear hK K
          try simp only [Act.put, List.setIfInBounds_toArray, List.set_cons_zero, List.set_cons_succ]
          refine wpAnyH_ready (rs := [4]) (by kernel_rfl) (by simp) ?_
          refine AllReadyH.cons rfl (fun K hK => ?_) AllReadyH.nil
          have HI5 : Hid (Sb w V9 [(rg, g.cells), (rx, x0.cells), (rd, d.cells), (w.heap.size + 1, o.cells), (w.heap.size, b0.cells)] [d, b0] Y5) := hS
          clear hS
          go_simp
          refine (bookdo_any c o _ HO.out.1 (by rw [Book.total_m HK.out]; exact m0) (at_nil HO.out.1) HO.out.2 (HEa.out.later HI5.out.b)).mono ?_
          rintro e Y6 ⟨dd, xx, yy, rfl, hq, da, hb⟩
          have HQ : Hid (BdQ c o dd xx yy) := hq
          obtain ⟨B, eB⟩ : ∃ B, B = Y5.heap.size := ⟨_, rfl⟩
          obtain ⟨C, eC⟩ : ∃ C, C = Y6.heap.size := ⟨_, rfl⟩
          have HVB : Hid (V9.heap.size ≤ B ∧ B ≤ C ∧ C ≤ Y6.heap.size) := (by have h1 := HI5.out.be.size; have h2 := hb.size; refine ⟨?_, ?_, ?_⟩ <;> omega)
          have HNR : Hid (r < B ∨ C ≤ r) := .inl (by have h2 := Ck.lt HZ.out; omega)
          replace HZ : Hid (Ck Y6 r [.int .i64 0, .slice none 0 0, .slice none 0 0, .slice none 0 0, .slice none 0 0, .slice none 0 0, .slice none 0 0, .slice none 0 0, .slice none 0 0]) := HZ.out.below hb (Ck.lt HZ.out)
          replace HO : Hid (c.At Y6 ∧ c.o.n ≤ c.o.c) := ⟨HO.out.1.later hb, HO.out.2⟩
          have HDA : Hid (dd.Own B C Y6) := (by rw [eB, eC]; exact da)
          clear eB eC
          clear hq da
          have HI6 : Hid (Sb w V9 [(rg, g.cells), (rx, x0.cells), (rd, d.cells), (w.heap.size + 1, o.cells), (w.heap.size, b0.cells)] [d, b0] Y6) := HI5.out.later hb
          clear hb HI5
          go_wp2_with (fail)
          refine hK.out _ _ HI6.out (fun hS => ?_)
          clear hK K
          try simp only [Act.put, List.setIfInBounds_toArray, List.set_cons_zero, List.set_cons_succ]
          refine takeB (i := 5) (v := .tuple #[.agg dd.cells.toArray, .int .i64 xx, .int .i64 yy]) (d := some 94) rfl rfl (by kernel_rfl) (by kernel_rfl) (by kernel_rfl) (fun _ _ _ h => h) (Or.inl ⟨by rfl, fun w' hw => ?_⟩) hS ?_
          · clear hw; go_simp
          try simp only [Act.put, List.setIfInBounds_toArray, List.set_cons_zero, List.set_cons_succ]
          refine takeB (i := 6) (v := .agg dd.cells.toArray) (d := some 100) rfl rfl (by kernel_rfl) (by kernel_rfl) (by kernel_rfl) (fun _ _ _ h => h) (Or.inl ⟨by rfl, fun w' hw => ?_⟩) hS ?_
          · clear hw; go_simp
          try simp only [Act.put, List.setIfInBounds_toArray, List.set_cons_zero, List.set_cons_succ]
          refine takeB (i := 7) (v := .int .i64 xx) (d := some 101) rfl rfl (by kernel_rfl) (by kernel_rfl) (by kernel_rfl) (fun _ _ _ h => h) (Or.inl ⟨by rfl, fun w' hw => ?_⟩) hS ?_
          · clear hw; go_simp
          try simp only [Act.put, List.setIfInBounds_toArray, List.set_cons_zero, List.set_cons_succ]
          refine takeB (i := 8) (v := .int .i64 yy) (d := some 102) rfl rfl (by kernel_rfl) (by kernel_rfl) (by kernel_rfl) (fun _ _ _ h => h) (Or.inl ⟨by rfl, fun w' hw => ?_⟩) hS ?_
          · clear hw; go_simp
          try simp only [Act.put, List.setIfInBounds_toArray, List.set_cons_zero, List.set_cons_succ]
          refine wpAnyH_ready (rs := [10]) (by kernel_rfl) (by simp) ?_
          refine AllReadyH.cons rfl (fun K hK => ?_) AllReadyH.nil
          have HI6 : Hid (Sb w V9 [(rg, g.cells), (rx, x0.cells), (rd, d.cells), (w.heap.size + 1, o.cells), (w.heap.size, b0.cells)] [d, b0] Y6) := hS
          clear hS
          have HTH : Hid (Y6.there r 0 dd.cells.toArray.toList.length) := there9 HZ.out
          obtain ⟨s1, s2, s3⟩ := Sb.stored (cs := dd.cells.toArray.toList) HT9.out HI6.out HRR.out (Ck.lt HZ.out) HTH.out
          have HSS : Hid (Sb w V9 [(rg, g.cells), (rx, x0.cells), (rd, d.cells), (w.heap.size + 1, o.cells), (w.heap.size, b0.cells)] [d, b0] (Y6.setCells r 0 dd.cells.toArray.toList)) := s1
          have da := HDA.out.only s3 (by have h1 := HNR.out; omega)
          have HF : Hid (F7 w V9 [(rg, g.cells), (rx, x0.cells), (rd, d.cells), (w.heap.size + 1, o.cells), (w.heap.size, b0.cells)] [d, b0] b0 o c dd B C xx yy r _) := ⟨HK.out, HQ.out, s2, da, HVB.out.1, HVB.out.2.1, Nat.le_trans HVB.out.2.2 s3.size, HNR.out, HRR.out⟩
          clear da s1 s2 s3
          refine wp_store_mid 29 _ _ rfl r 0 dd.cells.toArray rfl rfl HTH.out (by kernel_rfl) (cells_one _) ?_
          refine hK.out _ _ HSS.out (fun hS => ?_)
          clear HTH HSS HZ HDA HI6
          generalize Y6.setCells r 0 dd.cells.toArray.toList = Y7 at HF hS ⊢
          clear hK K
          try simp only [Act.put, List.setIfInBounds_toArray, List.set_cons_zero, List.set_cons_succ]
          refine takeB (i := 11) (v := .int .i64 xx) (d := some 17) rfl rfl (by kernel_rfl) (by kernel_rfl) (by kernel_rfl) (fun _ _ _ h => h) (Or.inl ⟨by rfl, fun w' hw => ?_⟩) hS ?_
          · clear hw; go_simp
          try simp only [Act.put, List.setIfInBounds_toArray, List.set_cons_zero, List.set_cons_succ]
          refine takeB (i := 12) (v := .int .i64 yy) (d := some 18) rfl rfl (by kernel_rfl) (by kernel_rfl) (by kernel_rfl) (fun _ _ _ h => h) (Or.inl ⟨by rfl, fun w' hw => ?_⟩) hS ?_
          · clear hw; go_simp
          try simp only [Act.put, List.setIfInBounds_toArray, List.set_cons_zero, List.set_cons_succ]
          refine wpAnyH_done (by kernel_rfl) ?_ _
          exact tail c dd B C xx yy r _ HF.out
      · intro c9 h B9 C9 x9 y9 rh V10 hf
        obtain ⟨hm, e1, e2⟩ := bdq_sb hf.m hf.q HQ.out
        subst e1
        subst e2
        have HH : Hid (h.Own B9 C9 V10) := hf.g
        have HS11 : Hid (Sb w V9 [(rh, h.cells), (rg, g.cells), (rx, x0.cells), (rd, d.cells), (w.heap.size + 1, o.cells), (w.heap.size, b0.cells)] [d, b0] V10) := hf.s
        have HHM : Hid (h.trim.m = d.trim.m) := hm
        have HTH : Hid (h.total ≤ 1000) := (by rw [trim_total hm]; exact sbq_total HQ.out)
        replace HGK : Hid ((g.mkd 1).Own B C V10) := HGK.out.later hf.s.be
        clear hf hm
        refine k1 _ _ ?_
        clear k1 K1
        have HRH : Hid (World.rangeAt _ rh 0 h.cells) := (HS11.out.r (rh, h.cells) (by simp)).1
        have HRDD : Hid (World.rangeAt _ rd 0 d.cells) := (HS11.out.r (rd, d.cells) (by simp)).1
        go_wp2_with (first
            | refine wpList_load_mid rfl 29 _ rfl (rh) 0 rfl h.cells _ HRH.out Tryd.underlying29 rfl (by kernel_rfl) ?_
            | refine wpList_load_mid rfl 29 _ rfl (rd) 0 rfl d.cells _ HRDD.out Tryd.underlying29 rfl (by kernel_rfl) ?_)
        refine (eqt_any h d _ HH.out.at (HS11.out.a d (by simp)) HHM.out (Nat.le_trans HTH.out (by omega))).mono ?_
        rintro e V11 ⟨rfl, hb⟩
        have HS12 : Hid (Sb w V9 [(rh, h.cells), (rg, g.cells), (rx, x0.cells), (rd, d.cells), (w.heap.size + 1, o.cells), (w.heap.size, b0.cells)] [d, b0] V11) := HS11.out.later hb
        replace HGK : Hid ((g.mkd 1).Own B C V11) := HGK.out.later hb
        clear hb HRH HRDD HS11 HH
        have HRG : Hid (World.rangeAt _ rg 0 g.cells) := (HS12.out.r (rg, g.cells) (by simp)).1
        go_wp2_with (first
            | refine wpList_load_mid rfl 29 _ rfl (rg) 0 rfl g.cells _ HRG.out Tryd.underlying29 rfl (by kernel_rfl) ?_)
        refine (Book.held_any g 1 _ HGK.out.at (Nat.le_trans HTG.out (by omega)) (by omega) (by omega)).mono ?_
        rintro e V12 ⟨rfl, hb⟩
        have HS13 : Hid (Sb w V9 [(rh, h.cells), (rg, g.cells), (rx, x0.cells), (rd, d.cells), (w.heap.size + 1, o.cells), (w.heap.size, b0.cells)] [d, b0] V12) := HS12.out.later hb
        clear hb HRG HS12
        have tg := HTG.out
        have nk : ¬ ((1 : Int) + g.total < 0) := (by omega)
        have nkb : decide ((1 : Int) + g.total < 0) = false := (by simpa using nk)
        clear tg
        go_wp2_with (fail)
        go_ret
        exact ⟨rfl, HS13.out.b⟩
end Go.Proofs.YtoaopapnpndklaaDoor.Dra

import Derived.Test.YtbeamigbcfkjjaaGreatDoorM30
import Derived.Test.YtbeamigbcfkjjaaGreatDoorM29

/- What a book says of a thing that has happened: the program's taleSays. -/
namespace Go.Proofs.YtbeamigbcfkjjaaGreatDoor.Dra
open Go.ChangeShapes Go.WideShapes Go.ChangeAt Go.RowKit
open Go.Proofs.YtbeamigbcfkjjaaGreatDoor.Aid Go.Proofs.YtbeamigbcfkjjaaGreatDoor.Lst Go.Proofs.YtbeamigbcfkjjaaGreatDoor.Book Go.Proofs.YtbeamigbcfkjjaaGreatDoor.Rin
set_option maxRecDepth 100000
set_option linter.unusedVariables false
set_option linter.unusedSimpArgs false
theorem res_one {P : Program} {fn : Func} {q u : Tmp} {ty : TypeId} (h : fn.results = #[.cell q ty, .tmp u]) (tmps : Array Value) (w : World) (b o : Nat) (cs : List Value) (d : TypeDesc)
    (hp : tmps.getD q undef = .pointer (some ⟨b, o, none⟩)) (hc : w.rangeAt b o cs) (hu : P.underlying ty = some d) (hd : d.isRow = true) (hi : (P.info? ty).map (·.size) = some cs.length) :
    (results fn tmps).run P w = .ok (.tuple #[.agg cs.toArray, tmps.getD u undef]) w := by
  have hp' : tmps[q]?.getD undef = .pointer (some ⟨b, o, none⟩) := by simpa using hp
  simp [results, h, hp', asAddr, run_loadVar_mid w b o ty cs d hc hu hd hi]
theorem own_mono {b : Bx} {A B C D : Nat} {w : World} (h : b.Own B C w) (hA : A ≤ B) (hD : C ≤ D) : b.Own A D w := ⟨fun x hx => by
  rcases h.each x hx with q | ⟨k, e, g1, g2, g3⟩
  · exact .inl q
  · exact .inr ⟨k, e, by omega, by omega, g3⟩, h.apart, h.caps⟩
structure Tq (b : Bx) (i : Ti.Tx) (w w1 : World) : Prop where
  b : w1.rangeAt w.heap.size 0 b.cells
  i : w1.rangeAt (w.heap.size + 1) 0 i.cells
  t : Ck w1 (w.heap.size + 2) z9
  l : Below w.heap.size w w1
  z : w.heap.size + 3 ≤ w1.heap.size
theorem Tq.start (b : Bx) (i : Ti.Tx) (w : World) (t t' : TypeId) : Tq b i w (((w.alloc (.cells b.cells.toArray t)).alloc (.cells i.cells.toArray t')).alloc (.cells z9.toArray t)) := by
  refine ⟨?_, ?_, ?_, below3 w _ _ _, by simp⟩
  · have := (ck_lit b.cells.toArray (heap3_0 w (.cells b.cells.toArray t) (.cells i.cells.toArray t') (.cells z9.toArray t))).range; simpa using this
  · have := (ck_lit i.cells.toArray (heap3_1 w (.cells b.cells.toArray t) (.cells i.cells.toArray t') (.cells z9.toArray t))).range; simpa using this
  · exact ck_lit z9.toArray (heap3_2 w (.cells b.cells.toArray t) (.cells i.cells.toArray t') (.cells z9.toArray t))
theorem Tq.later {b : Bx} {i : Ti.Tx} {w w1 w2 : World} {B : Nat} (h : Tq b i w w1) (hb : Below B w1 w2) (hB : w.heap.size + 3 ≤ B) : Tq b i w w2 :=
  ⟨fun j v hv => by rw [hb.cell (p := _) (by show w.heap.size < B; omega)]; exact h.b j v hv, fun j v hv => by rw [hb.cell (p := _) (by show w.heap.size + 1 < B; omega)]; exact h.i j v hv, h.t.below hb (by omega), h.l.trans (hb.mono (by omega)), Nat.le_trans h.z hb.size⟩
theorem Tq.cell {b : Bx} {i : Ti.Tx} {w w1 : World} (h : Tq b i w w1) (j : Nat) {v : Value} (hv : i.cells[j]? = some v) : w1.cell? ⟨w.heap.size + 1, j, none⟩ = some v := by
  have := h.i j v hv
  rwa [Nat.zero_add] at this
theorem Tq.op {b : Bx} {i : Ti.Tx} {w w1 : World} (h : Tq b i w w1) : w1.rangeAt (w.heap.size + 1) 2 (opOf i).cells := fun j v hv => by
  rcases j with _ | _ | _ | _ | j
  · exact h.cell 2 hv
  · exact h.cell 3 hv
  · exact h.cell 4 hv
  · exact h.cell 5 hv
  · simp [opOf, Ox.cells] at hv
/- A book and a bool are answered. -/
def SayA (P : Bx → Bool → Prop) (w : World) (e : Ending) (w' : World) : Prop := ∃ (c : Bx) (r : Bool), e = .returned (.tuple #[.agg c.cells.toArray, .bool r]) ∧ P c r ∧ c.Own w.heap.size w'.heap.size w' ∧ Below w.heap.size w w'
theorem SayA.mk {P : Bx → Bool → Prop} {w : World} {e : Ending} {w' : World} (c : Bx) (r : Bool) (he : e = .returned (.tuple #[.agg c.cells.toArray, .bool r])) (hp : P c r) (ho : c.Own w.heap.size w'.heap.size w') (hb : Below w.heap.size w w') : SayA P w e w' := ⟨c, r, he, hp, ho, hb⟩
structure Tz (b : Bx) (i : Ti.Tx) (c : Bx) (r : Nat) (w w1 : World) : Prop where
  b : w1.rangeAt w.heap.size 0 b.cells
  i : w1.rangeAt (w.heap.size + 1) 0 i.cells
  r : w1.rangeAt r 0 c.cells
theorem Tz.cell {b : Bx} {i : Ti.Tx} {c : Bx} {r : Nat} {w w1 : World} (h : Tz b i c r w w1) (j : Nat) {v : Value} (hv : i.cells[j]? = some v) : w1.cell? ⟨w.heap.size + 1, j, none⟩ = some v := by
  have := h.i j v hv
  rwa [Nat.zero_add] at this
theorem bookdo_t {a : Nat → Addr} (b : Bx) (o : Ox) (w : World) (h : b.At w) (hn : b.total ≤ 1000000000) (hcap : b.o.n ≤ b.o.c) (he : Ea a w) :
    Calls Tryz.prog 45 #[.agg b.cells.toArray, .agg o.cells.toArray] w fun e w' => ∃ c x y, e = .returned (.tuple #[.agg c.cells.toArray, .int .i64 x, .int .i64 y]) ∧ BdQ b.trim o c x y ∧ c.Own w.heap.size w'.heap.size w' ∧ Below w.heap.size w w' := bookdo_any b.trim o w (trim_at h) hn (at_nil (trim_at h)) hcap he
theorem cut_t (b : Bx) (t : Int) (w : World) (h : b.At w) (hn : b.total ≤ 1000000000) (hcap : b.o.n ≤ b.o.c) :
    Calls Tryz.prog 44 #[.agg b.cells.toArray, .int .i64 t] w fun e w' => ∃ c : Bx, e = .returned (.agg c.cells.toArray) ∧ CutQ b.trim t c.m ∧ c.Own w.heap.size w'.heap.size w' ∧ Below w.heap.size w w' := cut_any b.trim t w (trim_at h) hn hcap

set_option maxHeartbeats 16000000 in
theorem says_any {a : Nat → Addr} (b : Bx) (i : Ti.Tx) (w : World) (h : b.At w) (hn : b.total ≤ 1000000000) (hcap : b.o.n ≤ b.o.c) (he : Ea a w) :
    Calls Tryz.prog 26 #[.agg b.cells.toArray, .agg i.cells.toArray] w fun e w' => SayA (StpP b i) w e w' := by
  have S := Tq.start b i w 29 47
  have HS0 : Hid (Tq b i w _) := S
  have HR0 : Hid (World.rangeAt _ w.heap.size 0 b.cells) := S.b
  have HRO : Hid (World.rangeAt _ (w.heap.size + 1) 2 (opOf i).cells) := S.op
  have HA : Hid (b.At w) := h
  have HEa : Hid (Ea a w) := he
  have k0 := S.cell 0 rfl
  have k3 := S.cell 3 rfl
  clear S h he
  simp only [Bx.cells, Ti.Tx.cells, z9] at HS0 HR0 HRO k0 k3 ⊢
  go_enter Tryz.func26, Tryz.ntmps26
  go_wp2_with (with_reducible refine Gs.halt_at (.load 4 (.tmp 9)) rfl ?_)
  unfold Hid
  generalize World.alloc (World.alloc (World.alloc w _) _) _ = W0 at HS0 HR0 HRO k0 k3 ⊢
  cases hc : i.cut
  · rw [hc] at k0
    go_wp2_with (first
      | refine wpList_load_mid rfl 29 _ rfl w.heap.size 0 rfl b.cells _ HR0.out Tryz.underlying29 rfl (by kernel_rfl) ?_
      | refine wpList_load_mid rfl 45 _ rfl (w.heap.size + 1) 2 rfl (opOf i).cells _ HRO.out Tryz.underlying45 rfl (by kernel_rfl) ?_)
    refine (bookdo_t b (opOf i) _ (HA.out.later HS0.out.l) hn hcap (HEa.out.later HS0.out.l)).mono ?_
    rintro e W1 ⟨c, x, y, rfl, hq, co, hb⟩
    have HS1 : Hid (Tq b i w W1) := HS0.out.later hb HS0.out.z
    have HQ : Hid (BdQ b.trim (opOf i) c x y) := hq
    have HO1 : Hid (c.Own (w.heap.size + 3) W1.heap.size W1) := own_mono co HS0.out.z (Nat.le_refl _)
    clear hb hq co HR0 HRO k0 k3 HS0
    have hbx := below1 W1 (.cells (z9 : List Value).toArray 29)
    have hz := ck_lit (z9 : List Value).toArray (heap1_0 W1 (.cells (z9 : List Value).toArray 29))
    have HTH : Hid ((W1.alloc (.cells #[.int .i64 0, .slice none 0 0, .slice none 0 0, .slice none 0 0, .slice none 0 0, .slice none 0 0, .slice none 0 0, .slice none 0 0, .slice none 0 0] 29)).there W1.heap.size 0 c.cells.toArray.toList.length) := there9 hz
    have hbV : Below W1.heap.size W1 ((W1.alloc (.cells #[.int .i64 0, .slice none 0 0, .slice none 0 0, .slice none 0 0, .slice none 0 0, .slice none 0 0, .slice none 0 0, .slice none 0 0, .slice none 0 0] 29)).setCells W1.heap.size 0 c.cells.toArray.toList) := below_setCells hbx (Nat.le_refl _) _ _
    have hrow := World.rangeAt_setCells_same _ _ _ _ HTH.out
    have HBV : Hid (Below W1.heap.size W1 _) := hbV
    have HRW : Hid (World.rangeAt _ W1.heap.size 0 c.cells) := hrow
    clear hbx hz hbV hrow
    go_wp2_with (refine wpList_store_mid rfl 29 _ _ rfl W1.heap.size 0 c.cells.toArray rfl rfl HTH.out (by kernel_rfl) (cells_one _) ?_)
    clear HTH
    obtain ⟨r, er⟩ : ∃ r, r = W1.heap.size := ⟨_, rfl⟩
    generalize World.setCells _ _ _ _ = V at HBV HRW ⊢
    rw [← er] at HRW ⊢
    have HS2 : Hid (Tq b i w V) := HS1.out.later HBV.out HS1.out.z
    have HO2 : Hid (c.Own (w.heap.size + 3) V.heap.size V) := own_mono (HO1.out.later HBV.out) (Nat.le_refl _) HBV.out.size
    have HZR : Hid (w.heap.size + 3 ≤ r) := (by have := HS1.out.z; show w.heap.size + 3 ≤ r; omega)
    have HTT : Hid (V.drew.there (w.heap.size + 2) 0 c.cells.toArray.toList.length) := there9 HS2.out.t
    have HT0 : Hid (Tz b i c r w V.drew) := ⟨HS2.out.b, HS2.out.i, HRW.out⟩
    have HTV : Hid (Tz b i c r w (V.drew.setCells (w.heap.size + 2) 0 c.cells.toArray.toList)) := ⟨World.rangeAt_setCells_apart HT0.out.b _ _ _ (.inl (by omega)), World.rangeAt_setCells_apart HT0.out.i _ _ _ (.inl (by omega)), World.rangeAt_setCells_apart HT0.out.r _ _ _ (.inl (by have := HZR.out; omega))⟩
    have HOY : Hid (Only (w.heap.size + 2) (w.heap.size + 2 + 1) V.drew (V.drew.setCells (w.heap.size + 2) 0 c.cells.toArray.toList)) := only_setCells (Nat.le_refl _) (by omega) _ _ _ (Only.refl _ _ _)
    have HO3 : Hid (c.Own (w.heap.size + 3) V.heap.size V.drew) := HO2.out.later ⟨rfl, rfl, rfl, Nat.le_refl _, fun _ _ => rfl⟩
    have HBL : Hid (Below w.heap.size w V.drew) := HS2.out.l.trans ⟨rfl, rfl, rfl, Nat.le_refl _, fun _ _ => rfl⟩
    have HOF : Hid (c.Own w.heap.size (V.drew.setCells (w.heap.size + 2) 0 c.cells.toArray.toList).heap.size (V.drew.setCells (w.heap.size + 2) 0 c.cells.toArray.toList)) := own_mono (HO3.out.only HOY.out (.inr (Nat.le_refl _))) (Nat.le_add_right _ _) HOY.out.size
    have HBF : Hid (Below w.heap.size w (V.drew.setCells (w.heap.size + 2) 0 c.cells.toArray.toList)) := below_setCells HBL.out (Nat.le_add_right _ _) _ _
    clear HRW HBV HS1 HO1 er hn hcap HO2 HO3 HBL
    by_cases hx : x = i.code
    · have hxb : (x == i.code) = true := by simpa using hx
      refine wp_region_held_drew (S := Tz b i c r w) (by kernel_rfl) HT0.out (fun hS => ?_)
      refine takeB (i := 0) (v := .agg c.cells.toArray) (d := some 24) rfl rfl (by kernel_rfl) (by kernel_rfl) (by kernel_rfl) (fun _ _ _ h => h) (yieldsIf_load_mid (by rfl) 29 _ rfl r 0 rfl c.cells _ (fun w' hw => hw.r) Tryz.underlying29 rfl (by kernel_rfl)) hS ?_
      try simp only [Act.put, List.setIfInBounds_toArray, List.set_cons_zero, List.set_cons_succ]
      refine takeB (i := 1) (v := .int .i64 x) (d := some 25) rfl rfl (by kernel_rfl) (by kernel_rfl) (by kernel_rfl) (fun _ _ _ h => h) (Or.inl ⟨by rfl, fun w' hw => ?_⟩) hS ?_
      · clear hw; go_simp
      try simp only [Act.put, List.setIfInBounds_toArray, List.set_cons_zero, List.set_cons_succ]
      refine takeB (i := 2) (v := .pointer (some ⟨w.heap.size + 1, 6, none⟩)) (d := some 26) rfl rfl (by kernel_rfl) (by kernel_rfl) (by kernel_rfl) (fun _ _ _ h => h) (Or.inl ⟨by rfl, fun w' hw => ?_⟩) hS ?_
      · clear hw; go_simp
      try simp only [Act.put, List.setIfInBounds_toArray, List.set_cons_zero, List.set_cons_succ]
      refine takeB (i := 3) (v := .int .i64 i.code) (d := some 27) rfl rfl (by kernel_rfl) (by kernel_rfl) (by kernel_rfl) (fun _ _ _ h => h) (Or.inl ⟨by rfl, fun w' hw => ?_⟩) hS ?_
      · have q := hw.cell 6 (v := .int .i64 i.code) rfl; clear hw; go_simp
      try simp only [Act.put, List.setIfInBounds_toArray, List.set_cons_zero, List.set_cons_succ]
      refine takeB (i := 4) (v := .bool true) (d := some 28) rfl rfl (by kernel_rfl) (by kernel_rfl) (by kernel_rfl) (fun _ _ _ h => h) (Or.inl ⟨by rfl, fun w' hw => ?_⟩) hS ?_
      · clear hw; go_simp
      try simp only [Act.put, List.setIfInBounds_toArray, List.set_cons_zero, List.set_cons_succ]
      refine takeB (i := 5) (v := .bool true) (d := some 29) rfl rfl (by kernel_rfl) (by kernel_rfl) (by kernel_rfl) (fun _ _ _ h => h) (Or.inl ⟨by rfl, fun w' hw => ?_⟩) hS ?_
      · clear hw; go_simp
      try simp only [Act.put, List.setIfInBounds_toArray, List.set_cons_zero, List.set_cons_succ]
      refine takeB (i := 6) (v := .int .i64 y) (d := some 30) rfl rfl (by kernel_rfl) (by kernel_rfl) (by kernel_rfl) (fun _ _ _ h => h) (Or.inl ⟨by rfl, fun w' hw => ?_⟩) hS ?_
      · clear hw; go_simp
      try simp only [Act.put, List.setIfInBounds_toArray, List.set_cons_zero, List.set_cons_succ]
      refine takeB (i := 7) (v := .pointer (some ⟨w.heap.size + 1, 7, none⟩)) (d := some 31) rfl rfl (by kernel_rfl) (by kernel_rfl) (by kernel_rfl) (fun _ _ _ h => h) (Or.inl ⟨by rfl, fun w' hw => ?_⟩) hS ?_
      · clear hw; go_simp
      try simp only [Act.put, List.setIfInBounds_toArray, List.set_cons_zero, List.set_cons_succ]
      refine takeB (i := 8) (v := .int .i64 i.val) (d := some 32) rfl rfl (by kernel_rfl) (by kernel_rfl) (by kernel_rfl) (fun _ _ _ h => h) (Or.inl ⟨by rfl, fun w' hw => ?_⟩) hS ?_
      · have q := hw.cell 7 (v := .int .i64 i.val) rfl; clear hw; go_simp
      try simp only [Act.put, List.setIfInBounds_toArray, List.set_cons_zero, List.set_cons_succ]
      refine takeB (i := 9) (v := .bool (y == i.val)) (d := some 33) rfl rfl (by kernel_rfl) (by kernel_rfl) (by kernel_rfl) (fun _ _ _ h => h) (Or.inl ⟨by rfl, fun w' hw => ?_⟩) hS ?_
      · clear hw; go_simp
      try simp only [Act.put, List.setIfInBounds_toArray, List.set_cons_zero, List.set_cons_succ]
      refine takeB (i := 10) (v := .bool (y == i.val)) (d := some 34) rfl rfl (by kernel_rfl) (by kernel_rfl) (by kernel_rfl) (fun _ _ _ h => h) (Or.inl ⟨by rfl, fun w' hw => ?_⟩) hS ?_
      · clear hw; go_simp
      try simp only [Act.put, List.setIfInBounds_toArray, List.set_cons_zero, List.set_cons_succ]
      refine wpAnyH_ready (rs := [11]) (by kernel_rfl) (by simp) ?_
      refine AllReadyH.cons rfl (fun K hK => ?_) AllReadyH.nil
      clear hS
      refine wp_store_mid 29 _ _ rfl (w.heap.size + 2) 0 c.cells.toArray rfl rfl HTT.out (by kernel_rfl) (cells_one _) ?_
      refine hK.out _ _ HTV.out (fun hS => ?_)
      clear hK K
      try simp only [Act.put, List.setIfInBounds_toArray, List.set_cons_zero, List.set_cons_succ]
      refine takeB (i := 12) (v := .bool (y == i.val)) (d := some 5) rfl rfl (by kernel_rfl) (by kernel_rfl) (by kernel_rfl) (fun _ _ _ h => h) (Or.inl ⟨by rfl, fun w' hw => ?_⟩) hS ?_
      · clear hw; go_simp
      try simp only [Act.put, List.setIfInBounds_toArray, List.set_cons_zero, List.set_cons_succ]
      refine wpAnyH_done (by kernel_rfl) ?_ _
      clear hS
      go_wp2_with (fail)
      refine bodyPost_ret (res_one rfl _ _ (w.heap.size + 2) 0 _ _ rfl (World.rangeAt_setCells_same _ _ _ _ HTT.out) Tryz.underlying29 rfl (by kernel_rfl)) rfl ?_
      exact SayA.mk c ((y == i.val)) rfl (.inr ⟨hc, x, y, HQ.out, by by_cases hy : y = i.val <;> simp [hx, hy]⟩) HOF.out HBF.out
    · have hxb : (x == i.code) = false := by simpa using hx
      refine wp_region_held_drew (S := Tz b i c r w) (by kernel_rfl) HT0.out (fun hS => ?_)
      refine takeB (i := 0) (v := .agg c.cells.toArray) (d := some 24) rfl rfl (by kernel_rfl) (by kernel_rfl) (by kernel_rfl) (fun _ _ _ h => h) (yieldsIf_load_mid (by rfl) 29 _ rfl r 0 rfl c.cells _ (fun w' hw => hw.r) Tryz.underlying29 rfl (by kernel_rfl)) hS ?_
      try simp only [Act.put, List.setIfInBounds_toArray, List.set_cons_zero, List.set_cons_succ]
      refine takeB (i := 1) (v := .int .i64 x) (d := some 25) rfl rfl (by kernel_rfl) (by kernel_rfl) (by kernel_rfl) (fun _ _ _ h => h) (Or.inl ⟨by rfl, fun w' hw => ?_⟩) hS ?_
      · clear hw; go_simp
      try simp only [Act.put, List.setIfInBounds_toArray, List.set_cons_zero, List.set_cons_succ]
      refine takeB (i := 2) (v := .pointer (some ⟨w.heap.size + 1, 6, none⟩)) (d := some 26) rfl rfl (by kernel_rfl) (by kernel_rfl) (by kernel_rfl) (fun _ _ _ h => h) (Or.inl ⟨by rfl, fun w' hw => ?_⟩) hS ?_
      · clear hw; go_simp
      try simp only [Act.put, List.setIfInBounds_toArray, List.set_cons_zero, List.set_cons_succ]
      refine takeB (i := 3) (v := .int .i64 i.code) (d := some 27) rfl rfl (by kernel_rfl) (by kernel_rfl) (by kernel_rfl) (fun _ _ _ h => h) (Or.inl ⟨by rfl, fun w' hw => ?_⟩) hS ?_
      · have q := hw.cell 6 (v := .int .i64 i.code) rfl; clear hw; go_simp
      try simp only [Act.put, List.setIfInBounds_toArray, List.set_cons_zero, List.set_cons_succ]
      refine takeB (i := 4) (v := .bool false) (d := some 28) rfl rfl (by kernel_rfl) (by kernel_rfl) (by kernel_rfl) (fun _ _ _ h => h) (Or.inl ⟨by rfl, fun w' hw => ?_⟩) hS ?_
      · clear hw; go_simp
      try simp only [Act.put, List.setIfInBounds_toArray, List.set_cons_zero, List.set_cons_succ]
      refine takeB (i := 5) (v := .bool false) (d := some 29) rfl rfl (by kernel_rfl) (by kernel_rfl) (by kernel_rfl) (fun _ _ _ h => h) (Or.inl ⟨by rfl, fun w' hw => ?_⟩) hS ?_
      · clear hw; go_simp
      try simp only [Act.put, List.setIfInBounds_toArray, List.set_cons_zero, List.set_cons_succ]
      refine takeB (i := 6) (v := undef) (d := some 30) rfl rfl (by kernel_rfl) (by kernel_rfl) (by kernel_rfl) (fun _ _ _ h => h) (Or.inr ⟨by rfl, rfl⟩) hS ?_
      try simp only [Act.put, List.setIfInBounds_toArray, List.set_cons_zero, List.set_cons_succ]
      refine takeB (i := 7) (v := undef) (d := some 31) rfl rfl (by kernel_rfl) (by kernel_rfl) (by kernel_rfl) (fun _ _ _ h => h) (Or.inr ⟨by rfl, rfl⟩) hS ?_
      try simp only [Act.put, List.setIfInBounds_toArray, List.set_cons_zero, List.set_cons_succ]
      refine takeB (i := 8) (v := undef) (d := some 32) rfl rfl (by kernel_rfl) (by kernel_rfl) (by kernel_rfl) (fun _ _ _ h => h) (Or.inr ⟨by rfl, rfl⟩) hS ?_
      try simp only [Act.put, List.setIfInBounds_toArray, List.set_cons_zero, List.set_cons_succ]
      refine takeB (i := 9) (v := undef) (d := some 33) rfl rfl (by kernel_rfl) (by kernel_rfl) (by kernel_rfl) (fun _ _ _ h => h) (Or.inr ⟨by rfl, rfl⟩) hS ?_
      try simp only [Act.put, List.setIfInBounds_toArray, List.set_cons_zero, List.set_cons_succ]
      refine takeB (i := 10) (v := .bool false) (d := some 34) rfl rfl (by kernel_rfl) (by kernel_rfl) (by kernel_rfl) (fun _ _ _ h => h) (Or.inl ⟨by rfl, fun w' hw => ?_⟩) hS ?_
      · clear hw; go_simp
      try simp only [Act.put, List.setIfInBounds_toArray, List.set_cons_zero, List.set_cons_succ]
      refine wpAnyH_ready (rs := [11]) (by kernel_rfl) (by simp) ?_
      refine AllReadyH.cons rfl (fun K hK => ?_) AllReadyH.nil
      clear hS
      refine wp_store_mid 29 _ _ rfl (w.heap.size + 2) 0 c.cells.toArray rfl rfl HTT.out (by kernel_rfl) (cells_one _) ?_
      refine hK.out _ _ HTV.out (fun hS => ?_)
      clear hK K
      try simp only [Act.put, List.setIfInBounds_toArray, List.set_cons_zero, List.set_cons_succ]
      refine takeB (i := 12) (v := .bool false) (d := some 5) rfl rfl (by kernel_rfl) (by kernel_rfl) (by kernel_rfl) (fun _ _ _ h => h) (Or.inl ⟨by rfl, fun w' hw => ?_⟩) hS ?_
      · clear hw; go_simp
      try simp only [Act.put, List.setIfInBounds_toArray, List.set_cons_zero, List.set_cons_succ]
      refine wpAnyH_done (by kernel_rfl) ?_ _
      clear hS
      go_wp2_with (fail)
      refine bodyPost_ret (res_one rfl _ _ (w.heap.size + 2) 0 _ _ rfl (World.rangeAt_setCells_same _ _ _ _ HTT.out) Tryz.underlying29 rfl (by kernel_rfl)) rfl ?_
      exact SayA.mk c (false) rfl (.inr ⟨hc, x, y, HQ.out, by simp [hx]⟩) HOF.out HBF.out
  · rw [hc] at k0
    go_wp2_with (refine wpList_load_mid rfl 29 _ rfl w.heap.size 0 rfl b.cells _ HR0.out Tryz.underlying29 rfl (by kernel_rfl) ?_)
    refine (cut_t b i.os _ (HA.out.later HS0.out.l) hn hcap).mono ?_
    rintro e W1 ⟨c, rfl, hq, co, hb⟩
    have HS1 : Hid (Tq b i w W1) := HS0.out.later hb HS0.out.z
    have HQ : Hid (CutQ b.trim i.os c.m) := hq
    have HO1 : Hid (c.Own (w.heap.size + 3) W1.heap.size W1) := own_mono co HS0.out.z (Nat.le_refl _)
    clear hb hq co HR0 HRO k0 k3 HS0
    have HTT : Hid (W1.there (w.heap.size + 2) 0 c.cells.toArray.toList.length) := there9 HS1.out.t
    have HOY : Hid (Only (w.heap.size + 2) (w.heap.size + 2 + 1) W1 (W1.setCells (w.heap.size + 2) 0 c.cells.toArray.toList)) := only_setCells (Nat.le_refl _) (by omega) _ _ _ (Only.refl _ _ _)
    go_wp2_with (refine wpList_store_mid rfl 29 _ _ rfl (w.heap.size + 2) 0 c.cells.toArray rfl rfl HTT.out (by kernel_rfl) (cells_one _) ?_)
    refine bodyPost_ret (res_one rfl _ _ (w.heap.size + 2) 0 _ _ rfl (World.rangeAt_setCells_same _ _ _ _ HTT.out) Tryz.underlying29 rfl (by kernel_rfl)) rfl ?_
    exact SayA.mk c true rfl (.inl ⟨hc, HQ.out, rfl⟩) (own_mono (HO1.out.only HOY.out (.inr (Nat.le_refl _))) (by omega) HOY.out.size) (below_setCells HS1.out.l (by omega) _ _)
end Go.Proofs.YtbeamigbcfkjjaaGreatDoor.Dra

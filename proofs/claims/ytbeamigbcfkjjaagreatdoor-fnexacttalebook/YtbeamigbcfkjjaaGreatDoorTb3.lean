import Derived.Test.YtbeamigbcfkjjaaGreatDoorM31

/- The specification's TaleBook: a loop over what has happened. -/
namespace Go.Proofs.YtbeamigbcfkjjaaGreatDoor.Dra
open Go.ChangeShapes Go.WideShapes Go.ChangeAt Go.RowKit
open Go.Proofs.YtbeamigbcfkjjaaGreatDoor.Aid Go.Proofs.YtbeamigbcfkjjaaGreatDoor.Lst Go.Proofs.YtbeamigbcfkjjaaGreatDoor.Book Go.Proofs.YtbeamigbcfkjjaaGreatDoor.Rin
set_option maxRecDepth 100000
set_option linter.unusedVariables false
open Go.Proofs.YtbeamigbcfkjjaaGreatDoor.Gs (halt_at)
set_option linter.unusedSimpArgs false
theorem hl_only {b : Bx} {B k : Nat} {w w1 : World} (h : b.Hl B w) (ho : Only k (k + 1) w w1) (hk : k < B) : b.Hl B w1 := ⟨fun x hx => by
  obtain ⟨h1, h3 | ⟨k', o, e, g1, g2, g3, g4⟩⟩ := h.each x hx
  · exact ⟨h1, .inl h3⟩
  · exact ⟨h1, .inr ⟨k', o, e, g1, Nat.lt_of_lt_of_le g2 ho.size, g3.only ho g2 (by omega), fun j hj => by rw [ho.cell (k := k') g2 (.inr (by omega))]; exact g4 j hj⟩⟩, h.apart⟩
theorem scut_t (b : Bx) (t : Int) (w : World) (h : b.At w) (hn : b.total ≤ 1000000000) (hok : OkP b) :
    Calls Tryz.prog 19 #[.agg b.cells.toArray, .int .i64 t] w fun e w' => ∃ c : Bx, e = .returned (.agg c.cells.toArray) ∧ CutQ b.trim t c.m ∧ c.Hl w.heap.size w' ∧ Below w.heap.size w w' := Book.scut_hl b.trim t w (trim_at h) hn (trim_wf hok)
theorem do_t (b : Bx) (B : Nat) (o : Ox) (w : World) (h : b.Hl B w) (hB : B ≤ w.heap.size) (hok : OkP b) :
    Calls Tryz.prog 20 #[.agg b.cells.toArray, .agg o.cells.toArray] w fun e w' => ∃ d x y, e = .returned (.tuple #[.agg d.cells.toArray, .int .i64 x, .int .i64 y]) ∧ DoP b.trim o d x y ∧ d.Hl B w' ∧ Below B w w' :=
  (Book.do_any b.trim B o w h.trim hB (ok_trim hok)).mono (by
    rintro e w' ⟨d, x, y, rfl, hp, hl, hf, -⟩
    exact ⟨d, x, y, rfl, hp, hl, ⟨hf.os, hf.tape, hf.output, hf.size, fun i hi => hf.block i (Nat.lt_of_lt_of_le hi hB) (fun q => by have := h.trim.new i q; omega)⟩⟩)
structure Vq (c : Bx) (w W : World) : Prop where
  b : Ck W w.heap.size c.cells
  t : Ck W (w.heap.size + 1) z9
  l : Below w.heap.size w W
  z : w.heap.size + 2 ≤ W.heap.size
theorem Vq.start (b : Bx) (w : World) (t : TypeId) : Vq b w ((w.alloc (.cells b.cells.toArray t)).alloc (.cells z9.toArray t)) := by
  refine ⟨?_, ck_lit z9.toArray (heap2_1 w (.cells b.cells.toArray t) (.cells z9.toArray t)), below2 w _ _, by simp⟩
  have := ck_lit b.cells.toArray (heap2_0 w (.cells b.cells.toArray t) (.cells z9.toArray t))
  simpa using this
theorem Vq.later {c : Bx} {w W W1 : World} {B : Nat} (h : Vq c w W) (hb : Below B W W1) (hB : w.heap.size + 2 ≤ B) : Vq c w W1 :=
  ⟨h.b.below hb (by omega), h.t.below hb (by omega), h.l.trans (hb.mono (by omega)), Nat.le_trans h.z hb.size⟩
theorem Vq.set {c : Bx} {w W : World} (h : Vq c w W) (d : Bx) : Vq d w (W.setCells w.heap.size 0 d.cells.toArray.toList) ∧ Only w.heap.size (w.heap.size + 1) W (W.setCells w.heap.size 0 d.cells.toArray.toList) := by
  obtain ⟨s1, s2, s3⟩ := set_book h.b d
  refine ⟨⟨s2, ?_, below_setCells h.l (Nat.le_refl _) _ _, Nat.le_trans h.z s3.size⟩, s3⟩
  intro j v hv
  have k1 := h.t j v hv
  have lt : w.heap.size + 1 < W.heap.size := by have := h.z; omega
  rw [s3.cell (k := w.heap.size + 1) lt (.inr (by omega)), s3.frozen (k := w.heap.size + 1) lt (.inr (by omega))]
  exact k1
/- A book and a bool are answered, the book's room one's own. -/
def HayA (P : Bx → Bool → Prop) (w : World) (e : Ending) (w' : World) : Prop := ∃ (c : Bx) (r : Bool), e = .returned (.tuple #[.agg c.cells.toArray, .bool r]) ∧ P c r ∧ c.Hl w.heap.size w' ∧ Below w.heap.size w w'
theorem HayA.mk {P : Bx → Bool → Prop} {w : World} {e : Ending} {w' : World} (c : Bx) (r : Bool) (he : e = .returned (.tuple #[.agg c.cells.toArray, .bool r])) (hp : P c r) (ho : c.Hl w.heap.size w') (hb : Below w.heap.size w w') : HayA P w e w' := ⟨c, r, he, hp, ho, hb⟩
theorem runs_ok {g : Nat → Ti.Tx} {b : Bx} (hb : OkP b) : ∀ {n : Nat} {c : Bx} {r : Bool}, RunS g b n c r → OkP c := by
  intro n
  induction n with
  | zero =>
    intro c r h
    cases h with
    | zero c k => exact (ok_m k).2 hb
  | succ n ih =>
    intro c r h
    cases h with
    | step p s =>
      have q := ok_trim (ih p)
      rcases s with ⟨_, k, _⟩ | ⟨_, x, y, k, _⟩
      · rcases k with ⟨_, k⟩ | ⟨k, _⟩
        · exact cut_ok q k
        · exact absurd q k
      · exact Book.do_ok q k
/- What a round reads of an item. -/
def Sd (l p : Nat) (i : Ti.Tx) (w : World) : Prop := w.rangeAt l p i.cells
theorem Sd.os {l p : Nat} {i : Ti.Tx} {w : World} (h : Sd l p i w) : w.cell? ⟨l, p + 2 + 1, none⟩ = some (.int .i64 i.os) := h 3 _ rfl
theorem Sd.code {l p : Nat} {i : Ti.Tx} {w : World} (h : Sd l p i w) : w.cell? ⟨l, p + 6, none⟩ = some (.int .i64 i.code) := h 6 _ rfl
theorem Sd.val {l p : Nat} {i : Ti.Tx} {w : World} (h : Sd l p i w) : w.cell? ⟨l, p + 7, none⟩ = some (.int .i64 i.val) := h 7 _ rfl
theorem Sd.op {l p : Nat} {i : Ti.Tx} {w : World} (h : Sd l p i w) : w.rangeAt l (p + 2) (opOf i).cells := fun j v hv => by
  rcases j with _ | _ | _ | _ | j
  · exact h 2 _ hv
  · exact h 3 _ hv
  · exact h 4 _ hv
  · exact h 5 _ hv
  · simp [opOf, Ox.cells] at hv
theorem Sd.later {l p : Nat} {i : Ti.Tx} {w w1 : World} {B : Nat} (h : Sd l p i w) (hb : Below B w w1) (hl : l < B) : Sd l p i w1 := range_below hb h hl

set_option maxHeartbeats 16000000 in
theorem stbook_any (b : Bx) (la : Option Addr) (n cc : Nat) (g : Nat → Ti.Tx) (w : World) (h : b.At w) (hn : b.total ≤ 1000000000) (hnil : ∀ x ∈ b.lists, x.a = none → x.n = 0) (hwf : b.Wf) (hl : Ti.RowT w la n g) :
    Calls Tryz.prog 6 #[.agg b.cells.toArray, .slice la n cc] w fun e w' => HayA (TbS b n g) w e w' := by
  have S := Vq.start b w 29
  have HS0 : Hid (Vq b w _) := S
  have HR0 : Hid (World.rangeAt _ w.heap.size 0 b.cells) := S.b.range
  have HA : Hid (b.At w) := h
  have HL : Hid (Ti.RowT w la n g) := hl
  clear S h hl
  simp only [Bx.cells, z9] at HS0 HR0 ⊢
  go_enter Tryz.func6, Tryz.ntmps6
  go_wp2_with (refine wpList_load_mid rfl 29 _ rfl (w.heap.size) 0 rfl b.cells _ HR0.out Tryz.underlying29 rfl (by kernel_rfl) ?_)
  refine (sok_any b _ (HA.out.later HS0.out.l) hn hwf).mono ?_
  rintro e W1 ⟨⟨r, rfl, hr⟩, hb⟩
  have HS1 : Hid (Vq b w W1) := HS0.out.later hb HS0.out.z
  have HOK : Hid (Tell r (OkP b)) := hr
  have HT : Hid (W1.there (w.heap.size + 1) 0 9) := there9 HS1.out.t
  clear hb hr HR0 HS0
  have none_done : ∀ (_ : ¬ (OkP b ∧ n ≤ 2000)), HayA (TbS b n g) w (Ending.returned (.tuple #[.agg noneB.cells.toArray, .bool false])) (W1.setCells (w.heap.size + 1) 0 noneB.cells.toArray.toList) := fun hne => HayA.mk noneB false rfl (.inl ⟨hne, rfl, rfl⟩) (none_hl _ _) (below_setCells HS1.out.l (Nat.le_add_right _ _) _ _)
  have HND : Hid (∀ (_ : ¬ (OkP b ∧ n ≤ 2000)), HayA (TbS b n g) w _ _) := none_done
  clear none_done
  cases r
  · go_wp2_with (refine wpList_store_mid rfl 29 _ _ rfl (w.heap.size + 1) 0 noneB.cells.toArray rfl rfl HT.out (by kernel_rfl) (cells_one _) ?_)
    refine bodyPost_ret (res_one rfl _ _ (w.heap.size + 1) 0 _ _ rfl (World.rangeAt_setCells_same _ _ _ _ HT.out) Tryz.underlying29 rfl (by kernel_rfl)) rfl ?_
    exact HND.out (fun q => by have := HOK.out.2 q.1; cases this)
  have OK : Hid (OkP b) := HOK.out.1 rfl
  clear HOK
  by_cases h2 : 2000 < (n : Int)
  · go_wp2_with (refine wpList_store_mid rfl 29 _ _ rfl (w.heap.size + 1) 0 noneB.cells.toArray rfl rfl HT.out (by kernel_rfl) (cells_one _) ?_)
    refine bodyPost_ret (res_one rfl _ _ (w.heap.size + 1) 0 _ _ rfl (World.rangeAt_setCells_same _ _ _ _ HT.out) Tryz.underlying29 rfl (by kernel_rfl)) rfl ?_
    exact HND.out (fun q => by omega)
  clear HND HT
  have HR1 : Hid (World.rangeAt W1 w.heap.size 0 b.cells) := HS1.out.b.range
  go_wp2_with (refine wpList_load_mid rfl 29 _ rfl (w.heap.size) 0 rfl b.cells _ HR1.out Tryz.underlying29 rfl (by kernel_rfl) ?_)
  refine (scopy_cap b _ (HA.out.later HS1.out.l) hn hnil).mono ?_
  rintro e W2 ⟨c0, rfl, cm, co, hb, cc⟩
  have HS2 : Hid (Vq b w W2) := HS1.out.later hb HS1.out.z
  have HC0 : Hid (c0.m = b.m ∧ c0.Hl (w.heap.size + 2) W2) := ⟨cm, hl_mono (co.hl cc (Nat.le_refl _)) HS1.out.z⟩
  have HTH : Hid (W2.there w.heap.size 0 c0.cells.toArray.toList.length) := (set_book HS2.out.b c0).1
  have HS3 : Hid (Vq c0 w (W2.setCells w.heap.size 0 c0.cells.toArray.toList)) := (HS2.out.set c0).1
  have HH3 : Hid (c0.Hl (w.heap.size + 2) (W2.setCells w.heap.size 0 c0.cells.toArray.toList)) := hl_only HC0.out.2 (HS2.out.set c0).2 (by omega)
  have HM0 : Hid (c0.m = b.m) := HC0.out.1
  clear hb cm co cc HR1 HS1 HS2 HC0
  go_wp2_with (with_reducible refine halt_at (.store 29 (.tmp 2) (.tmp 20)) rfl ?_)
  unfold Hid
  refine wpList_store_mid rfl 29 _ _ rfl (w.heap.size) 0 c0.cells.toArray rfl rfl HTH.out (by kernel_rfl) (cells_one _) ?_
  clear HTH
  generalize World.setCells _ _ _ _ = V at HS3 HH3 ⊢
  go_wp2_with (fail)
  have HN2 : Hid (n ≤ 2000) := (by show n ≤ 2000; omega)
  clear h2 hn
  go_loopw [6, 7] (fun v i wr => ∃ (k : Nat) (c : Bx) (r : Bool), k ≤ n ∧ i = .int .i64 k ∧ v = .bool r ∧ RunS g b k c r ∧ Vq c w wr ∧ c.Hl (w.heap.size + 2) wr) (fun _ i _ => n - (intOf i).toNat)
  case atStart => exact ⟨0, c0, true, by omega, rfl, rfl, .zero c0 HM0.out, HS3.out, HH3.out⟩
  case round =>
    obtain ⟨k, c, r, hk, rfl, rfl, hp, hv, ho⟩ := hrel
    have HP : Hid (RunS g b k c r) := hp
    have HV : Hid (Vq c w wr) := hv
    have HO : Hid (c.Hl (w.heap.size + 2) wr) := ho
    have HOC : Hid (OkP c) := runs_ok OK.out HP.out
    clear hp hv ho HS3 HH3 HM0
    by_cases hlt : (k : Int) < n
    · rcases HL.out with h | ⟨lb, off, rfl, h⟩
      · omega
      have lbw := World.block_lt_of_cell? w _ (h k (by omega) 0 _ rfl)
      have HLB : Hid (lb < w.heap.size) := lbw
      have HSD : Hid (Sd lb (off + k * 8) (g k) wr) := range_below HV.out.l (h k (by omega)) lbw
      clear h lbw
      have HRd : Hid (World.rangeAt wr.drew w.heap.size 0 c.cells) := HV.out.b.range
      have HVd : Hid (Vq c w wr.drew) := HV.out.later (B := wr.heap.size) ⟨rfl, rfl, rfl, Nat.le_refl _, fun _ _ => rfl⟩ HV.out.z
      have HOd : Hid (c.Hl (w.heap.size + 2) wr.drew) := HO.out.later ⟨rfl, rfl, rfl, Nat.le_refl _, fun _ _ => rfl⟩
      have k0 : wr.cell? ⟨lb, off + k * 8, none⟩ = some (.bool (g k).cut) := HSD.out 0 _ rfl
      cases hc : (g k).cut
      · rw [hc] at k0
        go_wp2_with (fail)
        refine wp_region_held_drew (S := Sd lb (off + k * 8) (g k)) (by kernel_rfl) HSD.out (fun hS => ?_)
        refine takeB (i := 1) (v := .slice (some ⟨lb, off, none⟩) n cc) (d := some 42) rfl rfl (by kernel_rfl) (by kernel_rfl) (by kernel_rfl) (fun _ _ _ h => h) (Or.inl ⟨by rfl, fun w' hw => ?_⟩) hS ?_
        · clear hw; go_simp
        try simp only [Act.put, List.setIfInBounds_toArray, List.set_cons_zero, List.set_cons_succ]
        refine takeB (i := 2) (v := .int .i64 k) (d := some 43) rfl rfl (by kernel_rfl) (by kernel_rfl) (by kernel_rfl) (fun _ _ _ h => h) (Or.inl ⟨by rfl, fun w' hw => ?_⟩) hS ?_
        · clear hw; go_simp
        try simp only [Act.put, List.setIfInBounds_toArray, List.set_cons_zero, List.set_cons_succ]
        refine takeB (i := 3) (v := .pointer (some ⟨lb, off + k * 8, none⟩)) (d := some 44) rfl rfl (by kernel_rfl) (by kernel_rfl) (by kernel_rfl) (fun _ _ _ h => h) (Or.inl ⟨by rfl, fun w' hw => ?_⟩) hS ?_
        · clear hw; go_simp
        try simp only [Act.put, List.setIfInBounds_toArray, List.set_cons_zero, List.set_cons_succ]
        refine takeB (i := 4) (v := .pointer (some ⟨lb, off + k * 8 + 2, none⟩)) (d := some 45) rfl rfl (by kernel_rfl) (by kernel_rfl) (by kernel_rfl) (fun _ _ _ h => h) (Or.inl ⟨by rfl, fun w' hw => ?_⟩) hS ?_
        · clear hw; go_simp
        try simp only [Act.put, List.setIfInBounds_toArray, List.set_cons_zero, List.set_cons_succ]
        refine takeB (i := 5) (v := .agg (opOf (g k)).cells.toArray) (d := some 46) rfl rfl (by kernel_rfl) (by kernel_rfl) (by kernel_rfl) (fun _ _ _ h => h) (yieldsIf_load_mid (by rfl) 45 _ rfl lb (off + k * 8 + 2) rfl (opOf (g k)).cells _ (fun w' hw => Sd.op hw) Tryz.underlying45 rfl (by kernel_rfl)) hS ?_
        try simp only [Act.put, List.setIfInBounds_toArray, List.set_cons_zero, List.set_cons_succ]
        refine wpAnyH_ready (rs := [0]) (by kernel_rfl) (by simp) ?_
        refine AllReadyH.cons rfl (fun K hK => ?_) AllReadyH.nil
        clear hS
        have hS : Sd lb (off + k * 8) (g k) wr.drew := HSD.out
        refine wp_load_mid 29 _ rfl w.heap.size 0 rfl c.cells _ HRd.out Tryz.underlying29 rfl (by kernel_rfl) ?_
        refine hK.out _ _ hS (fun hS => ?_)
        clear hK K
        try simp only [Act.put, List.setIfInBounds_toArray, List.set_cons_zero, List.set_cons_succ]
        refine wpAnyH_ready (rs := [6]) (by kernel_rfl) (by simp) ?_
        refine AllReadyH.cons rfl (fun K hK => ?_) AllReadyH.nil
        have HSD' : Hid (Sd lb (off + k * 8) (g k) wr.drew) := hS
        clear hS
        go_simp
        refine (do_t c (w.heap.size + 2) (opOf (g k)) _ HOd.out HVd.out.z HOC.out).mono ?_
        rintro e w3 ⟨d, x, y, rfl, hq, hl, hb⟩
        have HBS : Hid (w.heap.size + 2 ≤ w.heap.size + 2) := Nat.le_refl _
        have HHL : Hid (d.Hl (w.heap.size + 2) w3) := hl
        have HD : Hid (StpS c (g k) d (decide (x = (g k).code) && decide (y = (g k).val))) := .inr ⟨hc, x, y, hq, rfl⟩
        clear hl hq
        have HV3 : Hid (Vq c w w3) := HVd.out.later hb HBS.out
        have HTT : Hid (w3.there w.heap.size 0 d.cells.toArray.toList.length) := (set_book HV3.out.b d).1
        have HVX : Hid (Vq d w (w3.setCells w.heap.size 0 d.cells.toArray.toList)) := (HV3.out.set d).1
        have HDX : Hid (d.Hl (w.heap.size + 2) (w3.setCells w.heap.size 0 d.cells.toArray.toList)) := hl_only HHL.out (HV3.out.set d).2 (by omega)
        have hS3 : Sd lb (off + k * 8) (g k) w3 := HSD'.out.later hb (by have := HLB.out; have := HBS.out; omega)
        have HSX : Hid (Sd lb (off + k * 8) (g k) (w3.setCells w.heap.size 0 d.cells.toArray.toList)) := World.rangeAt_setCells_apart hS3 _ _ _ (.inl (by have := HLB.out; omega))
        clear hb HV3
        go_wp2_with (fail)
        refine hK.out _ _ hS3 (fun hS => ?_)
        clear hK K
        try simp only [Act.put, List.setIfInBounds_toArray, List.set_cons_zero, List.set_cons_succ]
        refine takeB (i := 7) (v := .tuple #[.agg d.cells.toArray, .int .i64 x, .int .i64 y]) (d := some 40) rfl rfl (by kernel_rfl) (by kernel_rfl) (by kernel_rfl) (fun _ _ _ h => h) (Or.inl ⟨by rfl, fun w' hw => ?_⟩) hS ?_
        · clear hw; go_simp
        try simp only [Act.put, List.setIfInBounds_toArray, List.set_cons_zero, List.set_cons_succ]
        refine takeB (i := 8) (v := .agg d.cells.toArray) (d := some 48) rfl rfl (by kernel_rfl) (by kernel_rfl) (by kernel_rfl) (fun _ _ _ h => h) (Or.inl ⟨by rfl, fun w' hw => ?_⟩) hS ?_
        · clear hw; go_simp
        try simp only [Act.put, List.setIfInBounds_toArray, List.set_cons_zero, List.set_cons_succ]
        refine takeB (i := 9) (v := .int .i64 x) (d := some 49) rfl rfl (by kernel_rfl) (by kernel_rfl) (by kernel_rfl) (fun _ _ _ h => h) (Or.inl ⟨by rfl, fun w' hw => ?_⟩) hS ?_
        · clear hw; go_simp
        try simp only [Act.put, List.setIfInBounds_toArray, List.set_cons_zero, List.set_cons_succ]
        refine takeB (i := 10) (v := .int .i64 y) (d := some 50) rfl rfl (by kernel_rfl) (by kernel_rfl) (by kernel_rfl) (fun _ _ _ h => h) (Or.inl ⟨by rfl, fun w' hw => ?_⟩) hS ?_
        · clear hw; go_simp
        try simp only [Act.put, List.setIfInBounds_toArray, List.set_cons_zero, List.set_cons_succ]
        refine wpAnyH_ready (rs := [11]) (by kernel_rfl) (by simp) ?_
        refine AllReadyH.cons rfl (fun K hK => ?_) AllReadyH.nil
        clear hS
        refine wp_store_mid 29 _ _ rfl w.heap.size 0 d.cells.toArray rfl rfl HTT.out (by kernel_rfl) (cells_one _) ?_
        refine hK.out _ _ HSX.out (fun hS => ?_)
        clear hK K
        try simp only [Act.put, List.setIfInBounds_toArray, List.set_cons_zero, List.set_cons_succ]
        refine takeB (i := 12) (v := .int .i64 x) (d := some 8) rfl rfl (by kernel_rfl) (by kernel_rfl) (by kernel_rfl) (fun _ _ _ h => h) (Or.inl ⟨by rfl, fun w' hw => ?_⟩) hS ?_
        · clear hw; go_simp
        try simp only [Act.put, List.setIfInBounds_toArray, List.set_cons_zero, List.set_cons_succ]
        refine takeB (i := 13) (v := .int .i64 y) (d := some 9) rfl rfl (by kernel_rfl) (by kernel_rfl) (by kernel_rfl) (fun _ _ _ h => h) (Or.inl ⟨by rfl, fun w' hw => ?_⟩) hS ?_
        · clear hw; go_simp
        try simp only [Act.put, List.setIfInBounds_toArray, List.set_cons_zero, List.set_cons_succ]
        refine wpAnyH_done (by kernel_rfl) ?_ _
        clear hS
        generalize World.setCells _ _ _ _ = V4 at HVX HDX HSX ⊢
        have kc := HSX.out.code
        have kv := HSX.out.val
        clear HTT HHL HSD' HSX HVd HOd HRd HSD HV HO k0
        cases r
        · go_wp2_with (fail)
          go_roundw
          case rel => exact ⟨k + 1, d, (false && (decide (x = (g k).code) && decide (y = (g k).val))), by omega, by go_num, by simp, .step HP.out HD.out, HVX.out, HDX.out⟩
          case measure => simp [intOf]; omega
        by_cases hx : x = (g k).code
        · by_cases hy : y = (g k).val
          all_goals
            go_wp2_with (fail)
            go_roundw
            case rel => exact ⟨k + 1, d, (true && (decide (x = (g k).code) && decide (y = (g k).val))), by omega, by go_num, by simp [hx, hy], .step HP.out HD.out, HVX.out, HDX.out⟩
            case measure => simp [intOf]; omega
        · go_wp2_with (fail)
          go_roundw
          case rel => exact ⟨k + 1, d, (true && (decide (x = (g k).code) && decide (y = (g k).val))), by omega, by go_num, by simp [hx], .step HP.out HD.out, HVX.out, HDX.out⟩
          case measure => simp [intOf]; omega
      · rw [hc] at k0
        go_wp2_with (fail)
        refine wp_region_held_drew (S := Sd lb (off + k * 8) (g k)) (by kernel_rfl) HSD.out (fun hS => ?_)
        refine takeB (i := 1) (v := .slice (some ⟨lb, off, none⟩) n cc) (d := some 33) rfl rfl (by kernel_rfl) (by kernel_rfl) (by kernel_rfl) (fun _ _ _ h => h) (Or.inl ⟨by rfl, fun w' hw => ?_⟩) hS ?_
        · clear hw; go_simp
        try simp only [Act.put, List.setIfInBounds_toArray, List.set_cons_zero, List.set_cons_succ]
        refine takeB (i := 2) (v := .int .i64 k) (d := some 34) rfl rfl (by kernel_rfl) (by kernel_rfl) (by kernel_rfl) (fun _ _ _ h => h) (Or.inl ⟨by rfl, fun w' hw => ?_⟩) hS ?_
        · clear hw; go_simp
        try simp only [Act.put, List.setIfInBounds_toArray, List.set_cons_zero, List.set_cons_succ]
        refine takeB (i := 3) (v := .pointer (some ⟨lb, off + k * 8, none⟩)) (d := some 35) rfl rfl (by kernel_rfl) (by kernel_rfl) (by kernel_rfl) (fun _ _ _ h => h) (Or.inl ⟨by rfl, fun w' hw => ?_⟩) hS ?_
        · clear hw; go_simp
        try simp only [Act.put, List.setIfInBounds_toArray, List.set_cons_zero, List.set_cons_succ]
        refine takeB (i := 4) (v := .pointer (some ⟨lb, off + k * 8 + 2, none⟩)) (d := some 36) rfl rfl (by kernel_rfl) (by kernel_rfl) (by kernel_rfl) (fun _ _ _ h => h) (Or.inl ⟨by rfl, fun w' hw => ?_⟩) hS ?_
        · clear hw; go_simp
        try simp only [Act.put, List.setIfInBounds_toArray, List.set_cons_zero, List.set_cons_succ]
        refine takeB (i := 5) (v := .pointer (some ⟨lb, off + k * 8 + 2 + 1, none⟩)) (d := some 37) rfl rfl (by kernel_rfl) (by kernel_rfl) (by kernel_rfl) (fun _ _ _ h => h) (Or.inl ⟨by rfl, fun w' hw => ?_⟩) hS ?_
        · clear hw; go_simp
        try simp only [Act.put, List.setIfInBounds_toArray, List.set_cons_zero, List.set_cons_succ]
        refine takeB (i := 6) (v := .int .i64 (g k).os) (d := some 38) rfl rfl (by kernel_rfl) (by kernel_rfl) (by kernel_rfl) (fun _ _ _ h => h) (Or.inl ⟨by rfl, fun w' hw => ?_⟩) hS ?_
        · have q := hw.os; clear hw; go_simp
        try simp only [Act.put, List.setIfInBounds_toArray, List.set_cons_zero, List.set_cons_succ]
        refine wpAnyH_ready (rs := [0]) (by kernel_rfl) (by simp) ?_
        refine AllReadyH.cons rfl (fun K hK => ?_) AllReadyH.nil
        clear hS
        have hS : Sd lb (off + k * 8) (g k) wr.drew := HSD.out
        refine wp_load_mid 29 _ rfl w.heap.size 0 rfl c.cells _ HRd.out Tryz.underlying29 rfl (by kernel_rfl) ?_
        refine hK.out _ _ hS (fun hS => ?_)
        clear hK K
        try simp only [Act.put, List.setIfInBounds_toArray, List.set_cons_zero, List.set_cons_succ]
        refine wpAnyH_ready (rs := [7]) (by kernel_rfl) (by simp) ?_
        refine AllReadyH.cons rfl (fun K hK => ?_) AllReadyH.nil
        have HSD' : Hid (Sd lb (off + k * 8) (g k) wr.drew) := hS
        clear hS
        go_simp
        refine (scut_t c (g k).os _ HOd.out.at (by have := ok_total HOC.out; omega) HOC.out).mono ?_
        rintro e w3 ⟨d, rfl, hq, hl, hb⟩
        have HBS : Hid (w.heap.size + 2 ≤ wr.drew.heap.size) := HVd.out.z
        have HHL : Hid (d.Hl (w.heap.size + 2) w3) := hl_mono hl HBS.out
        have HD : Hid (StpS c (g k) d true) := .inl ⟨hc, hq, rfl⟩
        clear hl hq
        have HV3 : Hid (Vq c w w3) := HVd.out.later hb HBS.out
        have HTT : Hid (w3.there w.heap.size 0 d.cells.toArray.toList.length) := (set_book HV3.out.b d).1
        have HVX : Hid (Vq d w (w3.setCells w.heap.size 0 d.cells.toArray.toList)) := (HV3.out.set d).1
        have HDX : Hid (d.Hl (w.heap.size + 2) (w3.setCells w.heap.size 0 d.cells.toArray.toList)) := hl_only HHL.out (HV3.out.set d).2 (by omega)
        have hS3 : Sd lb (off + k * 8) (g k) w3 := HSD'.out.later hb (by have := HLB.out; have := HBS.out; omega)
        have HSX : Hid (Sd lb (off + k * 8) (g k) (w3.setCells w.heap.size 0 d.cells.toArray.toList)) := World.rangeAt_setCells_apart hS3 _ _ _ (.inl (by have := HLB.out; omega))
        clear hb HV3
        go_wp2_with (fail)
        refine hK.out _ _ hS3 (fun hS => ?_)
        clear hK K
        try simp only [Act.put, List.setIfInBounds_toArray, List.set_cons_zero, List.set_cons_succ]
        refine wpAnyH_ready (rs := [8]) (by kernel_rfl) (by simp) ?_
        refine AllReadyH.cons rfl (fun K hK => ?_) AllReadyH.nil
        clear hS
        refine wp_store_mid 29 _ _ rfl w.heap.size 0 d.cells.toArray rfl rfl HTT.out (by kernel_rfl) (cells_one _) ?_
        refine hK.out _ _ HSX.out (fun hS => ?_)
        clear hK K
        try simp only [Act.put, List.setIfInBounds_toArray, List.set_cons_zero, List.set_cons_succ]
        refine wpAnyH_done (by kernel_rfl) ?_ _
        clear hS
        generalize World.setCells _ _ _ _ = V4 at HVX HDX HSX ⊢
        clear HTT HHL HSD' HSX HVd HOd HRd HSD HV HO k0
        go_wp2_with (fail)
        go_roundw
        case rel => exact ⟨k + 1, d, (r && true), by omega, by go_num, by simp, .step HP.out HD.out, HVX.out, HDX.out⟩
        case measure => simp [intOf]; omega
    · obtain rfl : k = n := by omega
      have HQR : Hid (World.rangeAt wr w.heap.size 0 c.cells) := HV.out.b.range
      have HTT : Hid (wr.there (w.heap.size + 1) 0 c.cells.toArray.toList.length) := there9 HV.out.t
      go_wp2_with (first
        | refine wpList_load_mid rfl 29 _ rfl w.heap.size 0 rfl c.cells _ HQR.out Tryz.underlying29 rfl (by kernel_rfl) ?_
        | with_reducible refine halt_at (.store 29 (.tmp 4) (.tmp 70)) rfl ?_)
      unfold Hid
      refine wpList_store_mid rfl 29 _ _ rfl (w.heap.size + 1) 0 c.cells.toArray rfl rfl HTT.out (by kernel_rfl) (cells_one _) ?_
      have OY : Only (w.heap.size + 1) (w.heap.size + 1 + 1) wr (wr.setCells (w.heap.size + 1) 0 c.cells.toArray.toList) := only_setCells (Nat.le_refl _) (by omega) _ _ _ (Only.refl _ _ _)
      have HOF : Hid (c.Hl w.heap.size (wr.setCells (w.heap.size + 1) 0 c.cells.toArray.toList)) := hl_mono (hl_only HO.out OY (by omega)) (by omega)
      have HBF : Hid (Below w.heap.size w (wr.setCells (w.heap.size + 1) 0 c.cells.toArray.toList)) := below_setCells HV.out.l (Nat.le_add_right _ _) _ _
      clear OY
      go_wp2_with (fail)
      refine bodyPost_ret (res_one rfl _ _ (w.heap.size + 1) 0 _ _ rfl (World.rangeAt_setCells_same _ _ _ _ HTT.out) Tryz.underlying29 rfl (by kernel_rfl)) rfl ?_
      exact HayA.mk c r rfl (.inr ⟨⟨OK.out, HN2.out⟩, HP.out⟩) HOF.out HBF.out
    
    end Go.Proofs.YtbeamigbcfkjjaaGreatDoor.Dra

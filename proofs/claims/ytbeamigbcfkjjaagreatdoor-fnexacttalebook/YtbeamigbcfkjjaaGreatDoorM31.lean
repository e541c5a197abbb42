import Derived.Test.YtbeamigbcfkjjaaGreatDoorTb1
import Derived.Test.YtbeamigbcfkjjaaGreatDoorM29
import Derived.Test.YtbeamigbcfkjjaaGreatDoorM11
import Derived.Test.YtbeamigbcfkjjaaGreatDoorM8

/- The program's TaleBook: a loop over what has happened. -/
namespace Go.Proofs.YtbeamigbcfkjjaaGreatDoor.Dra
open Go.ChangeShapes Go.WideShapes Go.ChangeAt Go.RowKit
open Go.Proofs.YtbeamigbcfkjjaaGreatDoor.Aid Go.Proofs.YtbeamigbcfkjjaaGreatDoor.Lst Go.Proofs.YtbeamigbcfkjjaaGreatDoor.Book
open Go.Proofs.YtbeamigbcfkjjaaGreatDoor.Gs (halt_at)
set_option maxRecDepth 100000
set_option linter.unusedVariables false

/- A book is laid into a struct of its own; an item. -/
theorem mk_book (W : World) (T : TypeId) (c : Bx) : (W.alloc (.cells #[.int .i64 0, .slice none 0 0, .slice none 0 0, .slice none 0 0, .slice none 0 0, .slice none 0 0, .slice none 0 0, .slice none 0 0, .slice none 0 0] T)).there W.heap.size 0 c.cells.toArray.toList.length ∧ Ck ((W.alloc (.cells #[.int .i64 0, .slice none 0 0, .slice none 0 0, .slice none 0 0, .slice none 0 0, .slice none 0 0, .slice none 0 0, .slice none 0 0, .slice none 0 0] T)).setCells W.heap.size 0 c.cells.toArray.toList) W.heap.size c.cells ∧ Below W.heap.size W ((W.alloc (.cells #[.int .i64 0, .slice none 0 0, .slice none 0 0, .slice none 0 0, .slice none 0 0, .slice none 0 0, .slice none 0 0, .slice none 0 0, .slice none 0 0] T)).setCells W.heap.size 0 c.cells.toArray.toList) := by
  have hz : Ck (W.alloc (.cells #[.int .i64 0, .slice none 0 0, .slice none 0 0, .slice none 0 0, .slice none 0 0, .slice none 0 0, .slice none 0 0, .slice none 0 0, .slice none 0 0] T)) W.heap.size [.int .i64 0, .slice none 0 0, .slice none 0 0, .slice none 0 0, .slice none 0 0, .slice none 0 0, .slice none 0 0, .slice none 0 0, .slice none 0 0] := ck_lit #[.int .i64 0, .slice none 0 0, .slice none 0 0, .slice none 0 0, .slice none 0 0, .slice none 0 0, .slice none 0 0, .slice none 0 0, .slice none 0 0] (heap1_0 W _)
  exact ⟨there9 hz, (put9s hz _ _ _ _ _ _ _ _ _).1, below_setCells (below1 W _) (Nat.le_refl _) _ _⟩
theorem mk_item (W : World) (T : TypeId) (i : Ti.Tx) : (W.alloc (.cells #[.bool false, .int .i64 0, .int .i64 0, .int .i64 0, .int .i64 0, .int .i64 0, .int .i64 0, .int .i64 0] T)).there W.heap.size 0 i.cells.toArray.toList.length ∧ ((W.alloc (.cells #[.bool false, .int .i64 0, .int .i64 0, .int .i64 0, .int .i64 0, .int .i64 0, .int .i64 0, .int .i64 0] T)).setCells W.heap.size 0 i.cells.toArray.toList).rangeAt W.heap.size 0 i.cells ∧ Below W.heap.size W ((W.alloc (.cells #[.bool false, .int .i64 0, .int .i64 0, .int .i64 0, .int .i64 0, .int .i64 0, .int .i64 0, .int .i64 0] T)).setCells W.heap.size 0 i.cells.toArray.toList) := by
  have hz : (W.alloc (.cells #[.bool false, .int .i64 0, .int .i64 0, .int .i64 0, .int .i64 0, .int .i64 0, .int .i64 0, .int .i64 0] T)).there W.heap.size 0 i.cells.toArray.toList.length := there_lit #[.bool false, .int .i64 0, .int .i64 0, .int .i64 0, .int .i64 0, .int .i64 0, .int .i64 0, .int .i64 0] (heap1_0 W _)
  exact ⟨hz, World.rangeAt_setCells_same _ _ _ _ hz, below_setCells (below1 W _) (Nat.le_refl _) _ _⟩
theorem set_book {W : World} {k : Nat} {x : Bx} (h : Ck W k x.cells) (c : Bx) : W.there k 0 c.cells.toArray.toList.length ∧ Ck (W.setCells k 0 c.cells.toArray.toList) k c.cells ∧ Only k (k + 1) W (W.setCells k 0 c.cells.toArray.toList) := ⟨there9 h, (put9s h _ _ _ _ _ _ _ _ _).1, (put9s h _ _ _ _ _ _ _ _ _).2⟩
structure Uq (b : Bx) (w W : World) : Prop where
  b : W.rangeAt w.heap.size 0 b.cells
  t : Ck W (w.heap.size + 1) z9
  l : Below w.heap.size w W
  z : w.heap.size + 2 ≤ W.heap.size
theorem Uq.start (b : Bx) (w : World) (t : TypeId) : Uq b w ((w.alloc (.cells b.cells.toArray t)).alloc (.cells z9.toArray t)) := by
  refine ⟨?_, ck_lit z9.toArray (heap2_1 w (.cells b.cells.toArray t) (.cells z9.toArray t)), below2 w _ _, by simp⟩
  have := (ck_lit b.cells.toArray (heap2_0 w (.cells b.cells.toArray t) (.cells z9.toArray t))).range
  simpa using this
theorem Uq.later {b : Bx} {w W W1 : World} {B : Nat} (h : Uq b w W) (hb : Below B W W1) (hB : w.heap.size + 2 ≤ B) : Uq b w W1 :=
  ⟨fun j v hv => by rw [hb.cell (p := _) (by show w.heap.size < B; omega)]; exact h.b j v hv, h.t.below hb (by omega), h.l.trans (hb.mono (by omega)), Nat.le_trans h.z hb.size⟩
structure Lq (q : Nat) (c : Bx) (w W : World) : Prop where
  t : Ck W (w.heap.size + 1) z9
  r : Ck W q c.cells
  o : ∃ B C, c.Own B C W ∧ w.heap.size + 2 ≤ B ∧ C ≤ W.heap.size ∧ (q < B ∨ C ≤ q)
  l : Below w.heap.size w W
  z : w.heap.size + 2 ≤ q ∧ q < W.heap.size
theorem Lq.later {q : Nat} {c : Bx} {w W W1 : World} (h : Lq q c w W) (hb : Below W.heap.size W W1) : Lq q c w W1 := by
  obtain ⟨B, C, g1, g2, g3, g4⟩ := h.o
  exact ⟨h.t.below hb (by have := h.z; omega), h.r.below hb h.z.2, ⟨B, C, g1.later hb, g2, Nat.le_trans g3 hb.size, g4⟩, h.l.trans (hb.mono h.l.size), ⟨h.z.1, Nat.lt_of_lt_of_le h.z.2 hb.size⟩⟩
theorem Lq.at {q : Nat} {c : Bx} {w W : World} (h : Lq q c w W) : c.At W ∧ c.o.n ≤ c.o.c := by
  obtain ⟨B, C, g1, _⟩ := h.o
  exact ⟨g1.at, g1.cap⟩
/- A new book takes the old one's place. -/
theorem Lq.set {q : Nat} {c d : Bx} {w W : World} (h : Lq q c w W) {B C : Nat} (g1 : d.Own B C W) (g2 : w.heap.size + 2 ≤ B) (g3 : C ≤ W.heap.size) (g4 : q < B ∨ C ≤ q) : Lq q d w (W.setCells q 0 d.cells.toArray.toList) := by
  obtain ⟨s1, s2, s3⟩ := set_book h.r d
  refine ⟨?_, s2, ⟨B, C, g1.only s3 (by omega), g2, Nat.le_trans g3 s3.size, g4⟩, below_setCells h.l (by have := h.z; omega) _ _, h.z.1, Nat.lt_of_lt_of_le h.z.2 s3.size⟩
  intro j v hv
  have k1 := h.t j v hv
  have lt : w.heap.size + 1 < W.heap.size := by have := h.z; omega
  rw [s3.cell (k := w.heap.size + 1) lt (.inl (by have := h.z; omega)), s3.frozen (k := w.heap.size + 1) lt (.inl (by have := h.z; omega))]
  exact k1
theorem run_pre {g : Nat → Ti.Tx} {b : Bx} : ∀ {n : Nat} {d : Bx} {r : Bool}, RunS g b n d r → ∀ k, k ≤ n → ∃ e s, RunS g b k e s := by
  intro n
  induction n with
  | zero =>
    intro d r h k hk
    obtain rfl : k = 0 := by omega
    exact ⟨d, r, h⟩
  | succ n ih =>
    intro d r h k hk
    by_cases e : k = n + 1
    · subst e; exact ⟨d, r, h⟩
    · cases h with
      | step h1 _ => exact ih h1 k (by omega)

set_option maxHeartbeats 16000000 in
theorem tbook_any {a : Nat → Addr} (b d0 : Bx) (la : Option Addr) (n cc : Nat) (g : Nat → Ti.Tx) (w : World) (h : b.At w) (hn : b.total ≤ 1000000000) (hcap : b.o.n ≤ b.o.c) (hl : Ti.RowT w la n g) (he : Ea a w) (hm : b.m = d0.m)
    (hrun : OkP d0 → n ≤ 2000 → ∃ e s, RunS g d0 n e s) :
    Calls Tryz.prog 9 #[.agg b.cells.toArray, .slice la n cc] w fun e w' => SayA (TbP b n g) w e w' := by
  have S := Uq.start b w 29
  have HS0 : Hid (Uq b w _) := S
  have HR0 : Hid (World.rangeAt _ w.heap.size 0 b.cells) := S.b
  have HA : Hid (b.At w) := h
  have HL : Hid (Ti.RowT w la n g) := hl
  have HEa : Hid (Ea a w) := he
  have HM : Hid (b.m = d0.m) := hm
  have HRN : Hid (OkP d0 → n ≤ 2000 → ∃ e s, RunS g d0 n e s) := hrun
  clear S h he hl hm hrun
  simp only [Bx.cells, z9] at HS0 HR0 ⊢
  go_enter Tryz.func9, Tryz.ntmps9
  go_wp2_with (refine wpList_load_mid rfl 29 _ rfl (w.heap.size) 0 rfl b.cells _ HR0.out Tryz.underlying29 rfl (by kernel_rfl) ?_)
  refine (ok_any b _ (HA.out.later HS0.out.l) hn hcap).mono ?_
  rintro e W1 ⟨⟨r, rfl, hr⟩, hb⟩
  have HS1 : Hid (Uq b w W1) := HS0.out.later hb HS0.out.z
  have HOK : Hid (Tell r (OkP b)) := hr
  have HT : Hid (W1.there (w.heap.size + 1) 0 9) := there9 HS1.out.t
  clear hb hr HR0 HS0
  have none_done : ∀ (_ : ¬ (OkP b ∧ n ≤ 2000)), SayA (TbP b n g) w (Ending.returned (.tuple #[.agg noneB.cells.toArray, .bool false])) (W1.setCells (w.heap.size + 1) 0 noneB.cells.toArray.toList) := fun hne => SayA.mk noneB false rfl (.inl ⟨hne, rfl, rfl⟩) (none_own _ _ _) (below_setCells HS1.out.l (Nat.le_add_right _ _) _ _)
  have HND : Hid (∀ (_ : ¬ (OkP b ∧ n ≤ 2000)), SayA (TbP b n g) w _ _) := none_done
  clear none_done
  cases r
  · go_wp2_with (refine wpList_store_mid rfl 29 _ _ rfl (w.heap.size + 1) 0 noneB.cells.toArray rfl rfl HT.out (by kernel_rfl) (cells_one _) ?_)
    refine bodyPost_ret (res_one rfl _ _ (w.heap.size + 1) 0 _ _ rfl (World.rangeAt_setCells_same _ _ _ _ HT.out) Tryz.underlying29 rfl (by kernel_rfl)) rfl ?_
    exact HND.out (fun q => by have := HOK.out.2 q.1; cases this)
  have OK : Hid (OkP b) := HOK.out.1 rfl
  clear HOK
  by_cases h2 : 2000 < (n : Int)
  · go_wp2_with (refine wpList_store_mid rfl 29 _ _ rfl (w.heap.size + 1) 0 noneB.cells.toArray rfl rfl HT.out (by kernel_rfl) (cells_one _) ?_)
    refine bodyPost_ret (res_one rfl _ _ (w.heap.size + 1) 0 _ _ rfl (World.rangeAt_setCells_same _ _ _ _ HT.out) Tryz.underlying29 rfl (by kernel_rfl)) rfl ?_
    exact HND.out (fun q => by omega)
  clear HND HT
  have HR1 : Hid (World.rangeAt W1 w.heap.size 0 b.cells) := HS1.out.b
  go_wp2_with (refine wpList_load_mid rfl 29 _ rfl (w.heap.size) 0 rfl b.cells _ HR1.out Tryz.underlying29 rfl (by kernel_rfl) ?_)
  refine (copy_cap b _ (HA.out.later HS1.out.l) hn (at_nil HA.out)).mono ?_
  rintro e W2 ⟨c0, rfl, cm, co, hb, cc⟩
  have HS2 : Hid (Uq b w W2) := HS1.out.later hb HS1.out.z
  have HC0 : Hid (c0.m = b.m ∧ c0.Own (w.heap.size + 2) W2.heap.size W2) := ⟨cm, own_mono co HS1.out.z (Nat.le_refl _)⟩
  clear hb cm co cc HR1 HS1
  obtain ⟨m1, m2, m3⟩ := mk_book W2 29 c0
  have HTH : Hid (World.there _ W2.heap.size 0 _) := m1
  have HCK : Hid (Ck _ W2.heap.size c0.cells) := m2
  have HBV : Hid (Below W2.heap.size W2 _) := m3
  clear m1 m2 m3
  go_wp2_with (with_reducible refine halt_at (.store 29 (.tmp 6) (.tmp 22)) rfl ?_)
  unfold Hid
  refine wpList_store_mid rfl 29 _ _ rfl (W2.heap.size) 0 c0.cells.toArray rfl rfl HTH.out (by kernel_rfl) (cells_one _) ?_
  clear HTH
  generalize World.setCells _ _ _ _ = V at HBV HCK ⊢
  go_wp2_with (fail)
  have HLQ : Hid (Lq W2.heap.size c0 w V) := ⟨(HS2.out.t.below HBV.out (by have := HS2.out.z; omega)), HCK.out, ⟨w.heap.size + 2, W2.heap.size, HC0.out.2.later HBV.out, Nat.le_refl _, HBV.out.size, .inr (Nat.le_refl _)⟩, HS2.out.l.trans (HBV.out.mono HS2.out.l.size), ⟨by have := HS2.out.z; omega, HCK.out.lt⟩⟩
  have HM0 : Hid (c0.m = b.m) := HC0.out.1
  have HN2 : Hid (n ≤ 2000) := (by show n ≤ 2000; omega)
  clear HCK HBV HC0 HS2 h2 hn hcap HA
  go_loopw [7, 25] (fun v i wr => ∃ (k : Nat) (c : Bx) (r : Bool), k ≤ n ∧ i = .int .i64 k ∧ v = .bool r ∧ RunP g b k c r ∧ Lq W2.heap.size c w wr) (fun _ i _ => n - (intOf i).toNat)
  case atStart => exact ⟨0, c0, true, by omega, rfl, rfl, .zero c0 HM0.out, HLQ.out⟩
  case round =>
    obtain ⟨k, c, r, hk, rfl, rfl, hp, hlq⟩ := hrel
    have HP : Hid (RunP g b k c r) := hp
    have HLK : Hid (Lq W2.heap.size c w wr) := hlq
    clear hp hlq HLQ HM0
    by_cases hlt : (k : Int) < n
    · rcases HL.out with h | ⟨lb, off, rfl, h⟩
      · omega
      have HR1 : Hid (World.rangeAt wr lb (off + k * 8) (g k).cells) := range_below HLK.out.l (h k (by omega)) (World.block_lt_of_cell? w _ (h k (by omega) 0 _ rfl))
      clear h
      have TOT : Hid (c.total ≤ 1000) := by
        obtain ⟨e, s, hs⟩ := HRN.out ((ok_m HM.out).1 OK.out) HN2.out
        obtain ⟨e', s', hs'⟩ := run_pre hs k hk
        obtain ⟨t1, _, t3⟩ := run_met HM.out ((ok_m HM.out).1 OK.out) HP.out hs'
        show c.total ≤ 1000
        rw [trim_total t1]
        exact ok_total t3
      go_wp2_with (with_reducible refine halt_at (.load 47 (.tmp 27)) rfl ?_)
      unfold Hid
      refine wpList_load_mid rfl 47 _ rfl lb (off + k * 8) rfl (g k).cells _ HR1.out Tryz.underlying47 rfl (by kernel_rfl) ?_
      obtain ⟨m1, m2, m3⟩ := mk_item wr 47 (g k)
      have HTI : Hid (World.there _ wr.heap.size 0 _) := m1
      have HIR : Hid (World.rangeAt _ wr.heap.size 0 (g k).cells) := m2
      have HBI : Hid (Below wr.heap.size wr _) := m3
      clear m1 m2 m3 HR1
      go_wp2_with (with_reducible refine halt_at (.store 47 (.tmp 9) (.tmp 28)) rfl ?_)
      unfold Hid
      refine wpList_store_mid rfl 47 _ _ rfl wr.heap.size 0 (g k).cells.toArray rfl rfl HTI.out (by kernel_rfl) (by simp [Ti.Tx.cells, Value.oneCell']) ?_
      clear HTI
      obtain ⟨u, eu⟩ : ∃ u, u = wr.heap.size := ⟨_, rfl⟩
      generalize World.setCells _ _ _ _ = V1 at HBI HIR ⊢
      rw [← eu] at HIR ⊢
      have HL1 : Hid (Lq W2.heap.size c w V1) := HLK.out.later HBI.out
      have HQR : Hid (World.rangeAt V1 W2.heap.size 0 c.cells) := HL1.out.r.range
      clear HBI HLK eu
      go_wp2_with (first
        | refine wpList_load_mid rfl 29 _ rfl W2.heap.size 0 rfl c.cells _ HQR.out Tryz.underlying29 rfl (by kernel_rfl) ?_
        | refine wpList_load_mid rfl 47 _ rfl u 0 rfl (g k).cells _ HIR.out Tryz.underlying47 rfl (by kernel_rfl) ?_)
      refine (says_any c (g k) V1 HL1.out.at.1 (Nat.le_trans TOT.out (by omega)) HL1.out.at.2 (HEa.out.later HL1.out.l)).mono ?_
      rintro e W3 ⟨d, r', rfl, hs, ho, hb⟩
      have HL2 : Hid (Lq W2.heap.size c w W3) := HL1.out.later hb
      have HD : Hid (StpP c (g k) d r') := hs
      have HO : Hid (d.Own V1.heap.size W3.heap.size W3 ∧ w.heap.size + 2 ≤ V1.heap.size ∧ W2.heap.size < V1.heap.size) := ⟨ho, by have := HL1.out.z; omega, HL1.out.z.2⟩
      clear hs ho hb HL1 HQR HIR TOT
      obtain ⟨m1, m2, m3⟩ := mk_book W3 29 d
      have HTH : Hid (World.there _ W3.heap.size 0 _) := m1
      have HCK : Hid (Ck _ W3.heap.size d.cells) := m2
      have HBV : Hid (Below W3.heap.size W3 _) := m3
      clear m1 m2 m3
      go_wp2_with (with_reducible refine halt_at (.store 29 (.tmp 10) (.tmp 33)) rfl ?_)
      unfold Hid
      refine wpList_store_mid rfl 29 _ _ rfl W3.heap.size 0 d.cells.toArray rfl rfl HTH.out (by kernel_rfl) (cells_one _) ?_
      clear HTH
      obtain ⟨s, es⟩ : ∃ s, s = W3.heap.size := ⟨_, rfl⟩
      generalize World.setCells _ _ _ _ = V3 at HBV HCK ⊢
      rw [← es] at HCK ⊢
      have HL3 : Hid (Lq W2.heap.size c w V3) := HL2.out.later HBV.out
      have HO3 : Hid (d.Own V1.heap.size W3.heap.size V3 ∧ W3.heap.size ≤ V3.heap.size) := ⟨HO.out.1.later HBV.out, HBV.out.size⟩
      have HSR : Hid (World.rangeAt V3 s 0 d.cells) := HCK.out.range
      have HTQ : Hid (V3.there W2.heap.size 0 d.cells.toArray.toList.length) := (set_book HL3.out.r d).1
      have HL4 : Hid (Lq W2.heap.size d w (V3.setCells W2.heap.size 0 d.cells.toArray.toList)) := HL3.out.set HO3.out.1 HO.out.2.1 HO3.out.2 (.inl HO.out.2.2)
      clear HCK HBV HL2 HL3 HO HO3 es
      cases r
      all_goals
        go_wp2_with (first
          | refine wpList_load_mid rfl 29 _ rfl s 0 rfl d.cells _ HSR.out Tryz.underlying29 rfl (by kernel_rfl) ?_
          | with_reducible refine halt_at (.store 29 (.tmp 6) (.tmp 35)) rfl ?_)
        unfold Hid
        refine wpList_store_mid rfl 29 _ _ rfl W2.heap.size 0 d.cells.toArray rfl rfl HTQ.out (by kernel_rfl) (cells_one _) ?_
        clear HTQ HSR
        generalize World.setCells _ _ _ _ = V4 at HL4 ⊢
        go_wp2_with (fail)
        go_roundw
        case rel => exact ⟨k + 1, d, _, by omega, by go_num, rfl, .step HP.out HD.out, HL4.out⟩
        case measure => simp [intOf]; omega
    · obtain rfl : k = n := by omega
      have HQR : Hid (World.rangeAt wr W2.heap.size 0 c.cells) := HLK.out.r.range
      have HTT : Hid (wr.there (w.heap.size + 1) 0 c.cells.toArray.toList.length) := there9 HLK.out.t
      go_wp2_with (first
        | refine wpList_load_mid rfl 29 _ rfl W2.heap.size 0 rfl c.cells _ HQR.out Tryz.underlying29 rfl (by kernel_rfl) ?_
        | with_reducible refine halt_at (.store 29 (.tmp 4) (.tmp 41)) rfl ?_)
      unfold Hid
      refine wpList_store_mid rfl 29 _ _ rfl (w.heap.size + 1) 0 c.cells.toArray rfl rfl HTT.out (by kernel_rfl) (cells_one _) ?_
      have OY : Only (w.heap.size + 1) (w.heap.size + 1 + 1) wr (wr.setCells (w.heap.size + 1) 0 c.cells.toArray.toList) := only_setCells (Nat.le_refl _) (by omega) _ _ _ (Only.refl _ _ _)
      obtain ⟨B, C, g1, g2, g3, g4⟩ := HLK.out.o
      have HOF : Hid (c.Own w.heap.size (wr.setCells (w.heap.size + 1) 0 c.cells.toArray.toList).heap.size (wr.setCells (w.heap.size + 1) 0 c.cells.toArray.toList)) := own_mono (g1.only OY (.inr g2)) (by omega) (Nat.le_trans g3 OY.size)
      have HBF : Hid (Below w.heap.size w (wr.setCells (w.heap.size + 1) 0 c.cells.toArray.toList)) := below_setCells HLK.out.l (Nat.le_add_right _ _) _ _
      clear OY g1 g2 g3 g4
      go_wp2_with (fail)
      refine bodyPost_ret (res_one rfl _ _ (w.heap.size + 1) 0 _ _ rfl (World.rangeAt_setCells_same _ _ _ _ HTT.out) Tryz.underlying29 rfl (by kernel_rfl)) rfl ?_
      exact SayA.mk c r rfl (.inr ⟨⟨OK.out, HN2.out⟩, HP.out⟩) HOF.out HBF.out

end Go.Proofs.YtbeamigbcfkjjaaGreatDoor.Dra

/- Somebody is cut off: BookCut of the specification, its room one's own. -/
namespace Go.Proofs.YtbeamigbcfkjjaaGreatDoor.Book
open Go.ChangeShapes Go.WideShapes Go.ChangeAt Go.RowKit
open Go.Proofs.YtbeamigbcfkjjaaGreatDoor.Aid Go.Proofs.YtbeamigbcfkjjaaGreatDoor.Lst
open Go.Proofs.YtbeamigbcfkjjaaGreatDoor.Dra (none_hl)
set_option maxRecDepth 100000
set_option linter.unusedVariables false

theorem cap_set {c : Bx} {w : World} (h : c.Cap w) (p : Addr) (v : Value) : c.Cap (w.setCell p v) := fun x hx => ⟨(h x hx).1, fun hp => by
  obtain ⟨g, e, f⟩ := (h x hx).2 hp
  exact ⟨g, e, f.set p v⟩⟩
theorem cap_nine {c : Bx} {w : World} (h : c.Cap w) (k : Nat) (v0 v1 v2 v3 v4 v5 v6 v7 v8 : Value) : c.Cap (((((((((w.setCell ⟨k, 0, none⟩ v0).setCell ⟨k, 1, none⟩ v1).setCell ⟨k, 2, none⟩ v2).setCell ⟨k, 3, none⟩ v3).setCell ⟨k, 4, none⟩ v4).setCell ⟨k, 5, none⟩ v5).setCell ⟨k, 6, none⟩ v6).setCell ⟨k, 7, none⟩ v7).setCell ⟨k, 8, none⟩ v8) :=
  cap_set (cap_set (cap_set (cap_set (cap_set (cap_set (cap_set (cap_set (cap_set h _ _) _ _) _ _) _ _) _ _) _ _) _ _) _ _) _ _
theorem cap_seti {c : Bx} {w : World} (h : c.Cap w) (j : Nat) (v : Int) : (c.seti j v).Cap w := fun x hx => by
  have hi := h c.i (by simp [Bx.lists])
  simp only [Bx.seti, Bx.lists, List.mem_cons, List.not_mem_nil, or_false] at hx
  rcases hx with rfl | rfl | rfl | rfl | rfl | rfl | rfl | rfl
  all_goals first | exact (⟨hi.1, hi.2⟩ : Sx.Cap _ w) | exact h _ (by simp [Bx.lists])

set_option maxHeartbeats 40000000 in
theorem scut_hl (b : Bx) (t : Int) (w : World) (h : b.At w) (hn : b.total ≤ 1000000000) (hw : b.Wf) :
    Calls Tryz.prog 19 #[.agg b.cells.toArray, .int .i64 t] w fun e w' => ∃ c : Bx, e = .returned (.agg c.cells.toArray) ∧ CutQ b t c.m ∧ c.Hl w.heap.size w' ∧ Below w.heap.size w w' := by
  have S0 : CO w b ((w.alloc (.cells #[.int .i64 b.s, .slice b.p.a b.p.n b.p.c, .slice b.h0.a b.h0.n b.h0.c, .slice b.h1.a b.h1.n b.h1.c, .slice b.h2.a b.h2.n b.h2.c, .slice b.h3.a b.h3.n b.h3.c, .slice b.o.a b.o.n b.o.c, .slice b.i.a b.i.n b.i.c, .slice b.e.a b.e.n b.e.c] 29)).alloc (.cells #[.int .i64 0, .slice none 0 0, .slice none 0 0, .slice none 0 0, .slice none 0 0, .slice none 0 0, .slice none 0 0, .slice none 0 0, .slice none 0 0] 29)) := ⟨(Ent.start h 29).later (below1 _ _), ck_lit #[.int .i64 0, .slice none 0 0, .slice none 0 0, .slice none 0 0, .slice none 0 0, .slice none 0 0, .slice none 0 0, .slice none 0 0, .slice none 0 0] (heap2_1 w _ _), by simp⟩
  have A0 : Ck ((w.alloc (.cells #[.int .i64 b.s, .slice b.p.a b.p.n b.p.c, .slice b.h0.a b.h0.n b.h0.c, .slice b.h1.a b.h1.n b.h1.c, .slice b.h2.a b.h2.n b.h2.c, .slice b.h3.a b.h3.n b.h3.c, .slice b.o.a b.o.n b.o.c, .slice b.i.a b.i.n b.i.c, .slice b.e.a b.e.n b.e.c] 29)).alloc (.cells #[.int .i64 0, .slice none 0 0, .slice none 0 0, .slice none 0 0, .slice none 0 0, .slice none 0 0, .slice none 0 0, .slice none 0 0, .slice none 0 0] 29)) w.heap.size #[.int .i64 b.s, .slice b.p.a b.p.n b.p.c, .slice b.h0.a b.h0.n b.h0.c, .slice b.h1.a b.h1.n b.h1.c, .slice b.h2.a b.h2.n b.h2.c, .slice b.h3.a b.h3.n b.h3.c, .slice b.o.a b.o.n b.o.c, .slice b.i.a b.i.n b.i.c, .slice b.e.a b.e.n b.e.c].toList := ck_lit #[.int .i64 b.s, .slice b.p.a b.p.n b.p.c, .slice b.h0.a b.h0.n b.h0.c, .slice b.h1.a b.h1.n b.h1.c, .slice b.h2.a b.h2.n b.h2.c, .slice b.h3.a b.h3.n b.h3.c, .slice b.o.a b.o.n b.o.c, .slice b.i.a b.i.n b.i.c, .slice b.e.a b.e.n b.e.c] (heap2_0 w _ _)
  simp only [Bx.cells]
  go_enter Tryz.func19, Tryz.ntmps19
  go_wp2_with (fail)
  generalize (w.alloc (.cells #[.int .i64 b.s, .slice b.p.a b.p.n b.p.c, .slice b.h0.a b.h0.n b.h0.c, .slice b.h1.a b.h1.n b.h1.c, .slice b.h2.a b.h2.n b.h2.c, .slice b.h3.a b.h3.n b.h3.c, .slice b.o.a b.o.n b.o.c, .slice b.i.a b.i.n b.i.c, .slice b.e.a b.e.n b.e.c] 29)).alloc (.cells #[.int .i64 0, .slice none 0 0, .slice none 0 0, .slice none 0 0, .slice none 0 0, .slice none 0 0, .slice none 0 0, .slice none 0 0, .slice none 0 0] 29) = W at S0 A0 ⊢
  refine (sok_any b W S0.e.a hn hw).mono ?_
  rintro e w1 ⟨⟨r, rfl, hr⟩, hb⟩
  have hc := S0.later hb
  replace A0 := A0.below hb (by have := S0.z; omega)
  have HA0 : Hid (Ck w1 w.heap.size _) := A0
  clear hb S0 A0
  cases r
  · obtain ⟨w9, e9, ck9, ow9, be9⟩ := ans hc.t hc.z hc.e.b (none_own w1.heap.size w1.heap.size w1) hc.z (Nat.le_refl _)
    simp only [noneB] at e9
    have tk0 := hc.t 0 _ rfl
    have tk1 := hc.t 1 _ rfl
    have tk2 := hc.t 2 _ rfl
    have tk3 := hc.t 3 _ rfl
    have tk4 := hc.t 4 _ rfl
    have tk5 := hc.t 5 _ rfl
    have tk6 := hc.t 6 _ rfl
    have tk7 := hc.t 7 _ rfl
    have tk8 := hc.t 8 _ rfl
    have NO : Hid (¬ OkP b) := hr.f
    have HC : Hid (CO w b w1) := hc
    have HE : Hid (w9 = _) := e9
    clear hc hr e9
    go_wp2_with (fail)
    rw [← HE.out]
    exact bodyPost_ret (results_cell_mid rfl _ _ (w.heap.size + 1) 0 _ _ rfl ck9.range Tryz.underlying29 rfl (by kernel_rfl)) rfl ⟨noneB, rfl, .inr ⟨NO.out, rfl⟩, none_hl _ _, be9⟩
  have OK : Hid (OkP b) := hr.t
  have l1 := OK.out.1.1.1
  have l2 := OK.out.1.1.2.1
  have l3 := OK.out.1.1.2.2.1
  obtain ⟨u0, u1, u2, u3, u4, u5, u6, u7, u8⟩ := nine hc.e.r
  have HC : Hid (CO w b w1) := hc
  clear hr hc
  go_wp2_with (fail)
  clear u0 u1 u2 u3 u4 u5 u6 u7 u8
  refine (scopy_cap b w1 HC.out.e.a hn h.nil).mono ?_
  rintro e w2 ⟨c, rfl, cm, co, hb, cp⟩
  have es : c.s = b.s := congrArg (·.s) cm
  have ei : c.i.n = b.i.n := congrArg (fun m => m.i.1) cm
  have hc := HC.out.later hb
  have z1 := HC.out.z
  have z2 := hb.size
  obtain ⟨k, hk, hk1, hk2, hf⟩ : ∃ k, c.i.a = some ⟨k, 0, none⟩ ∧ w1.heap.size ≤ k ∧ k < w2.heap.size ∧ Fk .i64 c.i.n w2 k c.i.f := by
    rcases co.each c.i (by simp [Bx.lists]) with h0 | h0
    · omega
    · exact h0
  have ES : Hid (c.s = b.s) := es
  have EI : Hid (c.i.n = b.i.n) := ei
  have HK : Hid (c.i.a = some ⟨k, 0, none⟩) := hk
  have ca := HA0.out.below hb (by omega)
  clear HC hb es ei hk HA0
  simp only [Bx.cells]
  obtain ⟨ck3, oy3⟩ := put9 ca (.int .i64 c.s) (.slice c.p.a c.p.n c.p.c) (.slice c.h0.a c.h0.n c.h0.c) (.slice c.h1.a c.h1.n c.h1.c) (.slice c.h2.a c.h2.n c.h2.c) (.slice c.h3.a c.h3.n c.h3.c) (.slice c.o.a c.o.n c.o.c) (.slice c.i.a c.i.n c.i.c) (.slice c.e.a c.e.n c.e.c)
  have t3 := fun j v hv => (And.intro ((oy3.cell (o := j) (by omega) (.inr (by omega))).trans (hc.t j v hv).1) ((oy3.frozen (o := j) (by omega) (.inr (by omega))).trans (hc.t j v hv).2))
  have b3 := hc.e.b.trans (oy3.below (by omega))
  have co3 := co.only oy3 (.inr (by omega))
  have HCP : Hid (c.Cap _) := cap_nine cp w.heap.size (.int .i64 c.s) (.slice c.p.a c.p.n c.p.c) (.slice c.h0.a c.h0.n c.h0.c) (.slice c.h1.a c.h1.n c.h1.c) (.slice c.h2.a c.h2.n c.h2.c) (.slice c.h3.a c.h3.n c.h3.c) (.slice c.o.a c.o.n c.o.c) (.slice c.i.a c.i.n c.i.c) (.slice c.e.a c.e.n c.e.c)
  clear cp
  have hf3 := oy3.fk (.inr (by omega)) hf
  have z3 := oy3.size
  have ca0 := ca 0 _ rfl
  have tk0 := hc.t 0 _ rfl
  have ca1 := ca 1 _ rfl
  have tk1 := hc.t 1 _ rfl
  have ca2 := ca 2 _ rfl
  have tk2 := hc.t 2 _ rfl
  have ca3 := ca 3 _ rfl
  have tk3 := hc.t 3 _ rfl
  have ca4 := ca 4 _ rfl
  have tk4 := hc.t 4 _ rfl
  have ca5 := ca 5 _ rfl
  have tk5 := hc.t 5 _ rfl
  have ca6 := ca 6 _ rfl
  have tk6 := hc.t 6 _ rfl
  have ca7 := ca 7 _ rfl
  have tk7 := hc.t 7 _ rfl
  have ca8 := ca 8 _ rfl
  have tk8 := hc.t 8 _ rfl
  have HC : Hid (Ck _ (w.heap.size + 1) _) := t3
  have HB : Hid (Below w.heap.size w _) := b3
  have HO : Hid (c.Own _ _ _) := co3
  have HE : Hid (Ck _ w.heap.size _) := ck3
  have HF : Hid (Fk _ _ _ _ _) := hf3
  have HG : Hid (Fk .i64 c.i.n w2 k c.i.f) := hf
  clear hc co t3 b3 co3 ck3 hf3 oy3 ca hf
  by_cases ht0 : 0 ≤ t
  case neg =>
    obtain ⟨w9, e9, ck9, ow9, be9⟩ := ans HC.out (by omega) HB.out HO.out (by omega) (by omega)
    have cp9 : c.Cap w9 := by rw [e9]; exact cap_nine HCP.out _ _ _ _ _ _ _ _ _ _
    have NO : Hid (¬ ((0 ≤ t ∧ t < b.s) ∧ c.i.f t.toNat = 1)) := fun g => ht0 g.1.1
    have HE9 : Hid (w9 = _) := e9
    clear e9 z3
    go_wp2_with (fail)
    rw [← HE9.out]
    exact bodyPost_ret (results_cell_mid rfl _ _ (w.heap.size + 1) 0 _ _ rfl ck9.range Tryz.underlying29 rfl (by kernel_rfl)) rfl ⟨c, by simp [Bx.cells], .inl ⟨OK.out, cut_miss cm NO.out⟩, ow9.hl cp9 (Nat.le_refl _), be9⟩
  by_cases ht1 : t < c.s
  case neg =>
    obtain ⟨w9, e9, ck9, ow9, be9⟩ := ans HC.out (by omega) HB.out HO.out (by omega) (by omega)
    have cp9 : c.Cap w9 := by rw [e9]; exact cap_nine HCP.out _ _ _ _ _ _ _ _ _ _
    have NO : Hid (¬ ((0 ≤ t ∧ t < b.s) ∧ c.i.f t.toNat = 1)) := fun g => ht1 (by rw [ES.out]; exact g.1.2)
    have HE9 : Hid (w9 = _) := e9
    clear e9 z3
    go_wp2_with (fail)
    rw [← HE9.out]
    exact bodyPost_ret (results_cell_mid rfl _ _ (w.heap.size + 1) 0 _ _ rfl ck9.range Tryz.underlying29 rfl (by kernel_rfl)) rfl ⟨c, by simp [Bx.cells], .inl ⟨OK.out, cut_miss cm NO.out⟩, ow9.hl cp9 (Nat.le_refl _), be9⟩
  obtain ⟨j, rfl⟩ := Int.eq_ofNat_of_zero_le ht0
  have hj : j < c.i.n := by have := ES.out; have := EI.out; omega
  have hjI : (j : Int) < c.i.n := by omega
  have c0 := HG.out j hj
  have kne : k ≠ w.heap.size := by omega
  have kne' : w.heap.size ≠ k := by omega
  have kne2 : k ≠ w.heap.size + 1 := by omega
  by_cases one : c.i.f j = 1
  case neg =>
    have oneb : (c.i.f j == 1) = false := by simpa using one
    obtain ⟨w9, e9, ck9, ow9, be9⟩ := ans HC.out (by omega) HB.out HO.out (by omega) (by omega)
    have cp9 : c.Cap w9 := by rw [e9]; exact cap_nine HCP.out _ _ _ _ _ _ _ _ _ _
    simp only [HK.out] at e9
    have NO : Hid (¬ ((0 ≤ (j : Int) ∧ (j : Int) < b.s) ∧ c.i.f (j : Int).toNat = 1)) := fun g => one (by simpa using g.2)
    have HE9 : Hid (w9 = _) := e9
    clear e9 z3
    rw [HK.out]
    go_wp2_with (fail)
    rw [← HE9.out]
    exact bodyPost_ret (results_cell_mid rfl _ _ (w.heap.size + 1) 0 _ _ rfl ck9.range Tryz.underlying29 rfl (by kernel_rfl)) rfl ⟨c, by simp [Bx.cells, HK.out], .inl ⟨OK.out, cut_miss cm NO.out⟩, ow9.hl cp9 (Nat.le_refl _), be9⟩
  have ow := HO.out.write (b' := c.seti j 2) 6 c.i rfl k j HK.out hj 2 rfl
  have t5 := HC.out.far ⟨k, j, none⟩ kne2 (.int .i64 2)
  have b5 := HB.out.setCell (p := ⟨k, j, none⟩) (by simp; omega) (.int .i64 2)
  have oz := fun W => ((Only.refl k (k + 1) W).setCell k j (Nat.le_refl _) (by omega) (.int .i64 2)).size
  obtain ⟨w9, e9, ck9, ow9, be9⟩ := ans t5 (Nat.le_trans (Nat.le_trans (by omega) z3) (oz _)) b5 ow (by omega) (Nat.le_trans z3 (oz _))
  have cp9 : (c.seti j 2).Cap w9 := by rw [e9]; exact cap_nine (cap_set (cap_seti HCP.out j 2) _ _) _ _ _ _ _ _ _ _ _ _
  simp only [Bx.seti, Sx.put, HK.out] at e9
  have CM : Hid ((c.seti j 2).m = cutM b.m j) := cut_hit cm (by rw [← ES.out]; exact ht1) one
  have HE9 : Hid (w9 = _) := e9
  clear e9 z3 t5 b5 ow oz
  rw [one] at c0
  clear one
  rw [HK.out]
  go_wp2_with (fail)
  rw [← HE9.out]
  exact bodyPost_ret (results_cell_mid rfl _ _ (w.heap.size + 1) 0 _ _ rfl ck9.range Tryz.underlying29 rfl (by kernel_rfl)) rfl ⟨c.seti j 2, by simp [Bx.cells, Bx.seti, Sx.put, HK.out], .inl ⟨OK.out, CM.out⟩, ow9.hl cp9 (Nat.le_refl _), be9⟩

end Go.Proofs.YtbeamigbcfkjjaaGreatDoor.Book

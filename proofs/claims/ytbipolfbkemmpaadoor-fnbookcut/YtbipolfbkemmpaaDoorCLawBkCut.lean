import Derived.Test.YtbipolfbkemmpaaDoorM52
import Derived.Test.YtbipolfbkemmpaaDoorM53
import Derived.Test.YtbipolfbkemmpaaDoorM13
import Derived.Test.YtbipolfbkemmpaaDoorM11

/- A book is drawn, one in six bent, and a slot to be cut off: the specification's DrawBookCut. -/
namespace Go.Proofs.YtbipolfbkemmpaaDoor.Book
open Go.ChangeShapes Go.WideShapes Go.ChangeAt Go.RowKit
open Aid Lst Draw
set_option maxRecDepth 100000
set_option linter.unusedVariables false

set_option maxHeartbeats 8000000 in
theorem dbcut_any (a : Option Addr) (len cap : Nat) (zs : List Int) (w : World) (h : Row w a len cap zs) :
    Calls Tryd.prog 22 #[.slice a len cap] w fun e w' => ∃ (b : Bx) (t : Int), e = .returned (.tuple #[.agg b.cells.toArray, .int .i64 t]) ∧ DbQ w b w' := by
  have h1 := h.below (below1 w (.cells z9.toArray 26))
  have T1 := ck_lit z9.toArray (heap1_0 w (.cells z9.toArray 26))
  have B1 := below1 w (.cells z9.toArray 26)
  have z1 : w.heap.size + 1 ≤ (w.alloc (.cells z9.toArray 26)).heap.size := by simp
  simp only [z9] at h1 T1 B1 z1
  have HR1 : Hid (Row _ a len cap zs) := h1
  have HT1 : Hid (Ck _ w.heap.size z9) := T1
  have HB1 : Hid (Below w.heap.size w _) := B1
  clear h1 T1 B1
  go_enter Tryd.func22, Tryd.ntmps22
  go_wp2_with (fail)
  generalize w.alloc (.cells #[.int .i64 0, .slice none 0 0, .slice none 0 0, .slice none 0 0, .slice none 0 0, .slice none 0 0, .slice none 0 0, .slice none 0 0, .slice none 0 0] 26) = W1 at HR1 HT1 HB1 z1 ⊢
  refine (open_any a len cap zs W1 HR1.out).mono ?_
  rintro e w2 ⟨rfl, ⟨n, c, rd⟩, hb⟩
  have rlt := rd.lt
  have HT2 : Hid (Ck w2 w.heap.size z9) := HT1.out.below hb (by omega)
  have HB2 : Hid (Below w.heap.size w w2) := HB1.out.trans (hb.mono (by omega))
  have HD : Hid (Rd w2 W1.heap.size a n c zs 0) := rd
  generalize W1.heap.size = r at HD z1 rlt ⊢
  clear hb rd HT1 HB1 HR1
  go_wp2_with (fail)
  refine (lbent_any r a n c zs 0 w2 HD.out (by omega)).mono ?_
  rintro e w3 bq
  obtain ⟨b, rfl, dq, ⟨p, p1, rd⟩, sv, off, -⟩ := bq.db HB2.out (by omega) (by omega)
  have HNR : Hid (∀ x ∈ b.lists, 0 < x.n → ∀ k o, x.a = some ⟨k, o, none⟩ → k ≠ r) := off r rlt
  have HNW : Hid (∀ x ∈ b.lists, 0 < x.n → ∀ k o, x.a = some ⟨k, o, none⟩ → k ≠ w.heap.size) := off _ (by omega)
  clear off
  have z3 := sv.size
  have T3 := ck_save HT2.out sv (by omega) (by omega)
  have cz : Ck (w3.alloc (.cells z9.toArray 26)) w3.heap.size z9 := ck_lit z9.toArray (heap1_0 w3 _)
  have th : (w3.alloc (.cells z9.toArray 26)).there w3.heap.size 0 9 := there9 cz
  have hB : Below w3.heap.size w3 ((w3.alloc (.cells z9.toArray 26)).setCells w3.heap.size 0 b.cells.toArray.toList) := below_setCells (below1 w3 _) (Nat.le_refl _) _ _
  have rg : ((w3.alloc (.cells z9.toArray 26)).setCells w3.heap.size 0 b.cells.toArray.toList).rangeAt w3.heap.size 0 b.cells := World.rangeAt_setCells_same _ _ _ _ th
  have zz : w3.heap.size + 1 ≤ ((w3.alloc (.cells z9.toArray 26)).setCells w3.heap.size 0 b.cells.toArray.toList).heap.size := by rw [setCells_size]; simp
  simp only [z9] at th hB rg zz
  have HT : Hid (World.there _ w3.heap.size 0 9) := th
  have HR : Hid (World.rangeAt _ w3.heap.size 0 b.cells) := rg
  have HB : Hid (Below w3.heap.size w3 _) := hB
  have HZ : Hid (_ ≤ _) := zz
  have HQ : Hid (DbQ w b w3) := dq
  have HT3 : Hid (Ck w3 w.heap.size z9) := T3
  have HD3 : Hid (Rd w3 r a n c zs p) := rd
  clear th rg hB cz T3 dq rd bq sv HD HT2 HB2 zz
  go_wp2_with (refine wpList_store_mid rfl 26 _ _ rfl w3.heap.size 0 b.cells.toArray rfl rfl HT.out (by kernel_rfl) (cells_one b) ?_; apply Hid.out)
  generalize World.setCells _ _ _ _ = w4 at HR HB HZ ⊢
  have HD4 : Hid (Rd w4 r a n c zs p) := rd_later HD3.out HB.out
  have HT4 : Hid (Ck w4 w.heap.size z9) := HT3.out.below HB.out (by omega)
  have HQ4 : Hid (DbQ w b w4) := by
    obtain ⟨g1, g2, g3, g4, g5⟩ := HQ.out
    exact ⟨g1.later HB.out, g2, g3, g4, g5.trans (HB.out.mono (by omega))⟩
  have z4 := HZ.out
  have hv : r < w3.heap.size := by omega
  generalize w3.heap.size = v at HR hv z3 z4 ⊢
  unfold Hid
  clear HT HB HZ HQ HT3 HD3
  go_wp2_with (fail)
  have HD5 : Hid (Rd w4.drew r a n c zs p) := rd_later HD4.out (below_drew w4)
  have HT5 : Hid (Ck w4.drew w.heap.size z9) := HT4.out.below (below_drew w4) (by have := HD4.out.lt; omega)
  have HQ5 : Hid (DbQ w b w4.drew) := by
    obtain ⟨g1, g2, g3, g4, g5⟩ := HQ4.out
    exact ⟨g1.later (below_drew w4), g2, g3, g4, g5.trans ((below_drew w4).mono (by have := HD4.out.lt; omega))⟩
  have zv : v + 1 ≤ w4.drew.heap.size := by simpa using z4
  refine wp_region_held_drew (S := fun w' => w'.rangeAt v 0 b.cells) (by kernel_rfl) HR.out (fun hS => ?_)
  clear HR HD4 HT4 HQ4 z4
  generalize World.drew w4 = V at HD5 HT5 HQ5 zv hS ⊢
  refine tB 0 (v := .agg b.cells.toArray) (d := some 10) rfl rfl (yieldsIf_load_mid (by rfl) 26 _ rfl v 0 rfl b.cells _ (fun w hw => hw) Tryd.underlying26 rfl (by kernel_rfl)) hS ?_
  try simp only [Act.put, s1, s2, s3]
  refine tI 1 (v := .pointer (some ⟨r, 0, none⟩)) (d := some 11) rfl rfl (fun w' hw => ?_) hS ?_
  · clear hw; go_simp
  try simp only [Act.put, s1, s2, s3]
  refine r1 2 rfl (fun K hK => ?_)
  go_simp
  refine (pick_on r a n c zs p 5 _ HD5.out (by omega)).mono ?_
  rintro e w6 ⟨j, rfl, j0, j1, -, rd, sv⟩
  have j2 := j1 (by omega)
  have HT6 : Hid (Ck w6 w.heap.size z9) := ck_save HT5.out sv (by omega) (by omega)
  have HR6 : Hid (w6.rangeAt v 0 b.cells) := range_save sv hS (by omega) (by omega)
  have HQ6 : Hid (DbQ w b w6) := by
    obtain ⟨g1, g2, g3, g4, g5⟩ := HQ5.out
    refine ⟨fun x hx => ?_, g2, g3, g4, g5.trans (sv.below (by omega) (by omega))⟩
    rcases g1 x hx with g | ⟨k, o, e, g⟩
    · exact .inl g
    · refine .inr ⟨k, o, e, fun i hi => ?_⟩
      have gi := g i hi
      have kr : k ≠ r := fun ekr => HNR.out x hx (by omega) k o e ekr
      rw [sv.cell (q := ⟨k, o + i, none⟩) kr (World.block_lt_of_cell? _ _ gi)]; exact gi
  have z6 := sv.size
  clear HD5 HT5 HQ5 rd sv j1 hS
  go_wp2_with (fail)
  refine hK.out _ _ HR6.out (fun hS => ?_)
  clear hK K
  try simp only [Act.put, s1, s2, s3]
  refine tI 3 (v := .int .i64 (j - 1)) (d := some 13) rfl rfl (fun w' hw => ?_) hS ?_
  · clear hw; go_simp <;> (rw [IntKind.wrap_i64]; omega)
  try simp only [Act.put, s1, s2, s3]
  refine r1 4 rfl (fun K hK => ?_)
  have rg : (w6.setCells w.heap.size 0 b.cells.toArray.toList).rangeAt w.heap.size 0 b.cells := World.rangeAt_setCells_same _ _ _ _ (there9 HT6.out)
  have svr : Save w.heap.size w6 (w6.setCells w.heap.size 0 b.cells.toArray.toList) := save_setCells _ _ _ (Save.refl _ _)
  have dq : DbQ w b (w6.setCells w.heap.size 0 b.cells.toArray.toList) := by
    obtain ⟨g1, g2, g3, g4, g5⟩ := HQ6.out
    refine ⟨fun x hx => ?_, g2, g3, g4, g5.trans (svr.below (Nat.le_refl _) (by omega))⟩
    rcases g1 x hx with g | ⟨k, o, e, g⟩
    · exact .inl g
    · refine .inr ⟨k, o, e, fun i hi => ?_⟩
      have gi := g i hi
      have kr : k ≠ w.heap.size := fun ekr => HNW.out x hx (by omega) k o e ekr
      rw [svr.cell (q := ⟨k, o + i, none⟩) kr (World.block_lt_of_cell? _ _ gi)]; exact gi
  have rv : (w6.setCells w.heap.size 0 b.cells.toArray.toList).rangeAt v 0 b.cells := range_save svr hS (by omega) (by omega)
  have HT : Hid (World.there _ w.heap.size 0 9) := there9 HT6.out
  have HG : Hid (World.rangeAt _ w.heap.size 0 b.cells) := rg
  have HQ : Hid (DbQ w b _) := dq
  refine wp_store_mid 26 _ _ rfl w.heap.size 0 b.cells.toArray rfl rfl HT.out (by kernel_rfl) (cells_one _) ?_
  refine hK.out _ _ rv (fun hS => ?_)
  clear hK K rv rg dq svr HT6 HR6 HQ6 HT
  generalize World.setCells _ _ _ _ = w7 at HG HQ hS ⊢
  try simp only [Act.put, List.setIfInBounds_toArray]
  refine tI 5 (v := .int .i64 (j - 1)) (d := some 3) rfl rfl (fun w' hw => ?_) hS ?_
  · clear hw; go_simp
  try simp only [Act.put]
  refine wpAnyH_done (by kernel_rfl) ?_ _
  clear hS
  go_wp2_with (fail)
  exact bodyPost_ret (results_cell_one rfl _ _ w.heap.size 0 _ _ rfl HG.out Tryd.underlying26 rfl (by kernel_rfl)) rfl ⟨b, ⟨j - 1, rfl⟩, HQ.out⟩

open Aid Lst
set_option maxHeartbeats 40000000 in
theorem scut_any (b : Bx) (t : Int) (w : World) (h : b.At w) (hn : b.total ≤ 1000000000) (hw : b.Wf) :
    Calls Tryd.prog 23 #[.agg b.cells.toArray, .int .i64 t] w fun e w' => ∃ c : Bx, e = .returned (.agg c.cells.toArray) ∧ CutQ b t c.m ∧ c.Own w.heap.size w'.heap.size w' ∧ Below w.heap.size w w' := by
  have S0 : CO w b ((w.alloc (.cells #[.int .i64 b.s, .slice b.p.a b.p.n b.p.c, .slice b.h0.a b.h0.n b.h0.c, .slice b.h1.a b.h1.n b.h1.c, .slice b.h2.a b.h2.n b.h2.c, .slice b.h3.a b.h3.n b.h3.c, .slice b.o.a b.o.n b.o.c, .slice b.i.a b.i.n b.i.c, .slice b.e.a b.e.n b.e.c] 26)).alloc (.cells #[.int .i64 0, .slice none 0 0, .slice none 0 0, .slice none 0 0, .slice none 0 0, .slice none 0 0, .slice none 0 0, .slice none 0 0, .slice none 0 0] 26)) := ⟨(Ent.start h 26).later (below1 _ _), ck_lit #[.int .i64 0, .slice none 0 0, .slice none 0 0, .slice none 0 0, .slice none 0 0, .slice none 0 0, .slice none 0 0, .slice none 0 0, .slice none 0 0] (heap2_1 w _ _), by simp⟩
  have A0 : Ck ((w.alloc (.cells #[.int .i64 b.s, .slice b.p.a b.p.n b.p.c, .slice b.h0.a b.h0.n b.h0.c, .slice b.h1.a b.h1.n b.h1.c, .slice b.h2.a b.h2.n b.h2.c, .slice b.h3.a b.h3.n b.h3.c, .slice b.o.a b.o.n b.o.c, .slice b.i.a b.i.n b.i.c, .slice b.e.a b.e.n b.e.c] 26)).alloc (.cells #[.int .i64 0, .slice none 0 0, .slice none 0 0, .slice none 0 0, .slice none 0 0, .slice none 0 0, .slice none 0 0, .slice none 0 0, .slice none 0 0] 26)) w.heap.size #[.int .i64 b.s, .slice b.p.a b.p.n b.p.c, .slice b.h0.a b.h0.n b.h0.c, .slice b.h1.a b.h1.n b.h1.c, .slice b.h2.a b.h2.n b.h2.c, .slice b.h3.a b.h3.n b.h3.c, .slice b.o.a b.o.n b.o.c, .slice b.i.a b.i.n b.i.c, .slice b.e.a b.e.n b.e.c].toList := ck_lit #[.int .i64 b.s, .slice b.p.a b.p.n b.p.c, .slice b.h0.a b.h0.n b.h0.c, .slice b.h1.a b.h1.n b.h1.c, .slice b.h2.a b.h2.n b.h2.c, .slice b.h3.a b.h3.n b.h3.c, .slice b.o.a b.o.n b.o.c, .slice b.i.a b.i.n b.i.c, .slice b.e.a b.e.n b.e.c] (heap2_0 w _ _)
  simp only [Bx.cells]
  go_enter Tryd.func23, Tryd.ntmps23
  go_wp2_with (fail)
  generalize (w.alloc (.cells #[.int .i64 b.s, .slice b.p.a b.p.n b.p.c, .slice b.h0.a b.h0.n b.h0.c, .slice b.h1.a b.h1.n b.h1.c, .slice b.h2.a b.h2.n b.h2.c, .slice b.h3.a b.h3.n b.h3.c, .slice b.o.a b.o.n b.o.c, .slice b.i.a b.i.n b.i.c, .slice b.e.a b.e.n b.e.c] 26)).alloc (.cells #[.int .i64 0, .slice none 0 0, .slice none 0 0, .slice none 0 0, .slice none 0 0, .slice none 0 0, .slice none 0 0, .slice none 0 0, .slice none 0 0] 26) = W at S0 A0 ⊢
  refine (sok_any b W S0.e.a hn hw).mono ?_
  rintro e w1 ⟨⟨r, rfl, hr⟩, hb⟩
  have hc := S0.later hb
  replace A0 := A0.below hb (by have := S0.z; omega)
  have HA0 : Hid (Ck w1 w.heap.size _) := A0
  clear hb S0 A0
  cases r
  · obtain ⟨w9, e9, ck9, ow9, be9⟩ := ans hc.t hc.z hc.e.b (none_own w1.heap.size w1.heap.size w1) hc.z (Nat.le_refl _)
    simp only [noneB] at e9
    have tk0 := hc.t 0 _ rfl
    have tk1 := hc.t 1 _ rfl
    have tk2 := hc.t 2 _ rfl
    have tk3 := hc.t 3 _ rfl
    have tk4 := hc.t 4 _ rfl
    have tk5 := hc.t 5 _ rfl
    have tk6 := hc.t 6 _ rfl
    have tk7 := hc.t 7 _ rfl
    have tk8 := hc.t 8 _ rfl
    have NO : Hid (¬ OkP b) := hr.f
    have HC : Hid (CO w b w1) := hc
    have HE : Hid (w9 = _) := e9
    clear hc hr e9
    go_wp2_with (fail)
    rw [← HE.out]
    exact bodyPost_ret (results_cell_mid rfl _ _ (w.heap.size + 1) 0 _ _ rfl ck9.range Tryd.underlying26 rfl (by kernel_rfl)) rfl ⟨noneB, rfl, .inr ⟨NO.out, rfl⟩, ow9, be9⟩
  have OK : Hid (OkP b) := hr.t
  have l1 := OK.out.1.1.1
  have l2 := OK.out.1.1.2.1
  have l3 := OK.out.1.1.2.2.1
  obtain ⟨u0, u1, u2, u3, u4, u5, u6, u7, u8⟩ := nine hc.e.r
  have HC : Hid (CO w b w1) := hc
  clear hr hc
  go_wp2_with (fail)
  clear u0 u1 u2 u3 u4 u5 u6 u7 u8
  refine (scopy_any b w1 HC.out.e.a hn h.nil).mono ?_
  rintro e w2 ⟨c, rfl, cm, co, hb⟩
  have es : c.s = b.s := congrArg (·.s) cm
  have ei : c.i.n = b.i.n := congrArg (fun m => m.i.1) cm
  have hc := HC.out.later hb
  have z1 := HC.out.z
  have z2 := hb.size
  obtain ⟨k, hk, hk1, hk2, hf⟩ : ∃ k, c.i.a = some ⟨k, 0, none⟩ ∧ w1.heap.size ≤ k ∧ k < w2.heap.size ∧ Fk .i64 c.i.n w2 k c.i.f := by
    rcases co.each c.i (by simp [Bx.lists]) with h0 | h0
    · omega
    · exact h0
  have ES : Hid (c.s = b.s) := es
  have EI : Hid (c.i.n = b.i.n) := ei
  have HK : Hid (c.i.a = some ⟨k, 0, none⟩) := hk
  have ca := HA0.out.below hb (by omega)
  clear HC hb es ei hk HA0
  simp only [Bx.cells]
  obtain ⟨ck3, oy3⟩ := put9 ca (.int .i64 c.s) (.slice c.p.a c.p.n c.p.c) (.slice c.h0.a c.h0.n c.h0.c) (.slice c.h1.a c.h1.n c.h1.c) (.slice c.h2.a c.h2.n c.h2.c) (.slice c.h3.a c.h3.n c.h3.c) (.slice c.o.a c.o.n c.o.c) (.slice c.i.a c.i.n c.i.c) (.slice c.e.a c.e.n c.e.c)
  have t3 := fun j v hv => (And.intro ((oy3.cell (o := j) (by omega) (.inr (by omega))).trans (hc.t j v hv).1) ((oy3.frozen (o := j) (by omega) (.inr (by omega))).trans (hc.t j v hv).2))
  have b3 := hc.e.b.trans (oy3.below (by omega))
  have co3 := co.only oy3 (.inr (by omega))
  have hf3 := oy3.fk (.inr (by omega)) hf
  have z3 := oy3.size
  have ca0 := ca 0 _ rfl
  have tk0 := hc.t 0 _ rfl
  have ca1 := ca 1 _ rfl
  have tk1 := hc.t 1 _ rfl
  have ca2 := ca 2 _ rfl
  have tk2 := hc.t 2 _ rfl
  have ca3 := ca 3 _ rfl
  have tk3 := hc.t 3 _ rfl
  have ca4 := ca 4 _ rfl
  have tk4 := hc.t 4 _ rfl
  have ca5 := ca 5 _ rfl
  have tk5 := hc.t 5 _ rfl
  have ca6 := ca 6 _ rfl
  have tk6 := hc.t 6 _ rfl
  have ca7 := ca 7 _ rfl
  have tk7 := hc.t 7 _ rfl
  have ca8 := ca 8 _ rfl
  have tk8 := hc.t 8 _ rfl
  have HC : Hid (Ck _ (w.heap.size + 1) _) := t3
  have HB : Hid (Below w.heap.size w _) := b3
  have HO : Hid (c.Own _ _ _) := co3
  have HE : Hid (Ck _ w.heap.size _) := ck3
  have HF : Hid (Fk _ _ _ _ _) := hf3
  have HG : Hid (Fk .i64 c.i.n w2 k c.i.f) := hf
  clear hc co t3 b3 co3 ck3 hf3 oy3 ca hf
  by_cases ht0 : 0 ≤ t
  case neg =>
    obtain ⟨w9, e9, ck9, ow9, be9⟩ := ans HC.out (by omega) HB.out HO.out (by omega) (by omega)
    have NO : Hid (¬ ((0 ≤ t ∧ t < b.s) ∧ c.i.f t.toNat = 1)) := fun g => ht0 g.1.1
    have HE9 : Hid (w9 = _) := e9
    clear e9 z3
    go_wp2_with (fail)
    rw [← HE9.out]
    exact bodyPost_ret (results_cell_mid rfl _ _ (w.heap.size + 1) 0 _ _ rfl ck9.range Tryd.underlying26 rfl (by kernel_rfl)) rfl ⟨c, by simp [Bx.cells], .inl ⟨OK.out, cut_miss cm NO.out⟩, ow9, be9⟩
  by_cases ht1 : t < c.s
  case neg =>
    obtain ⟨w9, e9, ck9, ow9, be9⟩ := ans HC.out (by omega) HB.out HO.out (by omega) (by omega)
    have NO : Hid (¬ ((0 ≤ t ∧ t < b.s) ∧ c.i.f t.toNat = 1)) := fun g => ht1 (by rw [ES.out]; exact g.1.2)
    have HE9 : Hid (w9 = _) := e9
    clear e9 z3
    go_wp2_with (fail)
    rw [← HE9.out]
    exact bodyPost_ret (results_cell_mid rfl _ _ (w.heap.size + 1) 0 _ _ rfl ck9.range Tryd.underlying26 rfl (by kernel_rfl)) rfl ⟨c, by simp [Bx.cells], .inl ⟨OK.out, cut_miss cm NO.out⟩, ow9, be9⟩
  obtain ⟨j, rfl⟩ := Int.eq_ofNat_of_zero_le ht0
  have hj : j < c.i.n := by have := ES.out; have := EI.out; omega
  have hjI : (j : Int) < c.i.n := by omega
  have c0 := HG.out j hj
  have kne : k ≠ w.heap.size := by omega
  have kne' : w.heap.size ≠ k := by omega
  have kne2 : k ≠ w.heap.size + 1 := by omega
  by_cases one : c.i.f j = 1
  case neg =>
    have oneb : (c.i.f j == 1) = false := by simpa using one
    obtain ⟨w9, e9, ck9, ow9, be9⟩ := ans HC.out (by omega) HB.out HO.out (by omega) (by omega)
    simp only [HK.out] at e9
    have NO : Hid (¬ ((0 ≤ (j : Int) ∧ (j : Int) < b.s) ∧ c.i.f (j : Int).toNat = 1)) := fun g => one (by simpa using g.2)
    have HE9 : Hid (w9 = _) := e9
    clear e9 z3
    rw [HK.out]
    go_wp2_with (fail)
    rw [← HE9.out]
    exact bodyPost_ret (results_cell_mid rfl _ _ (w.heap.size + 1) 0 _ _ rfl ck9.range Tryd.underlying26 rfl (by kernel_rfl)) rfl ⟨c, by simp [Bx.cells, HK.out], .inl ⟨OK.out, cut_miss cm NO.out⟩, ow9, be9⟩
  have ow := HO.out.write (b' := c.seti j 2) 6 c.i rfl k j HK.out hj 2 rfl
  have t5 := HC.out.far ⟨k, j, none⟩ kne2 (.int .i64 2)
  have b5 := HB.out.setCell (p := ⟨k, j, none⟩) (by simp; omega) (.int .i64 2)
  have oz := fun W => ((Only.refl k (k + 1) W).setCell k j (Nat.le_refl _) (by omega) (.int .i64 2)).size
  obtain ⟨w9, e9, ck9, ow9, be9⟩ := ans t5 (Nat.le_trans (Nat.le_trans (by omega) z3) (oz _)) b5 ow (by omega) (Nat.le_trans z3 (oz _))
  simp only [Bx.seti, Sx.put, HK.out] at e9
  have CM : Hid ((c.seti j 2).m = cutM b.m j) := cut_hit cm (by rw [← ES.out]; exact ht1) one
  have HE9 : Hid (w9 = _) := e9
  clear e9 z3 t5 b5 ow oz
  rw [one] at c0
  clear one
  rw [HK.out]
  go_wp2_with (fail)
  rw [← HE9.out]
  exact bodyPost_ret (results_cell_mid rfl _ _ (w.heap.size + 1) 0 _ _ rfl ck9.range Tryd.underlying26 rfl (by kernel_rfl)) rfl ⟨c.seti j 2, by simp [Bx.cells, Bx.seti, Sx.put, HK.out], .inl ⟨OK.out, CM.out⟩, ow9, be9⟩

end Go.Proofs.YtbipolfbkemmpaaDoor.Book
/- Whatever code is handed in: of the book and the slot that are drawn of it, the program's BookCut answers as the specification's does; who lives is cut off, nothing else has turned, and who would come in there is refused. Conditions: none. -/
namespace Go.Proofs.YtbipolfbkemmpaaDoor.Dra
open Go.ChangeShapes Go.WideShapes Go.ChangeAt Go.RowKit
open Aid Lst Book Rin
set_option maxRecDepth 100000
set_option linter.unusedVariables false
open Gs (halt_at)
set_option linter.unusedSimpArgs false
/- A copy of a list of a book's, and one number of it another one. -/
theorem in_copy {W6 : World} {q G cc j : Nat} {x : Bx} (hq : Ck W6 q x.cells) (fk : Fk .i64 x.i.n W6 G x.i.f) (hne : G ≠ q) (hj : j < x.i.n) (v : Int) :
    Ck ((W6.setCell ⟨q, 7, none⟩ (.slice (some ⟨G, 0, none⟩) x.i.n cc)).setCell ⟨G, j, none⟩ (.int .i64 v)) q (⟨x.s, x.p, x.h0, x.h1, x.h2, x.h3, x.o, ⟨some ⟨G, 0, none⟩, x.i.n, cc, Book.upd x.i.f j v⟩, x.e⟩ : Bx).cells ∧
    (⟨some ⟨G, 0, none⟩, x.i.n, cc, Book.upd x.i.f j v⟩ : Sx).At ((W6.setCell ⟨q, 7, none⟩ (.slice (some ⟨G, 0, none⟩) x.i.n cc)).setCell ⟨G, j, none⟩ (.int .i64 v)) := by
  refine ⟨(hq.set 7 (.slice (some ⟨G, 0, none⟩) x.i.n cc)).far _ (by show G ≠ q; exact hne) _, .inr ⟨G, 0, rfl, fun i hi => ?_⟩⟩
  have fk2 : Fk .i64 x.i.n (W6.setCell ⟨q, 7, none⟩ (.slice (some ⟨G, 0, none⟩) x.i.n cc)) G x.i.f := fun i hi => by
    have := fk i hi
    exact ⟨by rw [World.cell?_setCell_far _ _ _ _ (by show q ≠ G; omega)]; exact this.1, by simpa using this.2⟩
  have := fk2.set j v (Book.upd x.i.f j v) (by simp [Book.upd]) (fun i _ hne => by simp [Book.upd, hne])
  rw [Nat.zero_add]
  exact (this i hi).1

set_option maxHeartbeats 16000000 in
theorem law_bkcut {adr : Nat → Addr} (a : Option Addr) (len cap : Nat) (zs : List Int) (w : World) (h : Draw.Row w a len cap zs) (hle : ¬ (1048576 : Int) < len) (he : Ea adr w) :
    Calls Tryd.prog 8 #[.slice a len cap] w fun e w' => e = .returned (.bool true) ∧ Below w.heap.size w w' := by
  have HEa : Hid (Ea adr w) := he
  clear he
  go_enter Tryd.func8, Tryd.ntmps8
  go_wp2_with (fail)
  refine (dbcut_any a len cap zs w h).mono ?_
  rintro e w1 ⟨b, t, rfl, ba, wf, tot, oc, hB⟩
  have HT0 : Hid (St w [] [b] w1) := ⟨fun p hp => by simp at hp, fun z hz => by
    obtain rfl := List.mem_singleton.1 hz
    exact ba, hB⟩
  have HWf : Hid b.Wf := wf
  have HTO : Hid (b.total ≤ 1001 ∧ b.o.n ≤ b.o.c) := ⟨tot, oc⟩
  have HM0 : Hid (b.total ≤ 1000000000) := (by show b.total ≤ 1000000000; omega)
  have HL0 : Hid (St w _ _ _) := laid HT0.out b 26
  have HTH : Hid (World.there _ w1.heap.size 0 _) := (mk_bk w1 26 b).1
  clear ba hB wf tot oc h hle
  go_wp2_with (with_reducible refine halt_at (.store 26 (.tmp 3) (.tmp 16)) rfl ?_)
  unfold Hid
  refine wpList_store_mid rfl 26 _ _ rfl (w1.heap.size) 0 b.cells.toArray rfl rfl HTH.out (by kernel_rfl) (cells_one _) ?_
  clear HTH
  generalize World.setCells _ _ _ _ = V1 at HL0 ⊢
  have HT1 : Hid (St w [(w1.heap.size, b.cells)] [b] V1) := HL0.out
  clear HL0
  have HRB : Hid (World.rangeAt _ (w1.heap.size) 0 b.cells) := (HT1.out.r (w1.heap.size, b.cells) (by simp)).1
  go_wp2_with (first
      | refine wpList_load_mid rfl 26 _ rfl (w1.heap.size) 0 rfl b.cells _ HRB.out Tryd.underlying26 rfl (by kernel_rfl) ?_)
  refine (Book.cut_any b t _ (HT1.out.a b (by simp)) HM0.out HTO.out.2).mono ?_
  rintro e W2 ⟨x, rfl, hq, ho, hb⟩
  have HQ : Hid (CutQ b t x.m) := hq
  have HXC : Hid (x.o.n ≤ x.o.c) := ho.cap
  have HTX : Hid (x.total ≤ 1000) := (by
    show x.total ≤ 1000
    rcases hq with ⟨k, q⟩ | ⟨_, e⟩
    · exact ok_total (cut_ok k q)
    · simp only [noneM, none1, Bx.m, Bm.mk.injEq, Sx.m, Prod.mk.injEq] at e
      obtain ⟨_, ⟨h1, _⟩, ⟨h2, _⟩, ⟨h3, _⟩, ⟨h4, _⟩, ⟨h5, _⟩, ⟨h6, _⟩, ⟨h7, _⟩, ⟨h8, _⟩⟩ := e
      simp only [Bx.total]
      omega)
  have HT2 : Hid (St w [(w1.heap.size, b.cells)] [x, b] W2) := (HT1.out.later hb).book ho.at
  have HL2 : Hid (St w _ _ _) := laid HT2.out x 26
  have HTH : Hid (World.there _ W2.heap.size 0 _) := (mk_bk W2 26 x).1
  clear hq ho hb HRB HT1
  go_wp2_with (with_reducible refine halt_at (.store 26 (.tmp 5) (.tmp 20)) rfl ?_)
  unfold Hid
  refine wpList_store_mid rfl 26 _ _ rfl (W2.heap.size) 0 x.cells.toArray rfl rfl HTH.out (by kernel_rfl) (cells_one _) ?_
  clear HTH HT2
  generalize World.setCells _ _ _ _ = V2 at HL2 ⊢
  have HT2 : Hid (St w [(W2.heap.size, x.cells), (w1.heap.size, b.cells)] [x, b] V2) := HL2.out
  clear HL2
  go_wp2_with (fail)
  refine wp_region_held_drew (S := Sb w V2 [(W2.heap.size, x.cells), (w1.heap.size, b.cells)] [x, b]) (by kernel_rfl) (Sb.refl HT2.out).drew (fun hS => ?_)
  generalize World.drew _ = Y0 at hS ⊢
  refine tB 0 (v := .agg x.cells.toArray) (d := some 21) rfl rfl (yieldsIf_load_mid (by rfl) 26 _ rfl (W2.heap.size) 0 rfl x.cells _ (fun w' hw => (hw.r (W2.heap.size, x.cells) (by simp)).1) Tryd.underlying26 rfl (by kernel_rfl)) hS ?_
  try simp only [Act.put, s1, s2, s3]
  refine tB 1 (v := .agg b.cells.toArray) (d := some 22) rfl rfl (yieldsIf_load_mid (by rfl) 26 _ rfl (w1.heap.size) 0 rfl b.cells _ (fun w' hw => (hw.r (w1.heap.size, b.cells) (by simp)).1) Tryd.underlying26 rfl (by kernel_rfl)) hS ?_
  try simp only [Act.put, s1, s2, s3]
  refine tI 2 (v := .int .i64 t) (d := some 23) rfl rfl (fun w' hw => ?_) hS ?_
  · clear hw; go_simp
  try simp only [Act.put, s1, s2, s3]
  refine r1 3 rfl (fun K hK => ?_)
  have HI0 : Hid (Sb w V2 [(W2.heap.size, x.cells), (w1.heap.size, b.cells)] [x, b] Y0) := hS
  clear hS
  go_simp
  refine (Book.scut_any b t _ (HI0.out.a b (by simp)) HM0.out HWf.out).mono ?_
  rintro e Y1 ⟨y, rfl, q2, o2, hb⟩
  have HYM : Hid (x.m = y.m) := cutq_one HQ.out q2
  have HYA : Hid (y.At Y1) := o2.at
  clear q2 o2
  have HI1 : Hid (Sb w V2 [(W2.heap.size, x.cells), (w1.heap.size, b.cells)] [x, b] Y1) := HI0.out.later hb
  clear hb HI0
  go_wp2_with (fail)
  refine hK.out _ _ HI1.out (fun hS => ?_)
  clear hK K
  try simp only [Act.put, s1, s2, s3]
  refine r1 4 rfl (fun K hK => ?_)
  have HI1 : Hid (Sb w V2 [(W2.heap.size, x.cells), (w1.heap.size, b.cells)] [x, b] Y1) := hS
  clear hS
  go_simp
  refine (bsame_t x y _ (HI1.out.a x (by simp)) HYA.out (Nat.le_trans HTX.out (by omega)) (by rw [← Book.total_m HYM.out]; exact Nat.le_trans HTX.out (by omega)) (trim_m HYM.out)).mono ?_
  rintro e Y2 ⟨rfl, hb⟩
  have HI2 : Hid (Sb w V2 [(W2.heap.size, x.cells), (w1.heap.size, b.cells)] [x, b] Y2) := HI1.out.later hb
  clear hb HI1
  go_wp2_with (fail)
  refine hK.out _ _ HI2.out (fun hS => ?_)
  clear hK K
  try simp only [Act.put, s1, s2, s3]
  refine tI 5 (v := .bool false) (d := some 26) rfl rfl (fun w' hw => ?_) hS ?_
  · clear hw; go_simp
  try simp only [Act.put, s1, s2, s3]
  refine wpAnyH_done (by kernel_rfl) ?_ _
  have HT3 : Hid (St w [(W2.heap.size, x.cells), (w1.heap.size, b.cells)] [x, b] Y2) := hS.st
  clear hS HYM HYA
  have HRB : Hid (World.rangeAt _ (w1.heap.size) 0 b.cells) := (HT3.out.r (w1.heap.size, b.cells) (by simp)).1
  go_wp2_with (first
      | refine wpList_load_mid rfl 26 _ rfl (w1.heap.size) 0 rfl b.cells _ HRB.out Tryd.underlying26 rfl (by kernel_rfl) ?_)
  refine (sok_any b _ (HT3.out.a b (by simp)) HM0.out HWf.out).mono ?_
  rintro e Y3 ⟨⟨r, rfl, hr⟩, hb⟩
  have HT4 : Hid (St w [(W2.heap.size, x.cells), (w1.heap.size, b.cells)] [x, b] Y3) := HT3.out.later hb
  clear hb HT3 HRB
  cases r
  · have xn : x.p.n = 0 := by
      rcases HQ.out with ⟨q, _⟩ | ⟨_, q⟩
      · exact absurd (hr.2 q) (by simp)
      · exact congrArg (fun z => z.p.1) q
    have kP : Y3.cell? ⟨W2.heap.size, 1, none⟩ = some (.slice x.p.a x.p.n x.p.c) := (HT4.out.r (W2.heap.size, x.cells) (by simp)).1 1 _ rfl
    rw [xn] at kP
    go_wp2_with (fail)
    go_ret
    exact ⟨rfl, HT4.out.b⟩
  have okb : OkP b := hr.1 rfl
  clear hr
  have HXM : Hid (x.m = cutM b.m t) := (by
    rcases HQ.out with ⟨_, q⟩ | ⟨q, _⟩
    · exact q
    · exact absurd okb q)
  have HOB : Hid (OkP b) := okb
  have HOX : Hid (OkP x) := cut_ok okb HXM.out
  clear okb
  have HRX : Hid (World.rangeAt _ (W2.heap.size) 0 x.cells) := (HT4.out.r (W2.heap.size, x.cells) (by simp)).1
  go_wp2_with (first
      | refine wpList_load_mid rfl 26 _ rfl (W2.heap.size) 0 rfl x.cells _ HRX.out Tryd.underlying26 rfl (by kernel_rfl) ?_)
  refine (bookdo_any (a := adr) x ⟨1, t, 0, 0⟩ _ (HT4.out.a x (by simp)) (Nat.le_trans HTX.out (by omega)) (at_nil (HT4.out.a x (by simp))) HXC.out (HEa.out.later HT4.out.b)).mono ?_
  rintro e W5 ⟨z, c, m, rfl, hq, ho, hb⟩
  have HZQ : Hid (BdQ x ⟨1, t, 0, 0⟩ z c m) := hq
  have HT5 : Hid (St w [(W2.heap.size, x.cells), (w1.heap.size, b.cells)] [x, b] W5) := HT4.out.later hb
  have HL5 : Hid (St w _ _ _) := laid HT5.out z 26
  have HTH : Hid (World.there _ W5.heap.size 0 _) := (mk_bk W5 26 z).1
  clear hq ho hb HRX HT4
  go_wp2_with (with_reducible refine halt_at (.store 26 (.tmp 6) (.tmp 39)) rfl ?_)
  unfold Hid
  refine wpList_store_mid rfl 26 _ _ rfl (W5.heap.size) 0 z.cells.toArray rfl rfl HTH.out (by kernel_rfl) (cells_one _) ?_
  clear HTH HT5
  generalize World.setCells _ _ _ _ = V3 at HL5 ⊢
  have HT5 : Hid (St w [(W2.heap.size, x.cells), (w1.heap.size, b.cells)] [x, b] V3) := HL5.out.take (fun p hp => by simp at hp ⊢; exact .inr hp) (fun _ q => q)
  clear HL5
  have kS : V3.cell? ⟨w1.heap.size, 0, none⟩ = some (.int .i64 b.s) := (HT5.out.r (w1.heap.size, b.cells) (by simp)).1 0 _ rfl
  have kI : V3.cell? ⟨w1.heap.size, 7, none⟩ = some (.slice b.i.a b.i.n b.i.c) := (HT5.out.r (w1.heap.size, b.cells) (by simp)).1 7 _ rfl
  by_cases t0 : t < 0
  · have xb : x.m = b.m := HXM.out.trans (cut_miss (c := b) (b := b) rfl (fun g => by omega)).symm
    have HXB : Hid (x.trim.m = b.trim.m) := trim_m xb
    clear xb
    have HRX : Hid (World.rangeAt _ (W2.heap.size) 0 x.cells) := (HT5.out.r (W2.heap.size, x.cells) (by simp)).1
    have HRB : Hid (World.rangeAt _ (w1.heap.size) 0 b.cells) := (HT5.out.r (w1.heap.size, b.cells) (by simp)).1
    go_wp2_with (first
        | refine wpList_load_mid rfl 26 _ rfl (W2.heap.size) 0 rfl x.cells _ HRX.out Tryd.underlying26 rfl (by kernel_rfl) ?_
        | refine wpList_load_mid rfl 26 _ rfl (w1.heap.size) 0 rfl b.cells _ HRB.out Tryd.underlying26 rfl (by kernel_rfl) ?_)
    refine (bsame_t x b _ (HT5.out.a x (by simp)) (HT5.out.a b (by simp)) (Nat.le_trans HTX.out (by omega)) HM0.out HXB.out).mono ?_
    rintro e Y6 ⟨rfl, hb⟩
    have HT6 := HT5.out.later hb
    go_wp2_with (fail)
    go_ret
    exact ⟨rfl, HT6.b⟩
  by_cases t1 : b.s ≤ t
  · have t1' : t ≥ b.s := t1
    have xb : x.m = b.m := HXM.out.trans (cut_miss (c := b) (b := b) rfl (fun g => by omega)).symm
    have HXB : Hid (x.trim.m = b.trim.m) := trim_m xb
    clear xb
    have HRX : Hid (World.rangeAt _ (W2.heap.size) 0 x.cells) := (HT5.out.r (W2.heap.size, x.cells) (by simp)).1
    have HRB : Hid (World.rangeAt _ (w1.heap.size) 0 b.cells) := (HT5.out.r (w1.heap.size, b.cells) (by simp)).1
    go_wp2_with (first
        | refine wpList_load_mid rfl 26 _ rfl (W2.heap.size) 0 rfl x.cells _ HRX.out Tryd.underlying26 rfl (by kernel_rfl) ?_
        | refine wpList_load_mid rfl 26 _ rfl (w1.heap.size) 0 rfl b.cells _ HRB.out Tryd.underlying26 rfl (by kernel_rfl) ?_)
    refine (bsame_t x b _ (HT5.out.a x (by simp)) (HT5.out.a b (by simp)) (Nat.le_trans HTX.out (by omega)) HM0.out HXB.out).mono ?_
    rintro e Y6 ⟨rfl, hb⟩
    have HT6 := HT5.out.later hb
    go_wp2_with (fail)
    go_ret
    exact ⟨rfl, HT6.b⟩
  obtain ⟨j, rfl⟩ : ∃ j : Nat, t = j := ⟨t.toNat, by omega⟩
  have lb := HOB.out.1.1
  unfold LensP at lb
  rcases HT5.out.a b (by simp) b.i (by simp [Bx.lists]) with z0 | ⟨ki, oi, ea, g⟩
  · omega
  have ki1 := g j (by omega)
  have hjs : (j : Int) < b.s := by omega
  have hji : (j : Int) < b.i.n := by omega
  rw [ea] at kI
  clear g ea lb
  by_cases one : b.i.f j = 1
  case neg =>
    have ob : (b.i.f j != 1) = true := by simpa using one
    have xb : x.m = b.m := HXM.out.trans (cut_miss (c := b) (b := b) rfl (fun g => one (by simpa using g.2))).symm
    have HXB : Hid (x.trim.m = b.trim.m) := trim_m xb
    clear xb
    have HRX : Hid (World.rangeAt _ (W2.heap.size) 0 x.cells) := (HT5.out.r (W2.heap.size, x.cells) (by simp)).1
    have HRB : Hid (World.rangeAt _ (w1.heap.size) 0 b.cells) := (HT5.out.r (w1.heap.size, b.cells) (by simp)).1
    go_wp2_with (first
        | refine wpList_load_mid rfl 26 _ rfl (W2.heap.size) 0 rfl x.cells _ HRX.out Tryd.underlying26 rfl (by kernel_rfl) ?_
        | refine wpList_load_mid rfl 26 _ rfl (w1.heap.size) 0 rfl b.cells _ HRB.out Tryd.underlying26 rfl (by kernel_rfl) ?_)
    refine (bsame_t x b _ (HT5.out.a x (by simp)) (HT5.out.a b (by simp)) (Nat.le_trans HTX.out (by omega)) HM0.out HXB.out).mono ?_
    rintro e Y6 ⟨rfl, hb⟩
    have HT6 := HT5.out.later hb
    go_wp2_with (fail)
    go_ret
    exact ⟨rfl, HT6.b⟩
  rw [one] at ki1
  have xh : x.m = (b.seti j 2).m := HXM.out.trans (cut_hit (c := b) (b := b) rfl (by omega) one).symm
  have xi : x.i.n = b.i.n ∧ x.i.f = Book.upd b.i.f j 2 := by
    have q := congrArg (fun z => z.i) xh
    simp only [Bx.m, Bx.seti, Sx.put, Sx.m, Prod.mk.injEq] at q
    exact q
  have xs : x.s = b.s := congrArg (fun z => z.s) xh
  have c6 : c = 6 := by
    have d : DoP x ⟨1, j, 0, 0⟩ x 6 0 := .inr ⟨j, rfl, by omega, .inl ⟨rfl, .inl ⟨by rw [xi.2]; simp [Book.upd], rfl, rfl, rfl⟩⟩⟩
    exact (met_all HZQ.out (.inr ⟨HOX.out, x, rfl, d⟩)).2.1
  subst c6
  have HJN : Hid (j < x.i.n) := (by show j < x.i.n; omega)
  have HJ2 : Hid (x.i.f j = 2) := (by show x.i.f j = 2; rw [xi.2]; simp [Book.upd])
  have HYB : Hid (∀ (G cc : Nat), (⟨x.s, x.p, x.h0, x.h1, x.h2, x.h3, x.o, ⟨some ⟨G, 0, none⟩, x.i.n, cc, Book.upd x.i.f j 1⟩, x.e⟩ : Bx).m = b.m) := fun G cc => by
    have xh' := xh
    simp only [Bx.m, Bx.seti, Sx.put, Sx.m, Bm.mk.injEq, Prod.mk.injEq] at xh' ⊢
    obtain ⟨a0, a1, a2, a3, a4, a5, a6, a7, a8⟩ := xh'
    refine ⟨a0, a1, a2, a3, a4, a5, a6, ⟨a7.1, ?_⟩, a8⟩
    rw [a7.2]
    funext i
    unfold Book.upd
    by_cases e : i = j
    · subst e; simp [one]
    · simp [e]
  have HCX : Hid (∀ m, CutQ x j m → m = x.m) := fun m q => by
    rcases q with ⟨_, q⟩ | ⟨q, _⟩
    · rw [q]
      exact (cut_miss (c := x) (b := x) (t := (j : Int)) rfl (fun g => by have := g.2; rw [show ((j : Int)).toNat = j by simp, HJ2.out] at this; omega)).symm
    · exact absurd HOX.out q
  clear xh xi xs hjs HZQ HXM
  have HRX : Hid (World.rangeAt _ (W2.heap.size) 0 x.cells) := (HT5.out.r (W2.heap.size, x.cells) (by simp)).1
  go_wp2_with (first
      | refine wpList_load_mid rfl 26 _ rfl (W2.heap.size) 0 rfl x.cells _ HRX.out Tryd.underlying26 rfl (by kernel_rfl) ?_
      | with_reducible refine halt_at (.store 26 (.tmp 9) (.tmp 61)) rfl ?_)
  unfold Hid
  obtain ⟨m1, m2, m3⟩ := mk_bk V3 26 x
  have HTH : Hid (World.there _ V3.heap.size 0 _) := m1
  have HCY : Hid (Ck _ V3.heap.size x.cells) := m2
  have HB4 : Hid (Below V3.heap.size V3 _) := m3
  clear m1 m2 m3 kS kI ki1 HRX
  refine wpList_store_mid rfl 26 _ _ rfl (V3.heap.size) 0 x.cells.toArray rfl rfl HTH.out (by kernel_rfl) (cells_one _) ?_
  clear HTH
  generalize World.setCells _ _ _ _ = V4 at HCY HB4 ⊢
  have z4 : V3.heap.size < V4.heap.size := HCY.out.lt
  have kX : (V4.alloc (.cells #[] 3)).cell? ⟨W2.heap.size, 7, none⟩ = some (.slice x.i.a x.i.n x.i.c) := ((HT5.out.later (HB4.out.trans ((below1 V4 (.cells #[] 3)).mono (by omega)))).r (W2.heap.size, x.cells) (by simp)).1 7 _ rfl
  go_wp2_with (with_reducible refine halt_at (.call { callee := .builtin .append, args := #[.tmp 62, .tmp 64], argTypes := #[23, 23] }) rfl ?_)
  unfold Hid
  have hat : x.At (V4.alloc (.cells #[] 3)) := (HT5.out.later (HB4.out.trans ((below1 V4 (.cells #[] 3)).mono (by omega)))).a x (by simp)
  refine wpList_app rfl (.tmp 62) (.tmp 64) _ _ _ _ x.i.f _ rfl rfl rfl (hat x.i (by simp [Bx.lists])) (fun e => at_nil hat x.i (by simp [Bx.lists]) e) (by have := HTX.out; unfold Bx.total at this; omega) ?_
  intro v' W6 hq
  rcases hq with ⟨m0, _⟩ | ⟨_, cc, ⟨g1, g2⟩, rfl, fk, hb, hz⟩
  · have := HJN.out; omega
  have hG : ∀ X, (V4.alloc X).heap.size = V4.heap.size + 1 := fun X => by simp
  simp only [hG] at fk hb hz ⊢
  have HB6 : Hid (Below V3.heap.size V3 W6) := (HB4.out.trans ((below1 V4 (.cells #[] 3)).mono (by omega))).trans (hb.mono (by omega))
  have HC6 : Hid (Ck W6 V3.heap.size x.cells) := (HCY.out.below (below1 V4 (.cells #[] 3)) z4).below hb (by omega)
  have HFK : Hid (Fk .i64 x.i.n W6 (V4.heap.size + 1) x.i.f) := fk
  obtain ⟨c7, c8⟩ := HC6.out 7 _ rfl
  clear g1 g2 fk hb hz hG hat kX HCY HB4
  go_wp2_with (with_reducible refine halt_at (.load 23 (.tmp 67)) rfl ?_)
  unfold Hid
  have hne : V4.heap.size + 1 ≠ V3.heap.size := by omega
  have jn := HJN.out
  obtain ⟨q1, q2⟩ := in_copy (cc := cc) HC6.out HFK.out hne jn 1
  have HY1 : Hid (Ck _ V3.heap.size _) := q1
  have HY2 : Hid (Sx.At _ _) := q2
  have HB8 : Hid (Below V3.heap.size V3 _) := (HB6.out.setCell (p := ⟨V3.heap.size, 7, none⟩) (Nat.le_refl _) (.slice (some ⟨V4.heap.size + 1, 0, none⟩) x.i.n cc)).setCell (p := ⟨V4.heap.size + 1, j, none⟩) (by show V3.heap.size ≤ V4.heap.size + 1; omega) (.int .i64 1)
  have k7 : (W6.setCell ⟨V3.heap.size, 7, none⟩ (.slice (some ⟨V4.heap.size + 1, 0, none⟩) x.i.n cc)).cell? ⟨V3.heap.size, 7, none⟩ = some (.slice (some ⟨V4.heap.size + 1, 0, none⟩) x.i.n cc) := ((HC6.out.set 7 (.slice (some ⟨V4.heap.size + 1, 0, none⟩) x.i.n cc)) 7 _ rfl).1
  have k8 : (W6.setCell ⟨V3.heap.size, 7, none⟩ (.slice (some ⟨V4.heap.size + 1, 0, none⟩) x.i.n cc)).cell? ⟨V4.heap.size + 1, j, none⟩ = some (.int .i64 (x.i.f j)) := by
    rw [World.cell?_setCell_far _ _ _ _ (by show V3.heap.size ≠ V4.heap.size + 1; omega)]; exact (HFK.out j jn).1
  have k9 : (W6.setCell ⟨V3.heap.size, 7, none⟩ (.slice (some ⟨V4.heap.size + 1, 0, none⟩) x.i.n cc)).frozen? ⟨V4.heap.size + 1, j, none⟩ = false := by
    simpa using (HFK.out j jn).2
  have jx : (j : Int) < x.i.n := by omega
  clear q1 q2 c7 c8 HFK HC6 HB6
  go_wp2_with (fail)
  clear k7 k8 k9
  generalize hyb : (⟨x.s, x.p, x.h0, x.h1, x.h2, x.h3, x.o, ⟨some ⟨V4.heap.size + 1, 0, none⟩, x.i.n, cc, Book.upd x.i.f j 1⟩, x.e⟩ : Bx) = yb at HY1
  have HYM : Hid (yb.m = b.m) := (by rw [← hyb]; exact HYB.out _ _)
  generalize World.setCell _ _ _ = W8 at HY1 HY2 HB8 ⊢
  have HT8 : Hid (St w [(V3.heap.size, yb.cells), (W2.heap.size, x.cells), (w1.heap.size, b.cells)] [yb, x, b] W8) := (by
    have g := HT5.out.later HB8.out
    refine ⟨fun p hp => ?_, fun p hp => ?_, g.b⟩
    · rcases List.mem_cons.1 hp with rfl | hp
      · exact ⟨HY1.out.range, HY1.out.lt⟩
      · exact g.r p hp
    · rcases List.mem_cons.1 hp with rfl | hp
      · rw [← hyb]
        have gx := g.a x (by simp)
        intro s hs
        simp only [Bx.lists, List.mem_cons, List.not_mem_nil, or_false] at hs
        rcases hs with rfl | rfl | rfl | rfl | rfl | rfl | rfl | rfl
        all_goals first | exact HY2.out | exact gx _ (by simp [Bx.lists])
      · exact g.a p hp)
  have HTY : Hid (yb.total ≤ 1001) := (by show yb.total ≤ 1001; rw [Book.total_m HYM.out]; exact HTO.out.1)
  clear HY1 HY2 HB8 hyb
  rcases HT8.out.a x (by simp) x.i (by simp [Bx.lists]) with z0 | ⟨kx, ox, eax, gx⟩
  · omega
  have HGX : Hid (x.i.a = some ⟨kx, ox, none⟩) := eax
  have HX2 : Hid (W8.cell? ⟨kx, ox + j, none⟩ = some (.int .i64 2)) := (by rw [← HJ2.out]; exact gx j jn)
  clear eax gx
  refine wp_region_held_drew (S := Sb w W8 [(V3.heap.size, yb.cells), (W2.heap.size, x.cells), (w1.heap.size, b.cells)] [yb, x, b]) (by kernel_rfl) (Sb.refl HT8.out).drew (fun hS => ?_)
  generalize World.drew _ = Y0 at hS ⊢
  refine tI 0 (v := .pointer (some ⟨W2.heap.size, 7, none⟩)) (d := some 71) rfl rfl (fun w' hw => ?_) hS ?_
  · clear hw; go_simp
  try simp only [Act.put, s1, s2, s3]
  refine tI 1 (v := .slice (some ⟨kx, ox, none⟩) x.i.n x.i.c) (d := some 72) rfl rfl (fun w' hw => ?_) hS ?_
  · have q0 := (hw.r (W2.heap.size, x.cells) (by simp)).1 7 _ rfl; rw [HGX.out] at q0; clear hw; go_simp
  try simp only [Act.put, s1, s2, s3]
  refine tI 2 (v := .int .i64 j) (d := some 73) rfl rfl (fun w' hw => ?_) hS ?_
  · clear hw; go_simp
  try simp only [Act.put, s1, s2, s3]
  refine tI 3 (v := .pointer (some ⟨kx, ox + j, none⟩)) (d := some 74) rfl rfl (fun w' hw => ?_) hS ?_
  · clear hw; go_simp
  try simp only [Act.put, s1, s2, s3]
  refine tI 4 (v := .int .i64 2) (d := some 75) rfl rfl (fun w' hw => ?_) hS ?_
  · have q0 : w'.cell? ⟨kx, ox + j, none⟩ = some (.int .i64 2) := (hw.be.cell (p := ⟨kx, ox + j, none⟩) (World.block_lt_of_cell? _ _ HX2.out)).trans HX2.out; clear hw; go_simp
  try simp only [Act.put, s1, s2, s3]
  refine tI 5 (v := .bool true) (d := some 76) rfl rfl (fun w' hw => ?_) hS ?_
  · clear hw; go_simp
  try simp only [Act.put, s1, s2, s3]
  refine tI 6 (v := .bool true) (d := some 77) rfl rfl (fun w' hw => ?_) hS ?_
  · clear hw; go_simp
  try simp only [Act.put, s1, s2, s3]
  refine tB 7 (v := .agg yb.cells.toArray) (d := some 78) rfl rfl (yieldsIf_load_mid (by rfl) 26 _ rfl (V3.heap.size) 0 rfl yb.cells _ (fun w' hw => (hw.r (V3.heap.size, yb.cells) (by simp)).1) Tryd.underlying26 rfl (by kernel_rfl)) hS ?_
  try simp only [Act.put, s1, s2, s3]
  refine tB 8 (v := .agg b.cells.toArray) (d := some 79) rfl rfl (yieldsIf_load_mid (by rfl) 26 _ rfl (w1.heap.size) 0 rfl b.cells _ (fun w' hw => (hw.r (w1.heap.size, b.cells) (by simp)).1) Tryd.underlying26 rfl (by kernel_rfl)) hS ?_
  try simp only [Act.put, s1, s2, s3]
  refine r1 9 rfl (fun K hK => ?_)
  have HI0 : Hid (Sb w W8 [(V3.heap.size, yb.cells), (W2.heap.size, x.cells), (w1.heap.size, b.cells)] [yb, x, b] Y0) := hS
  clear hS
  go_simp
  refine (bsame_t yb b _ (HI0.out.a yb (by simp)) (HI0.out.a b (by simp)) (Nat.le_trans HTY.out (by omega)) HM0.out (trim_m HYM.out)).mono ?_
  rintro e Y1 ⟨rfl, hb⟩
  have HI1 : Hid (Sb w W8 [(V3.heap.size, yb.cells), (W2.heap.size, x.cells), (w1.heap.size, b.cells)] [yb, x, b] Y1) := HI0.out.later hb
  clear hb HI0
  go_wp2_with (fail)
  refine hK.out _ _ HI1.out (fun hS => ?_)
  clear hK K
  try simp only [Act.put, s1, s2, s3]
  refine tI 10 (v := .bool true) (d := some 81) rfl rfl (fun w' hw => ?_) hS ?_
  · clear hw; go_simp
  try simp only [Act.put, s1, s2, s3]
  refine tI 11 (v := .bool true) (d := some 82) rfl rfl (fun w' hw => ?_) hS ?_
  · clear hw; go_simp
  try simp only [Act.put, s1, s2, s3]
  refine tB 12 (v := .agg x.cells.toArray) (d := some 83) rfl rfl (yieldsIf_load_mid (by rfl) 26 _ rfl (W2.heap.size) 0 rfl x.cells _ (fun w' hw => (hw.r (W2.heap.size, x.cells) (by simp)).1) Tryd.underlying26 rfl (by kernel_rfl)) hS ?_
  try simp only [Act.put, s1, s2, s3]
  refine tI 13 (v := .int .i64 j) (d := some 84) rfl rfl (fun w' hw => ?_) hS ?_
  · clear hw; go_simp
  try simp only [Act.put, s1, s2, s3]
  refine tB 15 (v := .agg x.cells.toArray) (d := some 86) rfl rfl (yieldsIf_load_mid (by rfl) 26 _ rfl (W2.heap.size) 0 rfl x.cells _ (fun w' hw => (hw.r (W2.heap.size, x.cells) (by simp)).1) Tryd.underlying26 rfl (by kernel_rfl)) hS ?_
  try simp only [Act.put, s1, s2, s3]
  refine r1 14 rfl (fun K hK => ?_)
  have HI1 : Hid (Sb w W8 [(V3.heap.size, yb.cells), (W2.heap.size, x.cells), (w1.heap.size, b.cells)] [yb, x, b] Y1) := hS
  clear hS
  go_simp
  refine (Book.cut_any x j _ (HI1.out.a x (by simp)) (Nat.le_trans HTX.out (by omega)) HXC.out).mono ?_
  rintro e Y2 ⟨c9, rfl, q9, o9, hb⟩
  have HC9 : Hid (c9.m = x.m) := HCX.out _ q9
  have HA9 : Hid (c9.At Y2) := o9.at
  clear q9 o9
  have HI2 : Hid (Sb w W8 [(V3.heap.size, yb.cells), (W2.heap.size, x.cells), (w1.heap.size, b.cells)] [yb, x, b] Y2) := HI1.out.later hb
  clear hb HI1
  go_wp2_with (fail)
  refine hK.out _ _ HI2.out (fun hS => ?_)
  clear hK K
  try simp only [Act.put, s1, s2, s3]
  refine r1 16 rfl (fun K hK => ?_)
  have HI2 : Hid (Sb w W8 [(V3.heap.size, yb.cells), (W2.heap.size, x.cells), (w1.heap.size, b.cells)] [yb, x, b] Y2) := hS
  clear hS
  go_simp
  refine (bsame_t c9 x _ HA9.out (HI2.out.a x (by simp)) (by rw [Book.total_m HC9.out]; exact Nat.le_trans HTX.out (by omega)) (Nat.le_trans HTX.out (by omega)) (trim_m HC9.out)).mono ?_
  rintro e Y3 ⟨rfl, hb⟩
  have HI3 : Hid (Sb w W8 [(V3.heap.size, yb.cells), (W2.heap.size, x.cells), (w1.heap.size, b.cells)] [yb, x, b] Y3) := HI2.out.later hb
  clear hb HI2
  go_wp2_with (fail)
  refine hK.out _ _ HI3.out (fun hS => ?_)
  clear hK K
  try simp only [Act.put, s1, s2, s3]
  refine tI 17 (v := .bool true) (d := some 88) rfl rfl (fun w' hw => ?_) hS ?_
  · clear hw; go_simp
  try simp only [Act.put, s1, s2, s3]
  refine tI 18 (v := .bool true) (d := some 89) rfl rfl (fun w' hw => ?_) hS ?_
  · clear hw; go_simp
  try simp only [Act.put, s1, s2, s3]
  refine tI 19 (v := .int .i64 6) (d := some 90) rfl rfl (fun w' hw => ?_) hS ?_
  · clear hw; go_simp
  try simp only [Act.put, s1, s2, s3]
  refine tI 20 (v := .bool true) (d := some 91) rfl rfl (fun w' hw => ?_) hS ?_
  · clear hw; go_simp
  try simp only [Act.put, s1, s2, s3]
  refine tI 21 (v := .bool true) (d := some 92) rfl rfl (fun w' hw => ?_) hS ?_
  · clear hw; go_simp
  try simp only [Act.put, s1, s2, s3]
  refine tI 22 (v := .bool true) (d := some 2) rfl rfl (fun w' hw => ?_) hS ?_
  · clear hw; go_simp
  try simp only [Act.put, s1, s2, s3]
  refine wpAnyH_done (by kernel_rfl) ?_ _
  have HT9 : Hid (St w [(V3.heap.size, yb.cells), (W2.heap.size, x.cells), (w1.heap.size, b.cells)] [yb, x, b] Y3) := hS.st
  clear hS
  go_wp2_with (fail)
  go_ret
  exact ⟨rfl, HT9.out.b⟩
/- Codes too long are passed by. -/
theorem law_bkcut_all {adr : Nat → Addr} (a : Option Addr) (len cap : Nat) (zs : List Int) (w : World) (h : Bytes w a len cap zs) (he : Ea adr w) :
    Calls Tryd.prog 8 #[.slice a len cap] w fun e w' => e = .returned (.bool true) ∧ Below w.heap.size w w' := by
  have r0 := Draw.row_of h
  have m0 := r0.1
  unfold maxLen at m0
  by_cases h0 : (1048576 : Int) < len
  · go_enter Tryd.func8, Tryd.ntmps8
    go_wp2_with (fail)
    go_ret
    exact ⟨rfl, Below.refl _ _⟩
  · exact law_bkcut a len cap zs w r0 h0 he
end Go.Proofs.YtbipolfbkemmpaaDoor.Dra

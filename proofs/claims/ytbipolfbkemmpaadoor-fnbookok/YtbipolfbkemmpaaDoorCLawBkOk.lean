import Derived.Test.YtbipolfbkemmpaaDoorM53

/- Whatever code is handed in: of the book and the call that are drawn of it, the program's BookDo answers as the specification's does; of a book that is ok the book behind the call is ok, and the same where the call is refused; of another one none is answered. Conditions: none. -/
namespace Go.Proofs.YtbipolfbkemmpaaDoor.Dra
open Go.ChangeShapes Go.WideShapes Go.ChangeAt Go.RowKit
open Aid Lst Book Rin
set_option maxRecDepth 100000
set_option linter.unusedVariables false
open Gs (halt_at)
set_option linter.unusedSimpArgs false

set_option maxHeartbeats 16000000 in
theorem law_bkok {adr : Nat → Addr} (a : Option Addr) (len cap : Nat) (zs : List Int) (w : World) (h : Draw.Row w a len cap zs) (hle : ¬ (1048576 : Int) < len) (he : Ea adr w) :
    Calls Tryd.prog 3 #[.slice a len cap] w fun e w' => e = .returned (.bool true) ∧ Below w.heap.size w w' := by
  have HEa : Hid (Ea adr w) := he
  clear he
  go_enter Tryd.func3, Tryd.ntmps3
  go_wp2_with (fail)
  refine (dbdo_any a len cap zs w h).mono ?_
  rintro e w1 ⟨b, o, rfl, ba, wf, tot, oc, hB⟩
  have HT0 : Hid (St w [] [b] w1) := ⟨fun p hp => by simp at hp, fun z hz => by
    obtain rfl := List.mem_singleton.1 hz
    exact ba, hB⟩
  have HWf : Hid b.Wf := wf
  have HTO : Hid (b.total ≤ 1001 ∧ b.o.n ≤ b.o.c) := ⟨tot, oc⟩
  obtain ⟨l1, l2, l3, l4, l5⟩ := laid2 HT0.out b o 26 28
  have HA1 : Hid (World.there _ w1.heap.size 0 _) := l1
  have HA2 : Hid (World.there _ (w1.heap.size + 1) 0 _) := l2
  have HCK : Hid (Ck _ (w1.heap.size + 1) o.cells) := l3
  have HRB : Hid (World.rangeAt _ w1.heap.size 0 b.cells) := l4
  have HBL : Hid (Below w1.heap.size w1 _) := l5
  clear l1 l2 l3 l4 l5 ba hB wf tot oc h hle
  go_wp2_with (with_reducible refine halt_at (.store 26 (.tmp 3) (.tmp 17)) rfl ?_)
  unfold Hid
  refine wpList_store_mid rfl 26 _ _ rfl (w1.heap.size) 0 b.cells.toArray rfl rfl HA1.out (by kernel_rfl) (cells_one _) ?_
  go_wp2_with (with_reducible refine halt_at (.store 28 (.tmp 4) (.tmp 18)) rfl ?_)
  unfold Hid
  refine wpList_store_mid rfl 28 _ _ rfl (w1.heap.size + 1) 0 o.cells.toArray rfl rfl HA2.out (by kernel_rfl) (ox_one _) ?_
  clear HA1 HA2
  generalize World.setCells _ _ _ _ = V0 at HCK HRB HBL ⊢
  obtain ⟨p, ep⟩ : ∃ p, p = o := ⟨_, rfl⟩
  rw [← ep] at HCK
  have HT1 : Hid (St w [(w1.heap.size + 1, p.cells), (w1.heap.size, b.cells)] [b] V0) := st_two HT0.out HCK.out HRB.out HBL.out
  obtain ⟨V1, eV⟩ : ∃ V1, V1 = V0 := ⟨_, rfl⟩
  rw [← eV] at HT1 ⊢
  clear HCK HRB HBL ep eV
  have HRB : Hid (World.rangeAt _ (w1.heap.size) 0 b.cells) := (HT1.out.r (w1.heap.size, b.cells) (by simp)).1
  have HRO : Hid (World.rangeAt _ (w1.heap.size + 1) 0 p.cells) := (HT1.out.r (w1.heap.size + 1, p.cells) (by simp)).1
  go_wp2_with (first
      | refine wpList_load_mid rfl 26 _ rfl (w1.heap.size) 0 rfl b.cells _ HRB.out Tryd.underlying26 rfl (by kernel_rfl) ?_
      | refine wpList_load_mid rfl 28 _ rfl (w1.heap.size + 1) 0 rfl p.cells _ HRO.out Tryd.underlying28 rfl (by kernel_rfl) ?_)
  refine (bookdo_any (a := adr) b p _ (HT1.out.a b (by simp)) (by have := HTO.out.1; omega) (at_nil (HT1.out.a b (by simp))) HTO.out.2 (HEa.out.later HT1.out.b)).mono ?_
  rintro e W2 ⟨x, c, m, rfl, hq, ho, hb⟩
  have HQ : Hid (BdQ b p x c m) := hq
  have HXC : Hid (x.o.n ≤ x.o.c) := ho.cap
  have HT2 : Hid (St w [(w1.heap.size + 1, p.cells), (w1.heap.size, b.cells)] [x, b] W2) := (HT1.out.later hb).book ho.at
  have HL2 : Hid (St w _ _ _) := laid HT2.out x 26
  have HTH : Hid (World.there _ W2.heap.size 0 _) := (mk_bk W2 26 x).1
  clear hq ho hb HRB HRO HT1
  go_wp2_with (with_reducible refine halt_at (.store 26 (.tmp 5) (.tmp 23)) rfl ?_)
  unfold Hid
  refine wpList_store_mid rfl 26 _ _ rfl (W2.heap.size) 0 x.cells.toArray rfl rfl HTH.out (by kernel_rfl) (cells_one _) ?_
  clear HTH HT2
  generalize World.setCells _ _ _ _ = V2 at HL2 ⊢
  have HT3 : Hid (St w [(W2.heap.size, x.cells), (w1.heap.size + 1, p.cells), (w1.heap.size, b.cells)] [x, b] V2) := HL2.out
  clear HL2
  have HRB : Hid (World.rangeAt _ (w1.heap.size) 0 b.cells) := (HT3.out.r (w1.heap.size, b.cells) (by simp)).1
  have HRO : Hid (World.rangeAt _ (w1.heap.size + 1) 0 p.cells) := (HT3.out.r (w1.heap.size + 1, p.cells) (by simp)).1
  go_wp2_with (first
      | refine wpList_load_mid rfl 26 _ rfl (w1.heap.size) 0 rfl b.cells _ HRB.out Tryd.underlying26 rfl (by kernel_rfl) ?_
      | refine wpList_load_mid rfl 28 _ rfl (w1.heap.size + 1) 0 rfl p.cells _ HRO.out Tryd.underlying28 rfl (by kernel_rfl) ?_)
  refine (sbookdo_any b p _ (HT3.out.a b (by simp)) (by have := HTO.out.1; omega) (at_nil (HT3.out.a b (by simp))) HWf.out).mono ?_
  rintro e W3 ⟨y, d, m', rfl, hs, hl, hb⟩
  obtain ⟨gm, e1, e2⟩ := met_sb HQ.out hs
  subst e1
  subst e2
  obtain ⟨x1, f1, f2, f3, f4, f5⟩ := as_ex gm
  have HS : Hid (SbQ b p y c m) := hs
  have HXM : Hid (x1.m = y.m) := f2
  have HX1 : Hid (x1.o.n ≤ x1.o.c) := (by show x1.o.n ≤ x1.o.c; rw [f4, f5]; exact HXC.out)
  have HTY : Hid (y.total ≤ 1000) := sb_total hs
  have HTX : Hid (x1.total ≤ 1000) := (by show x1.total ≤ 1000; rw [Book.total_m f2]; exact HTY.out)
  have g3 := HT3.out.later hb
  have HT4 : Hid (St w [(W2.heap.size, x1.cells), (w1.heap.size + 1, p.cells), (w1.heap.size, b.cells)] [y, x1, b] W3) := (St.book (⟨by rw [f1]; exact g3.r, fun z hz => by
    simp only [List.mem_cons, List.not_mem_nil, or_false] at hz
    rcases hz with rfl | rfl
    · exact f3 _ (g3.a x (by simp))
    · exact g3.a z (by simp), g3.b⟩ : St w [(W2.heap.size, x1.cells), (w1.heap.size + 1, p.cells), (w1.heap.size, b.cells)] [x1, b] W3) hl.at)
  have HL4 : Hid (St w _ _ _) := laid HT4.out y 26
  have HTH : Hid (World.there _ W3.heap.size 0 _) := (mk_bk W3 26 y).1
  clear gm hs hl hb f1 f2 f3 f4 f5 g3 HQ HXC HT3 HRB HRO
  go_wp2_with (with_reducible refine halt_at (.store 26 (.tmp 8) (.tmp 30)) rfl ?_)
  unfold Hid
  refine wpList_store_mid rfl 26 _ _ rfl (W3.heap.size) 0 y.cells.toArray rfl rfl HTH.out (by kernel_rfl) (cells_one _) ?_
  clear HTH HT4
  generalize World.setCells _ _ _ _ = V3 at HL4 ⊢
  have HT : Hid (St w [(W3.heap.size, y.cells), (W2.heap.size, x1.cells), (w1.heap.size + 1, p.cells), (w1.heap.size, b.cells)] [y, x1, b] V3) := HL4.out
  clear HL4
  go_wp2_with (fail)
  have HSB : Hid (Sb w V3 [(W3.heap.size, y.cells), (W2.heap.size, x1.cells), (w1.heap.size + 1, p.cells), (w1.heap.size, b.cells)] [y, x1, b] V3) := Sb.refl HT.out
  have HM0 : Hid (b.total ≤ 1000000000) := (by have := HTO.out.1; show b.total ≤ 1000000000; omega)
  by_cases ok : OkP b
  · refine wp_region_held_drew (S := Sb w V3 [(W3.heap.size, y.cells), (W2.heap.size, x1.cells), (w1.heap.size + 1, p.cells), (w1.heap.size, b.cells)] [y, x1, b]) (by kernel_rfl) HSB.out.drew (fun hS => ?_)
    generalize World.drew _ = Y0 at hS ⊢
    refine tI 0 (v := .int .i64 c) (d := some 33) rfl rfl (fun w' hw => ?_) hS ?_
    · clear hw; go_simp
    try simp only [Act.put, s1, s2, s3]
    refine tI 1 (v := .int .i64 c) (d := some 34) rfl rfl (fun w' hw => ?_) hS ?_
    · clear hw; go_simp
    try simp only [Act.put, s1, s2, s3]
    refine tI 2 (v := .bool false) (d := some 35) rfl rfl (fun w' hw => ?_) hS ?_
    · clear hw; go_simp
    try simp only [Act.put, s1, s2, s3]
    refine tI 3 (v := .bool false) (d := some 36) rfl rfl (fun w' hw => ?_) hS ?_
    · clear hw; go_simp
    try simp only [Act.put, s1, s2, s3]
    refine tI 4 (v := .int .i64 m) (d := some 37) rfl rfl (fun w' hw => ?_) hS ?_
    · clear hw; go_simp
    try simp only [Act.put, s1, s2, s3]
    refine tI 5 (v := .int .i64 m) (d := some 38) rfl rfl (fun w' hw => ?_) hS ?_
    · clear hw; go_simp
    try simp only [Act.put, s1, s2, s3]
    refine tI 6 (v := .bool false) (d := some 39) rfl rfl (fun w' hw => ?_) hS ?_
    · clear hw; go_simp
    try simp only [Act.put, s1, s2, s3]
    refine tI 7 (v := .bool false) (d := some 40) rfl rfl (fun w' hw => ?_) hS ?_
    · clear hw; go_simp
    try simp only [Act.put, s1, s2, s3]
    refine tI 8 (v := .bool false) (d := some 41) rfl rfl (fun w' hw => ?_) hS ?_
    · clear hw; go_simp
    try simp only [Act.put, s1, s2, s3]
    refine tB 9 (v := .agg x1.cells.toArray) (d := some 42) rfl rfl (yieldsIf_load_mid (by rfl) 26 _ rfl (W2.heap.size) 0 rfl x1.cells _ (fun w' hw => (hw.r (W2.heap.size, x1.cells) (by simp)).1) Tryd.underlying26 rfl (by kernel_rfl)) hS ?_
    try simp only [Act.put, s1, s2, s3]
    refine tB 10 (v := .agg y.cells.toArray) (d := some 43) rfl rfl (yieldsIf_load_mid (by rfl) 26 _ rfl (W3.heap.size) 0 rfl y.cells _ (fun w' hw => (hw.r (W3.heap.size, y.cells) (by simp)).1) Tryd.underlying26 rfl (by kernel_rfl)) hS ?_
    try simp only [Act.put, s1, s2, s3]
    refine r1 11 rfl (fun K hK => ?_)
    have HI0 : Hid (Sb w V3 [(W3.heap.size, y.cells), (W2.heap.size, x1.cells), (w1.heap.size + 1, p.cells), (w1.heap.size, b.cells)] [y, x1, b] Y0) := hS
    clear hS
    go_simp
    refine (bsame_t x1 y _ (HI0.out.a x1 (by simp)) (HI0.out.a y (by simp)) (Nat.le_trans HTX.out (by omega)) (Nat.le_trans HTY.out (by omega)) (trim_m HXM.out)).mono ?_
    rintro e Y1 ⟨rfl, hb⟩
    have HI1 : Hid (Sb w V3 [(W3.heap.size, y.cells), (W2.heap.size, x1.cells), (w1.heap.size + 1, p.cells), (w1.heap.size, b.cells)] [y, x1, b] Y1) := HI0.out.later hb
    clear hb HI0
    go_wp2_with (fail)
    refine hK.out _ _ HI1.out (fun hS => ?_)
    clear hK K
    try simp only [Act.put, s1, s2, s3]
    refine tI 12 (v := .bool false) (d := some 45) rfl rfl (fun w' hw => ?_) hS ?_
    · clear hw; go_simp
    try simp only [Act.put, s1, s2, s3]
    refine tI 13 (v := .bool false) (d := some 46) rfl rfl (fun w' hw => ?_) hS ?_
    · clear hw; go_simp
    try simp only [Act.put, s1, s2, s3]
    refine tI 14 (v := .bool false) (d := some 47) rfl rfl (fun w' hw => ?_) hS ?_
    · clear hw; go_simp
    try simp only [Act.put, s1, s2, s3]
    refine tB 15 (v := .agg b.cells.toArray) (d := some 48) rfl rfl (yieldsIf_load_mid (by rfl) 26 _ rfl (w1.heap.size) 0 rfl b.cells _ (fun w' hw => (hw.r (w1.heap.size, b.cells) (by simp)).1) Tryd.underlying26 rfl (by kernel_rfl)) hS ?_
    try simp only [Act.put, s1, s2, s3]
    refine tB 17 (v := .agg b.cells.toArray) (d := some 50) rfl rfl (yieldsIf_load_mid (by rfl) 26 _ rfl (w1.heap.size) 0 rfl b.cells _ (fun w' hw => (hw.r (w1.heap.size, b.cells) (by simp)).1) Tryd.underlying26 rfl (by kernel_rfl)) hS ?_
    try simp only [Act.put, s1, s2, s3]
    refine r1 16 rfl (fun K hK => ?_)
    have HI1 : Hid (Sb w V3 [(W3.heap.size, y.cells), (W2.heap.size, x1.cells), (w1.heap.size + 1, p.cells), (w1.heap.size, b.cells)] [y, x1, b] Y1) := hS
    clear hS
    go_simp
    refine (Book.ok_any b _ (HI1.out.a b (by simp)) HM0.out HTO.out.2).mono ?_
    rintro e Y2 ⟨⟨r, rfl, hr⟩, hb⟩
    obtain rfl : r = true := hr.2 ok
    clear hr
    have HI2 : Hid (Sb w V3 [(W3.heap.size, y.cells), (W2.heap.size, x1.cells), (w1.heap.size + 1, p.cells), (w1.heap.size, b.cells)] [y, x1, b] Y2) := HI1.out.later hb
    clear hb HI1
    go_wp2_with (fail)
    refine hK.out _ _ HI2.out (fun hS => ?_)
    clear hK K
    try simp only [Act.put, s1, s2, s3]
    refine r1 18 rfl (fun K hK => ?_)
    have HI2 : Hid (Sb w V3 [(W3.heap.size, y.cells), (W2.heap.size, x1.cells), (w1.heap.size + 1, p.cells), (w1.heap.size, b.cells)] [y, x1, b] Y2) := hS
    clear hS
    go_simp
    refine (sok_any b _ (HI2.out.a b (by simp)) HM0.out HWf.out).mono ?_
    rintro e Y3 ⟨⟨r, rfl, hr⟩, hb⟩
    obtain rfl : r = true := hr.2 ok
    clear hr
    have HI3 : Hid (Sb w V3 [(W3.heap.size, y.cells), (W2.heap.size, x1.cells), (w1.heap.size + 1, p.cells), (w1.heap.size, b.cells)] [y, x1, b] Y3) := HI2.out.later hb
    clear hb HI2
    go_wp2_with (fail)
    refine hK.out _ _ HI3.out (fun hS => ?_)
    clear hK K
    try simp only [Act.put, s1, s2, s3]
    refine tI 19 (v := .bool false) (d := some 52) rfl rfl (fun w' hw => ?_) hS ?_
    · clear hw; go_simp
    try simp only [Act.put, s1, s2, s3]
    refine tI 20 (v := .bool false) (d := some 53) rfl rfl (fun w' hw => ?_) hS ?_
    · clear hw; go_simp
    try simp only [Act.put, s1, s2, s3]
    refine wpAnyH_done (by kernel_rfl) ?_ _
    have HTQ : Hid (St w [(W3.heap.size, y.cells), (W2.heap.size, x1.cells), (w1.heap.size + 1, p.cells), (w1.heap.size, b.cells)] [y, x1, b] Y3) := hS.st
    clear hS HSB
    have HRB : Hid (World.rangeAt _ (w1.heap.size) 0 b.cells) := (HTQ.out.r (w1.heap.size, b.cells) (by simp)).1
    go_wp2_with (first
        | refine wpList_load_mid rfl 26 _ rfl (w1.heap.size) 0 rfl b.cells _ HRB.out Tryd.underlying26 rfl (by kernel_rfl) ?_)
    refine (sok_any b _ (HTQ.out.a b (by simp)) HM0.out HWf.out).mono ?_
    rintro e Y4 ⟨⟨r, rfl, hr⟩, hb⟩
    obtain rfl : r = true := hr.2 ok
    have HT5 : Hid (St w [(W3.heap.size, y.cells), (W2.heap.size, x1.cells), (w1.heap.size + 1, p.cells), (w1.heap.size, b.cells)] [y, x1, b] Y4) := HTQ.out.later hb
    clear hr hb HTQ HRB
    obtain ⟨okY, c0, c13, hcc⟩ : OkP y ∧ 0 ≤ c ∧ c ≤ 13 ∧ (c = 0 ∨ c = 10 ∨ y.m = b.m) := by
      rcases HS.out with ⟨q, _⟩ | ⟨q, d0, e0, hd⟩
      · exact absurd ok q
      · obtain ⟨g1, g2, g3⟩ := do_code hd
        exact ⟨Book.do_ok ((ok_m e0).2 q) hd, g1, g2, g3.imp id (Or.imp id (fun e => by rw [e]; exact e0))⟩
    have HOX : Hid (OkP x1) := (ok_m HXM.out).2 okY
    have HOB : Hid (OkP b) := ok
    clear okY ok
    have HRX : Hid (World.rangeAt _ (W2.heap.size) 0 x1.cells) := (HT5.out.r (W2.heap.size, x1.cells) (by simp)).1
    go_wp2_with (first
        | refine wpList_load_mid rfl 26 _ rfl (W2.heap.size) 0 rfl x1.cells _ HRX.out Tryd.underlying26 rfl (by kernel_rfl) ?_)
    refine (Book.ok_any x1 _ (HT5.out.a x1 (by simp)) (Nat.le_trans HTX.out (by omega)) HX1.out).mono ?_
    rintro e Y5 ⟨⟨r, rfl, hr⟩, hb⟩
    obtain rfl : r = true := hr.2 HOX.out
    have HT6 : Hid (St w [(W3.heap.size, y.cells), (W2.heap.size, x1.cells), (w1.heap.size + 1, p.cells), (w1.heap.size, b.cells)] [y, x1, b] Y5) := HT5.out.later hb
    clear hr hb HT5 HRX
    have kS : Y5.cell? ⟨w1.heap.size + 1, 1, none⟩ = some (.int .i64 p.s) := (HT6.out.r (w1.heap.size + 1, p.cells) (by simp)).1 1 _ rfl
    have HRB : Hid (World.rangeAt _ (w1.heap.size) 0 b.cells) := (HT6.out.r (w1.heap.size, b.cells) (by simp)).1
    have HRX : Hid (World.rangeAt _ (W2.heap.size) 0 x1.cells) := (HT6.out.r (W2.heap.size, x1.cells) (by simp)).1
    by_cases ca : c = 0
    · subst ca
      clear hcc
      go_wp2_with (first
          | (refine load_want (by rfl) 26 _ rfl (W2.heap.size) 0 rfl x1.cells _ HRX.out Tryd.underlying26 rfl (by kernel_rfl) ?_)
          | (refine load_want (by rfl) 26 _ rfl (w1.heap.size) 0 rfl b.cells _ HRB.out Tryd.underlying26 rfl (by kernel_rfl) ?_))
      refine (Book.cut_any b p.s _ (HT6.out.a b (by simp)) HM0.out HTO.out.2).mono ?_
      rintro e Y8 ⟨c9, rfl, q9, o9, hb⟩
      have HT8 : Hid (St w [(W3.heap.size, y.cells), (W2.heap.size, x1.cells), (w1.heap.size + 1, p.cells), (w1.heap.size, b.cells)] [y, x1, b] Y8) := HT6.out.later hb
      have ok9 : OkP c9 := by
        rcases q9 with ⟨_, q⟩ | ⟨q, _⟩
        · exact cut_ok HOB.out q
        · exact absurd HOB.out q
      have t9 : c9.total ≤ 1000 := ok_total ok9
      have a9 := o9.at
      have HOC9 : Hid (c9.o.n ≤ c9.o.c) := o9.cap
      have HO9 : Hid (OkP c9) := ok9
      have HA9 : Hid (c9.At Y8) := a9
      clear o9 hb q9 ok9 a9
      go_wp2_with (fail)
      refine (Book.ok_any c9 _ HA9.out (Nat.le_trans t9 (by omega)) HOC9.out).mono ?_
      rintro e Y9 ⟨⟨r, rfl, hr⟩, hb⟩
      obtain rfl : r = true := hr.2 HO9.out
      have HT9 := HT8.out.later hb
      clear hr hb t9
      go_wp2_with (fail)
      go_ret
      exact ⟨rfl, HT9.b⟩
    by_cases cb : c = 10
    · subst cb
      clear hcc
      go_wp2_with (first
          | (refine load_want (by rfl) 26 _ rfl (W2.heap.size) 0 rfl x1.cells _ HRX.out Tryd.underlying26 rfl (by kernel_rfl) ?_)
          | (refine load_want (by rfl) 26 _ rfl (w1.heap.size) 0 rfl b.cells _ HRB.out Tryd.underlying26 rfl (by kernel_rfl) ?_))
      refine (Book.cut_any b p.s _ (HT6.out.a b (by simp)) HM0.out HTO.out.2).mono ?_
      rintro e Y8 ⟨c9, rfl, q9, o9, hb⟩
      have HT8 : Hid (St w [(W3.heap.size, y.cells), (W2.heap.size, x1.cells), (w1.heap.size + 1, p.cells), (w1.heap.size, b.cells)] [y, x1, b] Y8) := HT6.out.later hb
      have ok9 : OkP c9 := by
        rcases q9 with ⟨_, q⟩ | ⟨q, _⟩
        · exact cut_ok HOB.out q
        · exact absurd HOB.out q
      have t9 : c9.total ≤ 1000 := ok_total ok9
      have a9 := o9.at
      have HOC9 : Hid (c9.o.n ≤ c9.o.c) := o9.cap
      have HO9 : Hid (OkP c9) := ok9
      have HA9 : Hid (c9.At Y8) := a9
      clear o9 hb q9 ok9 a9
      go_wp2_with (fail)
      refine (Book.ok_any c9 _ HA9.out (Nat.le_trans t9 (by omega)) HOC9.out).mono ?_
      rintro e Y9 ⟨⟨r, rfl, hr⟩, hb⟩
      obtain rfl : r = true := hr.2 HO9.out
      have HT9 := HT8.out.later hb
      clear hr hb t9
      go_wp2_with (fail)
      go_ret
      exact ⟨rfl, HT9.b⟩
    have hym : y.m = b.m := by
      rcases hcc with q | q | q
      · exact absurd q ca
      · exact absurd q cb
      · exact q
    have HYM : Hid (x1.trim.m = b.trim.m) := trim_m (HXM.out.trans hym)
    have ca' : (c == 0) = false := by simpa using ca
    have cb' : (c == 10) = false := by simpa using cb
    clear hcc hym
    go_wp2_with (first
        | (refine load_want (by rfl) 26 _ rfl (W2.heap.size) 0 rfl x1.cells _ HRX.out Tryd.underlying26 rfl (by kernel_rfl) ?_)
        | (refine load_want (by rfl) 26 _ rfl (w1.heap.size) 0 rfl b.cells _ HRB.out Tryd.underlying26 rfl (by kernel_rfl) ?_))
    refine (bsame_t x1 b _ (HT6.out.a x1 (by simp)) (HT6.out.a b (by simp)) (Nat.le_trans HTX.out (by omega)) HM0.out HYM.out).mono ?_
    rintro e Y6 ⟨rfl, hb⟩
    have HT7 : Hid (St w [(W3.heap.size, y.cells), (W2.heap.size, x1.cells), (w1.heap.size + 1, p.cells), (w1.heap.size, b.cells)] [y, x1, b] Y6) := HT6.out.later hb
    clear hb kS HRB HRX
    have kS : Y6.cell? ⟨w1.heap.size + 1, 1, none⟩ = some (.int .i64 p.s) := (HT7.out.r (w1.heap.size + 1, p.cells) (by simp)).1 1 _ rfl
    have HRB : Hid (World.rangeAt _ (w1.heap.size) 0 b.cells) := (HT7.out.r (w1.heap.size, b.cells) (by simp)).1
    go_wp2_with (first
        | (refine load_want (by rfl) 26 _ rfl (w1.heap.size) 0 rfl b.cells _ HRB.out Tryd.underlying26 rfl (by kernel_rfl) ?_))
    refine (Book.cut_any b p.s _ (HT7.out.a b (by simp)) HM0.out HTO.out.2).mono ?_
    rintro e Y8 ⟨c9, rfl, q9, o9, hb⟩
    have HT8 : Hid (St w [(W3.heap.size, y.cells), (W2.heap.size, x1.cells), (w1.heap.size + 1, p.cells), (w1.heap.size, b.cells)] [y, x1, b] Y8) := HT7.out.later hb
    have ok9 : OkP c9 := by
      rcases q9 with ⟨_, q⟩ | ⟨q, _⟩
      · exact cut_ok HOB.out q
      · exact absurd HOB.out q
    have t9 : c9.total ≤ 1000 := ok_total ok9
    have a9 := o9.at
    have HOC9 : Hid (c9.o.n ≤ c9.o.c) := o9.cap
    have HO9 : Hid (OkP c9) := ok9
    have HA9 : Hid (c9.At Y8) := a9
    clear o9 hb q9 ok9 a9
    go_wp2_with (fail)
    refine (Book.ok_any c9 _ HA9.out (Nat.le_trans t9 (by omega)) HOC9.out).mono ?_
    rintro e Y9 ⟨⟨r, rfl, hr⟩, hb⟩
    obtain rfl : r = true := hr.2 HO9.out
    have HT9 := HT8.out.later hb
    clear hr hb t9
    go_wp2_with (fail)
    go_ret
    exact ⟨rfl, HT9.b⟩
  · refine wp_region_held_drew (S := Sb w V3 [(W3.heap.size, y.cells), (W2.heap.size, x1.cells), (w1.heap.size + 1, p.cells), (w1.heap.size, b.cells)] [y, x1, b]) (by kernel_rfl) HSB.out.drew (fun hS => ?_)
    generalize World.drew _ = Y0 at hS ⊢
    refine tI 0 (v := .int .i64 c) (d := some 33) rfl rfl (fun w' hw => ?_) hS ?_
    · clear hw; go_simp
    try simp only [Act.put, s1, s2, s3]
    refine tI 1 (v := .int .i64 c) (d := some 34) rfl rfl (fun w' hw => ?_) hS ?_
    · clear hw; go_simp
    try simp only [Act.put, s1, s2, s3]
    refine tI 2 (v := .bool false) (d := some 35) rfl rfl (fun w' hw => ?_) hS ?_
    · clear hw; go_simp
    try simp only [Act.put, s1, s2, s3]
    refine tI 3 (v := .bool false) (d := some 36) rfl rfl (fun w' hw => ?_) hS ?_
    · clear hw; go_simp
    try simp only [Act.put, s1, s2, s3]
    refine tI 4 (v := .int .i64 m) (d := some 37) rfl rfl (fun w' hw => ?_) hS ?_
    · clear hw; go_simp
    try simp only [Act.put, s1, s2, s3]
    refine tI 5 (v := .int .i64 m) (d := some 38) rfl rfl (fun w' hw => ?_) hS ?_
    · clear hw; go_simp
    try simp only [Act.put, s1, s2, s3]
    refine tI 6 (v := .bool false) (d := some 39) rfl rfl (fun w' hw => ?_) hS ?_
    · clear hw; go_simp
    try simp only [Act.put, s1, s2, s3]
    refine tI 7 (v := .bool false) (d := some 40) rfl rfl (fun w' hw => ?_) hS ?_
    · clear hw; go_simp
    try simp only [Act.put, s1, s2, s3]
    refine tI 8 (v := .bool false) (d := some 41) rfl rfl (fun w' hw => ?_) hS ?_
    · clear hw; go_simp
    try simp only [Act.put, s1, s2, s3]
    refine tB 9 (v := .agg x1.cells.toArray) (d := some 42) rfl rfl (yieldsIf_load_mid (by rfl) 26 _ rfl (W2.heap.size) 0 rfl x1.cells _ (fun w' hw => (hw.r (W2.heap.size, x1.cells) (by simp)).1) Tryd.underlying26 rfl (by kernel_rfl)) hS ?_
    try simp only [Act.put, s1, s2, s3]
    refine tB 10 (v := .agg y.cells.toArray) (d := some 43) rfl rfl (yieldsIf_load_mid (by rfl) 26 _ rfl (W3.heap.size) 0 rfl y.cells _ (fun w' hw => (hw.r (W3.heap.size, y.cells) (by simp)).1) Tryd.underlying26 rfl (by kernel_rfl)) hS ?_
    try simp only [Act.put, s1, s2, s3]
    refine r1 11 rfl (fun K hK => ?_)
    have HI0 : Hid (Sb w V3 [(W3.heap.size, y.cells), (W2.heap.size, x1.cells), (w1.heap.size + 1, p.cells), (w1.heap.size, b.cells)] [y, x1, b] Y0) := hS
    clear hS
    go_simp
    refine (bsame_t x1 y _ (HI0.out.a x1 (by simp)) (HI0.out.a y (by simp)) (Nat.le_trans HTX.out (by omega)) (Nat.le_trans HTY.out (by omega)) (trim_m HXM.out)).mono ?_
    rintro e Y1 ⟨rfl, hb⟩
    have HI1 : Hid (Sb w V3 [(W3.heap.size, y.cells), (W2.heap.size, x1.cells), (w1.heap.size + 1, p.cells), (w1.heap.size, b.cells)] [y, x1, b] Y1) := HI0.out.later hb
    clear hb HI0
    go_wp2_with (fail)
    refine hK.out _ _ HI1.out (fun hS => ?_)
    clear hK K
    try simp only [Act.put, s1, s2, s3]
    refine tI 12 (v := .bool false) (d := some 45) rfl rfl (fun w' hw => ?_) hS ?_
    · clear hw; go_simp
    try simp only [Act.put, s1, s2, s3]
    refine tI 13 (v := .bool false) (d := some 46) rfl rfl (fun w' hw => ?_) hS ?_
    · clear hw; go_simp
    try simp only [Act.put, s1, s2, s3]
    refine tI 14 (v := .bool false) (d := some 47) rfl rfl (fun w' hw => ?_) hS ?_
    · clear hw; go_simp
    try simp only [Act.put, s1, s2, s3]
    refine tB 15 (v := .agg b.cells.toArray) (d := some 48) rfl rfl (yieldsIf_load_mid (by rfl) 26 _ rfl (w1.heap.size) 0 rfl b.cells _ (fun w' hw => (hw.r (w1.heap.size, b.cells) (by simp)).1) Tryd.underlying26 rfl (by kernel_rfl)) hS ?_
    try simp only [Act.put, s1, s2, s3]
    refine tB 17 (v := .agg b.cells.toArray) (d := some 50) rfl rfl (yieldsIf_load_mid (by rfl) 26 _ rfl (w1.heap.size) 0 rfl b.cells _ (fun w' hw => (hw.r (w1.heap.size, b.cells) (by simp)).1) Tryd.underlying26 rfl (by kernel_rfl)) hS ?_
    try simp only [Act.put, s1, s2, s3]
    refine r1 16 rfl (fun K hK => ?_)
    have HI1 : Hid (Sb w V3 [(W3.heap.size, y.cells), (W2.heap.size, x1.cells), (w1.heap.size + 1, p.cells), (w1.heap.size, b.cells)] [y, x1, b] Y1) := hS
    clear hS
    go_simp
    refine (Book.ok_any b _ (HI1.out.a b (by simp)) HM0.out HTO.out.2).mono ?_
    rintro e Y2 ⟨⟨r, rfl, hr⟩, hb⟩
    obtain rfl : r = false := by cases r; rfl; exact absurd (hr.1 rfl) ok
    clear hr
    have HI2 : Hid (Sb w V3 [(W3.heap.size, y.cells), (W2.heap.size, x1.cells), (w1.heap.size + 1, p.cells), (w1.heap.size, b.cells)] [y, x1, b] Y2) := HI1.out.later hb
    clear hb HI1
    go_wp2_with (fail)
    refine hK.out _ _ HI2.out (fun hS => ?_)
    clear hK K
    try simp only [Act.put, s1, s2, s3]
    refine r1 18 rfl (fun K hK => ?_)
    have HI2 : Hid (Sb w V3 [(W3.heap.size, y.cells), (W2.heap.size, x1.cells), (w1.heap.size + 1, p.cells), (w1.heap.size, b.cells)] [y, x1, b] Y2) := hS
    clear hS
    go_simp
    refine (sok_any b _ (HI2.out.a b (by simp)) HM0.out HWf.out).mono ?_
    rintro e Y3 ⟨⟨r, rfl, hr⟩, hb⟩
    obtain rfl : r = false := by cases r; rfl; exact absurd (hr.1 rfl) ok
    clear hr
    have HI3 : Hid (Sb w V3 [(W3.heap.size, y.cells), (W2.heap.size, x1.cells), (w1.heap.size + 1, p.cells), (w1.heap.size, b.cells)] [y, x1, b] Y3) := HI2.out.later hb
    clear hb HI2
    go_wp2_with (fail)
    refine hK.out _ _ HI3.out (fun hS => ?_)
    clear hK K
    try simp only [Act.put, s1, s2, s3]
    refine tI 19 (v := .bool false) (d := some 52) rfl rfl (fun w' hw => ?_) hS ?_
    · clear hw; go_simp
    try simp only [Act.put, s1, s2, s3]
    refine tI 20 (v := .bool false) (d := some 53) rfl rfl (fun w' hw => ?_) hS ?_
    · clear hw; go_simp
    try simp only [Act.put, s1, s2, s3]
    refine wpAnyH_done (by kernel_rfl) ?_ _
    have HTQ : Hid (St w [(W3.heap.size, y.cells), (W2.heap.size, x1.cells), (w1.heap.size + 1, p.cells), (w1.heap.size, b.cells)] [y, x1, b] Y3) := hS.st
    clear hS HSB
    have HRB : Hid (World.rangeAt _ (w1.heap.size) 0 b.cells) := (HTQ.out.r (w1.heap.size, b.cells) (by simp)).1
    go_wp2_with (first
        | refine wpList_load_mid rfl 26 _ rfl (w1.heap.size) 0 rfl b.cells _ HRB.out Tryd.underlying26 rfl (by kernel_rfl) ?_)
    refine (sok_any b _ (HTQ.out.a b (by simp)) HM0.out HWf.out).mono ?_
    rintro e Y4 ⟨⟨r, rfl, hr⟩, hb⟩
    obtain rfl : r = false := by cases r; rfl; exact absurd (hr.1 rfl) ok
    have HT5 : Hid (St w [(W3.heap.size, y.cells), (W2.heap.size, x1.cells), (w1.heap.size + 1, p.cells), (w1.heap.size, b.cells)] [y, x1, b] Y4) := HTQ.out.later hb
    clear hr hb HTQ HRB
    obtain ⟨c13, xn⟩ : c = 13 ∧ x1.p.n = 0 := by
      rcases HS.out with ⟨_, q1, q2, _⟩ | ⟨q, _⟩
      · refine ⟨q2, ?_⟩
        have q3 := congrArg (fun z => z.p.1) (HXM.out.trans q1)
        exact q3
      · exact absurd q ok
    subst c13
    have kP : Y4.cell? ⟨W2.heap.size, 1, none⟩ = some (.slice x1.p.a x1.p.n x1.p.c) := (HT5.out.r (W2.heap.size, x1.cells) (by simp)).1 1 _ rfl
    rw [xn] at kP
    go_wp2_with (fail)
    go_ret
    exact ⟨rfl, HT5.out.b⟩
/- Codes too long are passed by. -/
theorem law_bkok_all {adr : Nat → Addr} (a : Option Addr) (len cap : Nat) (zs : List Int) (w : World) (h : Bytes w a len cap zs) (he : Ea adr w) :
    Calls Tryd.prog 3 #[.slice a len cap] w fun e w' => e = .returned (.bool true) ∧ Below w.heap.size w w' := by
  have r0 := Draw.row_of h
  have m0 := r0.1
  unfold maxLen at m0
  by_cases h0 : (1048576 : Int) < len
  · go_enter Tryd.func3, Tryd.ntmps3
    go_wp2_with (fail)
    go_ret
    exact ⟨rfl, Below.refl _ _⟩
  · exact law_bkok a len cap zs w r0 h0 he
end Go.Proofs.YtbipolfbkemmpaaDoor.Dra

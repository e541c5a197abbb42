import Derived.Test.YtbipolfbkemmpaaDoorM53

/- Whatever code is handed in: of the book and the giving back that are drawn of it, the program's BookDo has the specification's code; a room of a page that stays open is the next one of its size that is given, and the book is as it was. Conditions: none. -/
namespace Go.Proofs.YtbipolfbkemmpaaDoor.Dra
open Go.ChangeShapes Go.WideShapes Go.ChangeAt Go.RowKit
open Aid Lst Book Rin
set_option maxRecDepth 100000
set_option linter.unusedVariables false
open Gs (halt_at)
set_option linter.unusedSimpArgs false

set_option maxHeartbeats 16000000 in
theorem law_bklast {adr : Nat → Addr} (a : Option Addr) (len cap : Nat) (zs : List Int) (w : World) (h : Draw.Row w a len cap zs) (hle : ¬ (1048576 : Int) < len) (he : Ea adr w) :
    Calls Tryd.prog 9 #[.slice a len cap] w fun e w' => e = .returned (.bool true) ∧ Below w.heap.size w w' := by
  have HEa : Hid (Ea adr w) := he
  clear he
  go_enter Tryd.func9, Tryd.ntmps9
  go_wp2_with (fail)
  refine (dbdo_any a len cap zs w h).mono ?_
  rintro e w1 ⟨b, o, rfl, ba, wf, tot, oc, hB⟩
  have HT0 : Hid (St w [] [b] w1) := ⟨fun p hp => by simp at hp, fun z hz => by
    obtain rfl := List.mem_singleton.1 hz
    exact ba, hB⟩
  have HWf : Hid b.Wf := wf
  have HTO : Hid (b.total ≤ 1001 ∧ b.o.n ≤ b.o.c) := ⟨tot, oc⟩
  obtain ⟨l1, l2, l3, l4, l5⟩ := laid2 HT0.out b o 26 28
  have HA1 : Hid (World.there _ w1.heap.size 0 _) := l1
  have HA2 : Hid (World.there _ (w1.heap.size + 1) 0 _) := l2
  have HCK : Hid (Ck _ (w1.heap.size + 1) o.cells) := l3
  have HRB : Hid (World.rangeAt _ w1.heap.size 0 b.cells) := l4
  have HBL : Hid (Below w1.heap.size w1 _) := l5
  clear l1 l2 l3 l4 l5 ba hB wf tot oc h hle
  go_wp2_with (with_reducible refine halt_at (.store 26 (.tmp 3) (.tmp 21)) rfl ?_)
  unfold Hid
  refine wpList_store_mid rfl 26 _ _ rfl (w1.heap.size) 0 b.cells.toArray rfl rfl HA1.out (by kernel_rfl) (cells_one _) ?_
  go_wp2_with (with_reducible refine halt_at (.store 28 (.tmp 4) (.tmp 22)) rfl ?_)
  unfold Hid
  refine wpList_store_mid rfl 28 _ _ rfl (w1.heap.size + 1) 0 o.cells.toArray rfl rfl HA2.out (by kernel_rfl) (ox_one _) ?_
  clear HA1 HA2
  generalize World.setCells _ _ _ _ = V0 at HCK HRB HBL ⊢
  obtain ⟨c0, c1⟩ := HCK.out 0 _ rfl
  obtain ⟨k1, k2, k3⟩ := kind_set 3 HCK.out HRB.out HBL.out
  have HK1 : Hid (Ck _ (w1.heap.size + 1) _) := k1
  have HK2 : Hid (World.rangeAt _ w1.heap.size 0 b.cells) := k2
  have HK3 : Hid (Below w1.heap.size w1 _) := k3
  clear k1 k2 k3 HCK HRB HBL
  go_wp2_with (with_reducible refine halt_at (.load 26 (.tmp 3)) rfl ?_)
  unfold Hid
  clear c0 c1
  generalize World.setCell _ _ _ = V1 at HK1 HK2 HK3 ⊢
  obtain ⟨p, ep⟩ : ∃ p : Ox, p = ⟨3, o.s, o.a, o.b⟩ := ⟨_, rfl⟩
  rw [← ep] at HK1
  have HPK : Hid (p.k = 3) := (by show p.k = 3; rw [ep])
  have HT1 : Hid (St w [(w1.heap.size + 1, p.cells), (w1.heap.size, b.cells)] [b] V1) := st_two HT0.out HK1.out HK2.out HK3.out
  clear HK1 HK2 HK3 ep
  have HRB : Hid (World.rangeAt _ (w1.heap.size) 0 b.cells) := (HT1.out.r (w1.heap.size, b.cells) (by simp)).1
  have kA : V1.cell? ⟨w1.heap.size + 1, 2, none⟩ = some (.int .i64 p.a) := (HT1.out.r (w1.heap.size + 1, p.cells) (by simp)).1 2 _ rfl
  go_wp2_with (first
      | refine wpList_load_mid rfl 26 _ rfl (w1.heap.size) 0 rfl b.cells _ HRB.out Tryd.underlying26 rfl (by kernel_rfl) ?_)
  refine (room_any b p.a _ (HT1.out.a b (by simp)) (by have := HTO.out.1; omega) HTO.out.2).mono ?_
  rintro e V1' ⟨⟨rr, rfl, hr⟩, hb⟩
  have HRM : Hid (RoomQ b p.a rr) := hr
  replace HT1 : Hid (St w [(w1.heap.size + 1, p.cells), (w1.heap.size, b.cells)] [b] V1') := HT1.out.later hb
  clear hr hb kA HRB
  have HRB : Hid (World.rangeAt _ (w1.heap.size) 0 b.cells) := (HT1.out.r (w1.heap.size, b.cells) (by simp)).1
  have HRO : Hid (World.rangeAt _ (w1.heap.size + 1) 0 p.cells) := (HT1.out.r (w1.heap.size + 1, p.cells) (by simp)).1
  go_wp2_with (first
      | refine wpList_load_mid rfl 26 _ rfl (w1.heap.size) 0 rfl b.cells _ HRB.out Tryd.underlying26 rfl (by kernel_rfl) ?_
      | refine wpList_load_mid rfl 28 _ rfl (w1.heap.size + 1) 0 rfl p.cells _ HRO.out Tryd.underlying28 rfl (by kernel_rfl) ?_)
  refine (bookdo_any (a := adr) b p _ (HT1.out.a b (by simp)) (by have := HTO.out.1; omega) (at_nil (HT1.out.a b (by simp))) HTO.out.2 (HEa.out.later HT1.out.b)).mono ?_
  rintro e W2 ⟨x, c, m, rfl, hq, ho, hb⟩
  have HQ : Hid (BdQ b p x c m) := hq
  have HXC : Hid (x.o.n ≤ x.o.c) := ho.cap
  have HT2 : Hid (St w [(w1.heap.size + 1, p.cells), (w1.heap.size, b.cells)] [x, b] W2) := (HT1.out.later hb).book ho.at
  have HL2 : Hid (St w _ _ _) := laid HT2.out x 26
  have HTH : Hid (World.there _ W2.heap.size 0 _) := (mk_bk W2 26 x).1
  clear hq ho hb HRB HRO HT1
  go_wp2_with (with_reducible refine halt_at (.store 26 (.tmp 6) (.tmp 32)) rfl ?_)
  unfold Hid
  refine wpList_store_mid rfl 26 _ _ rfl (W2.heap.size) 0 x.cells.toArray rfl rfl HTH.out (by kernel_rfl) (cells_one _) ?_
  clear HTH HT2
  generalize World.setCells _ _ _ _ = V2 at HL2 ⊢
  have HT3 : Hid (St w [(W2.heap.size, x.cells), (w1.heap.size + 1, p.cells), (w1.heap.size, b.cells)] [x, b] V2) := HL2.out
  clear HL2
  have HRB : Hid (World.rangeAt _ (w1.heap.size) 0 b.cells) := (HT3.out.r (w1.heap.size, b.cells) (by simp)).1
  have HRO : Hid (World.rangeAt _ (w1.heap.size + 1) 0 p.cells) := (HT3.out.r (w1.heap.size + 1, p.cells) (by simp)).1
  go_wp2_with (first
      | refine wpList_load_mid rfl 26 _ rfl (w1.heap.size) 0 rfl b.cells _ HRB.out Tryd.underlying26 rfl (by kernel_rfl) ?_
      | refine wpList_load_mid rfl 28 _ rfl (w1.heap.size + 1) 0 rfl p.cells _ HRO.out Tryd.underlying28 rfl (by kernel_rfl) ?_)
  refine (sbookdo_any b p _ (HT3.out.a b (by simp)) (by have := HTO.out.1; omega) (at_nil (HT3.out.a b (by simp))) HWf.out).mono ?_
  rintro e W3 ⟨y, d, m', rfl, hs, hl, hb⟩
  obtain ⟨gm, e1, e2⟩ := met_sb HQ.out hs
  subst e1
  subst e2
  obtain ⟨x1, f1, f2, f3, f4, f5⟩ := as_ex gm
  have HS : Hid (SbQ b p y c m) := hs
  have HXM : Hid (x1.m = y.m) := f2
  have HX1 : Hid (x1.o.n ≤ x1.o.c) := (by show x1.o.n ≤ x1.o.c; rw [f4, f5]; exact HXC.out)
  have HTY : Hid (y.total ≤ 1000) := sb_total hs
  have HTX : Hid (x1.total ≤ 1000) := (by show x1.total ≤ 1000; rw [Book.total_m f2]; exact HTY.out)
  have g3 := HT3.out.later hb
  have HT4 : Hid (St w [(W2.heap.size, x1.cells), (w1.heap.size + 1, p.cells), (w1.heap.size, b.cells)] [y, x1, b] W3) := (St.book (⟨by rw [f1]; exact g3.r, fun z hz => by
    simp only [List.mem_cons, List.not_mem_nil, or_false] at hz
    rcases hz with rfl | rfl
    · exact f3 _ (g3.a x (by simp))
    · exact g3.a z (by simp), g3.b⟩ : St w [(W2.heap.size, x1.cells), (w1.heap.size + 1, p.cells), (w1.heap.size, b.cells)] [x1, b] W3) hl.at)
  have HL4 : Hid (St w _ _ _) := laid HT4.out y 26
  have HTH : Hid (World.there _ W3.heap.size 0 _) := (mk_bk W3 26 y).1
  clear gm hs hl hb f1 f2 f3 f4 f5 g3 HQ HXC HT3 HRB HRO
  go_wp2_with (with_reducible refine halt_at (.store 26 (.tmp 9) (.tmp 39)) rfl ?_)
  unfold Hid
  refine wpList_store_mid rfl 26 _ _ rfl (W3.heap.size) 0 y.cells.toArray rfl rfl HTH.out (by kernel_rfl) (cells_one _) ?_
  clear HTH HT4
  generalize World.setCells _ _ _ _ = V3 at HL4 ⊢
  have HT : Hid (St w [(W3.heap.size, y.cells), (W2.heap.size, x1.cells), (w1.heap.size + 1, p.cells), (w1.heap.size, b.cells)] [y, x1, b] V3) := HL4.out
  clear HL4
  by_cases hc : c = 0
  case neg =>
    go_wp2_with (fail)
    go_ret
    exact ⟨rfl, HT.out.b⟩
  subst hc
  by_cases h8 : (8 : Int) < rr
  case pos =>
    go_wp2_with (fail)
    go_ret
    exact ⟨rfl, HT.out.b⟩
  obtain ⟨okb, d0, e0, hd⟩ : OkP b ∧ ∃ d0 : Bx, d0.m = b.m ∧ DoP d0 p y 0 m := by
    rcases HS.out with ⟨_, _, q, _⟩ | q
    · omega
    · exact q
  have ok0 : OkP d0 := (ok_m e0).2 okb
  have okY : OkP y := Book.do_ok ok0 hd
  obtain ⟨A, eA, lA, nA⟩ := give_at HPK.out hd rfl
  have hroom : RoomR d0 p.a rr := by
    rcases (roomq_m e0 p.a rr).2 HRM.out with ⟨_, q⟩ | ⟨q, _⟩
    · exact q
    · exact absurd ok0 q
  have lY := okY.1.1
  unfold LensP at lY
  have pm : x1.p.f = y.p.f ∧ x1.p.n = y.p.n := by
    have q := congrArg (fun z => z.p) HXM.out
    simp only [Bx.m, Sx.m, Prod.mk.injEq] at q
    exact ⟨q.2, q.1⟩
  have lp : A / 8 < x1.p.n := by omega
  have kA : V3.cell? ⟨w1.heap.size + 1, 2, none⟩ = some (.int .i64 A) := by
    rw [← eA]; exact (HT.out.r (w1.heap.size + 1, p.cells) (by simp)).1 2 _ rfl
  have kP : V3.cell? ⟨W2.heap.size, 1, none⟩ = some (.slice x1.p.a x1.p.n x1.p.c) := (HT.out.r (W2.heap.size, x1.cells) (by simp)).1 1 _ rfl
  have hat : x1.p.At V3 := HT.out.a x1 (by simp) x1.p (by simp [Bx.lists])
  rcases hat with z | ⟨kp, op, ea, g⟩
  · omega
  have kc := g (A / 8) lp
  rw [ea] at kP
  have HG : Hid (∃ dd, (y.p.f (A / 8) ≠ 0 → DoP y ⟨2, p.s, rr, 0⟩ dd 0 p.a ∧ dd.m = b.m)) := by
    by_cases hz : y.p.f (A / 8) ≠ 0
    · have e8 : ((p.a) / 8).toNat = A / 8 := by rw [eA]; omega
      obtain ⟨dd, g1, g2⟩ := last_back ok0 HPK.out hd rfl hroom (by omega) (by rw [e8]; exact hz)
      exact ⟨dd, fun _ => ⟨g1, g2.trans e0⟩⟩
    · exact ⟨y, fun q => absurd q hz⟩
  have HOKY : Hid (OkP y) := okY
  have HEA : Hid (p.a = A) := eA
  have HPM : Hid (x1.p.f = y.p.f) := pm.1
  have HLA : Hid (A < 1001) := (by have := HTO.out.1; have q : d0.o.n = b.o.n := (by have := congrArg (fun z => z.o.1) e0; exact this); show A < 1001; unfold Bx.total at this; omega)
  have hA0 : (A : Int) < 1001 := by have := HLA.out; omega
  have hAp : ((A : Int) / 8) < x1.p.n := by omega
  clear okb e0 hd ok0 okY eA lA nA hroom lY pm g
  have HP0 : Hid (_ = _) := kP
  by_cases hz : x1.p.f (A / 8) = 0
  case pos =>
    rw [hz] at kc
    go_wp2_with (fail)
    go_ret
    exact ⟨rfl, HT.out.b⟩
  have kS : V3.cell? ⟨w1.heap.size + 1, 1, none⟩ = some (.int .i64 p.s) := (HT.out.r (w1.heap.size + 1, p.cells) (by simp)).1 1 _ rfl
  have HRX : Hid (World.rangeAt _ (W2.heap.size) 0 x1.cells) := (HT.out.r (W2.heap.size, x1.cells) (by simp)).1
  go_wp2_with (first
      | refine wpList_load_mid rfl 26 _ rfl (W2.heap.size) 0 rfl x1.cells _ HRX.out Tryd.underlying26 rfl (by kernel_rfl) ?_)
  refine (bookdo_any (a := adr) x1 ⟨2, p.s, rr, 0⟩ _ (HT.out.a x1 (by simp)) (Nat.le_trans HTX.out (by omega)) (at_nil (HT.out.a x1 (by simp))) HX1.out (HEa.out.later HT.out.b)).mono ?_
  rintro e W5 ⟨z, e', at', rfl, hq, ho, hb⟩
  obtain ⟨dd, hdd⟩ := HG.out
  obtain ⟨g1, g2⟩ := hdd (by rw [← HPM.out]; exact hz)
  obtain ⟨zm, e1, e2⟩ := met_all hq (.inr ⟨(ok_m HXM.out).2 HOKY.out, y, HXM.out.symm, g1⟩)
  subst e1
  rw [HEA.out] at e2
  subst e2
  have HZM : Hid (z.trim.m = b.trim.m) := zm.trans (trim_m g2)
  have HTZ : Hid (z.total ≤ 1001) := (by show z.total ≤ 1001; rw [trim_total HZM.out]; exact HTO.out.1)
  have HT5 : Hid (St w [(W3.heap.size, y.cells), (W2.heap.size, x1.cells), (w1.heap.size + 1, p.cells), (w1.heap.size, b.cells)] [z, y, x1, b] W5) := (HT.out.later hb).book ho.at
  have HL5 : Hid (St w _ _ _) := laid HT5.out z 26
  have HTH : Hid (World.there _ W5.heap.size 0 _) := (mk_bk W5 26 z).1
  clear hq ho hb hdd g1 g2 zm HRX kS kA kP kc HP0
  go_wp2_with (with_reducible refine halt_at (.store 26 (.tmp 12) (.tmp 68)) rfl ?_)
  unfold Hid
  refine wpList_store_mid rfl 26 _ _ rfl (W5.heap.size) 0 z.cells.toArray rfl rfl HTH.out (by kernel_rfl) (cells_one _) ?_
  clear HTH HT5
  generalize World.setCells _ _ _ _ = V5 at HL5 ⊢
  have HT : Hid (St w [(W5.heap.size, z.cells), (W3.heap.size, y.cells), (W2.heap.size, x1.cells), (w1.heap.size + 1, p.cells), (w1.heap.size, b.cells)] [z, y, x1, b] V5) := HL5.out
  clear HL5
  have kA : V5.cell? ⟨w1.heap.size + 1, 2, none⟩ = some (.int .i64 A) := by
    rw [← HEA.out]; exact (HT.out.r (w1.heap.size + 1, p.cells) (by simp)).1 2 _ rfl
  have HRB : Hid (World.rangeAt _ (w1.heap.size) 0 b.cells) := (HT.out.r (w1.heap.size, b.cells) (by simp)).1
  have HRZ : Hid (World.rangeAt _ (W5.heap.size) 0 z.cells) := (HT.out.r (W5.heap.size, z.cells) (by simp)).1
  go_wp2_with (first
      | (refine load_want (by rfl) 26 _ rfl (W5.heap.size) 0 rfl z.cells _ HRZ.out Tryd.underlying26 rfl (by kernel_rfl) ?_)
      | (refine load_want (by rfl) 26 _ rfl (w1.heap.size) 0 rfl b.cells _ HRB.out Tryd.underlying26 rfl (by kernel_rfl) ?_))
  refine (bsame_t z b _ (HT.out.a z (by simp)) (HT.out.a b (by simp)) (Nat.le_trans HTZ.out (by omega)) (Nat.le_trans HTO.out.1 (by omega)) HZM.out).mono ?_
  rintro e W6 ⟨rfl, hb⟩
  have HT6 := HT.out.later hb
  go_wp2_with (fail)
  go_ret
  exact ⟨rfl, HT6.b⟩
/- Codes too long are passed by. -/
theorem law_bklast_all {adr : Nat → Addr} (a : Option Addr) (len cap : Nat) (zs : List Int) (w : World) (h : Bytes w a len cap zs) (he : Ea adr w) :
    Calls Tryd.prog 9 #[.slice a len cap] w fun e w' => e = .returned (.bool true) ∧ Below w.heap.size w w' := by
  have r0 := Draw.row_of h
  have m0 := r0.1
  unfold maxLen at m0
  by_cases h0 : (1048576 : Int) < len
  · go_enter Tryd.func9, Tryd.ntmps9
    go_wp2_with (fail)
    go_ret
    exact ⟨rfl, Below.refl _ _⟩
  · exact law_bklast a len cap zs w r0 h0 he
end Go.Proofs.YtbipolfbkemmpaaDoor.Dra

import Derived.Test.YtbipolfbkemmpaaDoorM53

/- Whatever code is handed in: of the book and the handing on that are drawn of it, the program's BookDo has the specification's code; a room that is handed on has its new owner, nothing else has turned, and who has it now can hand it back. Conditions: none. -/
namespace Go.Proofs.YtbipolfbkemmpaaDoor.Dra
open Go.ChangeShapes Go.WideShapes Go.ChangeAt Go.RowKit
open Aid Lst Book Rin
set_option maxRecDepth 100000
set_option linter.unusedVariables false
open Gs (halt_at)
set_option linter.unusedSimpArgs false

set_option maxHeartbeats 16000000 in
theorem law_bkhand {adr : Nat → Addr} (a : Option Addr) (len cap : Nat) (zs : List Int) (w : World) (h : Draw.Row w a len cap zs) (hle : ¬ (1048576 : Int) < len) (he : Ea adr w) :
    Calls Tryd.prog 7 #[.slice a len cap] w fun e w' => e = .returned (.bool true) ∧ Below w.heap.size w w' := by
  have HEa : Hid (Ea adr w) := he
  clear he
  go_enter Tryd.func7, Tryd.ntmps7
  go_wp2_with (fail)
  refine (dbdo_any a len cap zs w h).mono ?_
  rintro e w1 ⟨b, o, rfl, ba, wf, tot, oc, hB⟩
  have HT0 : Hid (St w [] [b] w1) := ⟨fun p hp => by simp at hp, fun z hz => by
    obtain rfl := List.mem_singleton.1 hz
    exact ba, hB⟩
  have HWf : Hid b.Wf := wf
  have HTO : Hid (b.total ≤ 1001 ∧ b.o.n ≤ b.o.c) := ⟨tot, oc⟩
  obtain ⟨l1, l2, l3, l4, l5⟩ := laid2 HT0.out b o 26 28
  have HA1 : Hid (World.there _ w1.heap.size 0 _) := l1
  have HA2 : Hid (World.there _ (w1.heap.size + 1) 0 _) := l2
  have HCK : Hid (Ck _ (w1.heap.size + 1) o.cells) := l3
  have HRB : Hid (World.rangeAt _ w1.heap.size 0 b.cells) := l4
  have HBL : Hid (Below w1.heap.size w1 _) := l5
  clear l1 l2 l3 l4 l5 ba hB wf tot oc h hle
  go_wp2_with (with_reducible refine halt_at (.store 26 (.tmp 3) (.tmp 21)) rfl ?_)
  unfold Hid
  refine wpList_store_mid rfl 26 _ _ rfl (w1.heap.size) 0 b.cells.toArray rfl rfl HA1.out (by kernel_rfl) (cells_one _) ?_
  go_wp2_with (with_reducible refine halt_at (.store 28 (.tmp 4) (.tmp 22)) rfl ?_)
  unfold Hid
  refine wpList_store_mid rfl 28 _ _ rfl (w1.heap.size + 1) 0 o.cells.toArray rfl rfl HA2.out (by kernel_rfl) (ox_one _) ?_
  clear HA1 HA2
  generalize World.setCells _ _ _ _ = V0 at HCK HRB HBL ⊢
  obtain ⟨c0, c1⟩ := HCK.out 0 _ rfl
  obtain ⟨k1, k2, k3⟩ := kind_set 4 HCK.out HRB.out HBL.out
  have HK1 : Hid (Ck _ (w1.heap.size + 1) _) := k1
  have HK2 : Hid (World.rangeAt _ w1.heap.size 0 b.cells) := k2
  have HK3 : Hid (Below w1.heap.size w1 _) := k3
  clear k1 k2 k3 HCK HRB HBL
  go_wp2_with (with_reducible refine halt_at (.load 26 (.tmp 3)) rfl ?_)
  unfold Hid
  clear c0 c1
  generalize World.setCell _ _ _ = V1 at HK1 HK2 HK3 ⊢
  obtain ⟨p, ep⟩ : ∃ p : Ox, p = ⟨4, o.s, o.a, o.b⟩ := ⟨_, rfl⟩
  rw [← ep] at HK1
  have HPK : Hid (p.k = 4) := (by show p.k = 4; rw [ep])
  have HT1 : Hid (St w [(w1.heap.size + 1, p.cells), (w1.heap.size, b.cells)] [b] V1) := st_two HT0.out HK1.out HK2.out HK3.out
  clear HK1 HK2 HK3 ep
  have HRB : Hid (World.rangeAt _ (w1.heap.size) 0 b.cells) := (HT1.out.r (w1.heap.size, b.cells) (by simp)).1
  have HRO : Hid (World.rangeAt _ (w1.heap.size + 1) 0 p.cells) := (HT1.out.r (w1.heap.size + 1, p.cells) (by simp)).1
  go_wp2_with (first
      | refine wpList_load_mid rfl 26 _ rfl (w1.heap.size) 0 rfl b.cells _ HRB.out Tryd.underlying26 rfl (by kernel_rfl) ?_
      | refine wpList_load_mid rfl 28 _ rfl (w1.heap.size + 1) 0 rfl p.cells _ HRO.out Tryd.underlying28 rfl (by kernel_rfl) ?_)
  refine (bookdo_any (a := adr) b p _ (HT1.out.a b (by simp)) (by have := HTO.out.1; omega) (at_nil (HT1.out.a b (by simp))) HTO.out.2 (HEa.out.later HT1.out.b)).mono ?_
  rintro e W2 ⟨x, c, m, rfl, hq, ho, hb⟩
  have HQ : Hid (BdQ b p x c m) := hq
  have HXC : Hid (x.o.n ≤ x.o.c) := ho.cap
  have HT2 : Hid (St w [(w1.heap.size + 1, p.cells), (w1.heap.size, b.cells)] [x, b] W2) := (HT1.out.later hb).book ho.at
  have HL2 : Hid (St w _ _ _) := laid HT2.out x 26
  have HTH : Hid (World.there _ W2.heap.size 0 _) := (mk_bk W2 26 x).1
  clear hq ho hb HRB HRO HT1
  go_wp2_with (with_reducible refine halt_at (.store 26 (.tmp 5) (.tmp 28)) rfl ?_)
  unfold Hid
  refine wpList_store_mid rfl 26 _ _ rfl (W2.heap.size) 0 x.cells.toArray rfl rfl HTH.out (by kernel_rfl) (cells_one _) ?_
  clear HTH HT2
  generalize World.setCells _ _ _ _ = V2 at HL2 ⊢
  have HT3 : Hid (St w [(W2.heap.size, x.cells), (w1.heap.size + 1, p.cells), (w1.heap.size, b.cells)] [x, b] V2) := HL2.out
  clear HL2
  have HRB : Hid (World.rangeAt _ (w1.heap.size) 0 b.cells) := (HT3.out.r (w1.heap.size, b.cells) (by simp)).1
  have HRO : Hid (World.rangeAt _ (w1.heap.size + 1) 0 p.cells) := (HT3.out.r (w1.heap.size + 1, p.cells) (by simp)).1
  go_wp2_with (first
      | refine wpList_load_mid rfl 26 _ rfl (w1.heap.size) 0 rfl b.cells _ HRB.out Tryd.underlying26 rfl (by kernel_rfl) ?_
      | refine wpList_load_mid rfl 28 _ rfl (w1.heap.size + 1) 0 rfl p.cells _ HRO.out Tryd.underlying28 rfl (by kernel_rfl) ?_)
  refine (sbookdo_any b p _ (HT3.out.a b (by simp)) (by have := HTO.out.1; omega) (at_nil (HT3.out.a b (by simp))) HWf.out).mono ?_
  rintro e W3 ⟨y, d, m', rfl, hs, hl, hb⟩
  obtain ⟨gm, e1, e2⟩ := met_sb HQ.out hs
  subst e1
  subst e2
  obtain ⟨x1, f1, f2, f3, f4, f5⟩ := as_ex gm
  have HS : Hid (SbQ b p y c m) := hs
  have HXM : Hid (x1.m = y.m) := f2
  have HX1 : Hid (x1.o.n ≤ x1.o.c) := (by show x1.o.n ≤ x1.o.c; rw [f4, f5]; exact HXC.out)
  have HTY : Hid (y.total ≤ 1000) := sb_total hs
  have HTX : Hid (x1.total ≤ 1000) := (by show x1.total ≤ 1000; rw [Book.total_m f2]; exact HTY.out)
  have g3 := HT3.out.later hb
  have HT4 : Hid (St w [(W2.heap.size, x1.cells), (w1.heap.size + 1, p.cells), (w1.heap.size, b.cells)] [y, x1, b] W3) := (St.book (⟨by rw [f1]; exact g3.r, fun z hz => by
    simp only [List.mem_cons, List.not_mem_nil, or_false] at hz
    rcases hz with rfl | rfl
    · exact f3 _ (g3.a x (by simp))
    · exact g3.a z (by simp), g3.b⟩ : St w [(W2.heap.size, x1.cells), (w1.heap.size + 1, p.cells), (w1.heap.size, b.cells)] [x1, b] W3) hl.at)
  have HL4 : Hid (St w _ _ _) := laid HT4.out y 26
  have HTH : Hid (World.there _ W3.heap.size 0 _) := (mk_bk W3 26 y).1
  clear gm hs hl hb f1 f2 f3 f4 f5 g3 HQ HXC HT3 HRB HRO
  go_wp2_with (with_reducible refine halt_at (.store 26 (.tmp 8) (.tmp 35)) rfl ?_)
  unfold Hid
  refine wpList_store_mid rfl 26 _ _ rfl (W3.heap.size) 0 y.cells.toArray rfl rfl HTH.out (by kernel_rfl) (cells_one _) ?_
  clear HTH HT4
  generalize World.setCells _ _ _ _ = V3 at HL4 ⊢
  have HT : Hid (St w [(W3.heap.size, y.cells), (W2.heap.size, x1.cells), (w1.heap.size + 1, p.cells), (w1.heap.size, b.cells)] [y, x1, b] V3) := HL4.out
  clear HL4
  by_cases hc : c = 0
  case neg =>
    go_wp2_with (fail)
    go_ret
    exact ⟨rfl, HT.out.b⟩
  subst hc
  obtain ⟨okb, d0, e0, hd⟩ : OkP b ∧ ∃ d0 : Bx, d0.m = b.m ∧ DoP d0 p y 0 m := by
    rcases HS.out with ⟨_, _, q, _⟩ | q
    · omega
    · exact q
  have ok0 : OkP d0 := (ok_m e0).2 okb
  have okY : OkP y := Book.do_ok ok0 hd
  obtain ⟨t, A, q, es, ea, eb, ht, hq, hA, ho, hi, iq, ey⟩ := hand_back HPK.out hd rfl
  have g1 := hand_do ht hq hA ho hi iq
  have g2 := own_own (v := (q : Int) + 1) ho
  rw [← ey] at g1 g2
  have oe : d0.o.n = b.o.n ∧ d0.o.f = b.o.f := by
    have q := congrArg (fun z => z.o) e0
    simp only [Bx.m, Sx.m, Prod.mk.injEq] at q
    exact q
  have xo : x1.o.n = y.o.n ∧ x1.o.f = y.o.f := by
    have q := congrArg (fun z => z.o) HXM.out
    simp only [Bx.m, Sx.m, Prod.mk.injEq] at q
    exact q
  have yn : y.o.n = d0.o.n := by rw [ey]; rfl
  have HFX : Hid (∀ u : Nat, x1.o.f u = if u = A then (q : Int) + 1 else b.o.f u) := fun u => by
    rw [xo.2, ey, own_f, oe.2]
  have HN : Hid (x1.o.n = b.o.n) := (by show x1.o.n = b.o.n; omega)
  have HDO : Hid (DoP y ⟨4, q, A, t⟩ (y.own A ((t : Int) + 1)) 0 0) := g1
  have HDM : Hid ((y.own A ((t : Int) + 1)).m = b.m) := g2.trans e0
  have HOKY : Hid (OkP y) := okY
  have HRQ : Hid (∀ r, RoomQ x1 A r ↔ RoomQ b A r) := fun r => by
    refine (roomq_m HXM.out A r).trans (Iff.trans ?_ (roomq_m e0 A r))
    rw [ey]
    unfold RoomQ
    rw [hand_room hA (by omega) (by omega)]
    rw [ey] at okY
    exact ⟨fun h => h.elim (fun h => .inl ⟨ok0, h.2⟩) (fun h => absurd okY h.1), fun h => h.elim (fun h => .inl ⟨okY, h.2⟩) (fun h => absurd ok0 h.1)⟩
  have HLA : Hid ((A : Int) < b.o.n ∧ (q : Int) < 1000) := (by
    have l := ok0.1.1
    unfold LensP at l
    show (A : Int) < b.o.n ∧ (q : Int) < 1000
    omega)
  have HPE : Hid (p.s = t ∧ p.a = A ∧ p.b = q) := ⟨es, ea, eb⟩
  clear okb e0 hd ok0 okY es ea eb ht hq hA ho hi iq ey g1 g2 oe xo yn
  have kS : V3.cell? ⟨w1.heap.size + 1, 1, none⟩ = some (.int .i64 t) := by
    rw [← HPE.out.1]; exact (HT.out.r (w1.heap.size + 1, p.cells) (by simp)).1 1 _ rfl
  have kA : V3.cell? ⟨w1.heap.size + 1, 2, none⟩ = some (.int .i64 A) := by
    rw [← HPE.out.2.1]; exact (HT.out.r (w1.heap.size + 1, p.cells) (by simp)).1 2 _ rfl
  have kB : V3.cell? ⟨w1.heap.size + 1, 3, none⟩ = some (.int .i64 q) := by
    rw [← HPE.out.2.2]; exact (HT.out.r (w1.heap.size + 1, p.cells) (by simp)).1 3 _ rfl
  have HRX : Hid (World.rangeAt _ (W2.heap.size) 0 x1.cells) := (HT.out.r (W2.heap.size, x1.cells) (by simp)).1
  go_wp2_with (first
      | refine wpList_load_mid rfl 26 _ rfl (W2.heap.size) 0 rfl x1.cells _ HRX.out Tryd.underlying26 rfl (by kernel_rfl) ?_)
  refine (bookdo_any (a := adr) x1 ⟨4, q, A, t⟩ _ (HT.out.a x1 (by simp)) (Nat.le_trans HTX.out (by omega)) (at_nil (HT.out.a x1 (by simp))) HX1.out (HEa.out.later HT.out.b)).mono ?_
  rintro e W5 ⟨z, e', at', rfl, hq, ho, hb⟩
  obtain ⟨zm, e1, e2⟩ := met_all hq (.inr ⟨(ok_m HXM.out).2 HOKY.out, y, HXM.out.symm, HDO.out⟩)
  subst e1
  subst e2
  have HZM : Hid (z.trim.m = b.trim.m) := zm.trans (trim_m HDM.out)
  have HTZ : Hid (z.total ≤ 1001) := (by show z.total ≤ 1001; rw [trim_total HZM.out]; exact HTO.out.1)
  have HT5 : Hid (St w [(W3.heap.size, y.cells), (W2.heap.size, x1.cells), (w1.heap.size + 1, p.cells), (w1.heap.size, b.cells)] [z, y, x1, b] W5) := (HT.out.later hb).book ho.at
  have HL5 : Hid (St w _ _ _) := laid HT5.out z 26
  have HTH : Hid (World.there _ W5.heap.size 0 _) := (mk_bk W5 26 z).1
  clear hq ho hb zm HRX kS kA kB HT
  go_wp2_with (with_reducible refine halt_at (.store 26 (.tmp 11) (.tmp 53)) rfl ?_)
  unfold Hid
  refine wpList_store_mid rfl 26 _ _ rfl (W5.heap.size) 0 z.cells.toArray rfl rfl HTH.out (by kernel_rfl) (cells_one _) ?_
  clear HTH HT5
  generalize World.setCells _ _ _ _ = V5 at HL5 ⊢
  have HT : Hid (St w [(W5.heap.size, z.cells), (W3.heap.size, y.cells), (W2.heap.size, x1.cells), (w1.heap.size + 1, p.cells), (w1.heap.size, b.cells)] [z, y, x1, b] V5) := HL5.out
  clear HL5
  go_wp2_with (fail)
  go_loopw [14] (fun i wr => ∃ u : Nat, u ≤ b.o.n ∧ i = .int .i64 u ∧ St w [(W5.heap.size, z.cells), (W3.heap.size, y.cells), (W2.heap.size, x1.cells), (w1.heap.size + 1, p.cells), (w1.heap.size, b.cells)] [z, y, x1, b] wr) (fun i _ => b.o.n - (intOf i).toNat)
  case atStart => exact ⟨0, by omega, rfl, HT.out⟩
  case round =>
    obtain ⟨u, hu, rfl, htw⟩ := hrel
    have HTW : Hid (St w [(W5.heap.size, z.cells), (W3.heap.size, y.cells), (W2.heap.size, x1.cells), (w1.heap.size + 1, p.cells), (w1.heap.size, b.cells)] [z, y, x1, b] wr) := htw
    have kO : wr.cell? ⟨w1.heap.size, 6, none⟩ = some (.slice b.o.a b.o.n b.o.c) := (htw.r (w1.heap.size, b.cells) (by simp)).1 6 _ rfl
    clear htw HT
    have bn : b.o.n ≤ 1001 := by have := HTO.out.1; unfold Bx.total at this; omega
    by_cases hlt : (u : Int) < b.o.n
    · go_wp2_with (fail)
      have HD : Hid (St w [(W5.heap.size, z.cells), (W3.heap.size, y.cells), (W2.heap.size, x1.cells), (w1.heap.size + 1, p.cells), (w1.heap.size, b.cells)] [z, y, x1, b] wr.drew) := HTW.out.drew
      refine wp_region_held_drew (S := fun w' => w' = wr.drew) (by kernel_rfl) rfl (fun hS => ?_)
      clear kO HTW
      generalize World.drew wr = Y at hS HD ⊢
      have kA : Y.cell? ⟨w1.heap.size + 1, 2, none⟩ = some (.int .i64 A) := by
        rw [← HPE.out.2.1]; exact (HD.out.r (w1.heap.size + 1, p.cells) (by simp)).1 2 _ rfl
      have kB : Y.cell? ⟨w1.heap.size + 1, 3, none⟩ = some (.int .i64 q) := by
        rw [← HPE.out.2.2]; exact (HD.out.r (w1.heap.size + 1, p.cells) (by simp)).1 3 _ rfl
      have kX : Y.cell? ⟨W2.heap.size, 6, none⟩ = some (.slice x1.o.a x1.o.n x1.o.c) := (HD.out.r (W2.heap.size, x1.cells) (by simp)).1 6 _ rfl
      have kO : Y.cell? ⟨w1.heap.size, 6, none⟩ = some (.slice b.o.a b.o.n b.o.c) := (HD.out.r (w1.heap.size, b.cells) (by simp)).1 6 _ rfl
      have xn := HN.out
      rcases HD.out.a x1 (by simp) x1.o (by simp [Bx.lists]) with z0 | ⟨kx, ox, eax, gx⟩
      · omega
      rcases HD.out.a b (by simp) b.o (by simp [Bx.lists]) with z0 | ⟨kb, ob, eab, gb⟩
      · omega
      have kx1 := gx u (by omega)
      have kb1 := gb u (by omega)
      rw [HFX.out u] at kx1
      rw [eax, xn] at kX
      rw [eab] at kO
      have l0 := HLA.out
      clear gx gb eax eab xn
      by_cases huA : u = A
      · subst huA
        rw [if_pos rfl] at kx1
        refine tI 0 (v := .int .i64 u) (d := some 63) rfl rfl (fun w' hw => ?_) hS ?_
        · clear hw; go_simp
        try simp only [Act.put, s1, s2, s3]
        refine tI 1 (v := .pointer (some ⟨w1.heap.size + 1, 2, none⟩)) (d := some 64) rfl rfl (fun w' hw => ?_) hS ?_
        · clear hw; go_simp
        try simp only [Act.put, s1, s2, s3]
        refine tI 2 (v := .int .i64 u) (d := some 65) rfl rfl (fun w' hw => ?_) hS ?_
        · have q0 := kA; subst hw; go_simp
        try simp only [Act.put, s1, s2, s3]
        refine tI 3 (v := .bool false) (d := some 66) rfl rfl (fun w' hw => ?_) hS ?_
        · clear hw; go_simp
        try simp only [Act.put, s1, s2, s3]
        refine tI 4 (v := .bool false) (d := some 67) rfl rfl (fun w' hw => ?_) hS ?_
        · clear hw; go_simp
        try simp only [Act.put, s1, s2, s3]
        refine tS 5 (d := some 68) rfl rfl hS ?_
        try simp only [Act.put, s1, s2, s3]
        refine tS 6 (d := some 69) rfl rfl hS ?_
        try simp only [Act.put, s1, s2, s3]
        refine tS 7 (d := some 70) rfl rfl hS ?_
        try simp only [Act.put, s1, s2, s3]
        refine tS 8 (d := some 71) rfl rfl hS ?_
        try simp only [Act.put, s1, s2, s3]
        refine tS 9 (d := some 72) rfl rfl hS ?_
        try simp only [Act.put, s1, s2, s3]
        refine tS 10 (d := some 73) rfl rfl hS ?_
        try simp only [Act.put, s1, s2, s3]
        refine tS 11 (d := some 74) rfl rfl hS ?_
        try simp only [Act.put, s1, s2, s3]
        refine tS 12 (d := some 75) rfl rfl hS ?_
        try simp only [Act.put, s1, s2, s3]
        refine tS 13 (d := some 76) rfl rfl hS ?_
        try simp only [Act.put, s1, s2, s3]
        refine tS 14 (d := some 77) rfl rfl hS ?_
        try simp only [Act.put, s1, s2, s3]
        refine tS 15 (d := some 78) rfl rfl hS ?_
        try simp only [Act.put, s1, s2, s3]
        refine tI 16 (v := .bool false) (d := some 79) rfl rfl (fun w' hw => ?_) hS ?_
        · clear hw; go_simp
        try simp only [Act.put, s1, s2, s3]
        refine tI 17 (v := .bool false) (d := some 80) rfl rfl (fun w' hw => ?_) hS ?_
        · clear hw; go_simp
        try simp only [Act.put, s1, s2, s3]
        refine tI 18 (v := .int .i64 u) (d := some 81) rfl rfl (fun w' hw => ?_) hS ?_
        · clear hw; go_simp
        try simp only [Act.put, s1, s2, s3]
        refine tI 19 (v := .pointer (some ⟨w1.heap.size + 1, 2, none⟩)) (d := some 82) rfl rfl (fun w' hw => ?_) hS ?_
        · clear hw; go_simp
        try simp only [Act.put, s1, s2, s3]
        refine tI 20 (v := .int .i64 u) (d := some 83) rfl rfl (fun w' hw => ?_) hS ?_
        · have q0 := kA; subst hw; go_simp
        try simp only [Act.put, s1, s2, s3]
        refine tI 21 (v := .bool true) (d := some 84) rfl rfl (fun w' hw => ?_) hS ?_
        · clear hw; go_simp
        try simp only [Act.put, s1, s2, s3]
        refine tI 22 (v := .bool true) (d := some 85) rfl rfl (fun w' hw => ?_) hS ?_
        · clear hw; go_simp
        try simp only [Act.put, s1, s2, s3]
        refine tI 23 (v := .pointer (some ⟨W2.heap.size, 6, none⟩)) (d := some 86) rfl rfl (fun w' hw => ?_) hS ?_
        · clear hw; go_simp
        try simp only [Act.put, s1, s2, s3]
        refine tI 24 (v := .slice (some ⟨kx, ox, none⟩) b.o.n x1.o.c) (d := some 87) rfl rfl (fun w' hw => ?_) hS ?_
        · have q0 := kX; subst hw; go_simp
        try simp only [Act.put, s1, s2, s3]
        refine tI 25 (v := .int .i64 u) (d := some 88) rfl rfl (fun w' hw => ?_) hS ?_
        · clear hw; go_simp
        try simp only [Act.put, s1, s2, s3]
        refine tI 26 (v := .pointer (some ⟨kx, ox + u, none⟩)) (d := some 89) rfl rfl (fun w' hw => ?_) hS ?_
        · clear hw; go_simp
        try simp only [Act.put, s1, s2, s3]
        refine tI 27 (v := .int .i64 ((q : Int) + 1)) (d := some 90) rfl rfl (fun w' hw => ?_) hS ?_
        · have q0 := kx1; subst hw; go_simp
        try simp only [Act.put, s1, s2, s3]
        refine tI 28 (v := .pointer (some ⟨w1.heap.size + 1, 3, none⟩)) (d := some 91) rfl rfl (fun w' hw => ?_) hS ?_
        · clear hw; go_simp
        try simp only [Act.put, s1, s2, s3]
        refine tI 29 (v := .int .i64 q) (d := some 92) rfl rfl (fun w' hw => ?_) hS ?_
        · have q0 := kB; subst hw; go_simp
        try simp only [Act.put, s1, s2, s3]
        refine tI 30 (v := .int .i64 ((q : Int) + 1)) (d := some 93) rfl rfl (fun w' hw => ?_) hS ?_
        · clear hw; go_simp <;> (rw [IntKind.wrap_i64]; omega)
        try simp only [Act.put, s1, s2, s3]
        refine tI 31 (v := .bool false) (d := some 94) rfl rfl (fun w' hw => ?_) hS ?_
        · clear hw; go_simp
        try simp only [Act.put, s1, s2, s3]
        refine tI 32 (v := .bool false) (d := some 95) rfl rfl (fun w' hw => ?_) hS ?_
        · clear hw; go_simp
        try simp only [Act.put, s1, s2, s3]
        refine tI 33 (v := .bool false) (d := some 96) rfl rfl (fun w' hw => ?_) hS ?_
        · clear hw; go_simp
        try simp only [Act.put, s1, s2, s3]
        refine wpAnyH_done (by kernel_rfl) ?_ _
        clear hS kA kB kX kO kx1 kb1
        go_wp2_with (fail)
        go_roundw
        case rel => exact ⟨u + 1, by omega, by go_num, HD.out⟩
        case measure => simp [intOf]; omega
      · have hne : ¬ ((u : Int) = A) := by omega
        rw [if_neg huA] at kx1
        refine tI 0 (v := .int .i64 u) (d := some 63) rfl rfl (fun w' hw => ?_) hS ?_
        · clear hw; go_simp
        try simp only [Act.put, s1, s2, s3]
        refine tI 1 (v := .pointer (some ⟨w1.heap.size + 1, 2, none⟩)) (d := some 64) rfl rfl (fun w' hw => ?_) hS ?_
        · clear hw; go_simp
        try simp only [Act.put, s1, s2, s3]
        refine tI 2 (v := .int .i64 A) (d := some 65) rfl rfl (fun w' hw => ?_) hS ?_
        · have q0 := kA; subst hw; go_simp
        try simp only [Act.put, s1, s2, s3]
        refine tI 3 (v := .bool true) (d := some 66) rfl rfl (fun w' hw => ?_) hS ?_
        · clear hw; go_simp
        try simp only [Act.put, s1, s2, s3]
        refine tI 4 (v := .bool true) (d := some 67) rfl rfl (fun w' hw => ?_) hS ?_
        · clear hw; go_simp
        try simp only [Act.put, s1, s2, s3]
        refine tI 5 (v := .pointer (some ⟨W2.heap.size, 6, none⟩)) (d := some 68) rfl rfl (fun w' hw => ?_) hS ?_
        · clear hw; go_simp
        try simp only [Act.put, s1, s2, s3]
        refine tI 6 (v := .slice (some ⟨kx, ox, none⟩) b.o.n x1.o.c) (d := some 69) rfl rfl (fun w' hw => ?_) hS ?_
        · have q0 := kX; subst hw; go_simp
        try simp only [Act.put, s1, s2, s3]
        refine tI 7 (v := .int .i64 u) (d := some 70) rfl rfl (fun w' hw => ?_) hS ?_
        · clear hw; go_simp
        try simp only [Act.put, s1, s2, s3]
        refine tI 8 (v := .pointer (some ⟨kx, ox + u, none⟩)) (d := some 71) rfl rfl (fun w' hw => ?_) hS ?_
        · clear hw; go_simp
        try simp only [Act.put, s1, s2, s3]
        refine tI 9 (v := .int .i64 (b.o.f u)) (d := some 72) rfl rfl (fun w' hw => ?_) hS ?_
        · have q0 := kx1; subst hw; go_simp
        try simp only [Act.put, s1, s2, s3]
        refine tI 10 (v := .pointer (some ⟨w1.heap.size, 6, none⟩)) (d := some 73) rfl rfl (fun w' hw => ?_) hS ?_
        · clear hw; go_simp
        try simp only [Act.put, s1, s2, s3]
        refine tI 11 (v := .slice (some ⟨kb, ob, none⟩) b.o.n b.o.c) (d := some 74) rfl rfl (fun w' hw => ?_) hS ?_
        · have q0 := kO; subst hw; go_simp
        try simp only [Act.put, s1, s2, s3]
        refine tI 12 (v := .int .i64 u) (d := some 75) rfl rfl (fun w' hw => ?_) hS ?_
        · clear hw; go_simp
        try simp only [Act.put, s1, s2, s3]
        refine tI 13 (v := .pointer (some ⟨kb, ob + u, none⟩)) (d := some 76) rfl rfl (fun w' hw => ?_) hS ?_
        · clear hw; go_simp
        try simp only [Act.put, s1, s2, s3]
        refine tI 14 (v := .int .i64 (b.o.f u)) (d := some 77) rfl rfl (fun w' hw => ?_) hS ?_
        · have q0 := kb1; subst hw; go_simp
        try simp only [Act.put, s1, s2, s3]
        refine tI 15 (v := .bool false) (d := some 78) rfl rfl (fun w' hw => ?_) hS ?_
        · clear hw; go_simp
        try simp only [Act.put, s1, s2, s3]
        refine tI 16 (v := .bool false) (d := some 79) rfl rfl (fun w' hw => ?_) hS ?_
        · clear hw; go_simp
        try simp only [Act.put, s1, s2, s3]
        refine tI 17 (v := .bool false) (d := some 80) rfl rfl (fun w' hw => ?_) hS ?_
        · clear hw; go_simp
        try simp only [Act.put, s1, s2, s3]
        refine tI 18 (v := .int .i64 u) (d := some 81) rfl rfl (fun w' hw => ?_) hS ?_
        · clear hw; go_simp
        try simp only [Act.put, s1, s2, s3]
        refine tI 19 (v := .pointer (some ⟨w1.heap.size + 1, 2, none⟩)) (d := some 82) rfl rfl (fun w' hw => ?_) hS ?_
        · clear hw; go_simp
        try simp only [Act.put, s1, s2, s3]
        refine tI 20 (v := .int .i64 A) (d := some 83) rfl rfl (fun w' hw => ?_) hS ?_
        · have q0 := kA; subst hw; go_simp
        try simp only [Act.put, s1, s2, s3]
        refine tI 21 (v := .bool false) (d := some 84) rfl rfl (fun w' hw => ?_) hS ?_
        · clear hw; go_simp
        try simp only [Act.put, s1, s2, s3]
        refine tI 22 (v := .bool false) (d := some 85) rfl rfl (fun w' hw => ?_) hS ?_
        · clear hw; go_simp
        try simp only [Act.put, s1, s2, s3]
        refine tS 23 (d := some 86) rfl rfl hS ?_
        try simp only [Act.put, s1, s2, s3]
        refine tS 24 (d := some 87) rfl rfl hS ?_
        try simp only [Act.put, s1, s2, s3]
        refine tS 25 (d := some 88) rfl rfl hS ?_
        try simp only [Act.put, s1, s2, s3]
        refine tS 26 (d := some 89) rfl rfl hS ?_
        try simp only [Act.put, s1, s2, s3]
        refine tS 27 (d := some 90) rfl rfl hS ?_
        try simp only [Act.put, s1, s2, s3]
        refine tS 28 (d := some 91) rfl rfl hS ?_
        try simp only [Act.put, s1, s2, s3]
        refine tS 29 (d := some 92) rfl rfl hS ?_
        try simp only [Act.put, s1, s2, s3]
        refine tS 30 (d := some 93) rfl rfl hS ?_
        try simp only [Act.put, s1, s2, s3]
        refine tS 31 (d := some 94) rfl rfl hS ?_
        try simp only [Act.put, s1, s2, s3]
        refine tI 32 (v := .bool false) (d := some 95) rfl rfl (fun w' hw => ?_) hS ?_
        · clear hw; go_simp
        try simp only [Act.put, s1, s2, s3]
        refine tI 33 (v := .bool false) (d := some 96) rfl rfl (fun w' hw => ?_) hS ?_
        · clear hw; go_simp
        try simp only [Act.put, s1, s2, s3]
        refine wpAnyH_done (by kernel_rfl) ?_ _
        clear hS kA kB kX kO kx1 kb1
        go_wp2_with (fail)
        go_roundw
        case rel => exact ⟨u + 1, by omega, by go_num, HD.out⟩
        case measure => simp [intOf]; omega
    · go_wp2_with (fail)
      clear kO
      refine wp_region_held_drew (S := Sb w wr [(W5.heap.size, z.cells), (W3.heap.size, y.cells), (W2.heap.size, x1.cells), (w1.heap.size + 1, p.cells), (w1.heap.size, b.cells)] [z, y, x1, b]) (by kernel_rfl) (Sb.refl HTW.out).drew (fun hS => ?_)
      generalize World.drew _ = Y0 at hS ⊢
      refine tB 0 (v := .agg x1.cells.toArray) (d := some 97) rfl rfl (yieldsIf_load_mid (by rfl) 26 _ rfl (W2.heap.size) 0 rfl x1.cells _ (fun w' hw => (hw.r (W2.heap.size, x1.cells) (by simp)).1) Tryd.underlying26 rfl (by kernel_rfl)) hS ?_
      try simp only [Act.put, s1, s2, s3]
      refine tI 1 (v := .pointer (some ⟨w1.heap.size + 1, 2, none⟩)) (d := some 98) rfl rfl (fun w' hw => ?_) hS ?_
      · clear hw; go_simp
      try simp only [Act.put, s1, s2, s3]
      refine tI 2 (v := .int .i64 A) (d := some 99) rfl rfl (fun w' hw => ?_) hS ?_
      · have q0 := (hw.r (w1.heap.size + 1, p.cells) (by simp)).1 2 _ rfl; rw [HPE.out.2.1] at q0; clear hw; go_simp
      try simp only [Act.put, s1, s2, s3]
      refine tB 4 (v := .agg b.cells.toArray) (d := some 101) rfl rfl (yieldsIf_load_mid (by rfl) 26 _ rfl (w1.heap.size) 0 rfl b.cells _ (fun w' hw => (hw.r (w1.heap.size, b.cells) (by simp)).1) Tryd.underlying26 rfl (by kernel_rfl)) hS ?_
      try simp only [Act.put, s1, s2, s3]
      refine tI 5 (v := .pointer (some ⟨w1.heap.size + 1, 2, none⟩)) (d := some 102) rfl rfl (fun w' hw => ?_) hS ?_
      · clear hw; go_simp
      try simp only [Act.put, s1, s2, s3]
      refine tI 6 (v := .int .i64 A) (d := some 103) rfl rfl (fun w' hw => ?_) hS ?_
      · have q0 := (hw.r (w1.heap.size + 1, p.cells) (by simp)).1 2 _ rfl; rw [HPE.out.2.1] at q0; clear hw; go_simp
      try simp only [Act.put, s1, s2, s3]
      refine r1 3 rfl (fun K hK => ?_)
      have HI0 : Hid (Sb w wr [(W5.heap.size, z.cells), (W3.heap.size, y.cells), (W2.heap.size, x1.cells), (w1.heap.size + 1, p.cells), (w1.heap.size, b.cells)] [z, y, x1, b] Y0) := hS
      clear hS
      go_simp
      refine (room_any x1 A _ (HI0.out.a x1 (by simp)) (Nat.le_trans HTX.out (by omega)) HX1.out).mono ?_
      rintro e Y1 ⟨⟨r, rfl, hr⟩, hb⟩
      have HR : Hid (RoomQ b A r) := (HRQ.out r).1 hr
      clear hr
      have HI1 : Hid (Sb w wr [(W5.heap.size, z.cells), (W3.heap.size, y.cells), (W2.heap.size, x1.cells), (w1.heap.size + 1, p.cells), (w1.heap.size, b.cells)] [z, y, x1, b] Y1) := HI0.out.later hb
      clear hb HI0
      go_wp2_with (fail)
      refine hK.out _ _ HI1.out (fun hS => ?_)
      clear hK K
      try simp only [Act.put, s1, s2, s3]
      refine r1 7 rfl (fun K hK => ?_)
      have HI1 : Hid (Sb w wr [(W5.heap.size, z.cells), (W3.heap.size, y.cells), (W2.heap.size, x1.cells), (w1.heap.size + 1, p.cells), (w1.heap.size, b.cells)] [z, y, x1, b] Y1) := hS
      clear hS
      go_simp
      refine (room_any b A _ (HI1.out.a b (by simp)) (Nat.le_trans HTO.out.1 (by omega)) HTO.out.2).mono ?_
      rintro e Y2 ⟨⟨r', rfl, hr'⟩, hb⟩
      obtain rfl : r = r' := (roomq_one hr' HR.out).symm
      clear hr'
      have HI2 : Hid (Sb w wr [(W5.heap.size, z.cells), (W3.heap.size, y.cells), (W2.heap.size, x1.cells), (w1.heap.size + 1, p.cells), (w1.heap.size, b.cells)] [z, y, x1, b] Y2) := HI1.out.later hb
      clear hb HI1
      go_wp2_with (fail)
      refine hK.out _ _ HI2.out (fun hS => ?_)
      clear hK K
      try simp only [Act.put, s1, s2, s3]
      refine tI 8 (v := .bool true) (d := some 105) rfl rfl (fun w' hw => ?_) hS ?_
      · clear hw; go_simp
      try simp only [Act.put, s1, s2, s3]
      refine tI 9 (v := .bool true) (d := some 106) rfl rfl (fun w' hw => ?_) hS ?_
      · clear hw; go_simp
      try simp only [Act.put, s1, s2, s3]
      refine tI 10 (v := .int .i64 0) (d := some 107) rfl rfl (fun w' hw => ?_) hS ?_
      · clear hw; go_simp
      try simp only [Act.put, s1, s2, s3]
      refine tI 11 (v := .bool true) (d := some 108) rfl rfl (fun w' hw => ?_) hS ?_
      · clear hw; go_simp
      try simp only [Act.put, s1, s2, s3]
      refine tI 12 (v := .bool true) (d := some 109) rfl rfl (fun w' hw => ?_) hS ?_
      · clear hw; go_simp
      try simp only [Act.put, s1, s2, s3]
      refine tI 13 (v := .bool true) (d := some 110) rfl rfl (fun w' hw => ?_) hS ?_
      · clear hw; go_simp
      try simp only [Act.put, s1, s2, s3]
      refine tB 14 (v := .agg z.cells.toArray) (d := some 111) rfl rfl (yieldsIf_load_mid (by rfl) 26 _ rfl (W5.heap.size) 0 rfl z.cells _ (fun w' hw => (hw.r (W5.heap.size, z.cells) (by simp)).1) Tryd.underlying26 rfl (by kernel_rfl)) hS ?_
      try simp only [Act.put, s1, s2, s3]
      refine tB 15 (v := .agg b.cells.toArray) (d := some 112) rfl rfl (yieldsIf_load_mid (by rfl) 26 _ rfl (w1.heap.size) 0 rfl b.cells _ (fun w' hw => (hw.r (w1.heap.size, b.cells) (by simp)).1) Tryd.underlying26 rfl (by kernel_rfl)) hS ?_
      try simp only [Act.put, s1, s2, s3]
      refine r1 16 rfl (fun K hK => ?_)
      have HI2 : Hid (Sb w wr [(W5.heap.size, z.cells), (W3.heap.size, y.cells), (W2.heap.size, x1.cells), (w1.heap.size + 1, p.cells), (w1.heap.size, b.cells)] [z, y, x1, b] Y2) := hS
      clear hS
      go_simp
      refine (bsame_t z b _ (HI2.out.a z (by simp)) (HI2.out.a b (by simp)) (Nat.le_trans HTZ.out (by omega)) (Nat.le_trans HTO.out.1 (by omega)) HZM.out).mono ?_
      rintro e Y3 ⟨rfl, hb⟩
      have HI3 : Hid (Sb w wr [(W5.heap.size, z.cells), (W3.heap.size, y.cells), (W2.heap.size, x1.cells), (w1.heap.size + 1, p.cells), (w1.heap.size, b.cells)] [z, y, x1, b] Y3) := HI2.out.later hb
      clear hb HI2
      go_wp2_with (fail)
      refine hK.out _ _ HI3.out (fun hS => ?_)
      clear hK K
      try simp only [Act.put, s1, s2, s3]
      refine tI 17 (v := .bool true) (d := some 114) rfl rfl (fun w' hw => ?_) hS ?_
      · clear hw; go_simp
      try simp only [Act.put, s1, s2, s3]
      refine tI 18 (v := .bool true) (d := some 2) rfl rfl (fun w' hw => ?_) hS ?_
      · clear hw; go_simp
      try simp only [Act.put, s1, s2, s3]
      refine wpAnyH_done (by kernel_rfl) ?_ _
      have HTQ := hS.st
      clear hS
      go_wp2_with (fail)
      go_ret
      exact ⟨rfl, HTQ.b⟩
/- Codes too long are passed by. -/
theorem law_bkhand_all {adr : Nat → Addr} (a : Option Addr) (len cap : Nat) (zs : List Int) (w : World) (h : Bytes w a len cap zs) (he : Ea adr w) :
    Calls Tryd.prog 7 #[.slice a len cap] w fun e w' => e = .returned (.bool true) ∧ Below w.heap.size w w' := by
  have r0 := Draw.row_of h
  have m0 := r0.1
  unfold maxLen at m0
  by_cases h0 : (1048576 : Int) < len
  · go_enter Tryd.func7, Tryd.ntmps7
    go_wp2_with (fail)
    go_ret
    exact ⟨rfl, Below.refl _ _⟩
  · exact law_bkhand a len cap zs w r0 h0 he
end Go.Proofs.YtbipolfbkemmpaaDoor.Dra

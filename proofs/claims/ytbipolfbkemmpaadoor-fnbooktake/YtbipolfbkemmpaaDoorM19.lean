import Derived.Test.YtbipolfbkemmpaaDoorM18

/- A room is given back, by the specification. -/
namespace Go.Proofs.YtbipolfbkemmpaaDoor.Book
open Go.ChangeShapes Go.WideShapes Go.ChangeAt Go.RowKit
open Aid Lst
set_option maxRecDepth 100000
set_option linter.unusedVariables false

def BakP (b : Bx) (A : Nat) (c : Bx) : Prop :=
  (∃ n : Nat, 1 ≤ n ∧ b.p.f (A / 8) = 8 + (n : Int) ∧ c = b.unwide (A / 8) n) ∨
  ∃ k : Nat, k < 4 ∧ b.p.f (A / 8) = (k : Int) + 1 ∧
    ((¬ FreeP (b.o.put A 0).f (A / 8) 0 ∧ ∃ x : Sx, x.n = (b.hd k).n + 1 ∧ x.f = consF (b.hd k).f A ∧ c = (b.seth k x).own A 0) ∨
     (FreeP (b.o.put A 0).f (A / 8) 0 ∧ ∃ y : Sx, KepP (consF (b.hd k).f A) (A / 8 : Nat) ((b.hd k).n + 1) y ∧ c = ((b.pag (A / 8) 0).seth k y).own A 0))
theorem bak_ok {b c : Bx} {A : Nat} (hok : OkP b) (hA : A < b.o.n) (ho : 0 < b.o.f A) (h : BakP b A c) : OkP c := by
  have l2 := hok.1.1.2.2.2.2.1
  have l4 := hok.1.1.2.2.2.2.2.2
  rcases h with ⟨n, n1, hn, rfl⟩ | ⟨k, hk, hp, ⟨hf, x, xn, xf, rfl⟩ | ⟨hf, y, hy, rfl⟩⟩
  · exact keep_unwide hok (A / 8) n (by omega) hn n1
  · exact keep_give hok k A x hk hA hp ho xn xf hf
  · exact keep_last hok k A y hk hA hp ho (by rw [hy.1]; exact kept_len _ _ _) (fun j hj => hy.mem j hj) (fun a ha => hy.cnt a ha) hf
def BakQ (b : Bx) (A B : Nat) (w : World) (e : Ending) (w' : World) : Prop := ∃ c : Bx, e = .returned (.agg c.cells.toArray) ∧ BakP b A c ∧ c.Hl B w' ∧ Fr b w w' ∧ ∀ i, c.Lies i → b.Lies i ∨ w.heap.size ≤ i

/- What lies where a room begins that somebody has. -/
theorem had_at {b : Bx} (hok : OkP b) {A : Nat} (hA : A < b.o.n) (ho : 0 < b.o.f A) : (∃ k : Nat, k < 4 ∧ b.p.f (A / 8) = (k : Int) + 1) ∨ (∃ n : Nat, 2 ≤ n ∧ n ≤ 4 ∧ b.p.f (A / 8) = 8 + (n : Int) ∧ A / 8 + n ≤ b.p.n ∧ A = A / 8 * 8) := by
  have l4 := hok.1.1.2.2.2.2.2.2
  have hg := hok.2.2 (A / 8) (by omega)
  have eA : A / 8 * 8 + A % 8 = A := by omega
  have no : ∀ fr, fr ≤ A % 8 → FreeP b.o.f (A / 8) fr → False := fun fr hfr h => h (A % 8) hfr (by omega) (by rw [eA]; exact ho)
  rcases hg with ⟨_, h⟩ | ⟨m, hm, h, _⟩ | ⟨_, _, _, h⟩ | ⟨h1, h2, h3, _, h5, _⟩
  · exact (no 0 (by omega) h).elim
  · exact .inl ⟨m, hm, h⟩
  · exact (no 0 (by omega) h).elim
  · refine .inr ⟨(b.p.f (A / 8) - 8).toNat, by omega, by omega, by omega, by omega, ?_⟩
    by_cases e : A % 8 = 0
    · omega
    · exact (no 1 (by omega) h5).elim

/- So far as its pages are empty. -/
def Bx.unwI (b : Bx) (p u : Nat) : Bx := ⟨b.s, ⟨b.p.a, b.p.n, b.p.c, emptF b.p.f p u⟩, b.h0, b.h1, b.h2, b.h3, b.o.put (p * 8) 0, b.i, b.e⟩
theorem empt_zero (P : Nat → Int) (p : Nat) : emptF P p 0 = P := by
  funext j; unfold emptF; rw [if_neg (by omega)]
theorem empt_step (P : Nat → Int) (p u : Nat) : emptF P p (u + 1) = upd (emptF P p u) (p + u) 0 := by
  funext j
  simp only [emptF, upd]
  by_cases e : j = p + u
  · rw [if_pos e, if_pos (by omega)]
  · rw [if_neg e]
    by_cases e2 : p ≤ j ∧ j < p + u
    · rw [if_pos (by omega), if_pos e2]
    · rw [if_neg (by omega), if_neg e2]

set_option maxHeartbeats 8000000 in
theorem dback_any (b : Bx) (A B : Nat) (w : World) (h : b.Hl B w) (hB : B ≤ w.heap.size) (hok : OkP b) (hA : A < b.o.n) (ho : 0 < b.o.f A) :
    Calls Tryd.prog 77 #[.agg b.cells.toArray, .int .i64 A] w fun e w' => BakQ b A B w e w' := by
  have l2 := hok.1.1.2.2.2.2.1
  have l3 := hok.1.1.2.2.2.2.2.1
  have l4 := hok.1.1.2.2.2.2.2.2
  have hat := had_at hok hA ho
  obtain ⟨P, hP⟩ : ∃ P, P = A / 8 := ⟨_, rfl⟩
  rw [← hP] at hat
  have p1 : P < b.p.n := by omega
  have S := Dn.start h 26
  obtain ⟨kp, op, ea, hcp⟩ := S.h.at.p.cells (by omega)
  obtain ⟨kq, oq, eq, -⟩ := S.h.at.o.cells (by omega)
  have cp := hcp P p1
  obtain ⟨y0, y1, y2⟩ := S.fre (x := b.o) (by simp [Bx.lists]) eq hA
  have S1 := S.write (b' := b.own A 0) 5 b.o rfl kq oq A eq hA 0 rfl rfl (fun i hi => lies_same (b := b) (c := b.own A 0) rfl hi)
  have HS : Hid (Dn w b B (b.own A 0) _) := S1
  have EA : Hid (b.p.a = some ⟨kp, op, none⟩) := ea
  have EQ : Hid (b.o.a = some ⟨kq, oq, none⟩) := eq
  have HP : Hid (P = A / 8) := hP
  have i0 : ¬ (A : Int) / 8 < 0 := by omega
  have i1 : (A : Int) / 8 < b.p.n := by omega
  have i2 : ((A : Int) / 8).toNat = P := by omega
  have i3 : (A : Int) / 8 = P := by omega
  have HO : Hid (0 < b.o.f A) := ho
  clear hcp S S1 hP ho
  simp only [Bx.cells, ea, eq] at cp y1 y2 HS ⊢
  clear ea eq
  go_enter Tryd.func77, Tryd.ntmps77
  go_wp2_with (fail)
  generalize World.setCell _ ⟨kq, oq + A, none⟩ (.int .i64 0) = w2 at HS ⊢
  clear y1 y2 cp i0 i1 i2
  refine (kd_any _ _).mono ?_
  rintro e w2 ⟨rfl, rfl⟩
  rcases hat with ⟨k, hk, hat⟩ | ⟨n, n2, n4, hat, hpn, hAP⟩
  · have HAT : Hid (b.p.f P = (k : Int) + 1) := hat
    rw [hat, show kdM ((k : Int) + 1) = k by simp only [kdM]; rw [if_pos (by omega)]; omega]
    clear hat
    go_wp2_with (fail)
    refine (kd_any _ _).mono ?_
    rintro e w2 ⟨rfl, rfl⟩
    rw [show kdM ((k : Int) + 1) = k by simp only [kdM]; rw [if_pos (by omega)]; omega]
    obtain ⟨x, hx⟩ : ∃ x, x = b.hd k := ⟨_, rfl⟩
    have HX : Hid (x = b.hd k) := hx
    have xd : (b.own A 0).hd k = x := by rw [hx]; rfl
    have xn : x.n ≤ 1000 := by have := (hok.2.1 k hk).1; rw [← hx] at this; omega
    have xb : ∀ j, j < x.n → 0 ≤ x.f j ∧ x.f j ≤ 1000 := fun j hj => by rw [hx]; have g := (hok.2.1 k hk).2 j (by rw [← hx]; exact hj); exact ⟨g.1, by have := g.2.1; omega⟩
    have XB : Hid (∀ j, j < x.n → 0 ≤ x.f j ∧ x.f j ≤ 1000) := xb
    obtain ⟨d1, d2⟩ := (HS.out.later (below1 w2 (.cells #[.int .i64 (A : Int)] 3))).hd hk
    rw [xd] at d1
    have xat : x.At w2 := by rw [← xd]; exact HS.out.h.at.hd k
    have XH : Hid (x.Hl B w2) := by rw [← xd]; exact HS.out.h.each _ (List.mem_of_getElem? (hd_lists (b.own A 0) hk))
    have XAT : Hid (x.At w2) := xat
    have z2 := HS.out.z
    clear hx xd xb xat
    generalize hv : Value.slice x.a x.n x.c = v at d1
    have HV : Hid (Value.slice x.a x.n x.c = v) := hv
    clear hv
    have XNIL : Hid (x.a = none → x.n = 0) := fun e => by
      rcases XAT.out with g | ⟨_, _, g, _⟩
      · exact g
      · rw [e] at g; cases g
    go_wp2_with (refine wpList_appc rfl _ _ (A : Int) x B w2.heap.size w2.heap.size _ rfl rfl (by rw [HV.out]; rfl) (XAT.out.later (below1 _ _)) XNIL.out (by omega) (ck_lit #[.int .i64 (A : Int)] (heap1_0 w2 _) 0 _ rfl).1 (ck_lit #[.int .i64 (A : Int)] (heap1_0 w2 _) 0 _ rfl).2 (by omega) (Nat.le_refl _) ?_)
    intro r w4 hq
    obtain ⟨x', rfl, xn', xf', xh', hb4, xa'⟩ := hq
    have hb24 : Below w2.heap.size w2 w4 := (below1 w2 _).trans (hb4.mono (by simp))
    obtain ⟨f1, f2⟩ := (HS.out.later hb24).hd hk
    have D := HS.out.fresh hk hb24 xh' xa'
    obtain ⟨c, hc⟩ : ∃ c, c = (b.own A 0).seth k x' := ⟨_, rfl⟩
    rw [← hc] at D
    have HC : Hid (c = (b.own A 0).seth k x') := hc
    have chd : c.hd k = x' := by rw [hc]; exact hd_same _ hk x'
    have cpp : c.p = b.p := by rw [hc]; rfl
    have coo : c.o = b.o.put A 0 := by rw [hc]; rfl
    have con : c.o.n = b.o.n := by rw [coo]; rfl
    have CHD : Hid (c.hd k = x') := chd
    have CPP : Hid (c.p = b.p) := cpp
    have COO : Hid (c.o = b.o.put A 0) := coo
    have HD : Hid (Dn w b B c _) := D
    have HR : Hid (World.rangeAt _ w.heap.size 0 c.cells) := D.e.range
    have XN' : Hid (x'.n = x.n + 1) := xn'
    have XF' : Hid (x'.f = consF x.f (A : Int)) := xf'
    clear D hc chd cpp coo xn' xf' d1 d2 HS XH XAT
    go_wp2_with ((refine wpList_load_mid rfl 26 _ rfl w.heap.size 0 rfl (c).cells _ HR.out Tryd.underlying26 rfl (by kernel_rfl) ?_))
    refine (free_any c P 0 _ HD.out.h.at (by omega) (by omega) (by omega)).mono ?_
    rintro e w6 ⟨⟨r, rfl, hr⟩, hb6⟩
    have D := HD.out.later hb6
    clear HR HD hb6 f1 f2
    have fq : FreeP c.o.f P 0 ↔ FreeP (b.o.put A 0).f (A / 8) 0 := by rw [COO.out, HP.out]
    cases r
    · have HF : Hid (¬ FreeP (b.o.put A 0).f (A / 8) 0) := fun g => hr.f (fq.2 g)
      clear hr fq
      have HA : Hid (Ret w b B (c) _) := D.anss
      have HT : Hid (World.there _ (w.heap.size + 1) 0 9) := D.theret
      have HR : Hid (World.rangeAt _ w.heap.size 0 (c).cells) := D.e.range
      clear D
      go_wp2_with (first | (refine wpList_load_mid rfl 26 _ rfl w.heap.size 0 rfl (c).cells _ HR.out Tryd.underlying26 rfl (by kernel_rfl) ?_) | (refine wpList_store_mid rfl 26 _ _ rfl (w.heap.size + 1) 0 (c).cells.toArray rfl rfl HT.out (by kernel_rfl) (cells_one _) ?_))
      exact bodyPost_ret (results_cell_mid rfl _ _ (w.heap.size + 1) 0 _ _ rfl HA.out.c Tryd.underlying26 rfl (by kernel_rfl)) rfl ⟨c, rfl, .inr ⟨k, hk, by rw [← HP.out]; exact HAT.out, .inl ⟨HF.out, x', by rw [XN'.out, HX.out], by rw [XF'.out, HX.out], by rw [HC.out]; rfl⟩⟩, HA.out.h, HA.out.f, HA.out.l⟩
    · have HF : Hid (FreeP (b.o.put A 0).f (A / 8) 0) := fq.1 hr.t
      clear hr fq
      obtain ⟨y0, y1, y2⟩ := D.fre (x := c.p) (by simp [Bx.lists]) (by rw [CPP.out]; exact EA.out) (j := P) (by rw [CPP.out]; exact p1)
      obtain ⟨-, u1, -, -, -, -, -, -, -⟩ := nine D.e.range
      rw [CPP.out, EA.out] at u1
      have D7 := D.write (b' := c.pag P 0) 0 c.p rfl kp op P (by rw [CPP.out]; exact EA.out) (by rw [CPP.out]; exact p1) 0 rfl rfl (fun i hi => lies_same (b := c) (c := c.pag P 0) rfl hi)
      have HD7 : Hid (Dn w b B (c.pag P 0) _) := D7
      clear D D7
      go_wp2_with (fail)
      have x1 : 0 < x'.n := by rw [XN'.out]; omega
      have x2 : x'.n ≤ 1001 := by rw [XN'.out]; omega
      have xp : ∀ j, j < x'.n → 0 ≤ x'.f j ∧ x'.f j ≤ 1000 := fun j hj => by
        rw [XF'.out]
        cases j with
        | zero => exact ⟨by show (0 : Int) ≤ A; omega, by show (A : Int) ≤ 1000; omega⟩
        | succ j => exact XB.out j (by rw [XN'.out] at hj; omega)
      have XP : Hid (∀ j, j < x'.n → 0 ≤ x'.f j ∧ x'.f j ≤ 1000) := xp
      clear xp y1 y2 u1
      obtain ⟨w7, h7⟩ : ∃ w7, w7 = w6.setCell ⟨kp, op + P, none⟩ (.int .i64 0) := ⟨_, rfl⟩
      have s7 : w7.heap.size = w6.heap.size := by rw [h7]; simp [World.setCell]
      rw [← s7, ← h7]
      rw [← h7] at HD7
      clear h7 s7
      have P7 : (c.pag P 0).hd k = x' := by rw [← CHD.out]; rfl
      have HP7 : Hid ((c.pag P 0).hd k = x') := P7
      clear P7
      go_loopw [9, 10] (fun l i wr => ∃ (u : Nat) (y : Sx), u ≤ x'.n ∧ i = .int .i64 u ∧ Hid (l = .slice y.a y.n y.c) ∧ KepP x'.f P u y ∧ y.Hl B wr ∧ (∀ j o, y.a = some ⟨j, o, none⟩ → w7.heap.size ≤ j) ∧ Below w7.heap.size w7 wr) (fun _ i _ => x'.n - (intOf i).toNat)
      case atStart => exact ⟨0, ⟨some ⟨w7.heap.size, 0, none⟩, 0, 0, fun _ => 0⟩, by omega, rfl, rfl, KepP.start _ _ _ rfl, ⟨Nat.le_refl _, .inl rfl⟩, fun j o e => by cases e; exact Nat.le_refl _, below1 _ _⟩
      case round =>
        obtain ⟨u, y, hu, rfl, HL, kp_, yh, ya, hb⟩ := hrel
        have Dr := HD7.out.later hb
        have z7 := Dr.z
        obtain ⟨d1, d2⟩ := Dr.hd hk
        rw [HP7.out] at d1
        have xat := Dr.h.at.hd k
        rw [HP7.out] at xat
        obtain ⟨kx, ox, exa, hcx⟩ := xat.cells (by omega)
        rw [exa] at d1
        have KP : Hid (KepP x'.f P u y) := kp_
        have YH : Hid (y.Hl B wr) := yh
        have YA : Hid (∀ j o, y.a = some ⟨j, o, none⟩ → w7.heap.size ≤ j) := ya
        have HB7 : Hid (Below w7.heap.size w7 wr) := hb
        have EXA : Hid (x'.a = some ⟨kx, ox, none⟩) := exa
        clear kp_ yh ya hb xat exa Dr
        by_cases hlt : (u : Int) < x'.n
        · have c1 := hcx u (by omega)
          obtain ⟨N, hN⟩ : ∃ N : Nat, x'.f u = N := ⟨(x'.f u).toNat, by have := XP.out u (by omega); omega⟩
          rw [hN] at c1
          have n1 : (N : Int) ≤ 1000 := by rw [← hN]; exact (XP.out u (by omega)).2
          have HN : Hid (x'.f u = N) := hN
          clear hN
          have yl : y.n ≤ 1001 := by have := kept_len x'.f P u; rw [← KP.out.1] at this; omega
          clear hcx
          by_cases e8 : (N : Int) / 8 = P
          · go_wp2_with (fail)
            go_roundw
            case rel => exact ⟨u + 1, y, by omega, by go_num, HL, KP.out.skip (by rw [HN.out]; exact e8), YH.out, YA.out, HB7.out⟩
            case measure => simp [intOf]; omega
          · go_wp2_with (refine wpList_app1 rfl _ _ y (N : Int) B _ wr.heap.size 0 1 rfl (by rw [HL.out]; rfl) rfl (YH.out.later (below1 _ _)) (by simp; omega) (by omega) (ck_lit #[.int .i64 (N : Int)] (heap1_0 wr _) 0 _ rfl).1 ?_)
            intro r w8 hq
            obtain ⟨y', hr, yn', yf', yh', yw⟩ := hq
            have HL' : Hid (r = .slice y'.a y'.n y'.c) := hr
            have R8 : Hid ((∀ j o, y'.a = some ⟨j, o, none⟩ → w7.heap.size ≤ j) ∧ Below w7.heap.size w7 w8) := by
              have hb := HB7.out
              have b1 := hb.trans ((below1 wr (.cells #[.int .i64 (N : Int)] 3)).mono hb.size)
              have s8 := b1.size
              rcases yw with ⟨k1, o1, e1, e2, e3, e4, rfl⟩ | ⟨e1, g, hs⟩
              · exact ⟨fun j o e => YA.out j o (by rw [← e2]; exact e), b1.setCell (p := ⟨k1, o1 + y.n, none⟩) (YA.out k1 o1 e1) _⟩
              · exact ⟨fun j o e => by rw [e1] at e; cases e; exact s8, b1.trans (g.mono s8)⟩
            have YH' : Hid (y'.Hl B w8) := yh'
            have KP' : Hid (KepP x'.f P (u + 1) y') := KP.out.more (by rw [HN.out]; exact e8) yn' (by rw [HN.out]; exact yf')
            clear hr yn' yf' yh' yw c1 d1 d2
            go_wp2_with (fail)
            go_roundw
            case rel => exact ⟨u + 1, y', by omega, by go_num, HL', KP'.out, YH'.out, R8.out.1, R8.out.2⟩
            case measure => simp [intOf]; omega
        · obtain rfl : u = x'.n := by omega
          have D9 := HD7.out.fresh hk HB7.out YH.out YA.out
          have hl := HL.out
          subst hl
          clear hcx
          have HA : Hid (Ret w b B ((c.pag P 0).seth k y) _) := D9.anss
          have HT : Hid (World.there _ (w.heap.size + 1) 0 9) := D9.theret
          have HR : Hid (World.rangeAt _ w.heap.size 0 ((c.pag P 0).seth k y).cells) := D9.e.range
          clear D9
          have v0 := d1
          have v1 := d2
          go_wp2_with (first | (refine wpList_load_mid rfl 26 _ rfl w.heap.size 0 rfl ((c.pag P 0).seth k y).cells _ HR.out Tryd.underlying26 rfl (by kernel_rfl) ?_) | (refine wpList_store_mid rfl 26 _ _ rfl (w.heap.size + 1) 0 ((c.pag P 0).seth k y).cells.toArray rfl rfl HT.out (by kernel_rfl) (cells_one _) ?_))
          exact bodyPost_ret (results_cell_mid rfl _ _ (w.heap.size + 1) 0 _ _ rfl HA.out.c Tryd.underlying26 rfl (by kernel_rfl)) rfl ⟨(c.pag P 0).seth k y, rfl, .inr ⟨k, hk, by rw [← HP.out]; exact HAT.out, .inr ⟨HF.out, y, by rw [← HX.out, ← XF'.out, ← XN'.out, ← HP.out]; exact KP.out, by rw [HC.out, ← HP.out]; show (((b.own A 0).pag P 0).seth k x').seth k y = _; rw [seth_seth]; rfl⟩⟩, HA.out.h, HA.out.f, HA.out.l⟩
  · have hpn' : ((P : Int) + n) ≤ b.p.n := by omega
    have HAT : Hid (b.p.f P = 8 + (n : Int)) := hat
    rw [hat, show kdM (8 + (n : Int)) = -1 by simp only [kdM]; rw [if_neg (by omega)]]
    clear hat
    have S2 : Dn w b B (b.unwI P 0) w2 := by
      have e : b.unwI P 0 = b.own A 0 := by simp only [Bx.unwI, empt_zero, Bx.own, ← hAP]
      rw [e]; exact HS.out
    have HS2 : Hid (Dn w b B (b.unwI P 0) w2) := S2
    have HAP : Hid (A = P * 8) := hAP
    clear S2 HS hAP
    go_wp2_with (fail)
    go_loopw [7] (fun i wr => ∃ u : Nat, u ≤ n ∧ i = .int .i64 u ∧ Dn w b B (b.unwI P u) wr) (fun i _ => n - (intOf i).toNat)
    case atStart => exact ⟨0, by omega, rfl, HS2.out⟩
    case round =>
      obtain ⟨u, h1, rfl, S⟩ := hrel
      by_cases hlt : (u : Int) < n
      · obtain ⟨y0, y1, y2⟩ := S.fre (x := (b.unwI P u).p) (by simp [Bx.lists]) EA.out (j := P + u) (by show P + u < b.p.n; omega)
        obtain ⟨-, u1, -, -, -, -, -, -, -⟩ := nine S.e.range
        simp only [Bx.unwI, EA.out] at u1
        have S3 := S.write (b' := b.unwI P (u + 1)) 0 (b.unwI P u).p rfl kp op (P + u) EA.out (by show P + u < b.p.n; omega) 0 (by simp only [Bx.unwI, empt_step]; rfl) rfl (fun i hi => lies_same (b := b.unwI P u) (c := b.unwI P (u + 1)) rfl hi)
        have HS3 : Hid (Dn w b B (b.unwI P (u + 1)) _) := S3
        have j1 : ((P : Int) + u) < b.p.n := by omega
        have j2 : ((P : Int) + u).toNat = P + u := by omega
        clear S S3
        go_wp2_with (fail)
        go_round
        case rel => exact ⟨u + 1, by omega, by go_num, HS3.out⟩
        case measure => simp [intOf]; omega
      · obtain rfl : u = n := by omega
        have ec : b.unwI P u = b.unwide P u := rfl
        rw [ec] at S
        have HA : Hid (Ret w b B (b.unwide P u) _) := S.anss
        have HT : Hid (World.there _ (w.heap.size + 1) 0 9) := S.theret
        have HR : Hid (World.rangeAt _ w.heap.size 0 (b.unwide P u).cells) := S.e.range
        clear S
        go_wp2_with (first | (refine wpList_load_mid rfl 26 _ rfl w.heap.size 0 rfl (b.unwide P u).cells _ HR.out Tryd.underlying26 rfl (by kernel_rfl) ?_) | (refine wpList_store_mid rfl 26 _ _ rfl (w.heap.size + 1) 0 (b.unwide P u).cells.toArray rfl rfl HT.out (by kernel_rfl) (cells_one _) ?_))
        exact bodyPost_ret (results_cell_mid rfl _ _ (w.heap.size + 1) 0 _ _ rfl HA.out.c Tryd.underlying26 rfl (by kernel_rfl)) rfl ⟨b.unwide P u, rfl, .inl ⟨u, by omega, by rw [← HP.out]; exact HAT.out, by rw [HP.out]⟩, HA.out.h, HA.out.f, HA.out.l⟩

def TakP (b : Bx) (t : Nat) (u : Int) (c : Bx) (x y : Int) : Prop :=
  (kindM u < 0 ∧ c = b ∧ x = 1 ∧ y = 0) ∨ (kindM u = 4 ∧ PagP b t ((u + 7) / 8).toNat c x y) ∨
  ∃ k : Nat, k < 4 ∧ kindM u = k ∧
    ((0 < (b.hd k).n ∧ (∃ a, c = (b.seth k ((b.hd k).drop a)).own ((b.hd k).f 0).toNat ((t : Int) + 1)) ∧ x = 0 ∧ y = (b.hd k).f 0) ∨
     ((b.hd k).n = 0 ∧ (∀ q, q + 1 ≤ b.p.n → ¬ EmpP b.p.f q 1) ∧ c = b ∧ x = 2 ∧ y = 0) ∨
     ((b.hd k).n = 0 ∧ ∃ p : Nat, p + 1 ≤ b.p.n ∧ EmpP b.p.f p 1 ∧ (∀ q, q < p → ¬ EmpP b.p.f q 1) ∧ (∃ (a : Sx) (o : Option Addr), CarP p k a ∧ c = ((b.pag p ((k : Int) + 1)).seth k (a.drop o)).own (p * 8) ((t : Int) + 1)) ∧ x = 0 ∧ y = (p : Int) * 8))

set_option maxHeartbeats 8000000 in
theorem dtake_any (b : Bx) (t B : Nat) (u : Int) (w : World) (h : b.Hl B w) (hB : B ≤ w.heap.size) (hok : OkP b) (ht : (t : Int) < b.s) :
    Calls Tryd.prog 75 #[.agg b.cells.toArray, .int .i64 t, .int .i64 u] w fun e w' => Ans3 b B w (TakP b t u) e w' := by
  have l1 := hok.1.1.2.1
  have l2 := hok.1.1.2.2.2.2.1
  have l3 := hok.1.1.2.2.2.2.2.1
  have l4 := hok.1.1.2.2.2.2.2.2
  have S := Dn.start h 26
  simp only [Bx.cells] at S ⊢
  go_enter Tryd.func75, Tryd.ntmps75
  go_wp2_with (fail)
  generalize (w.alloc (.cells #[.int .i64 b.s, .slice b.p.a b.p.n b.p.c, .slice b.h0.a b.h0.n b.h0.c, .slice b.h1.a b.h1.n b.h1.c, .slice b.h2.a b.h2.n b.h2.c, .slice b.h3.a b.h3.n b.h3.c, .slice b.o.a b.o.n b.o.c, .slice b.i.a b.i.n b.i.c, .slice b.e.a b.e.n b.e.c] 26)).alloc (.cells #[.int .i64 0, .slice none 0 0, .slice none 0 0, .slice none 0 0, .slice none 0 0, .slice none 0 0, .slice none 0 0, .slice none 0 0, .slice none 0 0] 26) = W at S ⊢
  refine (skind_any u W).mono ?_
  rintro e w1 ⟨rfl, hb⟩
  replace S := S.later hb
  clear hb
  generalize hK : kindM u = K
  have HK : Hid (kindM u = K) := hK
  by_cases k0 : K < 0
  · clear hK
    obtain ⟨w9, e9, ck9, ow9, be9, li9⟩ := S.ans
    have tk0 := S.t 0 _ rfl
    have tk1 := S.t 1 _ rfl
    have tk2 := S.t 2 _ rfl
    have tk3 := S.t 3 _ rfl
    have tk4 := S.t 4 _ rfl
    have tk5 := S.t 5 _ rfl
    have tk6 := S.t 6 _ rfl
    have tk7 := S.t 7 _ rfl
    have tk8 := S.t 8 _ rfl
    obtain ⟨u0, u1, u2, u3, u4, u5, u6, u7, u8⟩ := nine S.e.range
    have HE : Hid (w9 = _) := e9
    clear S e9
    go_wp2_with (fail)
    rw [← HE.out]
    exact bodyPost_ret (results_cell_two rfl _ _ (w.heap.size + 1) 0 _ _ rfl ck9.range Tryd.underlying26 rfl (by kernel_rfl)) rfl ⟨b, 1, 0, rfl, .inl ⟨by rw [HK.out]; exact k0, rfl, rfl, rfl⟩, ow9, be9, li9⟩
  by_cases k4 : K = 4
  · have u9 : 9 ≤ u ∧ u ≤ 32 := by
      simp only [kindM] at hK
      repeat' split at hK
      all_goals omega
    clear hK
    subst k4
    obtain ⟨u0, u1, u2, u3, u4, u5, u6, u7, u8⟩ := nine S.e.range
    have HS : Hid (Dn w b B b w1) := S
    clear S
    go_wp2_with (fail)
    clear u0 u1 u2 u3 u4 u5 u6 u7 u8
    obtain ⟨n, hn⟩ : ∃ n : Nat, (u + 8 - 1) / 8 = n := ⟨((u + 8 - 1) / 8).toNat, by omega⟩
    rw [hn]
    refine (dpages_any b t n B w1 HS.out.h hok (by omega) (by omega) ht).mono ?_
    rintro e w2 ⟨c, x, y, rfl, hp, hh, hf, hl⟩
    have S := HS.out.call hh hf hl
    have HP : Hid (PagP b t ((u + 7) / 8).toNat c x y) := by rw [show ((u + 7) / 8).toNat = n by omega]; exact hp
    clear HS hp hh hf hl
    obtain ⟨w9, e9, ck9, ow9, be9, li9⟩ := S.ans
    have tk0 := S.t 0 _ rfl
    have tk1 := S.t 1 _ rfl
    have tk2 := S.t 2 _ rfl
    have tk3 := S.t 3 _ rfl
    have tk4 := S.t 4 _ rfl
    have tk5 := S.t 5 _ rfl
    have tk6 := S.t 6 _ rfl
    have tk7 := S.t 7 _ rfl
    have tk8 := S.t 8 _ rfl
    have HE : Hid (w9 = _) := e9
    clear S e9
    simp only [Bx.cells]
    go_wp2_with (fail)
    rw [← HE.out]
    exact bodyPost_ret (results_cell_two rfl _ _ (w.heap.size + 1) 0 _ _ rfl ck9.range Tryd.underlying26 rfl (by kernel_rfl)) rfl ⟨c, x, y, rfl, .inr (.inl ⟨HK.out, HP.out⟩), ow9, be9, li9⟩
  obtain ⟨k, hk, rfl⟩ : ∃ k : Nat, k < 4 ∧ K = k := ⟨K.toNat, by
      simp only [kindM] at hK
      repeat' split at hK
      all_goals omega, by omega⟩
  obtain ⟨d1, d2⟩ := S.hd hk
  by_cases n0 : (b.hd k).n = 0
  · rw [n0] at d1
    obtain ⟨u0, u1, u2, u3, u4, u5, u6, u7, u8⟩ := nine S.e.range
    have HS : Hid (Dn w b B b w1) := S
    clear S hK
    go_wp2_with (fail)
    clear u0 u1 u2 u3 u4 u5 u6 u7 u8 d1 d2
    refine (run_any b 1 w1 HS.out.h.at (by omega) (by omega) (by omega) (by omega)).mono ?_
    rintro e w2 ⟨⟨r, rfl, hr⟩, hb⟩
    have S := HS.out.later hb
    clear HS hb
    rcases hr with ⟨p, p1, rfl, p2, p3⟩ | ⟨rfl, hr⟩
    · obtain ⟨u0, u1, u2, u3, u4, u5, u6, u7, u8⟩ := nine S.e.range
      have HS : Hid (Dn w b B b w2) := S
      have P2 : Hid (EmpP b.p.f p 1) := p2
      have P3 : Hid (∀ q, q < p → ¬ EmpP b.p.f q 1) := p3
      clear S p2 p3
      go_wp2_with (fail)
      clear u0 u1 u2 u3 u4 u5 u6 u7 u8
      refine (dcarve_any b p k B w2 HS.out.h (by have := HS.out.z; omega) hk (by omega) (by omega) n0).mono ?_
      rintro e w3 ⟨x, rfl, cp, hh, hf, hl⟩
      obtain ⟨c, hcd⟩ : ∃ c, c = (b.pag p ((k : Int) + 1)).seth k x := ⟨_, rfl⟩
      rw [← hcd] at hh hl ⊢
      have M := HS.out.call hh hf hl
      have HM : Hid (w3.there w.heap.size 0 9) := M.there
      have S := M.stores
      have HS4 : Hid (Dn w b B c _) := S
      have HCD : Hid (c = (b.pag p ((k : Int) + 1)).seth k x) := hcd
      have CP : Hid (CarP p k x) := cp
      clear M S hcd cp hh hf hl HS
      go_wp2_with (refine wpList_store_mid rfl 26 _ _ rfl w.heap.size 0 c.cells.toArray rfl rfl HM.out (by kernel_rfl) (cells_one c) ?_; apply Hid.out)
      generalize World.setCells _ _ _ _ = w4 at HS4 ⊢
      unfold Hid
      have S := HS4.out
      have hcd := HCD.out
      have cp := CP.out
      clear HM HS4
      have hdc : c.hd k = x := by rw [hcd]; exact hd_same _ hk x
      have con : c.o.n = b.o.n := by rw [hcd]; rfl
      have xp : 0 < x.n := by
        have := cp.1
        have sp := sz_is k
        rcases sp with sp | sp | sp | sp <;> rw [sp] at this <;> omega
      have N00 : Hid ((b.hd k).n = 0) := n0
      have HDC : Hid (c.hd k = x) := hdc
      have hA0 : (c.hd k).f 0 = (p : Int) * 8 := by rw [hdc, cp.2 0 xp]; simp
      clear n0 cp
      have n0 : ¬ (c.hd k).n = 0 := by rw [hdc]; omega
      clear hdc hcd
      obtain ⟨d1, d2⟩ := S.hd hk
      obtain ⟨kx, ox, ea, hc⟩ := (S.h.at.hd k).cells (by omega)
      have c0 := hc 0 (by omega)
      rw [Nat.add_zero] at c0
      rw [ea] at d1
      obtain ⟨kq, oq, eq, -⟩ := S.h.at.o.cells (by omega)
      have hcap : (c.hd k).n ≤ (c.hd k).c := (S.h.each _ (List.mem_of_getElem? (hd_lists c hk))).1
      obtain ⟨A, hA, hAp⟩ : ∃ A : Nat, (c.hd k).f 0 = A ∧ A = p * 8 := ⟨p * 8, by rw [hA0]; omega, rfl⟩
      have a1 : (A : Int) < c.o.n := by omega
      have HAP : Hid (A = p * 8) := hAp
      clear hAp hA0 hc
      by_cases c1 : (c.hd k).c = 1
      · have S1 := S.pop hk ea (by omega) (some ⟨kx, ox, none⟩) (.inl c1)
        have e0 : (c.hd k).c - 1 = 0 := by omega
        rw [e0] at S1
        obtain ⟨y0, y1, y2⟩ := S1.fre (x := c.o) (by simp [Bx.lists, Bx.seth]) eq (j := A) (by omega)
        have S2 := S1.write (b' := (c.seth k ((c.hd k).drop (some ⟨kx, ox, none⟩))).own A ((t : Int) + 1)) 5 c.o rfl kq oq A eq (by omega) ((t : Int) + 1) rfl rfl (fun i hi => lies_same (b := c.seth k ((c.hd k).drop (some ⟨kx, ox, none⟩))) (c := (c.seth k ((c.hd k).drop (some ⟨kx, ox, none⟩))).own A ((t : Int) + 1)) rfl hi)
        obtain ⟨g, hg⟩ : ∃ g, g = (c.seth k ((c.hd k).drop (some ⟨kx, ox, none⟩))).own A ((t : Int) + 1) := ⟨_, rfl⟩
        have HG : Hid (g = (c.seth k ((c.hd k).drop (some ⟨kx, ox, none⟩))).own A ((t : Int) + 1)) := hg
        have v6 := (S1.e 6 (.slice c.o.a c.o.n c.o.c) rfl).1
        rw [eq] at v6
        rw [← hg] at S2
        clear hg S1 S
        obtain ⟨w9, e9, ck9, ow9, be9, li9⟩ := S2.ans
        have tk0 := S2.t 0 _ rfl
        have tk1 := S2.t 1 _ rfl
        have tk2 := S2.t 2 _ rfl
        have tk3 := S2.t 3 _ rfl
        have tk4 := S2.t 4 _ rfl
        have tk5 := S2.t 5 _ rfl
        have tk6 := S2.t 6 _ rfl
        have tk7 := S2.t 7 _ rfl
        have tk8 := S2.t 8 _ rfl
        obtain ⟨z0, z1, z2, z3, z4, z5, z6, z7, z8⟩ := nine S2.e.range
        have HE : Hid (w9 = _) := e9
        clear S2 e9
        have HA : Hid ((c.hd k).f 0 = A) := hA
        have N0 : Hid (¬ (c.hd k).n = 0) := n0
        rw [hA] at c0
        clear hA
        have cx : (c.hd k).c = 1 := c1
        go_wp2_with (fail)
        rw [← HE.out]
        exact bodyPost_ret (results_cell_two rfl _ _ (w.heap.size + 1) 0 _ _ rfl ck9.range Tryd.underlying26 rfl (by kernel_rfl)) rfl ⟨g, 0, A, rfl, .inr (.inr ⟨k, hk, HK.out, .inr (.inr ⟨N00.out, p, p1, P2.out, P3.out, ⟨x, _, CP.out, by rw [HG.out, HAP.out, HDC.out, HCD.out, seth_seth]⟩, rfl, by rw [HAP.out]; omega⟩)⟩), ow9, be9, li9⟩
      · have S1 := S.pop hk ea (by omega) (some ⟨kx, ox + 1, none⟩) (.inr rfl)
        have e0 := c1
        obtain ⟨y0, y1, y2⟩ := S1.fre (x := c.o) (by simp [Bx.lists, Bx.seth]) eq (j := A) (by omega)
        have S2 := S1.write (b' := (c.seth k ((c.hd k).drop (some ⟨kx, ox + 1, none⟩))).own A ((t : Int) + 1)) 5 c.o rfl kq oq A eq (by omega) ((t : Int) + 1) rfl rfl (fun i hi => lies_same (b := c.seth k ((c.hd k).drop (some ⟨kx, ox + 1, none⟩))) (c := (c.seth k ((c.hd k).drop (some ⟨kx, ox + 1, none⟩))).own A ((t : Int) + 1)) rfl hi)
        obtain ⟨g, hg⟩ : ∃ g, g = (c.seth k ((c.hd k).drop (some ⟨kx, ox + 1, none⟩))).own A ((t : Int) + 1) := ⟨_, rfl⟩
        have HG : Hid (g = (c.seth k ((c.hd k).drop (some ⟨kx, ox + 1, none⟩))).own A ((t : Int) + 1)) := hg
        have v6 := (S1.e 6 (.slice c.o.a c.o.n c.o.c) rfl).1
        rw [eq] at v6
        rw [← hg] at S2
        clear hg S1 S
        obtain ⟨w9, e9, ck9, ow9, be9, li9⟩ := S2.ans
        have tk0 := S2.t 0 _ rfl
        have tk1 := S2.t 1 _ rfl
        have tk2 := S2.t 2 _ rfl
        have tk3 := S2.t 3 _ rfl
        have tk4 := S2.t 4 _ rfl
        have tk5 := S2.t 5 _ rfl
        have tk6 := S2.t 6 _ rfl
        have tk7 := S2.t 7 _ rfl
        have tk8 := S2.t 8 _ rfl
        obtain ⟨z0, z1, z2, z3, z4, z5, z6, z7, z8⟩ := nine S2.e.range
        have HE : Hid (w9 = _) := e9
        clear S2 e9
        have HA : Hid ((c.hd k).f 0 = A) := hA
        have N0 : Hid (¬ (c.hd k).n = 0) := n0
        rw [hA] at c0
        clear hA
        have cx : 0 < (c.hd k).c - 1 := by omega
        go_wp2_with (fail)
        rw [← HE.out]
        exact bodyPost_ret (results_cell_two rfl _ _ (w.heap.size + 1) 0 _ _ rfl ck9.range Tryd.underlying26 rfl (by kernel_rfl)) rfl ⟨g, 0, A, rfl, .inr (.inr ⟨k, hk, HK.out, .inr (.inr ⟨N00.out, p, p1, P2.out, P3.out, ⟨x, _, CP.out, by rw [HG.out, HAP.out, HDC.out, HCD.out, seth_seth]⟩, rfl, by rw [HAP.out]; omega⟩)⟩), ow9, be9, li9⟩
    · obtain ⟨w9, e9, ck9, ow9, be9, li9⟩ := S.ans
      have tk0 := S.t 0 _ rfl
      have tk1 := S.t 1 _ rfl
      have tk2 := S.t 2 _ rfl
      have tk3 := S.t 3 _ rfl
      have tk4 := S.t 4 _ rfl
      have tk5 := S.t 5 _ rfl
      have tk6 := S.t 6 _ rfl
      have tk7 := S.t 7 _ rfl
      have tk8 := S.t 8 _ rfl
      obtain ⟨u0, u1, u2, u3, u4, u5, u6, u7, u8⟩ := nine S.e.range
      have HE : Hid (w9 = _) := e9
      have HR : Hid (∀ q, q + 1 ≤ b.p.n → ¬ EmpP b.p.f q 1) := hr
      have N0 : Hid ((b.hd k).n = 0) := n0
      clear S e9 hr
      go_wp2_with (fail)
      rw [← HE.out]
      exact bodyPost_ret (results_cell_two rfl _ _ (w.heap.size + 1) 0 _ _ rfl ck9.range Tryd.underlying26 rfl (by kernel_rfl)) rfl ⟨b, 2, 0, rfl, .inr (.inr ⟨k, hk, HK.out, .inr (.inl ⟨N0.out, HR.out, rfl, rfl, rfl⟩)⟩), ow9, be9, li9⟩
  · obtain ⟨kx, ox, ea, hc⟩ := (S.h.at.hd k).cells (by omega)
    have c0 := hc 0 (by omega)
    rw [Nat.add_zero] at c0
    rw [ea] at d1
    obtain ⟨a0, a1, -, -⟩ := (hok.2.1 k hk).2 0 (by omega)
    obtain ⟨kq, oq, eq, -⟩ := S.h.at.o.cells (by omega)
    have hcap : (b.hd k).n ≤ (b.hd k).c := (S.h.each _ (List.mem_of_getElem? (hd_lists b hk))).1
    obtain ⟨A, hA⟩ : ∃ A : Nat, (b.hd k).f 0 = A := ⟨((b.hd k).f 0).toNat, by omega⟩
    rw [hA] at a0 a1
    clear hK hc
    by_cases c1 : (b.hd k).c = 1
    · have S1 := S.pop hk ea (by omega) (some ⟨kx, ox, none⟩) (.inl c1)
      have e0 : (b.hd k).c - 1 = 0 := by omega
      rw [e0] at S1
      obtain ⟨y0, y1, y2⟩ := S1.fre (x := b.o) (by simp [Bx.lists, Bx.seth]) eq (j := A) (by omega)
      have S2 := S1.write (b' := (b.seth k ((b.hd k).drop (some ⟨kx, ox, none⟩))).own A ((t : Int) + 1)) 5 b.o rfl kq oq A eq (by omega) ((t : Int) + 1) rfl rfl (fun i hi => lies_same (b := b.seth k ((b.hd k).drop (some ⟨kx, ox, none⟩))) (c := (b.seth k ((b.hd k).drop (some ⟨kx, ox, none⟩))).own A ((t : Int) + 1)) rfl hi)
      obtain ⟨g, hg⟩ : ∃ g, g = (b.seth k ((b.hd k).drop (some ⟨kx, ox, none⟩))).own A ((t : Int) + 1) := ⟨_, rfl⟩
      have HG : Hid (g = (b.seth k ((b.hd k).drop (some ⟨kx, ox, none⟩))).own A ((t : Int) + 1)) := hg
      have v6 := (S1.e 6 (.slice b.o.a b.o.n b.o.c) rfl).1
      rw [eq] at v6
      rw [← hg] at S2
      clear hg S1 S
      obtain ⟨w9, e9, ck9, ow9, be9, li9⟩ := S2.ans
      have tk0 := S2.t 0 _ rfl
      have tk1 := S2.t 1 _ rfl
      have tk2 := S2.t 2 _ rfl
      have tk3 := S2.t 3 _ rfl
      have tk4 := S2.t 4 _ rfl
      have tk5 := S2.t 5 _ rfl
      have tk6 := S2.t 6 _ rfl
      have tk7 := S2.t 7 _ rfl
      have tk8 := S2.t 8 _ rfl
      obtain ⟨z0, z1, z2, z3, z4, z5, z6, z7, z8⟩ := nine S2.e.range
      have HE : Hid (w9 = _) := e9
      clear S2 e9
      have HA : Hid ((b.hd k).f 0 = A) := hA
      have N0 : Hid (¬ (b.hd k).n = 0) := n0
      rw [hA] at c0
      clear hA
      have cx : (b.hd k).c = 1 := c1
      go_wp2_with (fail)
      rw [← HE.out]
      exact bodyPost_ret (results_cell_two rfl _ _ (w.heap.size + 1) 0 _ _ rfl ck9.range Tryd.underlying26 rfl (by kernel_rfl)) rfl ⟨g, 0, A, rfl, .inr (.inr ⟨k, hk, HK.out, .inl ⟨by have := N0.out; omega, ⟨_, by rw [HG.out, HA.out, Int.toNat_natCast]⟩, rfl, HA.out.symm⟩⟩), ow9, be9, li9⟩
    · have S1 := S.pop hk ea (by omega) (some ⟨kx, ox + 1, none⟩) (.inr rfl)
      have e0 := c1
      obtain ⟨y0, y1, y2⟩ := S1.fre (x := b.o) (by simp [Bx.lists, Bx.seth]) eq (j := A) (by omega)
      have S2 := S1.write (b' := (b.seth k ((b.hd k).drop (some ⟨kx, ox + 1, none⟩))).own A ((t : Int) + 1)) 5 b.o rfl kq oq A eq (by omega) ((t : Int) + 1) rfl rfl (fun i hi => lies_same (b := b.seth k ((b.hd k).drop (some ⟨kx, ox + 1, none⟩))) (c := (b.seth k ((b.hd k).drop (some ⟨kx, ox + 1, none⟩))).own A ((t : Int) + 1)) rfl hi)
      obtain ⟨g, hg⟩ : ∃ g, g = (b.seth k ((b.hd k).drop (some ⟨kx, ox + 1, none⟩))).own A ((t : Int) + 1) := ⟨_, rfl⟩
      have HG : Hid (g = (b.seth k ((b.hd k).drop (some ⟨kx, ox + 1, none⟩))).own A ((t : Int) + 1)) := hg
      have v6 := (S1.e 6 (.slice b.o.a b.o.n b.o.c) rfl).1
      rw [eq] at v6
      rw [← hg] at S2
      clear hg S1 S
      obtain ⟨w9, e9, ck9, ow9, be9, li9⟩ := S2.ans
      have tk0 := S2.t 0 _ rfl
      have tk1 := S2.t 1 _ rfl
      have tk2 := S2.t 2 _ rfl
      have tk3 := S2.t 3 _ rfl
      have tk4 := S2.t 4 _ rfl
      have tk5 := S2.t 5 _ rfl
      have tk6 := S2.t 6 _ rfl
      have tk7 := S2.t 7 _ rfl
      have tk8 := S2.t 8 _ rfl
      obtain ⟨z0, z1, z2, z3, z4, z5, z6, z7, z8⟩ := nine S2.e.range
      have HE : Hid (w9 = _) := e9
      clear S2 e9
      have HA : Hid ((b.hd k).f 0 = A) := hA
      have N0 : Hid (¬ (b.hd k).n = 0) := n0
      rw [hA] at c0
      clear hA
      have cx : 0 < (b.hd k).c - 1 := by omega
      go_wp2_with (fail)
      rw [← HE.out]
      exact bodyPost_ret (results_cell_two rfl _ _ (w.heap.size + 1) 0 _ _ rfl ck9.range Tryd.underlying26 rfl (by kernel_rfl)) rfl ⟨g, 0, A, rfl, .inr (.inr ⟨k, hk, HK.out, .inl ⟨by have := N0.out; omega, ⟨_, by rw [HG.out, HA.out, Int.toNat_natCast]⟩, rfl, HA.out.symm⟩⟩), ow9, be9, li9⟩

end Go.Proofs.YtbipolfbkemmpaaDoor.Book

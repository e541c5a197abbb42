import Derived.Test.YtbipolfbkemmpaaDoorM53

/- Whatever code is handed in: of the book and the taking that are drawn of it, the program's BookDo has the specification's code; it is BookFull just where no row of empty pages is long enough, and no free room of the kind is there. Conditions: none. -/
namespace Go.Proofs.YtbipolfbkemmpaaDoor.Dra
open Go.ChangeShapes Go.WideShapes Go.ChangeAt Go.RowKit
open Aid Lst Book Rin
set_option maxRecDepth 100000
set_option linter.unusedVariables false
open Gs (halt_at)
set_option linter.unusedSimpArgs false

set_option maxHeartbeats 16000000 in
theorem law_bkfull {adr : Nat → Addr} (a : Option Addr) (len cap : Nat) (zs : List Int) (w : World) (h : Draw.Row w a len cap zs) (hle : ¬ (1048576 : Int) < len) (he : Ea adr w) :
    Calls Tryd.prog 6 #[.slice a len cap] w fun e w' => e = .returned (.bool true) ∧ Below w.heap.size w w' := by
  have HEa : Hid (Ea adr w) := he
  clear he
  go_enter Tryd.func6, Tryd.ntmps6
  go_wp2_with (fail)
  refine (dbdo_any a len cap zs w h).mono ?_
  rintro e w1 ⟨b, o, rfl, ba, wf, tot, oc, hB⟩
  have HT0 : Hid (St w [] [b] w1) := ⟨fun p hp => by simp at hp, fun z hz => by
    obtain rfl := List.mem_singleton.1 hz
    exact ba, hB⟩
  have HWf : Hid b.Wf := wf
  have HTO : Hid (b.total ≤ 1001 ∧ b.o.n ≤ b.o.c) := ⟨tot, oc⟩
  obtain ⟨l1, l2, l3, l4, l5⟩ := laid2 HT0.out b o 26 28
  have HA1 : Hid (World.there _ w1.heap.size 0 _) := l1
  have HA2 : Hid (World.there _ (w1.heap.size + 1) 0 _) := l2
  have HCK : Hid (Ck _ (w1.heap.size + 1) o.cells) := l3
  have HRB : Hid (World.rangeAt _ w1.heap.size 0 b.cells) := l4
  have HBL : Hid (Below w1.heap.size w1 _) := l5
  clear l1 l2 l3 l4 l5 ba hB wf tot oc h hle
  go_wp2_with (with_reducible refine halt_at (.store 26 (.tmp 3) (.tmp 21)) rfl ?_)
  unfold Hid
  refine wpList_store_mid rfl 26 _ _ rfl (w1.heap.size) 0 b.cells.toArray rfl rfl HA1.out (by kernel_rfl) (cells_one _) ?_
  go_wp2_with (with_reducible refine halt_at (.store 28 (.tmp 4) (.tmp 22)) rfl ?_)
  unfold Hid
  refine wpList_store_mid rfl 28 _ _ rfl (w1.heap.size + 1) 0 o.cells.toArray rfl rfl HA2.out (by kernel_rfl) (ox_one _) ?_
  clear HA1 HA2
  generalize World.setCells _ _ _ _ = V0 at HCK HRB HBL ⊢
  obtain ⟨c0, c1⟩ := HCK.out 0 _ rfl
  obtain ⟨k1, k2, k3⟩ := kind_set 2 HCK.out HRB.out HBL.out
  have HK1 : Hid (Ck _ (w1.heap.size + 1) _) := k1
  have HK2 : Hid (World.rangeAt _ w1.heap.size 0 b.cells) := k2
  have HK3 : Hid (Below w1.heap.size w1 _) := k3
  clear k1 k2 k3 HCK HRB HBL
  go_wp2_with (with_reducible refine halt_at (.load 26 (.tmp 3)) rfl ?_)
  unfold Hid
  clear c0 c1
  generalize World.setCell _ _ _ = V1 at HK1 HK2 HK3 ⊢
  obtain ⟨p, ep⟩ : ∃ p : Ox, p = ⟨2, o.s, o.a, o.b⟩ := ⟨_, rfl⟩
  rw [← ep] at HK1
  have HPK : Hid (p.k = 2) := (by show p.k = 2; rw [ep])
  have HT1 : Hid (St w [(w1.heap.size + 1, p.cells), (w1.heap.size, b.cells)] [b] V1) := st_two HT0.out HK1.out HK2.out HK3.out
  clear HK1 HK2 HK3 ep
  have HRB : Hid (World.rangeAt _ (w1.heap.size) 0 b.cells) := (HT1.out.r (w1.heap.size, b.cells) (by simp)).1
  have HRO : Hid (World.rangeAt _ (w1.heap.size + 1) 0 p.cells) := (HT1.out.r (w1.heap.size + 1, p.cells) (by simp)).1
  go_wp2_with (first
      | refine wpList_load_mid rfl 26 _ rfl (w1.heap.size) 0 rfl b.cells _ HRB.out Tryd.underlying26 rfl (by kernel_rfl) ?_
      | refine wpList_load_mid rfl 28 _ rfl (w1.heap.size + 1) 0 rfl p.cells _ HRO.out Tryd.underlying28 rfl (by kernel_rfl) ?_)
  refine (bookdo_any (a := adr) b p _ (HT1.out.a b (by simp)) (by have := HTO.out.1; omega) (at_nil (HT1.out.a b (by simp))) HTO.out.2 (HEa.out.later HT1.out.b)).mono ?_
  rintro e W2 ⟨x, c, m, rfl, hq, ho, hb⟩
  have HQ : Hid (BdQ b p x c m) := hq
  have HXC : Hid (x.o.n ≤ x.o.c) := ho.cap
  have HT2 : Hid (St w [(w1.heap.size + 1, p.cells), (w1.heap.size, b.cells)] [x, b] W2) := (HT1.out.later hb).book ho.at
  have HL2 : Hid (St w _ _ _) := laid HT2.out x 26
  have HTH : Hid (World.there _ W2.heap.size 0 _) := (mk_bk W2 26 x).1
  clear hq ho hb HRB HRO HT1
  go_wp2_with (with_reducible refine halt_at (.store 26 (.tmp 5) (.tmp 28)) rfl ?_)
  unfold Hid
  refine wpList_store_mid rfl 26 _ _ rfl (W2.heap.size) 0 x.cells.toArray rfl rfl HTH.out (by kernel_rfl) (cells_one _) ?_
  clear HTH HT2
  generalize World.setCells _ _ _ _ = V2 at HL2 ⊢
  have HT3 : Hid (St w [(W2.heap.size, x.cells), (w1.heap.size + 1, p.cells), (w1.heap.size, b.cells)] [x, b] V2) := HL2.out
  clear HL2
  have HRB : Hid (World.rangeAt _ (w1.heap.size) 0 b.cells) := (HT3.out.r (w1.heap.size, b.cells) (by simp)).1
  have HRO : Hid (World.rangeAt _ (w1.heap.size + 1) 0 p.cells) := (HT3.out.r (w1.heap.size + 1, p.cells) (by simp)).1
  go_wp2_with (first
      | refine wpList_load_mid rfl 26 _ rfl (w1.heap.size) 0 rfl b.cells _ HRB.out Tryd.underlying26 rfl (by kernel_rfl) ?_
      | refine wpList_load_mid rfl 28 _ rfl (w1.heap.size + 1) 0 rfl p.cells _ HRO.out Tryd.underlying28 rfl (by kernel_rfl) ?_)
  refine (sbookdo_any b p _ (HT3.out.a b (by simp)) (by have := HTO.out.1; omega) (at_nil (HT3.out.a b (by simp))) HWf.out).mono ?_
  rintro e W3 ⟨y, d, m', rfl, hs, hl, hb⟩
  obtain ⟨gm, e1, e2⟩ := met_sb HQ.out hs
  subst e1
  subst e2
  obtain ⟨x1, f1, f2, f3, f4, f5⟩ := as_ex gm
  have HS : Hid (SbQ b p y c m) := hs
  have HXM : Hid (x1.m = y.m) := f2
  have HX1 : Hid (x1.o.n ≤ x1.o.c) := (by show x1.o.n ≤ x1.o.c; rw [f4, f5]; exact HXC.out)
  have HTY : Hid (y.total ≤ 1000) := sb_total hs
  have HTX : Hid (x1.total ≤ 1000) := (by show x1.total ≤ 1000; rw [Book.total_m f2]; exact HTY.out)
  have g3 := HT3.out.later hb
  have HT4 : Hid (St w [(W2.heap.size, x1.cells), (w1.heap.size + 1, p.cells), (w1.heap.size, b.cells)] [y, x1, b] W3) := (St.book (⟨by rw [f1]; exact g3.r, fun z hz => by
    simp only [List.mem_cons, List.not_mem_nil, or_false] at hz
    rcases hz with rfl | rfl
    · exact f3 _ (g3.a x (by simp))
    · exact g3.a z (by simp), g3.b⟩ : St w [(W2.heap.size, x1.cells), (w1.heap.size + 1, p.cells), (w1.heap.size, b.cells)] [x1, b] W3) hl.at)
  have HL4 : Hid (St w _ _ _) := laid HT4.out y 26
  have HTH : Hid (World.there _ W3.heap.size 0 _) := (mk_bk W3 26 y).1
  clear gm hs hl hb f1 f2 f3 f4 f5 g3 HQ HXC HT3 HRB HRO
  go_wp2_with (with_reducible refine halt_at (.store 26 (.tmp 8) (.tmp 35)) rfl ?_)
  unfold Hid
  refine wpList_store_mid rfl 26 _ _ rfl (W3.heap.size) 0 y.cells.toArray rfl rfl HTH.out (by kernel_rfl) (cells_one _) ?_
  clear HTH HT4
  generalize World.setCells _ _ _ _ = V3 at HL4 ⊢
  have HT : Hid (St w [(W3.heap.size, y.cells), (W2.heap.size, x1.cells), (w1.heap.size + 1, p.cells), (w1.heap.size, b.cells)] [y, x1, b] V3) := HL4.out
  clear HL4
  have kA : V3.cell? ⟨w1.heap.size + 1, 2, none⟩ = some (.int .i64 p.a) := (HT.out.r (w1.heap.size + 1, p.cells) (by simp)).1 2 _ rfl
  have kP : V3.cell? ⟨w1.heap.size, 1, none⟩ = some (.slice b.p.a b.p.n b.p.c) := (HT.out.r (w1.heap.size, b.cells) (by simp)).1 1 _ rfl
  go_wp2_with (fail)
  refine (Book.kind_any p.a _).mono ?_
  rintro e W4 ⟨rfl, rfl⟩
  by_cases hc : c = 0 ∨ c = 2
  case neg =>
    have h1 : (c != 0) = true := by simpa using fun q => hc (.inl q)
    have h2 : (c != 2) = true := by simpa using fun q => hc (.inr q)
    go_wp2_with (fail)
    go_ret
    exact ⟨rfl, HT.out.b⟩
  have HF : Hid ((kindM p.a = 4 ∧ (c = 2 ↔ ((rowE b.p.f b.p.n).2 : Int) * 8 < p.a)) ∨ ∃ k : Nat, k < 4 ∧ kindM p.a = k ∧ (c = 2 ↔ (rowE b.p.f b.p.n).2 = 0 ∧ (b.hd k).n = 0)) := by
    rcases HS.out with ⟨_, _, q, _⟩ | ⟨_, d0, e0, hd⟩
    · omega
    · have g := full_at HPK.out hd hc
      have ep : d0.p.f = b.p.f ∧ d0.p.n = b.p.n := by
        have q := congrArg (fun z => z.p) e0
        simp only [Bx.m, Sx.m, Prod.mk.injEq] at q
        exact ⟨q.2, q.1⟩
      have eh : ∀ k, (d0.hd k).n = (b.hd k).n := fun k => by
        simp only [Bx.m, Bm.mk.injEq, Sx.m, Prod.mk.injEq] at e0
        unfold Bx.hd
        repeat' split
        all_goals omega
      simp only [ep.1, ep.2, eh] at g
      exact g
  have HBP : Hid (b.p.At W4) := HT.out.a b (by simp) b.p (by simp [Bx.lists])
  have HPN : Hid (b.p.n ≤ 1001) := (by have := HTO.out.1; show b.p.n ≤ 1001; unfold Bx.total at this; omega)
  have h2 : c = 2 ∨ ¬ c = 2 := Classical.em _
  rcases hc with hc | hc
  · subst hc
    clear h2
    go_wp2_with (fail)
    go_loopw [12, 13, 14] (fun u v i wr => ∃ q : Nat, q ≤ b.p.n ∧ u = .int .i64 ((rowE b.p.f q).1 : Int) ∧ v = .int .i64 ((rowE b.p.f q).2 : Int) ∧ i = .int .i64 q ∧ wr = W4) (fun _ _ i _ => b.p.n - (intOf i).toNat)
    case atStart => exact ⟨0, by omega, rfl, rfl, rfl, rfl⟩
    case round =>
      obtain ⟨q, hq, rfl, rfl, rfl, rfl⟩ := hrel
      have HR : Hid ((rowE b.p.f q).1 ≤ q) := (rowE_row b.p.f q).1
      by_cases hlt : (q : Int) < b.p.n
      · rcases HBP.out with z | ⟨kp, op, ea, g⟩
        · omega
        have hqn : q < b.p.n := by omega
        have kc := g q hqn
        have pn := HPN.out
        have r1 := HR.out
        have E1 : (rowE b.p.f (q + 1)).1 = if b.p.f q = 0 then (rowE b.p.f q).1 + 1 else 0 := rfl
        have E2 : (rowE b.p.f (q + 1)).2 = max (rowE b.p.f q).2 (rowE b.p.f (q + 1)).1 := rfl
        have HE1 : Hid (_ = _) := E1
        have HE2 : Hid (_ = _) := E2
        clear E1 E2 g
        have kP' := kP
        rw [ea] at kP'
        have HKP : Hid (_ = _) := kP
        clear kP
        generalize (rowE b.p.f q).1 = u at r1 HE1 HE2 HR ⊢
        generalize (rowE b.p.f q).2 = v at HE1 HE2 ⊢
        by_cases hz : b.p.f q = 0
        · rw [hz] at kc
          by_cases hgt : (v : Int) < (u : Int) + 1
          all_goals
            go_wp2_with (fail)
            go_roundw
            case rel =>
              have e1 := HE1.out
              have e2 := HE2.out
              rw [if_pos hz] at e1
              refine ⟨q + 1, by omega, by rw [e1]; go_num, ?_, by go_num, trivial⟩
              rw [e2, e1]
              go_num
            case measure => simp [intOf]; omega
        · by_cases hgt : (v : Int) < 0
          · omega
          go_wp2_with (fail)
          go_roundw
          case rel =>
            have e1 := HE1.out
            have e2 := HE2.out
            rw [if_neg hz] at e1
            refine ⟨q + 1, by omega, by rw [e1]; go_num, ?_, by go_num, trivial⟩
            rw [e2, e1]
            go_num
          case measure => simp [intOf]; omega
      · obtain rfl : q = b.p.n := by omega
        rcases HF.out with ⟨k4, hk⟩ | ⟨k, hk4, ek, hk⟩
        · rw [k4]
          have l := HPN.out
          have rm : (rowE b.p.f b.p.n).2 ≤ 1001 := by
            by_cases z : 1 ≤ (rowE b.p.f b.p.n).2
            · obtain ⟨q, h1, _⟩ := (rowE_most b.p.f (rowE b.p.f b.p.n).2 z b.p.n).1 (Nat.le_refl _)
              omega
            · omega
          generalize (rowE b.p.f b.p.n).2 = v at hk rm ⊢
          have hv : ¬ ((v : Int) * 8 < p.a) := fun q => by have := hk.2 q; omega
          clear hk
          go_wp2_with (fail)
          go_ret
          exact ⟨by simp, HT.out.b⟩
        · rw [ek]
          have kH : wr.cell? ⟨w1.heap.size, 2 + k, none⟩ = some (.slice (b.hd k).a (b.hd k).n (b.hd k).c) := by
            have q := (HT.out.r (w1.heap.size, b.cells) (by simp)).1
            obtain rfl | rfl | rfl | rfl : k = 0 ∨ k = 1 ∨ k = 2 ∨ k = 3 := by omega
            · exact q 2 _ rfl
            · exact q 3 _ rfl
            · exact q 4 _ rfl
            · exact q 5 _ rfl
          generalize (rowE b.p.f b.p.n).2 = v at hk ⊢
          generalize b.hd k = hx at hk kH
          have hne : ¬ (v = 0 ∧ hx.n = 0) := fun q => by have := hk.2 q; omega
          clear hk
          by_cases hv : v = 0
          · subst hv
            have hn : ((hx.n : Int) == 0) = false := by simp; omega
            obtain rfl | rfl | rfl | rfl : k = 0 ∨ k = 1 ∨ k = 2 ∨ k = 3 := by omega
            all_goals
              go_wp2_with (fail)
              go_ret
              exact ⟨by simp [hn], HT.out.b⟩
          · have hv' : ((v : Int) == 0) = false := by simp; omega
            obtain rfl | rfl | rfl | rfl : k = 0 ∨ k = 1 ∨ k = 2 ∨ k = 3 := by omega
            all_goals
              go_wp2_with (fail)
              go_ret
              exact ⟨by simp [hv'], HT.out.b⟩
  · subst hc
    clear h2
    go_wp2_with (fail)
    go_loopw [12, 13, 14] (fun u v i wr => ∃ q : Nat, q ≤ b.p.n ∧ u = .int .i64 ((rowE b.p.f q).1 : Int) ∧ v = .int .i64 ((rowE b.p.f q).2 : Int) ∧ i = .int .i64 q ∧ wr = W4) (fun _ _ i _ => b.p.n - (intOf i).toNat)
    case atStart => exact ⟨0, by omega, rfl, rfl, rfl, rfl⟩
    case round =>
      obtain ⟨q, hq, rfl, rfl, rfl, rfl⟩ := hrel
      have HR : Hid ((rowE b.p.f q).1 ≤ q) := (rowE_row b.p.f q).1
      by_cases hlt : (q : Int) < b.p.n
      · rcases HBP.out with z | ⟨kp, op, ea, g⟩
        · omega
        have hqn : q < b.p.n := by omega
        have kc := g q hqn
        have pn := HPN.out
        have r1 := HR.out
        have E1 : (rowE b.p.f (q + 1)).1 = if b.p.f q = 0 then (rowE b.p.f q).1 + 1 else 0 := rfl
        have E2 : (rowE b.p.f (q + 1)).2 = max (rowE b.p.f q).2 (rowE b.p.f (q + 1)).1 := rfl
        have HE1 : Hid (_ = _) := E1
        have HE2 : Hid (_ = _) := E2
        clear E1 E2 g
        have kP' := kP
        rw [ea] at kP'
        have HKP : Hid (_ = _) := kP
        clear kP
        generalize (rowE b.p.f q).1 = u at r1 HE1 HE2 HR ⊢
        generalize (rowE b.p.f q).2 = v at HE1 HE2 ⊢
        by_cases hz : b.p.f q = 0
        · rw [hz] at kc
          by_cases hgt : (v : Int) < (u : Int) + 1
          all_goals
            go_wp2_with (fail)
            go_roundw
            case rel =>
              have e1 := HE1.out
              have e2 := HE2.out
              rw [if_pos hz] at e1
              refine ⟨q + 1, by omega, by rw [e1]; go_num, ?_, by go_num, trivial⟩
              rw [e2, e1]
              go_num
            case measure => simp [intOf]; omega
        · by_cases hgt : (v : Int) < 0
          · omega
          go_wp2_with (fail)
          go_roundw
          case rel =>
            have e1 := HE1.out
            have e2 := HE2.out
            rw [if_neg hz] at e1
            refine ⟨q + 1, by omega, by rw [e1]; go_num, ?_, by go_num, trivial⟩
            rw [e2, e1]
            go_num
          case measure => simp [intOf]; omega
      · obtain rfl : q = b.p.n := by omega
        rcases HF.out with ⟨k4, hk⟩ | ⟨k, hk4, ek, hk⟩
        · rw [k4]
          have l := HPN.out
          have rm : (rowE b.p.f b.p.n).2 ≤ 1001 := by
            by_cases z : 1 ≤ (rowE b.p.f b.p.n).2
            · obtain ⟨q, h1, _⟩ := (rowE_most b.p.f (rowE b.p.f b.p.n).2 z b.p.n).1 (Nat.le_refl _)
              omega
            · omega
          generalize (rowE b.p.f b.p.n).2 = v at hk rm ⊢
          have hv : (v : Int) * 8 < p.a := hk.1 (by first | trivial | rfl)
          clear hk
          go_wp2_with (fail)
          go_ret
          exact ⟨by simp, HT.out.b⟩
        · rw [ek]
          have kH : wr.cell? ⟨w1.heap.size, 2 + k, none⟩ = some (.slice (b.hd k).a (b.hd k).n (b.hd k).c) := by
            have q := (HT.out.r (w1.heap.size, b.cells) (by simp)).1
            obtain rfl | rfl | rfl | rfl : k = 0 ∨ k = 1 ∨ k = 2 ∨ k = 3 := by omega
            · exact q 2 _ rfl
            · exact q 3 _ rfl
            · exact q 4 _ rfl
            · exact q 5 _ rfl
          generalize (rowE b.p.f b.p.n).2 = v at hk ⊢
          generalize b.hd k = hx at hk kH
          obtain ⟨hv, hn⟩ := hk.1 (by first | trivial | rfl)
          clear hk
          subst hv
          rw [hn] at kH
          obtain rfl | rfl | rfl | rfl : k = 0 ∨ k = 1 ∨ k = 2 ∨ k = 3 := by omega
          all_goals
            go_wp2_with (fail)
            go_ret
            exact ⟨by simp, HT.out.b⟩
/- Codes too long are passed by. -/
theorem law_bkfull_all {adr : Nat → Addr} (a : Option Addr) (len cap : Nat) (zs : List Int) (w : World) (h : Bytes w a len cap zs) (he : Ea adr w) :
    Calls Tryd.prog 6 #[.slice a len cap] w fun e w' => e = .returned (.bool true) ∧ Below w.heap.size w w' := by
  have r0 := Draw.row_of h
  have m0 := r0.1
  unfold maxLen at m0
  by_cases h0 : (1048576 : Int) < len
  · go_enter Tryd.func6, Tryd.ntmps6
    go_wp2_with (fail)
    go_ret
    exact ⟨rfl, Below.refl _ _⟩
  · exact law_bkfull a len cap zs w r0 h0 he
end Go.Proofs.YtbipolfbkemmpaaDoor.Dra

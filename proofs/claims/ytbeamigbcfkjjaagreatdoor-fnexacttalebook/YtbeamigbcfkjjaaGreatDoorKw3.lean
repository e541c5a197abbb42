import Derived.Test.YtbeamigbcfkjjaaGreatDoorM16

/- A room is taken, by the specification. -/
namespace Go.Proofs.YtbeamigbcfkjjaaGreatDoor.Book
open Go.ChangeShapes Go.WideShapes Go.ChangeAt Go.RowKit
open Go.Proofs.YtbeamigbcfkjjaaGreatDoor.Aid Go.Proofs.YtbeamigbcfkjjaaGreatDoor.Lst
set_option maxRecDepth 100000
set_option linter.unusedVariables false

def TakP (b : Bx) (t : Nat) (u : Int) (c : Bx) (x y : Int) : Prop :=
  (kindM u < 0 ∧ c = b ∧ x = 1 ∧ y = 0) ∨ (kindM u = 4 ∧ PagP b t ((u + 7) / 8).toNat c x y) ∨
  ∃ k : Nat, k < 4 ∧ kindM u = k ∧
    ((0 < (b.hd k).n ∧ (∃ a, c = (b.seth k ((b.hd k).drop a)).own ((b.hd k).f 0).toNat ((t : Int) + 1)) ∧ x = 0 ∧ y = (b.hd k).f 0) ∨
     ((b.hd k).n = 0 ∧ (∀ q, q + 1 ≤ b.p.n → ¬ EmpP b.p.f q 1) ∧ c = b ∧ x = 2 ∧ y = 0) ∨
     ((b.hd k).n = 0 ∧ ∃ p : Nat, p + 1 ≤ b.p.n ∧ EmpP b.p.f p 1 ∧ (∀ q, q < p → ¬ EmpP b.p.f q 1) ∧ (∃ (a : Sx) (o : Option Addr), CarP p k a ∧ c = ((b.pag p ((k : Int) + 1)).seth k (a.drop o)).own (p * 8) ((t : Int) + 1)) ∧ x = 0 ∧ y = (p : Int) * 8))

set_option maxHeartbeats 8000000 in
theorem dtake_any (b : Bx) (t B : Nat) (u : Int) (w : World) (h : b.Hl B w) (hB : B ≤ w.heap.size) (hok : OkP b) (ht : (t : Int) < b.s) :
    Calls Tryz.prog 53 #[.agg b.cells.toArray, .int .i64 t, .int .i64 u] w fun e w' => Ans3 b B w (TakP b t u) e w' := by
  have l1 := hok.1.1.2.1
  have l2 := hok.1.1.2.2.2.2.1
  have l3 := hok.1.1.2.2.2.2.2.1
  have l4 := hok.1.1.2.2.2.2.2.2
  have S := Dn.start h 29
  simp only [Bx.cells] at S ⊢
  go_enter Tryz.func53, Tryz.ntmps53
  go_wp2_with (fail)
  generalize (w.alloc (.cells #[.int .i64 b.s, .slice b.p.a b.p.n b.p.c, .slice b.h0.a b.h0.n b.h0.c, .slice b.h1.a b.h1.n b.h1.c, .slice b.h2.a b.h2.n b.h2.c, .slice b.h3.a b.h3.n b.h3.c, .slice b.o.a b.o.n b.o.c, .slice b.i.a b.i.n b.i.c, .slice b.e.a b.e.n b.e.c] 29)).alloc (.cells #[.int .i64 0, .slice none 0 0, .slice none 0 0, .slice none 0 0, .slice none 0 0, .slice none 0 0, .slice none 0 0, .slice none 0 0, .slice none 0 0] 29) = W at S ⊢
  refine (skind_any u W).mono ?_
  rintro e w1 ⟨rfl, hb⟩
  replace S := S.later hb
  clear hb
  generalize hK : kindM u = K
  have HK : Hid (kindM u = K) := hK
  by_cases k0 : K < 0
  · clear hK
    obtain ⟨w9, e9, ck9, ow9, be9, li9⟩ := S.ans
    have tk0 := S.t 0 _ rfl
    have tk1 := S.t 1 _ rfl
    have tk2 := S.t 2 _ rfl
    have tk3 := S.t 3 _ rfl
    have tk4 := S.t 4 _ rfl
    have tk5 := S.t 5 _ rfl
    have tk6 := S.t 6 _ rfl
    have tk7 := S.t 7 _ rfl
    have tk8 := S.t 8 _ rfl
    obtain ⟨u0, u1, u2, u3, u4, u5, u6, u7, u8⟩ := nine S.e.range
    have HE : Hid (w9 = _) := e9
    clear S e9
    go_wp2_with (fail)
    rw [← HE.out]
    exact bodyPost_ret (results_cell_two rfl _ _ (w.heap.size + 1) 0 _ _ rfl ck9.range Tryz.underlying29 rfl (by kernel_rfl)) rfl ⟨b, 1, 0, rfl, .inl ⟨by rw [HK.out]; exact k0, rfl, rfl, rfl⟩, ow9, be9, li9⟩
  by_cases k4 : K = 4
  · have u9 : 9 ≤ u ∧ u ≤ 32 := by
      simp only [kindM] at hK
      repeat' split at hK
      all_goals omega
    clear hK
    subst k4
    obtain ⟨u0, u1, u2, u3, u4, u5, u6, u7, u8⟩ := nine S.e.range
    have HS : Hid (Dn w b B b w1) := S
    clear S
    go_wp2_with (fail)
    clear u0 u1 u2 u3 u4 u5 u6 u7 u8
    obtain ⟨n, hn⟩ : ∃ n : Nat, (u + 8 - 1) / 8 = n := ⟨((u + 8 - 1) / 8).toNat, by omega⟩
    rw [hn]
    refine (dpages_any b t n B w1 HS.out.h hok (by omega) (by omega) ht).mono ?_
    rintro e w2 ⟨c, x, y, rfl, hp, hh, hf, hl⟩
    have S := HS.out.call hh hf hl
    have HP : Hid (PagP b t ((u + 7) / 8).toNat c x y) := by rw [show ((u + 7) / 8).toNat = n by omega]; exact hp
    clear HS hp hh hf hl
    obtain ⟨w9, e9, ck9, ow9, be9, li9⟩ := S.ans
    have tk0 := S.t 0 _ rfl
    have tk1 := S.t 1 _ rfl
    have tk2 := S.t 2 _ rfl
    have tk3 := S.t 3 _ rfl
    have tk4 := S.t 4 _ rfl
    have tk5 := S.t 5 _ rfl
    have tk6 := S.t 6 _ rfl
    have tk7 := S.t 7 _ rfl
    have tk8 := S.t 8 _ rfl
    have HE : Hid (w9 = _) := e9
    clear S e9
    simp only [Bx.cells]
    go_wp2_with (fail)
    rw [← HE.out]
    exact bodyPost_ret (results_cell_two rfl _ _ (w.heap.size + 1) 0 _ _ rfl ck9.range Tryz.underlying29 rfl (by kernel_rfl)) rfl ⟨c, x, y, rfl, .inr (.inl ⟨HK.out, HP.out⟩), ow9, be9, li9⟩
  obtain ⟨k, hk, rfl⟩ : ∃ k : Nat, k < 4 ∧ K = k := ⟨K.toNat, by
      simp only [kindM] at hK
      repeat' split at hK
      all_goals omega, by omega⟩
  obtain ⟨d1, d2⟩ := S.hd hk
  by_cases n0 : (b.hd k).n = 0
  · rw [n0] at d1
    obtain ⟨u0, u1, u2, u3, u4, u5, u6, u7, u8⟩ := nine S.e.range
    have HS : Hid (Dn w b B b w1) := S
    clear S hK
    go_wp2_with (fail)
    clear u0 u1 u2 u3 u4 u5 u6 u7 u8 d1 d2
    refine (run_any b 1 w1 HS.out.h.at (by omega) (by omega) (by omega) (by omega)).mono ?_
    rintro e w2 ⟨⟨r, rfl, hr⟩, hb⟩
    have S := HS.out.later hb
    clear HS hb
    rcases hr with ⟨p, p1, rfl, p2, p3⟩ | ⟨rfl, hr⟩
    · obtain ⟨u0, u1, u2, u3, u4, u5, u6, u7, u8⟩ := nine S.e.range
      have HS : Hid (Dn w b B b w2) := S
      have P2 : Hid (EmpP b.p.f p 1) := p2
      have P3 : Hid (∀ q, q < p → ¬ EmpP b.p.f q 1) := p3
      clear S p2 p3
      go_wp2_with (fail)
      clear u0 u1 u2 u3 u4 u5 u6 u7 u8
      refine (dcarve_any b p k B w2 HS.out.h (by have := HS.out.z; omega) hk (by omega) (by omega) n0).mono ?_
      rintro e w3 ⟨x, rfl, cp, hh, hf, hl⟩
      obtain ⟨c, hcd⟩ : ∃ c, c = (b.pag p ((k : Int) + 1)).seth k x := ⟨_, rfl⟩
      rw [← hcd] at hh hl ⊢
      have M := HS.out.call hh hf hl
      have HM : Hid (w3.there w.heap.size 0 9) := M.there
      have S := M.stores
      have HS4 : Hid (Dn w b B c _) := S
      have HCD : Hid (c = (b.pag p ((k : Int) + 1)).seth k x) := hcd
      have CP : Hid (CarP p k x) := cp
      clear M S hcd cp hh hf hl HS
      go_wp2_with (refine wpList_store_mid rfl 29 _ _ rfl w.heap.size 0 c.cells.toArray rfl rfl HM.out (by kernel_rfl) (cells_one c) ?_; apply Hid.out)
      generalize World.setCells _ _ _ _ = w4 at HS4 ⊢
      unfold Hid
      have S := HS4.out
      have hcd := HCD.out
      have cp := CP.out
      clear HM HS4
      have hdc : c.hd k = x := by rw [hcd]; exact hd_same _ hk x
      have con : c.o.n = b.o.n := by rw [hcd]; rfl
      have xp : 0 < x.n := by
        have := cp.1
        have sp := sz_is k
        rcases sp with sp | sp | sp | sp <;> rw [sp] at this <;> omega
      have N00 : Hid ((b.hd k).n = 0) := n0
      have HDC : Hid (c.hd k = x) := hdc
      have hA0 : (c.hd k).f 0 = (p : Int) * 8 := by rw [hdc, cp.2 0 xp]; simp
      clear n0 cp
      have n0 : ¬ (c.hd k).n = 0 := by rw [hdc]; omega
      clear hdc hcd
      obtain ⟨d1, d2⟩ := S.hd hk
      obtain ⟨kx, ox, ea, hc⟩ := (S.h.at.hd k).cells (by omega)
      have c0 := hc 0 (by omega)
      rw [Nat.add_zero] at c0
      rw [ea] at d1
      obtain ⟨kq, oq, eq, -⟩ := S.h.at.o.cells (by omega)
      have hcap : (c.hd k).n ≤ (c.hd k).c := (S.h.each _ (List.mem_of_getElem? (hd_lists c hk))).1
      obtain ⟨A, hA, hAp⟩ : ∃ A : Nat, (c.hd k).f 0 = A ∧ A = p * 8 := ⟨p * 8, by rw [hA0]; omega, rfl⟩
      have a1 : (A : Int) < c.o.n := by omega
      have HAP : Hid (A = p * 8) := hAp
      clear hAp hA0 hc
      by_cases c1 : (c.hd k).c = 1
      · have S1 := S.pop hk ea (by omega) (some ⟨kx, ox, none⟩) (.inl c1)
        have e0 : (c.hd k).c - 1 = 0 := by omega
        rw [e0] at S1
        obtain ⟨y0, y1, y2⟩ := S1.fre (x := c.o) (by simp [Bx.lists, Bx.seth]) eq (j := A) (by omega)
        have S2 := S1.write (b' := (c.seth k ((c.hd k).drop (some ⟨kx, ox, none⟩))).own A ((t : Int) + 1)) 5 c.o rfl kq oq A eq (by omega) ((t : Int) + 1) rfl rfl (fun i hi => lies_same (b := c.seth k ((c.hd k).drop (some ⟨kx, ox, none⟩))) (c := (c.seth k ((c.hd k).drop (some ⟨kx, ox, none⟩))).own A ((t : Int) + 1)) rfl hi)
        obtain ⟨g, hg⟩ : ∃ g, g = (c.seth k ((c.hd k).drop (some ⟨kx, ox, none⟩))).own A ((t : Int) + 1) := ⟨_, rfl⟩
        have HG : Hid (g = (c.seth k ((c.hd k).drop (some ⟨kx, ox, none⟩))).own A ((t : Int) + 1)) := hg
        have v6 := (S1.e 6 (.slice c.o.a c.o.n c.o.c) rfl).1
        rw [eq] at v6
        rw [← hg] at S2
        clear hg S1 S
        obtain ⟨w9, e9, ck9, ow9, be9, li9⟩ := S2.ans
        have tk0 := S2.t 0 _ rfl
        have tk1 := S2.t 1 _ rfl
        have tk2 := S2.t 2 _ rfl
        have tk3 := S2.t 3 _ rfl
        have tk4 := S2.t 4 _ rfl
        have tk5 := S2.t 5 _ rfl
        have tk6 := S2.t 6 _ rfl
        have tk7 := S2.t 7 _ rfl
        have tk8 := S2.t 8 _ rfl
        obtain ⟨z0, z1, z2, z3, z4, z5, z6, z7, z8⟩ := nine S2.e.range
        have HE : Hid (w9 = _) := e9
        clear S2 e9
        have HA : Hid ((c.hd k).f 0 = A) := hA
        have N0 : Hid (¬ (c.hd k).n = 0) := n0
        rw [hA] at c0
        clear hA
        have cx : (c.hd k).c = 1 := c1
        go_wp2_with (fail)
        rw [← HE.out]
        exact bodyPost_ret (results_cell_two rfl _ _ (w.heap.size + 1) 0 _ _ rfl ck9.range Tryz.underlying29 rfl (by kernel_rfl)) rfl ⟨g, 0, A, rfl, .inr (.inr ⟨k, hk, HK.out, .inr (.inr ⟨N00.out, p, p1, P2.out, P3.out, ⟨x, _, CP.out, by rw [HG.out, HAP.out, HDC.out, HCD.out, seth_seth]⟩, rfl, by rw [HAP.out]; omega⟩)⟩), ow9, be9, li9⟩
      · have S1 := S.pop hk ea (by omega) (some ⟨kx, ox + 1, none⟩) (.inr rfl)
        have e0 := c1
        obtain ⟨y0, y1, y2⟩ := S1.fre (x := c.o) (by simp [Bx.lists, Bx.seth]) eq (j := A) (by omega)
        have S2 := S1.write (b' := (c.seth k ((c.hd k).drop (some ⟨kx, ox + 1, none⟩))).own A ((t : Int) + 1)) 5 c.o rfl kq oq A eq (by omega) ((t : Int) + 1) rfl rfl (fun i hi => lies_same (b := c.seth k ((c.hd k).drop (some ⟨kx, ox + 1, none⟩))) (c := (c.seth k ((c.hd k).drop (some ⟨kx, ox + 1, none⟩))).own A ((t : Int) + 1)) rfl hi)
        obtain ⟨g, hg⟩ : ∃ g, g = (c.seth k ((c.hd k).drop (some ⟨kx, ox + 1, none⟩))).own A ((t : Int) + 1) := ⟨_, rfl⟩
        have HG : Hid (g = (c.seth k ((c.hd k).drop (some ⟨kx, ox + 1, none⟩))).own A ((t : Int) + 1)) := hg
        have v6 := (S1.e 6 (.slice c.o.a c.o.n c.o.c) rfl).1
        rw [eq] at v6
        rw [← hg] at S2
        clear hg S1 S
        obtain ⟨w9, e9, ck9, ow9, be9, li9⟩ := S2.ans
        have tk0 := S2.t 0 _ rfl
        have tk1 := S2.t 1 _ rfl
        have tk2 := S2.t 2 _ rfl
        have tk3 := S2.t 3 _ rfl
        have tk4 := S2.t 4 _ rfl
        have tk5 := S2.t 5 _ rfl
        have tk6 := S2.t 6 _ rfl
        have tk7 := S2.t 7 _ rfl
        have tk8 := S2.t 8 _ rfl
        obtain ⟨z0, z1, z2, z3, z4, z5, z6, z7, z8⟩ := nine S2.e.range
        have HE : Hid (w9 = _) := e9
        clear S2 e9
        have HA : Hid ((c.hd k).f 0 = A) := hA
        have N0 : Hid (¬ (c.hd k).n = 0) := n0
        rw [hA] at c0
        clear hA
        have cx : 0 < (c.hd k).c - 1 := by omega
        go_wp2_with (fail)
        rw [← HE.out]
        exact bodyPost_ret (results_cell_two rfl _ _ (w.heap.size + 1) 0 _ _ rfl ck9.range Tryz.underlying29 rfl (by kernel_rfl)) rfl ⟨g, 0, A, rfl, .inr (.inr ⟨k, hk, HK.out, .inr (.inr ⟨N00.out, p, p1, P2.out, P3.out, ⟨x, _, CP.out, by rw [HG.out, HAP.out, HDC.out, HCD.out, seth_seth]⟩, rfl, by rw [HAP.out]; omega⟩)⟩), ow9, be9, li9⟩
    · obtain ⟨w9, e9, ck9, ow9, be9, li9⟩ := S.ans
      have tk0 := S.t 0 _ rfl
      have tk1 := S.t 1 _ rfl
      have tk2 := S.t 2 _ rfl
      have tk3 := S.t 3 _ rfl
      have tk4 := S.t 4 _ rfl
      have tk5 := S.t 5 _ rfl
      have tk6 := S.t 6 _ rfl
      have tk7 := S.t 7 _ rfl
      have tk8 := S.t 8 _ rfl
      obtain ⟨u0, u1, u2, u3, u4, u5, u6, u7, u8⟩ := nine S.e.range
      have HE : Hid (w9 = _) := e9
      have HR : Hid (∀ q, q + 1 ≤ b.p.n → ¬ EmpP b.p.f q 1) := hr
      have N0 : Hid ((b.hd k).n = 0) := n0
      clear S e9 hr
      go_wp2_with (fail)
      rw [← HE.out]
      exact bodyPost_ret (results_cell_two rfl _ _ (w.heap.size + 1) 0 _ _ rfl ck9.range Tryz.underlying29 rfl (by kernel_rfl)) rfl ⟨b, 2, 0, rfl, .inr (.inr ⟨k, hk, HK.out, .inr (.inl ⟨N0.out, HR.out, rfl, rfl, rfl⟩)⟩), ow9, be9, li9⟩
  · obtain ⟨kx, ox, ea, hc⟩ := (S.h.at.hd k).cells (by omega)
    have c0 := hc 0 (by omega)
    rw [Nat.add_zero] at c0
    rw [ea] at d1
    obtain ⟨a0, a1, -, -⟩ := (hok.2.1 k hk).2 0 (by omega)
    obtain ⟨kq, oq, eq, -⟩ := S.h.at.o.cells (by omega)
    have hcap : (b.hd k).n ≤ (b.hd k).c := (S.h.each _ (List.mem_of_getElem? (hd_lists b hk))).1
    obtain ⟨A, hA⟩ : ∃ A : Nat, (b.hd k).f 0 = A := ⟨((b.hd k).f 0).toNat, by omega⟩
    rw [hA] at a0 a1
    clear hK hc
    by_cases c1 : (b.hd k).c = 1
    · have S1 := S.pop hk ea (by omega) (some ⟨kx, ox, none⟩) (.inl c1)
      have e0 : (b.hd k).c - 1 = 0 := by omega
      rw [e0] at S1
      obtain ⟨y0, y1, y2⟩ := S1.fre (x := b.o) (by simp [Bx.lists, Bx.seth]) eq (j := A) (by omega)
      have S2 := S1.write (b' := (b.seth k ((b.hd k).drop (some ⟨kx, ox, none⟩))).own A ((t : Int) + 1)) 5 b.o rfl kq oq A eq (by omega) ((t : Int) + 1) rfl rfl (fun i hi => lies_same (b := b.seth k ((b.hd k).drop (some ⟨kx, ox, none⟩))) (c := (b.seth k ((b.hd k).drop (some ⟨kx, ox, none⟩))).own A ((t : Int) + 1)) rfl hi)
      obtain ⟨g, hg⟩ : ∃ g, g = (b.seth k ((b.hd k).drop (some ⟨kx, ox, none⟩))).own A ((t : Int) + 1) := ⟨_, rfl⟩
      have HG : Hid (g = (b.seth k ((b.hd k).drop (some ⟨kx, ox, none⟩))).own A ((t : Int) + 1)) := hg
      have v6 := (S1.e 6 (.slice b.o.a b.o.n b.o.c) rfl).1
      rw [eq] at v6
      rw [← hg] at S2
      clear hg S1 S
      obtain ⟨w9, e9, ck9, ow9, be9, li9⟩ := S2.ans
      have tk0 := S2.t 0 _ rfl
      have tk1 := S2.t 1 _ rfl
      have tk2 := S2.t 2 _ rfl
      have tk3 := S2.t 3 _ rfl
      have tk4 := S2.t 4 _ rfl
      have tk5 := S2.t 5 _ rfl
      have tk6 := S2.t 6 _ rfl
      have tk7 := S2.t 7 _ rfl
      have tk8 := S2.t 8 _ rfl
      obtain ⟨z0, z1, z2, z3, z4, z5, z6, z7, z8⟩ := nine S2.e.range
      have HE : Hid (w9 = _) := e9
      clear S2 e9
      have HA : Hid ((b.hd k).f 0 = A) := hA
      have N0 : Hid (¬ (b.hd k).n = 0) := n0
      rw [hA] at c0
      clear hA
      have cx : (b.hd k).c = 1 := c1
      go_wp2_with (fail)
      rw [← HE.out]
      exact bodyPost_ret (results_cell_two rfl _ _ (w.heap.size + 1) 0 _ _ rfl ck9.range Tryz.underlying29 rfl (by kernel_rfl)) rfl ⟨g, 0, A, rfl, .inr (.inr ⟨k, hk, HK.out, .inl ⟨by have := N0.out; omega, ⟨_, by rw [HG.out, HA.out, Int.toNat_natCast]⟩, rfl, HA.out.symm⟩⟩), ow9, be9, li9⟩
    · have S1 := S.pop hk ea (by omega) (some ⟨kx, ox + 1, none⟩) (.inr rfl)
      have e0 := c1
      obtain ⟨y0, y1, y2⟩ := S1.fre (x := b.o) (by simp [Bx.lists, Bx.seth]) eq (j := A) (by omega)
      have S2 := S1.write (b' := (b.seth k ((b.hd k).drop (some ⟨kx, ox + 1, none⟩))).own A ((t : Int) + 1)) 5 b.o rfl kq oq A eq (by omega) ((t : Int) + 1) rfl rfl (fun i hi => lies_same (b := b.seth k ((b.hd k).drop (some ⟨kx, ox + 1, none⟩))) (c := (b.seth k ((b.hd k).drop (some ⟨kx, ox + 1, none⟩))).own A ((t : Int) + 1)) rfl hi)
      obtain ⟨g, hg⟩ : ∃ g, g = (b.seth k ((b.hd k).drop (some ⟨kx, ox + 1, none⟩))).own A ((t : Int) + 1) := ⟨_, rfl⟩
      have HG : Hid (g = (b.seth k ((b.hd k).drop (some ⟨kx, ox + 1, none⟩))).own A ((t : Int) + 1)) := hg
      have v6 := (S1.e 6 (.slice b.o.a b.o.n b.o.c) rfl).1
      rw [eq] at v6
      rw [← hg] at S2
      clear hg S1 S
      obtain ⟨w9, e9, ck9, ow9, be9, li9⟩ := S2.ans
      have tk0 := S2.t 0 _ rfl
      have tk1 := S2.t 1 _ rfl
      have tk2 := S2.t 2 _ rfl
      have tk3 := S2.t 3 _ rfl
      have tk4 := S2.t 4 _ rfl
      have tk5 := S2.t 5 _ rfl
      have tk6 := S2.t 6 _ rfl
      have tk7 := S2.t 7 _ rfl
      have tk8 := S2.t 8 _ rfl
      obtain ⟨z0, z1, z2, z3, z4, z5, z6, z7, z8⟩ := nine S2.e.range
      have HE : Hid (w9 = _) := e9
      clear S2 e9
      have HA : Hid ((b.hd k).f 0 = A) := hA
      have N0 : Hid (¬ (b.hd k).n = 0) := n0
      rw [hA] at c0
      clear hA
      have cx : 0 < (b.hd k).c - 1 := by omega
      go_wp2_with (fail)
      rw [← HE.out]
      exact bodyPost_ret (results_cell_two rfl _ _ (w.heap.size + 1) 0 _ _ rfl ck9.range Tryz.underlying29 rfl (by kernel_rfl)) rfl ⟨g, 0, A, rfl, .inr (.inr ⟨k, hk, HK.out, .inl ⟨by have := N0.out; omega, ⟨_, by rw [HG.out, HA.out, Int.toNat_natCast]⟩, rfl, HA.out.symm⟩⟩), ow9, be9, li9⟩

end Go.Proofs.YtbeamigbcfkjjaaGreatDoor.Book

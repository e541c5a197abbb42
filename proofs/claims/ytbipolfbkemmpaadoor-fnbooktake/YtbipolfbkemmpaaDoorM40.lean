import Derived.Test.YtbipolfbkemmpaaDoorM25
import Derived.Test.YtbipolfbkemmpaaDoorM38
import Derived.Test.YtbipolfbkemmpaaDoorM39

/- The calls of who is in, by the specification. -/
namespace Go.Proofs.YtbipolfbkemmpaaDoor.Book
open Go.ChangeShapes Go.WideShapes Go.ChangeAt Go.RowKit
open Aid Lst
set_option maxRecDepth 100000
set_option linter.unusedVariables false

set_option maxHeartbeats 16000000 in
theorem down5_any (b : Bx) (t B : Nat) (o : Ox) (w : World) (h : b.Hl B w) (hB : B ≤ w.heap.size) (hok : OkP b) (ht : (t : Int) < b.s) (hs : o.s = t) (hi : b.i.f t ≠ 0) (hk : o.k = 5) :
    Calls Tryd.prog 55 #[.agg b.cells.toArray, .agg o.cells.toArray] w fun e w' => Ans3 b B w (OwnQ b o t) e w' := by
  have l1 := hok.1.1.2.1
  have l0 := hok.1.1.1
  have l2 := hok.1.1.2.2.1
  have l3 := hok.1.1.2.2.2.2.1
  have l4 := hok.1.1.2.2.2.2.2.1
  have l5 := hok.1.1.2.2.2.2.2.2
  have S := Dq.start h o 26 28
  obtain ⟨ki, oi, ei, hci⟩ := S.h.at.i.cells (by omega)
  have EI : Hid (b.i.a = some ⟨ki, oi, none⟩) := ei
  have HI : Hid (b.i.f t ≠ 0) := hi
  have HS : Hid (Dq w b B o b _) := S
  obtain ⟨ok, os, oa, ob⟩ := o
  simp only at hs hk
  subst hs hk
  clear S ei hi hci
  simp only [Bx.cells, Ox.cells, z9] at HS ⊢
  have HR : Hid (World.rangeAt _ w.heap.size 0 b.cells) := HS.out.e.range
  go_enter Tryd.func55, Tryd.ntmps55
  go_wp2_with (refine wpList_load_mid rfl 26 _ rfl w.heap.size 0 rfl (b).cells _ HR.out Tryd.underlying26 rfl (by kernel_rfl) ?_)
  refine (first_any b t _ HS.out.h.at (by omega) (by omega) (by omega) (by omega)).mono ?_
  rintro e w1 ⟨⟨r, rfl, hr⟩, hb⟩
  have S1 := HS.out.later hb
  clear hb HR HS
  obtain ⟨q0, q1, q2, q3⟩ := S1.p.four
  simp only at q0 q1 q2 q3
  rcases hr with ⟨A, hA, rfl, ho, hm⟩ | ⟨rfl, hn⟩
  · have HO : Hid (b.o.f A = (t : Int) + 1) := ho
    clear ho hm q0 q1 q2 q3
    have HA : Hid (Ret2 w b B (b) _) := S1.mid.anss
    have HT : Hid (World.there _ (w.heap.size + 2) 0 9) := S1.mid.theret
    have HR : Hid (World.rangeAt _ w.heap.size 0 (b).cells) := S1.e.range
    clear S1
    go_wp2_with (first | (refine wpList_load_mid rfl 26 _ rfl w.heap.size 0 rfl (b).cells _ HR.out Tryd.underlying26 rfl (by kernel_rfl) ?_) | (refine wpList_store_mid rfl 26 _ _ rfl (w.heap.size + 2) 0 (b).cells.toArray rfl rfl HT.out (by kernel_rfl) (cells_one _) ?_))
    exact bodyPost_ret (results_cell_two rfl _ _ (w.heap.size + 2) 0 _ _ rfl HA.out.c Tryd.underlying26 rfl (by kernel_rfl)) rfl (HA.out.ans3 (.inr (.inr (.inr (.inl ⟨rfl, .inl ⟨⟨A, hA, HO.out⟩, rfl, rfl, rfl⟩⟩)))))
  · have HN : Hid (∀ u, u < b.o.n → b.o.f u ≠ (t : Int) + 1) := hn
    obtain ⟨y0, y1, y2⟩ := S1.fre (x := b.i) (by simp [Bx.lists]) EI.out (j := t) (by omega)
    obtain ⟨-, -, -, -, -, -, -, u7, -⟩ := nine S1.e.range
    rw [EI.out] at u7
    have t1 : (t : Int) < b.i.n := by omega
    have S2 := S1.write (b' := b.seti t 0) 6 b.i rfl ki oi t EI.out (by omega) 0 rfl rfl (fun i hi => lies_same (b := b) (c := b.seti t 0) rfl hi)
    clear hn S1
    have HA : Hid (Ret2 w b B (b.seti t 0) _) := S2.mid.anss
    have HT : Hid (World.there _ (w.heap.size + 2) 0 9) := S2.mid.theret
    have HR : Hid (World.rangeAt _ w.heap.size 0 (b.seti t 0).cells) := S2.e.range
    clear S2
    go_wp2_with (first | (refine wpList_load_mid rfl 26 _ rfl w.heap.size 0 rfl (b.seti t 0).cells _ HR.out Tryd.underlying26 rfl (by kernel_rfl) ?_) | (refine wpList_store_mid rfl 26 _ _ rfl (w.heap.size + 2) 0 (b.seti t 0).cells.toArray rfl rfl HT.out (by kernel_rfl) (cells_one _) ?_))
    exact bodyPost_ret (results_cell_two rfl _ _ (w.heap.size + 2) 0 _ _ rfl HA.out.c Tryd.underlying26 rfl (by kernel_rfl)) rfl (HA.out.ans3 (.inr (.inr (.inr (.inl ⟨rfl, .inr ⟨HN.out, rfl, rfl, rfl⟩⟩)))))

set_option maxHeartbeats 16000000 in
theorem down6_any (b : Bx) (t B : Nat) (o : Ox) (w : World) (h : b.Hl B w) (hB : B ≤ w.heap.size) (hok : OkP b) (ht : (t : Int) < b.s) (hs : o.s = t) (hi : b.i.f t ≠ 0) (hk : o.k = 6) :
    Calls Tryd.prog 55 #[.agg b.cells.toArray, .agg o.cells.toArray] w fun e w' => Ans3 b B w (OwnQ b o t) e w' := by
  have l1 := hok.1.1.2.1
  have l0 := hok.1.1.1
  have l2 := hok.1.1.2.2.1
  have l3 := hok.1.1.2.2.2.2.1
  have l4 := hok.1.1.2.2.2.2.2.1
  have l5 := hok.1.1.2.2.2.2.2.2
  have S := Dq.start h o 26 28
  obtain ⟨ki, oi, ei, hci⟩ := S.h.at.i.cells (by omega)
  have EI : Hid (b.i.a = some ⟨ki, oi, none⟩) := ei
  have HI : Hid (b.i.f t ≠ 0) := hi
  have HS : Hid (Dq w b B o b _) := S
  obtain ⟨ok, os, oa, ob⟩ := o
  simp only at hs hk
  subst hs hk
  clear S ei hi hci
  simp only [Bx.cells, Ox.cells, z9] at HS ⊢
  have HR : Hid (World.rangeAt _ w.heap.size 0 b.cells) := HS.out.e.range
  go_enter Tryd.func55, Tryd.ntmps55
  go_wp2_with (refine wpList_load_mid rfl 26 _ rfl w.heap.size 0 rfl (b).cells _ HR.out Tryd.underlying26 rfl (by kernel_rfl) ?_)
  refine (dreap_any b B oa _ HS.out.h (by have := HS.out.z; omega) hok).mono ?_
  rintro e w2 ⟨c, x, y, rfl, rp, hh, hf, hl⟩
  have M := HS.out.call hh hf hl
  have RP : Hid (ReaP b oa c x y) := rp
  clear HR rp hh hf hl HS
  have HA : Hid (Ret2 w b B (c) _) := M.anss
  have HT : Hid (World.there _ (w.heap.size + 2) 0 9) := M.theret
  clear M
  go_wp2_with (first | (refine wpList_store_mid rfl 26 _ _ rfl (w.heap.size + 2) 0 (c).cells.toArray rfl rfl HT.out (by kernel_rfl) (cells_one _) ?_))
  exact bodyPost_ret (results_cell_two rfl _ _ (w.heap.size + 2) 0 _ _ rfl HA.out.c Tryd.underlying26 rfl (by kernel_rfl)) rfl (HA.out.ans3 (.inr (.inr (.inr (.inr (.inl ⟨rfl, RP.out⟩))))))

set_option maxHeartbeats 16000000 in
theorem downx_any (b : Bx) (t B : Nat) (o : Ox) (w : World) (h : b.Hl B w) (hB : B ≤ w.heap.size) (hok : OkP b) (ht : (t : Int) < b.s) (hs : o.s = t) (hi : b.i.f t ≠ 0) (k2 : ¬ o.k = 2) (k3 : ¬ o.k = 3) (k4 : ¬ o.k = 4) (k5 : ¬ o.k = 5) (k6 : ¬ o.k = 6) :
    Calls Tryd.prog 55 #[.agg b.cells.toArray, .agg o.cells.toArray] w fun e w' => Ans3 b B w (OwnQ b o t) e w' := by
  have l1 := hok.1.1.2.1
  have l0 := hok.1.1.1
  have l2 := hok.1.1.2.2.1
  have l3 := hok.1.1.2.2.2.2.1
  have l4 := hok.1.1.2.2.2.2.2.1
  have l5 := hok.1.1.2.2.2.2.2.2
  have S := Dq.start h o 26 28
  obtain ⟨ki, oi, ei, hci⟩ := S.h.at.i.cells (by omega)
  have EI : Hid (b.i.a = some ⟨ki, oi, none⟩) := ei
  have HI : Hid (b.i.f t ≠ 0) := hi
  have HS : Hid (Dq w b B o b _) := S
  obtain ⟨ok, os, oa, ob⟩ := o
  simp only at hs k2 k3 k4 k5 k6
  subst hs
  clear S ei hi hci
  simp only [Bx.cells, Ox.cells, z9] at HS ⊢
  have HR : Hid (World.rangeAt _ w.heap.size 0 b.cells) := HS.out.e.range
  clear HR
  go_enter Tryd.func55, Tryd.ntmps55
  have HA : Hid (Ret2 w b B (b) _) := HS.out.mid.anss
  have HT : Hid (World.there _ (w.heap.size + 2) 0 9) := HS.out.mid.theret
  have HR : Hid (World.rangeAt _ w.heap.size 0 (b).cells) := HS.out.e.range
  go_wp2_with (first | (refine wpList_load_mid rfl 26 _ rfl w.heap.size 0 rfl (b).cells _ HR.out Tryd.underlying26 rfl (by kernel_rfl) ?_) | (refine wpList_store_mid rfl 26 _ _ rfl (w.heap.size + 2) 0 (b).cells.toArray rfl rfl HT.out (by kernel_rfl) (cells_one _) ?_))
  exact bodyPost_ret (results_cell_two rfl _ _ (w.heap.size + 2) 0 _ _ rfl HA.out.c Tryd.underlying26 rfl (by kernel_rfl)) rfl (HA.out.ans3 (.inr (.inr (.inr (.inr (.inr ⟨by show ok < 2 ∨ 6 < ok; omega, rfl, rfl, rfl⟩))))))

theorem down_any (b : Bx) (t B : Nat) (o : Ox) (w : World) (h : b.Hl B w) (hB : B ≤ w.heap.size) (hok : OkP b) (ht : (t : Int) < b.s) (hs : o.s = t) (hi : b.i.f t ≠ 0) :
    Calls Tryd.prog 55 #[.agg b.cells.toArray, .agg o.cells.toArray] w fun e w' => Ans3 b B w (OwnQ b o t) e w' := by
  by_cases k2 : o.k = 2
  · exact down2_any b t B o w h hB hok ht hs hi k2
  by_cases k3 : o.k = 3
  · exact down3_any b t B o w h hB hok ht hs hi k3
  by_cases k4 : o.k = 4
  · exact down4_any b t B o w h hB hok ht hs hi k4
  by_cases k5 : o.k = 5
  · exact down5_any b t B o w h hB hok ht hs hi k5
  by_cases k6 : o.k = 6
  · exact down6_any b t B o w h hB hok ht hs hi k6
  exact downx_any b t B o w h hB hok ht hs hi k2 k3 k4 k5 k6

def DoP (b : Bx) (o : Ox) (c : Bx) (x y : Int) : Prop :=
  ((o.s < 0 ∨ b.s ≤ o.s) ∧ c = b ∧ x = 13 ∧ y = 0) ∨
  ∃ t : Nat, o.s = t ∧ (t : Int) < b.s ∧
    ((o.k = 1 ∧ ((b.i.f t ≠ 0 ∧ c = b ∧ x = 6 ∧ y = 0) ∨ (b.i.f t = 0 ∧ b.e.f t = 4095 ∧ c = b ∧ x = 12 ∧ y = 0) ∨ (b.i.f t = 0 ∧ b.e.f t ≠ 4095 ∧ c = b.ine t 1 (b.e.f t + 1) ∧ x = 0 ∧ y = b.e.f t + 1))) ∨
     (o.k ≠ 1 ∧ ((b.i.f t = 0 ∧ c = b ∧ x = 9 ∧ y = 0) ∨ (b.i.f t ≠ 0 ∧ OwnQ b o t c x y))))
theorem do_ok {b c : Bx} {o : Ox} {x y : Int} (hok : OkP b) (h : DoP b o c x y) : OkP c := by
  rcases h with ⟨_, rfl, _⟩ | ⟨t, _, ht, ⟨_, ⟨_, rfl, _⟩ | ⟨_, _, rfl, _⟩ | ⟨_, h4, rfl, _⟩⟩ | ⟨_, ⟨_, rfl, _⟩ | ⟨hi, h⟩⟩⟩
  · exact hok
  · exact hok
  · exact hok
  · have g := hok.1.2.1 t (by have := hok.1.1.2.2.1; omega)
    exact keep_in hok t 1 _ (by omega) (by omega) (by have := g.2.2.1; omega) (by have := g.2.2.2.1; omega) (fun e => by have := g.2.2.1; omega) (fun e => by omega)
  · exact hok
  · exact own_ok hok ht hi h

set_option maxHeartbeats 16000000 in
theorem do0_any (b : Bx) (B : Nat) (o : Ox) (w : World) (h : b.Hl B w) (hB : B ≤ w.heap.size) (hok : OkP b) (hs : o.s < 0 ∨ b.s ≤ o.s) :
    Calls Tryd.prog 31 #[.agg b.cells.toArray, .agg o.cells.toArray] w fun e w' => Ans3 b B w (DoP b o) e w' := by
  have l1 := hok.1.1.2.1
  have l0 := hok.1.1.1
  have l2 := hok.1.1.2.2.1
  have l6 := hok.1.1.2.2.2.1
  have S := Dq.start h o 26 28
  have HS : Hid (Dq w b B o b _) := S
  obtain ⟨ok, os, oa, ob⟩ := o
  simp only at hs
  clear S
  simp only [Bx.cells, Ox.cells, z9] at HS ⊢
  by_cases s0 : os < 0
  · go_enter Tryd.func31, Tryd.ntmps31
    have HA : Hid (Ret2 w b B (b) _) := HS.out.mid.anss
    have HT : Hid (World.there _ (w.heap.size + 2) 0 9) := HS.out.mid.theret
    have HR : Hid (World.rangeAt _ w.heap.size 0 (b).cells) := HS.out.e.range
    go_wp2_with (first | (refine wpList_load_mid rfl 26 _ rfl w.heap.size 0 rfl (b).cells _ HR.out Tryd.underlying26 rfl (by kernel_rfl) ?_) | (refine wpList_store_mid rfl 26 _ _ rfl (w.heap.size + 2) 0 (b).cells.toArray rfl rfl HT.out (by kernel_rfl) (cells_one _) ?_))
    exact bodyPost_ret (results_cell_two rfl _ _ (w.heap.size + 2) 0 _ _ rfl HA.out.c Tryd.underlying26 rfl (by kernel_rfl)) rfl (HA.out.ans3 (.inl ⟨.inl s0, rfl, rfl, rfl⟩))
  · have s1 : b.s ≤ os := by omega
    go_enter Tryd.func31, Tryd.ntmps31
    have HA : Hid (Ret2 w b B (b) _) := HS.out.mid.anss
    have HT : Hid (World.there _ (w.heap.size + 2) 0 9) := HS.out.mid.theret
    have HR : Hid (World.rangeAt _ w.heap.size 0 (b).cells) := HS.out.e.range
    go_wp2_with (first | (refine wpList_load_mid rfl 26 _ rfl w.heap.size 0 rfl (b).cells _ HR.out Tryd.underlying26 rfl (by kernel_rfl) ?_) | (refine wpList_store_mid rfl 26 _ _ rfl (w.heap.size + 2) 0 (b).cells.toArray rfl rfl HT.out (by kernel_rfl) (cells_one _) ?_))
    exact bodyPost_ret (results_cell_two rfl _ _ (w.heap.size + 2) 0 _ _ rfl HA.out.c Tryd.underlying26 rfl (by kernel_rfl)) rfl (HA.out.ans3 (.inl ⟨.inr s1, rfl, rfl, rfl⟩))

set_option maxHeartbeats 16000000 in
theorem do1_any (b : Bx) (B : Nat) (o : Ox) (w : World) (h : b.Hl B w) (hB : B ≤ w.heap.size) (hok : OkP b) (t : Nat) (hs : o.s = t) (ht : (t : Int) < b.s) (hk : o.k = 1) (hi : b.i.f t ≠ 0) :
    Calls Tryd.prog 31 #[.agg b.cells.toArray, .agg o.cells.toArray] w fun e w' => Ans3 b B w (DoP b o) e w' := by
  have l1 := hok.1.1.2.1
  have l0 := hok.1.1.1
  have l2 := hok.1.1.2.2.1
  have l6 := hok.1.1.2.2.2.1
  have S := Dq.start h o 26 28
  obtain ⟨ki, oi, ei, hci⟩ := S.h.at.i.cells (by omega)
  obtain ⟨ke, oe, ee, hce⟩ := S.h.at.e.cells (by omega)
  have ci := hci t (by omega)
  have ce := hce t (by omega)
  have t1 : (t : Int) < b.i.n := by omega
  have t2 : (t : Int) < b.e.n := by omega
  have EI : Hid (b.i.a = some ⟨ki, oi, none⟩) := ei
  have EE : Hid (b.e.a = some ⟨ke, oe, none⟩) := ee
  have HS : Hid (Dq w b B o b _) := S
  obtain ⟨ok, os, oa, ob⟩ := o
  simp only at hs hk
  subst hs
  clear S hci hce
  simp only [Bx.cells, Ox.cells, z9, ei, ee] at ci ce HS ⊢
  clear ei ee
  subst hk
  go_enter Tryd.func31, Tryd.ntmps31
  have HA : Hid (Ret2 w b B (b) _) := HS.out.mid.anss
  have HT : Hid (World.there _ (w.heap.size + 2) 0 9) := HS.out.mid.theret
  have HR : Hid (World.rangeAt _ w.heap.size 0 (b).cells) := HS.out.e.range
  go_wp2_with (first | (refine wpList_load_mid rfl 26 _ rfl w.heap.size 0 rfl (b).cells _ HR.out Tryd.underlying26 rfl (by kernel_rfl) ?_) | (refine wpList_store_mid rfl 26 _ _ rfl (w.heap.size + 2) 0 (b).cells.toArray rfl rfl HT.out (by kernel_rfl) (cells_one _) ?_))
  exact bodyPost_ret (results_cell_two rfl _ _ (w.heap.size + 2) 0 _ _ rfl HA.out.c Tryd.underlying26 rfl (by kernel_rfl)) rfl (HA.out.ans3 (.inr ⟨t, rfl, ht, .inl ⟨rfl, .inl ⟨hi, rfl, rfl, rfl⟩⟩⟩))

set_option maxHeartbeats 16000000 in
theorem do2_any (b : Bx) (B : Nat) (o : Ox) (w : World) (h : b.Hl B w) (hB : B ≤ w.heap.size) (hok : OkP b) (t : Nat) (hs : o.s = t) (ht : (t : Int) < b.s) (hk : o.k = 1) (hi : b.i.f t = 0) (he : b.e.f t = 4095) :
    Calls Tryd.prog 31 #[.agg b.cells.toArray, .agg o.cells.toArray] w fun e w' => Ans3 b B w (DoP b o) e w' := by
  have l1 := hok.1.1.2.1
  have l0 := hok.1.1.1
  have l2 := hok.1.1.2.2.1
  have l6 := hok.1.1.2.2.2.1
  have S := Dq.start h o 26 28
  obtain ⟨ki, oi, ei, hci⟩ := S.h.at.i.cells (by omega)
  obtain ⟨ke, oe, ee, hce⟩ := S.h.at.e.cells (by omega)
  have ci := hci t (by omega)
  have ce := hce t (by omega)
  have t1 : (t : Int) < b.i.n := by omega
  have t2 : (t : Int) < b.e.n := by omega
  have EI : Hid (b.i.a = some ⟨ki, oi, none⟩) := ei
  have EE : Hid (b.e.a = some ⟨ke, oe, none⟩) := ee
  have HS : Hid (Dq w b B o b _) := S
  obtain ⟨ok, os, oa, ob⟩ := o
  simp only at hs hk
  subst hs
  clear S hci hce
  simp only [Bx.cells, Ox.cells, z9, ei, ee] at ci ce HS ⊢
  clear ei ee
  subst hk
  rw [hi] at ci
  rw [he] at ce
  have HI : Hid (b.i.f t = 0) := hi
  have HE : Hid (b.e.f t = 4095) := he
  clear hi he
  go_enter Tryd.func31, Tryd.ntmps31
  have HA : Hid (Ret2 w b B (b) _) := HS.out.mid.anss
  have HT : Hid (World.there _ (w.heap.size + 2) 0 9) := HS.out.mid.theret
  have HR : Hid (World.rangeAt _ w.heap.size 0 (b).cells) := HS.out.e.range
  go_wp2_with (first | (refine wpList_load_mid rfl 26 _ rfl w.heap.size 0 rfl (b).cells _ HR.out Tryd.underlying26 rfl (by kernel_rfl) ?_) | (refine wpList_store_mid rfl 26 _ _ rfl (w.heap.size + 2) 0 (b).cells.toArray rfl rfl HT.out (by kernel_rfl) (cells_one _) ?_))
  exact bodyPost_ret (results_cell_two rfl _ _ (w.heap.size + 2) 0 _ _ rfl HA.out.c Tryd.underlying26 rfl (by kernel_rfl)) rfl (HA.out.ans3 (.inr ⟨t, rfl, ht, .inl ⟨rfl, .inr (.inl ⟨HI.out, HE.out, rfl, rfl, rfl⟩)⟩⟩))

set_option maxHeartbeats 16000000 in
theorem do3_any (b : Bx) (B : Nat) (o : Ox) (w : World) (h : b.Hl B w) (hB : B ≤ w.heap.size) (hok : OkP b) (t : Nat) (hs : o.s = t) (ht : (t : Int) < b.s) (hk : o.k ≠ 1) (hi : b.i.f t = 0) :
    Calls Tryd.prog 31 #[.agg b.cells.toArray, .agg o.cells.toArray] w fun e w' => Ans3 b B w (DoP b o) e w' := by
  have l1 := hok.1.1.2.1
  have l0 := hok.1.1.1
  have l2 := hok.1.1.2.2.1
  have l6 := hok.1.1.2.2.2.1
  have S := Dq.start h o 26 28
  obtain ⟨ki, oi, ei, hci⟩ := S.h.at.i.cells (by omega)
  obtain ⟨ke, oe, ee, hce⟩ := S.h.at.e.cells (by omega)
  have ci := hci t (by omega)
  have ce := hce t (by omega)
  have t1 : (t : Int) < b.i.n := by omega
  have t2 : (t : Int) < b.e.n := by omega
  have EI : Hid (b.i.a = some ⟨ki, oi, none⟩) := ei
  have EE : Hid (b.e.a = some ⟨ke, oe, none⟩) := ee
  have HS : Hid (Dq w b B o b _) := S
  obtain ⟨ok, os, oa, ob⟩ := o
  simp only at hs hk
  subst hs
  clear S hci hce
  simp only [Bx.cells, Ox.cells, z9, ei, ee] at ci ce HS ⊢
  clear ei ee
  rw [hi] at ci
  have HI : Hid (b.i.f t = 0) := hi
  clear hi
  go_enter Tryd.func31, Tryd.ntmps31
  have HA : Hid (Ret2 w b B (b) _) := HS.out.mid.anss
  have HT : Hid (World.there _ (w.heap.size + 2) 0 9) := HS.out.mid.theret
  have HR : Hid (World.rangeAt _ w.heap.size 0 (b).cells) := HS.out.e.range
  go_wp2_with (first | (refine wpList_load_mid rfl 26 _ rfl w.heap.size 0 rfl (b).cells _ HR.out Tryd.underlying26 rfl (by kernel_rfl) ?_) | (refine wpList_store_mid rfl 26 _ _ rfl (w.heap.size + 2) 0 (b).cells.toArray rfl rfl HT.out (by kernel_rfl) (cells_one _) ?_))
  exact bodyPost_ret (results_cell_two rfl _ _ (w.heap.size + 2) 0 _ _ rfl HA.out.c Tryd.underlying26 rfl (by kernel_rfl)) rfl (HA.out.ans3 (.inr ⟨t, rfl, ht, .inr ⟨hk, .inl ⟨HI.out, rfl, rfl, rfl⟩⟩⟩))

set_option maxHeartbeats 16000000 in
theorem do4_any (b : Bx) (B : Nat) (o : Ox) (w : World) (h : b.Hl B w) (hB : B ≤ w.heap.size) (hok : OkP b) (t : Nat) (hs : o.s = t) (ht : (t : Int) < b.s) (hk : o.k ≠ 1) (hi : b.i.f t ≠ 0) :
    Calls Tryd.prog 31 #[.agg b.cells.toArray, .agg o.cells.toArray] w fun e w' => Ans3 b B w (DoP b o) e w' := by
  have l1 := hok.1.1.2.1
  have l0 := hok.1.1.1
  have l2 := hok.1.1.2.2.1
  have l6 := hok.1.1.2.2.2.1
  have S := Dq.start h o 26 28
  obtain ⟨ki, oi, ei, hci⟩ := S.h.at.i.cells (by omega)
  obtain ⟨ke, oe, ee, hce⟩ := S.h.at.e.cells (by omega)
  have ci := hci t (by omega)
  have ce := hce t (by omega)
  have t1 : (t : Int) < b.i.n := by omega
  have t2 : (t : Int) < b.e.n := by omega
  have EI : Hid (b.i.a = some ⟨ki, oi, none⟩) := ei
  have EE : Hid (b.e.a = some ⟨ke, oe, none⟩) := ee
  have HS : Hid (Dq w b B o b _) := S
  obtain ⟨ok, os, oa, ob⟩ := o
  simp only at hs hk
  subst hs
  clear S hci hce
  simp only [Bx.cells, Ox.cells, z9, ei, ee] at ci ce HS ⊢
  clear ei ee
  have HR : Hid (World.rangeAt _ w.heap.size 0 b.cells) := HS.out.e.range
  have HP : Hid (World.rangeAt _ (w.heap.size + 1) 0 (Ox.cells ⟨ok, t, oa, ob⟩)) := HS.out.p.range
  go_enter Tryd.func31, Tryd.ntmps31
  go_wp2_with (first | (refine wpList_load_mid rfl 26 _ rfl w.heap.size 0 rfl (b).cells _ HR.out Tryd.underlying26 rfl (by kernel_rfl) ?_) | (refine wpList_load_mid rfl 28 _ rfl (w.heap.size + 1) 0 rfl (Ox.cells ⟨ok, t, oa, ob⟩) _ HP.out Tryd.underlying28 rfl (by kernel_rfl) ?_))
  refine (down_any b t B ⟨ok, t, oa, ob⟩ _ HS.out.h (by have := HS.out.z; omega) hok ht rfl hi).mono ?_
  rintro e w2 ⟨c, x, y, rfl, tp, hh, hf, hl⟩
  have M := HS.out.call hh hf hl
  have TP : Hid (OwnQ b ⟨ok, t, oa, ob⟩ t c x y) := tp
  clear HR HP tp hh hf hl HS ci ce
  have HA : Hid (Ret2 w b B (c) _) := M.anss
  have HT : Hid (World.there _ (w.heap.size + 2) 0 9) := M.theret
  clear M
  go_wp2_with (first | (refine wpList_store_mid rfl 26 _ _ rfl (w.heap.size + 2) 0 (c).cells.toArray rfl rfl HT.out (by kernel_rfl) (cells_one _) ?_))
  exact bodyPost_ret (results_cell_two rfl _ _ (w.heap.size + 2) 0 _ _ rfl HA.out.c Tryd.underlying26 rfl (by kernel_rfl)) rfl (HA.out.ans3 (.inr ⟨t, rfl, ht, .inr ⟨hk, .inr ⟨hi, TP.out⟩⟩⟩))


end Go.Proofs.YtbipolfbkemmpaaDoor.Book

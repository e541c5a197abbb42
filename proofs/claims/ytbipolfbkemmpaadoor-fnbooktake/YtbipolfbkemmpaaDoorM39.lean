import Derived.Test.YtbipolfbkemmpaaDoorM25

/- The calls of who is in, by the specification. -/
namespace Go.Proofs.YtbipolfbkemmpaaDoor.Book
open Go.ChangeShapes Go.WideShapes Go.ChangeAt Go.RowKit
open Aid Lst
set_option maxRecDepth 100000
set_option linter.unusedVariables false

set_option maxHeartbeats 16000000 in
theorem down4_any (b : Bx) (t B : Nat) (o : Ox) (w : World) (h : b.Hl B w) (hB : B ≤ w.heap.size) (hok : OkP b) (ht : (t : Int) < b.s) (hs : o.s = t) (hi : b.i.f t ≠ 0) (hk : o.k = 4) :
    Calls Tryd.prog 55 #[.agg b.cells.toArray, .agg o.cells.toArray] w fun e w' => Ans3 b B w (OwnQ b o t) e w' := by
  have l1 := hok.1.1.2.1
  have l0 := hok.1.1.1
  have l2 := hok.1.1.2.2.1
  have l3 := hok.1.1.2.2.2.2.1
  have l4 := hok.1.1.2.2.2.2.2.1
  have l5 := hok.1.1.2.2.2.2.2.2
  have S := Dq.start h o 26 28
  obtain ⟨ki, oi, ei, hci⟩ := S.h.at.i.cells (by omega)
  have EI : Hid (b.i.a = some ⟨ki, oi, none⟩) := ei
  have HI : Hid (b.i.f t ≠ 0) := hi
  have HS : Hid (Dq w b B o b _) := S
  obtain ⟨ok, os, oa, ob⟩ := o
  simp only at hs hk
  subst hs hk
  clear S ei hi hci
  simp only [Bx.cells, Ox.cells, z9] at HS ⊢
  have HR : Hid (World.rangeAt _ w.heap.size 0 b.cells) := HS.out.e.range
  go_enter Tryd.func55, Tryd.ntmps55
  go_wp2_with (refine wpList_load_mid rfl 26 _ rfl w.heap.size 0 rfl (b).cells _ HR.out Tryd.underlying26 rfl (by kernel_rfl) ?_)
  refine (whose_any b t oa _ HS.out.h.at hok (by omega) (by omega)).mono ?_
  rintro e w1 ⟨⟨r, rfl, hr⟩, hb⟩
  have S1 := HS.out.later hb
  have HS1 : Hid (Dq w b B ⟨4, t, oa, ob⟩ b w1) := S1
  clear hb HR HS
  have HW : Hid (WhoP b t oa r) := hr
  clear hr
  have HR : Hid (World.rangeAt _ w.heap.size 0 b.cells) := S1.e.range
  obtain ⟨q0, q1, q2, q3⟩ := S1.p.four
  simp only at q0 q1 q2 q3
  by_cases r0 : 0 < r
  · clear q0 q1 q2 q3 HR
    have HA : Hid (Ret2 w b B (b) _) := S1.mid.anss
    have HT : Hid (World.there _ (w.heap.size + 2) 0 9) := S1.mid.theret
    have HR : Hid (World.rangeAt _ w.heap.size 0 (b).cells) := S1.e.range
    clear S1
    go_wp2_with (first | (refine wpList_load_mid rfl 26 _ rfl w.heap.size 0 rfl (b).cells _ HR.out Tryd.underlying26 rfl (by kernel_rfl) ?_) | (refine wpList_store_mid rfl 26 _ _ rfl (w.heap.size + 2) 0 (b).cells.toArray rfl rfl HT.out (by kernel_rfl) (cells_one _) ?_))
    exact bodyPost_ret (results_cell_two rfl _ _ (w.heap.size + 2) 0 _ _ rfl HA.out.c Tryd.underlying26 rfl (by kernel_rfl)) rfl (HA.out.ans3 (.inr (.inr (.inl ⟨rfl, .inl ⟨r, HW.out, r0, rfl, rfl, rfl⟩⟩))))
  obtain ⟨g1, g2, g3, g4⟩ : 0 ≤ oa ∧ oa < b.o.n ∧ ¬ b.o.f oa.toNat = 0 ∧ b.o.f oa.toNat = (t : Int) + 1 := by
    have hw := HW.out
    rcases hw with ⟨_, e⟩ | ⟨⟨h1, h2, h3⟩, ⟨_, e⟩ | ⟨h4, _⟩⟩
    · omega
    · omega
    · exact ⟨h1, h2, h3, h4⟩
  have HW0 : Hid (WhoP b t oa 0) := .inr ⟨⟨g1, g2, g3⟩, .inr ⟨g4, rfl⟩⟩
  obtain ⟨A, rfl⟩ : ∃ A : Nat, oa = A := ⟨oa.toNat, by omega⟩
  have a1 : A < b.o.n := by omega
  clear g1 g2 g3 g4 HW
  obtain ⟨u0, -, -, -, -, -, u6, u7, -⟩ := nine S1.e.range
  rw [EI.out] at u7
  by_cases b0 : ob < 0
  · clear HR
    have HA : Hid (Ret2 w b B (b) _) := S1.mid.anss
    have HT : Hid (World.there _ (w.heap.size + 2) 0 9) := S1.mid.theret
    have HR : Hid (World.rangeAt _ w.heap.size 0 (b).cells) := S1.e.range
    clear S1
    go_wp2_with (first | (refine wpList_load_mid rfl 26 _ rfl w.heap.size 0 rfl (b).cells _ HR.out Tryd.underlying26 rfl (by kernel_rfl) ?_) | (refine wpList_store_mid rfl 26 _ _ rfl (w.heap.size + 2) 0 (b).cells.toArray rfl rfl HT.out (by kernel_rfl) (cells_one _) ?_))
    exact bodyPost_ret (results_cell_two rfl _ _ (w.heap.size + 2) 0 _ _ rfl HA.out.c Tryd.underlying26 rfl (by kernel_rfl)) rfl (HA.out.ans3 (.inr (.inr (.inl ⟨rfl, .inr ⟨HW0.out, .inl ⟨.inl b0, rfl, rfl, rfl⟩⟩⟩))))
  by_cases b1 : b.s ≤ ob
  · clear HR
    have HA : Hid (Ret2 w b B (b) _) := S1.mid.anss
    have HT : Hid (World.there _ (w.heap.size + 2) 0 9) := S1.mid.theret
    have HR : Hid (World.rangeAt _ w.heap.size 0 (b).cells) := S1.e.range
    clear S1
    go_wp2_with (first | (refine wpList_load_mid rfl 26 _ rfl w.heap.size 0 rfl (b).cells _ HR.out Tryd.underlying26 rfl (by kernel_rfl) ?_) | (refine wpList_store_mid rfl 26 _ _ rfl (w.heap.size + 2) 0 (b).cells.toArray rfl rfl HT.out (by kernel_rfl) (cells_one _) ?_))
    exact bodyPost_ret (results_cell_two rfl _ _ (w.heap.size + 2) 0 _ _ rfl HA.out.c Tryd.underlying26 rfl (by kernel_rfl)) rfl (HA.out.ans3 (.inr (.inr (.inl ⟨rfl, .inr ⟨HW0.out, .inl ⟨.inr (.inl b1), rfl, rfl, rfl⟩⟩⟩))))
  obtain ⟨q, rfl⟩ : ∃ q : Nat, ob = q := ⟨ob.toNat, by omega⟩
  have ci := at_cell S1.h.at.i EI.out (j := q) (by omega)
  have q9 : (q : Int) < b.i.n := by omega
  by_cases v0 : b.i.f q = 0
  · rw [v0] at ci
    clear HR u6
    have HA : Hid (Ret2 w b B (b) _) := S1.mid.anss
    have HT : Hid (World.there _ (w.heap.size + 2) 0 9) := S1.mid.theret
    have HR : Hid (World.rangeAt _ w.heap.size 0 (b).cells) := S1.e.range
    clear S1
    go_wp2_with (first | (refine wpList_load_mid rfl 26 _ rfl w.heap.size 0 rfl (b).cells _ HR.out Tryd.underlying26 rfl (by kernel_rfl) ?_) | (refine wpList_store_mid rfl 26 _ _ rfl (w.heap.size + 2) 0 (b).cells.toArray rfl rfl HT.out (by kernel_rfl) (cells_one _) ?_))
    exact bodyPost_ret (results_cell_two rfl _ _ (w.heap.size + 2) 0 _ _ rfl HA.out.c Tryd.underlying26 rfl (by kernel_rfl)) rfl (HA.out.ans3 (.inr (.inr (.inl ⟨rfl, .inr ⟨HW0.out, .inl ⟨.inr (.inr (by show b.i.f (Int.toNat (q : Int)) = 0; rw [Int.toNat_natCast]; exact v0)), rfl, rfl, rfl⟩⟩⟩))))
  have v9 : (b.i.f q == 0) = false := by simpa using v0
  obtain ⟨kq, oq, eq, -⟩ := S1.h.at.o.cells (by omega)
  rw [eq] at u6
  obtain ⟨y0, y1, y2⟩ := S1.fre (x := b.o) (by simp [Bx.lists]) eq a1
  have S2 := S1.write (b' := b.own A ((q : Int) + 1)) 5 b.o rfl kq oq A eq a1 ((q : Int) + 1) rfl rfl (fun i hi => lies_same (b := b) (c := b.own A ((q : Int) + 1)) rfl hi)
  clear S1 HR eq
  have HA : Hid (Ret2 w b B (b.own A ((q : Int) + 1)) _) := S2.mid.anss
  have HT : Hid (World.there _ (w.heap.size + 2) 0 9) := S2.mid.theret
  have HR : Hid (World.rangeAt _ w.heap.size 0 (b.own A ((q : Int) + 1)).cells) := S2.e.range
  clear S2
  go_wp2_with (first | (refine wpList_load_mid rfl 26 _ rfl w.heap.size 0 rfl (b.own A ((q : Int) + 1)).cells _ HR.out Tryd.underlying26 rfl (by kernel_rfl) ?_) | (refine wpList_store_mid rfl 26 _ _ rfl (w.heap.size + 2) 0 (b.own A ((q : Int) + 1)).cells.toArray rfl rfl HT.out (by kernel_rfl) (cells_one _) ?_))
  exact bodyPost_ret (results_cell_two rfl _ _ (w.heap.size + 2) 0 _ _ rfl HA.out.c Tryd.underlying26 rfl (by kernel_rfl)) rfl (HA.out.ans3 (.inr (.inr (.inl ⟨rfl, .inr ⟨HW0.out, .inr ⟨A, q, rfl, rfl, by omega, v0, rfl, rfl, rfl⟩⟩⟩))))

end Go.Proofs.YtbipolfbkemmpaaDoor.Book

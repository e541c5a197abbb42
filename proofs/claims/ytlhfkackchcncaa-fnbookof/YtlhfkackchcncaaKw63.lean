/- The calls of who is in, by the specification. -/
import Derived.Test.YtlhfkackchcncaaKw6
namespace Go.Proofs.Ytlhfkackchcncaa.Book
open Go.ChangeShapes Go.WideShapes Go.ChangeAt Go.RowKit
open Go.Proofs.Ytlhfkackchcncaa.Aid Go.Proofs.Ytlhfkackchcncaa.Lst
set_option maxRecDepth 100000
set_option linter.unusedVariables false

set_option maxHeartbeats 16000000 in
theorem down3_any (b : Bx) (t B : Nat) (o : Ox) (w : World) (h : b.Hl B w) (hB : B ≤ w.heap.size) (hok : OkP b) (ht : (t : Int) < b.s) (hs : o.s = t) (hi : b.i.f t ≠ 0) (hk : o.k = 3) :
    Calls Try.prog 47 #[.agg b.cells.toArray, .agg o.cells.toArray] w fun e w' => Ans3 b B w (OwnQ b o t) e w' := by
  have l1 := hok.1.1.2.1
  have l0 := hok.1.1.1
  have l2 := hok.1.1.2.2.1
  have l3 := hok.1.1.2.2.2.2.1
  have l4 := hok.1.1.2.2.2.2.2.1
  have l5 := hok.1.1.2.2.2.2.2.2
  have S := Dq.start h o 26 53
  obtain ⟨ki, oi, ei, hci⟩ := S.h.at.i.cells (by omega)
  have EI : Hid (b.i.a = some ⟨ki, oi, none⟩) := ei
  have HI : Hid (b.i.f t ≠ 0) := hi
  have HS : Hid (Dq w b B o b _) := S
  obtain ⟨ok, os, oa, ob⟩ := o
  simp only at hs hk
  subst hs hk
  clear S ei hi hci
  simp only [Bx.cells, Ox.cells, z9] at HS ⊢
  have HR : Hid (World.rangeAt _ w.heap.size 0 b.cells) := HS.out.e.range
  go_enter Try.func47, Try.ntmps47
  go_wp2_with (refine wpList_load_mid rfl 26 _ rfl w.heap.size 0 rfl (b).cells _ HR.out Try.underlying26 rfl (by kernel_rfl) ?_)
  refine (whose_any b t oa _ HS.out.h.at hok (by omega) (by omega)).mono ?_
  rintro e w1 ⟨⟨r, rfl, hr⟩, hb⟩
  have S1 := HS.out.later hb
  have HS1 : Hid (Dq w b B ⟨3, t, oa, ob⟩ b w1) := S1
  clear hb HR HS
  have HW : Hid (WhoP b t oa r) := hr
  clear hr
  have HR : Hid (World.rangeAt _ w.heap.size 0 b.cells) := S1.e.range
  obtain ⟨q0, q1, q2, q3⟩ := S1.p.four
  simp only at q0 q1 q2 q3
  by_cases r0 : 0 < r
  · clear q0 q1 q2 q3 HR
    have HA : Hid (Ret2 w b B (b) _) := S1.mid.anss
    have HT : Hid (World.there _ (w.heap.size + 2) 0 9) := S1.mid.theret
    have HR : Hid (World.rangeAt _ w.heap.size 0 (b).cells) := S1.e.range
    clear S1
    go_wp2_with (first | (refine wpList_load_mid rfl 26 _ rfl w.heap.size 0 rfl (b).cells _ HR.out Try.underlying26 rfl (by kernel_rfl) ?_) | (refine wpList_store_mid rfl 26 _ _ rfl (w.heap.size + 2) 0 (b).cells.toArray rfl rfl HT.out (by kernel_rfl) (cells_one _) ?_))
    exact bodyPost_ret (results_cell_two rfl _ _ (w.heap.size + 2) 0 _ _ rfl HA.out.c Try.underlying26 rfl (by kernel_rfl)) rfl (HA.out.ans3 (.inr (.inl ⟨rfl, .inl ⟨r, HW.out, r0, rfl, rfl, rfl⟩⟩)))
  · obtain ⟨g1, g2, g3, g4⟩ : 0 ≤ oa ∧ oa < b.o.n ∧ ¬ b.o.f oa.toNat = 0 ∧ b.o.f oa.toNat = (t : Int) + 1 := by
      have hw := HW.out
      rcases hw with ⟨_, e⟩ | ⟨⟨h1, h2, h3⟩, ⟨_, e⟩ | ⟨h4, _⟩⟩
      · omega
      · omega
      · exact ⟨h1, h2, h3, h4⟩
    have HW0 : Hid (WhoP b t oa 0) := .inr ⟨⟨g1, g2, g3⟩, .inr ⟨g4, rfl⟩⟩
    obtain ⟨A, rfl⟩ : ∃ A : Nat, oa = A := ⟨oa.toNat, by omega⟩
    rw [Int.toNat_natCast] at g4
    have op : Hid (0 < b.o.f A) := by rw [g4]; show (0 : Int) < (t : Int) + 1; omega
    have a1 : A < b.o.n := by omega
    clear g1 g2 g3 g4 S1
    go_wp2_with (refine wpList_load_mid rfl 26 _ rfl w.heap.size 0 rfl (b).cells _ HR.out Try.underlying26 rfl (by kernel_rfl) ?_)
    refine (dback_any b A B w1 HS1.out.h (by have := HS1.out.z; omega) hok a1 op.out).mono ?_
    rintro e w2 ⟨c, rfl, bp, hh, hf, hl⟩
    have M := HS1.out.call hh hf hl
    have BP : Hid (BakP b A c) := bp
    clear HR bp hh hf hl q0 q1 q2 q3
    have HA : Hid (Ret2 w b B (c) _) := M.anss
    have HT : Hid (World.there _ (w.heap.size + 2) 0 9) := M.theret
    clear M
    go_wp2_with (first | (refine wpList_store_mid rfl 26 _ _ rfl (w.heap.size + 2) 0 (c).cells.toArray rfl rfl HT.out (by kernel_rfl) (cells_one _) ?_))
    exact bodyPost_ret (results_cell_two rfl _ _ (w.heap.size + 2) 0 _ _ rfl HA.out.c Try.underlying26 rfl (by kernel_rfl)) rfl (HA.out.ans3 (.inr (.inl ⟨rfl, .inr ⟨HW0.out, A, rfl, BP.out, rfl, rfl⟩⟩)))

end Go.Proofs.Ytlhfkackchcncaa.Book

/- The calls of who is in, by the specification. -/
import Derived.Test.YtlhfkackchcncaaKw6
namespace Go.Proofs.Ytlhfkackchcncaa.Book
open Go.ChangeShapes Go.WideShapes Go.ChangeAt Go.RowKit
open Go.Proofs.Ytlhfkackchcncaa.Aid Go.Proofs.Ytlhfkackchcncaa.Lst
set_option maxRecDepth 100000
set_option linter.unusedVariables false

set_option maxHeartbeats 16000000 in
theorem down5_any (b : Bx) (t B : Nat) (o : Ox) (w : World) (h : b.Hl B w) (hB : B ≤ w.heap.size) (hok : OkP b) (ht : (t : Int) < b.s) (hs : o.s = t) (hi : b.i.f t ≠ 0) (hk : o.k = 5) :
    Calls Try.prog 47 #[.agg b.cells.toArray, .agg o.cells.toArray] w fun e w' => Ans3 b B w (OwnQ b o t) e w' := by
  have l1 := hok.1.1.2.1
  have l0 := hok.1.1.1
  have l2 := hok.1.1.2.2.1
  have l3 := hok.1.1.2.2.2.2.1
  have l4 := hok.1.1.2.2.2.2.2.1
  have l5 := hok.1.1.2.2.2.2.2.2
  have S := Dq.start h o 26 53
  obtain ⟨ki, oi, ei, hci⟩ := S.h.at.i.cells (by omega)
  have EI : Hid (b.i.a = some ⟨ki, oi, none⟩) := ei
  have HI : Hid (b.i.f t ≠ 0) := hi
  have HS : Hid (Dq w b B o b _) := S
  obtain ⟨ok, os, oa, ob⟩ := o
  simp only at hs hk
  subst hs hk
  clear S ei hi hci
  simp only [Bx.cells, Ox.cells, z9] at HS ⊢
  have HR : Hid (World.rangeAt _ w.heap.size 0 b.cells) := HS.out.e.range
  go_enter Try.func47, Try.ntmps47
  go_wp2_with (refine wpList_load_mid rfl 26 _ rfl w.heap.size 0 rfl (b).cells _ HR.out Try.underlying26 rfl (by kernel_rfl) ?_)
  refine (first_any b t _ HS.out.h.at (by omega) (by omega) (by omega) (by omega)).mono ?_
  rintro e w1 ⟨⟨r, rfl, hr⟩, hb⟩
  have S1 := HS.out.later hb
  clear hb HR HS
  obtain ⟨q0, q1, q2, q3⟩ := S1.p.four
  simp only at q0 q1 q2 q3
  rcases hr with ⟨A, hA, rfl, ho, hm⟩ | ⟨rfl, hn⟩
  · have HO : Hid (b.o.f A = (t : Int) + 1) := ho
    clear ho hm q0 q1 q2 q3
    have HA : Hid (Ret2 w b B (b) _) := S1.mid.anss
    have HT : Hid (World.there _ (w.heap.size + 2) 0 9) := S1.mid.theret
    have HR : Hid (World.rangeAt _ w.heap.size 0 (b).cells) := S1.e.range
    clear S1
    go_wp2_with (first | (refine wpList_load_mid rfl 26 _ rfl w.heap.size 0 rfl (b).cells _ HR.out Try.underlying26 rfl (by kernel_rfl) ?_) | (refine wpList_store_mid rfl 26 _ _ rfl (w.heap.size + 2) 0 (b).cells.toArray rfl rfl HT.out (by kernel_rfl) (cells_one _) ?_))
    exact bodyPost_ret (results_cell_two rfl _ _ (w.heap.size + 2) 0 _ _ rfl HA.out.c Try.underlying26 rfl (by kernel_rfl)) rfl (HA.out.ans3 (.inr (.inr (.inr (.inl ⟨rfl, .inl ⟨⟨A, hA, HO.out⟩, rfl, rfl, rfl⟩⟩)))))
  · have HN : Hid (∀ u, u < b.o.n → b.o.f u ≠ (t : Int) + 1) := hn
    obtain ⟨y0, y1, y2⟩ := S1.fre (x := b.i) (by simp [Bx.lists]) EI.out (j := t) (by omega)
    obtain ⟨-, -, -, -, -, -, -, u7, -⟩ := nine S1.e.range
    rw [EI.out] at u7
    have t1 : (t : Int) < b.i.n := by omega
    have S2 := S1.write (b' := b.seti t 0) 6 b.i rfl ki oi t EI.out (by omega) 0 rfl rfl (fun i hi => lies_same (b := b) (c := b.seti t 0) rfl hi)
    clear hn S1
    have HA : Hid (Ret2 w b B (b.seti t 0) _) := S2.mid.anss
    have HT : Hid (World.there _ (w.heap.size + 2) 0 9) := S2.mid.theret
    have HR : Hid (World.rangeAt _ w.heap.size 0 (b.seti t 0).cells) := S2.e.range
    clear S2
    go_wp2_with (first | (refine wpList_load_mid rfl 26 _ rfl w.heap.size 0 rfl (b.seti t 0).cells _ HR.out Try.underlying26 rfl (by kernel_rfl) ?_) | (refine wpList_store_mid rfl 26 _ _ rfl (w.heap.size + 2) 0 (b.seti t 0).cells.toArray rfl rfl HT.out (by kernel_rfl) (cells_one _) ?_))
    exact bodyPost_ret (results_cell_two rfl _ _ (w.heap.size + 2) 0 _ _ rfl HA.out.c Try.underlying26 rfl (by kernel_rfl)) rfl (HA.out.ans3 (.inr (.inr (.inr (.inl ⟨rfl, .inr ⟨HN.out, rfl, rfl, rfl⟩⟩)))))

end Go.Proofs.Ytlhfkackchcncaa.Book

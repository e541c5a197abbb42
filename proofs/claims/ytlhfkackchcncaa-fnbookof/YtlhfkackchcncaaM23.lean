import Derived.Test.YtlhfkackchcncaaKw6
import Derived.Test.YtlhfkackchcncaaKw62
import Derived.Test.YtlhfkackchcncaaKw63
import Derived.Test.YtlhfkackchcncaaKw64
import Derived.Test.YtlhfkackchcncaaKw65
import Derived.Test.YtlhfkackchcncaaKw66

/- The calls of who is in, by the specification. -/
namespace Go.Proofs.Ytlhfkackchcncaa.Book
open Go.ChangeShapes Go.WideShapes Go.ChangeAt Go.RowKit
open Go.Proofs.Ytlhfkackchcncaa.Aid Go.Proofs.Ytlhfkackchcncaa.Lst
set_option maxRecDepth 100000
set_option linter.unusedVariables false

set_option maxHeartbeats 16000000 in
theorem downx_any (b : Bx) (t B : Nat) (o : Ox) (w : World) (h : b.Hl B w) (hB : B ≤ w.heap.size) (hok : OkP b) (ht : (t : Int) < b.s) (hs : o.s = t) (hi : b.i.f t ≠ 0) (k2 : ¬ o.k = 2) (k3 : ¬ o.k = 3) (k4 : ¬ o.k = 4) (k5 : ¬ o.k = 5) (k6 : ¬ o.k = 6) :
    Calls Try.prog 47 #[.agg b.cells.toArray, .agg o.cells.toArray] w fun e w' => Ans3 b B w (OwnQ b o t) e w' := by
  have l1 := hok.1.1.2.1
  have l0 := hok.1.1.1
  have l2 := hok.1.1.2.2.1
  have l3 := hok.1.1.2.2.2.2.1
  have l4 := hok.1.1.2.2.2.2.2.1
  have l5 := hok.1.1.2.2.2.2.2.2
  have S := Dq.start h o 26 53
  obtain ⟨ki, oi, ei, hci⟩ := S.h.at.i.cells (by omega)
  have EI : Hid (b.i.a = some ⟨ki, oi, none⟩) := ei
  have HI : Hid (b.i.f t ≠ 0) := hi
  have HS : Hid (Dq w b B o b _) := S
  obtain ⟨ok, os, oa, ob⟩ := o
  simp only at hs k2 k3 k4 k5 k6
  subst hs
  clear S ei hi hci
  simp only [Bx.cells, Ox.cells, z9] at HS ⊢
  have HR : Hid (World.rangeAt _ w.heap.size 0 b.cells) := HS.out.e.range
  clear HR
  go_enter Try.func47, Try.ntmps47
  have HA : Hid (Ret2 w b B (b) _) := HS.out.mid.anss
  have HT : Hid (World.there _ (w.heap.size + 2) 0 9) := HS.out.mid.theret
  have HR : Hid (World.rangeAt _ w.heap.size 0 (b).cells) := HS.out.e.range
  go_wp2_with (first | (refine wpList_load_mid rfl 26 _ rfl w.heap.size 0 rfl (b).cells _ HR.out Try.underlying26 rfl (by kernel_rfl) ?_) | (refine wpList_store_mid rfl 26 _ _ rfl (w.heap.size + 2) 0 (b).cells.toArray rfl rfl HT.out (by kernel_rfl) (cells_one _) ?_))
  exact bodyPost_ret (results_cell_two rfl _ _ (w.heap.size + 2) 0 _ _ rfl HA.out.c Try.underlying26 rfl (by kernel_rfl)) rfl (HA.out.ans3 (.inr (.inr (.inr (.inr (.inr ⟨by show ok < 2 ∨ 6 < ok; omega, rfl, rfl, rfl⟩))))))

end Go.Proofs.Ytlhfkackchcncaa.Book

/- The calls of who is in, by the specification. -/
namespace Go.Proofs.Ytlhfkackchcncaa.Book
open Go.ChangeShapes Go.WideShapes Go.ChangeAt Go.RowKit
open Go.Proofs.Ytlhfkackchcncaa.Aid Go.Proofs.Ytlhfkackchcncaa.Lst
set_option maxRecDepth 100000
set_option linter.unusedVariables false

theorem down_any (b : Bx) (t B : Nat) (o : Ox) (w : World) (h : b.Hl B w) (hB : B ≤ w.heap.size) (hok : OkP b) (ht : (t : Int) < b.s) (hs : o.s = t) (hi : b.i.f t ≠ 0) :
    Calls Try.prog 47 #[.agg b.cells.toArray, .agg o.cells.toArray] w fun e w' => Ans3 b B w (OwnQ b o t) e w' := by
  by_cases k2 : o.k = 2
  · exact down2_any b t B o w h hB hok ht hs hi k2
  by_cases k3 : o.k = 3
  · exact down3_any b t B o w h hB hok ht hs hi k3
  by_cases k4 : o.k = 4
  · exact down4_any b t B o w h hB hok ht hs hi k4
  by_cases k5 : o.k = 5
  · exact down5_any b t B o w h hB hok ht hs hi k5
  by_cases k6 : o.k = 6
  · exact down6_any b t B o w h hB hok ht hs hi k6
  exact downx_any b t B o w h hB hok ht hs hi k2 k3 k4 k5 k6

end Go.Proofs.Ytlhfkackchcncaa.Book

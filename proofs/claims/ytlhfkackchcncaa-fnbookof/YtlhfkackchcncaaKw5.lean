/- One room of whoever was cut off is reaped, or it is let out, by the specification. -/
import Derived.Test.YtlhfkackchcncaaHl7
namespace Go.Proofs.Ytlhfkackchcncaa.Book
open Go.ChangeShapes Go.WideShapes Go.ChangeAt Go.RowKit
open Go.Proofs.Ytlhfkackchcncaa.Aid Go.Proofs.Ytlhfkackchcncaa.Lst
set_option maxRecDepth 100000
set_option linter.unusedVariables false

def ReaP (b : Bx) (s : Int) (c : Bx) (x y : Int) : Prop :=
  ((s < 0 ∨ b.s ≤ s ∨ b.i.f s.toNat = 0) ∧ c = b ∧ x = 9 ∧ y = 0) ∨
  ∃ t : Nat, s = t ∧ (t : Int) < b.s ∧ ¬ b.i.f t = 0 ∧
    ((b.i.f t = 1 ∧ c = b ∧ x = 8 ∧ y = 0) ∨
     (¬ b.i.f t = 1 ∧ (((∀ u, u < b.o.n → b.o.f u ≠ (t : Int) + 1) ∧ c = b.seti t 0 ∧ x = 0 ∧ y = 0) ∨
       ∃ A : Nat, A < b.o.n ∧ b.o.f A = (t : Int) + 1 ∧ (∀ j, j < A → b.o.f j ≠ (t : Int) + 1) ∧ BakP b A c ∧ x = 10 ∧ y = A)))
theorem rea_ok {b c : Bx} {s x y : Int} (hok : OkP b) (h : ReaP b s c x y) : OkP c := by
  rcases h with ⟨_, rfl, _, _⟩ | ⟨t, _, ht, h0, ⟨_, rfl, _, _⟩ | ⟨_, ⟨hn, rfl, _, _⟩ | ⟨A, hA, ho, _, hb, _, _⟩⟩⟩
  · exact hok
  · exact hok
  · exact keep_seti hok t 0 (by omega) (by omega) (fun _ => by omega) (by have := hok.1.1.2.2.2.1; omega) (fun _ => hn)
  · exact bak_ok hok hA (by omega) hb

set_option maxHeartbeats 8000000 in
theorem dreap_any (b : Bx) (B : Nat) (s : Int) (w : World) (h : b.Hl B w) (hB : B ≤ w.heap.size) (hok : OkP b) :
    Calls Try.prog 52 #[.agg b.cells.toArray, .int .i64 s] w fun e w' => Ans3 b B w (ReaP b s) e w' := by
  have l1 := hok.1.1.2.1
  have l0 := hok.1.1.1
  have l2 := hok.1.1.2.2.1
  have l3 := hok.1.1.2.2.2.2.1
  have l4 := hok.1.1.2.2.2.2.2.1
  have l5 := hok.1.1.2.2.2.2.2.2
  have S := Dn.start h 26
  obtain ⟨ki, oi, ei, hci⟩ := S.h.at.i.cells (by omega)
  have EI : Hid (b.i.a = some ⟨ki, oi, none⟩) := ei
  have HS : Hid (Dn w b B b _) := S
  clear S
  by_cases s0 : s < 0
  · clear hci
    simp only [Bx.cells] at HS ⊢
    clear ei
    go_enter Try.func52, Try.ntmps52
    have HA : Hid (Ret w b B (b) _) := HS.out.anss
    have HT : Hid (World.there _ (w.heap.size + 1) 0 9) := HS.out.theret
    have HR : Hid (World.rangeAt _ w.heap.size 0 (b).cells) := HS.out.e.range
    go_wp2_with (first | (refine wpList_load_mid rfl 26 _ rfl w.heap.size 0 rfl (b).cells _ HR.out Try.underlying26 rfl (by kernel_rfl) ?_) | (refine wpList_store_mid rfl 26 _ _ rfl (w.heap.size + 1) 0 (b).cells.toArray rfl rfl HT.out (by kernel_rfl) (cells_one _) ?_))
    exact bodyPost_ret (results_cell_two rfl _ _ (w.heap.size + 1) 0 _ _ rfl HA.out.c Try.underlying26 rfl (by kernel_rfl)) rfl (HA.out.ans3 (.inl ⟨.inl s0, rfl, rfl, rfl⟩))
  by_cases s1 : b.s ≤ s
  · clear hci ei
    simp only [Bx.cells] at HS ⊢
    go_enter Try.func52, Try.ntmps52
    have HA : Hid (Ret w b B (b) _) := HS.out.anss
    have HT : Hid (World.there _ (w.heap.size + 1) 0 9) := HS.out.theret
    have HR : Hid (World.rangeAt _ w.heap.size 0 (b).cells) := HS.out.e.range
    go_wp2_with (first | (refine wpList_load_mid rfl 26 _ rfl w.heap.size 0 rfl (b).cells _ HR.out Try.underlying26 rfl (by kernel_rfl) ?_) | (refine wpList_store_mid rfl 26 _ _ rfl (w.heap.size + 1) 0 (b).cells.toArray rfl rfl HT.out (by kernel_rfl) (cells_one _) ?_))
    exact bodyPost_ret (results_cell_two rfl _ _ (w.heap.size + 1) 0 _ _ rfl HA.out.c Try.underlying26 rfl (by kernel_rfl)) rfl (HA.out.ans3 (.inl ⟨.inr (.inl s1), rfl, rfl, rfl⟩))
  obtain ⟨t, rfl⟩ : ∃ t : Nat, s = t := ⟨s.toNat, by omega⟩
  have t1 : (t : Int) < b.i.n := by omega
  have ci := hci t (by omega)
  clear hci
  simp only [Bx.cells, ei] at ci HS ⊢
  clear ei
  by_cases v0 : b.i.f t = 0
  · rw [v0] at ci
    go_enter Try.func52, Try.ntmps52
    have HA : Hid (Ret w b B (b) _) := HS.out.anss
    have HT : Hid (World.there _ (w.heap.size + 1) 0 9) := HS.out.theret
    have HR : Hid (World.rangeAt _ w.heap.size 0 (b).cells) := HS.out.e.range
    go_wp2_with (first | (refine wpList_load_mid rfl 26 _ rfl w.heap.size 0 rfl (b).cells _ HR.out Try.underlying26 rfl (by kernel_rfl) ?_) | (refine wpList_store_mid rfl 26 _ _ rfl (w.heap.size + 1) 0 (b).cells.toArray rfl rfl HT.out (by kernel_rfl) (cells_one _) ?_))
    exact bodyPost_ret (results_cell_two rfl _ _ (w.heap.size + 1) 0 _ _ rfl HA.out.c Try.underlying26 rfl (by kernel_rfl)) rfl (HA.out.ans3 (.inl ⟨.inr (.inr (by rw [Int.toNat_natCast]; exact v0)), rfl, rfl, rfl⟩))
  by_cases v1 : b.i.f t = 1
  · rw [v1] at ci
    go_enter Try.func52, Try.ntmps52
    have HA : Hid (Ret w b B (b) _) := HS.out.anss
    have HT : Hid (World.there _ (w.heap.size + 1) 0 9) := HS.out.theret
    have HR : Hid (World.rangeAt _ w.heap.size 0 (b).cells) := HS.out.e.range
    go_wp2_with (first | (refine wpList_load_mid rfl 26 _ rfl w.heap.size 0 rfl (b).cells _ HR.out Try.underlying26 rfl (by kernel_rfl) ?_) | (refine wpList_store_mid rfl 26 _ _ rfl (w.heap.size + 1) 0 (b).cells.toArray rfl rfl HT.out (by kernel_rfl) (cells_one _) ?_))
    exact bodyPost_ret (results_cell_two rfl _ _ (w.heap.size + 1) 0 _ _ rfl HA.out.c Try.underlying26 rfl (by kernel_rfl)) rfl (HA.out.ans3 (.inr ⟨t, rfl, by omega, v0, .inl ⟨v1, rfl, rfl, rfl⟩⟩))
  have HR : Hid (World.rangeAt _ w.heap.size 0 b.cells) := HS.out.e.range
  go_enter Try.func52, Try.ntmps52
  go_wp2_with (refine wpList_load_mid rfl 26 _ rfl w.heap.size 0 rfl (b).cells _ HR.out Try.underlying26 rfl (by kernel_rfl) ?_)
  refine (first_any b t _ HS.out.h.at (by omega) (by omega) (by omega) (by omega)).mono ?_
  rintro e w1 ⟨⟨r, rfl, hr⟩, hb⟩
  have S1 := HS.out.later hb
  have HS1 : Hid (Dn w b B b w1) := S1
  clear hb HR HS ci
  rcases hr with ⟨A, hA, rfl, ho, hm⟩ | ⟨rfl, hn⟩
  · have HO : Hid (b.o.f A = (t : Int) + 1) := ho
    have HM : Hid (∀ j, j < A → b.o.f j ≠ (t : Int) + 1) := hm
    have HR : Hid (World.rangeAt _ w.heap.size 0 b.cells) := S1.e.range
    have op : Hid (0 < b.o.f A) := by rw [show b.o.f A = (t : Int) + 1 from ho]; show (0 : Int) < (t : Int) + 1; omega
    clear ho hm S1
    go_wp2_with (refine wpList_load_mid rfl 26 _ rfl w.heap.size 0 rfl (b).cells _ HR.out Try.underlying26 rfl (by kernel_rfl) ?_)
    refine (dback_any b A B w1 HS1.out.h (by have := HS1.out.z; omega) hok hA op.out).mono ?_
    rintro e w2 ⟨c, rfl, bp, hh, hf, hl⟩
    have M := HS1.out.call hh hf hl
    have BP : Hid (BakP b A c) := bp
    clear HR bp hh hf hl
    have HA : Hid (Ret w b B (c) _) := M.anss
    have HT : Hid (World.there _ (w.heap.size + 1) 0 9) := M.theret
    clear M
    go_wp2_with (first | (refine wpList_store_mid rfl 26 _ _ rfl (w.heap.size + 1) 0 (c).cells.toArray rfl rfl HT.out (by kernel_rfl) (cells_one _) ?_))
    exact bodyPost_ret (results_cell_two rfl _ _ (w.heap.size + 1) 0 _ _ rfl HA.out.c Try.underlying26 rfl (by kernel_rfl)) rfl (HA.out.ans3 (.inr ⟨t, rfl, by omega, v0, .inr ⟨v1, .inr ⟨A, hA, HO.out, HM.out, BP.out, rfl, rfl⟩⟩⟩))
  · have HN : Hid (∀ u, u < b.o.n → b.o.f u ≠ (t : Int) + 1) := hn
    obtain ⟨y0, y1, y2⟩ := S1.fre (x := b.i) (by simp [Bx.lists]) EI.out (j := t) (by omega)
    obtain ⟨-, -, -, -, -, -, -, u7, -⟩ := nine S1.e.range
    rw [EI.out] at u7
    have S2 := S1.write (b' := b.seti t 0) 6 b.i rfl ki oi t EI.out (by omega) 0 rfl rfl (fun i hi => lies_same (b := b) (c := b.seti t 0) rfl hi)
    clear hn S1
    have HA : Hid (Ret w b B (b.seti t 0) _) := S2.anss
    have HT : Hid (World.there _ (w.heap.size + 1) 0 9) := S2.theret
    have HR : Hid (World.rangeAt _ w.heap.size 0 (b.seti t 0).cells) := S2.e.range
    clear S2
    go_wp2_with (first | (refine wpList_load_mid rfl 26 _ rfl w.heap.size 0 rfl (b.seti t 0).cells _ HR.out Try.underlying26 rfl (by kernel_rfl) ?_) | (refine wpList_store_mid rfl 26 _ _ rfl (w.heap.size + 1) 0 (b.seti t 0).cells.toArray rfl rfl HT.out (by kernel_rfl) (cells_one _) ?_))
    exact bodyPost_ret (results_cell_two rfl _ _ (w.heap.size + 1) 0 _ _ rfl HA.out.c Try.underlying26 rfl (by kernel_rfl)) rfl (HA.out.ans3 (.inr ⟨t, rfl, by omega, v0, .inr ⟨v1, .inl ⟨HN.out, rfl, rfl, rfl⟩⟩⟩))

end Go.Proofs.Ytlhfkackchcncaa.Book

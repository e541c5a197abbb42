/- Items of a tale held against each other, marked. Conditions: at most 10,000,000 items. -/
import Derived.Test.YtpfgldbmihbiiaaTi
namespace Go.Proofs.Ytpfgldbmihbiiaa.Ti
open Go.ChangeShapes Go.WideShapes Go.ChangeAt Go.RowKit
open Go.Proofs.Ytpfgldbmihbiiaa.Aid Go.Proofs.Ytpfgldbmihbiiaa.Lst Go.Proofs.Ytpfgldbmihbiiaa.Gs
open Go.Proofs.Ytpfgldbmihbiiaa.Book (Ck ck_lit takeB)
set_option maxRecDepth 100000
set_option linter.unusedVariables false

theorem eqop_at (a b c d : Int) (w : World) : Calls Try.prog 45 #[.agg #[.int .i64 a, .int .i64 b, .int .i64 c, .int .i64 d], .agg #[.int .i64 a, .int .i64 b, .int .i64 c, .int .i64 d]] w fun e w' => e = .returned (.bool true) ∧ Below w.heap.size w w' := by
  go_enter Try.func45, Try.ntmps45
  go_wp2_with (fail)
  go_ret
  exact ⟨rfl, below2 _ _ _⟩

set_option maxHeartbeats 1000000 in
theorem eqitem_at (x : Tx) (w : World) : Calls Try.prog 28 #[.agg x.cells.toArray, .agg x.cells.toArray] w fun e w' => e = .returned (.bool true) ∧ Below w.heap.size w w' := by
  have R1 : Hid (World.rangeAt _ w.heap.size 0 x.cells) := range_lit x.cells.toArray (heap2_0 w (.cells x.cells.toArray 59) (.cells x.cells.toArray 59))
  have R2 : Hid (World.rangeAt _ (w.heap.size + 1) 0 x.cells) := range_lit x.cells.toArray (heap2_1 w (.cells x.cells.toArray 59) (.cells x.cells.toArray 59))
  have B : Hid (Below w.heap.size w _) := below2 w (.cells x.cells.toArray 59) (.cells x.cells.toArray 59)
  have Z : Hid (w.heap.size + 2 ≤ ((w.alloc (.cells x.cells.toArray 59)).alloc (.cells x.cells.toArray 59)).heap.size) := by show _ ≤ _; simp
  go_enter Try.func28, Try.ntmps28
  go_wp2_with (with_reducible refine halt_at (.fieldAddr 59 (.tmp 2) 0) rfl ?_)
  unfold Hid
  generalize (w.alloc (.cells x.cells.toArray 59)).alloc (.cells x.cells.toArray 59) = W at R1 R2 B Z ⊢
  go_wp2_with (first
    | refine rg_load R1.out rfl 3 _ rfl _ rfl _ rfl (by kernel_rfl) ?_
    | refine rg_load R2.out rfl 3 _ rfl _ rfl _ rfl (by kernel_rfl) ?_
    | refine rg_load R1.out rfl 4 _ rfl _ rfl _ rfl (by kernel_rfl) ?_
    | refine rg_load R2.out rfl 4 _ rfl _ rfl _ rfl (by kernel_rfl) ?_
    | refine rg_loads R1.out rfl 50 _ rfl _ 4 rfl rfl _ Try.underlying50 rfl (by kernel_rfl) ?_
    | refine rg_loads R2.out rfl 50 _ rfl _ 4 rfl rfl _ Try.underlying50 rfl (by kernel_rfl) ?_)
  refine (eqop_at _ _ _ _ _).mono ?_
  rintro e w1 ⟨rfl, hb⟩
  have R1 : Hid (World.rangeAt w1 _ 0 x.cells) := range_below hb R1.out (by have := Z.out; omega)
  have R2 : Hid (World.rangeAt w1 _ 0 x.cells) := range_below hb R2.out (by have := Z.out; omega)
  have B1 : Hid (Below w.heap.size w w1) := B.out.trans (hb.mono (by have := Z.out; omega))
  clear hb B Z
  go_wp2_with (first
    | refine rg_load R1.out rfl 3 _ rfl _ rfl _ rfl (by kernel_rfl) ?_
    | refine rg_load R2.out rfl 3 _ rfl _ rfl _ rfl (by kernel_rfl) ?_
    | refine rg_load R1.out rfl 4 _ rfl _ rfl _ rfl (by kernel_rfl) ?_
    | refine rg_load R2.out rfl 4 _ rfl _ rfl _ rfl (by kernel_rfl) ?_
    | refine rg_loads R1.out rfl 50 _ rfl _ 4 rfl rfl _ Try.underlying50 rfl (by kernel_rfl) ?_
    | refine rg_loads R2.out rfl 50 _ rfl _ 4 rfl rfl _ Try.underlying50 rfl (by kernel_rfl) ?_)
  go_ret
  exact ⟨rfl, B1.out⟩

structure Eq2 (w0 : World) (b1 b2 o1 o2 : Nat) (cs : List Value) (w : World) : Prop where
  x : w.rangeAt b1 o1 cs
  y : w.rangeAt b2 o2 cs
  z : Below w0.heap.size w0 w

set_option maxHeartbeats 4000000 in
theorem eqitems_at (a1 a2 : Option Addr) (n c1 c2 : Nat) (g : Nat → Tx) (w : World) (h1 : RowT w a1 n g) (h2 : RowT w a2 n g) (hn : n ≤ 10000000) :
    Calls Try.prog 14 #[.slice a1 n c1, .slice a2 n c2] w fun e w' => e = .returned (.bool true) ∧ Below w.heap.size w w' := by
  have H1 : Hid (RowT w a1 n g) := h1
  have H2 : Hid (RowT w a2 n g) := h2
  clear h1 h2
  go_enter Try.func14, Try.ntmps14
  go_wp2_with (fail)
  go_loopw [5] (fun i wr => ∃ (k : Nat), k ≤ n ∧ i = .int .i64 k ∧ Below w.heap.size w wr) (fun i _ => n - (intOf i).toNat)
  case atStart => exact ⟨0, by omega, rfl, Below.refl _ _⟩
  case round =>
    obtain ⟨k, hk, rfl, hb⟩ := hrel
    have HB : Hid (Below w.heap.size w wr) := hb
    clear hb
    by_cases hlt : (k : Int) < n
    · rcases H1.out with h1 | ⟨b1, o1, rfl, h1⟩
      · omega
      rcases H2.out with h2 | ⟨b2, o2, rfl, h2⟩
      · omega
      have l1 := World.block_lt_of_cell? w _ (h1 k (by omega) 0 _ rfl)
      have l2 := World.block_lt_of_cell? w _ (h2 k (by omega) 0 _ rfl)
      have HR : Hid (Eq2 w b1 b2 (o1 + k * 8) (o2 + k * 8) (g k).cells wr) := ⟨range_below HB.out (h1 k (by omega)) l1, range_below HB.out (h2 k (by omega)) l2, HB.out⟩
      have tk : ¬ (n : Int) ≤ k := by omega
      clear h1 h2 l1 l2
      go_wp2_with (fail)
      refine wp_region_held_drew (S := Eq2 w b1 b2 (o1 + k * 8) (o2 + k * 8) (g k).cells) (by kernel_rfl) ⟨HR.out.x, HR.out.y, ⟨HR.out.z.os, HR.out.z.tape, HR.out.z.output, HR.out.z.size, HR.out.z.block⟩⟩ (fun hS => ?_)
      clear HR
      generalize wr.drew = v at hS ⊢
      refine takeB (i := 0) (v := .slice (some ⟨b1, o1, none⟩) n c1) (d := some 17) rfl rfl (by kernel_rfl) (by kernel_rfl) (by kernel_rfl) (fun _ _ _ h => h) (Or.inl ⟨by rfl, fun w' hw => ?_⟩) hS ?_
      · clear hw; go_simp
      try simp only [Act.put, List.setIfInBounds_toArray, List.set_cons_zero, List.set_cons_succ]
      refine takeB (i := 1) (v := .int .i64 k) (d := some 18) rfl rfl (by kernel_rfl) (by kernel_rfl) (by kernel_rfl) (fun _ _ _ h => h) (Or.inl ⟨by rfl, fun w' hw => ?_⟩) hS ?_
      · clear hw; go_simp
      try simp only [Act.put, List.setIfInBounds_toArray, List.set_cons_zero, List.set_cons_succ]
      refine takeB (i := 2) (v := .pointer (some ⟨b1, o1 + k * 8, none⟩)) (d := some 19) rfl rfl (by kernel_rfl) (by kernel_rfl) (by kernel_rfl) (fun _ _ _ h => h) (Or.inl ⟨by rfl, fun w' hw => ?_⟩) hS ?_
      · clear hw; go_simp
      try simp only [Act.put, List.setIfInBounds_toArray, List.set_cons_zero, List.set_cons_succ]
      refine takeB (i := 3) (v := .agg (g k).cells.toArray) (d := some 20) rfl rfl (by kernel_rfl) (by kernel_rfl) (by kernel_rfl) (fun _ _ _ h => h) (yieldsIf_load_mid (by rfl) 59 _ rfl b1 (o1 + k * 8) rfl (g k).cells _ (fun w' hw => hw.x) Try.underlying59 rfl (by kernel_rfl)) hS ?_
      try simp only [Act.put, List.setIfInBounds_toArray, List.set_cons_zero, List.set_cons_succ]
      refine takeB (i := 4) (v := .slice (some ⟨b2, o2, none⟩) n c2) (d := some 21) rfl rfl (by kernel_rfl) (by kernel_rfl) (by kernel_rfl) (fun _ _ _ h => h) (Or.inl ⟨by rfl, fun w' hw => ?_⟩) hS ?_
      · clear hw; go_simp
      try simp only [Act.put, List.setIfInBounds_toArray, List.set_cons_zero, List.set_cons_succ]
      refine takeB (i := 5) (v := .int .i64 k) (d := some 22) rfl rfl (by kernel_rfl) (by kernel_rfl) (by kernel_rfl) (fun _ _ _ h => h) (Or.inl ⟨by rfl, fun w' hw => ?_⟩) hS ?_
      · clear hw; go_simp
      try simp only [Act.put, List.setIfInBounds_toArray, List.set_cons_zero, List.set_cons_succ]
      refine takeB (i := 6) (v := .pointer (some ⟨b2, o2 + k * 8, none⟩)) (d := some 23) rfl rfl (by kernel_rfl) (by kernel_rfl) (by kernel_rfl) (fun _ _ _ h => h) (Or.inl ⟨by rfl, fun w' hw => ?_⟩) hS ?_
      · clear hw; go_simp
      try simp only [Act.put, List.setIfInBounds_toArray, List.set_cons_zero, List.set_cons_succ]
      refine takeB (i := 7) (v := .agg (g k).cells.toArray) (d := some 24) rfl rfl (by kernel_rfl) (by kernel_rfl) (by kernel_rfl) (fun _ _ _ h => h) (yieldsIf_load_mid (by rfl) 59 _ rfl b2 (o2 + k * 8) rfl (g k).cells _ (fun w' hw => hw.y) Try.underlying59 rfl (by kernel_rfl)) hS ?_
      try simp only [Act.put, List.setIfInBounds_toArray, List.set_cons_zero, List.set_cons_succ]
      refine wpAnyH_ready (rs := [8]) (by kernel_rfl) (by simp) ?_
      refine AllReadyH.cons rfl (fun K hK => ?_) AllReadyH.nil
      have HS : Hid (Eq2 _ _ _ _ _ _ v) := hS
      clear hS
      go_simp
      refine (eqitem_at (g k) v).mono ?_
      rintro e v1 ⟨rfl, hb⟩
      have l1 := World.block_lt_of_cell? v _ (HS.out.x 0 _ rfl)
      have l2 := World.block_lt_of_cell? v _ (HS.out.y 0 _ rfl)
      refine hK.out _ _ ⟨range_below hb HS.out.x l1, range_below hb HS.out.y l2, HS.out.z.trans (hb.mono HS.out.z.size)⟩ (fun hS => ?_)
      clear hK K HS hb l1 l2
      refine takeB (i := 9) (v := .bool false) (d := some 26) rfl rfl (by kernel_rfl) (by kernel_rfl) (by kernel_rfl) (fun _ _ _ h => h) (Or.inl ⟨by rfl, fun w' hw => ?_⟩) hS ?_
      · clear hw; go_simp
      try simp only [Act.put, List.setIfInBounds_toArray, List.set_cons_zero, List.set_cons_succ]
      refine wpAnyH_done (by kernel_rfl) ?_ _
      have HB1 : Hid (Below w.heap.size w v1) := hS.z
      clear hS HB
      go_wp2_with (fail)
      go_roundw
      case rel => exact ⟨k + 1, by omega, by go_num, HB1.out⟩
      case measure => simp [intOf]; omega
    · obtain rfl : k = n := by omega
      go_wp2_with (fail)
      go_ret
      exact ⟨rfl, HB.out⟩

end Go.Proofs.Ytpfgldbmihbiiaa.Ti

import Derived.Test.YtbeamigbcfkjjaaGreatDoorM30
import Derived.Laws.AppendOwn
import Derived.Great.Walk

/- Items of a tale held against each other, marked. Conditions: at most 10,000,000 items. -/
namespace Go.Proofs.YtbeamigbcfkjjaaGreatDoor.Ti
open Go.ChangeShapes Go.WideShapes Go.ChangeAt Go.RowKit
open Go.Proofs.YtbeamigbcfkjjaaGreatDoor.Aid Go.Proofs.YtbeamigbcfkjjaaGreatDoor.Lst Go.Proofs.YtbeamigbcfkjjaaGreatDoor.Gs
open Go.Proofs.YtbeamigbcfkjjaaGreatDoor.Book (Ck ck_lit takeB)
set_option maxRecDepth 100000
set_option linter.unusedVariables false

theorem eqop_at (a b c d : Int) (w : World) : Calls Tryz.prog 46 #[.agg #[.int .i64 a, .int .i64 b, .int .i64 c, .int .i64 d], .agg #[.int .i64 a, .int .i64 b, .int .i64 c, .int .i64 d]] w fun e w' => e = .returned (.bool true) ∧ Below w.heap.size w w' := by
  go_enter Tryz.func46, Tryz.ntmps46
  go_wp2_with (fail)
  go_ret
  exact ⟨rfl, below2 _ _ _⟩

set_option maxHeartbeats 1000000 in
theorem eqitem_at (x : Tx) (w : World) : Calls Tryz.prog 29 #[.agg x.cells.toArray, .agg x.cells.toArray] w fun e w' => e = .returned (.bool true) ∧ Below w.heap.size w w' := by
  have R1 : Hid (World.rangeAt _ w.heap.size 0 x.cells) := range_lit x.cells.toArray (heap2_0 w (.cells x.cells.toArray 47) (.cells x.cells.toArray 47))
  have R2 : Hid (World.rangeAt _ (w.heap.size + 1) 0 x.cells) := range_lit x.cells.toArray (heap2_1 w (.cells x.cells.toArray 47) (.cells x.cells.toArray 47))
  have B : Hid (Below w.heap.size w _) := below2 w (.cells x.cells.toArray 47) (.cells x.cells.toArray 47)
  have Z : Hid (w.heap.size + 2 ≤ ((w.alloc (.cells x.cells.toArray 47)).alloc (.cells x.cells.toArray 47)).heap.size) := by show _ ≤ _; simp
  go_enter Tryz.func29, Tryz.ntmps29
  go_wp2_with (with_reducible refine halt_at (.fieldAddr 47 (.tmp 2) 0) rfl ?_)
  unfold Hid
  generalize (w.alloc (.cells x.cells.toArray 47)).alloc (.cells x.cells.toArray 47) = W at R1 R2 B Z ⊢
  go_wp2_with (first
    | refine rg_load R1.out rfl 3 _ rfl _ rfl _ rfl (by kernel_rfl) ?_
    | refine rg_load R2.out rfl 3 _ rfl _ rfl _ rfl (by kernel_rfl) ?_
    | refine rg_load R1.out rfl 4 _ rfl _ rfl _ rfl (by kernel_rfl) ?_
    | refine rg_load R2.out rfl 4 _ rfl _ rfl _ rfl (by kernel_rfl) ?_
    | refine rg_loads R1.out rfl 45 _ rfl _ 4 rfl rfl _ Tryz.underlying45 rfl (by kernel_rfl) ?_
    | refine rg_loads R2.out rfl 45 _ rfl _ 4 rfl rfl _ Tryz.underlying45 rfl (by kernel_rfl) ?_)
  refine (eqop_at _ _ _ _ _).mono ?_
  rintro e w1 ⟨rfl, hb⟩
  have R1 : Hid (World.rangeAt w1 _ 0 x.cells) := range_below hb R1.out (by have := Z.out; omega)
  have R2 : Hid (World.rangeAt w1 _ 0 x.cells) := range_below hb R2.out (by have := Z.out; omega)
  have B1 : Hid (Below w.heap.size w w1) := B.out.trans (hb.mono (by have := Z.out; omega))
  clear hb B Z
  go_wp2_with (first
    | refine rg_load R1.out rfl 3 _ rfl _ rfl _ rfl (by kernel_rfl) ?_
    | refine rg_load R2.out rfl 3 _ rfl _ rfl _ rfl (by kernel_rfl) ?_
    | refine rg_load R1.out rfl 4 _ rfl _ rfl _ rfl (by kernel_rfl) ?_
    | refine rg_load R2.out rfl 4 _ rfl _ rfl _ rfl (by kernel_rfl) ?_
    | refine rg_loads R1.out rfl 45 _ rfl _ 4 rfl rfl _ Tryz.underlying45 rfl (by kernel_rfl) ?_
    | refine rg_loads R2.out rfl 45 _ rfl _ 4 rfl rfl _ Tryz.underlying45 rfl (by kernel_rfl) ?_)
  go_ret
  exact ⟨rfl, B1.out⟩

structure Eq2 (w0 : World) (b1 b2 o1 o2 : Nat) (cs : List Value) (w : World) : Prop where
  x : w.rangeAt b1 o1 cs
  y : w.rangeAt b2 o2 cs
  z : Below w0.heap.size w0 w

set_option maxHeartbeats 4000000 in
theorem eqitems_at (a1 a2 : Option Addr) (n c1 c2 : Nat) (g : Nat → Tx) (w : World) (h1 : RowT w a1 n g) (h2 : RowT w a2 n g) (hn : n ≤ 10000000) :
    Calls Tryz.prog 11 #[.slice a1 n c1, .slice a2 n c2] w fun e w' => e = .returned (.bool true) ∧ Below w.heap.size w w' := by
  have H1 : Hid (RowT w a1 n g) := h1
  have H2 : Hid (RowT w a2 n g) := h2
  clear h1 h2
  go_enter Tryz.func11, Tryz.ntmps11
  go_wp2_with (fail)
  go_loopw [5] (fun i wr => ∃ (k : Nat), k ≤ n ∧ i = .int .i64 k ∧ Below w.heap.size w wr) (fun i _ => n - (intOf i).toNat)
  case atStart => exact ⟨0, by omega, rfl, Below.refl _ _⟩
  case round =>
    obtain ⟨k, hk, rfl, hb⟩ := hrel
    have HB : Hid (Below w.heap.size w wr) := hb
    clear hb
    by_cases hlt : (k : Int) < n
    · rcases H1.out with h1 | ⟨b1, o1, rfl, h1⟩
      · omega
      rcases H2.out with h2 | ⟨b2, o2, rfl, h2⟩
      · omega
      have l1 := World.block_lt_of_cell? w _ (h1 k (by omega) 0 _ rfl)
      have l2 := World.block_lt_of_cell? w _ (h2 k (by omega) 0 _ rfl)
      have HR : Hid (Eq2 w b1 b2 (o1 + k * 8) (o2 + k * 8) (g k).cells wr) := ⟨range_below HB.out (h1 k (by omega)) l1, range_below HB.out (h2 k (by omega)) l2, HB.out⟩
      have tk : ¬ (n : Int) ≤ k := by omega
      clear h1 h2 l1 l2
      go_wp2_with (fail)
      refine wp_region_held_drew (S := Eq2 w b1 b2 (o1 + k * 8) (o2 + k * 8) (g k).cells) (by kernel_rfl) ⟨HR.out.x, HR.out.y, ⟨HR.out.z.os, HR.out.z.tape, HR.out.z.output, HR.out.z.size, HR.out.z.block⟩⟩ (fun hS => ?_)
      clear HR
      generalize wr.drew = v at hS ⊢
      refine takeB (i := 0) (v := .slice (some ⟨b1, o1, none⟩) n c1) (d := some 17) rfl rfl (by kernel_rfl) (by kernel_rfl) (by kernel_rfl) (fun _ _ _ h => h) (Or.inl ⟨by rfl, fun w' hw => ?_⟩) hS ?_
      · clear hw; go_simp
      try simp only [Act.put, List.setIfInBounds_toArray, List.set_cons_zero, List.set_cons_succ]
      refine takeB (i := 1) (v := .int .i64 k) (d := some 18) rfl rfl (by kernel_rfl) (by kernel_rfl) (by kernel_rfl) (fun _ _ _ h => h) (Or.inl ⟨by rfl, fun w' hw => ?_⟩) hS ?_
      · clear hw; go_simp
      try simp only [Act.put, List.setIfInBounds_toArray, List.set_cons_zero, List.set_cons_succ]
      refine takeB (i := 2) (v := .pointer (some ⟨b1, o1 + k * 8, none⟩)) (d := some 19) rfl rfl (by kernel_rfl) (by kernel_rfl) (by kernel_rfl) (fun _ _ _ h => h) (Or.inl ⟨by rfl, fun w' hw => ?_⟩) hS ?_
      · clear hw; go_simp
      try simp only [Act.put, List.setIfInBounds_toArray, List.set_cons_zero, List.set_cons_succ]
      refine takeB (i := 3) (v := .agg (g k).cells.toArray) (d := some 20) rfl rfl (by kernel_rfl) (by kernel_rfl) (by kernel_rfl) (fun _ _ _ h => h) (yieldsIf_load_mid (by rfl) 47 _ rfl b1 (o1 + k * 8) rfl (g k).cells _ (fun w' hw => hw.x) Tryz.underlying47 rfl (by kernel_rfl)) hS ?_
      try simp only [Act.put, List.setIfInBounds_toArray, List.set_cons_zero, List.set_cons_succ]
      refine takeB (i := 4) (v := .slice (some ⟨b2, o2, none⟩) n c2) (d := some 21) rfl rfl (by kernel_rfl) (by kernel_rfl) (by kernel_rfl) (fun _ _ _ h => h) (Or.inl ⟨by rfl, fun w' hw => ?_⟩) hS ?_
      · clear hw; go_simp
      try simp only [Act.put, List.setIfInBounds_toArray, List.set_cons_zero, List.set_cons_succ]
      refine takeB (i := 5) (v := .int .i64 k) (d := some 22) rfl rfl (by kernel_rfl) (by kernel_rfl) (by kernel_rfl) (fun _ _ _ h => h) (Or.inl ⟨by rfl, fun w' hw => ?_⟩) hS ?_
      · clear hw; go_simp
      try simp only [Act.put, List.setIfInBounds_toArray, List.set_cons_zero, List.set_cons_succ]
      refine takeB (i := 6) (v := .pointer (some ⟨b2, o2 + k * 8, none⟩)) (d := some 23) rfl rfl (by kernel_rfl) (by kernel_rfl) (by kernel_rfl) (fun _ _ _ h => h) (Or.inl ⟨by rfl, fun w' hw => ?_⟩) hS ?_
      · clear hw; go_simp
      try simp only [Act.put, List.setIfInBounds_toArray, List.set_cons_zero, List.set_cons_succ]
      refine takeB (i := 7) (v := .agg (g k).cells.toArray) (d := some 24) rfl rfl (by kernel_rfl) (by kernel_rfl) (by kernel_rfl) (fun _ _ _ h => h) (yieldsIf_load_mid (by rfl) 47 _ rfl b2 (o2 + k * 8) rfl (g k).cells _ (fun w' hw => hw.y) Tryz.underlying47 rfl (by kernel_rfl)) hS ?_
      try simp only [Act.put, List.setIfInBounds_toArray, List.set_cons_zero, List.set_cons_succ]
      refine wpAnyH_ready (rs := [8]) (by kernel_rfl) (by simp) ?_
      refine AllReadyH.cons rfl (fun K hK => ?_) AllReadyH.nil
      have HS : Hid (Eq2 _ _ _ _ _ _ v) := hS
      clear hS
      go_simp
      refine (eqitem_at (g k) v).mono ?_
      rintro e v1 ⟨rfl, hb⟩
      have l1 := World.block_lt_of_cell? v _ (HS.out.x 0 _ rfl)
      have l2 := World.block_lt_of_cell? v _ (HS.out.y 0 _ rfl)
      refine hK.out _ _ ⟨range_below hb HS.out.x l1, range_below hb HS.out.y l2, HS.out.z.trans (hb.mono HS.out.z.size)⟩ (fun hS => ?_)
      clear hK K HS hb l1 l2
      refine takeB (i := 9) (v := .bool false) (d := some 26) rfl rfl (by kernel_rfl) (by kernel_rfl) (by kernel_rfl) (fun _ _ _ h => h) (Or.inl ⟨by rfl, fun w' hw => ?_⟩) hS ?_
      · clear hw; go_simp
      try simp only [Act.put, List.setIfInBounds_toArray, List.set_cons_zero, List.set_cons_succ]
      refine wpAnyH_done (by kernel_rfl) ?_ _
      have HB1 : Hid (Below w.heap.size w v1) := hS.z
      clear hS HB
      go_wp2_with (fail)
      go_roundw
      case rel => exact ⟨k + 1, by omega, by go_num, HB1.out⟩
      case measure => simp [intOf]; omega
    · obtain rfl : k = n := by omega
      go_wp2_with (fail)
      go_ret
      exact ⟨rfl, HB.out⟩

end Go.Proofs.YtbeamigbcfkjjaaGreatDoor.Ti

/- Items of a tale marked. Conditions: at most 10,000,000 items. -/
namespace Go.Proofs.YtbeamigbcfkjjaaGreatDoor.Ti
open Go.ChangeShapes Go.WideShapes Go.ChangeAt Go.RowKit
open Go.Proofs.YtbeamigbcfkjjaaGreatDoor.Aid Go.Proofs.YtbeamigbcfkjjaaGreatDoor.Lst Go.Proofs.YtbeamigbcfkjjaaGreatDoor.Gs
open Go.Proofs.YtbeamigbcfkjjaaGreatDoor.Book (Ck ck_lit takeB)
set_option maxRecDepth 100000
set_option linter.unusedVariables false

/- What an item is marked with. -/
def m3 (k : Int) : Bool := k % 3 == 0
def mT (k : Int) : Tx := ⟨m3 k, k + 1, k + 2, k + 3, k + 4, k + 5, k + 6, k + 7⟩

set_option maxHeartbeats 4000000 in
theorem markitems_any (b n c : Nat) (g : Nat → Tx) (k0 : Int) (w : World) (h : OwnT w b n g) (hn : n ≤ 10000000) (h0 : 0 ≤ k0) (h1 : k0 ≤ 1000000000000000) :
    Calls Tryz.prog 13 #[.slice (some ⟨b, 0, none⟩) n c, .int .i64 k0] w fun e w' => e = .returned (.int .i64 (k0 + 8 * n)) ∧ OwnT w' b n (fun j => mT (k0 + 8 * j)) ∧ But b w w' := by
  go_enter Tryz.func13, Tryz.ntmps13
  go_wp2_with (fail)
  go_loopw [1, 5] (fun kk i wr => ∃ k : Nat, k ≤ n ∧ i = .int .i64 k ∧ kk = .int .i64 (k0 + 8 * k) ∧ OwnT wr b n (fun j => if j < k then mT (k0 + 8 * j) else g j) ∧ But b w wr) (fun _ i _ => n - (intOf i).toNat)
  case atStart => exact ⟨0, by omega, rfl, by simp, h, But.refl _ _⟩
  case round =>
    obtain ⟨k, hk, rfl, rfl, hf, hb⟩ := hrel
    clear h
    by_cases hlt : (k : Int) < n
    · have HF : Hid (OwnT wr b n (fun j => if j < k then mT (k0 + 8 * j) else g j)) := hf
      have hr := hf k (by omega)
      simp only [Nat.lt_irrefl, if_false] at hr
      have HC : Hid (Rk wr b (k * 8) [.bool (g k).cut, .int .i64 (g k).guest, .int .i64 (g k).ok, .int .i64 (g k).os, .int .i64 (g k).oa, .int .i64 (g k).ob, .int .i64 (g k).code, .int .i64 (g k).val] wr) := ⟨hr.1, hr.2, But.refl _ _, fun _ _ => rfl, fun _ => rfl⟩
      have HB : Hid (But b w wr) := hb
      clear hf hr hb
      go_wp2_with (with_reducible refine halt_at (.store 4 (.tmp 18) (.tmp 16)) rfl ?_)
      unfold Hid
      refine rk_store HC.out rfl 4 _ _ rfl _ rfl 0 (by omega) _ rfl (Nat.le_of_ble_eq_true rfl) (by kernel_rfl) rfl ?_
      intro w' h
      simp only [List.set] at h
      replace HC : Hid _ := h
      clear h
      go_wp2_with (with_reducible refine halt_at (.store 3 (.tmp 25) (.tmp 23)) rfl ?_)
      unfold Hid
      refine rk_store HC.out rfl 3 _ _ rfl _ rfl 1 (by omega) _ rfl (Nat.le_of_ble_eq_true rfl) (by kernel_rfl) rfl ?_
      intro w' h
      simp only [List.set] at h
      replace HC : Hid _ := h
      clear h
      go_wp2_with (with_reducible refine halt_at (.store 3 (.tmp 33) (.tmp 30)) rfl ?_)
      unfold Hid
      refine rk_store HC.out rfl 3 _ _ rfl _ rfl 2 (by omega) _ rfl (Nat.le_of_ble_eq_true rfl) (by kernel_rfl) rfl ?_
      intro w' h
      simp only [List.set] at h
      replace HC : Hid _ := h
      clear h
      go_wp2_with (with_reducible refine halt_at (.store 3 (.tmp 41) (.tmp 38)) rfl ?_)
      unfold Hid
      refine rk_store HC.out rfl 3 _ _ rfl _ rfl 3 (by omega) _ rfl (Nat.le_of_ble_eq_true rfl) (by kernel_rfl) rfl ?_
      intro w' h
      simp only [List.set] at h
      replace HC : Hid _ := h
      clear h
      go_wp2_with (with_reducible refine halt_at (.store 3 (.tmp 49) (.tmp 46)) rfl ?_)
      unfold Hid
      refine rk_store HC.out rfl 3 _ _ rfl _ rfl 4 (by omega) _ rfl (Nat.le_of_ble_eq_true rfl) (by kernel_rfl) rfl ?_
      intro w' h
      simp only [List.set] at h
      replace HC : Hid _ := h
      clear h
      go_wp2_with (with_reducible refine halt_at (.store 3 (.tmp 57) (.tmp 54)) rfl ?_)
      unfold Hid
      refine rk_store HC.out rfl 3 _ _ rfl _ rfl 5 (by omega) _ rfl (Nat.le_of_ble_eq_true rfl) (by kernel_rfl) rfl ?_
      intro w' h
      simp only [List.set] at h
      replace HC : Hid _ := h
      clear h
      go_wp2_with (with_reducible refine halt_at (.store 3 (.tmp 64) (.tmp 62)) rfl ?_)
      unfold Hid
      refine rk_store HC.out rfl 3 _ _ rfl _ rfl 6 (by omega) _ rfl (Nat.le_of_ble_eq_true rfl) (by kernel_rfl) rfl ?_
      intro w' h
      simp only [List.set] at h
      replace HC : Hid _ := h
      clear h
      go_wp2_with (with_reducible refine halt_at (.store 3 (.tmp 71) (.tmp 69)) rfl ?_)
      unfold Hid
      refine rk_store HC.out rfl 3 _ _ rfl _ rfl 7 (by omega) _ rfl (Nat.le_of_ble_eq_true rfl) (by kernel_rfl) rfl ?_
      intro w' h
      simp only [List.set] at h
      replace HC : Hid _ := h
      clear h
      go_wp2_with (fail)
      have HO : Hid (OwnT w' b n (fun j => if j < k + 1 then mT (k0 + 8 * j) else g j)) := by
        intro j hj
        have H := HC.out
        have hz := HF.out j hj
        by_cases e : j = k
        · subst e
          have ec : (mT (k0 + 8 * j)).cells = ([.bool ((k0 + 8 * j) % 3 == 0), .int .i64 (k0 + 8 * j + 1), .int .i64 (k0 + 8 * j + 1 + 1), .int .i64 (k0 + 8 * j + 1 + 1 + 1), .int .i64 (k0 + 8 * j + 1 + 1 + 1 + 1), .int .i64 (k0 + 8 * j + 1 + 1 + 1 + 1 + 1), .int .i64 (k0 + 8 * j + 1 + 1 + 1 + 1 + 1 + 1), .int .i64 (k0 + 8 * j + 1 + 1 + 1 + 1 + 1 + 1 + 1)] : List Value) := by simp only [mT, m3, Tx.cells, Int.add_assoc, Int.reduceAdd]
          simp only [if_pos (Nat.lt_succ_self j)]
          rw [ec]
          exact ⟨H.r, H.t⟩
        · have e2 : (if j < k + 1 then mT (k0 + 8 * j) else g j) = (if j < k then mT (k0 + 8 * j) else g j) := by
            by_cases h : j < k
            · rw [if_pos h, if_pos (by omega)]
            · rw [if_neg h, if_neg (by omega)]
          simp only [e2]
          have hout : ∀ i, i < 8 → (j * 8 + i < k * 8 ∨ k * 8 + 8 ≤ j * 8 + i) := fun i hi => by omega
          have hl8 : (if j < k then mT (k0 + 8 * j) else g j).cells.length = 8 := rfl
          refine ⟨fun i v hv => ?_, fun i hi => ?_⟩
          · have hi : i < 8 := by have := (List.getElem?_eq_some_iff.1 hv).1; rwa [hl8] at this
            rw [H.far _ (hout i hi)]; exact hz.1 i v hv
          · rw [H.far _ (hout i hi), H.fz]; exact hz.2 i hi
      have HB2 : Hid (But b w w') := by
        have H := HC.out.bu
        have q := HB.out
        exact ⟨H.os.trans q.os, H.tape.trans q.tape, H.output.trans q.output, H.size.trans q.size, fun i hi => (H.block i hi).trans (q.block i hi)⟩
      clear HC HF HB
      go_roundw
      case rel => exact ⟨k + 1, by omega, by go_num, by go_num, HO.out, HB2.out⟩
      case measure => simp [intOf]; omega
    · have e : k = n := by omega
      subst e
      have HF : Hid (OwnT wr b k (fun j => if j < k then mT (k0 + 8 * j) else g j)) := hf
      have HB : Hid (But b w wr) := hb
      clear hf hb
      go_wp2_with (fail)
      go_ret
      refine ⟨rfl, fun j hj => ?_, HB.out⟩
      have := HF.out j hj
      simp only [if_pos hj] at this
      exact this

end Go.Proofs.YtbeamigbcfkjjaaGreatDoor.Ti

/- Items of a tale marked. Conditions: at most 10,000,000 items. -/
namespace Go.Proofs.YtbeamigbcfkjjaaGreatDoor.Ti
open Go.ChangeShapes Go.WideShapes Go.ChangeAt Go.RowKit
open Go.Proofs.YtbeamigbcfkjjaaGreatDoor.Aid Go.Proofs.YtbeamigbcfkjjaaGreatDoor.Lst Go.Proofs.YtbeamigbcfkjjaaGreatDoor.Gs
open Go.Proofs.YtbeamigbcfkjjaaGreatDoor.Book (Ck ck_lit takeB)
set_option maxRecDepth 100000
set_option linter.unusedVariables false

end Go.Proofs.YtbeamigbcfkjjaaGreatDoor.Ti

/- What has happened by the calls of one guest, by the program. -/
namespace Go.Proofs.YtbeamigbcfkjjaaGreatDoor.Ti
open Go.ChangeShapes Go.WideShapes Go.ChangeAt Go.RowKit
open Go.Proofs.YtbeamigbcfkjjaaGreatDoor.Aid Go.Proofs.YtbeamigbcfkjjaaGreatDoor.Lst Go.Proofs.YtbeamigbcfkjjaaGreatDoor.Gs
open Go.Proofs.YtbeamigbcfkjjaaGreatDoor.Book (Ck ck_lit takeB)
set_option maxRecDepth 100000
set_option linter.unusedVariables false

def selT (g : Nat → Tx) (t : Int) : Nat → List Tx
  | 0 => []
  | n + 1 => if (g n).cut = false ∧ (g n).guest = t then selT g t n ++ [g n] else selT g t n
theorem selT_len (g : Nat → Tx) (t : Int) : ∀ n, (selT g t n).length ≤ n
  | 0 => Nat.le_refl _
  | n + 1 => by
    have := selT_len g t n
    simp only [selT]
    split
    · simp; omega
    · omega
def flat : List Tx → List Value
  | [] => []
  | x :: r => x.cells ++ flat r
theorem flat_app (a : List Tx) (x : Tx) : flat (a ++ [x]) = flat a ++ x.cells := by
  induction a with
  | nil => simp [flat]
  | cons y r ih => simp [flat, ih]
theorem flat_len : ∀ a : List Tx, (flat a).length = a.length * 8
  | [] => rfl
  | x :: r => by
    have := flat_len r
    simp only [flat, List.length_append, List.length_cons, Tx.len, this]
    omega
theorem flat_get : ∀ (a : List Tx) (j i : Nat), j < a.length → i < 8 → (flat a)[j * 8 + i]? = ((a.getD j default).cells)[i]?
  | x :: r, 0, i, _, hi => by
    simp only [flat, Nat.zero_mul, Nat.zero_add]
    rw [List.getElem?_append_left (by rw [Tx.len]; exact hi)]
    rfl
  | x :: r, j + 1, i, hj, hi => by
    have := flat_get r j i (by simpa using hj) hi
    simp only [flat]
    rw [List.getElem?_append_right (by rw [Tx.len]; omega), Tx.len, show (j + 1) * 8 + i - 8 = j * 8 + i by omega, this]
    rfl

/- An own row of items. -/
def OwnV (w : World) (base : Nat) (v : Value) (L : List Tx) : Prop := w.ownsRow base 47 8 v L.length (flat L)
theorem own_row {w : World} {base : Nat} {v : Value} {L : List Tx} (h : OwnV w base v L) : ∃ a c, v = .slice a L.length c ∧ ((L.length = 0 ∧ a = none) ∨ ∃ b, a = some ⟨b, 0, none⟩ ∧ base ≤ b ∧ b < w.heap.size ∧ OwnT w b L.length (fun j => L.getD j default)) := by
  obtain ⟨hl, ⟨rfl, h0⟩ | ⟨g, cap, cur, rfl, hb, hg, hn, hc, hs, ht⟩⟩ := h
  · exact ⟨none, 0, by rw [h0], .inl ⟨h0, rfl⟩⟩
  · have hcell : ∀ p, w.cell? ⟨g, p, none⟩ = cur[p]? := fun p => cell_of_row w g p cur _ _ hg
    have hfr : ∀ p, w.frozen? ⟨g, p, none⟩ = false := fun p => frozen_of_row w g p cur _ hg
    refine ⟨some ⟨g, 0, none⟩, cap, rfl, .inr ⟨g, rfl, hb, ?_, fun j hj => ⟨fun i u hu => ?_, fun i hi => ⟨?_, hfr _⟩⟩⟩⟩
    · rcases Nat.lt_or_ge g w.heap.size with q | q
      · exact q
      · rw [Array.getElem?_eq_none q] at hg; cases hg
    · have hi : i < 8 := by have := (List.getElem?_eq_some_iff.1 hu).1; rwa [Tx.len] at this
      rw [hcell, ← Array.getElem?_toList, ← hu, ← flat_get L j i hj hi, ← ht, List.getElem?_take, if_pos (by omega)]
    · rw [hcell, Array.getElem?_eq_getElem (by omega)]
      rfl
theorem own_ge {w : World} {base : Nat} {v : Value} {L : List Tx} (h : OwnV w base v L) : ∀ g, v.ownBlock = some g → base ≤ g := by
  obtain ⟨_, ⟨rfl, _⟩ | ⟨g, cap, cur, rfl, hb, _⟩⟩ := h
  · intro g hg; cases hg
  · intro g' hg
    simp only [Value.ownBlock, Option.some.injEq] at hg
    omega
theorem below_grown {w W W1 : World} {row : Option Nat} (h : Below w.heap.size w W) (hg : W.grownBy W1 row) (hr : ∀ g, row = some g → w.heap.size ≤ g) : Below w.heap.size w W1 :=
  ⟨hg.os.trans h.os, hg.tape.trans h.tape, hg.output.trans h.output, Nat.le_trans h.size hg.size, fun k hk => (hg.block k (Nat.lt_of_lt_of_le hk h.size) (fun e => by have := hr k e.symm; omega)).trans (h.block k hk)⟩
theorem OwnV.later {w w1 : World} {base : Nat} {v : Value} {L : List Tx} (h : OwnV w base v L) (hb : Below w.heap.size w w1) : OwnV w1 base v L := by
  refine ⟨h.1, ?_⟩
  rcases h.2 with h | ⟨g, cap, cur, e, h1, hg, r⟩
  · exact .inl h
  · refine .inr ⟨g, cap, cur, e, h1, ?_, r⟩
    rw [hb.block g (by rcases Nat.lt_or_ge g w.heap.size with q | q
                       · exact q
                       · rw [Array.getElem?_eq_none q] at hg; cases hg)]
    exact hg
theorem item_parts {P : Program} {t : TypeId} (h : (P.info? t).map (fun i => (i.zero, i.size, i.bytes)) = some (some (.agg zT), 8, 64)) : ∃ i, P.info? t = some i ∧ i.zero = some (.agg zT) ∧ i.size = 8 ∧ i.bytes = 64 := by
  cases hi : P.info? t with
  | none => rw [hi] at h; cases h
  | some i =>
    rw [hi] at h
    simp only [Option.map_some, Option.some.injEq, Prod.mk.injEq] at h
    exact ⟨i, rfl, h.1, h.2.1, h.2.2⟩
theorem one_item (w : World) (t : TypeId) (x : Tx) : ∀ j u, x.cells[j]? = some u → (w.alloc (.cells x.cells.toArray t)).cell? ((⟨w.heap.size, 0, none⟩ : Addr).add j) = some u := fun j u hu => by
  rw [Addr.add_mid, cell_of_row _ _ _ _ _ _ (heap1_0 w _)]
  simpa using hu
theorem one_all (x : Tx) : ∀ u ∈ x.cells, u.oneCell' = true := by
  intro u hu
  simp only [Tx.cells, List.mem_cons, List.not_mem_nil, or_false] at hu
  rcases hu with rfl | rfl | rfl | rfl | rfl | rfl | rfl | rfl <;> rfl

end Go.Proofs.YtbeamigbcfkjjaaGreatDoor.Ti

/- What has happened by the calls of one guest, by the specification. -/
namespace Go.Proofs.YtbeamigbcfkjjaaGreatDoor.Ti
open Go.ChangeShapes Go.WideShapes Go.ChangeAt Go.RowKit
open Go.Proofs.YtbeamigbcfkjjaaGreatDoor.Aid Go.Proofs.YtbeamigbcfkjjaaGreatDoor.Lst Go.Proofs.YtbeamigbcfkjjaaGreatDoor.Gs
open Go.Proofs.YtbeamigbcfkjjaaGreatDoor.Book (Ck ck_lit takeB)
set_option maxRecDepth 100000
set_option linter.unusedVariables false

end Go.Proofs.YtbeamigbcfkjjaaGreatDoor.Ti

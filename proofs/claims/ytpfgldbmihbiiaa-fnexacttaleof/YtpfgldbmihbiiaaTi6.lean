/- What has happened by the calls of one guest, by the specification. -/
import Derived.Test.YtpfgldbmihbiiaaTi5
import Derived.Laws.AppendOwn
import Derived.Great.Walk
namespace Go.Proofs.Ytpfgldbmihbiiaa.Ti
open Go.ChangeShapes Go.WideShapes Go.ChangeAt Go.RowKit
open Go.Proofs.Ytpfgldbmihbiiaa.Aid Go.Proofs.Ytpfgldbmihbiiaa.Lst Go.Proofs.Ytpfgldbmihbiiaa.Gs
open Go.Proofs.Ytpfgldbmihbiiaa.Book (Ck ck_lit takeB)
set_option maxRecDepth 100000
set_option linter.unusedVariables false

set_option maxHeartbeats 4000000 in
theorem sof_any (a : Option Addr) (n c : Nat) (g : Nat → Tx) (t : Int) (w : World) (h : RowT w a n g) (hn : n ≤ 10000000) :
    Calls Try.prog 11 #[.slice a n c, .int .i64 t] w fun e w' => ∃ v, e = .returned v ∧ OwnV w' w.heap.size v (selT g t n) ∧ Below w.heap.size w w' := by
  obtain ⟨i0, hi0, hz0, hz1, hz2⟩ := item_parts infoItem
  have HR : Hid (RowT w a n g) := h
  have O : OwnV (w.alloc (.cells #[] 59)) w.heap.size (.slice (some ⟨w.heap.size, 0, none⟩) 0 0) (selT g t 0) := ⟨rfl, .inr ⟨w.heap.size, 0, #[], rfl, Nat.le_refl _, heap1_0 w _, Nat.le_refl _, by unfold maxLen; omega, rfl, rfl⟩⟩
  have HB0 : Below w.heap.size w (w.alloc (.cells #[] 59)) := below1 w _
  clear h
  go_enter Try.func11, Try.ntmps11
  go_wp2_with (fail)
  go_loopw [5, 6] (fun v i wr => ∃ k : Nat, k ≤ n ∧ i = .int .i64 k ∧ OwnV wr w.heap.size v (selT g t k) ∧ Below w.heap.size w wr) (fun _ i _ => n - (intOf i).toNat)
  case atStart => exact ⟨0, by omega, rfl, O, HB0⟩
  case round =>
    obtain ⟨k, hk, rfl, ho, hb⟩ := hrel
    have HO : Hid (OwnV wr w.heap.size u5 (selT g t k)) := ho
    have HB : Hid (Below w.heap.size w wr) := hb
    clear ho hb O HB0
    by_cases hlt : (k : Int) < n
    · rcases HR.out with h | ⟨b, off, rfl, h⟩
      · omega
      have HR1 : Hid (World.rangeAt wr b (off + k * 8) (g k).cells) := range_below HB.out (h k (by omega)) (World.block_lt_of_cell? w _ (h k (by omega) 0 _ rfl))
      have c0 : wr.cell? ⟨b, off + k * 8, none⟩ = some (.bool (g k).cut) := HR1.out 0 _ rfl
      have c1 : wr.cell? ⟨b, off + k * 8 + 1, none⟩ = some (.int .i64 (g k).guest) := HR1.out 1 _ rfl
      have SL : Hid (selT g t (k + 1) = if (g k).cut = false ∧ (g k).guest = t then selT g t k ++ [g k] else selT g t k) := rfl
      have ll := selT_len g t k
      clear h
      by_cases e1 : (g k).cut = false
      · have E1 : Hid ((g k).cut = false) := e1
        rw [e1] at c0
        by_cases e2 : (g k).guest = t
        · have SE : Hid (selT g t (k + 1) = selT g t k ++ [g k]) := by unfold Hid; rw [SL.out, if_pos ⟨e1, e2⟩]
          rw [e2] at c1
          clear e1 e2
          go_wp2_with (with_reducible refine halt_at (.load 59 (.tmp 32)) rfl ?_)
          unfold Hid
          refine wpList_load_mid rfl 59 _ rfl b (off + k * 8) rfl (g k).cells _ HR1.out Try.underlying59 rfl (by kernel_rfl) ?_
          clear c0 c1
          obtain ⟨hz, ehz⟩ : ∃ hz, hz = wr.heap.size := ⟨_, rfl⟩
          refine Go.Great.wpList_buildSliceTo rfl 36 59 1 _ rfl hz ehz.symm _ rfl Try.underlying36 (g k).cells.toArray (by kernel_rfl) ?_
          subst ehz
          refine wpList_append_own _ rfl _ _ 36 rfl w.heap.size 59 i0 (.agg zT) 8 64 Try.underlying36 hi0 hz0 hz1 hz2 rfl (by decide) _ (selT g t k).length (flat (selT g t k)) rfl (HO.out.later (below1 wr _)) ⟨wr.heap.size, 0, none⟩ 1 1 (g k).cells rfl rfl (one_item wr _ (g k)) (one_all (g k)) (by unfold maxLen; omega) (by omega) (by have := HB.out.size; simp; omega) ?_
          intro v' w4 hown hgrow hiff
          have HB4 : Hid (Below w.heap.size w w4) := below_grown (HB.out.trans ((below1 wr _).mono HB.out.size)) hgrow (own_ge HO.out)
          have HO4 : Hid (OwnV w4 w.heap.size v' (selT g t (k + 1))) := by
            unfold Hid OwnV
            rw [SE.out, flat_app, List.length_append]
            exact hown
          clear hown hgrow hiff HO HB HR1 SE SL E1
          go_wp2_with (fail)
          go_roundw
          case rel => exact ⟨k + 1, by omega, by go_num, HO4.out, HB4.out⟩
          case measure => simp [intOf]; omega
        · have HO4 : Hid (OwnV wr w.heap.size u5 (selT g t (k + 1))) := by unfold Hid; rw [SL.out, if_neg (fun h => e2 h.2)]; exact HO.out
          have eb : ((g k).guest == t) = false := by simp [e2]
          clear e1 e2 SL HO HR1
          go_wp2_with (fail)
          go_roundw
          case rel => exact ⟨k + 1, by omega, by go_num, HO4.out, HB.out⟩
          case measure => simp [intOf]; omega
      · have HO4 : Hid (OwnV wr w.heap.size u5 (selT g t (k + 1))) := by unfold Hid; rw [SL.out, if_neg (fun h => e1 h.1)]; exact HO.out
        have eb : (g k).cut = true := by simpa using e1
        rw [eb] at c0
        clear e1 eb SL HO HR1
        go_wp2_with (fail)
        go_roundw
        case rel => exact ⟨k + 1, by omega, by go_num, HO4.out, HB.out⟩
        case measure => simp [intOf]; omega
    · obtain rfl : k = n := by omega
      go_wp2_with (fail)
      go_ret
      exact ⟨_, rfl, HO.out, HB.out⟩

end Go.Proofs.Ytpfgldbmihbiiaa.Ti

/- What has happened by the calls of one guest, by the program. -/
import Derived.Test.YtpfgldbmihbiiaaTi4
import Derived.Laws.AppendOwn
import Derived.Great.Walk
namespace Go.Proofs.Ytpfgldbmihbiiaa.Ti
open Go.ChangeShapes Go.WideShapes Go.ChangeAt Go.RowKit
open Go.Proofs.Ytpfgldbmihbiiaa.Aid Go.Proofs.Ytpfgldbmihbiiaa.Lst Go.Proofs.Ytpfgldbmihbiiaa.Gs
open Go.Proofs.Ytpfgldbmihbiiaa.Book (Ck ck_lit takeB)
set_option maxRecDepth 100000
set_option linter.unusedVariables false

def selT (g : Nat → Tx) (t : Int) : Nat → List Tx
  | 0 => []
  | n + 1 => if (g n).cut = false ∧ (g n).guest = t then selT g t n ++ [g n] else selT g t n
theorem selT_len (g : Nat → Tx) (t : Int) : ∀ n, (selT g t n).length ≤ n
  | 0 => Nat.le_refl _
  | n + 1 => by
    have := selT_len g t n
    simp only [selT]
    split
    · simp; omega
    · omega
def flat : List Tx → List Value
  | [] => []
  | x :: r => x.cells ++ flat r
theorem flat_app (a : List Tx) (x : Tx) : flat (a ++ [x]) = flat a ++ x.cells := by
  induction a with
  | nil => simp [flat]
  | cons y r ih => simp [flat, ih]
theorem flat_len : ∀ a : List Tx, (flat a).length = a.length * 8
  | [] => rfl
  | x :: r => by
    have := flat_len r
    simp only [flat, List.length_append, List.length_cons, Tx.len, this]
    omega
theorem flat_get : ∀ (a : List Tx) (j i : Nat), j < a.length → i < 8 → (flat a)[j * 8 + i]? = ((a.getD j default).cells)[i]?
  | x :: r, 0, i, _, hi => by
    simp only [flat, Nat.zero_mul, Nat.zero_add]
    rw [List.getElem?_append_left (by rw [Tx.len]; exact hi)]
    rfl
  | x :: r, j + 1, i, hj, hi => by
    have := flat_get r j i (by simpa using hj) hi
    simp only [flat]
    rw [List.getElem?_append_right (by rw [Tx.len]; omega), Tx.len, show (j + 1) * 8 + i - 8 = j * 8 + i by omega, this]
    rfl

/- An own row of items. -/
def OwnV (w : World) (base : Nat) (v : Value) (L : List Tx) : Prop := w.ownsRow base 59 8 v L.length (flat L)
theorem own_row {w : World} {base : Nat} {v : Value} {L : List Tx} (h : OwnV w base v L) : ∃ a c, v = .slice a L.length c ∧ ((L.length = 0 ∧ a = none) ∨ ∃ b, a = some ⟨b, 0, none⟩ ∧ base ≤ b ∧ b < w.heap.size ∧ OwnT w b L.length (fun j => L.getD j default)) := by
  obtain ⟨hl, ⟨rfl, h0⟩ | ⟨g, cap, cur, rfl, hb, hg, hn, hc, hs, ht⟩⟩ := h
  · exact ⟨none, 0, by rw [h0], .inl ⟨h0, rfl⟩⟩
  · have hcell : ∀ p, w.cell? ⟨g, p, none⟩ = cur[p]? := fun p => cell_of_row w g p cur _ _ hg
    have hfr : ∀ p, w.frozen? ⟨g, p, none⟩ = false := fun p => frozen_of_row w g p cur _ hg
    refine ⟨some ⟨g, 0, none⟩, cap, rfl, .inr ⟨g, rfl, hb, ?_, fun j hj => ⟨fun i u hu => ?_, fun i hi => ⟨?_, hfr _⟩⟩⟩⟩
    · rcases Nat.lt_or_ge g w.heap.size with q | q
      · exact q
      · rw [Array.getElem?_eq_none q] at hg; cases hg
    · have hi : i < 8 := by have := (List.getElem?_eq_some_iff.1 hu).1; rwa [Tx.len] at this
      rw [hcell, ← Array.getElem?_toList, ← hu, ← flat_get L j i hj hi, ← ht, List.getElem?_take, if_pos (by omega)]
    · rw [hcell, Array.getElem?_eq_getElem (by omega)]
      rfl
theorem own_ge {w : World} {base : Nat} {v : Value} {L : List Tx} (h : OwnV w base v L) : ∀ g, v.ownBlock = some g → base ≤ g := by
  obtain ⟨_, ⟨rfl, _⟩ | ⟨g, cap, cur, rfl, hb, _⟩⟩ := h
  · intro g hg; cases hg
  · intro g' hg
    simp only [Value.ownBlock, Option.some.injEq] at hg
    omega
theorem below_grown {w W W1 : World} {row : Option Nat} (h : Below w.heap.size w W) (hg : W.grownBy W1 row) (hr : ∀ g, row = some g → w.heap.size ≤ g) : Below w.heap.size w W1 :=
  ⟨hg.os.trans h.os, hg.tape.trans h.tape, hg.output.trans h.output, Nat.le_trans h.size hg.size, fun k hk => (hg.block k (Nat.lt_of_lt_of_le hk h.size) (fun e => by have := hr k e.symm; omega)).trans (h.block k hk)⟩
theorem OwnV.later {w w1 : World} {base : Nat} {v : Value} {L : List Tx} (h : OwnV w base v L) (hb : Below w.heap.size w w1) : OwnV w1 base v L := by
  refine ⟨h.1, ?_⟩
  rcases h.2 with h | ⟨g, cap, cur, e, h1, hg, r⟩
  · exact .inl h
  · refine .inr ⟨g, cap, cur, e, h1, ?_, r⟩
    rw [hb.block g (by rcases Nat.lt_or_ge g w.heap.size with q | q
                       · exact q
                       · rw [Array.getElem?_eq_none q] at hg; cases hg)]
    exact hg
theorem item_parts {P : Program} {t : TypeId} (h : (P.info? t).map (fun i => (i.zero, i.size, i.bytes)) = some (some (.agg zT), 8, 64)) : ∃ i, P.info? t = some i ∧ i.zero = some (.agg zT) ∧ i.size = 8 ∧ i.bytes = 64 := by
  cases hi : P.info? t with
  | none => rw [hi] at h; cases h
  | some i =>
    rw [hi] at h
    simp only [Option.map_some, Option.some.injEq, Prod.mk.injEq] at h
    exact ⟨i, rfl, h.1, h.2.1, h.2.2⟩
theorem one_item (w : World) (t : TypeId) (x : Tx) : ∀ j u, x.cells[j]? = some u → (w.alloc (.cells x.cells.toArray t)).cell? ((⟨w.heap.size, 0, none⟩ : Addr).add j) = some u := fun j u hu => by
  rw [Addr.add_mid, cell_of_row _ _ _ _ _ _ (heap1_0 w _)]
  simpa using hu
theorem one_all (x : Tx) : ∀ u ∈ x.cells, u.oneCell' = true := by
  intro u hu
  simp only [Tx.cells, List.mem_cons, List.not_mem_nil, or_false] at hu
  rcases hu with rfl | rfl | rfl | rfl | rfl | rfl | rfl | rfl <;> rfl

set_option maxHeartbeats 4000000 in
theorem of_any (a : Option Addr) (n c : Nat) (g : Nat → Tx) (t : Int) (w : World) (h : RowT w a n g) (hn : n ≤ 10000000) :
    Calls Try.prog 13 #[.slice a n c, .int .i64 t] w fun e w' => ∃ v, e = .returned v ∧ OwnV w' w.heap.size v (selT g t n) ∧ Below w.heap.size w w' := by
  obtain ⟨i0, hi0, hz0, hz1, hz2⟩ := item_parts infoItem
  have HR : Hid (RowT w a n g) := h
  clear h
  go_enter Try.func13, Try.ntmps13
  go_wp2_with (fail)
  go_loopw [5, 10] (fun v i wr => ∃ k : Nat, k ≤ n ∧ i = .int .i64 k ∧ OwnV wr w.heap.size v (selT g t k) ∧ Below w.heap.size w wr) (fun _ i _ => n - (intOf i).toNat)
  case atStart => exact ⟨0, by omega, rfl, ⟨rfl, .inl ⟨rfl, rfl⟩⟩, Below.refl _ _⟩
  case round =>
    obtain ⟨k, hk, rfl, ho, hb⟩ := hrel
    have HO : Hid (OwnV wr w.heap.size u5 (selT g t k)) := ho
    have HB : Hid (Below w.heap.size w wr) := hb
    clear ho hb
    by_cases hlt : (k : Int) < n
    · rcases HR.out with h | ⟨b, off, rfl, h⟩
      · omega
      have HR1 : Hid (World.rangeAt wr b (off + k * 8) (g k).cells) := range_below HB.out (h k (by omega)) (World.block_lt_of_cell? w _ (h k (by omega) 0 _ rfl))
      have T : Hid ((wr.alloc (.cells zT 59)).there wr.heap.size 0 8) := there_lit zT (heap1_0 wr (.cells zT 59))
      have hb2 : Below wr.heap.size wr ((wr.alloc (.cells zT 59)).setCells wr.heap.size 0 (g k).cells) := below_setCells (below1 wr _) (Nat.le_refl _) _ _
      have HB2 : Hid (Below w.heap.size w ((wr.alloc (.cells zT 59)).setCells wr.heap.size 0 (g k).cells)) := HB.out.trans (hb2.mono HB.out.size)
      have HO2 : Hid (OwnV ((wr.alloc (.cells zT 59)).setCells wr.heap.size 0 (g k).cells) w.heap.size u5 (selT g t k)) := HO.out.later hb2
      have HR2 : Hid (World.rangeAt ((wr.alloc (.cells zT 59)).setCells wr.heap.size 0 (g k).cells) wr.heap.size 0 (g k).cells) := World.rangeAt_setCells_same _ _ _ _ T.out
      clear h HO HB hb2
      go_wp2_with (first
        | (with_reducible refine on_load ?_; refine wpList_load_mid rfl 59 _ rfl b (off + k * 8) rfl (g k).cells _ HR1.out Try.underlying59 rfl (by kernel_rfl) ?_)
        | with_reducible refine halt_at (.store 59 (.tmp 7) (.tmp 13)) rfl ?_)
      unfold Hid
      refine wpList_store_mid rfl 59 _ _ rfl wr.heap.size 0 (g k).cells.toArray rfl rfl T.out (by kernel_rfl) (Tx.one _) ?_
      rw [show (g k).cells.toArray.toList = (g k).cells from rfl, show (#[Value.bool false, .int .i64 0, .int .i64 0, .int .i64 0, .int .i64 0, .int .i64 0, .int .i64 0, .int .i64 0] : Array Value) = zT from rfl]
      clear T HR1
      generalize wr.heap.size = H at HR2 HO2 HB2 ⊢
      generalize (wr.alloc (.cells zT 59)).setCells H 0 (g k).cells = V at HR2 HO2 HB2 ⊢
      have c0 : V.cell? ⟨H, 0, none⟩ = some (.bool (g k).cut) := HR2.out 0 _ rfl
      have c1 : V.cell? ⟨H, 1, none⟩ = some (.int .i64 (g k).guest) := HR2.out 1 _ rfl
      have SL : Hid (selT g t (k + 1) = if (g k).cut = false ∧ (g k).guest = t then selT g t k ++ [g k] else selT g t k) := rfl
      have ll := selT_len g t k
      by_cases e1 : (g k).cut = false
      · have E1 : Hid ((g k).cut = false) := e1
        rw [e1] at c0
        by_cases e2 : (g k).guest = t
        · have SE : Hid (selT g t (k + 1) = selT g t k ++ [g k]) := by unfold Hid; rw [SL.out, if_pos ⟨e1, e2⟩]
          rw [e2] at c1
          clear e1 e2
          go_wp2_with (with_reducible refine halt_at (.load 59 (.tmp 7)) rfl ?_)
          unfold Hid
          refine wpList_load_mid rfl 59 _ rfl H 0 rfl (g k).cells _ HR2.out Try.underlying59 rfl (by kernel_rfl) ?_
          clear c0 c1
          obtain ⟨hz, ehz⟩ : ∃ hz, hz = V.heap.size := ⟨_, rfl⟩
          refine Go.Great.wpList_buildSliceTo rfl 36 59 1 _ rfl hz ehz.symm _ rfl Try.underlying36 (g k).cells.toArray (by kernel_rfl) ?_
          subst ehz
          refine wpList_append_own _ rfl _ _ 36 rfl w.heap.size 59 i0 (.agg zT) 8 64 Try.underlying36 hi0 hz0 hz1 hz2 rfl (by decide) _ (selT g t k).length (flat (selT g t k)) rfl (HO2.out.later (below1 V _)) ⟨V.heap.size, 0, none⟩ 1 1 (g k).cells rfl rfl (one_item V _ (g k)) (one_all (g k)) (by unfold maxLen; omega) (by omega) (by have := HB2.out.size; simp; omega) ?_
          intro v' w4 hown hgrow hiff
          have HB4 : Hid (Below w.heap.size w w4) := below_grown (HB2.out.trans ((below1 V _).mono HB2.out.size)) hgrow (own_ge HO2.out)
          have HO4 : Hid (OwnV w4 w.heap.size v' (selT g t (k + 1))) := by
            unfold Hid OwnV
            rw [SE.out, flat_app, List.length_append]
            exact hown
          clear hown hgrow hiff HO2 HB2 HR2 SE SL E1
          go_wp2_with (fail)
          go_roundw
          case rel => exact ⟨k + 1, by omega, by go_num, HO4.out, HB4.out⟩
          case measure => simp [intOf]; omega
        · have HO4 : Hid (OwnV V w.heap.size u5 (selT g t (k + 1))) := by unfold Hid; rw [SL.out, if_neg (fun h => e2 h.2)]; exact HO2.out
          have eb : ((g k).guest == t) = false := by simp [e2]
          clear e1 e2 SL HO2 HR2
          go_wp2_with (fail)
          go_roundw
          case rel => exact ⟨k + 1, by omega, by go_num, HO4.out, HB2.out⟩
          case measure => simp [intOf]; omega
      · have HO4 : Hid (OwnV V w.heap.size u5 (selT g t (k + 1))) := by unfold Hid; rw [SL.out, if_neg (fun h => e1 h.1)]; exact HO2.out
        have eb : (g k).cut = true := by simpa using e1
        rw [eb] at c0
        clear e1 eb SL HO2 HR2
        go_wp2_with (fail)
        go_roundw
        case rel => exact ⟨k + 1, by omega, by go_num, HO4.out, HB2.out⟩
        case measure => simp [intOf]; omega
    · obtain rfl : k = n := by omega
      go_wp2_with (fail)
      go_ret
      exact ⟨_, rfl, HO.out, HB.out⟩

end Go.Proofs.Ytpfgldbmihbiiaa.Ti

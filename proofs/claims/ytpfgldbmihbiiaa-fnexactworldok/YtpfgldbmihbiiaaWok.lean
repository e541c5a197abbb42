/- WorldOk of the program. Conditions: at most 1,000,000,000 words. -/
import Derived.Test.YtpfgldbmihbiiaaGok6
import Derived.Test.YtpfgldbmihbiiaaChk
import Derived.Test.YtpfgldbmihbiiaaEqgs
namespace Go.Proofs.Ytpfgldbmihbiiaa.Gs
open Go.ChangeShapes Go.WideShapes Go.ChangeAt Go.RowKit
open Go.Proofs.Ytpfgldbmihbiiaa.Aid Go.Proofs.Ytpfgldbmihbiiaa.Lst Go.Proofs.Ytpfgldbmihbiiaa.Plat
open Go.Proofs.Ytpfgldbmihbiiaa.Book (Ck ck_lit Sx takeB)
set_option maxRecDepth 100000
set_option linter.unusedVariables false

/- When a world is one. -/
def Wok (x : Wx) : Prop := gd x.ws.n x.ws.f = true ∧ x.n ≤ 6 ∧ ∀ j, j < x.n → Gok (gS x.ws.n x.ws.f) (gP x.ws.n x.ws.f) (gL x.ws.n x.ws.f) (x.g j)
/- Numbers that are words. -/
def Words64 (x : Sx) : Prop := x.n ≤ 1000000000 ∧ ∀ j, j < x.n → 0 ≤ x.f j ∧ x.f j < 18446744073709551616

/- A call with a world in a struct of its own, and a house beside it. -/
structure Lw (w0 : World) (x : Wx) (s p l : Int) (C : Nat) (w : World) : Prop where
  b : w.rangeAt w0.heap.size 0 x.cells
  c : w.rangeAt C 0 (ints [s, p, l])
  z : Below w0.heap.size w0 w
  lb : w0.heap.size < w.heap.size
  lc : C < w.heap.size
theorem Lw.later {w0 w w1 : World} {x : Wx} {s p l : Int} {C : Nat} (h : Lw w0 x s p l C w) (hb : Below w.heap.size w w1) : Lw w0 x s p l C w1 :=
  ⟨range_below hb h.b h.lb, range_below hb h.c h.lc, h.z.trans (hb.mono h.z.size), Nat.lt_of_lt_of_le h.lb hb.size, Nat.lt_of_lt_of_le h.lc hb.size⟩

set_option maxHeartbeats 4000000 in
theorem wok_any (x : Wx) (w : World) (h : x.At w) (hw : Words64 x.ws) :
    Calls Try.prog 8 #[.agg x.cells.toArray] w fun e w' => e = .returned (.bool (boolOf (Wok x))) ∧ Below w.heap.size w w' := by
  have R : Hid (World.rangeAt _ w.heap.size 0 x.cells) := range_lit x.cells.toArray (heap1_0 w (.cells x.cells.toArray 30))
  have B : Hid (Below w.heap.size w (w.alloc (.cells x.cells.toArray 30))) := below1 w _
  have Z : Hid (w.heap.size + 1 ≤ (w.alloc (.cells x.cells.toArray 30)).heap.size) := by show _ ≤ _; simp
  have HA : Hid (x.At w) := h
  have HW : Hid (Words64 x.ws) := hw
  clear h hw
  go_enter Try.func8, Try.ntmps8
  go_wp2_with (with_reducible refine halt_at (.fieldAddr 30 (.tmp 1) 0) rfl ?_)
  unfold Hid
  generalize w.alloc (.cells x.cells.toArray 30) = W at R B Z ⊢
  go_wp2_with (refine rg_load R.out rfl 22 _ rfl _ rfl _ rfl (by kernel_rfl) ?_)
  refine (check_all _ _ _ _ _ (HA.out.ws.later B.out) HW.out.1 HW.out.2).mono ?_
  rintro e w1 ⟨rfl, hb⟩
  have L : Hid (Lw w x (gS x.ws.n x.ws.f) (gP x.ws.n x.ws.f) (gL x.ws.n x.ws.f) w1.heap.size ((w1.alloc (.cells #[.int .i64 0, .int .i64 0, .int .i64 0] 45)).setCells w1.heap.size 0 (ints [gS x.ws.n x.ws.f, gP x.ws.n x.ws.f, gL x.ws.n x.ws.f]))) := by
    have z := Z.out
    have t := there_lit #[.int .i64 0, .int .i64 0, .int .i64 0] (heap1_0 w1 (.cells #[.int .i64 0, .int .i64 0, .int .i64 0] 45))
    have hz := hb.size
    have b2 : Below w1.heap.size w1 ((w1.alloc (.cells #[.int .i64 0, .int .i64 0, .int .i64 0] 45)).setCells w1.heap.size 0 (ints [gS x.ws.n x.ws.f, gP x.ws.n x.ws.f, gL x.ws.n x.ws.f])) := below_setCells (below1 w1 _) (Nat.le_refl _) _ _
    have hz2 := b2.size
    have hz3 := setCells_size w1.heap.size (ints [gS x.ws.n x.ws.f, gP x.ws.n x.ws.f, gL x.ws.n x.ws.f]) 0 (w1.alloc (.cells #[.int .i64 0, .int .i64 0, .int .i64 0] 45))
    have hz4 : (w1.alloc (.cells #[.int .i64 0, .int .i64 0, .int .i64 0] 45)).heap.size = w1.heap.size + 1 := by simp
    exact ⟨range_below b2 (range_below hb R.out (by omega)) (by omega), World.rangeAt_setCells_same _ _ _ _ t, (B.out.trans (hb.mono (by omega))).trans (b2.mono (by omega)), by omega, by omega⟩
  have T : Hid ((w1.alloc (.cells #[.int .i64 0, .int .i64 0, .int .i64 0] 45)).there w1.heap.size 0 3) := there_lit #[.int .i64 0, .int .i64 0, .int .i64 0] (heap1_0 w1 (.cells #[.int .i64 0, .int .i64 0, .int .i64 0] 45))
  clear hb R B Z
  go_wp2_with (with_reducible refine halt_at (.store 45 (.tmp 3) (.tmp 11)) rfl ?_)
  unfold Hid
  refine wpList_store_mid rfl 45 _ _ rfl w1.heap.size 0 (ints [gS x.ws.n x.ws.f, gP x.ws.n x.ws.f, gL x.ws.n x.ws.f]).toArray rfl rfl T.out (by kernel_rfl) (ints_one _) ?_
  rw [show (ints [gS x.ws.n x.ws.f, gP x.ws.n x.ws.f, gL x.ws.n x.ws.f]).toArray.toList = ints [gS x.ws.n x.ws.f, gP x.ws.n x.ws.f, gL x.ws.n x.ws.f] from rfl]
  generalize (w1.alloc (.cells #[.int .i64 0, .int .i64 0, .int .i64 0] 45)).setCells w1.heap.size 0 (ints [gS x.ws.n x.ws.f, gP x.ws.n x.ws.f, gL x.ws.n x.ws.f]) = V at L ⊢
  clear T
  have c1 : V.cell? ⟨w.heap.size, 1, none⟩ = some (.slice x.a x.n x.c) := L.out.b 1 _ rfl
  cases hg : gd x.ws.n x.ws.f
  · have HN : Hid (¬ Wok x) := fun h => by have := h.1; rw [hg] at this; cases this
    clear hg
    go_wp2_with (fail)
    go_ret
    exact ⟨ret_bool (boolOf_f HN.out), L.out.z⟩
  have HG : Hid (gd x.ws.n x.ws.f = true) := hg
  clear hg
  by_cases h6 : (6 : Int) < x.n
  · have HN : Hid (¬ Wok x) := fun h => by have := h.2.1; omega
    go_wp2_with (fail)
    go_ret
    exact ⟨ret_bool (boolOf_f HN.out), L.out.z⟩
  go_wp2_with (fail)
  clear c1
  go_loopw [24] (fun i wr => ∃ (k : Nat), k ≤ x.n ∧ i = .int .i64 k ∧ Lw w x (gS x.ws.n x.ws.f) (gP x.ws.n x.ws.f) (gL x.ws.n x.ws.f) w1.heap.size wr ∧ (∀ j, j < k → Gok (gS x.ws.n x.ws.f) (gP x.ws.n x.ws.f) (gL x.ws.n x.ws.f) (x.g j))) (fun i _ => x.n - (intOf i).toNat)
  case atStart => exact ⟨0, by omega, rfl, L.out, fun j hj => by omega⟩
  case round =>
    obtain ⟨k, hk, rfl, hL, hJ⟩ := hrel
    have HJ : Hid (∀ j, j < k → Gok (gS x.ws.n x.ws.f) (gP x.ws.n x.ws.f) (gL x.ws.n x.ws.f) (x.g j)) := hJ
    clear hJ L
    by_cases hlt : (k : Int) < x.n
    · have hR := HA.out.row
      rcases hR with h1 | ⟨b1, o1, e1, h1⟩
      · omega
      have l1 := World.block_lt_of_cell? w _ (h1 k (by omega) 0 _ rfl)
      have HR : Hid (World.rangeAt wr b1 (o1 + k * 26) (x.g k).cells) := range_below hL.z (h1 k (by omega)) l1
      have L2 : Hid (Lw w x (gS x.ws.n x.ws.f) (gP x.ws.n x.ws.f) (gL x.ws.n x.ws.f) w1.heap.size ((wr.alloc (.cells zG 53)).setCells wr.heap.size 0 (x.g k).cells)) := hL.later (below_setCells (below1 wr _) (Nat.le_refl _) _ _)
      have T : Hid ((wr.alloc (.cells zG 53)).there wr.heap.size 0 26) := there_lit zG (heap1_0 wr (.cells zG 53))
      have HR2 : Hid (World.rangeAt ((wr.alloc (.cells zG 53)).setCells wr.heap.size 0 (x.g k).cells) wr.heap.size 0 (x.g k).cells) := World.rangeAt_setCells_same _ _ _ _ T.out
      clear hL h1 l1
      rw [e1]
      clear e1
      go_wp2_with (first
        | refine wpList_load_mid rfl 53 _ rfl b1 (o1 + k * 26) rfl (x.g k).cells _ HR.out Try.underlying53 rfl (by kernel_rfl) ?_
        | with_reducible refine halt_at (.store 53 (.tmp 6) (.tmp 27)) rfl ?_)
      unfold Hid
      refine wpList_store_mid rfl 53 _ _ rfl wr.heap.size 0 (x.g k).cells.toArray rfl rfl T.out (by kernel_rfl) (by simp [Gx.cells, Value.oneCell']) ?_
      rw [show (x.g k).cells.toArray.toList = (x.g k).cells from rfl, show (#[Value.bool false, .int .i64 0, .int .i64 0, .bool false, .int .i64 0, .int .i64 0, .int .i64 0, .int .i64 0, .int .i64 0, .int .i64 0, .int .i64 0, .int .i64 0, .int .i64 0, .int .i64 0, .int .i64 0, .bool false, .int .i64 0, .int .u64 0, .int .u64 0, .int .u64 0, .int .u64 0, .slice none 0 0, .slice none 0 0, .int .i64 0, .int .i64 0, .int .i64 0] : Array Value) = zG from rfl]
      generalize (wr.alloc (.cells zG 53)).setCells wr.heap.size 0 (x.g k).cells = V2 at L2 HR2 ⊢
      clear T HR
      go_wp2_with (first
        | refine wpList_load_mid rfl 53 _ rfl wr.heap.size 0 rfl (x.g k).cells _ HR2.out Try.underlying53 rfl (by kernel_rfl) ?_
        | refine wpList_load_mid rfl 45 _ rfl w1.heap.size 0 rfl (ints [gS x.ws.n x.ws.f, gP x.ws.n x.ws.f, gL x.ws.n x.ws.f]) _ L2.out.c Try.underlying45 rfl (by kernel_rfl) ?_)
      refine (gok_any (gS x.ws.n x.ws.f) (gP x.ws.n x.ws.f) (gL x.ws.n x.ws.f) (x.g k) V2).mono ?_
      rintro e w2 ⟨rfl, hb⟩
      have L3 : Hid (Lw w x (gS x.ws.n x.ws.f) (gP x.ws.n x.ws.f) (gL x.ws.n x.ws.f) w1.heap.size w2) := L2.out.later hb
      clear hb L2 HR2
      by_cases hG : Gok (gS x.ws.n x.ws.f) (gP x.ws.n x.ws.f) (gL x.ws.n x.ws.f) (x.g k)
      · rw [← boolOf_t hG]
        have HJ2 : Hid (∀ j, j < k + 1 → Gok (gS x.ws.n x.ws.f) (gP x.ws.n x.ws.f) (gL x.ws.n x.ws.f) (x.g j)) := fun j hj => by
          by_cases e : j = k
          · subst e; exact hG
          · exact HJ.out j (by omega)
        clear hG
        go_wp2_with (fail)
        go_roundw
        case rel => exact ⟨k + 1, by omega, by go_num, L3.out, HJ2.out⟩
        case measure => simp [intOf]; omega
      · rw [← boolOf_f hG]
        have HN : Hid (¬ Wok x) := fun h => hG (h.2.2 k (by omega))
        clear hG
        go_wp2_with (fail)
        go_ret
        exact ⟨ret_bool (boolOf_f HN.out), L3.out.z⟩
    · obtain rfl : k = x.n := by omega
      have HY : Hid (Wok x) := ⟨HG.out, by omega, HJ.out⟩
      have HL : Hid (Below w.heap.size w wr) := hL.z
      clear hL
      go_wp2_with (fail)
      go_ret
      exact ⟨ret_bool (boolOf_t HY.out), HL.out⟩

end Go.Proofs.Ytpfgldbmihbiiaa.Gs

/- A guest copied into new memory. Conditions: at most 1,000,000,000 words a list. -/
import Derived.Test.YtpfgldbmihbiiaaTw
import Derived.Test.YtpfgldbmihbiiaaGx
namespace Go.Proofs.Ytpfgldbmihbiiaa.Gs
open Go.ChangeShapes Go.WideShapes Go.ChangeAt Go.RowKit
open Go.Proofs.Ytpfgldbmihbiiaa.Aid Go.Proofs.Ytpfgldbmihbiiaa.Lst
open Go.Proofs.Ytpfgldbmihbiiaa.Book (Ck ck_lit Sx)
set_option maxRecDepth 100000
set_option linter.unusedVariables false

/- The same guest, its lists at the heads of two blocks. -/
def Gx.at (g : Gx) (b1 b2 : Nat) : Gx := { g with snap := ⟨some ⟨b1, 0, none⟩, g.snap.n, g.snap.n, g.snap.f⟩, plan := ⟨some ⟨b2, 0, none⟩, g.plan.n, g.plan.n, g.plan.f⟩ }
def zG : Array Value := #[.bool false, .int .i64 0, .int .i64 0, .bool false, .int .i64 0, .int .i64 0, .int .i64 0, .int .i64 0, .int .i64 0, .int .i64 0, .int .i64 0, .int .i64 0, .int .i64 0, .int .i64 0, .int .i64 0, .bool false, .int .i64 0, .int .u64 0, .int .u64 0, .int .u64 0, .int .u64 0, .slice none 0 0, .slice none 0 0, .int .i64 0, .int .i64 0, .int .i64 0]

set_option maxHeartbeats 1000000 in
theorem toop_any (a b c d : Int) (w : World) : Calls Try.prog 44 #[.agg #[.int .i64 a, .int .i64 b, .int .i64 c, .int .i64 d]] w fun e w' => e = .returned (.agg #[.int .i64 a, .int .i64 b, .int .i64 c, .int .i64 d]) ∧ Below w.heap.size w w' := by
  have HC : Hid (Tw w _ _ _ _ _ _ _) := Tw.start w #[.int .i64 a, .int .i64 b, .int .i64 c, .int .i64 d] #[.int .i64 0, .int .i64 0, .int .i64 0, .int .i64 0] 61 50 50
  go_enter Try.func44, Try.ntmps44
  go_wp2_with (first
    | refine tw_load HC.out rfl 3 _ rfl _ rfl _ rfl (by kernel_rfl) ?_
    | (refine tw_store HC.out rfl 3 _ _ rfl _ rfl _ rfl (Nat.le_of_ble_eq_true rfl) (by kernel_rfl) rfl ?_
       intro w' h
       simp only [List.set] at h
       replace HC : Hid _ := h
       clear h)
    | refine wpList_load_mid rfl 50 _ rfl (w.heap.size + 1 + 1) 0 rfl _ _ HC.out.c.range Try.underlying50 rfl (by kernel_rfl) ?_
    | refine wpList_store_mid rfl 50 _ _ rfl (w.heap.size + 1) 0 _ rfl rfl HC.out.t (by kernel_rfl) (by simp [Value.oneCell']) ?_)
  exact bodyPost_ret (results_cell_mid rfl _ _ (w.heap.size + 1) 0 _ _ rfl (World.rangeAt_setCells_same _ _ _ _ HC.out.t) Try.underlying50 rfl (by kernel_rfl)) rfl ⟨rfl, below_setCells HC.out.b0 HC.out.gr _ _⟩

set_option maxHeartbeats 16000000 in
theorem toguest_any (g : Gx) (w : World) (h : g.At w) (hs : g.snap.n ≤ 1000000000) (hp : g.plan.n ≤ 1000000000) :
    Calls Try.prog 36 #[.agg g.cells.toArray] w fun e w' => ∃ b1 b2, e = .returned (.agg (g.at b1 b2).cells.toArray) ∧ w.heap.size ≤ b1 ∧ b1 < b2 ∧ b2 < w'.heap.size ∧ Fk .u64 g.snap.n w' b1 g.snap.f ∧ Fk .u64 g.plan.n w' b2 g.plan.f ∧ Below w.heap.size w w' := by
  have HC : Hid (Tw w w.heap.size g.cells (w.heap.size + 1) (w.heap.size + 1 + 1) [.bool false, .int .i64 0, .int .i64 0, .bool false, .int .i64 0, .int .i64 0, .int .i64 0, .int .i64 0, .int .i64 0, .int .i64 0, .int .i64 0, .int .i64 0, .int .i64 0, .int .i64 0, .int .i64 0, .bool false, .int .i64 0, .int .u64 0, .int .u64 0, .int .u64 0, .int .u64 0, .slice none 0 0, .slice none 0 0, .int .i64 0, .int .i64 0, .int .i64 0] [] _) := Tw.start w g.cells.toArray zG 67 53 53
  have HA : Hid (g.At w) := h
  clear h
  go_enter Try.func36, Try.ntmps36
  go_wp2_with (first
    | refine tw_load HC.out rfl 3 _ rfl _ rfl _ rfl (by kernel_rfl) ?_
    | refine tw_load HC.out rfl 4 _ rfl _ rfl _ rfl (by kernel_rfl) ?_
    | refine tw_load HC.out rfl 51 _ rfl _ rfl _ rfl (by kernel_rfl) ?_
    | refine tw_load HC.out rfl 22 _ rfl _ rfl _ rfl (by kernel_rfl) ?_
    | refine tw_loads HC.out rfl 61 _ rfl _ 4 rfl rfl _ Try.underlying61 rfl (by kernel_rfl) ?_
    | (refine tw_stores HC.out rfl 50 _ _ rfl _ rfl _ rfl (Nat.le_of_ble_eq_true rfl) (by kernel_rfl) rfl ?_
       intro w' h
       simp only [setL, List.set, Nat.reduceAdd] at h
       replace HC : Hid _ := h
       clear h)
    | (refine tw_store HC.out rfl 3 _ _ rfl _ rfl _ rfl (Nat.le_of_ble_eq_true rfl) (by kernel_rfl) rfl ?_
       intro w' h
       simp only [List.set] at h
       replace HC : Hid _ := h
       clear h)
    | (refine tw_store HC.out rfl 4 _ _ rfl _ rfl _ rfl (Nat.le_of_ble_eq_true rfl) (by kernel_rfl) rfl ?_
       intro w' h
       simp only [List.set] at h
       replace HC : Hid _ := h
       clear h)
    | (refine tw_store HC.out rfl 51 _ _ rfl _ rfl _ rfl (Nat.le_of_ble_eq_true rfl) (by kernel_rfl) rfl ?_
       intro w' h
       simp only [List.set] at h
       replace HC : Hid _ := h
       clear h)
    | (refine tw_store HC.out rfl 22 _ _ rfl _ rfl _ rfl (Nat.le_of_ble_eq_true rfl) (by kernel_rfl) rfl ?_
       intro w' h
       simp only [List.set] at h
       replace HC : Hid _ := h
       clear h)
    | refine wpList_load_mid rfl 53 _ rfl (w.heap.size + 1 + 1) 0 rfl _ _ HC.out.c.range Try.underlying53 rfl (by kernel_rfl) ?_
    | refine wpList_store_mid rfl 53 _ _ rfl (w.heap.size + 1) 0 _ rfl rfl HC.out.t (by kernel_rfl) (by simp [Value.oneCell']) ?_)
  refine (toop_any _ _ _ _ _).mono ?_
  rintro e w1 ⟨rfl, hb⟩
  replace HC : Hid _ := HC.out.later hb
  clear hb
  go_wp2_with (first
    | refine tw_load HC.out rfl 3 _ rfl _ rfl _ rfl (by kernel_rfl) ?_
    | refine tw_load HC.out rfl 4 _ rfl _ rfl _ rfl (by kernel_rfl) ?_
    | refine tw_load HC.out rfl 51 _ rfl _ rfl _ rfl (by kernel_rfl) ?_
    | refine tw_load HC.out rfl 22 _ rfl _ rfl _ rfl (by kernel_rfl) ?_
    | refine tw_loads HC.out rfl 61 _ rfl _ 4 rfl rfl _ Try.underlying61 rfl (by kernel_rfl) ?_
    | (refine tw_stores HC.out rfl 50 _ _ rfl _ rfl _ rfl (Nat.le_of_ble_eq_true rfl) (by kernel_rfl) rfl ?_
       intro w' h
       simp only [setL, List.set, Nat.reduceAdd] at h
       replace HC : Hid _ := h
       clear h)
    | (refine tw_store HC.out rfl 3 _ _ rfl _ rfl _ rfl (Nat.le_of_ble_eq_true rfl) (by kernel_rfl) rfl ?_
       intro w' h
       simp only [List.set] at h
       replace HC : Hid _ := h
       clear h)
    | (refine tw_store HC.out rfl 4 _ _ rfl _ rfl _ rfl (Nat.le_of_ble_eq_true rfl) (by kernel_rfl) rfl ?_
       intro w' h
       simp only [List.set] at h
       replace HC : Hid _ := h
       clear h)
    | (refine tw_store HC.out rfl 51 _ _ rfl _ rfl _ rfl (Nat.le_of_ble_eq_true rfl) (by kernel_rfl) rfl ?_
       intro w' h
       simp only [List.set] at h
       replace HC : Hid _ := h
       clear h)
    | (refine tw_store HC.out rfl 22 _ _ rfl _ rfl _ rfl (Nat.le_of_ble_eq_true rfl) (by kernel_rfl) rfl ?_
       intro w' h
       simp only [List.set] at h
       replace HC : Hid _ := h
       clear h)
    | refine wpList_load_mid rfl 53 _ rfl (w.heap.size + 1 + 1) 0 rfl _ _ HC.out.c.range Try.underlying53 rfl (by kernel_rfl) ?_
    | refine wpList_store_mid rfl 53 _ _ rfl (w.heap.size + 1) 0 _ rfl rfl HC.out.t (by kernel_rfl) (by simp [Value.oneCell']) ?_)
  refine (toUint64_any _ _ _ _ _ (HA.out.1.later HC.out.b0) hs).mono ?_
  rintro e w2 ⟨rfl, hf, hb, hz⟩
  replace HC : Hid _ := HC.out.row hb hf hz
  clear hf hb hz
  go_wp2_with (first
    | refine tw_load HC.out rfl 3 _ rfl _ rfl _ rfl (by kernel_rfl) ?_
    | refine tw_load HC.out rfl 4 _ rfl _ rfl _ rfl (by kernel_rfl) ?_
    | refine tw_load HC.out rfl 51 _ rfl _ rfl _ rfl (by kernel_rfl) ?_
    | refine tw_load HC.out rfl 22 _ rfl _ rfl _ rfl (by kernel_rfl) ?_
    | refine tw_loads HC.out rfl 61 _ rfl _ 4 rfl rfl _ Try.underlying61 rfl (by kernel_rfl) ?_
    | (refine tw_stores HC.out rfl 50 _ _ rfl _ rfl _ rfl (Nat.le_of_ble_eq_true rfl) (by kernel_rfl) rfl ?_
       intro w' h
       simp only [setL, List.set, Nat.reduceAdd] at h
       replace HC : Hid _ := h
       clear h)
    | (refine tw_store HC.out rfl 3 _ _ rfl _ rfl _ rfl (Nat.le_of_ble_eq_true rfl) (by kernel_rfl) rfl ?_
       intro w' h
       simp only [List.set] at h
       replace HC : Hid _ := h
       clear h)
    | (refine tw_store HC.out rfl 4 _ _ rfl _ rfl _ rfl (Nat.le_of_ble_eq_true rfl) (by kernel_rfl) rfl ?_
       intro w' h
       simp only [List.set] at h
       replace HC : Hid _ := h
       clear h)
    | (refine tw_store HC.out rfl 51 _ _ rfl _ rfl _ rfl (Nat.le_of_ble_eq_true rfl) (by kernel_rfl) rfl ?_
       intro w' h
       simp only [List.set] at h
       replace HC : Hid _ := h
       clear h)
    | (refine tw_store HC.out rfl 22 _ _ rfl _ rfl _ rfl (Nat.le_of_ble_eq_true rfl) (by kernel_rfl) rfl ?_
       intro w' h
       simp only [List.set] at h
       replace HC : Hid _ := h
       clear h)
    | refine wpList_load_mid rfl 53 _ rfl (w.heap.size + 1 + 1) 0 rfl _ _ HC.out.c.range Try.underlying53 rfl (by kernel_rfl) ?_
    | refine wpList_store_mid rfl 53 _ _ rfl (w.heap.size + 1) 0 _ rfl rfl HC.out.t (by kernel_rfl) (by simp [Value.oneCell']) ?_)
  have HL : Hid _ := (HC.out.k _ List.mem_cons_self).2.2.2.2
  refine (toUint64_any _ _ _ _ _ (HA.out.2.later HC.out.b0) hp).mono ?_
  rintro e w3 ⟨rfl, hf, hb, hz⟩
  replace HC : Hid _ := HC.out.row hb hf hz
  clear hf hb hz
  go_wp2_with (first
    | refine tw_load HC.out rfl 3 _ rfl _ rfl _ rfl (by kernel_rfl) ?_
    | refine tw_load HC.out rfl 4 _ rfl _ rfl _ rfl (by kernel_rfl) ?_
    | refine tw_load HC.out rfl 51 _ rfl _ rfl _ rfl (by kernel_rfl) ?_
    | refine tw_load HC.out rfl 22 _ rfl _ rfl _ rfl (by kernel_rfl) ?_
    | refine tw_loads HC.out rfl 61 _ rfl _ 4 rfl rfl _ Try.underlying61 rfl (by kernel_rfl) ?_
    | (refine tw_stores HC.out rfl 50 _ _ rfl _ rfl _ rfl (Nat.le_of_ble_eq_true rfl) (by kernel_rfl) rfl ?_
       intro w' h
       simp only [setL, List.set, Nat.reduceAdd] at h
       replace HC : Hid _ := h
       clear h)
    | (refine tw_store HC.out rfl 3 _ _ rfl _ rfl _ rfl (Nat.le_of_ble_eq_true rfl) (by kernel_rfl) rfl ?_
       intro w' h
       simp only [List.set] at h
       replace HC : Hid _ := h
       clear h)
    | (refine tw_store HC.out rfl 4 _ _ rfl _ rfl _ rfl (Nat.le_of_ble_eq_true rfl) (by kernel_rfl) rfl ?_
       intro w' h
       simp only [List.set] at h
       replace HC : Hid _ := h
       clear h)
    | (refine tw_store HC.out rfl 51 _ _ rfl _ rfl _ rfl (Nat.le_of_ble_eq_true rfl) (by kernel_rfl) rfl ?_
       intro w' h
       simp only [List.set] at h
       replace HC : Hid _ := h
       clear h)
    | (refine tw_store HC.out rfl 22 _ _ rfl _ rfl _ rfl (Nat.le_of_ble_eq_true rfl) (by kernel_rfl) rfl ?_
       intro w' h
       simp only [List.set] at h
       replace HC : Hid _ := h
       clear h)
    | refine wpList_load_mid rfl 53 _ rfl (w.heap.size + 1 + 1) 0 rfl _ _ HC.out.c.range Try.underlying53 rfl (by kernel_rfl) ?_
    | refine wpList_store_mid rfl 53 _ _ rfl (w.heap.size + 1) 0 _ rfl rfl HC.out.t (by kernel_rfl) (by simp [Value.oneCell']) ?_)
  have K1 := HC.out.k _ (List.mem_cons_of_mem _ List.mem_cons_self)
  have K2 := HC.out.k _ List.mem_cons_self
  exact bodyPost_ret (results_cell_mid rfl _ _ (w.heap.size + 1) 0 _ _ rfl (World.rangeAt_setCells_same _ _ _ _ HC.out.t) Try.underlying53 rfl (by kernel_rfl)) rfl
    ⟨_, _, rfl, K1.2.1, HL.out, by rw [setCells_size]; exact K2.2.2.2.2, fk_setCells_far K1.2.2.2.1.symm _ _ _ K1.1, fk_setCells_far K2.2.2.2.1.symm _ _ _ K2.1, below_setCells HC.out.b0 HC.out.gr _ _⟩

end Go.Proofs.Ytpfgldbmihbiiaa.Gs

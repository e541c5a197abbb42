/- Items of a tale in memory: copied. Conditions: at most 10,000,000 items. -/
import Derived.Test.YtpfgldbmihbiiaaTw
import Derived.Test.YtpfgldbmihbiiaaRw
import Derived.Test.YtpfgldbmihbiiaaBk
import Derived.Test.YtpfgldbmihbiiaaLaw
namespace Go.Proofs.Ytpfgldbmihbiiaa.Ti
open Go.ChangeShapes Go.WideShapes Go.ChangeAt Go.RowKit
open Go.Proofs.Ytpfgldbmihbiiaa.Aid Go.Proofs.Ytpfgldbmihbiiaa.Lst Go.Proofs.Ytpfgldbmihbiiaa.Gs
open Go.Proofs.Ytpfgldbmihbiiaa.Book (Ck ck_lit takeB)
set_option maxRecDepth 100000
set_option linter.unusedVariables false

structure Tx where
  cut : Bool
  guest : Int
  ok : Int
  os : Int
  oa : Int
  ob : Int
  code : Int
  val : Int
def Tx.cells (x : Tx) : List Value := [.bool x.cut, .int .i64 x.guest, .int .i64 x.ok, .int .i64 x.os, .int .i64 x.oa, .int .i64 x.ob, .int .i64 x.code, .int .i64 x.val]
theorem Tx.len (x : Tx) : x.cells.length = 8 := rfl
theorem Tx.one (x : Tx) : x.cells.toArray.all (·.oneCell') = true := by simp [Tx.cells, Value.oneCell']
def zT : Array Value := #[.bool false, .int .i64 0, .int .i64 0, .int .i64 0, .int .i64 0, .int .i64 0, .int .i64 0, .int .i64 0]
instance : Inhabited Tx := ⟨⟨false, 0, 0, 0, 0, 0, 0, 0⟩⟩

/- Items in a row that is read; in a row of one's own. -/
def RowT (w : World) (a : Option Addr) (n : Nat) (g : Nat → Tx) : Prop := n = 0 ∨ ∃ b off, a = some ⟨b, off, none⟩ ∧ ∀ j, j < n → w.rangeAt b (off + j * 8) (g j).cells
def OwnT (w : World) (b n : Nat) (g : Nat → Tx) : Prop := ∀ j, j < n → w.rangeAt b (j * 8) (g j).cells ∧ w.there b (j * 8) 8
theorem RowT.later {w w1 : World} {a : Option Addr} {n : Nat} {g : Nat → Tx} (h : RowT w a n g) (hb : Below w.heap.size w w1) : RowT w1 a n g := by
  rcases h with h | ⟨b, off, e, h⟩
  · exact .inl h
  · exact .inr ⟨b, off, e, fun j hj => range_below hb (h j hj) (World.block_lt_of_cell? w _ (h j hj 0 _ rfl))⟩
theorem OwnT.later {w w1 : World} {b n : Nat} {g : Nat → Tx} (h : OwnT w b n g) (hb : Below w.heap.size w w1) : OwnT w1 b n g := fun j hj =>
  ⟨range_below hb (h j hj).1 (World.block_lt_of_cell? w _ ((h j hj).1 0 _ rfl)), there_below hb (h j hj).2 (World.block_lt_of_cell? w _ ((h j hj).1 0 _ rfl))⟩
theorem OwnT.row {w : World} {b n : Nat} {g : Nat → Tx} (h : OwnT w b n g) : RowT w (some ⟨b, 0, none⟩) n g := .inr ⟨b, 0, rfl, fun j hj => by rw [Nat.zero_add]; exact (h j hj).1⟩
theorem OwnT.but {w w1 : World} {b c n : Nat} {g : Nat → Tx} (h : OwnT w b n g) (hb : But c w w1) (hne : b ≠ c) : OwnT w1 b n g := fun j hj => by
  refine ⟨fun i v hv => ?_, fun i hi => ?_⟩
  · rw [World.cell?_of_block (w := w) (hb.block b hne)]; exact (h j hj).1 i v hv
  · rw [World.cell?_of_block (w := w) (hb.block b hne), World.frozen?_of_block (w := w) (hb.block b hne)]; exact (h j hj).2 i hi
theorem RowT.but {w w1 : World} {a : Option Addr} {c n : Nat} {g : Nat → Tx} (h : RowT w a n g) (hb : But c w w1) (hne : ∀ x, a = some x → x.block ≠ c) : RowT w1 a n g := by
  rcases h with h | ⟨b, off, e, h⟩
  · exact .inl h
  · exact .inr ⟨b, off, e, fun j hj i v hv => by rw [World.cell?_of_block (w := w) (hb.block b (hne _ e))]; exact h j hj i v hv⟩

theorem toop_any (a b c d : Int) (w : World) : Calls Try.prog 44 #[.agg #[.int .i64 a, .int .i64 b, .int .i64 c, .int .i64 d]] w fun e w' => e = .returned (.agg #[.int .i64 a, .int .i64 b, .int .i64 c, .int .i64 d]) ∧ Below w.heap.size w w' := by
  have HC : Hid (Tw w w.heap.size [.int .i64 a, .int .i64 b, .int .i64 c, .int .i64 d] (w.heap.size + 1) (w.heap.size + 1 + 1) [.int .i64 0, .int .i64 0, .int .i64 0, .int .i64 0] [] _) := Tw.start w #[.int .i64 a, .int .i64 b, .int .i64 c, .int .i64 d] #[.int .i64 0, .int .i64 0, .int .i64 0, .int .i64 0] 61 50 50
  go_enter Try.func44, Try.ntmps44
  go_wp2_with (first
    | refine tw_load HC.out rfl 3 _ rfl _ rfl _ rfl (by kernel_rfl) ?_
    | (refine tw_store HC.out rfl 3 _ _ rfl _ rfl _ rfl (Nat.le_of_ble_eq_true rfl) (by kernel_rfl) rfl ?_
       intro w' h
       simp only [List.set] at h
       replace HC : Hid _ := h
       clear h)
    | refine wpList_load_mid rfl 50 _ rfl (w.heap.size + 1 + 1) 0 rfl _ _ HC.out.c.range Try.underlying50 rfl (by kernel_rfl) ?_
    | refine wpList_store_mid rfl 50 _ _ rfl (w.heap.size + 1) 0 _ rfl rfl HC.out.t (by kernel_rfl) (by simp [Value.oneCell']) ?_)
  exact bodyPost_ret (results_cell_mid rfl _ _ (w.heap.size + 1) 0 _ _ rfl (World.rangeAt_setCells_same _ _ _ _ HC.out.t) Try.underlying50 rfl (by kernel_rfl)) rfl ⟨rfl, below_setCells HC.out.b0 HC.out.gr _ _⟩

set_option maxHeartbeats 1000000 in
theorem toitem_any (x : Tx) (w : World) : Calls Try.prog 27 #[.agg x.cells.toArray] w fun e w' => e = .returned (.agg x.cells.toArray) ∧ Below w.heap.size w w' := by
  have HC : Hid (Tw w w.heap.size x.cells (w.heap.size + 1) (w.heap.size + 1 + 1) [.bool false, .int .i64 0, .int .i64 0, .int .i64 0, .int .i64 0, .int .i64 0, .int .i64 0, .int .i64 0] [] _) := Tw.start w x.cells.toArray zT 63 59 59
  go_enter Try.func27, Try.ntmps27
  go_wp2_with (first
    | refine tw_load HC.out rfl 3 _ rfl _ rfl _ rfl (by kernel_rfl) ?_
    | refine tw_load HC.out rfl 4 _ rfl _ rfl _ rfl (by kernel_rfl) ?_
    | refine tw_loads HC.out rfl 61 _ rfl _ 4 rfl rfl _ Try.underlying61 rfl (by kernel_rfl) ?_
    | (refine tw_stores HC.out rfl 50 _ _ rfl _ rfl _ rfl (Nat.le_of_ble_eq_true rfl) (by kernel_rfl) rfl ?_
       intro w' h
       simp only [setL, List.set, Nat.reduceAdd] at h
       replace HC : Hid _ := h
       clear h)
    | (refine tw_store HC.out rfl 3 _ _ rfl _ rfl _ rfl (Nat.le_of_ble_eq_true rfl) (by kernel_rfl) rfl ?_
       intro w' h
       simp only [List.set] at h
       replace HC : Hid _ := h
       clear h)
    | (refine tw_store HC.out rfl 4 _ _ rfl _ rfl _ rfl (Nat.le_of_ble_eq_true rfl) (by kernel_rfl) rfl ?_
       intro w' h
       simp only [List.set] at h
       replace HC : Hid _ := h
       clear h)
    | refine wpList_load_mid rfl 59 _ rfl (w.heap.size + 1 + 1) 0 rfl _ _ HC.out.c.range Try.underlying59 rfl (by kernel_rfl) ?_
    | refine wpList_store_mid rfl 59 _ _ rfl (w.heap.size + 1) 0 _ rfl rfl HC.out.t (by kernel_rfl) (by simp [Value.oneCell']) ?_)
  refine (toop_any _ _ _ _ _).mono ?_
  rintro e w1 ⟨rfl, hb⟩
  replace HC : Hid _ := HC.out.later hb
  clear hb
  go_wp2_with (first
    | refine tw_load HC.out rfl 3 _ rfl _ rfl _ rfl (by kernel_rfl) ?_
    | refine tw_load HC.out rfl 4 _ rfl _ rfl _ rfl (by kernel_rfl) ?_
    | refine tw_loads HC.out rfl 61 _ rfl _ 4 rfl rfl _ Try.underlying61 rfl (by kernel_rfl) ?_
    | (refine tw_stores HC.out rfl 50 _ _ rfl _ rfl _ rfl (Nat.le_of_ble_eq_true rfl) (by kernel_rfl) rfl ?_
       intro w' h
       simp only [setL, List.set, Nat.reduceAdd] at h
       replace HC : Hid _ := h
       clear h)
    | (refine tw_store HC.out rfl 3 _ _ rfl _ rfl _ rfl (Nat.le_of_ble_eq_true rfl) (by kernel_rfl) rfl ?_
       intro w' h
       simp only [List.set] at h
       replace HC : Hid _ := h
       clear h)
    | (refine tw_store HC.out rfl 4 _ _ rfl _ rfl _ rfl (Nat.le_of_ble_eq_true rfl) (by kernel_rfl) rfl ?_
       intro w' h
       simp only [List.set] at h
       replace HC : Hid _ := h
       clear h)
    | refine wpList_load_mid rfl 59 _ rfl (w.heap.size + 1 + 1) 0 rfl _ _ HC.out.c.range Try.underlying59 rfl (by kernel_rfl) ?_
    | refine wpList_store_mid rfl 59 _ _ rfl (w.heap.size + 1) 0 _ rfl rfl HC.out.t (by kernel_rfl) (by simp [Value.oneCell']) ?_)
  exact bodyPost_ret (results_cell_mid rfl _ _ (w.heap.size + 1) 0 _ _ rfl (World.rangeAt_setCells_same _ _ _ _ HC.out.t) Try.underlying59 rfl (by kernel_rfl)) rfl ⟨rfl, below_setCells HC.out.b0 HC.out.gr _ _⟩

theorem infoItem : (Try.prog.info? 59).map (fun i => (i.zero, i.size, i.bytes)) = some (some (.agg zT), 8, 64) := by kernel_rfl

/- The first k items are copied. -/
structure Tk (w0 : World) (R n k : Nat) (g : Nat → Tx) (w : World) : Prop where
  row : ∀ j, j < k → w.rangeAt R (j * 8) (g j).cells
  th : ∀ j, j < n → w.there R (j * 8) 8
  bel : Below w0.heap.size w0 w
  lo : w0.heap.size ≤ R
  lt : R < w.heap.size

set_option maxHeartbeats 1000000 in
theorem toitems_any (a : Option Addr) (n c : Nat) (g : Nat → Tx) (w : World) (h : RowT w a n g) (hn : n ≤ 10000000) :
    Calls Try.prog 12 #[.slice a n c] w fun e w' => e = .returned (.slice (some ⟨w.heap.size, 0, none⟩) n n) ∧ OwnT w' w.heap.size n g ∧ Below w.heap.size w w' ∧ w.heap.size < w'.heap.size := by
  have hmk := fun w => run_make_rows (P := Try.prog) 36 59 zT 8 64 Try.underlying36 infoItem .i64 .i64 n (by omega) (by omega) w
  have f0 : Tk w w.heap.size n 0 g (w.alloc (.cells (madeCells zT (n * 8)) 59)) :=
    ⟨fun j hj => by omega, fun j hj => there_made w zT 8 n _ j hj, below1 w _, Nat.le_refl _, by simp⟩
  have HR : Hid (RowT w a n g) := h
  clear h
  go_enter Try.func12, Try.ntmps12
  go_wp2_with (fail)
  generalize w.alloc (.cells (madeCells zT (n * 8)) 59) = W at f0 ⊢
  clear hmk
  go_loopw [4] (fun i wr => ∃ (k : Nat), k ≤ n ∧ i = .int .i64 k ∧ Tk w w.heap.size n k g wr) (fun i _ => n - (intOf i).toNat)
  case atStart => exact ⟨0, by omega, rfl, f0⟩
  case round =>
    obtain ⟨k, hk, rfl, hf⟩ := hrel
    clear f0
    by_cases hlt : (k : Int) < n
    · rcases HR.out with h | ⟨b, off, rfl, h⟩
      · omega
      have rg := range_below hf.bel (h k (by omega)) (World.block_lt_of_cell? w _ (h k (by omega) 0 _ rfl))
      have HR1 : Hid (World.rangeAt wr b (off + k * 8) (g k).cells) := rg
      have HF : Hid (Tk w w.heap.size n k g wr) := hf
      clear h rg hf
      go_wp2_with (refine wpList_load_mid rfl 63 _ rfl b (off + k * 8) rfl (g k).cells _ HR1.out Try.underlying63 rfl (by kernel_rfl) ?_)
      refine (toitem_any (g k) wr).mono ?_
      rintro e w1 ⟨rfl, hb⟩
      have HT : Hid (w1.there w.heap.size (k * 8) 8) := there_below hb (HF.out.th k (by omega)) HF.out.lt
      have HF1 : Hid (Tk w w.heap.size n (k + 1) g (w1.setCells w.heap.size (k * 8) (g k).cells)) := by
        have H := HF.out
        refine ⟨fun j hj => ?_, fun j hj => World.there_setCells (there_below hb (H.th j hj) H.lt) _ _ _, below_setCells (H.bel.trans (hb.mono H.bel.size)) (Nat.le_refl _) _ _, Nat.le_refl _, by rw [setCells_size]; exact Nat.lt_of_lt_of_le H.lt hb.size⟩
        by_cases e : j = k
        · subst e
          exact World.rangeAt_setCells_same _ _ _ _ HT.out
        · refine World.rangeAt_setCells_apart (range_below hb (H.row j (by omega)) H.lt) _ _ _ (.inr (.inl ?_))
          rw [Tx.len]; omega
      clear hb HR1 HF
      go_wp2_with (with_reducible refine halt_at (.store 59 (.tmp 21) (.tmp 20)) rfl ?_)
      unfold Hid
      refine wpList_store_mid rfl 59 _ _ rfl w.heap.size (k * 8) (g k).cells.toArray rfl rfl HT.out (by kernel_rfl) (Tx.one _) ?_
      go_wp2_with (fail)
      go_roundw
      case rel => exact ⟨k + 1, by omega, by go_num, HF1.out⟩
      case measure => simp [intOf]; omega
    · obtain rfl : k = n := by omega
      have HF : Hid (Tk w w.heap.size k k g wr) := hf
      clear hf
      go_wp2_with (fail)
      go_ret
      exact ⟨rfl, fun j hj => ⟨HF.out.row j hj, HF.out.th j hj⟩, HF.out.bel, HF.out.lt⟩

theorem szitems_any (x : Option Addr) (n c : Nat) (l : Int) (w : World) (hn : (n : Int) ≤ maxLen) (h0 : 0 ≤ l) (h1 : l ≤ 1048576) :
    Calls Try.prog 10 #[.slice x n c, .int .i64 l] w fun e w' => e = .returned (.int .i64 (Book.szM l n)) ∧ w' = w := by
  have hm : (maxLen : Int) ≤ 9223372036854775807 := by decide
  by_cases h : l - n < 0
  all_goals
    go_enter Try.func10, Try.ntmps10
    go_wp2_with (fail)
    go_ret
    exact ⟨by simp only [Book.szM]; first | (rw [if_pos h]; rfl) | (rw [if_neg (by omega)]; rfl), rfl⟩

end Go.Proofs.Ytpfgldbmihbiiaa.Ti

import Derived.Test.YtbeamigbcfkjjaaGreatDoorM1
import Derived.Test.YtbeamigbcfkjjaaGreatDoorTw
import Derived.Test.YtbeamigbcfkjjaaGreatDoorM3
import Derived.Test.YtbeamigbcfkjjaaGreatDoorM29
import Derived.Test.YtbeamigbcfkjjaaGreatDoorM19

/- What a law rests on while it goes: structs of its own in memory: over no program. -/
namespace Go.Proofs.YtbeamigbcfkjjaaGreatDoor.Aid
open Go.ChangeShapes Go.WideShapes Go.ChangeAt Go.RowKit

structure Rw (w0 : World) (rs : List (Nat × List Value)) (w : World) : Prop where
  r : ∀ p ∈ rs, w.rangeAt p.1 0 p.2 ∧ p.1 < w.heap.size
  b : Below w0.heap.size w0 w

theorem Rw.start (w : World) : Rw w [] w := ⟨fun p hp => by simp at hp, Below.refl _ _⟩
theorem Rw.later {w0 w w1 : World} {rs : List (Nat × List Value)} (h : Rw w0 rs w) (hb : Below w.heap.size w w1) : Rw w0 rs w1 :=
  ⟨fun p hp => ⟨range_below hb (h.r p hp).1 (h.r p hp).2, Nat.lt_of_lt_of_le (h.r p hp).2 hb.size⟩, h.b.trans (hb.mono h.b.size)⟩
theorem setCells_size (b : Nat) : ∀ (vs : List Value) (o : Nat) (w : World), (w.setCells b o vs).heap.size = w.heap.size
  | [], _, _ => rfl
  | v :: r, o, w => by rw [World.setCells, setCells_size b r]; simp [World.setCell]
theorem there_new (w : World) (Z : Array Value) (t : TypeId) (n : Nat) (hn : Z.size = n) : (w.alloc (.cells Z t)).there w.heap.size 0 n := by
  subst hn; exact there_lit Z (heap1_0 _ _)
theorem Rw.put {w0 w : World} {rs : List (Nat × List Value)} (h : Rw w0 rs w) (Z C : Array Value) (t : TypeId) (hn : Z.size = C.size) : Rw w0 ((w.heap.size, C.toList) :: rs) ((w.alloc (.cells Z t)).setCells w.heap.size 0 C.toList) := by
  have hl := h.later (below1 w (.cells Z t))
  have ht := there_new w Z t C.toList.length (by rw [hn]; simp)
  have hb := below_setCells (below1 w (.cells Z t)) (Nat.le_refl _) C.toList 0
  have hs := hb.size
  have z : w.heap.size < ((w.alloc (.cells Z t)).setCells w.heap.size 0 C.toList).heap.size := by
    have : ((w.alloc (.cells Z t)).setCells w.heap.size 0 C.toList).heap.size = (w.alloc (.cells Z t)).heap.size := setCells_size _ _ _ _
    rw [this]; simp
  refine ⟨fun p hp => ?_, (h.later hb).b⟩
  rcases List.mem_cons.1 hp with rfl | hp
  · exact ⟨World.rangeAt_setCells_same _ _ _ _ ht, z⟩
  · exact (h.later hb).r p hp

end Go.Proofs.YtbeamigbcfkjjaaGreatDoor.Aid

/- Items of a tale in memory: copied. Conditions: at most 10,000,000 items. -/
namespace Go.Proofs.YtbeamigbcfkjjaaGreatDoor.Ti
open Go.ChangeShapes Go.WideShapes Go.ChangeAt Go.RowKit
open Go.Proofs.YtbeamigbcfkjjaaGreatDoor.Aid Go.Proofs.YtbeamigbcfkjjaaGreatDoor.Lst Go.Proofs.YtbeamigbcfkjjaaGreatDoor.Gs
open Go.Proofs.YtbeamigbcfkjjaaGreatDoor.Book (Ck ck_lit takeB)
set_option maxRecDepth 100000
set_option linter.unusedVariables false

structure Tx where
  cut : Bool
  guest : Int
  ok : Int
  os : Int
  oa : Int
  ob : Int
  code : Int
  val : Int
def Tx.cells (x : Tx) : List Value := [.bool x.cut, .int .i64 x.guest, .int .i64 x.ok, .int .i64 x.os, .int .i64 x.oa, .int .i64 x.ob, .int .i64 x.code, .int .i64 x.val]
theorem Tx.len (x : Tx) : x.cells.length = 8 := rfl
theorem Tx.one (x : Tx) : x.cells.toArray.all (·.oneCell') = true := by simp [Tx.cells, Value.oneCell']
def zT : Array Value := #[.bool false, .int .i64 0, .int .i64 0, .int .i64 0, .int .i64 0, .int .i64 0, .int .i64 0, .int .i64 0]
instance : Inhabited Tx := ⟨⟨false, 0, 0, 0, 0, 0, 0, 0⟩⟩

/- Items in a row that is read; in a row of one's own. -/
def RowT (w : World) (a : Option Addr) (n : Nat) (g : Nat → Tx) : Prop := n = 0 ∨ ∃ b off, a = some ⟨b, off, none⟩ ∧ ∀ j, j < n → w.rangeAt b (off + j * 8) (g j).cells
def OwnT (w : World) (b n : Nat) (g : Nat → Tx) : Prop := ∀ j, j < n → w.rangeAt b (j * 8) (g j).cells ∧ w.there b (j * 8) 8
theorem RowT.later {w w1 : World} {a : Option Addr} {n : Nat} {g : Nat → Tx} (h : RowT w a n g) (hb : Below w.heap.size w w1) : RowT w1 a n g := by
  rcases h with h | ⟨b, off, e, h⟩
  · exact .inl h
  · exact .inr ⟨b, off, e, fun j hj => range_below hb (h j hj) (World.block_lt_of_cell? w _ (h j hj 0 _ rfl))⟩
theorem OwnT.later {w w1 : World} {b n : Nat} {g : Nat → Tx} (h : OwnT w b n g) (hb : Below w.heap.size w w1) : OwnT w1 b n g := fun j hj =>
  ⟨range_below hb (h j hj).1 (World.block_lt_of_cell? w _ ((h j hj).1 0 _ rfl)), there_below hb (h j hj).2 (World.block_lt_of_cell? w _ ((h j hj).1 0 _ rfl))⟩
theorem OwnT.row {w : World} {b n : Nat} {g : Nat → Tx} (h : OwnT w b n g) : RowT w (some ⟨b, 0, none⟩) n g := .inr ⟨b, 0, rfl, fun j hj => by rw [Nat.zero_add]; exact (h j hj).1⟩
theorem OwnT.but {w w1 : World} {b c n : Nat} {g : Nat → Tx} (h : OwnT w b n g) (hb : But c w w1) (hne : b ≠ c) : OwnT w1 b n g := fun j hj => by
  refine ⟨fun i v hv => ?_, fun i hi => ?_⟩
  · rw [World.cell?_of_block (w := w) (hb.block b hne)]; exact (h j hj).1 i v hv
  · rw [World.cell?_of_block (w := w) (hb.block b hne), World.frozen?_of_block (w := w) (hb.block b hne)]; exact (h j hj).2 i hi
theorem RowT.but {w w1 : World} {a : Option Addr} {c n : Nat} {g : Nat → Tx} (h : RowT w a n g) (hb : But c w w1) (hne : ∀ x, a = some x → x.block ≠ c) : RowT w1 a n g := by
  rcases h with h | ⟨b, off, e, h⟩
  · exact .inl h
  · exact .inr ⟨b, off, e, fun j hj i v hv => by rw [World.cell?_of_block (w := w) (hb.block b (hne _ e))]; exact h j hj i v hv⟩

theorem toop_any (a b c d : Int) (w : World) : Calls Tryz.prog 38 #[.agg #[.int .i64 a, .int .i64 b, .int .i64 c, .int .i64 d]] w fun e w' => e = .returned (.agg #[.int .i64 a, .int .i64 b, .int .i64 c, .int .i64 d]) ∧ Below w.heap.size w w' := by
  have HC : Hid (Tw w w.heap.size [.int .i64 a, .int .i64 b, .int .i64 c, .int .i64 d] (w.heap.size + 1) (w.heap.size + 1 + 1) [.int .i64 0, .int .i64 0, .int .i64 0, .int .i64 0] [] _) := Tw.start w #[.int .i64 a, .int .i64 b, .int .i64 c, .int .i64 d] #[.int .i64 0, .int .i64 0, .int .i64 0, .int .i64 0] 54 45 45
  go_enter Tryz.func38, Tryz.ntmps38
  go_wp2_with (first
    | refine tw_load HC.out rfl 3 _ rfl _ rfl _ rfl (by kernel_rfl) ?_
    | (refine tw_store HC.out rfl 3 _ _ rfl _ rfl _ rfl (Nat.le_of_ble_eq_true rfl) (by kernel_rfl) rfl ?_
       intro w' h
       simp only [List.set] at h
       replace HC : Hid _ := h
       clear h)
    | refine wpList_load_mid rfl 45 _ rfl (w.heap.size + 1 + 1) 0 rfl _ _ HC.out.c.range Tryz.underlying45 rfl (by kernel_rfl) ?_
    | refine wpList_store_mid rfl 45 _ _ rfl (w.heap.size + 1) 0 _ rfl rfl HC.out.t (by kernel_rfl) (by simp [Value.oneCell']) ?_)
  exact bodyPost_ret (results_cell_mid rfl _ _ (w.heap.size + 1) 0 _ _ rfl (World.rangeAt_setCells_same _ _ _ _ HC.out.t) Tryz.underlying45 rfl (by kernel_rfl)) rfl ⟨rfl, below_setCells HC.out.b0 HC.out.gr _ _⟩

set_option maxHeartbeats 1000000 in
theorem toitem_any (x : Tx) (w : World) : Calls Tryz.prog 23 #[.agg x.cells.toArray] w fun e w' => e = .returned (.agg x.cells.toArray) ∧ Below w.heap.size w w' := by
  have HC : Hid (Tw w w.heap.size x.cells (w.heap.size + 1) (w.heap.size + 1 + 1) [.bool false, .int .i64 0, .int .i64 0, .int .i64 0, .int .i64 0, .int .i64 0, .int .i64 0, .int .i64 0] [] _) := Tw.start w x.cells.toArray zT 56 47 47
  go_enter Tryz.func23, Tryz.ntmps23
  go_wp2_with (first
    | refine tw_load HC.out rfl 3 _ rfl _ rfl _ rfl (by kernel_rfl) ?_
    | refine tw_load HC.out rfl 4 _ rfl _ rfl _ rfl (by kernel_rfl) ?_
    | refine tw_loads HC.out rfl 54 _ rfl _ 4 rfl rfl _ Tryz.underlying54 rfl (by kernel_rfl) ?_
    | (refine tw_stores HC.out rfl 45 _ _ rfl _ rfl _ rfl (Nat.le_of_ble_eq_true rfl) (by kernel_rfl) rfl ?_
       intro w' h
       simp only [setL, List.set, Nat.reduceAdd] at h
       replace HC : Hid _ := h
       clear h)
    | (refine tw_store HC.out rfl 3 _ _ rfl _ rfl _ rfl (Nat.le_of_ble_eq_true rfl) (by kernel_rfl) rfl ?_
       intro w' h
       simp only [List.set] at h
       replace HC : Hid _ := h
       clear h)
    | (refine tw_store HC.out rfl 4 _ _ rfl _ rfl _ rfl (Nat.le_of_ble_eq_true rfl) (by kernel_rfl) rfl ?_
       intro w' h
       simp only [List.set] at h
       replace HC : Hid _ := h
       clear h)
    | refine wpList_load_mid rfl 47 _ rfl (w.heap.size + 1 + 1) 0 rfl _ _ HC.out.c.range Tryz.underlying47 rfl (by kernel_rfl) ?_
    | refine wpList_store_mid rfl 47 _ _ rfl (w.heap.size + 1) 0 _ rfl rfl HC.out.t (by kernel_rfl) (by simp [Value.oneCell']) ?_)
  refine (toop_any _ _ _ _ _).mono ?_
  rintro e w1 ⟨rfl, hb⟩
  replace HC : Hid _ := HC.out.later hb
  clear hb
  go_wp2_with (first
    | refine tw_load HC.out rfl 3 _ rfl _ rfl _ rfl (by kernel_rfl) ?_
    | refine tw_load HC.out rfl 4 _ rfl _ rfl _ rfl (by kernel_rfl) ?_
    | refine tw_loads HC.out rfl 54 _ rfl _ 4 rfl rfl _ Tryz.underlying54 rfl (by kernel_rfl) ?_
    | (refine tw_stores HC.out rfl 45 _ _ rfl _ rfl _ rfl (Nat.le_of_ble_eq_true rfl) (by kernel_rfl) rfl ?_
       intro w' h
       simp only [setL, List.set, Nat.reduceAdd] at h
       replace HC : Hid _ := h
       clear h)
    | (refine tw_store HC.out rfl 3 _ _ rfl _ rfl _ rfl (Nat.le_of_ble_eq_true rfl) (by kernel_rfl) rfl ?_
       intro w' h
       simp only [List.set] at h
       replace HC : Hid _ := h
       clear h)
    | (refine tw_store HC.out rfl 4 _ _ rfl _ rfl _ rfl (Nat.le_of_ble_eq_true rfl) (by kernel_rfl) rfl ?_
       intro w' h
       simp only [List.set] at h
       replace HC : Hid _ := h
       clear h)
    | refine wpList_load_mid rfl 47 _ rfl (w.heap.size + 1 + 1) 0 rfl _ _ HC.out.c.range Tryz.underlying47 rfl (by kernel_rfl) ?_
    | refine wpList_store_mid rfl 47 _ _ rfl (w.heap.size + 1) 0 _ rfl rfl HC.out.t (by kernel_rfl) (by simp [Value.oneCell']) ?_)
  exact bodyPost_ret (results_cell_mid rfl _ _ (w.heap.size + 1) 0 _ _ rfl (World.rangeAt_setCells_same _ _ _ _ HC.out.t) Tryz.underlying47 rfl (by kernel_rfl)) rfl ⟨rfl, below_setCells HC.out.b0 HC.out.gr _ _⟩

theorem infoItem : (Tryz.prog.info? 47).map (fun i => (i.zero, i.size, i.bytes)) = some (some (.agg zT), 8, 64) := by kernel_rfl

/- The first k items are copied. -/
structure Tk (w0 : World) (R n k : Nat) (g : Nat → Tx) (w : World) : Prop where
  row : ∀ j, j < k → w.rangeAt R (j * 8) (g j).cells
  th : ∀ j, j < n → w.there R (j * 8) 8
  bel : Below w0.heap.size w0 w
  lo : w0.heap.size ≤ R
  lt : R < w.heap.size

set_option maxHeartbeats 1000000 in
theorem toitems_any (a : Option Addr) (n c : Nat) (g : Nat → Tx) (w : World) (h : RowT w a n g) (hn : n ≤ 10000000) :
    Calls Tryz.prog 8 #[.slice a n c] w fun e w' => e = .returned (.slice (some ⟨w.heap.size, 0, none⟩) n n) ∧ OwnT w' w.heap.size n g ∧ Below w.heap.size w w' ∧ w.heap.size < w'.heap.size := by
  have hmk := fun w => run_make_rows (P := Tryz.prog) 33 47 zT 8 64 Tryz.underlying33 infoItem .i64 .i64 n (by omega) (by omega) w
  have f0 : Tk w w.heap.size n 0 g (w.alloc (.cells (madeCells zT (n * 8)) 47)) :=
    ⟨fun j hj => by omega, fun j hj => there_made w zT 8 n _ j hj, below1 w _, Nat.le_refl _, by simp⟩
  have HR : Hid (RowT w a n g) := h
  clear h
  go_enter Tryz.func8, Tryz.ntmps8
  go_wp2_with (fail)
  generalize w.alloc (.cells (madeCells zT (n * 8)) 47) = W at f0 ⊢
  clear hmk
  go_loopw [4] (fun i wr => ∃ (k : Nat), k ≤ n ∧ i = .int .i64 k ∧ Tk w w.heap.size n k g wr) (fun i _ => n - (intOf i).toNat)
  case atStart => exact ⟨0, by omega, rfl, f0⟩
  case round =>
    obtain ⟨k, hk, rfl, hf⟩ := hrel
    clear f0
    by_cases hlt : (k : Int) < n
    · rcases HR.out with h | ⟨b, off, rfl, h⟩
      · omega
      have rg := range_below hf.bel (h k (by omega)) (World.block_lt_of_cell? w _ (h k (by omega) 0 _ rfl))
      have HR1 : Hid (World.rangeAt wr b (off + k * 8) (g k).cells) := rg
      have HF : Hid (Tk w w.heap.size n k g wr) := hf
      clear h rg hf
      go_wp2_with (refine wpList_load_mid rfl 56 _ rfl b (off + k * 8) rfl (g k).cells _ HR1.out Tryz.underlying56 rfl (by kernel_rfl) ?_)
      refine (toitem_any (g k) wr).mono ?_
      rintro e w1 ⟨rfl, hb⟩
      have HT : Hid (w1.there w.heap.size (k * 8) 8) := there_below hb (HF.out.th k (by omega)) HF.out.lt
      have HF1 : Hid (Tk w w.heap.size n (k + 1) g (w1.setCells w.heap.size (k * 8) (g k).cells)) := by
        have H := HF.out
        refine ⟨fun j hj => ?_, fun j hj => World.there_setCells (there_below hb (H.th j hj) H.lt) _ _ _, below_setCells (H.bel.trans (hb.mono H.bel.size)) (Nat.le_refl _) _ _, Nat.le_refl _, by rw [setCells_size]; exact Nat.lt_of_lt_of_le H.lt hb.size⟩
        by_cases e : j = k
        · subst e
          exact World.rangeAt_setCells_same _ _ _ _ HT.out
        · refine World.rangeAt_setCells_apart (range_below hb (H.row j (by omega)) H.lt) _ _ _ (.inr (.inl ?_))
          rw [Tx.len]; omega
      clear hb HR1 HF
      go_wp2_with (with_reducible refine halt_at (.store 47 (.tmp 21) (.tmp 20)) rfl ?_)
      unfold Hid
      refine wpList_store_mid rfl 47 _ _ rfl w.heap.size (k * 8) (g k).cells.toArray rfl rfl HT.out (by kernel_rfl) (Tx.one _) ?_
      go_wp2_with (fail)
      go_roundw
      case rel => exact ⟨k + 1, by omega, by go_num, HF1.out⟩
      case measure => simp [intOf]; omega
    · obtain rfl : k = n := by omega
      have HF : Hid (Tk w w.heap.size k k g wr) := hf
      clear hf
      go_wp2_with (fail)
      go_ret
      exact ⟨rfl, fun j hj => ⟨HF.out.row j hj, HF.out.th j hj⟩, HF.out.bel, HF.out.lt⟩

theorem szitems_any (x : Option Addr) (n c : Nat) (l : Int) (w : World) (hn : (n : Int) ≤ maxLen) (h0 : 0 ≤ l) (h1 : l ≤ 1048576) :
    Calls Tryz.prog 5 #[.slice x n c, .int .i64 l] w fun e w' => e = .returned (.int .i64 (Book.szM l n)) ∧ w' = w := by
  have hm : (maxLen : Int) ≤ 9223372036854775807 := by decide
  by_cases h : l - n < 0
  all_goals
    go_enter Tryz.func5, Tryz.ntmps5
    go_wp2_with (fail)
    go_ret
    exact ⟨by simp only [Book.szM]; first | (rw [if_pos h]; rfl) | (rw [if_neg (by omega)]; rfl), rfl⟩

end Go.Proofs.YtbeamigbcfkjjaaGreatDoor.Ti

/- What the law of BookDo rests on. -/
namespace Go.Proofs.YtbeamigbcfkjjaaGreatDoor.Dra
open Go.ChangeShapes Go.WideShapes Go.ChangeAt Go.RowKit
open Go.Proofs.YtbeamigbcfkjjaaGreatDoor.Aid Go.Proofs.YtbeamigbcfkjjaaGreatDoor.Lst Go.Proofs.YtbeamigbcfkjjaaGreatDoor.Book Go.Proofs.YtbeamigbcfkjjaaGreatDoor.Rin
set_option maxRecDepth 100000
set_option linter.unusedVariables false
open Go.Proofs.YtbeamigbcfkjjaaGreatDoor.Gs

theorem tobop_any (o : Ox) (w : World) : Calls Tryz.prog 38 #[.agg o.cells.toArray] w fun e w' => e = .returned (.agg o.cells.toArray) ∧ Below w.heap.size w w' := by
  obtain ⟨a, b, c, d⟩ := o
  simp only [Ox.cells]
  have HC : Hid (Tw w w.heap.size [.int .i64 a, .int .i64 b, .int .i64 c, .int .i64 d] (w.heap.size + 1) (w.heap.size + 1 + 1) [.int .i64 0, .int .i64 0, .int .i64 0, .int .i64 0] [] _) := Tw.start w #[.int .i64 a, .int .i64 b, .int .i64 c, .int .i64 d] #[.int .i64 0, .int .i64 0, .int .i64 0, .int .i64 0] 54 45 45
  go_enter Tryz.func38, Tryz.ntmps38
  go_wp2_with (first
    | refine tw_load HC.out rfl 3 _ rfl _ rfl _ rfl (by kernel_rfl) ?_
    | (refine tw_store HC.out rfl 3 _ _ rfl _ rfl _ rfl (Nat.le_of_ble_eq_true rfl) (by kernel_rfl) rfl ?_
       intro w' h
       simp only [List.set] at h
       replace HC : Hid _ := h
       clear h)
    | refine wpList_load_mid rfl 45 _ rfl (w.heap.size + 1 + 1) 0 rfl _ _ HC.out.c.range Tryz.underlying45 rfl (by kernel_rfl) ?_
    | refine wpList_store_mid rfl 45 _ _ rfl (w.heap.size + 1) 0 _ rfl rfl HC.out.t (by kernel_rfl) (by simp [Value.oneCell']) ?_)
  exact bodyPost_ret (results_cell_mid rfl _ _ (w.heap.size + 1) 0 _ _ rfl (World.rangeAt_setCells_same _ _ _ _ HC.out.t) Tryz.underlying45 rfl (by kernel_rfl)) rfl ⟨rfl, below_setCells HC.out.b0 HC.out.gr _ _⟩

theorem at_nil {b : Bx} {w : World} (h : b.At w) : ∀ x ∈ b.lists, x.a = none → x.n = 0 := fun x hx e => by
  rcases h x hx with q | ⟨k, o, e', _⟩
  · exact q
  · rw [e] at e'; cases e'
theorem trim_at {b : Bx} {w : World} (h : b.At w) : b.trim.At w := fun x hx => by
  simp only [Bx.trim, Bx.lists, List.mem_cons, List.not_mem_nil, or_false] at hx
  have key : ∀ z : Sx, z.At w → z.trim.At w := fun z hz => by
    rcases hz with q | ⟨k, o, e, g⟩
    · exact .inl q
    · refine .inr ⟨k, o, e, fun j hj => ?_⟩
      show _ = some (Value.int .i64 (if j < z.n then z.f j else 0))
      have hj' : j < z.n := hj
      rw [if_pos hj']
      exact g j hj'
  rcases hx with rfl | rfl | rfl | rfl | rfl | rfl | rfl | rfl
  all_goals exact key _ (h _ (by simp [Bx.lists]))
theorem eqt_any (x y : Bx) (w : World) (hx : x.At w) (hy : y.At w) (e : x.trim.m = y.trim.m) (hn : x.total ≤ 1000000000) :
    Calls Tryz.prog 10 #[.agg x.cells.toArray, .agg y.cells.toArray] w fun e w' => e = .returned (.bool true) ∧ Below w.heap.size w w' := Book.eq_any x.trim y.trim w (trim_at hx) (trim_at hy) e hn
theorem sbq_m {b c d : Bx} {o : Ox} {x y : Int} (e : c.m = b.m) (h : SbQ c o d x y) : SbQ b o d x y := by
  rcases h with ⟨n, h⟩ | ⟨k, d0, e0, h⟩
  · exact .inl ⟨fun q => n ((ok_m e).2 q), h⟩
  · exact .inr ⟨(ok_m e).1 k, d0, e0.trans e, h⟩
theorem bdq_sb {b c g d : Bx} {o : Ox} {x y x' y' : Int} (e : c.m = b.m) (h : BdQ c o g x y) (hs : SbQ b o d x' y') : g.trim.m = d.trim.m ∧ x = x' ∧ y = y' := met_all h (sbq_m e.symm hs)
theorem sbq_total {b d : Bx} {o : Ox} {x y : Int} (h : SbQ b o d x y) : d.total ≤ 1000 := by
  rcases h with ⟨_, e, _⟩ | ⟨k, d0, e0, h⟩
  · simp only [noneM, none1, Bx.m, Bm.mk.injEq, Sx.m, Prod.mk.injEq] at e
    obtain ⟨_, ⟨h1, _⟩, ⟨h2, _⟩, ⟨h3, _⟩, ⟨h4, _⟩, ⟨h5, _⟩, ⟨h6, _⟩, ⟨h7, _⟩, ⟨h8, _⟩⟩ := e
    simp only [Bx.total]
    omega
  · exact ok_total (Book.do_ok ((ok_m e0).2 k) h)
theorem trim_total {g d : Bx} (e : g.trim.m = d.trim.m) : g.total = d.total := Book.total_m (x := g.trim) (y := d.trim) e

structure Sb (w v : World) (rs : List (Nat × List Value)) (bs : List Bx) (W : World) : Prop where
  st : St w rs bs W
  be : Below v.heap.size v W
theorem Sb.r {w v W : World} {rs : List (Nat × List Value)} {bs : List Bx} (h : Sb w v rs bs W) : ∀ p ∈ rs, W.rangeAt p.1 0 p.2 ∧ p.1 < W.heap.size := h.st.r
theorem Sb.a {w v W : World} {rs : List (Nat × List Value)} {bs : List Bx} (h : Sb w v rs bs W) : ∀ b ∈ bs, b.At W := h.st.a
theorem Sb.b {w v W : World} {rs : List (Nat × List Value)} {bs : List Bx} (h : Sb w v rs bs W) : Below w.heap.size w W := h.st.b
theorem Sb.later {w v W W1 : World} {rs : List (Nat × List Value)} {bs : List Bx} (h : Sb w v rs bs W) (hb : Below W.heap.size W W1) : Sb w v rs bs W1 := ⟨h.st.later hb, h.be.trans (hb.mono h.be.size)⟩
theorem Sb.drew {w v W : World} {rs : List (Nat × List Value)} {bs : List Bx} (h : Sb w v rs bs W) : Sb w v rs bs W.drew := h.later ⟨rfl, rfl, rfl, Nat.le_refl _, fun _ _ => rfl⟩
theorem Sb.refl {w v : World} {rs : List (Nat × List Value)} {bs : List Bx} (h : St w rs bs v) : Sb w v rs bs v := ⟨h, Below.refl _ _⟩
theorem Sb.only {w v W W1 : World} {rs rs0 : List (Nat × List Value)} {bs : List Bx} {B C : Nat} (h0 : St w rs0 bs v) (h : Sb w v rs bs W) (ho : Only B C W W1) (hB : v.heap.size ≤ B) (hr : ∀ p ∈ rs, p.1 < B ∨ C ≤ p.1) : Sb w v rs bs W1 :=
  have be : Below v.heap.size v W1 := ⟨ho.os.trans h.be.os, ho.tape.trans h.be.tape, ho.output.trans h.be.output, Nat.le_trans h.be.size ho.size, fun k hk => by rw [ho.block k (Nat.lt_of_lt_of_le hk h.be.size) (.inl (by omega)), h.be.block k hk]⟩
  ⟨⟨fun p hp => ⟨fun j x hx => by rw [ho.cell (h.r p hp).2 (hr p hp)]; exact (h.r p hp).1 j x hx, Nat.lt_of_lt_of_le (h.r p hp).2 ho.size⟩, fun b hb => (h0.a b hb).later be, h0.b.trans (be.mono h0.b.size)⟩, be⟩
theorem Sb.stored {w v W : World} {rs : List (Nat × List Value)} {bs : List Bx} {r : Nat} {cs : List Value} (h0 : St w rs bs v) (h : Sb w v rs bs W) (hr : v.heap.size ≤ r) (hz : r < W.heap.size) (th : W.there r 0 cs.length) : Sb w v rs bs (W.setCells r 0 cs) ∧ Sb w v ((r, cs) :: rs) bs (W.setCells r 0 cs) ∧ Only r (r + 1) W (W.setCells r 0 cs) := by
  have OY : Only r (r + 1) W (W.setCells r 0 cs) := only_setCells (Nat.le_refl _) (by omega) _ _ _ (Only.refl _ _ _)
  have g := Sb.only h0 h OY hr (fun p hp => .inl (Nat.lt_of_lt_of_le (h0.r p hp).2 hr))
  refine ⟨g, ⟨⟨fun p hp => ?_, g.st.a, g.st.b⟩, g.be⟩, OY⟩
  rcases List.mem_cons.1 hp with rfl | hp
  · exact ⟨World.rangeAt_setCells_same _ _ _ _ th, Nat.lt_of_lt_of_le hz OY.size⟩
  · exact g.st.r p hp
theorem Sb.base {w v v' W : World} {rs : List (Nat × List Value)} {bs bs' : List Bx} (h : Sb w v' rs bs' W) (hv : Below v.heap.size v v') (hs : v.heap.size ≤ v'.heap.size) (hb : ∀ b ∈ bs, b ∈ bs') : Sb w v rs bs W := ⟨h.st.take (fun _ q => q) hb, hv.trans (h.be.mono hs)⟩
theorem hl_off {d : Bx} {B r : Nat} {W W1 : World} (h : d.Hl B W) (OY : Only r (r + 1) W W1) (hn : ∀ i, d.Lies i → i ≠ r) : d.Hl B W1 := ⟨fun z hz => (h.each z hz).same OY.size (fun k o hc e => by
  have h1 := hn k ⟨z, hz, hc, o, e⟩
  exact OY.block k (h.lies ⟨z, hz, hc, o, e⟩).2 (by omega)), h.apart⟩
structure F5 (w : World) (rs : List (Nat × List Value)) (b0 : Bx) (o : Ox) (d : Bx) (x y : Int) (r : Nat) (W : World) : Prop where
  q : SbQ b0 o d x y
  s : St w ((r, d.cells) :: rs) [d, b0] W
  g : w.heap.size + 2 ≤ r
structure F7 (w v : World) (rs : List (Nat × List Value)) (bs : List Bx) (b0 : Bx) (o : Ox) (c g : Bx) (B C : Nat) (x y : Int) (r : Nat) (W : World) : Prop where
  m : c.m = b0.m
  q : BdQ c o g x y
  s : Sb w v ((r, g.cells) :: rs) bs W
  g : g.Own B C W
  vB : v.heap.size ≤ B
  BC : B ≤ C
  CW : C ≤ W.heap.size
  rr : r < B ∨ C ≤ r
  vr : v.heap.size ≤ r
theorem load_want {Pr : Program} {ops : Array Oper} {rest : List Oper} {op : Oper} {a : Act} {w : World} {Q : Exit → Act → World → Prop} (hw : Region.wanted op (yielded ops a.tmps) = true) (ty : TypeId) (x : Operand) (ho : op.op = .load ty x)
    (b o : Nat) (hx : a.eval x = .pointer (some ⟨b, o, none⟩)) (cs : List Value) (d : TypeDesc) (hc : w.rangeAt b o cs)
    (hu : Pr.underlying ty = some d) (hd : d.isRow = true) (hi : (Pr.info? ty).map (·.size) = some cs.length)
    (h : wpList Pr ops Q rest (a.put op.dst (.agg cs.toArray)) w) : wpList Pr ops Q (op :: rest) a w :=
  BigFrame.wpList_want hw fun _ hK => wp_load_mid ty x ho b o hx cs d hc hu hd hi (hK _ _ h)
theorem via5 {P : Program} {K : Code} {Q : Exit → Act → World → Prop} {a : Act} {w : World} (F : Bx → Bx → Int → Int → Nat → World → Prop) (act : Bx → Bx → Int → Int → Nat → Act) (leaves : (∀ c d x y r w', F c d x y r w' → Q .normal (act c d x y r) w') → K.wp P Q a w) (tail : ∀ c d x y r w', F c d x y r w' → Q .normal (act c d x y r) w') : K.wp P Q a w := leaves tail
theorem via6 {P : Program} {K : Code} {Q : Exit → Act → World → Prop} {a : Act} {w : World} (F : Bx → Nat → Nat → Int → Int → Nat → World → Prop) (act : Bx → Int → Int → Nat → Act) (leaves : (∀ d B C x y r w', F d B C x y r w' → Q .normal (act d x y r) w') → K.wp P Q a w) (tail : ∀ d B C x y r w', F d B C x y r w' → Q .normal (act d x y r) w') : K.wp P Q a w := leaves tail
theorem via7 {P : Program} {K : Code} {Q : Exit → Act → World → Prop} {a : Act} {w : World} (F : Bx → Bx → Nat → Nat → Int → Int → Nat → World → Prop) (act : Bx → Bx → Int → Int → Nat → Act) (leaves : (∀ c d B C x y r w', F c d B C x y r w' → Q .normal (act c d x y r) w') → K.wp P Q a w) (tail : ∀ c d B C x y r w', F c d B C x y r w' → Q .normal (act c d x y r) w') : K.wp P Q a w := leaves tail
end Go.Proofs.YtbeamigbcfkjjaaGreatDoor.Dra

/- What a tale says of a book, of both: over no program. -/
namespace Go.Proofs.YtbeamigbcfkjjaaGreatDoor.Dra
open Go.ChangeShapes Go.WideShapes Go.ChangeAt Go.RowKit
open Go.Proofs.YtbeamigbcfkjjaaGreatDoor.Aid Go.Proofs.YtbeamigbcfkjjaaGreatDoor.Lst Go.Proofs.YtbeamigbcfkjjaaGreatDoor.Book
set_option maxRecDepth 100000
set_option linter.unusedVariables false

/- Who is cut off leaves a book that is ok. -/
theorem cut_ok {b c : Bx} {t : Int} (h : OkP b) (e : c.m = cutM b.m t) : OkP c := by
  by_cases ht : 0 ≤ t ∧ t < b.s
  · obtain ⟨k, rfl⟩ : ∃ k : Nat, t = k := ⟨t.toNat, by omega⟩
    have ht' : (0 : Int) ≤ (k : Int) ∧ (k : Int) < b.m.s := ht
    by_cases hi : b.i.f k = 1
    · have q : c.m = (b.ine k 2 (b.e.f k)).m := by
        rw [e]
        unfold cutM
        rw [if_pos ht']
        simp only [Bx.ine, Bx.m, Sx.m, Sx.put, Bm.mk.injEq, Prod.mk.injEq, true_and]
        refine ⟨?_, ?_⟩
        · funext j
          unfold cutF upd
          by_cases hj : j = k
          · subst hj
            simp [hi]
          · have : ¬ (j : Int) = (k : Int) := by omega
            simp [hj, this]
        · funext j
          unfold upd
          split
          · rename_i hj; rw [hj]
          · rfl
      have l3 := h.1.1.2.2.1
      have u := h.1.2.1 k (by omega)
      unfold InU at u
      obtain ⟨u1, u2, u3, u4, u5⟩ := u
      exact (ok_m q).2 (keep_in h k 2 _ (by omega) (by omega) u3 u4 (fun z => by have := u5 z; omega) (fun z => by omega))
    · have q : c.m = b.m := by
        rw [e]
        unfold cutM
        rw [if_pos ht']
        have z : cutF b.m.i.2 k = b.m.i.2 := by
          funext j
          unfold cutF
          by_cases hj : (j : Int) = (k : Int)
          · have : j = k := by omega
            subst this
            have hi' : ¬ b.m.i.2 j = 1 := hi
            simp [hi']
          · simp [hj]
        rw [z]
      exact (ok_m q).2 h
  · have q : c.m = b.m := by
      rw [e]
      unfold cutM
      have ht' : ¬ ((0 : Int) ≤ t ∧ t < b.m.s) := ht
      rw [if_neg ht']
    exact (ok_m q).2 h

def opOf (i : Ti.Tx) : Ox := ⟨i.ok, i.os, i.oa, i.ob⟩
/- One thing that has happened: the book behind it, and whether the book says the same. -/
def StpP (b : Bx) (i : Ti.Tx) (c : Bx) (r : Bool) : Prop := (i.cut = true ∧ CutQ b.trim i.os c.m ∧ r = true) ∨ (i.cut = false ∧ ∃ x y, BdQ b.trim (opOf i) c x y ∧ r = (decide (x = i.code) && decide (y = i.val)))
def StpS (b : Bx) (i : Ti.Tx) (c : Bx) (r : Bool) : Prop := (i.cut = true ∧ CutQ b.trim i.os c.m ∧ r = true) ∨ (i.cut = false ∧ ∃ x y, DoP b.trim (opOf i) c x y ∧ r = (decide (x = i.code) && decide (y = i.val)))
theorem trim_trim {b c : Bx} (e : b.m = c.m) : b.trim.m = c.trim.m := by
  simp only [Bx.m, Bm.mk.injEq, Sx.m, Prod.mk.injEq] at e
  obtain ⟨a0, ⟨a1, a2⟩, ⟨a3, a4⟩, ⟨a5, a6⟩, ⟨a7, a8⟩, ⟨a9, a10⟩, ⟨a11, a12⟩, ⟨a13, a14⟩, ⟨a15, a16⟩⟩ := e
  simp only [Bx.trim, Sx.trim, Bx.m, Sx.m, a0, a1, a2, a3, a4, a5, a6, a7, a8, a9, a10, a11, a12, a13, a14, a15, a16]
theorem stp_met {b d c e : Bx} {i : Ti.Tx} {r r' : Bool} (hd : OkP d) (h : b.trim.m = d.trim.m) (h1 : StpP b i c r) (h2 : StpS d i e r') : c.trim.m = e.trim.m ∧ r = r' ∧ OkP e := by
  have kd := ok_trim hd
  rcases h1 with ⟨a1, q1, rfl⟩ | ⟨a1, x, y, q1, rfl⟩
  · rcases h2 with ⟨a2, q2, rfl⟩ | ⟨a2, _⟩
    · have q3 := (cutq_m h i.os c.m).1 q1
      have q4 := cutq_one q3 q2
      refine ⟨trim_trim q4, rfl, ?_⟩
      rcases q2 with ⟨_, q2⟩ | ⟨n, _⟩
      · exact cut_ok kd q2
      · exact absurd kd n
    · rw [a1] at a2; cases a2
  · rcases h2 with ⟨a2, _⟩ | ⟨a2, x', y', q2, rfl⟩
    · rw [a1] at a2; cases a2
    · obtain ⟨g1, rfl, rfl⟩ := bdq_sb h q1 (.inr ⟨kd, d.trim, rfl, q2⟩)
      exact ⟨g1, rfl, Book.do_ok kd q2⟩

/- What has happened up to a place. -/
inductive RunP (g : Nat → Ti.Tx) (b : Bx) : Nat → Bx → Bool → Prop
  | zero (c : Bx) : c.m = b.m → RunP g b 0 c true
  | step {n : Nat} {c c' : Bx} {r r' : Bool} : RunP g b n c r → StpP c (g n) c' r' → RunP g b (n + 1) c' (r && r')
inductive RunS (g : Nat → Ti.Tx) (b : Bx) : Nat → Bx → Bool → Prop
  | zero (c : Bx) : c.m = b.m → RunS g b 0 c true
  | step {n : Nat} {c c' : Bx} {r r' : Bool} : RunS g b n c r → StpS c (g n) c' r' → RunS g b (n + 1) c' (r && r')
theorem run_met {g : Nat → Ti.Tx} {b d : Bx} (hb : b.m = d.m) (hd : OkP d) : ∀ {n : Nat} {c e : Bx} {r r' : Bool}, RunP g b n c r → RunS g d n e r' → c.trim.m = e.trim.m ∧ r = r' ∧ OkP e := by
  intro n
  induction n with
  | zero =>
    intro c e r r' h1 h2
    cases h1 with
    | zero c k1 =>
      cases h2 with
      | zero e k2 => exact ⟨trim_trim (k1.trans (hb.trans k2.symm)), rfl, (ok_m k2).2 hd⟩
  | succ n ih =>
    intro c e r r' h1 h2
    cases h1 with
    | step p1 s1 =>
      cases h2 with
      | step p2 s2 =>
        obtain ⟨q1, q2, q3⟩ := ih p1 p2
        obtain ⟨t1, t2, t3⟩ := stp_met q3 q1 s1 s2
        exact ⟨t1, by rw [q2, t2], t3⟩
def TbP (b : Bx) (n : Nat) (g : Nat → Ti.Tx) (c : Bx) (r : Bool) : Prop := (¬ (OkP b ∧ n ≤ 2000) ∧ c.m = noneM ∧ r = false) ∨ ((OkP b ∧ n ≤ 2000) ∧ RunP g b n c r)
def TbS (b : Bx) (n : Nat) (g : Nat → Ti.Tx) (c : Bx) (r : Bool) : Prop := (¬ (OkP b ∧ n ≤ 2000) ∧ c.m = noneM ∧ r = false) ∨ ((OkP b ∧ n ≤ 2000) ∧ RunS g b n c r)
theorem tb_met {b d c e : Bx} {n : Nat} {g : Nat → Ti.Tx} {r r' : Bool} (hb : b.m = d.m) (h1 : TbP b n g c r) (h2 : TbS d n g e r') : c.trim.m = e.trim.m ∧ r = r' := by
  have hk := ok_m hb
  rcases h1 with ⟨n1, q1, rfl⟩ | ⟨⟨k1, l1⟩, q1⟩
  · rcases h2 with ⟨n2, q2, rfl⟩ | ⟨⟨k2, l2⟩, q2⟩
    · exact ⟨trim_trim (q1.trans q2.symm), rfl⟩
    · exact absurd ⟨hk.2 k2, l2⟩ n1
  · rcases h2 with ⟨n2, q2, rfl⟩ | ⟨⟨k2, l2⟩, q2⟩
    · exact absurd ⟨hk.1 k1, l1⟩ n2
    · obtain ⟨t1, t2, _⟩ := run_met hb k2 q1 q2
      exact ⟨t1, t2⟩

end Go.Proofs.YtbeamigbcfkjjaaGreatDoor.Dra

/- Guests in a row, and worlds, copied into new memory. Conditions: at most 10,000,000 guests, 1,000,000,000 words a list. -/
import Derived.Test.YtpfgldbmihbiiaaTg
import Derived.Test.YtpfgldbmihbiiaaWx
import Derived.Test.YtpfgldbmihbiiaaRw
namespace Go.Proofs.Ytpfgldbmihbiiaa.Gs
open Go.ChangeShapes Go.WideShapes Go.ChangeAt Go.RowKit
open Go.Proofs.Ytpfgldbmihbiiaa.Aid Go.Proofs.Ytpfgldbmihbiiaa.Lst
open Go.Proofs.Ytpfgldbmihbiiaa.Book (Ck ck_lit Sx)
set_option maxRecDepth 100000
set_option linter.unusedVariables false

/- A row of structs is made. -/
theorem run_make_rows {P : Program} (t e : TypeId) (Z : Array Value) (c bytes : Nat) (ht : P.underlying t = some (.slice e)) (hinfo : (P.info? e).map (fun i => (i.zero, i.size, i.bytes)) = some (some (.agg Z), c, bytes))
    (kl kc : IntKind) (n : Nat) (hbytes : bytes * n ≤ 281474976710656) (h63 : n ≤ 9223372036854775807) (w : World) :
    (Instr.makeSlice t (.int kl (n : Int)) (.int kc (n : Int))).run P w = .ok (.slice (some ⟨w.heap.size, 0, none⟩) n n) (w.alloc (.cells (madeCells Z (n * c)) e)) := by
  obtain ⟨i, hi, hzz⟩ := Option.map_eq_some_iff.1 hinfo
  simp only [Prod.mk.injEq] at hzz
  obtain ⟨hz, hs, hb⟩ := hzz
  have hb' : (i.bytes : Int) * (n : Int) ≤ 281474976710656 := by
    have h : ((i.bytes * n : Nat) : Int) ≤ 281474976710656 := by rw [hb]; omega
    rwa [Int.natCast_mul] at h
  have hr := run_make (P := P) w t e i (.agg Z) ht hi hz kl kc n n (by omega) (Int.le_refl _) hb' (by omega)
  simp only [Int.toNat_natCast, hs, Value.cells] at hr
  exact hr

theorem there_made (w : World) (Z : Array Value) (c n : Nat) (t : TypeId) (j : Nat) (hj : j < n) : (w.alloc (.cells (madeCells Z (n * c)) t)).there w.heap.size (j * c) c := fun i hi => by
  have hlt : j * c + i < n * c := by
    have := Nat.mul_le_mul_right c (show j + 1 ≤ n from hj)
    rw [Nat.add_mul, Nat.one_mul] at this
    omega
  have h := there_lit (madeCells Z (n * c)) (heap1_0 w (.cells (madeCells Z (n * c)) t)) (j * c + i) (by rw [size_madeCells]; exact hlt)
  rwa [Nat.zero_add] at h

/- The first k of n guests are copied into the row R. -/
structure Gk (w0 : World) (R n k : Nat) (g : Nat → Gx) (B1 B2 : Nat → Nat) (w : World) : Prop where
  row : ∀ j, j < k → w.rangeAt R (j * 26) ((g j).at (B1 j) (B2 j)).cells
  th : ∀ j, j < n → w.there R (j * 26) 26
  own : ∀ j, j < k → Fk .u64 (g j).snap.n w (B1 j) (g j).snap.f ∧ Fk .u64 (g j).plan.n w (B2 j) (g j).plan.f
  ord : ∀ j, j < k → R < B1 j ∧ B1 j < B2 j ∧ B2 j < w.heap.size
  inc : ∀ i j, i < j → j < k → B2 i < B1 j
  bel : Below w0.heap.size w0 w
  lo : w0.heap.size ≤ R
  lt : R < w.heap.size

theorem Gk.later {w0 w w1 : World} {R n k : Nat} {g : Nat → Gx} {B1 B2 : Nat → Nat} (h : Gk w0 R n k g B1 B2 w) (hb : Below w.heap.size w w1) : Gk w0 R n k g B1 B2 w1 :=
  ⟨fun j hj => range_below hb (h.row j hj) h.lt, fun j hj => there_below hb (h.th j hj) h.lt, fun j hj => ⟨(h.own j hj).1.later hb, (h.own j hj).2.later hb⟩, fun j hj => ⟨(h.ord j hj).1, (h.ord j hj).2.1, Nat.lt_of_lt_of_le (h.ord j hj).2.2 hb.size⟩, h.inc, h.bel.trans (hb.mono h.bel.size), h.lo, Nat.lt_of_lt_of_le h.lt hb.size⟩

theorem Gk.put {w0 w w1 : World} {R n k : Nat} {g : Nat → Gx} {B1 B2 : Nat → Nat} (h : Gk w0 R n k g B1 B2 w) (hk : k < n) (hb : Below w.heap.size w w1) {b1 b2 : Nat} (h1 : w.heap.size ≤ b1) (h2 : b1 < b2) (h3 : b2 < w1.heap.size)
    (f1 : Fk .u64 (g k).snap.n w1 b1 (g k).snap.f) (f2 : Fk .u64 (g k).plan.n w1 b2 (g k).plan.f) :
    Gk w0 R n (k + 1) g (fun j => if j = k then b1 else B1 j) (fun j => if j = k then b2 else B2 j) (w1.setCells R (k * 26) ((g k).at b1 b2).cells) := by
  have H := h.later hb
  have hz := setCells_size R ((g k).at b1 b2).cells (k * 26) w1
  have hl := h.lt
  refine ⟨fun j hj => ?_, fun j hj => World.there_setCells (H.th j hj) _ _ _, fun j hj => ?_, fun j hj => ?_, fun i j hij hj => ?_, below_setCells H.bel H.lo _ _, H.lo, by rw [hz]; exact H.lt⟩
  · by_cases e : j = k
    · subst e
      simp only [if_true]
      exact World.rangeAt_setCells_same _ _ _ _ (H.th j hk)
    · have hjk : j < k := by omega
      simp only [if_neg e]
      refine World.rangeAt_setCells_apart (H.row j hjk) _ _ _ (.inr (.inl ?_))
      rw [Gx.len]; omega
  · by_cases e : j = k
    · subst e
      simp only [if_true]
      exact ⟨fk_setCells_far (by omega) _ _ _ f1, fk_setCells_far (by omega) _ _ _ f2⟩
    · have hjk : j < k := by omega
      simp only [if_neg e]
      have o := h.ord j hjk
      exact ⟨fk_setCells_far (by omega) _ _ _ (H.own j hjk).1, fk_setCells_far (by omega) _ _ _ (H.own j hjk).2⟩
  · rw [hz]
    by_cases e : j = k
    · simp only [e, if_true]; omega
    · simp only [if_neg e]; exact H.ord j (by omega)
  · have ei : ¬ i = k := by omega
    simp only [if_neg ei]
    by_cases e : j = k
    · simp only [e, if_true]
      have := (h.ord i (by omega)).2.2
      omega
    · simp only [if_neg e]; exact h.inc i j hij (by omega)

def zGuest : Array Value := zG
theorem infoGuest : (Try.prog.info? 53).map (fun i => (i.zero, i.size, i.bytes)) = some (some (.agg zG), 26, 240) := by kernel_rfl

set_option maxHeartbeats 800000 in
theorem toguests_any (a : Option Addr) (n c : Nat) (g : Nat → Gx) (w : World) (h : RowG w a n g) (hg : ∀ j, j < n → (g j).At w ∧ (g j).snap.n ≤ 1000000000 ∧ (g j).plan.n ≤ 1000000000) (hn : n ≤ 10000000) :
    Calls Try.prog 22 #[.slice a n c] w fun e w' => ∃ B1 B2, e = .returned (.slice (some ⟨w.heap.size, 0, none⟩) n n) ∧ Gk w w.heap.size n n g B1 B2 w' := by
  have hmk := fun w => run_make_rows (P := Try.prog) 28 53 zG 26 240 Try.underlying28 infoGuest .i64 .i64 n (by omega) (by omega) w
  have f0 : Gk w w.heap.size n 0 g (fun _ => 0) (fun _ => 0) (w.alloc (.cells (madeCells zG (n * 26)) 53)) :=
    ⟨fun j hj => by omega, fun j hj => there_made w zG 26 n _ j hj, fun j hj => by omega, fun j hj => by omega, fun i j _ hj => by omega, below1 w _, Nat.le_refl _, by simp⟩
  have HG : Hid (∀ j, j < n → (g j).At w ∧ (g j).snap.n ≤ 1000000000 ∧ (g j).plan.n ≤ 1000000000) := hg
  have HR : Hid (RowG w a n g) := h
  clear hg h
  go_enter Try.func22, Try.ntmps22
  go_wp2_with (fail)
  generalize w.alloc (.cells (madeCells zG (n * 26)) 53) = W at f0 ⊢
  clear hmk
  go_loopw [4] (fun i wr => ∃ (k : Nat) (B1 B2 : Nat → Nat), k ≤ n ∧ i = .int .i64 k ∧ Gk w w.heap.size n k g B1 B2 wr) (fun i _ => n - (intOf i).toNat)
  case atStart => exact ⟨0, _, _, by omega, rfl, f0⟩
  case round =>
    obtain ⟨k, B1, B2, hk, rfl, hf⟩ := hrel
    clear f0
    by_cases hlt : (k : Int) < n
    · rcases HR.out with h | ⟨b, off, rfl, h⟩
      · omega
      have rg := range_below hf.bel (h k (by omega)) (World.block_lt_of_cell? w _ (h k (by omega) 0 _ rfl))
      have HR1 : Hid (World.rangeAt wr b (off + k * 26) (g k).cells) := rg
      have HF : Hid (Gk w w.heap.size n k g B1 B2 wr) := hf
      clear h rg hf
      go_wp2_with (refine wpList_load_mid rfl 67 _ rfl b (off + k * 26) rfl (g k).cells _ HR1.out Try.underlying67 rfl (by kernel_rfl) ?_)
      refine (toguest_any (g k) wr ((HG.out k (by omega)).1.later HF.out.bel) (HG.out k (by omega)).2.1 (HG.out k (by omega)).2.2).mono ?_
      rintro e w1 ⟨b1, b2, rfl, o1, o2, o3, f1, f2, hb⟩
      have HF1 : Hid (Gk w w.heap.size n (k + 1) g (fun j => if j = k then b1 else B1 j) (fun j => if j = k then b2 else B2 j) (w1.setCells w.heap.size (k * 26) ((g k).at b1 b2).cells)) := HF.out.put (by omega) hb o1 o2 o3 f1 f2
      have HT : Hid (w1.there w.heap.size (k * 26) 26) := (HF.out.later hb).th k (by omega)
      clear o1 o2 o3 f1 f2 hb HR1 HF
      go_wp2_with (with_reducible refine halt_at (.store 53 (.tmp 21) (.tmp 20)) rfl ?_)
      unfold Hid
      refine wpList_store_mid rfl 53 _ _ rfl w.heap.size (k * 26) ((g k).at b1 b2).cells.toArray ?hx rfl HT.out (by kernel_rfl) (by simp [Gx.cells, Value.oneCell']) ?_
      case hx => rfl
      go_wp2_with (fail)
      go_roundw
      case rel => exact ⟨k + 1, _, _, by omega, by go_num, HF1.out⟩
      case measure => simp [intOf]; omega
    · obtain rfl : k = n := by omega
      have HF : Hid (Gk w w.heap.size k k g B1 B2 wr) := hf
      clear hf
      go_wp2_with (fail)
      go_ret
      exact ⟨rfl, B1, B2, HF.out⟩

end Go.Proofs.Ytpfgldbmihbiiaa.Gs

/- Where each word lies: what each function of layer 2 that only reckons addresses (the program's and the specification's) answers, as numbers. Conditions: none but that numbers are ints. -/
import Derived.Test.YtibiegapgokelaaCell
import Derived.Test.YtibiegapgokelaaAid
namespace Go.Proofs.Ytibiegapgokelaa.Plat
open Go.ChangeShapes Go.WideShapes Go.ChangeAt Go.RowKit
open Go.Proofs.Ytibiegapgokelaa.Words Go.Proofs.Ytibiegapgokelaa.Aid

/- Whether a house may be so large. -/
def okB (s p l : Int) : Bool := decide (1 ≤ s ∧ s ≤ 4 ∧ 1 ≤ p ∧ p ≤ 6 ∧ 1 ≤ l ∧ l ≤ 20)

theorem okB_t {s p l : Int} (h : 1 ≤ s ∧ s ≤ 4 ∧ 1 ≤ p ∧ p ≤ 6 ∧ 1 ≤ l ∧ l ≤ 20) : okB s p l = true := by unfold okB; exact decide_eq_true h
theorem okB_f {s p l : Int} (h : ¬ (1 ≤ s ∧ s ≤ 4 ∧ 1 ≤ p ∧ p ≤ 6 ∧ 1 ≤ l ∧ l ≤ 20)) : okB s p l = false := by unfold okB; exact decide_eq_false h
theorem okB_of {s p l : Int} (h : okB s p l = true) : 1 ≤ s ∧ s ≤ 4 ∧ 1 ≤ p ∧ p ≤ 6 ∧ 1 ≤ l ∧ l ≤ 20 := by unfold okB at h; exact of_decide_eq_true h
theorem okB_not {s p l : Int} (h : okB s p l = false) : ¬ (1 ≤ s ∧ s ≤ 4 ∧ 1 ≤ p ∧ p ≤ 6 ∧ 1 ≤ l ∧ l ≤ 20) := by unfold okB at h; exact of_decide_eq_false h

theorem ok_x (s p l : Int) (w : World) :
    Calls Try.prog 9 #[.agg #[.int .i64 s, .int .i64 p, .int .i64 l]] w fun e w' => e = .returned (.bool (okB s p l)) ∧ w' = w.alloc (.cells #[.int .i64 s, .int .i64 p, .int .i64 l] 25) := by
  go_enter Try.func9, Try.ntmps9
  go_wp2
  all_goals go_ret
  all_goals refine ⟨ret_bool ?_, rfl⟩
  all_goals (unfold okB; first | (rw [decide_eq_false]; omega) | (rw [decide_eq_decide]; omega))

theorem ok_any (s p l : Int) (w : World) :
    Calls Try.prog 9 #[.agg #[.int .i64 s, .int .i64 p, .int .i64 l]] w fun e w' => e = .returned (.bool (okB s p l)) ∧ Below w.heap.size w w' := (ok_x s p l w).mono fun _ _ ⟨he, hw⟩ => ⟨he, by rw [hw]; exact below1 _ _⟩

theorem sok_x (s p l : Int) (w : World) :
    Calls Try.prog 7 #[.agg #[.int .i64 s, .int .i64 p, .int .i64 l]] w fun e w' => e = .returned (.bool (okB s p l)) ∧ w' = w.alloc (.cells #[.int .i64 s, .int .i64 p, .int .i64 l] 25) := by
  go_enter Try.func7, Try.ntmps7
  go_wp2
  all_goals go_ret
  all_goals refine ⟨ret_bool ?_, rfl⟩
  all_goals (unfold okB; first | (rw [decide_eq_false]; omega) | (rw [decide_eq_decide]; omega))

theorem sok_any (s p l : Int) (w : World) :
    Calls Try.prog 7 #[.agg #[.int .i64 s, .int .i64 p, .int .i64 l]] w fun e w' => e = .returned (.bool (okB s p l)) ∧ Below w.heap.size w w' := (sok_x s p l w).mono fun _ _ ⟨he, hw⟩ => ⟨he, by rw [hw]; exact below1 _ _⟩

theorem to_any (s p l : Int) (w : World) :
    Calls Try.prog 5 #[.agg #[.int .i64 s, .int .i64 p, .int .i64 l]] w fun e w' => e = .returned (.agg #[.int .i64 s, .int .i64 p, .int .i64 l]) ∧ Below w.heap.size w w' := by
  go_enter Try.func5, Try.ntmps5
  go_wp2
  exact bodyPost_ret (v := .agg #[.int .i64 s, .int .i64 p, .int .i64 l]) (by simp [results, Try.results5, go_sem]) rfl ⟨rfl, by repeat (first | exact Below.refl _ _ | apply Below.drew | refine Below.alloc ?_ (by simp <;> omega) _)⟩

def zeroL : List Int := List.replicate 25 0

theorem lay_bad (s p l : Int) (w : World) (h : okB s p l = false) :
    Calls Try.prog 10 #[.agg #[.int .i64 s, .int .i64 p, .int .i64 l]] w fun e w' => e = .returned (.agg (ints zeroL).toArray) ∧ Below w.heap.size w w' := by
  go_enter Try.func10, Try.ntmps10
  go_wp2_with (fail)
  refine (ok_any s p l _).mono ?_
  rintro e w1 ⟨rfl, hb⟩
  have r3 : w1.rangeAt (w.heap.size + 1 + 1) 0 (ints zeroL) := range_below hb (range_lit (ints zeroL).toArray (heap3_2 _ _ _ _)) (by simp)
  have t2 : w1.there (w.heap.size + 1) 0 25 := there_below hb (there_lit (ints zeroL).toArray (heap3_1 _ _ _ _)) (by simp)
  have hbb : Below w.heap.size w w1 := (below3 _ _ _ _).trans (hb.mono (by simp; omega))
  rw [h]
  clear hb
  go_wp2_with (first | (refine wpList_load_mid rfl 31 _ rfl (w.heap.size + 1 + 1) 0 rfl (ints zeroL) _ r3 Try.underlying31 rfl (by kernel_rfl) ?_) | (refine wpList_store_mid rfl 31 _ _ rfl (w.heap.size + 1) 0 (ints zeroL).toArray rfl rfl t2 (by kernel_rfl) (ints_one _) ?_))
  exact bodyPost_ret (results_cell_mid rfl _ _ (w.heap.size + 1) 0 (ints zeroL) _ rfl (World.rangeAt_setCells_same _ _ _ _ t2) Try.underlying31 rfl (by kernel_rfl)) rfl ⟨rfl, below_setCells hbb (by omega) _ _⟩

def manyL (s p : Int) : List Int := [3, s, s, 4, p, p * 8, p * 8, s]
def wideL : List Int := [1, 1, 1, 1, 1, 1, 1, 21]
def atL (s p : Int) : List Int := [0, 3, 3 + s, 3 + s + s, 3 + s + s + 4, 3 + s + s + 4 + p, 3 + s + s + 4 + p + p * 8, 3 + s + s + 4 + p + p * 8 + p * 8, 3 + s + s + 4 + p + p * 8 + p * 8 + s * 21]
def cell1 (s p : Int) (k j : Nat) : Int := if j < 8 then (manyL s p).getD j 0 else if j < 8 + k then 1 else 0
def cell2 (s p : Int) (k j : Nat) : Int := if j < 8 then (manyL s p).getD j 0 else if j < 16 then wideL.getD (j - 8) 0 else if j < 16 + k then (atL s p).getD (j - 16) 0 else if j < 24 then 0 else (atL s p).getD k 0
def layL (s p : Int) : List Int := (List.range 25).map (cell2 s p 8)

theorem cell1_hit (s p : Int) (k : Nat) : cell1 s p (k + 1) (8 + k) = 1 := by
  unfold cell1; rw [if_neg (by omega), if_pos (by omega)]
theorem cell1_other (s p : Int) (k j : Nat) (h : j ≠ 8 + k) : cell1 s p (k + 1) j = cell1 s p k j := by
  unfold cell1
  by_cases a : j < 8
  · rw [if_pos a, if_pos a]
  · rw [if_neg a, if_neg a]
    by_cases c : j < 8 + k
    · rw [if_pos (by omega), if_pos c]
    · rw [if_neg (by omega), if_neg c]

theorem eight {P : Nat → Prop} (h0 : P 0) (h1 : P 1) (h2 : P 2) (h3 : P 3) (h4 : P 4) (h5 : P 5) (h6 : P 6) (h7 : P 7) : ∀ k, k < 8 → P k := fun k hk => by
  match k, hk with
  | 0, _ => exact h0
  | 1, _ => exact h1
  | 2, _ => exact h2
  | 3, _ => exact h3
  | 4, _ => exact h4
  | 5, _ => exact h5
  | 6, _ => exact h6
  | 7, _ => exact h7

theorem cell2_first (s p : Int) (j : Nat) (hj : j < 25) (h : j ≠ 15) : cell2 s p 0 j = cell1 s p 8 j := by
  unfold cell2 cell1
  by_cases a : j < 8
  · rw [if_pos a, if_pos a]
  · rw [if_neg a, if_neg a]
    by_cases c : j < 16
    · rw [if_pos c, if_pos (by omega)]
      have : j - 8 < 7 := by omega
      generalize j - 8 = t at this
      match t, this with
      | 0, _ => rfl
      | 1, _ => rfl
      | 2, _ => rfl
      | 3, _ => rfl
      | 4, _ => rfl
      | 5, _ => rfl
      | 6, _ => rfl
    · have n1 : ¬ j < 16 + 0 := by omega
      have n2 : ¬ j < 8 + 8 := by omega
      rw [if_neg c, if_neg n1, if_neg n2]
      by_cases d : j < 24
      · rw [if_pos d]
      · rw [if_neg d]; rfl
theorem cell2_at (s p : Int) (k : Nat) (_hk : k < 8) : cell2 s p (k + 1) (16 + k) = (atL s p).getD k 0 := by
  unfold cell2; rw [if_neg (by omega), if_neg (by omega), if_pos (by omega)]; congr 1; omega
theorem cell2_size (s p : Int) (k : Nat) (hk : k ≤ 8) : cell2 s p k 24 = (atL s p).getD k 0 := by
  by_cases e : k = 8
  · subst e; rfl
  · unfold cell2; rw [if_neg (by omega), if_neg (by omega), if_neg (by omega), if_neg (by omega)]
theorem cell2_other (s p : Int) (k j : Nat) (h : j ≠ 16 + k) (h' : j ≠ 24) (_hj : j < 25) : cell2 s p (k + 1) j = cell2 s p k j := by
  unfold cell2
  by_cases a : j < 8
  · rw [if_pos a, if_pos a]
  · rw [if_neg a, if_neg a]
    by_cases c : j < 16
    · rw [if_pos c, if_pos c]
    · rw [if_neg c, if_neg c]
      by_cases d : j < 16 + k
      · rw [if_pos (by omega), if_pos d]
      · rw [if_neg (by omega), if_neg d, if_pos (by omega), if_pos (by omega)]

theorem row2 (s p : Int) (k : Nat) (hk : k < 8) (h : 1 ≤ s ∧ s ≤ 4 ∧ 1 ≤ p ∧ p ≤ 6) : ∃ m d a : Int, cell2 s p k k = m ∧ cell2 s p k (8 + k) = d ∧ (atL s p).getD k 0 = a ∧ (atL s p).getD (k + 1) 0 = a + m * d ∧
    0 ≤ m ∧ m ≤ 48 ∧ 0 ≤ d ∧ d ≤ 21 ∧ 0 ≤ a ∧ a ≤ 300 ∧ 0 ≤ m * d ∧ m * d ≤ 1008 := by
  refine ⟨_, _, _, rfl, rfl, rfl, ?_⟩
  have e1 : cell2 s p k k = (manyL s p).getD k 0 := by unfold cell2; rw [if_pos hk]
  have e2 : cell2 s p k (8 + k) = wideL.getD k 0 := by unfold cell2; rw [if_neg (by omega), if_pos (by omega)]; congr 1; omega
  rw [e1, e2]
  revert hk
  generalize k = t
  revert t
  refine eight ?_ ?_ ?_ ?_ ?_ ?_ ?_ ?_ <;> simp [manyL, wideL, atL] <;> omega

theorem rep_get (n j : Nat) : (List.replicate n (0 : Int)).getD j 0 = 0 := by
  rw [List.getD_eq_getElem?_getD, List.getElem?_replicate]; split <;> rfl

theorem full_many {w1 : World} {b : Nat} {s p : Int} (r : w1.rangeAt b 0 (ints (List.replicate 25 0))) (t : w1.there b 0 25) : Full 25 (w1.setCells b 0 (ints (manyL s p))) b (cell1 s p 0) := fun j hj => by
  refine ⟨?_, by rw [World.frozen?_setCells]; simpa using (t j hj).2⟩
  by_cases h8 : j < 8
  · have hl : j < (ints (manyL s p)).length := by rw [ints_len]; exact h8
    have := World.cell?_setCells_in b (ints (manyL s p)) 0 w1 (fun i hi => (t i (by rw [ints_len] at hi; exact Nat.lt_trans hi (by decide : 8 < 25))).1) j hl
    rw [Nat.zero_add] at this
    rw [this, ← List.getElem?_eq_getElem hl, ints_get _ _ h8]
    unfold cell1; rw [if_pos h8]
  · rw [World.cell?_setCells_out b _ 0 w1 ⟨b, j, none⟩ (fun _ _ => .inr (by rw [ints_len]; show 0 + 8 ≤ j; omega))]
    have := r j (.int .i64 0) (by rw [ints_get _ _ (by simpa using hj), rep_get])
    rw [Nat.zero_add] at this
    rw [this]
    unfold cell1; rw [if_neg h8, if_neg (by omega)]

set_option maxHeartbeats 1000000 in
theorem lay_ok (s p l : Int) (w : World) (h : okB s p l = true) :
    Calls Try.prog 10 #[.agg #[.int .i64 s, .int .i64 p, .int .i64 l]] w fun e w' => e = .returned (.agg (ints (layL s p)).toArray) ∧ Below w.heap.size w w' := by
  have hk := okB_of h
  go_enter Try.func10, Try.ntmps10
  go_wp2_with (fail)
  refine (ok_any s p l _).mono ?_
  rintro e w1 ⟨rfl, hb⟩
  have r1 : w1.rangeAt w.heap.size 0 (ints [s, p, l]) := range_below hb (range_lit (ints [s, p, l]).toArray (heap3_0 _ _ _ _)) (by simp; omega)
  have t2 : w1.there (w.heap.size + 1) 0 25 := there_below hb (there_lit (ints (List.replicate 25 0)).toArray (heap3_1 _ _ _ _)) (by simp)
  have r3 : w1.rangeAt (w.heap.size + 1 + 1) 0 (ints (List.replicate 25 0)) := range_below hb (range_lit (ints (List.replicate 25 0)).toArray (heap3_2 _ _ _ _)) (by simp)
  have t3 : w1.there (w.heap.size + 1 + 1) 0 25 := there_below hb (there_lit (ints (List.replicate 25 0)).toArray (heap3_2 _ _ _ _)) (by simp)
  have hbb : Below w.heap.size w w1 := (below3 _ _ _ _).trans (hb.mono (by simp; omega))
  rw [h]
  clear hb
  have q0 : w1.cell? ⟨w.heap.size, 0, none⟩ = some (.int .i64 s) := r1 0 _ rfl
  have q1 : w1.cell? ⟨w.heap.size, 1, none⟩ = some (.int .i64 p) := r1 1 _ rfl
  have t38 : w1.there (w.heap.size + 1 + 1) 0 8 := fun j hj => t3 j (by omega)
  go_wp2_with (refine wpList_store_mid rfl _ _ _ rfl (w.heap.size + 1 + 1) 0 (ints (manyL s p)).toArray rfl rfl t38 (by kernel_rfl) (ints_one _) ?_)
  have f0 : Full 25 (w1.setCells (w.heap.size + 1 + 1) 0 (ints (manyL s p))) (w.heap.size + 1 + 1) (cell1 s p 0) := full_many r3 t3
  have t2' : (w1.setCells (w.heap.size + 1 + 1) 0 (ints (manyL s p))).there (w.heap.size + 1) 0 25 := World.there_setCells t2 _ _ _
  have hbb' : Below w.heap.size w (w1.setCells (w.heap.size + 1 + 1) 0 (ints (manyL s p))) := below_setCells hbb (by omega) _ _
  clear r1 t2 r3 t3 hbb q0 q1 t38
  go_loopw [26] (fun i wr => ∃ k : Nat, k ≤ 8 ∧ i = .int .i64 k ∧ Full 25 wr (w.heap.size + 1 + 1) (cell1 s p k) ∧ wr.there (w.heap.size + 1) 0 25 ∧ Below w.heap.size w wr) (fun i _ => 8 - (intOf i).toNat)
  case atStart => exact ⟨0, by omega, rfl, f0, t2', hbb'⟩
  case round =>
    obtain ⟨k, hk8, rfl, hf, ht, hb⟩ := hrel
    by_cases hlt : (k : Int) < 8
    · have g := hf (8 + k) (by omega)
      go_wp2_with (fail)
      go_roundw
      case rel => exact ⟨k + 1, by omega, by go_num, hf.set (8 + k) (by omega) 1 _ (cell1_hit s p k) (fun j _ hne => cell1_other s p k j hne), World.there_setCells ht (w.heap.size + 1 + 1) (8 + k) [.int .i64 1], hb.setCell (by simp; omega) _⟩
      case measure => simp [intOf]; omega
    · have e8 : k = 8 := by omega
      subst e8
      have g := hf 15 (by omega)
      go_wp2_with (fail)
      have f0 : Full 25 (wr.setCell ⟨w.heap.size + 1 + 1, 15, none⟩ (.int .i64 21)) (w.heap.size + 1 + 1) (cell2 s p 0) := hf.set 15 (by omega) 21 _ rfl (fun j hj hne => cell2_first s p j hj hne)
      have t2 : (wr.setCell ⟨w.heap.size + 1 + 1, 15, none⟩ (.int .i64 21)).there (w.heap.size + 1) 0 25 := World.there_setCells ht (w.heap.size + 1 + 1) 15 [.int .i64 21]
      have hbb : Below w.heap.size w (wr.setCell ⟨w.heap.size + 1 + 1, 15, none⟩ (.int .i64 21)) := hb.setCell (by simp; omega) _
      clear g hf ht hb
      go_loopw [35] (fun i wr => ∃ k : Nat, k ≤ 8 ∧ i = .int .i64 k ∧ Full 25 wr (w.heap.size + 1 + 1) (cell2 s p k) ∧ wr.there (w.heap.size + 1) 0 25 ∧ Below w.heap.size w wr) (fun i _ => 8 - (intOf i).toNat)
      case atStart => exact ⟨0, by omega, rfl, f0, t2, hbb⟩
      case round =>
        obtain ⟨k, hk8, rfl, hf, ht, hb⟩ := hrel
        clear f0 t2 hbb
        by_cases hlt : (k : Int) < 8
        · obtain ⟨m, d, a, e1, e2, e3, e4, m0, m1, d0, d1, a0, a1, md0, md1⟩ := row2 s p k (by omega) (by omega)
          have g1 := hf k (by omega)
          have g2 := hf (8 + k) (by omega)
          have g3 := hf (16 + k) (by omega)
          have g4 := hf 24 (by omega)
          rw [e1] at g1
          rw [e2] at g2
          rw [cell2_size s p k hk8, e3] at g4
          have E4 : Hid ((atL s p).getD (k + 1) 0 = a + m * d) := e4
          have E3 : Hid ((atL s p).getD k 0 = a) := e3
          clear e1 e2 e3 e4
          go_wp2_with (fail)
          go_region
          all_goals go_wp2_with (fail)
          all_goals go_roundw
          case rel =>
            refine ⟨k + 1, by omega, by go_num, ?_, ?_, ?_⟩
            · have f1 := hf.set (16 + k) (by omega) a (fun j => if j = 16 + k then a else cell2 s p k j) (by simp) (fun j _ hne => by simp [hne])
              refine (f1.set 24 (by omega) (a + m * d) _ (by rw [cell2_size s p (k + 1) (by omega)]; exact E4.out) (fun j hj hne => ?_)).drew
              by_cases e : j = 16 + k
              · subst e; rw [cell2_at s p k (by omega), E3.out]; simp
              · rw [cell2_other s p k j e hne hj]; simp [e]
            · exact World.there_setCells (World.there_setCells ht (w.heap.size + 1 + 1) (16 + k) [.int .i64 a]) (w.heap.size + 1 + 1) 24 [.int .i64 (a + m * d)]
            · exact ((hb.setCell (by simp; omega) _).setCell (by simp; omega) _).drew
          case measure => simp [intOf]; omega
        · have e8 : k = 8 := by omega
          subst e8
          have r := hf.range
          go_wp2_with (first | (refine wpList_load_mid rfl 31 _ rfl (w.heap.size + 1 + 1) 0 rfl _ _ r Try.underlying31 rfl (by kernel_rfl) ?_) | (refine wpList_store_mid rfl 31 _ _ rfl (w.heap.size + 1) 0 (ints (layL s p)).toArray rfl rfl ht (by kernel_rfl) (ints_one _) ?_))
          exact bodyPost_ret (results_cell_mid rfl _ _ (w.heap.size + 1) 0 (ints (layL s p)) _ rfl (World.rangeAt_setCells_same _ _ _ _ ht) Try.underlying31 rfl (by kernel_rfl)) rfl ⟨rfl, below_setCells hb (by omega) _ _⟩

theorem below_drewN {B : Nat} {a w : World} (h : Below B a w) (n : Nat) : Below B a (w.drewN n) := ⟨h.os, h.tape, h.output, h.size, h.block⟩

def fnd (m d a n : Int) : Int := if n < 0 ∨ m ≤ n then 0 else a + n * d

end Go.Proofs.Ytibiegapgokelaa.Plat

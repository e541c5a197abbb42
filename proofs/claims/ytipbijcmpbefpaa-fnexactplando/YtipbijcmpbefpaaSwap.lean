/- One word is swapped: the program's way (a copy, a word that is sought) and the specification's (append). Conditions: at most 1,000,000,000 words. -/
import Derived.Test.YtipbijcmpbefpaaSeek
import Derived.Laws.CopyOwn
namespace Go.Proofs.Ytipbijcmpbefpaa.Plat
open Go.ChangeShapes Go.WideShapes Go.ChangeAt Go.RowKit
open Go.Proofs.Ytipbijcmpbefpaa.Aid Go.Proofs.Ytipbijcmpbefpaa.Lst

def rowOf (n : Nat) (f : Nat → Int) : List Value := (List.range n).map fun j => .int .u64 (f j)
theorem rowOf_len (n : Nat) (f : Nat → Int) : (rowOf n f).length = n := by simp [rowOf]
theorem rowOf_get (n : Nat) (f : Nat → Int) (j : Nat) (h : j < n) : (rowOf n f)[j]? = some (.int .u64 (f j)) := by simp [rowOf, h]
theorem rowOf_one (n : Nat) (f : Nat → Int) : ∀ v ∈ rowOf n f, v.oneCell' = true := by
  intro v hv; simp [rowOf] at hv; obtain ⟨j, _, rfl⟩ := hv; rfl
theorem rowOf_lt {n : Nat} {f : Nat → Int} {j : Nat} {v : Value} (h : (rowOf n f)[j]? = some v) : j < n ∧ v = .int .u64 (f j) := by
  have hj : j < n := by
    have := (List.getElem?_eq_some_iff.1 h).1
    rwa [rowOf_len] at this
  rw [rowOf_get n f j hj] at h
  exact ⟨hj, by injection h with h; exact h.symm⟩

theorem fk_of_row {w : World} {b n : Nat} {f : Nat → Int} {t : TypeId} {cur : Array Value} (h : w.heap[b]? = some (.cells cur t (0, 0))) (hc : ∀ j, j < n → cur[j]? = some (.int .u64 (f j))) : Fk .u64 n w b f := fun j hj => by
  rw [cell_of_row w b j cur t (0, 0) h, frozen_of_row w b j cur t h]; exact ⟨hc j hj, rfl⟩

set_option maxHeartbeats 1000000 in
theorem copy_any (a : Option Addr) (n cap : Nat) (f : Nat → Int) (w : World) (h : Sl .u64 w a n f) (hn : n ≤ 1000000000) :
    Calls Try.prog 69 #[.slice a n cap] w fun e w' => e = .returned (.slice (some ⟨w.heap.size, 0, none⟩) n n) ∧ Fk .u64 n w' w.heap.size f ∧ Below w.heap.size w w' ∧ w.heap.size < w'.heap.size := by
  have hmk := fun w => run_make_row' (P := Try.prog) 45 79 (.int .u64 0) 8 Try.underlying45 infoUint64 rfl .i64 .i64 n (by omega) (by omega) w
  have hg : (w.alloc (.cells (madeCells #[.int .u64 0] n) 79)).heap[w.heap.size]? = some (.cells (madeCells #[.int .u64 0] n).toList.toArray 79 (0, 0)) := by
    rw [heap1_0]
  have hl : (madeCells #[.int .u64 0] n).toList.length = n := by simp [size_madeCells]
  have hsl := h.later (below1 w (.cells (madeCells #[.int .u64 0] n) 79))
  go_enter Try.func69, Try.ntmps69
  go_wp2_with (refine wpList_copy_splice rfl _ _ _ _ rfl 79 Try.underlying45 (by kernel_rfl) _ _ _ _ _ _ rfl rfl w.heap.size 0 (madeCells #[.int .u64 0] n).toList 79 hg (rowOf n f) ?c1 ?c2 ?c3 (rowOf_one n f) w.heap.size w (below1 _ _) (Nat.le_refl _) ?_)
  case c1 => rw [rowOf_len]; simp
  case c2 =>
    intro hpos
    rw [rowOf_len] at hpos
    rcases hsl with h0 | ⟨b, off, rfl, hc⟩
    · omega
    · refine ⟨_, rfl, fun j v hv => ?_⟩
      obtain ⟨hj, rfl⟩ := rowOf_lt hv
      rw [Addr.add_mid]; exact hc j hj
  case c3 => rw [rowOf_len, hl]; omega
  intro w1 hh hb
  clear hmk
  go_wp2_with (fail)
  go_ret
  refine ⟨rfl, fk_of_row hh.out (fun j hj => ?_), hb, ?_⟩
  · rw [List.getElem?_toArray]; unfold splice
    rw [List.take_zero, List.nil_append, List.getElem?_append_left (by rw [rowOf_len]; exact hj)]
    exact rowOf_get n f j hj
  · exact Nat.lt_of_not_le fun hle => by
      have := hh.out
      rw [Array.getElem?_eq_none hle] at this
      cases this

def hit (n : Nat) (f : Nat → Int) (i old : Int) : Bool := decide (0 ≤ i ∧ i < n ∧ f i.toNat = old)
def swF (n : Nat) (f : Nat → Int) (i old now : Int) (j : Nat) : Int := if hit n f i old = true ∧ j = i.toNat then now else f j

theorem hit_f {n : Nat} {f : Nat → Int} {i old : Int} (h : ¬ (0 ≤ i ∧ i < n ∧ f i.toNat = old)) : hit n f i old = false := decide_eq_false h
theorem hit_t {n : Nat} {f : Nat → Int} {i old : Int} (h : 0 ≤ i ∧ i < n ∧ f i.toNat = old) : hit n f i old = true := decide_eq_true h
theorem swF_f {n : Nat} {f : Nat → Int} {i old now : Int} (h : hit n f i old = false) (j : Nat) : swF n f i old now j = f j := by unfold swF; rw [h]; simp

end Go.Proofs.Ytipbijcmpbefpaa.Plat

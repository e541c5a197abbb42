/- One word is swapped: the program's way (a copy, a word that is sought) and the specification's (append). Conditions: at most 1,000,000,000 words. -/
import Derived.Test.YtddpboaejjcicaaSeek
import Derived.Laws.CopyOwn
namespace Go.Proofs.Ytddpboaejjcicaa.Plat
open Go.ChangeShapes Go.WideShapes Go.ChangeAt Go.RowKit
open Go.Proofs.Ytddpboaejjcicaa.Aid Go.Proofs.Ytddpboaejjcicaa.Lst

def rowOf (n : Nat) (f : Nat → Int) : List Value := (List.range n).map fun j => .int .u64 (f j)
theorem rowOf_len (n : Nat) (f : Nat → Int) : (rowOf n f).length = n := by simp [rowOf]
theorem rowOf_get (n : Nat) (f : Nat → Int) (j : Nat) (h : j < n) : (rowOf n f)[j]? = some (.int .u64 (f j)) := by simp [rowOf, h]
theorem rowOf_one (n : Nat) (f : Nat → Int) : ∀ v ∈ rowOf n f, v.oneCell' = true := by
  intro v hv; simp [rowOf] at hv; obtain ⟨j, _, rfl⟩ := hv; rfl
theorem rowOf_lt {n : Nat} {f : Nat → Int} {j : Nat} {v : Value} (h : (rowOf n f)[j]? = some v) : j < n ∧ v = .int .u64 (f j) := by
  have hj : j < n := by
    have := (List.getElem?_eq_some_iff.1 h).1
    rwa [rowOf_len] at this
  rw [rowOf_get n f j hj] at h
  exact ⟨hj, by injection h with h; exact h.symm⟩

theorem fk_of_row {w : World} {b n : Nat} {f : Nat → Int} {t : TypeId} {cur : Array Value} (h : w.heap[b]? = some (.cells cur t (0, 0))) (hc : ∀ j, j < n → cur[j]? = some (.int .u64 (f j))) : Fk .u64 n w b f := fun j hj => by
  rw [cell_of_row w b j cur t (0, 0) h, frozen_of_row w b j cur t h]; exact ⟨hc j hj, rfl⟩

set_option maxHeartbeats 1000000 in
theorem copy_any (a : Option Addr) (n cap : Nat) (f : Nat → Int) (w : World) (h : Sl .u64 w a n f) (hn : n ≤ 1000000000) :
    Calls Try.prog 63 #[.slice a n cap] w fun e w' => e = .returned (.slice (some ⟨w.heap.size, 0, none⟩) n n) ∧ Fk .u64 n w' w.heap.size f ∧ Below w.heap.size w w' ∧ w.heap.size < w'.heap.size := by
  have hmk := fun w => run_make_row' (P := Try.prog) 26 35 (.int .u64 0) 8 Try.underlying26 infoUint64 rfl .i64 .i64 n (by omega) (by omega) w
  have hg : (w.alloc (.cells (madeCells #[.int .u64 0] n) 35)).heap[w.heap.size]? = some (.cells (madeCells #[.int .u64 0] n).toList.toArray 35 (0, 0)) := by
    rw [heap1_0]
  have hl : (madeCells #[.int .u64 0] n).toList.length = n := by simp [size_madeCells]
  have hsl := h.later (below1 w (.cells (madeCells #[.int .u64 0] n) 35))
  go_enter Try.func63, Try.ntmps63
  go_wp2_with (refine wpList_copy_splice rfl _ _ _ _ rfl 35 Try.underlying26 (by kernel_rfl) _ _ _ _ _ _ rfl rfl w.heap.size 0 (madeCells #[.int .u64 0] n).toList 35 hg (rowOf n f) ?c1 ?c2 ?c3 (rowOf_one n f) w.heap.size w (below1 _ _) (Nat.le_refl _) ?_)
  case c1 => rw [rowOf_len]; simp
  case c2 =>
    intro hpos
    rw [rowOf_len] at hpos
    rcases hsl with h0 | ⟨b, off, rfl, hc⟩
    · omega
    · refine ⟨_, rfl, fun j v hv => ?_⟩
      obtain ⟨hj, rfl⟩ := rowOf_lt hv
      rw [Addr.add_mid]; exact hc j hj
  case c3 => rw [rowOf_len, hl]; omega
  intro w1 hh hb
  clear hmk
  go_wp2_with (fail)
  go_ret
  refine ⟨rfl, fk_of_row hh.out (fun j hj => ?_), hb, ?_⟩
  · rw [List.getElem?_toArray]; unfold splice
    rw [List.take_zero, List.nil_append, List.getElem?_append_left (by rw [rowOf_len]; exact hj)]
    exact rowOf_get n f j hj
  · exact Nat.lt_of_not_le fun hle => by
      have := hh.out
      rw [Array.getElem?_eq_none hle] at this
      cases this

def hit (n : Nat) (f : Nat → Int) (i old : Int) : Bool := decide (0 ≤ i ∧ i < n ∧ f i.toNat = old)
def swF (n : Nat) (f : Nat → Int) (i old now : Int) (j : Nat) : Int := if hit n f i old = true ∧ j = i.toNat then now else f j

theorem hit_f {n : Nat} {f : Nat → Int} {i old : Int} (h : ¬ (0 ≤ i ∧ i < n ∧ f i.toNat = old)) : hit n f i old = false := decide_eq_false h
theorem hit_t {n : Nat} {f : Nat → Int} {i old : Int} (h : 0 ≤ i ∧ i < n ∧ f i.toNat = old) : hit n f i old = true := decide_eq_true h
theorem swF_f {n : Nat} {f : Nat → Int} {i old now : Int} (h : hit n f i old = false) (j : Nat) : swF n f i old now j = f j := by unfold swF; rw [h]; simp

set_option maxHeartbeats 1000000 in
theorem swap_any (a : Option Addr) (n cap : Nat) (f : Nat → Int) (i old now : Int) (w : World) (h : Sl .u64 w a n f) (hn : n ≤ 1000000000) :
    Calls Try.prog 32 #[.slice a n cap, .int .i64 i, .int .u64 old, .int .u64 now] w fun e w' => e = .returned (.tuple #[.slice (some ⟨w.heap.size, 0, none⟩) n n, .bool (hit n f i old)]) ∧ Fk .u64 n w' w.heap.size (swF n f i old now) ∧ Below w.heap.size w w' ∧ w.heap.size < w'.heap.size := by
  by_cases hi : 0 ≤ i ∧ i < n
  · obtain ⟨j, rfl⟩ := Int.eq_ofNat_of_zero_le hi.1
    have hib : inB n j = true := decide_eq_true hi
    have hget : getF n f j = f j := by unfold getF; rw [if_pos hi]; rfl
    by_cases ho : f j = old
    · have hh : hit n f j old = true := hit_t ⟨hi.1, hi.2, by simpa using ho⟩
      have hlt : (j : Int) < n := hi.2
      have hob : (f j == old) = true := by simpa using ho
      go_enter Try.func32, Try.ntmps32
      go_wp2_with (fail)
      refine (copy_any a n cap f w h hn).mono ?_
      rintro e w1 ⟨rfl, f1, B1, z1⟩
      go_wp2_with (fail)
      refine (seek_any _ n n f j w1 f1.sl (fun h => by cases h) hn).mono ?_
      rintro e w2 ⟨rfl, B2⟩
      rw [hget, hib]
      have f2 := f1.later B2
      have z2 := B2.size
      have C2 := B1.trans (B2.mono (by omega))
      have g := f2 j (by omega)
      have hobn : (f j != old) = false := by simp [ho]
      have HO : Hid (f j = old) := ho
      have HI : Hid (inB n j = true) := hib
      have HG : Hid (getF n f j = f j) := hget
      clear ho hib hget
      go_wp2_with (fail)
      go_ret2
      refine ⟨by rw [hh]; rfl, f2.set j now _ ?_ (fun k _ hk => ?_), C2.setCell (Nat.le_refl _) _, by simp [World.setCell]; omega⟩
      · unfold swF; rw [if_pos ⟨hh, by simp⟩]
      · unfold swF; rw [if_neg (fun h => hk (by simpa using h.2))]
    · have hh : hit n f j old = false := hit_f (fun h => ho (by simpa using h.2.2))
      have hobn : (f j != old) = true := by simp [ho]
      go_enter Try.func32, Try.ntmps32
      go_wp2_with (fail)
      refine (copy_any a n cap f w h hn).mono ?_
      rintro e w1 ⟨rfl, f1, B1, z1⟩
      go_wp2_with (fail)
      refine (seek_any _ n n f j w1 f1.sl (fun h => by cases h) hn).mono ?_
      rintro e w2 ⟨rfl, B2⟩
      rw [hget, hib]
      have f2 := f1.later B2
      have z2 := B2.size
      have C2 := B1.trans (B2.mono (by omega))
      clear hib hget
      go_wp2_with (fail)
      go_ret2
      exact ⟨by rw [hh]; rfl, f2.congr (fun k _ => swF_f hh k), C2, by omega⟩
  · have hib : inB n i = false := decide_eq_false hi
    have hh : hit n f i old = false := hit_f (fun h => hi ⟨h.1, h.2.1⟩)
    go_enter Try.func32, Try.ntmps32
    go_wp2_with (fail)
    refine (copy_any a n cap f w h hn).mono ?_
    rintro e w1 ⟨rfl, f1, B1, z1⟩
    go_wp2_with (fail)
    refine (seek_any _ n n f i w1 f1.sl (fun h => by cases h) hn).mono ?_
    rintro e w2 ⟨rfl, B2⟩
    rw [hib]
    have f2 := f1.later B2
    have z2 := B2.size
    have C2 := B1.trans (B2.mono (by omega))
    clear hib
    go_wp2_with (fail)
    go_ret2
    exact ⟨by rw [hh]; rfl, f2.congr (fun k _ => swF_f hh k), C2, by omega⟩

end Go.Proofs.Ytddpboaejjcicaa.Plat

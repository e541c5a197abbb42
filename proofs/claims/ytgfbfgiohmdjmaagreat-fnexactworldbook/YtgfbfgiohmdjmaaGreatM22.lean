import Derived.Test.YtgfbfgiohmdjmaaGreatM8
import Derived.Laws.CopyOwn
import Derived.Test.YtgfbfgiohmdjmaaGreatM10
import Derived.Test.YtgfbfgiohmdjmaaGreatM12
import Derived.Test.YtgfbfgiohmdjmaaGreatM6

/- One word is swapped: the program's way (a copy, a word that is sought) and the specification's (append). Conditions: at most 1,000,000,000 words. -/
namespace Go.Proofs.YtgfbfgiohmdjmaaGreat.Plat
open Go.ChangeShapes Go.WideShapes Go.ChangeAt Go.RowKit
open Aid Lst

def rowOf (n : Nat) (f : Nat → Int) : List Value := (List.range n).map fun j => .int .u64 (f j)
theorem rowOf_len (n : Nat) (f : Nat → Int) : (rowOf n f).length = n := by simp [rowOf]
theorem rowOf_get (n : Nat) (f : Nat → Int) (j : Nat) (h : j < n) : (rowOf n f)[j]? = some (.int .u64 (f j)) := by simp [rowOf, h]
theorem rowOf_one (n : Nat) (f : Nat → Int) : ∀ v ∈ rowOf n f, v.oneCell' = true := by
  intro v hv; simp [rowOf] at hv; obtain ⟨j, _, rfl⟩ := hv; rfl
theorem rowOf_lt {n : Nat} {f : Nat → Int} {j : Nat} {v : Value} (h : (rowOf n f)[j]? = some v) : j < n ∧ v = .int .u64 (f j) := by
  have hj : j < n := by
    have := (List.getElem?_eq_some_iff.1 h).1
    rwa [rowOf_len] at this
  rw [rowOf_get n f j hj] at h
  exact ⟨hj, by injection h with h; exact h.symm⟩

theorem fk_of_row {w : World} {b n : Nat} {f : Nat → Int} {t : TypeId} {cur : Array Value} (h : w.heap[b]? = some (.cells cur t (0, 0))) (hc : ∀ j, j < n → cur[j]? = some (.int .u64 (f j))) : Fk .u64 n w b f := fun j hj => by
  rw [cell_of_row w b j cur t (0, 0) h, frozen_of_row w b j cur t h]; exact ⟨hc j hj, rfl⟩

set_option maxHeartbeats 1000000 in
theorem copy_any (a : Option Addr) (n cap : Nat) (f : Nat → Int) (w : World) (h : Sl .u64 w a n f) (hn : n ≤ 1000000000) :
    Calls Tryz.prog 73 #[.slice a n cap] w fun e w' => e = .returned (.slice (some ⟨w.heap.size, 0, none⟩) n n) ∧ Fk .u64 n w' w.heap.size f ∧ Below w.heap.size w w' ∧ w.heap.size < w'.heap.size := by
  have hmk := fun w => run_make_row' (P := Tryz.prog) 22 58 (.int .u64 0) 8 Tryz.underlying22 infoUint64 rfl .i64 .i64 n (by omega) (by omega) w
  have hg : (w.alloc (.cells (madeCells #[.int .u64 0] n) 58)).heap[w.heap.size]? = some (.cells (madeCells #[.int .u64 0] n).toList.toArray 58 (0, 0)) := by
    rw [heap1_0]
  have hl : (madeCells #[.int .u64 0] n).toList.length = n := by simp [size_madeCells]
  have hsl := h.later (below1 w (.cells (madeCells #[.int .u64 0] n) 58))
  go_enter Tryz.func73, Tryz.ntmps73
  go_wp2_with (refine wpList_copy_splice rfl _ _ _ _ rfl 58 Tryz.underlying22 (by kernel_rfl) _ _ _ _ _ _ rfl rfl w.heap.size 0 (madeCells #[.int .u64 0] n).toList 58 hg (rowOf n f) ?c1 ?c2 ?c3 (rowOf_one n f) w.heap.size w (below1 _ _) (Nat.le_refl _) ?_)
  case c1 => rw [rowOf_len]; simp
  case c2 =>
    intro hpos
    rw [rowOf_len] at hpos
    rcases hsl with h0 | ⟨b, off, rfl, hc⟩
    · omega
    · refine ⟨_, rfl, fun j v hv => ?_⟩
      obtain ⟨hj, rfl⟩ := rowOf_lt hv
      rw [Addr.add_mid]; exact hc j hj
  case c3 => rw [rowOf_len, hl]; omega
  intro w1 hh hb
  clear hmk
  go_wp2_with (fail)
  go_ret
  refine ⟨rfl, fk_of_row hh.out (fun j hj => ?_), hb, ?_⟩
  · rw [List.getElem?_toArray]; unfold splice
    rw [List.take_zero, List.nil_append, List.getElem?_append_left (by rw [rowOf_len]; exact hj)]
    exact rowOf_get n f j hj
  · exact Nat.lt_of_not_le fun hle => by
      have := hh.out
      rw [Array.getElem?_eq_none hle] at this
      cases this

def hit (n : Nat) (f : Nat → Int) (i old : Int) : Bool := decide (0 ≤ i ∧ i < n ∧ f i.toNat = old)
def swF (n : Nat) (f : Nat → Int) (i old now : Int) (j : Nat) : Int := if hit n f i old = true ∧ j = i.toNat then now else f j

theorem hit_f {n : Nat} {f : Nat → Int} {i old : Int} (h : ¬ (0 ≤ i ∧ i < n ∧ f i.toNat = old)) : hit n f i old = false := decide_eq_false h
theorem hit_t {n : Nat} {f : Nat → Int} {i old : Int} (h : 0 ≤ i ∧ i < n ∧ f i.toNat = old) : hit n f i old = true := decide_eq_true h
theorem swF_f {n : Nat} {f : Nat → Int} {i old now : Int} (h : hit n f i old = false) (j : Nat) : swF n f i old now j = f j := by unfold swF; rw [h]; simp

/- What is owned is a row of new memory. -/
theorem own_fk {w : World} {base n : Nat} {v : Value} {f : Nat → Int} {t : TypeId} (h : w.ownsRow base t 1 v n (rowOf n f)) (hv : ¬ v = .slice none 0 0) : ∃ g c, v = .slice (some ⟨g, 0, none⟩) n c ∧ base ≤ g ∧ g < w.heap.size ∧ Fk .u64 n w g f := by
  obtain ⟨_, h | ⟨g, cap, cur, rfl, hb, hg, _, _, _, ht⟩⟩ := h
  · exact absurd h.1 hv
  · refine ⟨g, cap, rfl, hb, ?_, fk_of_row hg (fun j hj => ?_)⟩
    · exact Nat.lt_of_not_le fun hle => by rw [Array.getElem?_eq_none hle] at hg; cases hg
    · have := rowOf_get n f j hj
      rw [← ht, Nat.mul_one, List.getElem?_take, if_pos hj] at this
      simpa using this

theorem own_nil (w : World) (t : TypeId) : (w.alloc (.cells #[] t)).ownsRow w.heap.size t 1 (.slice (some ⟨w.heap.size, 0, none⟩) 0 0) 0 [] :=
  ⟨rfl, .inr ⟨w.heap.size, 0, #[], rfl, Nat.le_refl _, heap1_0 _ _, Nat.le_refl _, Nat.zero_le _, rfl, rfl⟩⟩

open Words Aid Lst
open Book (takeB)
set_option maxRecDepth 100000
set_option linter.unusedVariables false
/- A change: its address, its value; it is carried out. -/
def eAt (e : Int) : Int := lo32 e / 1048576
def eVal (e : Int) : Int := lo32 e % 1048576
def putF (n : Nat) (g : Nat → Int) (e : Int) : Nat → Int := fun j => if (j : Int) = eAt e ∧ (j : Int) < n ∧ g j / 4294967296 < e / 4294967296 then pack (eVal e) (e / 4294967296) else g j
def W64 (f : Nat → Int) : Prop := ∀ j, 0 ≤ f j ∧ f j < 18446744073709551616
theorem putF_w {n : Nat} {g : Nat → Int} (h : W64 g) (e : Int) : W64 (putF n g e) := fun j => by
  unfold putF
  split
  · exact ⟨pack_lo _ _, pack_hi _ _⟩
  · exact h j
theorem eAt_lo (e : Int) : 0 ≤ eAt e := by have := lo32_lo e; unfold eAt; omega
theorem eAt_hi (e : Int) : eAt e ≤ 4095 := by have := lo32_hi e; unfold eAt; omega
theorem putF_out {n : Nat} {g : Nat → Int} {e : Int} (h : ¬ eAt e < n) : putF n g e = g := by
  funext j
  unfold putF
  rw [if_neg]
  rintro ⟨h1, h2, _⟩
  omega
theorem putF_old {n : Nat} {g : Nat → Int} {e : Int} {j : Nat} (hj : eAt e = j) (h : ¬ g j / 4294967296 < e / 4294967296) : putF n g e = g := by
  funext i
  unfold putF
  rw [if_neg]
  rintro ⟨h1, h2, h3⟩
  have : i = j := by omega
  subst this
  exact h h3
theorem putF_hit {n : Nat} {g : Nat → Int} {e : Int} {j : Nat} (hj : eAt e = j) (hn : j < n) (h : g j / 4294967296 < e / 4294967296) : putF n g e j = pack (eVal e) (e / 4294967296) := by
  unfold putF
  rw [if_pos ⟨by omega, by omega, h⟩]
theorem putF_far {n : Nat} {g : Nat → Int} {e : Int} {i j : Nat} (hj : eAt e = j) (hi : i ≠ j) : putF n g e i = g i := by
  unfold putF
  rw [if_neg]
  rintro ⟨h1, _⟩
  omega

set_option maxHeartbeats 4000000 in
theorem carry_any (b n cap : Nat) (g : Nat → Int) (e : Int) (w : World) (h : Fk .u64 n w b g) (hb : b < w.heap.size) (hn : n ≤ 1000000000) (hw : W64 g) (e0 : 0 ≤ e) (e1 : e < 18446744073709551616) :
    Calls Tryz.prog 76 #[.slice (some ⟨b, 0, none⟩) n cap, .int .u64 e] w fun r w' => r = .returned (.tuple #[]) ∧ Fk .u64 n w' b (putF n g e) ∧ Below b w w' := by
  have a0 := eAt_lo e
  have a1 := eAt_hi e
  obtain ⟨j, hj⟩ := Int.eq_ofNat_of_zero_le a0
  have hj' : lo32 e / 1048576 = (j : Int) := hj
  by_cases hi : (j : Int) < n
  · have hjn : j < n := by omega
    have hget : getF n g j = g j := by unfold getF; rw [if_pos ⟨by omega, hi⟩]; rfl
    have hib : inB n j = true := decide_eq_true ⟨by omega, hi⟩
    obtain ⟨g0, g1⟩ := hw j
    have HE : Hid (eAt e = j) := hj
    by_cases hs : g j / 4294967296 < e / 4294967296
    · have HS : Hid (g j / 4294967296 < e / 4294967296) := hs
      clear hj
      go_enter Tryz.func76, Tryz.ntmps76
      go_wp2_with (fail)
      refine (entryOf_any e w e0 e1).mono ?_
      rintro r w1 ⟨rfl, -, B1⟩
      have f1 := h.later B1
      have C1 : Below b w w1 := B1.mono (by omega)
      clear B1 h
      rw [hj']
      go_wp2_with (fail)
      refine (seek_any _ n cap g j w1 f1.sl (fun h => by cases h) hn).mono ?_
      rintro r w2 ⟨rfl, B2⟩
      rw [hget, hib]
      have f2 := f1.later B2
      have C2 : Below b w w2 := C1.trans (B2.mono (Nat.le_trans (by omega) C1.size))
      clear B2 f1 C1 hget hib
      have cc := f2 j hjn
      have HF : Hid (Fk .u64 n w2 b g) := f2
      clear f2
      go_wp2_with (first | (go_at_call 75; refine (st_any _ w2 ?_ ?_).mono ?_; (assumption); (assumption); rintro r w2 ⟨rfl, rfl⟩) | (go_at_call 115; refine (pack_any _ _ w2).mono ?_; rintro r w2 ⟨rfl, rfl⟩))
      exact bodyPost_end (v := .tuple #[]) (by simp [results, Tryz.results76]) rfl ⟨rfl, HF.out.set j _ _ (putF_hit HE.out hjn HS.out) (fun i _ hne => putF_far HE.out hne), C2.setCell (Nat.le_refl _) _⟩
    · have HS : Hid (¬ g j / 4294967296 < e / 4294967296) := hs
      have hsb : decide (g j / 4294967296 < e / 4294967296) = false := by simpa using hs
      clear hj hs
      go_enter Tryz.func76, Tryz.ntmps76
      go_wp2_with (fail)
      refine (entryOf_any e w e0 e1).mono ?_
      rintro r w1 ⟨rfl, -, B1⟩
      have f1 := h.later B1
      have C1 : Below b w w1 := B1.mono (by omega)
      clear B1 h
      rw [hj']
      go_wp2_with (fail)
      refine (seek_any _ n cap g j w1 f1.sl (fun h => by cases h) hn).mono ?_
      rintro r w2 ⟨rfl, B2⟩
      rw [hget, hib]
      have f2 := f1.later B2
      have C2 : Below b w w2 := C1.trans (B2.mono (Nat.le_trans (by omega) C1.size))
      clear B2 f1 C1 hget hib
      have cc := f2 j hjn
      have HF : Hid (Fk .u64 n w2 b g) := f2
      clear f2
      go_wp2_with (first | (go_at_call 75; refine (st_any _ w2 ?_ ?_).mono ?_; (assumption); (assumption); rintro r w2 ⟨rfl, rfl⟩) | (go_at_call 115; refine (pack_any _ _ w2).mono ?_; rintro r w2 ⟨rfl, rfl⟩))
      exact bodyPost_end (v := .tuple #[]) (by simp [results, Tryz.results76]) rfl ⟨rfl, by rw [putF_old HE.out (by have := HS.out; omega)]; exact HF.out, C2⟩
  · have HI : Hid (¬ eAt e < n) := by rw [hj]; exact hi
    have hib : inB n j = false := decide_eq_false (fun h => hi h.2)
    have hget : getF n g j = 0 := by unfold getF; rw [if_neg (fun h => hi h.2)]
    have hjn : ¬ j < n := by omega
    clear hj
    go_enter Tryz.func76, Tryz.ntmps76
    go_wp2_with (fail)
    refine (entryOf_any e w e0 e1).mono ?_
    rintro r w1 ⟨rfl, -, B1⟩
    have f1 := h.later B1
    have C1 : Below b w w1 := B1.mono (by omega)
    clear B1 h
    rw [hj']
    go_wp2_with (fail)
    refine (seek_any _ n cap g j w1 f1.sl (fun h => by cases h) hn).mono ?_
    rintro r w2 ⟨rfl, B2⟩
    rw [hget, hib]
    have f2 := f1.later B2
    have C2 : Below b w w2 := C1.trans (B2.mono (Nat.le_trans (by omega) C1.size))
    clear B2 f1 C1 hget hib
    have HF : Hid (Fk .u64 n w2 b g) := f2
    clear f2 hi
    go_wp2_with (fail)
    exact bodyPost_end (v := .tuple #[]) (by simp [results, Tryz.results76]) rfl ⟨rfl, by rw [putF_out (by have := HI.out; omega)]; exact HF.out, C2⟩

set_option maxHeartbeats 4000000 in
theorem sput_any (b n cap : Nat) (g : Nat → Int) (e : Int) (w : World) (h : Fk .u64 n w b g) (hb : b < w.heap.size) (hn : n ≤ 1000000000) (hw : W64 g) (e0 : 0 ≤ e) (e1 : e < 18446744073709551616) :
    Calls Tryz.prog 57 #[.slice (some ⟨b, 0, none⟩) n cap, .int .u64 e] w fun r w' => r = .returned (.slice (some ⟨b, 0, none⟩) n cap) ∧ Fk .u64 n w' b (putF n g e) ∧ Below b w w' := by
  have a0 := eAt_lo e
  have a1 := eAt_hi e
  obtain ⟨j, hj⟩ := Int.eq_ofNat_of_zero_le a0
  have hj' : lo32 e / 1048576 = (j : Int) := hj
  by_cases hi : (j : Int) < n
  · have hjn : j < n := by omega
    have hget : getF n g j = g j := by unfold getF; rw [if_pos ⟨by omega, hi⟩]; rfl
    have hib : inB n j = true := decide_eq_true ⟨by omega, hi⟩
    obtain ⟨g0, g1⟩ := hw j
    have HE : Hid (eAt e = j) := hj
    by_cases hs : g j / 4294967296 < e / 4294967296
    · have HS : Hid (g j / 4294967296 < e / 4294967296) := hs
      clear hj
      go_enter Tryz.func57, Tryz.ntmps57
      go_wp2_with (fail)
      refine (sentryOf_any e w e0 e1).mono ?_
      rintro r w2 ⟨rfl, rfl⟩
      have f2 := h
      clear h
      rw [hj']
      have cc := f2 j hjn
      have HF : Hid (Fk .u64 n w2 b g) := f2
      clear f2
      go_wp2_with (first | (go_at_call 56; refine (sst_any _ w2 ?_ ?_).mono ?_; (assumption); (assumption); rintro r w2 ⟨rfl, rfl⟩) | (go_at_call 79; refine (spack_any _ _ w2).mono ?_; rintro r w2 ⟨rfl, rfl⟩))
      go_ret; exact ⟨rfl, HF.out.set j _ _ (putF_hit HE.out hjn HS.out) (fun i _ hne => putF_far HE.out hne), (Below.refl b _).setCell (Nat.le_refl _) _⟩
    · have HS : Hid (¬ g j / 4294967296 < e / 4294967296) := hs
      have hsb : decide (g j / 4294967296 < e / 4294967296) = false := by simpa using hs
      clear hj hs
      go_enter Tryz.func57, Tryz.ntmps57
      go_wp2_with (fail)
      refine (sentryOf_any e w e0 e1).mono ?_
      rintro r w2 ⟨rfl, rfl⟩
      have f2 := h
      clear h
      rw [hj']
      have cc := f2 j hjn
      have HF : Hid (Fk .u64 n w2 b g) := f2
      clear f2
      go_wp2_with (first | (go_at_call 56; refine (sst_any _ w2 ?_ ?_).mono ?_; (assumption); (assumption); rintro r w2 ⟨rfl, rfl⟩) | (go_at_call 79; refine (spack_any _ _ w2).mono ?_; rintro r w2 ⟨rfl, rfl⟩))
      go_ret; exact ⟨rfl, by rw [putF_old HE.out (by have := HS.out; omega)]; exact HF.out, (Below.refl b _)⟩
  · have HI : Hid (¬ eAt e < n) := by rw [hj]; exact hi
    have hib : inB n j = false := decide_eq_false (fun h => hi h.2)
    have hget : getF n g j = 0 := by unfold getF; rw [if_neg (fun h => hi h.2)]
    have hjn : ¬ j < n := by omega
    clear hj
    go_enter Tryz.func57, Tryz.ntmps57
    go_wp2_with (fail)
    refine (sentryOf_any e w e0 e1).mono ?_
    rintro r w2 ⟨rfl, rfl⟩
    have f2 := h
    clear h
    rw [hj']
    have HF : Hid (Fk .u64 n w2 b g) := f2
    clear f2 hi
    go_wp2_with (fail)
    go_ret; exact ⟨rfl, by rw [putF_out (by have := HI.out; omega)]; exact HF.out, (Below.refl b _)⟩

end Go.Proofs.YtgfbfgiohmdjmaaGreat.Plat

/- What is done is carried out: one change, of both; where the changes stand, by the program. Conditions: at most 1,000,000,000 words, each of 64 bits. -/
import Derived.Test.YtipbijcmpbefpaaChk
import Derived.Test.YtipbijcmpbefpaaSwap2
import Derived.Test.YtipbijcmpbefpaaOf
import Derived.Test.YtipbijcmpbefpaaLaw
namespace Go.Proofs.Ytipbijcmpbefpaa.Plat
open Go.ChangeShapes Go.WideShapes Go.ChangeAt Go.RowKit
open Go.Proofs.Ytipbijcmpbefpaa.Words Go.Proofs.Ytipbijcmpbefpaa.Aid Go.Proofs.Ytipbijcmpbefpaa.Lst
open Go.Proofs.Ytipbijcmpbefpaa.Book (takeB)
set_option maxRecDepth 100000
set_option linter.unusedVariables false

/- A change: its address, its value; it is carried out. -/
def eAt (e : Int) : Int := lo32 e / 1048576
def eVal (e : Int) : Int := lo32 e % 1048576
def putF (n : Nat) (g : Nat → Int) (e : Int) : Nat → Int := fun j => if (j : Int) = eAt e ∧ (j : Int) < n ∧ g j / 4294967296 < e / 4294967296 then pack (eVal e) (e / 4294967296) else g j
def W64 (f : Nat → Int) : Prop := ∀ j, 0 ≤ f j ∧ f j < 18446744073709551616
theorem putF_w {n : Nat} {g : Nat → Int} (h : W64 g) (e : Int) : W64 (putF n g e) := fun j => by
  unfold putF
  split
  · exact ⟨pack_lo _ _, pack_hi _ _⟩
  · exact h j
theorem eAt_lo (e : Int) : 0 ≤ eAt e := by have := lo32_lo e; unfold eAt; omega
theorem eAt_hi (e : Int) : eAt e ≤ 4095 := by have := lo32_hi e; unfold eAt; omega
theorem putF_out {n : Nat} {g : Nat → Int} {e : Int} (h : ¬ eAt e < n) : putF n g e = g := by
  funext j
  unfold putF
  rw [if_neg]
  rintro ⟨h1, h2, _⟩
  omega
theorem putF_old {n : Nat} {g : Nat → Int} {e : Int} {j : Nat} (hj : eAt e = j) (h : ¬ g j / 4294967296 < e / 4294967296) : putF n g e = g := by
  funext i
  unfold putF
  rw [if_neg]
  rintro ⟨h1, h2, h3⟩
  have : i = j := by omega
  subst this
  exact h h3
theorem putF_hit {n : Nat} {g : Nat → Int} {e : Int} {j : Nat} (hj : eAt e = j) (hn : j < n) (h : g j / 4294967296 < e / 4294967296) : putF n g e j = pack (eVal e) (e / 4294967296) := by
  unfold putF
  rw [if_pos ⟨by omega, by omega, h⟩]
theorem putF_far {n : Nat} {g : Nat → Int} {e : Int} {i j : Nat} (hj : eAt e = j) (hi : i ≠ j) : putF n g e i = g i := by
  unfold putF
  rw [if_neg]
  rintro ⟨h1, _⟩
  omega

set_option maxHeartbeats 4000000 in
theorem carry_any (b n cap : Nat) (g : Nat → Int) (e : Int) (w : World) (h : Fk .u64 n w b g) (hb : b < w.heap.size) (hn : n ≤ 1000000000) (hw : W64 g) (e0 : 0 ≤ e) (e1 : e < 18446744073709551616) :
    Calls Try.prog 70 #[.slice (some ⟨b, 0, none⟩) n cap, .int .u64 e] w fun r w' => r = .returned (.tuple #[]) ∧ Fk .u64 n w' b (putF n g e) ∧ Below b w w' := by
  have a0 := eAt_lo e
  have a1 := eAt_hi e
  obtain ⟨j, hj⟩ := Int.eq_ofNat_of_zero_le a0
  have hj' : lo32 e / 1048576 = (j : Int) := hj
  by_cases hi : (j : Int) < n
  · have hjn : j < n := by omega
    have hget : getF n g j = g j := by unfold getF; rw [if_pos ⟨by omega, hi⟩]; rfl
    have hib : inB n j = true := decide_eq_true ⟨by omega, hi⟩
    obtain ⟨g0, g1⟩ := hw j
    have HE : Hid (eAt e = j) := hj
    by_cases hs : g j / 4294967296 < e / 4294967296
    · have HS : Hid (g j / 4294967296 < e / 4294967296) := hs
      clear hj
      go_enter Try.func70, Try.ntmps70
      go_wp2_with (fail)
      refine (entryOf_any e w e0 e1).mono ?_
      rintro r w1 ⟨rfl, -, B1⟩
      have f1 := h.later B1
      have C1 : Below b w w1 := B1.mono (by omega)
      clear B1 h
      rw [hj']
      go_wp2_with (fail)
      refine (seek_any _ n cap g j w1 f1.sl (fun h => by cases h) hn).mono ?_
      rintro r w2 ⟨rfl, B2⟩
      rw [hget, hib]
      have f2 := f1.later B2
      have C2 : Below b w w2 := C1.trans (B2.mono (Nat.le_trans (by omega) C1.size))
      clear B2 f1 C1 hget hib
      have cc := f2 j hjn
      have HF : Hid (Fk .u64 n w2 b g) := f2
      clear f2
      go_wp2_with (first | (go_at_call 118; refine (st_any _ w2 ?_ ?_).mono ?_; (assumption); (assumption); rintro r w2 ⟨rfl, rfl⟩) | (go_at_call 119; refine (pack_any _ _ w2).mono ?_; rintro r w2 ⟨rfl, rfl⟩))
      exact bodyPost_end (v := .tuple #[]) (by simp [results, Try.results70]) rfl ⟨rfl, HF.out.set j _ _ (putF_hit HE.out hjn HS.out) (fun i _ hne => putF_far HE.out hne), C2.setCell (Nat.le_refl _) _⟩
    · have HS : Hid (¬ g j / 4294967296 < e / 4294967296) := hs
      have hsb : decide (g j / 4294967296 < e / 4294967296) = false := by simpa using hs
      clear hj hs
      go_enter Try.func70, Try.ntmps70
      go_wp2_with (fail)
      refine (entryOf_any e w e0 e1).mono ?_
      rintro r w1 ⟨rfl, -, B1⟩
      have f1 := h.later B1
      have C1 : Below b w w1 := B1.mono (by omega)
      clear B1 h
      rw [hj']
      go_wp2_with (fail)
      refine (seek_any _ n cap g j w1 f1.sl (fun h => by cases h) hn).mono ?_
      rintro r w2 ⟨rfl, B2⟩
      rw [hget, hib]
      have f2 := f1.later B2
      have C2 : Below b w w2 := C1.trans (B2.mono (Nat.le_trans (by omega) C1.size))
      clear B2 f1 C1 hget hib
      have cc := f2 j hjn
      have HF : Hid (Fk .u64 n w2 b g) := f2
      clear f2
      go_wp2_with (first | (go_at_call 118; refine (st_any _ w2 ?_ ?_).mono ?_; (assumption); (assumption); rintro r w2 ⟨rfl, rfl⟩) | (go_at_call 119; refine (pack_any _ _ w2).mono ?_; rintro r w2 ⟨rfl, rfl⟩))
      exact bodyPost_end (v := .tuple #[]) (by simp [results, Try.results70]) rfl ⟨rfl, by rw [putF_old HE.out (by have := HS.out; omega)]; exact HF.out, C2⟩
  · have HI : Hid (¬ eAt e < n) := by rw [hj]; exact hi
    have hib : inB n j = false := decide_eq_false (fun h => hi h.2)
    have hget : getF n g j = 0 := by unfold getF; rw [if_neg (fun h => hi h.2)]
    have hjn : ¬ j < n := by omega
    clear hj
    go_enter Try.func70, Try.ntmps70
    go_wp2_with (fail)
    refine (entryOf_any e w e0 e1).mono ?_
    rintro r w1 ⟨rfl, -, B1⟩
    have f1 := h.later B1
    have C1 : Below b w w1 := B1.mono (by omega)
    clear B1 h
    rw [hj']
    go_wp2_with (fail)
    refine (seek_any _ n cap g j w1 f1.sl (fun h => by cases h) hn).mono ?_
    rintro r w2 ⟨rfl, B2⟩
    rw [hget, hib]
    have f2 := f1.later B2
    have C2 : Below b w w2 := C1.trans (B2.mono (Nat.le_trans (by omega) C1.size))
    clear B2 f1 C1 hget hib
    have HF : Hid (Fk .u64 n w2 b g) := f2
    clear f2 hi
    go_wp2_with (fail)
    exact bodyPost_end (v := .tuple #[]) (by simp [results, Try.results70]) rfl ⟨rfl, by rw [putF_out (by have := HI.out; omega)]; exact HF.out, C2⟩

set_option maxHeartbeats 4000000 in
theorem sput_any (b n cap : Nat) (g : Nat → Int) (e : Int) (w : World) (h : Fk .u64 n w b g) (hb : b < w.heap.size) (hn : n ≤ 1000000000) (hw : W64 g) (e0 : 0 ≤ e) (e1 : e < 18446744073709551616) :
    Calls Try.prog 68 #[.slice (some ⟨b, 0, none⟩) n cap, .int .u64 e] w fun r w' => r = .returned (.slice (some ⟨b, 0, none⟩) n cap) ∧ Fk .u64 n w' b (putF n g e) ∧ Below b w w' := by
  have a0 := eAt_lo e
  have a1 := eAt_hi e
  obtain ⟨j, hj⟩ := Int.eq_ofNat_of_zero_le a0
  have hj' : lo32 e / 1048576 = (j : Int) := hj
  by_cases hi : (j : Int) < n
  · have hjn : j < n := by omega
    have hget : getF n g j = g j := by unfold getF; rw [if_pos ⟨by omega, hi⟩]; rfl
    have hib : inB n j = true := decide_eq_true ⟨by omega, hi⟩
    obtain ⟨g0, g1⟩ := hw j
    have HE : Hid (eAt e = j) := hj
    by_cases hs : g j / 4294967296 < e / 4294967296
    · have HS : Hid (g j / 4294967296 < e / 4294967296) := hs
      clear hj
      go_enter Try.func68, Try.ntmps68
      go_wp2_with (fail)
      refine (sentryOf_any e w e0 e1).mono ?_
      rintro r w2 ⟨rfl, rfl⟩
      have f2 := h
      clear h
      rw [hj']
      have cc := f2 j hjn
      have HF : Hid (Fk .u64 n w2 b g) := f2
      clear f2
      go_wp2_with (first | (go_at_call 114; refine (sst_any _ w2 ?_ ?_).mono ?_; (assumption); (assumption); rintro r w2 ⟨rfl, rfl⟩) | (go_at_call 115; refine (spack_any _ _ w2).mono ?_; rintro r w2 ⟨rfl, rfl⟩))
      go_ret; exact ⟨rfl, HF.out.set j _ _ (putF_hit HE.out hjn HS.out) (fun i _ hne => putF_far HE.out hne), (Below.refl b _).setCell (Nat.le_refl _) _⟩
    · have HS : Hid (¬ g j / 4294967296 < e / 4294967296) := hs
      have hsb : decide (g j / 4294967296 < e / 4294967296) = false := by simpa using hs
      clear hj hs
      go_enter Try.func68, Try.ntmps68
      go_wp2_with (fail)
      refine (sentryOf_any e w e0 e1).mono ?_
      rintro r w2 ⟨rfl, rfl⟩
      have f2 := h
      clear h
      rw [hj']
      have cc := f2 j hjn
      have HF : Hid (Fk .u64 n w2 b g) := f2
      clear f2
      go_wp2_with (first | (go_at_call 114; refine (sst_any _ w2 ?_ ?_).mono ?_; (assumption); (assumption); rintro r w2 ⟨rfl, rfl⟩) | (go_at_call 115; refine (spack_any _ _ w2).mono ?_; rintro r w2 ⟨rfl, rfl⟩))
      go_ret; exact ⟨rfl, by rw [putF_old HE.out (by have := HS.out; omega)]; exact HF.out, (Below.refl b _)⟩
  · have HI : Hid (¬ eAt e < n) := by rw [hj]; exact hi
    have hib : inB n j = false := decide_eq_false (fun h => hi h.2)
    have hget : getF n g j = 0 := by unfold getF; rw [if_neg (fun h => hi h.2)]
    have hjn : ¬ j < n := by omega
    clear hj
    go_enter Try.func68, Try.ntmps68
    go_wp2_with (fail)
    refine (sentryOf_any e w e0 e1).mono ?_
    rintro r w2 ⟨rfl, rfl⟩
    have f2 := h
    clear h
    rw [hj']
    have HF : Hid (Fk .u64 n w2 b g) := f2
    clear f2 hi
    go_wp2_with (fail)
    go_ret; exact ⟨rfl, by rw [putF_out (by have := HI.out; omega)]; exact HF.out, (Below.refl b _)⟩

end Go.Proofs.Ytipbijcmpbefpaa.Plat

/- No unit stands twice in the lists of a book that is ok; so the links are what the lists say: over no program. -/
import Derived.Test.YtipbijcmpbefpaaLay5
namespace Go.Proofs.Ytipbijcmpbefpaa.Book
open Go.ChangeShapes Go.WideShapes Go.ChangeAt Go.RowKit
open Go.Proofs.Ytipbijcmpbefpaa.Aid Go.Proofs.Ytipbijcmpbefpaa.Lst
set_option linter.unusedVariables false

theorem cnt_one {f : Nat → Int} {a : Int} : ∀ {n i : Nat}, i < n → f i = a → 1 ≤ cnt f a n
  | n + 1, i, hi, e => by
    simp only [cnt]
    by_cases h : i = n
    · subst h; rw [if_pos e]; omega
    · have := cnt_one (f := f) (a := a) (show i < n by omega) e
      omega
theorem cnt_two {f : Nat → Int} {a : Int} : ∀ {n i j : Nat}, i < j → j < n → f i = a → f j = a → 2 ≤ cnt f a n
  | n + 1, i, j, hij, hj, ei, ej => by
    simp only [cnt]
    by_cases h : j = n
    · subst h
      have := cnt_one (f := f) (a := a) hij ei
      rw [if_pos ej]; omega
    · have := cnt_two (f := f) (a := a) hij (show j < n by omega) ei ej
      omega
theorem hd_once {b : Bx} (ok : OkP b) {k : Nat} (hk : k < 4) {i : Nat} (hi : i < (b.hd k).n) : cnt (b.hd k).f ((b.hd k).f i) (b.hd k).n ≤ 1 := by
  obtain ⟨u0, u1, u2, u3⟩ := (ok.2.1 k hk).2 i hi
  generalize (b.hd k).f i = u at *
  have nn := ok.nums
  have hq : (u / 8).toNat < b.p.n := by omega
  have hu : (u % 8).toNat < 8 := by omega
  have eu : ((u / 8).toNat : Int) * 8 + ((u % 8).toNat : Int) = u := by omega
  rcases ok.2.2 (u / 8).toNat hq with ⟨h, _⟩ | ⟨m, hm, h, hr, _⟩ | ⟨h, _⟩ | h
  · omega
  · have e : m = k := by omega
    subst e
    have := hr (u % 8).toNat hu
    unfold RoomU at this
    rw [eu] at this
    omega
  · omega
  · have := h.1; omega
theorem hd_inj {b : Bx} (ok : OkP b) {k : Nat} (hk : k < 4) {i j : Nat} (hi : i < (b.hd k).n) (hj : j < (b.hd k).n) (e : (b.hd k).f i = (b.hd k).f j) : i = j := by
  have h1 := hd_once ok hk hi
  rcases Nat.lt_trichotomy i j with h | h | h
  · have := cnt_two (a := (b.hd k).f i) h hj rfl e.symm; omega
  · exact h
  · have := cnt_two (a := (b.hd k).f i) h hi e.symm rfl; omega
theorem hd_far {b : Bx} (ok : OkP b) {k k' : Nat} (hk : k < 4) (hk' : k' < 4) (hne : k ≠ k') {i j : Nat} (hi : i < (b.hd k).n) (hj : j < (b.hd k').n) : (b.hd k).f i ≠ (b.hd k').f j := fun e => by
  have h1 := ((ok.2.1 k hk).2 i hi).2.2.1
  have h2 := ((ok.2.1 k' hk').2 j hj).2.2.1
  rw [e, h2] at h1
  omega

theorem lk1_far {x : Sx} {g : Nat → Int} {u : Nat} : ∀ i, (∀ j, j < i → (x.f j).toNat ≠ u) → lk1 x g i u = g u
  | 0, _ => rfl
  | i + 1, h => by
    simp only [lk1, upd]
    rw [if_neg (fun e => h i (by omega) e.symm)]
    exact lk1_far i (fun j hj => h j (by omega))
theorem lk1_in {x : Sx} {g : Nat → Int} {j : Nat} : ∀ i, j < i → (∀ a c, a < i → c < i → (x.f a).toNat = (x.f c).toNat → a = c) → lk1 x g i (x.f j).toNat = nx x (j + 1)
  | i + 1, hj, h => by
    simp only [lk1, upd]
    by_cases e : j = i
    · subst e; rw [if_pos rfl]
    · rw [if_neg (fun q => e (h j i (by omega) (by omega) q))]
      exact lk1_in i (by omega) (fun a c ha hc => h a c (by omega) (by omega))

/- The units of a list, of a book that is ok, as places. -/
theorem hd_places {b : Bx} (ok : OkP b) {k : Nat} (hk : k < 4) : ∀ a c, a < (b.hd k).n → c < (b.hd k).n → ((b.hd k).f a).toNat = ((b.hd k).f c).toNat → a = c := fun a c ha hc e => by
  have h1 := ((ok.2.1 k hk).2 a ha).1
  have h2 := ((ok.2.1 k hk).2 c hc).1
  exact hd_inj ok hk ha hc (by omega)
theorem hd_apart {b : Bx} (ok : OkP b) {k k' : Nat} (hk : k < 4) (hk' : k' < 4) (hne : k ≠ k') {i j : Nat} (hi : i < (b.hd k).n) (hj : j < (b.hd k').n) : ((b.hd k).f i).toNat ≠ ((b.hd k').f j).toNat := fun e => by
  have h1 := ((ok.2.1 k hk).2 i hi).1
  have h2 := ((ok.2.1 k' hk').2 j hj).1
  exact hd_far ok hk hk' hne hi hj (by omega)

theorem lkK_in {b : Bx} (ok : OkP b) {k i : Nat} (hk : k < 4) (hi : i < (b.hd k).n) : ∀ m, k < m → m ≤ 4 → lkK b m ((b.hd k).f i).toNat = nx (b.hd k) (i + 1)
  | m + 1, hm, h4 => by
    simp only [lkK]
    by_cases e : k = m
    · subst e
      exact lk1_in _ hi (hd_places ok hk)
    · rw [lk1_far _ (fun j hj => hd_apart ok (by omega) hk (fun q => e q.symm) hj hi)]
      exact lkK_in ok hk hi m (by omega) (by omega)
theorem lkK_out {b : Bx} {u : Nat} : ∀ m, (∀ k, k < m → ∀ i, i < (b.hd k).n → ((b.hd k).f i).toNat ≠ u) → lkK b m u = 0
  | 0, _ => rfl
  | m + 1, h => by
    simp only [lkK]
    rw [lk1_far _ (h m (by omega))]
    exact lkK_out m (fun k hk => h k (by omega))

end Go.Proofs.Ytipbijcmpbefpaa.Book

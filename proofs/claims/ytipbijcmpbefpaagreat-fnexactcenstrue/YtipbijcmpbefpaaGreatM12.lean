import Derived.Test.YtipbijcmpbefpaaGreatM11

/- No unit stands twice in the lists of a book that is ok; so the links are what the lists say: over no program. -/
namespace Go.Proofs.YtipbijcmpbefpaaGreat.Book
open Go.ChangeShapes Go.WideShapes Go.ChangeAt Go.RowKit
open Go.Proofs.YtipbijcmpbefpaaGreat.Aid Go.Proofs.YtipbijcmpbefpaaGreat.Lst
set_option linter.unusedVariables false

theorem cnt_one {f : Nat → Int} {a : Int} : ∀ {n i : Nat}, i < n → f i = a → 1 ≤ cnt f a n
  | n + 1, i, hi, e => by
    simp only [cnt]
    by_cases h : i = n
    · subst h; rw [if_pos e]; omega
    · have := cnt_one (f := f) (a := a) (show i < n by omega) e
      omega
theorem cnt_two {f : Nat → Int} {a : Int} : ∀ {n i j : Nat}, i < j → j < n → f i = a → f j = a → 2 ≤ cnt f a n
  | n + 1, i, j, hij, hj, ei, ej => by
    simp only [cnt]
    by_cases h : j = n
    · subst h
      have := cnt_one (f := f) (a := a) hij ei
      rw [if_pos ej]; omega
    · have := cnt_two (f := f) (a := a) hij (show j < n by omega) ei ej
      omega
theorem hd_once {b : Bx} (ok : OkP b) {k : Nat} (hk : k < 4) {i : Nat} (hi : i < (b.hd k).n) : cnt (b.hd k).f ((b.hd k).f i) (b.hd k).n ≤ 1 := by
  obtain ⟨u0, u1, u2, u3⟩ := (ok.2.1 k hk).2 i hi
  generalize (b.hd k).f i = u at *
  have nn := ok.nums
  have hq : (u / 8).toNat < b.p.n := by omega
  have hu : (u % 8).toNat < 8 := by omega
  have eu : ((u / 8).toNat : Int) * 8 + ((u % 8).toNat : Int) = u := by omega
  rcases ok.2.2 (u / 8).toNat hq with ⟨h, _⟩ | ⟨m, hm, h, hr, _⟩ | ⟨h, _⟩ | h
  · omega
  · have e : m = k := by omega
    subst e
    have := hr (u % 8).toNat hu
    unfold RoomU at this
    rw [eu] at this
    omega
  · omega
  · have := h.1; omega
theorem hd_inj {b : Bx} (ok : OkP b) {k : Nat} (hk : k < 4) {i j : Nat} (hi : i < (b.hd k).n) (hj : j < (b.hd k).n) (e : (b.hd k).f i = (b.hd k).f j) : i = j := by
  have h1 := hd_once ok hk hi
  rcases Nat.lt_trichotomy i j with h | h | h
  · have := cnt_two (a := (b.hd k).f i) h hj rfl e.symm; omega
  · exact h
  · have := cnt_two (a := (b.hd k).f i) h hi e.symm rfl; omega
theorem hd_far {b : Bx} (ok : OkP b) {k k' : Nat} (hk : k < 4) (hk' : k' < 4) (hne : k ≠ k') {i j : Nat} (hi : i < (b.hd k).n) (hj : j < (b.hd k').n) : (b.hd k).f i ≠ (b.hd k').f j := fun e => by
  have h1 := ((ok.2.1 k hk).2 i hi).2.2.1
  have h2 := ((ok.2.1 k' hk').2 j hj).2.2.1
  rw [e, h2] at h1
  omega

theorem lk1_far {x : Sx} {g : Nat → Int} {u : Nat} : ∀ i, (∀ j, j < i → (x.f j).toNat ≠ u) → lk1 x g i u = g u
  | 0, _ => rfl
  | i + 1, h => by
    simp only [lk1, upd]
    rw [if_neg (fun e => h i (by omega) e.symm)]
    exact lk1_far i (fun j hj => h j (by omega))
theorem lk1_in {x : Sx} {g : Nat → Int} {j : Nat} : ∀ i, j < i → (∀ a c, a < i → c < i → (x.f a).toNat = (x.f c).toNat → a = c) → lk1 x g i (x.f j).toNat = nx x (j + 1)
  | i + 1, hj, h => by
    simp only [lk1, upd]
    by_cases e : j = i
    · subst e; rw [if_pos rfl]
    · rw [if_neg (fun q => e (h j i (by omega) (by omega) q))]
      exact lk1_in i (by omega) (fun a c ha hc => h a c (by omega) (by omega))

/- The units of a list, of a book that is ok, as places. -/
theorem hd_places {b : Bx} (ok : OkP b) {k : Nat} (hk : k < 4) : ∀ a c, a < (b.hd k).n → c < (b.hd k).n → ((b.hd k).f a).toNat = ((b.hd k).f c).toNat → a = c := fun a c ha hc e => by
  have h1 := ((ok.2.1 k hk).2 a ha).1
  have h2 := ((ok.2.1 k hk).2 c hc).1
  exact hd_inj ok hk ha hc (by omega)
theorem hd_apart {b : Bx} (ok : OkP b) {k k' : Nat} (hk : k < 4) (hk' : k' < 4) (hne : k ≠ k') {i j : Nat} (hi : i < (b.hd k).n) (hj : j < (b.hd k').n) : ((b.hd k).f i).toNat ≠ ((b.hd k').f j).toNat := fun e => by
  have h1 := ((ok.2.1 k hk).2 i hi).1
  have h2 := ((ok.2.1 k' hk').2 j hj).1
  exact hd_far ok hk hk' hne hi hj (by omega)

theorem lkK_in {b : Bx} (ok : OkP b) {k i : Nat} (hk : k < 4) (hi : i < (b.hd k).n) : ∀ m, k < m → m ≤ 4 → lkK b m ((b.hd k).f i).toNat = nx (b.hd k) (i + 1)
  | m + 1, hm, h4 => by
    simp only [lkK]
    by_cases e : k = m
    · subst e
      exact lk1_in _ hi (hd_places ok hk)
    · rw [lk1_far _ (fun j hj => hd_apart ok (by omega) hk (fun q => e q.symm) hj hi)]
      exact lkK_in ok hk hi m (by omega) (by omega)
theorem lkK_out {b : Bx} {u : Nat} : ∀ m, (∀ k, k < m → ∀ i, i < (b.hd k).n → ((b.hd k).f i).toNat ≠ u) → lkK b m u = 0
  | 0, _ => rfl
  | m + 1, h => by
    simp only [lkK]
    rw [lk1_far _ (h m (by omega))]
    exact lkK_out m (fun k hk => h k (by omega))

end Go.Proofs.YtipbijcmpbefpaaGreat.Book

/- The values as the specification lays them, one behind the other, are the values: over no program. -/
namespace Go.Proofs.YtipbijcmpbefpaaGreat.Book
open Go.ChangeShapes Go.WideShapes Go.ChangeAt Go.RowKit
open Go.Proofs.YtipbijcmpbefpaaGreat.Aid Go.Proofs.YtipbijcmpbefpaaGreat.Lst
set_option linter.unusedVariables false

/- So many slots, pages and owners have been laid. -/
def pv (b : Bx) (s p a c d : Nat) (j : Nat) : Int := if (3 ≤ j ∧ j < 3 + a) ∨ (3 + s + s + 4 ≤ j ∧ j < 3 + s + s + 4 + c) ∨ (3 + s + s + 4 + p ≤ j ∧ j < 3 + s + s + 4 + p + d) then layF b s p j else 0
/- Where the room number i of a list is told of: at its head, or at the link of the room ahead. -/
def pos (b : Bx) (s p k : Nat) : Nat → Nat
  | 0 => 3 + s + s + k
  | i + 1 => 3 + s + s + 4 + p + p * 8 + ((b.hd k).f i).toNat
def spI (b : Bx) (s p k : Nat) (g : Nat → Int) : Nat → Nat → Int
  | 0 => g
  | i + 1 => upd (spI b s p k g i) (pos b s p k i) ((b.hd k).f i + 1)
def spK (b : Bx) (s p : Nat) : Nat → Nat → Int
  | 0 => pv b s p s p (p * 8)
  | k + 1 => spI b s p k (spK b s p k) (b.hd k).n

theorem pv_none {b : Bx} {s p : Nat} : pv b s p 0 0 0 = fun _ => 0 := by
  funext j; unfold pv; rw [if_neg (by omega)]
theorem pv_reg {b : Bx} {s p a : Nat} (ha : a < s) {v : Int} (h : layF b s p (3 + a) = v) : upd (pv b s p a 0 0) (3 + a) v = pv b s p (a + 1) 0 0 := by
  funext j
  unfold upd pv
  by_cases e : j = 3 + a
  · subst e; rw [if_pos rfl, if_pos (by omega), h]
  · rw [if_neg e]
    by_cases g : 3 ≤ j ∧ j < 3 + a
    · rw [if_pos (by omega), if_pos (by omega)]
    · rw [if_neg (by omega), if_neg (by omega)]
theorem pv_page {b : Bx} {s p c : Nat} (hc : c < p) {v : Int} (h : layF b s p (3 + s + s + 4 + c) = v) : upd (pv b s p s c 0) (3 + s + s + 4 + c) v = pv b s p s (c + 1) 0 := by
  funext j
  unfold upd pv
  by_cases e : j = 3 + s + s + 4 + c
  · subst e; rw [if_pos rfl, if_pos (by omega), h]
  · rw [if_neg e]
    by_cases g : (3 ≤ j ∧ j < 3 + s) ∨ (3 + s + s + 4 ≤ j ∧ j < 3 + s + s + 4 + c)
    · rw [if_pos (by omega), if_pos (by omega)]
    · rw [if_neg (by omega), if_neg (by omega)]
theorem pv_tag {b : Bx} {s p d : Nat} (hd : d < p * 8) {v : Int} (h : layF b s p (3 + s + s + 4 + p + d) = v) : upd (pv b s p s p d) (3 + s + s + 4 + p + d) v = pv b s p s p (d + 1) := by
  funext j
  unfold upd pv
  by_cases e : j = 3 + s + s + 4 + p + d
  · subst e; rw [if_pos rfl, if_pos (by omega), h]
  · rw [if_neg e]
    by_cases g : (3 ≤ j ∧ j < 3 + s) ∨ (3 + s + s + 4 ≤ j ∧ j < 3 + s + s + 4 + p) ∨ (3 + s + s + 4 + p ≤ j ∧ j < 3 + s + s + 4 + p + d)
    · rw [if_pos g, if_pos (by omega)]
    · rw [if_neg g, if_neg (by omega)]

theorem pos_inj {b : Bx} (ok : OkP b) {s p k k' i i' : Nat} (hk : k < 4) (hk' : k' < 4) (hi : i < (b.hd k).n) (hi' : i' < (b.hd k').n) (e : pos b s p k i = pos b s p k' i') : k = k' ∧ i = i' := by
  cases i with
  | zero =>
    cases i' with
    | zero => simp only [pos] at e; exact ⟨by omega, rfl⟩
    | succ j' => simp only [pos] at e; omega
  | succ j =>
    cases i' with
    | zero => simp only [pos] at e; omega
    | succ j' =>
      simp only [pos] at e
      have e' : ((b.hd k).f j).toNat = ((b.hd k').f j').toNat := by omega
      by_cases q : k = k'
      · subst q
        exact ⟨rfl, by have := hd_places ok hk j j' (by omega) (by omega) e'; omega⟩
      · exact absurd e' (hd_apart ok hk hk' q (by omega) (by omega))
theorem spI_far {b : Bx} {s p k : Nat} {g : Nat → Int} {j : Nat} : ∀ i, (∀ i', i' < i → pos b s p k i' ≠ j) → spI b s p k g i j = g j
  | 0, _ => rfl
  | i + 1, h => by
    simp only [spI, upd]
    rw [if_neg (fun e => h i (by omega) e.symm)]
    exact spI_far i (fun i' hi => h i' (by omega))
theorem spI_in {b : Bx} (ok : OkP b) {s p k : Nat} (hk : k < 4) {g : Nat → Int} {i' : Nat} : ∀ i, i ≤ (b.hd k).n → i' < i → spI b s p k g i (pos b s p k i') = (b.hd k).f i' + 1
  | i + 1, hn, h => by
    simp only [spI, upd]
    by_cases e : i' = i
    · subst e; rw [if_pos rfl]
    · rw [if_neg (fun q => e (pos_inj ok hk hk (by omega) (by omega) q).2)]
      exact spI_in ok hk i (by omega) (by omega)
theorem spK_in {b : Bx} (ok : OkP b) {s p k i : Nat} (hk : k < 4) (hi : i < (b.hd k).n) : ∀ m, k < m → m ≤ 4 → spK b s p m (pos b s p k i) = (b.hd k).f i + 1
  | m + 1, hm, h4 => by
    simp only [spK]
    by_cases e : k = m
    · subst e; exact spI_in ok hk _ (Nat.le_refl _) hi
    · rw [spI_far _ (fun i' hi' q => e (pos_inj ok (by omega) hk hi' hi q).1.symm)]
      exact spK_in ok hk hi m (by omega) (by omega)
theorem spK_far {b : Bx} {s p j : Nat} : ∀ m, (∀ k, k < m → ∀ i, i < (b.hd k).n → pos b s p k i ≠ j) → spK b s p m j = pv b s p s p (p * 8) j
  | 0, _ => rfl
  | m + 1, h => by
    simp only [spK]
    rw [spI_far _ (h m (by omega))]
    exact spK_far m (fun k hk => h k (by omega))

theorem sp_lay {b : Bx} (ok : OkP b) {s p : Nat} {j : Nat} : spK b s p 4 j = layF b s p j := by
  by_cases hh : 3 + s + s ≤ j ∧ j < 3 + s + s + 4
  · obtain ⟨k, rfl⟩ : ∃ k, j = 3 + s + s + k := ⟨j - (3 + s + s), by omega⟩
    have hk : k < 4 := by omega
    rw [lay_head hk]
    unfold nx
    by_cases h0 : 0 < (b.hd k).n
    · rw [if_pos h0]
      exact spK_in ok (i := 0) hk h0 4 hk (Nat.le_refl _)
    · rw [if_neg h0, spK_far 4 (fun k' hk' i hi q => by
        cases i with
        | zero => simp only [pos] at q; have : k' = k := by omega
                  subst this; omega
        | succ i => simp only [pos] at q; omega)]
      unfold pv
      rw [if_neg (by omega)]
  · by_cases hl : 3 + s + s + 4 + p + p * 8 ≤ j
    · obtain ⟨u, rfl⟩ : ∃ u, j = 3 + s + s + 4 + p + p * 8 + u := ⟨j - (3 + s + s + 4 + p + p * 8), by omega⟩
      rw [lay_link]
      by_cases hx : ∃ k i, k < 4 ∧ i < (b.hd k).n ∧ ((b.hd k).f i).toNat = u
      · obtain ⟨k, i, hk, hi, rfl⟩ := hx
        rw [lkK_in ok hk hi 4 hk (Nat.le_refl _)]
        unfold nx
        by_cases hn : i + 1 < (b.hd k).n
        · rw [if_pos hn]
          exact spK_in ok (i := i + 1) hk hn 4 hk (Nat.le_refl _)
        · rw [if_neg hn, spK_far 4 (fun k' hk' i' hi' q => by
            cases i' with
            | zero => simp only [pos] at q; omega
            | succ i' =>
              simp only [pos] at q
              have e : ((b.hd k').f i').toNat = ((b.hd k).f i).toNat := by omega
              by_cases c : k' = k
              · subst c
                have := hd_places ok hk' i' i (by omega) hi e
                omega
              · exact hd_apart ok hk' hk c (by omega) hi e)]
          unfold pv
          rw [if_neg (by omega)]
      · rw [lkK_out 4 (fun k hk i hi q => hx ⟨k, i, hk, hi, q⟩), spK_far 4 (fun k' hk' i' hi' q => by
          cases i' with
          | zero => simp only [pos] at q; omega
          | succ i' => simp only [pos] at q; exact hx ⟨k', i', hk', by omega, by omega⟩)]
        unfold pv
        rw [if_neg (by omega)]
    · rw [spK_far 4 (fun k' hk' i' hi' q => by
        cases i' with
        | zero => simp only [pos] at q; omega
        | succ i' => simp only [pos] at q; omega)]
      unfold pv
      split
      · rfl
      · unfold layF
        by_cases h1 : j < 3
        · rw [if_pos h1]
        · rw [if_neg h1, if_neg (by omega)]
          by_cases h2 : j < 3 + s + s
          · rw [if_pos h2]
          · omega

end Go.Proofs.YtipbijcmpbefpaaGreat.Book

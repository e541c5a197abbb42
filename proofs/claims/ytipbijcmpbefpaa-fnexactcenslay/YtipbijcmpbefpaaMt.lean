/- The program's way through the pages is the specification's question of each page. No program here. -/
import Derived.Test.YtipbijcmpbefpaaIm5
namespace Go.Proofs.Ytipbijcmpbefpaa.Book
open Go.ChangeShapes Go.WideShapes Go.ChangeAt Go.RowKit
open Go.Proofs.Ytipbijcmpbefpaa.Aid Go.Proofs.Ytipbijcmpbefpaa.Lst
set_option maxRecDepth 100000
set_option linter.unusedVariables false

theorem cnt_zero (f : Nat → Int) (a : Int) : ∀ n, (∀ j, j < n → f j ≠ a) → cnt f a n = 0
  | 0, _ => rfl
  | n + 1, h => by
    have e := cnt_zero f a n (fun j hj => h j (by omega))
    simp only [cnt, e, if_neg (h n (by omega))]

theorem ownC_zero (o : Nat → Int) (u : Nat) : ∀ n, ownC o u n = 0 ↔ ∀ j, j < n → o (u + j) = 0
  | 0 => ⟨fun _ j h => absurd h (Nat.not_lt_zero _), fun _ => rfl⟩
  | n + 1 => by
    have e := ownC_zero o u n
    simp only [ownC]
    constructor
    · intro h j hj
      have h1 : ownC o u n = 0 := by omega
      by_cases ej : j = n
      · subst ej
        by_cases z : o (u + j) = 0
        · exact z
        · rw [if_neg z] at h; omega
      · exact e.1 h1 j (by omega)
    · intro h
      rw [if_pos (h n (by omega)), e.2 (fun j hj => h j (by omega))]

/- No unit of a book has an owner below 0. -/
def NonNeg (b : Bx) : Prop := ∀ u, u < b.o.n → 0 ≤ b.o.f u

theorem free_own {b : Bx} (hb : NonNeg b) {q : Nat} (hq : (q + 1) * 8 ≤ b.o.n) : FreeP b.o.f q 0 ↔ ownC b.o.f (q * 8) 8 = 0 := by
  rw [ownC_zero]
  constructor
  · intro h j hj
    have h1 := h j (by omega) hj
    have h2 := hb (q * 8 + j) (by omega)
    omega
  · intro h u _ hu
    have := h u hu
    omega

theorem beg_page {b : Bx} {q m u : Nat} (hm4 : m < 4) (hm : b.p.f q = m + 1) (hq : (q + 1) * 8 ≤ b.o.n) (hu : u < 8) : BegP b m ((q : Int) * 8 + u) ↔ (u : Int) % sz m ≤ 0 := by
  have e1 : (((q : Int) * 8 + u) / 8).toNat = q := by omega
  have e2 : ((q : Int) * 8 + u) % sz m = (u : Int) % sz m := by
    obtain rfl | rfl | rfl | rfl : m = 0 ∨ m = 1 ∨ m = 2 ∨ m = 3 := by omega
    all_goals simp [sz]
    all_goals omega
  unfold BegP
  rw [e1, e2]
  exact ⟨fun h => h.2.2.2, fun h => ⟨by omega, by omega, hm, h⟩⟩

theorem cnt_other {b : Bx} {k : Nat} (hL : ListP b k (b.hd k).n) {a : Int} (h : b.p.f (a / 8).toNat ≠ k + 1) : cnt (b.hd k).f a (b.hd k).n = 0 :=
  cnt_zero _ _ _ (fun j hj e => by
    have := (hL j hj).2.2.1
    rw [e] at this
    exact h this)

theorem tm_page {b : Bx} (hL : ListsP b 4) {q m u : Nat} (hm4 : m < 4) (hm : b.p.f q = m + 1) (hu : u < 8) : tmK b ((q : Int) * 8 + u) 4 = cnt (b.hd m).f ((q : Int) * 8 + u) (b.hd m).n := by
  have e1 : (((q : Int) * 8 + u) / 8).toNat = q := by omega
  have z : ∀ k, k < 4 → k ≠ m → cnt (b.hd k).f ((q : Int) * 8 + u) (b.hd k).n = 0 := fun k hk hne => cnt_other (hL k hk).2 (by rw [e1, hm]; omega)
  have u4 : tmK b ((q : Int) * 8 + u) 4 = 0 + cnt (b.hd 0).f ((q : Int) * 8 + u) (b.hd 0).n + cnt (b.hd 1).f ((q : Int) * 8 + u) (b.hd 1).n + cnt (b.hd 2).f ((q : Int) * 8 + u) (b.hd 2).n + cnt (b.hd 3).f ((q : Int) * 8 + u) (b.hd 3).n := rfl
  rw [u4]
  obtain rfl | rfl | rfl | rfl : m = 0 ∨ m = 1 ∨ m = 2 ∨ m = 3 := by omega
  · rw [z 1 (by omega) (by omega), z 2 (by omega) (by omega), z 3 (by omega) (by omega)]; omega
  · rw [z 0 (by omega) (by omega), z 2 (by omega) (by omega), z 3 (by omega) (by omega)]; omega
  · rw [z 0 (by omega) (by omega), z 1 (by omega) (by omega), z 3 (by omega) (by omega)]; omega
  · rw [z 0 (by omega) (by omega), z 1 (by omega) (by omega), z 2 (by omega) (by omega)]; omega

theorem claim_room {b : Bx} (hb : NonNeg b) (hL : ListsP b 4) {q m u : Nat} (hm4 : m < 4) (hm : b.p.f q = m + 1) (hq : (q + 1) * 8 ≤ b.o.n) (hu : u < 8) :
    ClaimU b (fun u => (tmK b u 4 : Int)) q m u ↔ RoomU b.o.f (b.hd m) m q u := by
  have hB := beg_page hm4 hm hq hu
  have hT := tm_page hL hm4 hm hu
  have h0 := hb (q * 8 + u) (by omega)
  have ec : (((q * 8 + u : Nat)) : Int) = (q : Int) * 8 + u := by omega
  unfold ClaimU RoomU
  simp only [ec, hT]
  generalize cnt (b.hd m).f ((q : Int) * 8 + u) (b.hd m).n = c
  by_cases hz : b.o.f (q * 8 + u) = 0
  · rw [if_pos hz]
    by_cases hg : (u : Int) % sz m ≤ 0
    · have hB' := hB.2 hg
      constructor
      · rintro (h | h)
        · right; exact ⟨hg, .inr ⟨by omega, by omega⟩⟩
        · exact absurd hB' h.1
      · rintro (h | h)
        · omega
        · left; exact ⟨hB', by omega⟩
    · have hB' : ¬ BegP b m ((q : Int) * 8 + u) := fun h => hg (hB.1 h)
      constructor
      · rintro (h | h)
        · exact absurd h.1 hB'
        · left; exact ⟨by omega, by omega, by omega⟩
      · rintro (h | h)
        · right; exact ⟨hB', by omega⟩
        · omega
  · rw [if_neg hz]
    by_cases hg : (u : Int) % sz m ≤ 0
    · have hB' := hB.2 hg
      constructor
      · rintro (h | h)
        · right; exact ⟨hg, .inl ⟨by omega, by omega⟩⟩
        · exact absurd hB' h.1
      · rintro (h | h)
        · omega
        · left; exact ⟨hB', by omega⟩
    · have hB' : ¬ BegP b m ((q : Int) * 8 + u) := fun h => hg (hB.1 h)
      constructor
      · rintro (h | h)
        · exact absurd h.1 hB'
        · omega
      · rintro (h | h)
        · omega
        · omega

theorem rooms_iff {b : Bx} (hb : NonNeg b) (hL : ListsP b 4) {q m : Nat} (hm4 : m < 4) (hm : b.p.f q = m + 1) (hq : (q + 1) * 8 ≤ b.o.n) :
    RoomsI b (fun u => (tmK b u 4 : Int)) q m ↔ RoomsP b.o.f (b.hd m) m q := by
  have key : ClaimsP b (fun u => (tmK b u 4 : Int)) q m 8 ↔ ∀ u, u < 8 → RoomU b.o.f (b.hd m) m q u :=
    ⟨fun h u hu => (claim_room hb hL hm4 hm hq hu).1 (h u hu), fun h u hu => (claim_room hb hL hm4 hm hq hu).2 (h u hu)⟩
  constructor
  · rintro ⟨h1, h2⟩
    have h1' := key.1 h1
    refine ⟨h1', ?_⟩
    refine Classical.byContradiction fun hn => ?_
    have : ownC b.o.f (q * 8) 8 = 0 := (ownC_zero _ _ _).2 (fun j hj => by
      have h0 := hb (q * 8 + j) (by omega)
      by_cases z : b.o.f (q * 8 + j) = 0
      · exact z
      · rcases h1' j hj with h | h
        · omega
        · exact absurd ⟨j, hj, h.1, by omega⟩ hn)
    omega
  · rintro ⟨h1, u, hu, h2, h3⟩
    refine ⟨key.2 h1, ?_⟩
    refine Nat.pos_of_ne_zero fun hz => ?_
    have := (ownC_zero _ _ _).1 hz u hu
    omega

theorem large_iff {b : Bx} (hb : NonNeg b) (hon' : b.p.n * 8 ≤ b.o.n) {q : Nat} :
    LargeI b.p.f b.o.f b.p.n q ↔ WideP b.p.f b.o.f b.p.n q ∧ ∀ j : Nat, 1 ≤ j → (j : Int) < b.p.f q - 8 → FreeP b.o.f (q + j) 0 := by
  have key : 10 ≤ b.p.f q → b.p.f q ≤ 12 → ¬ b.o.f (q * 8) = 0 → (ownC b.o.f (q * 8) (8 * (b.p.f q - 8).toNat) = 1 ↔ ∀ t, t < 8 * (b.p.f q - 8).toNat - 1 → b.o.f (q * 8 + 1 + t) = 0) := fun h1 h2 h3 => by
    have e := ownC_add b.o.f (q * 8) 1 (8 * (b.p.f q - 8).toNat - 1)
    rw [show 1 + (8 * (b.p.f q - 8).toNat - 1) = 8 * (b.p.f q - 8).toNat by omega] at e
    have e1 : ownC b.o.f (q * 8) 1 = 1 := by
      show 0 + (if b.o.f (q * 8) = 0 then 0 else 1) = 1
      rw [if_neg h3]
    rw [← ownC_zero]
    omega
  constructor
  · rintro ⟨h1, h2, h3, h4, h5, h6⟩
    have hz := (key h1 h2 h4).1 h6
    refine ⟨⟨h1, h2, h3, h4, fun u hu1 hu2 => ?_, h5⟩, fun j hj1 hj2 u _ hu => ?_⟩
    · have := hz (u - 1) (by omega)
      rw [show q * 8 + 1 + (u - 1) = q * 8 + u by omega] at this
      omega
    · have := hz (8 * j + u - 1) (by omega)
      rw [show q * 8 + 1 + (8 * j + u - 1) = (q + j) * 8 + u by omega] at this
      omega
  · rintro ⟨⟨h1, h2, h3, h4, h5, h6⟩, h7⟩
    refine ⟨h1, h2, h3, h4, h6, (key h1 h2 h4).2 fun t ht => ?_⟩
    have h0 := hb (q * 8 + 1 + t) (by omega)
    by_cases t7 : t < 7
    · have := h5 (1 + t) (by omega) (by omega)
      rw [show q * 8 + (1 + t) = q * 8 + 1 + t by omega] at this
      omega
    · have := h7 ((1 + t) / 8) (by omega) (by omega) ((1 + t) % 8) (Nat.zero_le _) (by omega)
      rw [show (q + (1 + t) / 8) * 8 + (1 + t) % 8 = q * 8 + 1 + t by omega] at this
      omega

def Inv (b : Bx) (q : Nat) : Prop := PagesP b q ∧ (b.p.f q = 7 → ¬ RestP b.p.f b.o.f q)

theorem inv_zero (b : Bx) : Inv b 0 := ⟨fun q h => absurd h (Nat.not_lt_zero _), fun h g => by
  have e : b.p.f 0 > 8 := g.1
  omega⟩

theorem inv_small {b : Bx} {q : Nat} (h : Inv b q) (hp : PageP b q) (h7 : b.p.f q ≤ 4) : Inv b (q + 1) := ⟨h.1.up hp, fun e g => by
  have g1 := g.1
  rw [back_step (by omega) e, show q + 1 - 1 = q by omega, back_stay (.inr (by omega))] at g1
  omega⟩

theorem back_large {P : Nat → Int} {q : Nat} (h7 : P q ≠ 7) : ∀ n, (∀ j, 1 ≤ j → j ≤ n → P (q + j) = 7) → back P (q + n) = q
  | 0, _ => back_stay (.inr h7)
  | n + 1, h => by
    rw [back_step (by omega) (h (n + 1) (by omega) (Nat.le_refl _)), show q + (n + 1) - 1 = q + n by omega]
    exact back_large h7 n (fun j h1 h2 => h j h1 (by omega))

theorem inv_large {b : Bx} (hb : NonNeg b) (hon' : b.p.n * 8 ≤ b.o.n) {q n : Nat} (h : Inv b q) (hl : LargeI b.p.f b.o.f b.p.n q) (hn : b.p.f q = n + 8) : Inv b (q + n) := by
  obtain ⟨hw, hf⟩ := (large_iff hb hon').1 hl
  have h10 := hw.1
  have h7 : b.p.f q ≠ 7 := by omega
  have hr : ∀ j : Nat, 1 ≤ j → j < n → b.p.f (q + j) = 7 := fun j h1 h2 => hw.2.2.2.2.2 j h1 (by omega)
  refine ⟨fun p hp => ?_, fun e g => ?_⟩
  · by_cases c1 : p < q
    · exact h.1 p c1
    · by_cases c2 : p = q
      · subst c2; exact .inr (.inr (.inr hw))
      · obtain ⟨j, rfl⟩ : ∃ j, p = q + j := ⟨p - q, by omega⟩
        have hb1 : back b.p.f (q + j) = q := back_large h7 j (fun t h1 h2 => hr t h1 (by omega))
        refine .inr (.inr (.inl ⟨hr j (by omega) (by omega), ?_⟩))
        unfold RestP
        rw [hb1]
        exact ⟨by omega, by omega, hf j (by omega) (by omega)⟩
  · have hb1 : back b.p.f (q + n) = q := back_large h7 n (fun t h1 h2 => by
      by_cases et : t = n
      · subst et; exact e
      · exact hr t h1 (by omega))
    have g2 := g.2.1
    rw [hb1] at g2
    omega

theorem inv_none {b : Bx} (hb : NonNeg b) (hon' : b.p.n * 8 ≤ b.o.n) (hL : ListsP b 4) {q : Nat} (hq : q < b.p.n) (h : Inv b q)
    (h1 : ¬ (b.p.f q = 0 ∧ ownC b.o.f (q * 8) 8 = 0)) (h2 : ∀ m : Nat, m < 4 → b.p.f q = m + 1 → ¬ RoomsI b (fun u => (tmK b u 4 : Int)) q m) (h3 : ¬ LargeI b.p.f b.o.f b.p.n q) : ¬ PagesP b b.p.n := fun g => by
  have hq8 : (q + 1) * 8 ≤ b.o.n := by omega
  rcases g q hq with p | ⟨m, hm4, hm, p⟩ | p | p
  · exact h1 ⟨p.1, (free_own hb hq8).1 p.2⟩
  · exact h2 m hm4 hm ((rooms_iff hb hL hm4 hm hq8).2 p)
  · exact h.2 p.1 p.2
  · refine h3 ((large_iff hb hon').2 ⟨p, fun j hj1 hj2 => ?_⟩)
    have e7 := p.2.2.2.2.2 j hj1 hj2
    have e10 := p.2.2.1
    rcases g (q + j) (by omega) with r | ⟨m, hm4, hm, r⟩ | r | r
    · have := r.1; omega
    · omega
    · exact r.2.2.2
    · have := r.1; omega

theorem inv_one {b : Bx} (hb : NonNeg b) (hon' : b.p.n * 8 ≤ b.o.n) (hL : ListsP b 4) {q : Nat} (hq : q < b.p.n) (h : Inv b q)
    (h1 : (b.p.f q = 0 ∧ ownC b.o.f (q * 8) 8 = 0) ∨ ∃ m : Nat, m < 4 ∧ b.p.f q = m + 1 ∧ RoomsI b (fun u => (tmK b u 4 : Int)) q m) : Inv b (q + 1) := by
  have hq8 : (q + 1) * 8 ≤ b.o.n := by omega
  rcases h1 with ⟨e, p⟩ | ⟨m, hm4, hm, p⟩
  · exact inv_small h (.inl ⟨e, (free_own hb hq8).2 p⟩) (by omega)
  · exact inv_small h (.inr (.inl ⟨m, hm4, hm, (rooms_iff hb hL hm4 hm hq8).1 p⟩)) (by omega)

end Go.Proofs.Ytipbijcmpbefpaa.Book

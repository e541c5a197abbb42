import Derived.Test.YtbipolfbkemmpaaDoorM9

/- How many pages that belong together begin at a page, by the program. -/
namespace Go.Proofs.YtbipolfbkemmpaaDoor.Book
open Go.ChangeShapes Go.WideShapes Go.ChangeAt Go.RowKit
open Aid Lst
set_option maxRecDepth 100000
set_option linter.unusedVariables false

def SpanR (b : Bx) (T : Nat → Int) (q : Nat) (r : Int) : Prop :=
  (r = 1 ∧ ((b.p.f q = 0 ∧ ownC b.o.f (q * 8) 8 = 0) ∨ ∃ m : Nat, m < 4 ∧ b.p.f q = m + 1 ∧ RoomsI b T q m)) ∨
  (r = b.p.f q - 8 ∧ LargeI b.p.f b.o.f b.p.n q) ∨
  (r = 0 ∧ ¬ (b.p.f q = 0 ∧ ownC b.o.f (q * 8) 8 = 0) ∧ (∀ m : Nat, m < 4 → b.p.f q = m + 1 → ¬ RoomsI b T q m) ∧ ¬ LargeI b.p.f b.o.f b.p.n q)

set_option maxRecDepth 100000 in
set_option maxHeartbeats 8000000 in
theorem span_any (b : Bx) (q : Nat) (x : Sx) (w : World) (h : b.At w) (hx : x.At w) (hxn : b.o.n ≤ x.n) (hT : ∀ u, 0 ≤ x.f u ∧ x.f u ≤ 1000)
    (hq : (q + 1) * 8 ≤ b.o.n) (hn : b.o.n ≤ 48) (hp : q < b.p.n) (hon : b.o.n ≤ b.p.n * 8) (hon' : b.p.n * 8 ≤ b.o.n) (hpn : b.p.n ≤ 6) (hcap : b.o.n ≤ b.o.c) :
    Calls Tryd.prog 57 #[.agg b.cells.toArray, .int .i64 q, .slice x.a x.n x.c] w fun e w' => (∃ r, e = .returned (.int .i64 r) ∧ SpanR b x.f q r) ∧ Below w.heap.size w w' := by
  obtain ⟨k, o, ea, hc⟩ := h.p.cells (by omega)
  obtain ⟨bs, ⟨pa, pn, pc, pf⟩, h0, h1, h2, h3, o_, i_, e_⟩ := b
  simp only at ea hc hxn hq hn hp hon hon' hpn hcap
  subst ea
  have E : Ent w ⟨bs, ⟨some ⟨k, o, none⟩, pn, pc, pf⟩, h0, h1, h2, h3, o_, i_, e_⟩ (w.alloc (.cells #[.int .i64 bs, .slice (some ⟨k, o, none⟩) pn pc, .slice h0.a h0.n h0.c, .slice h1.a h1.n h1.c, .slice h2.a h2.n h2.c, .slice h3.a h3.n h3.c, .slice o_.a o_.n o_.c, .slice i_.a i_.n i_.c, .slice e_.a e_.n e_.c] 26)) := Ent.start h 26
  have i1 : (q : Int) < pn := by omega
  have c1 : (w.alloc (.cells #[.int .i64 bs, .slice (some ⟨k, o, none⟩) pn pc, .slice h0.a h0.n h0.c, .slice h1.a h1.n h1.c, .slice h2.a h2.n h2.c, .slice h3.a h3.n h3.c, .slice o_.a o_.n o_.c, .slice i_.a i_.n i_.c, .slice e_.a e_.n e_.c] 26)).cell? ⟨k, o + q, none⟩ = some (.int .i64 (pf q)) := by
    have e := hc q (by omega)
    rw [(below1 w _).cell (p := ⟨k, o + q, none⟩) (World.block_lt_of_cell? w _ e)]; exact e
  clear hc
  simp only [Bx.cells]
  by_cases p0 : pf q = 0
  · rw [p0] at c1
    have P0 : Hid (pf q = 0) := p0
    clear p0
    go_enter Tryd.func57, Tryd.ntmps57
    go_wp2_with (fail)
    generalize w.alloc (.cells #[.int .i64 bs, .slice (some ⟨k, o, none⟩) pn pc, .slice h0.a h0.n h0.c, .slice h1.a h1.n h1.c, .slice h2.a h2.n h2.c, .slice h3.a h3.n h3.c, .slice o_.a o_.n o_.c, .slice i_.a i_.n i_.c, .slice e_.a e_.n e_.c] 26) = W at E ⊢
    clear c1
    refine (owners_any ⟨bs, ⟨some ⟨k, o, none⟩, pn, pc, pf⟩, h0, h1, h2, h3, o_, i_, e_⟩ q _ E.a hq (by show o_.n ≤ 1000; omega) hcap).mono ?_
    rintro e w1 ⟨rfl, hb⟩
    replace E := E.later hb
    clear hb
    simp only
    generalize hc : ownC o_.f (q * 8) 8 = c
    have HC : Hid (ownC o_.f (q * 8) 8 = c) := hc
    clear hc
    by_cases c0 : c = 0
    · subst c0
      go_wp2_with (fail)
      go_ret
      exact ⟨⟨1, rfl, .inl ⟨rfl, .inl ⟨P0.out, HC.out⟩⟩⟩, E.b⟩
    · have c0' : ((c : Int) == 0) = false := by simp; omega
      have c0'' : (c == 0) = false := by simp; omega
      have C0 : Hid (¬ c = 0) := c0
      clear c0
      go_wp2_with (fail)
      refine (within_any 0 1 4 _).mono ?_
      rintro e w2 ⟨rfl, rfl⟩
      obtain ⟨u0, u1, u2, u3, u4, u5, u6, u7, u8⟩ := nine E.r
      simp only at u0 u1 u2 u3 u4 u5 u6 u7 u8
      go_wp2_with (fail)
      refine (large_any ⟨bs, ⟨some ⟨k, o, none⟩, pn, pc, pf⟩, h0, h1, h2, h3, o_, i_, e_⟩ q _ E.a hq hn hp hon hon' hpn hcap).mono ?_
      rintro e w3 ⟨⟨r, rfl, hr⟩, hb⟩
      have G := E.later hb
      cases r
      · go_wp2_with (fail)
        go_ret
        exact ⟨⟨0, rfl, .inr (.inr ⟨rfl, fun g => C0.out (by rw [← HC.out]; exact g.2), fun m _ g => by have e : pf q = m + 1 := g; have := P0.out; omega, hr.f⟩)⟩, G.b⟩
      · exact absurd hr.t.1 (by show ¬ 10 ≤ pf q; rw [P0.out]; decide)
  by_cases p4 : 1 ≤ pf q ∧ pf q ≤ 4
  · obtain ⟨m, hm⟩ : ∃ m : Nat, pf q = m + 1 := ⟨(pf q - 1).toNat, by omega⟩
    have hm4 : m < 4 := by omega
    have HM : Hid (pf q = m + 1) := hm
    have p4' : 1 ≤ (m : Int) + 1 ∧ (m : Int) + 1 ≤ 4 := by omega
    rw [hm] at c1
    have q0 : ¬ (m : Int) + 1 = 0 := by omega
    have q0' : ((m : Int) + 1 == 0) = false := by simp; omega
    clear p0 p4 hm
    go_enter Tryd.func57, Tryd.ntmps57
    go_wp2_with (fail)
    generalize w.alloc (.cells #[.int .i64 bs, .slice (some ⟨k, o, none⟩) pn pc, .slice h0.a h0.n h0.c, .slice h1.a h1.n h1.c, .slice h2.a h2.n h2.c, .slice h3.a h3.n h3.c, .slice o_.a o_.n o_.c, .slice i_.a i_.n i_.c, .slice e_.a e_.n e_.c] 26) = W at E ⊢
    clear c1
    refine (within_any ((m : Int) + 1) 1 4 _).mono ?_
    rintro e w1 ⟨rfl, rfl⟩
    rw [decide_eq_true p4']
    obtain ⟨u0, u1, u2, u3, u4, u5, u6, u7, u8⟩ := nine E.r
    simp only at u0 u1 u2 u3 u4 u5 u6 u7 u8
    go_wp2_with (fail)
    refine (roomsok_any ⟨bs, ⟨some ⟨k, o, none⟩, pn, pc, pf⟩, h0, h1, h2, h3, o_, i_, e_⟩ q m x _ E.a (hx.later E.b) hxn hT HM.out hm4 hq hn hp hon hpn hcap).mono ?_
    rintro e w2 ⟨⟨r, rfl, hr⟩, hb⟩
    have F := E.later hb
    clear hb E u0 u1 u2 u3 u4 u5 u6 u7 u8
    cases r
    · obtain ⟨u0, u1, u2, u3, u4, u5, u6, u7, u8⟩ := nine F.r
      simp only at u0 u1 u2 u3 u4 u5 u6 u7 u8
      go_wp2_with (fail)
      refine (large_any ⟨bs, ⟨some ⟨k, o, none⟩, pn, pc, pf⟩, h0, h1, h2, h3, o_, i_, e_⟩ q _ F.a hq hn hp hon hon' hpn hcap).mono ?_
      rintro e w3 ⟨⟨r2, rfl, hr2⟩, hb⟩
      have G := F.later hb
      cases r2
      · go_wp2_with (fail)
        go_ret
        refine ⟨⟨0, rfl, .inr (.inr ⟨rfl, fun g => ?_, fun m' _ g => ?_, hr2.f⟩)⟩, G.b⟩
        · have e : pf q = 0 := g.1
          have := HM.out
          omega
        · have e : pf q = m' + 1 := g
          have := HM.out
          obtain rfl : m' = m := by omega
          exact hr.f
      · exact absurd hr2.t.1 (by show ¬ 10 ≤ pf q; rw [HM.out]; omega)
    · go_wp2_with (fail)
      go_ret
      exact ⟨⟨1, rfl, .inl ⟨rfl, .inr ⟨m, hm4, HM.out, hr.t⟩⟩⟩, F.b⟩
  · have q0' : (pf q == 0) = false := by simp [p0]
    have N0 : Hid (¬ pf q = 0) := p0
    have N4 : Hid (¬ (1 ≤ pf q ∧ pf q ≤ 4)) := p4
    have p4d := decide_eq_false p4
    clear p0 p4
    go_enter Tryd.func57, Tryd.ntmps57
    go_wp2_with (fail)
    generalize w.alloc (.cells #[.int .i64 bs, .slice (some ⟨k, o, none⟩) pn pc, .slice h0.a h0.n h0.c, .slice h1.a h1.n h1.c, .slice h2.a h2.n h2.c, .slice h3.a h3.n h3.c, .slice o_.a o_.n o_.c, .slice i_.a i_.n i_.c, .slice e_.a e_.n e_.c] 26) = W at E ⊢
    clear c1
    refine (within_any (pf q) 1 4 _).mono ?_
    rintro e w1 ⟨rfl, rfl⟩
    rw [p4d]
    obtain ⟨u0, u1, u2, u3, u4, u5, u6, u7, u8⟩ := nine E.r
    simp only at u0 u1 u2 u3 u4 u5 u6 u7 u8
    go_wp2_with (fail)
    refine (large_any ⟨bs, ⟨some ⟨k, o, none⟩, pn, pc, pf⟩, h0, h1, h2, h3, o_, i_, e_⟩ q _ E.a hq hn hp hon hon' hpn hcap).mono ?_
    rintro e w3 ⟨⟨r2, rfl, hr2⟩, hb⟩
    have G := E.later hb
    cases r2
    · go_wp2_with (fail)
      go_ret
      refine ⟨⟨0, rfl, .inr (.inr ⟨rfl, fun g => N0.out g.1, fun m' h1 g _ => N4.out ?_, hr2.f⟩)⟩, G.b⟩
      have e : pf q = m' + 1 := g
      omega
    · have v1 : 10 ≤ pf q := hr2.t.1
      have v2 : pf q ≤ 12 := hr2.t.2.1
      go_wp2_with (fail)
      go_ret
      exact ⟨⟨_, rfl, .inr (.inl ⟨rfl, hr2.t⟩)⟩, G.b⟩

theorem cnt_zero (f : Nat → Int) (a : Int) : ∀ n, (∀ j, j < n → f j ≠ a) → cnt f a n = 0
  | 0, _ => rfl
  | n + 1, h => by
    have e := cnt_zero f a n (fun j hj => h j (by omega))
    simp only [cnt, e, if_neg (h n (by omega))]

theorem ownC_zero (o : Nat → Int) (u : Nat) : ∀ n, ownC o u n = 0 ↔ ∀ j, j < n → o (u + j) = 0
  | 0 => ⟨fun _ j h => absurd h (Nat.not_lt_zero _), fun _ => rfl⟩
  | n + 1 => by
    have e := ownC_zero o u n
    simp only [ownC]
    constructor
    · intro h j hj
      have h1 : ownC o u n = 0 := by omega
      by_cases ej : j = n
      · subst ej
        by_cases z : o (u + j) = 0
        · exact z
        · rw [if_neg z] at h; omega
      · exact e.1 h1 j (by omega)
    · intro h
      rw [if_pos (h n (by omega)), e.2 (fun j hj => h j (by omega))]

/- No unit of a book has an owner below 0. -/
def NonNeg (b : Bx) : Prop := ∀ u, u < b.o.n → 0 ≤ b.o.f u

theorem free_own {b : Bx} (hb : NonNeg b) {q : Nat} (hq : (q + 1) * 8 ≤ b.o.n) : FreeP b.o.f q 0 ↔ ownC b.o.f (q * 8) 8 = 0 := by
  rw [ownC_zero]
  constructor
  · intro h j hj
    have h1 := h j (by omega) hj
    have h2 := hb (q * 8 + j) (by omega)
    omega
  · intro h u _ hu
    have := h u hu
    omega

theorem beg_page {b : Bx} {q m u : Nat} (hm4 : m < 4) (hm : b.p.f q = m + 1) (hq : (q + 1) * 8 ≤ b.o.n) (hu : u < 8) : BegP b m ((q : Int) * 8 + u) ↔ (u : Int) % sz m ≤ 0 := by
  have e1 : (((q : Int) * 8 + u) / 8).toNat = q := by omega
  have e2 : ((q : Int) * 8 + u) % sz m = (u : Int) % sz m := by
    obtain rfl | rfl | rfl | rfl : m = 0 ∨ m = 1 ∨ m = 2 ∨ m = 3 := by omega
    all_goals simp [sz]
    all_goals omega
  unfold BegP
  rw [e1, e2]
  exact ⟨fun h => h.2.2.2, fun h => ⟨by omega, by omega, hm, h⟩⟩

theorem cnt_other {b : Bx} {k : Nat} (hL : ListP b k (b.hd k).n) {a : Int} (h : b.p.f (a / 8).toNat ≠ k + 1) : cnt (b.hd k).f a (b.hd k).n = 0 :=
  cnt_zero _ _ _ (fun j hj e => by
    have := (hL j hj).2.2.1
    rw [e] at this
    exact h this)

theorem tm_page {b : Bx} (hL : ListsP b 4) {q m u : Nat} (hm4 : m < 4) (hm : b.p.f q = m + 1) (hu : u < 8) : tmK b ((q : Int) * 8 + u) 4 = cnt (b.hd m).f ((q : Int) * 8 + u) (b.hd m).n := by
  have e1 : (((q : Int) * 8 + u) / 8).toNat = q := by omega
  have z : ∀ k, k < 4 → k ≠ m → cnt (b.hd k).f ((q : Int) * 8 + u) (b.hd k).n = 0 := fun k hk hne => cnt_other (hL k hk).2 (by rw [e1, hm]; omega)
  have u4 : tmK b ((q : Int) * 8 + u) 4 = 0 + cnt (b.hd 0).f ((q : Int) * 8 + u) (b.hd 0).n + cnt (b.hd 1).f ((q : Int) * 8 + u) (b.hd 1).n + cnt (b.hd 2).f ((q : Int) * 8 + u) (b.hd 2).n + cnt (b.hd 3).f ((q : Int) * 8 + u) (b.hd 3).n := rfl
  rw [u4]
  obtain rfl | rfl | rfl | rfl : m = 0 ∨ m = 1 ∨ m = 2 ∨ m = 3 := by omega
  · rw [z 1 (by omega) (by omega), z 2 (by omega) (by omega), z 3 (by omega) (by omega)]; omega
  · rw [z 0 (by omega) (by omega), z 2 (by omega) (by omega), z 3 (by omega) (by omega)]; omega
  · rw [z 0 (by omega) (by omega), z 1 (by omega) (by omega), z 3 (by omega) (by omega)]; omega
  · rw [z 0 (by omega) (by omega), z 1 (by omega) (by omega), z 2 (by omega) (by omega)]; omega

theorem claim_room {b : Bx} (hb : NonNeg b) (hL : ListsP b 4) {q m u : Nat} (hm4 : m < 4) (hm : b.p.f q = m + 1) (hq : (q + 1) * 8 ≤ b.o.n) (hu : u < 8) :
    ClaimU b (fun u => (tmK b u 4 : Int)) q m u ↔ RoomU b.o.f (b.hd m) m q u := by
  have hB := beg_page hm4 hm hq hu
  have hT := tm_page hL hm4 hm hu
  have h0 := hb (q * 8 + u) (by omega)
  have ec : (((q * 8 + u : Nat)) : Int) = (q : Int) * 8 + u := by omega
  unfold ClaimU RoomU
  simp only [ec, hT]
  generalize cnt (b.hd m).f ((q : Int) * 8 + u) (b.hd m).n = c
  by_cases hz : b.o.f (q * 8 + u) = 0
  · rw [if_pos hz]
    by_cases hg : (u : Int) % sz m ≤ 0
    · have hB' := hB.2 hg
      constructor
      · rintro (h | h)
        · right; exact ⟨hg, .inr ⟨by omega, by omega⟩⟩
        · exact absurd hB' h.1
      · rintro (h | h)
        · omega
        · left; exact ⟨hB', by omega⟩
    · have hB' : ¬ BegP b m ((q : Int) * 8 + u) := fun h => hg (hB.1 h)
      constructor
      · rintro (h | h)
        · exact absurd h.1 hB'
        · left; exact ⟨by omega, by omega, by omega⟩
      · rintro (h | h)
        · right; exact ⟨hB', by omega⟩
        · omega
  · rw [if_neg hz]
    by_cases hg : (u : Int) % sz m ≤ 0
    · have hB' := hB.2 hg
      constructor
      · rintro (h | h)
        · right; exact ⟨hg, .inl ⟨by omega, by omega⟩⟩
        · exact absurd hB' h.1
      · rintro (h | h)
        · omega
        · left; exact ⟨hB', by omega⟩
    · have hB' : ¬ BegP b m ((q : Int) * 8 + u) := fun h => hg (hB.1 h)
      constructor
      · rintro (h | h)
        · exact absurd h.1 hB'
        · omega
      · rintro (h | h)
        · omega
        · omega

theorem rooms_iff {b : Bx} (hb : NonNeg b) (hL : ListsP b 4) {q m : Nat} (hm4 : m < 4) (hm : b.p.f q = m + 1) (hq : (q + 1) * 8 ≤ b.o.n) :
    RoomsI b (fun u => (tmK b u 4 : Int)) q m ↔ RoomsP b.o.f (b.hd m) m q := by
  have key : ClaimsP b (fun u => (tmK b u 4 : Int)) q m 8 ↔ ∀ u, u < 8 → RoomU b.o.f (b.hd m) m q u :=
    ⟨fun h u hu => (claim_room hb hL hm4 hm hq hu).1 (h u hu), fun h u hu => (claim_room hb hL hm4 hm hq hu).2 (h u hu)⟩
  constructor
  · rintro ⟨h1, h2⟩
    have h1' := key.1 h1
    refine ⟨h1', ?_⟩
    refine Classical.byContradiction fun hn => ?_
    have : ownC b.o.f (q * 8) 8 = 0 := (ownC_zero _ _ _).2 (fun j hj => by
      have h0 := hb (q * 8 + j) (by omega)
      by_cases z : b.o.f (q * 8 + j) = 0
      · exact z
      · rcases h1' j hj with h | h
        · omega
        · exact absurd ⟨j, hj, h.1, by omega⟩ hn)
    omega
  · rintro ⟨h1, u, hu, h2, h3⟩
    refine ⟨key.2 h1, ?_⟩
    refine Nat.pos_of_ne_zero fun hz => ?_
    have := (ownC_zero _ _ _).1 hz u hu
    omega

theorem large_iff {b : Bx} (hb : NonNeg b) (hon' : b.p.n * 8 ≤ b.o.n) {q : Nat} :
    LargeI b.p.f b.o.f b.p.n q ↔ WideP b.p.f b.o.f b.p.n q ∧ ∀ j : Nat, 1 ≤ j → (j : Int) < b.p.f q - 8 → FreeP b.o.f (q + j) 0 := by
  have key : 10 ≤ b.p.f q → b.p.f q ≤ 12 → ¬ b.o.f (q * 8) = 0 → (ownC b.o.f (q * 8) (8 * (b.p.f q - 8).toNat) = 1 ↔ ∀ t, t < 8 * (b.p.f q - 8).toNat - 1 → b.o.f (q * 8 + 1 + t) = 0) := fun h1 h2 h3 => by
    have e := ownC_add b.o.f (q * 8) 1 (8 * (b.p.f q - 8).toNat - 1)
    rw [show 1 + (8 * (b.p.f q - 8).toNat - 1) = 8 * (b.p.f q - 8).toNat by omega] at e
    have e1 : ownC b.o.f (q * 8) 1 = 1 := by
      show 0 + (if b.o.f (q * 8) = 0 then 0 else 1) = 1
      rw [if_neg h3]
    rw [← ownC_zero]
    omega
  constructor
  · rintro ⟨h1, h2, h3, h4, h5, h6⟩
    have hz := (key h1 h2 h4).1 h6
    refine ⟨⟨h1, h2, h3, h4, fun u hu1 hu2 => ?_, h5⟩, fun j hj1 hj2 u _ hu => ?_⟩
    · have := hz (u - 1) (by omega)
      rw [show q * 8 + 1 + (u - 1) = q * 8 + u by omega] at this
      omega
    · have := hz (8 * j + u - 1) (by omega)
      rw [show q * 8 + 1 + (8 * j + u - 1) = (q + j) * 8 + u by omega] at this
      omega
  · rintro ⟨⟨h1, h2, h3, h4, h5, h6⟩, h7⟩
    refine ⟨h1, h2, h3, h4, h6, (key h1 h2 h4).2 fun t ht => ?_⟩
    have h0 := hb (q * 8 + 1 + t) (by omega)
    by_cases t7 : t < 7
    · have := h5 (1 + t) (by omega) (by omega)
      rw [show q * 8 + (1 + t) = q * 8 + 1 + t by omega] at this
      omega
    · have := h7 ((1 + t) / 8) (by omega) (by omega) ((1 + t) % 8) (Nat.zero_le _) (by omega)
      rw [show (q + (1 + t) / 8) * 8 + (1 + t) % 8 = q * 8 + 1 + t by omega] at this
      omega

def Inv (b : Bx) (q : Nat) : Prop := PagesP b q ∧ (b.p.f q = 7 → ¬ RestP b.p.f b.o.f q)

theorem inv_zero (b : Bx) : Inv b 0 := ⟨fun q h => absurd h (Nat.not_lt_zero _), fun h g => by
  have e : b.p.f 0 > 8 := g.1
  omega⟩

theorem inv_small {b : Bx} {q : Nat} (h : Inv b q) (hp : PageP b q) (h7 : b.p.f q ≤ 4) : Inv b (q + 1) := ⟨h.1.up hp, fun e g => by
  have g1 := g.1
  rw [back_step (by omega) e, show q + 1 - 1 = q by omega, back_stay (.inr (by omega))] at g1
  omega⟩

theorem back_large {P : Nat → Int} {q : Nat} (h7 : P q ≠ 7) : ∀ n, (∀ j, 1 ≤ j → j ≤ n → P (q + j) = 7) → back P (q + n) = q
  | 0, _ => back_stay (.inr h7)
  | n + 1, h => by
    rw [back_step (by omega) (h (n + 1) (by omega) (Nat.le_refl _)), show q + (n + 1) - 1 = q + n by omega]
    exact back_large h7 n (fun j h1 h2 => h j h1 (by omega))

theorem inv_large {b : Bx} (hb : NonNeg b) (hon' : b.p.n * 8 ≤ b.o.n) {q n : Nat} (h : Inv b q) (hl : LargeI b.p.f b.o.f b.p.n q) (hn : b.p.f q = n + 8) : Inv b (q + n) := by
  obtain ⟨hw, hf⟩ := (large_iff hb hon').1 hl
  have h10 := hw.1
  have h7 : b.p.f q ≠ 7 := by omega
  have hr : ∀ j : Nat, 1 ≤ j → j < n → b.p.f (q + j) = 7 := fun j h1 h2 => hw.2.2.2.2.2 j h1 (by omega)
  refine ⟨fun p hp => ?_, fun e g => ?_⟩
  · by_cases c1 : p < q
    · exact h.1 p c1
    · by_cases c2 : p = q
      · subst c2; exact .inr (.inr (.inr hw))
      · obtain ⟨j, rfl⟩ : ∃ j, p = q + j := ⟨p - q, by omega⟩
        have hb1 : back b.p.f (q + j) = q := back_large h7 j (fun t h1 h2 => hr t h1 (by omega))
        refine .inr (.inr (.inl ⟨hr j (by omega) (by omega), ?_⟩))
        unfold RestP
        rw [hb1]
        exact ⟨by omega, by omega, hf j (by omega) (by omega)⟩
  · have hb1 : back b.p.f (q + n) = q := back_large h7 n (fun t h1 h2 => by
      by_cases et : t = n
      · subst et; exact e
      · exact hr t h1 (by omega))
    have g2 := g.2.1
    rw [hb1] at g2
    omega

theorem inv_none {b : Bx} (hb : NonNeg b) (hon' : b.p.n * 8 ≤ b.o.n) (hL : ListsP b 4) {q : Nat} (hq : q < b.p.n) (h : Inv b q)
    (h1 : ¬ (b.p.f q = 0 ∧ ownC b.o.f (q * 8) 8 = 0)) (h2 : ∀ m : Nat, m < 4 → b.p.f q = m + 1 → ¬ RoomsI b (fun u => (tmK b u 4 : Int)) q m) (h3 : ¬ LargeI b.p.f b.o.f b.p.n q) : ¬ PagesP b b.p.n := fun g => by
  have hq8 : (q + 1) * 8 ≤ b.o.n := by omega
  rcases g q hq with p | ⟨m, hm4, hm, p⟩ | p | p
  · exact h1 ⟨p.1, (free_own hb hq8).1 p.2⟩
  · exact h2 m hm4 hm ((rooms_iff hb hL hm4 hm hq8).2 p)
  · exact h.2 p.1 p.2
  · refine h3 ((large_iff hb hon').2 ⟨p, fun j hj1 hj2 => ?_⟩)
    have e7 := p.2.2.2.2.2 j hj1 hj2
    have e10 := p.2.2.1
    rcases g (q + j) (by omega) with r | ⟨m, hm4, hm, r⟩ | r | r
    · have := r.1; omega
    · omega
    · exact r.2.2.2
    · have := r.1; omega

theorem inv_one {b : Bx} (hb : NonNeg b) (hon' : b.p.n * 8 ≤ b.o.n) (hL : ListsP b 4) {q : Nat} (hq : q < b.p.n) (h : Inv b q)
    (h1 : (b.p.f q = 0 ∧ ownC b.o.f (q * 8) 8 = 0) ∨ ∃ m : Nat, m < 4 ∧ b.p.f q = m + 1 ∧ RoomsI b (fun u => (tmK b u 4 : Int)) q m) : Inv b (q + 1) := by
  have hq8 : (q + 1) * 8 ≤ b.o.n := by omega
  rcases h1 with ⟨e, p⟩ | ⟨m, hm4, hm, p⟩
  · exact inv_small h (.inl ⟨e, (free_own hb hq8).2 p⟩) (by omega)
  · exact inv_small h (.inr (.inl ⟨m, hm4, hm, (rooms_iff hb hL hm4 hm hq8).1 p⟩)) (by omega)

end Go.Proofs.YtbipolfbkemmpaaDoor.Book

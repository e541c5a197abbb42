import Derived.Test.YtbipolfbkemmpaaDoorM15
import Derived.Test.YtbipolfbkemmpaaDoorM14

/- A room of whole pages is taken, and is given back: the book stays ok: over no program. -/
namespace Go.Proofs.YtbipolfbkemmpaaDoor.Book
open Go.ChangeShapes Go.WideShapes Go.ChangeAt Go.RowKit
open Aid Lst
set_option maxRecDepth 100000
set_option linter.unusedVariables false

theorem back_in (P : Nat → Int) : ∀ q j, back P q < j → j ≤ q → P j = 7
  | 0, j, h1, h2 => by simp only [back] at h1; omega
  | n + 1, j, h1, h2 => by
    simp only [back] at h1
    split at h1
    · rename_i e
      by_cases ej : j = n + 1
      · rw [ej]; exact e
      · exact back_in P n j h1 (by omega)
    · omega
theorem back_at (P : Nat → Int) : ∀ q r, r ≤ q → (∀ j, r < j → j ≤ q → P j = 7) → (P r ≠ 7 ∨ r = 0) → back P q = r
  | 0, r, h, _, _ => by simp only [back]; omega
  | n + 1, r, h, hj, hr => by
    simp only [back]
    by_cases er : r = n + 1
    · subst er
      rw [if_neg (by rcases hr with hr | hr <;> first | exact hr | omega)]
    · rw [if_pos (hj (n + 1) (by omega) (Nat.le_refl _))]
      exact back_at P n r (by omega) (fun j h1 h2 => hj j h1 (by omega)) hr
theorem back_end (P : Nat → Int) : ∀ q, P (back P q) ≠ 7 ∨ back P q = 0
  | 0 => .inr rfl
  | n + 1 => by
    simp only [back]
    split
    · exact back_end P n
    · rename_i e; exact .inl e

/- A page whose own word stands. -/
theorem page_to {b c : Bx} (q : Nat) (en : c.p.n = b.p.n) (ep : c.p.f q = b.p.f q)
    (eb : b.p.f q = 7 → 8 < b.p.f (back b.p.f q) → (q : Int) < back b.p.f q + b.p.f (back b.p.f q) - 8 → ∀ j, back b.p.f q ≤ j → j ≤ q → c.p.f j = b.p.f j)
    (ew : ∀ j : Nat, 1 ≤ j → (j : Int) < b.p.f q - 8 → b.p.f (q + j) = 7 → c.p.f (q + j) = 7)
    (eh : ∀ m : Nat, m < 4 → b.p.f q = m + 1 → ∀ u : Nat, u < 8 → cnt (c.hd m).f ((q : Int) * 8 + u) (c.hd m).n = cnt (b.hd m).f ((q : Int) * 8 + u) (b.hd m).n)
    (eo : ∀ u, u < 8 → c.o.f (q * 8 + u) = b.o.f (q * 8 + u)) (hq : PageP b q) : PageP c q := by
  have fr : ∀ n, FreeP b.o.f q n → FreeP c.o.f q n := fun n g u h1 h2 h3 => g u h1 h2 (by rw [← eo u h2]; exact h3)
  unfold PageP at hq ⊢
  rw [ep, en]
  rcases hq with ⟨h1, h2⟩ | ⟨m, m4, h1, h2⟩ | ⟨h1, h2⟩ | hq
  · exact .inl ⟨h1, fr 0 h2⟩
  · refine .inr (.inl ⟨m, m4, h1, ?_⟩)
    refine ⟨fun u hu => ?_, ?_⟩
    · have r := h2.1 u hu
      unfold RoomU at r ⊢
      rw [eo u hu, eh m m4 h1 u hu]
      exact r
    · obtain ⟨u, h3, h4, h5⟩ := h2.2
      exact ⟨u, h3, h4, by rw [eo u h3]; exact h5⟩
  · obtain ⟨r1, r2, r3⟩ := h2
    have g := eb h1 r1 r2
    have e : back c.p.f q = back b.p.f q := by
      refine back_at _ _ _ (back_le _ _) (fun j h3 h4 => ?_) ?_
      · rw [g j (by omega) h4]; exact back_in _ _ _ h3 h4
      · rw [g _ (Nat.le_refl _) (back_le _ _)]; exact back_end _ _
    refine .inr (.inr (.inl ⟨h1, ?_⟩))
    unfold RestP
    rw [e, g _ (Nat.le_refl _) (back_le _ _)]
    exact ⟨r1, r2, fr 0 r3⟩
  · obtain ⟨r1, r2, r3, r4, r5, r6⟩ := hq
    refine .inr (.inr (.inr ?_))
    unfold WideP
    rw [ep]
    exact ⟨r1, r2, r3, by have := eo 0 (by omega); rw [Nat.add_zero] at this; rw [this]; exact r4, fr 1 r5, fun j h1 h2 => ew j h1 h2 (r6 j h1 h2)⟩

/- The pages of a room of whole pages. -/
def wideF (P : Nat → Int) (p n : Nat) : Nat → Int := fun j => if j = p then 8 + (n : Int) else if p < j ∧ j < p + n then 7 else P j
def Bx.wide (b : Bx) (p n t : Nat) : Bx := ⟨b.s, ⟨b.p.a, b.p.n, b.p.c, wideF b.p.f p n⟩, b.h0, b.h1, b.h2, b.h3, b.o.put (p * 8) ((t : Int) + 1), b.i, b.e⟩
theorem wide_out {P : Nat → Int} {p n j : Nat} (hn : 1 ≤ n) (h : j < p ∨ p + n ≤ j) : wideF P p n j = P j := by
  unfold wideF
  rw [if_neg (by omega), if_neg (by omega)]
theorem wide_in {P : Nat → Int} {p n j : Nat} (h : p < j) (h2 : j < p + n) : wideF P p n j = 7 := by
  unfold wideF
  rw [if_neg (by omega), if_pos ⟨h, h2⟩]
theorem wide_at (P : Nat → Int) (p n : Nat) : wideF P p n p = 8 + (n : Int) := by unfold wideF; rw [if_pos rfl]

theorem keep_wide {b : Bx} (h : OkP b) (p n t : Nat) (n2 : 2 ≤ n) (n4 : n ≤ 4) (hp : p + n ≤ b.p.n) (hz : ∀ i, i < n → b.p.f (p + i) = 0) (ht : (t : Int) < b.s) (hi : b.i.f t ≠ 0) : OkP (b.wide p n t) := by
  obtain ⟨⟨hl, hs, hw⟩, hd, hg⟩ := h
  have zr : ∀ j, p ≤ j → j < p + n → b.p.f j = 0 := fun j h1 h2 => by have := hz (j - p) (by omega); rwa [show p + (j - p) = j by omega] at this
  have nz : ∀ j, b.p.f j ≠ 0 → j < p ∨ p + n ≤ j := fun j hj => by
    by_cases h1 : p ≤ j
    · by_cases h2 : j < p + n
      · exact absurd (zr j h1 h2) hj
      · exact .inr (by omega)
    · exact .inl (by omega)
  have st : ∀ j, b.p.f j ≠ 0 → (b.wide p n t).p.f j = b.p.f j := fun j hj => wide_out (by omega) (nz j hj)
  have hhd : ∀ k, (b.wide p n t).hd k = b.hd k := fun _ => rfl
  have fz : ∀ q, p ≤ q → q < p + n → FreeP b.o.f q 0 := fun q h1 h2 => by
    have g := hg q (by omega)
    have z := zr q h1 h2
    unfold PageP at g
    rcases g with ⟨_, g⟩ | ⟨m, _, g, _⟩ | ⟨g, _⟩ | g
    · exact g
    · omega
    · omega
    · have := g.1; omega
  have oo : ∀ q u, u < 8 → q * 8 + u ≠ p * 8 → (b.wide p n t).o.f (q * 8 + u) = b.o.f (q * 8 + u) := fun q u hu hne => by
    simp only [Bx.wide, Sx.put, upd]; rw [if_neg hne]
  refine ⟨⟨hl, hs, own_u (b := b) hw (p * 8) t ht hi⟩, fun k hk => ⟨(hd k hk).1, fun j hj => ?_⟩, fun q hq => ?_⟩
  · obtain ⟨g1, g2, g3, g4⟩ := (hd k hk).2 j hj
    refine ⟨g1, g2, ?_, g4⟩
    rw [hhd k, st _ (by rw [g3]; omega)]
    exact g3
  · by_cases e : q = p
    · subst e
      refine .inr (.inr (.inr ?_))
      have e1 : (b.wide q n t).p.f q = 8 + (n : Int) := wide_at _ _ _
      unfold WideP
      rw [e1]
      refine ⟨by omega, by omega, by show (q : Int) + (8 + n) - 8 ≤ b.p.n; omega, ?_, fun u h1 h2 => ?_, fun j h1 h2 => wide_in (by omega) (by omega)⟩
      · simp only [Bx.wide, Sx.put, upd, if_true]; omega
      · rw [oo q u h2 (by omega)]
        exact fz q (Nat.le_refl _) (by omega) u (by omega) h2
    · by_cases e2 : p < q ∧ q < p + n
      · have bk : back (b.wide p n t).p.f q = p := by
          refine back_at _ _ _ (by omega) (fun j h1 h2 => wide_in h1 (by omega)) (.inl ?_)
          rw [show (b.wide p n t).p.f p = 8 + (n : Int) from wide_at _ _ _]
          omega
        refine .inr (.inr (.inl ⟨wide_in e2.1 e2.2, ?_⟩))
        unfold RestP
        rw [bk, show (b.wide p n t).p.f p = 8 + (n : Int) from wide_at _ _ _]
        refine ⟨by omega, by omega, fun u h1 h2 => ?_⟩
        rw [oo q u h2 (by omega)]
        exact fz q (by omega) (by omega) u h1 h2
      · have out : q < p ∨ p + n ≤ q := by omega
        refine page_to (b := b) q rfl (wide_out (by omega) out) (fun h7 h8 h9 j h1 h2 => ?_) (fun j h1 h2 h3 => ?_) (fun _ _ _ _ _ => rfl) (fun u hu => oo q u hu (by omega)) (hg q hq)
        · by_cases ej : j = back b.p.f q
          · rw [ej]; exact st _ (by omega)
          · exact st _ (by rw [back_in b.p.f q j (by omega) h2]; omega)
        · rw [st _ (by rw [h3]; omega)]; exact h3

/- It is given back. -/
def emptF (P : Nat → Int) (p n : Nat) : Nat → Int := fun j => if p ≤ j ∧ j < p + n then 0 else P j
def Bx.unwide (b : Bx) (p n : Nat) : Bx := ⟨b.s, ⟨b.p.a, b.p.n, b.p.c, emptF b.p.f p n⟩, b.h0, b.h1, b.h2, b.h3, b.o.put (p * 8) 0, b.i, b.e⟩
theorem empt_out {P : Nat → Int} {p n j : Nat} (h : j < p ∨ p + n ≤ j) : emptF P p n j = P j := by
  unfold emptF
  rw [if_neg (by omega)]
theorem empt_in {P : Nat → Int} {p n j : Nat} (h : p ≤ j) (h2 : j < p + n) : emptF P p n j = 0 := by
  unfold emptF
  rw [if_pos ⟨h, h2⟩]
theorem own_none {b : Bx} (h : OwnsP b b.o.n) (u : Nat) (hs : 0 ≤ b.s) : ∀ j, j < b.o.n → OwnU (b.own u 0) j := fun j hj => by
  have q := h j hj
  unfold OwnU at q ⊢
  simp only [Bx.own, Sx.put, upd]
  split
  · exact ⟨by omega, by omega, fun g => by omega⟩
  · exact q

theorem keep_unwide {b : Bx} (h : OkP b) (p n : Nat) (hp : p < b.p.n) (hn : b.p.f p = 8 + (n : Int)) (n1 : 1 ≤ n) : OkP (b.unwide p n) := by
  obtain ⟨⟨hl, hs, hw⟩, hd, hg⟩ := h
  obtain ⟨w1, w2, w3, w4, w5, w6⟩ : WideP b.p.f b.o.f b.p.n p := by
    have g := hg p hp
    unfold PageP at g
    rcases g with ⟨g, _⟩ | ⟨m, _, g, _⟩ | ⟨g, _⟩ | g
    · omega
    · omega
    · omega
    · exact g
  have sv : ∀ j, p < j → j < p + n → b.p.f j = 7 := fun j h1 h2 => by have := w6 (j - p) (by omega) (by omega); rwa [show p + (j - p) = j by omega] at this
  have hhd : ∀ k, (b.unwide p n).hd k = b.hd k := fun _ => rfl
  have oo : ∀ q u, u < 8 → q * 8 + u ≠ p * 8 → (b.unwide p n).o.f (q * 8 + u) = b.o.f (q * 8 + u) := fun q u hu hne => by
    simp only [Bx.unwide, Sx.put, upd]; rw [if_neg hne]
  have bkp : ∀ q, p < q → q < p + n → back b.p.f q = p := fun q h1 h2 => back_at _ _ _ (by omega) (fun j h3 h4 => sv j h3 (by omega)) (.inl (by omega))
  refine ⟨⟨hl, hs, own_none (b := b) hw (p * 8) (by have := hl.1; omega)⟩, fun k hk => ⟨(hd k hk).1, fun j hj => ?_⟩, fun q hq => ?_⟩
  · obtain ⟨g1, g2, g3, g4⟩ := (hd k hk).2 j hj
    refine ⟨g1, g2, ?_, g4⟩
    rw [hhd k]
    refine Eq.trans (empt_out ?_) g3
    obtain ⟨v, hv⟩ : ∃ v, v = (((b.hd k).f j) / 8).toNat := ⟨_, rfl⟩
    rw [← hv] at g3 ⊢
    by_cases h1 : v = p
    · rw [h1] at g3; omega
    · by_cases h2 : p < v ∧ v < p + n
      · have := sv v h2.1 h2.2; omega
      · omega
  · by_cases e2 : p ≤ q ∧ q < p + n
    · refine .inl ⟨empt_in e2.1 e2.2, fun u h1 h2 => ?_⟩
      by_cases eu : q * 8 + u = p * 8
      · rw [eu]
        simp only [Bx.unwide, Sx.put, upd, if_true]; omega
      · rw [oo q u h2 eu]
        by_cases eq : q = p
        · subst eq
          exact w5 u (by omega) h2
        · have g := hg q hq
          have z := sv q (by omega) e2.2
          unfold PageP at g
          rcases g with ⟨g, _⟩ | ⟨m, _, g, _⟩ | ⟨_, g⟩ | g
          · omega
          · omega
          · exact g.2.2 u h1 h2
          · have := g.1; omega
    · have out : q < p ∨ p + n ≤ q := by omega
      refine page_to (b := b) q rfl (empt_out out) (fun h7 h8 h9 j h1 h2 => ?_) (fun j h1 h2 h3 => ?_) (fun _ _ _ _ _ => rfl) (fun u hu => oo q u hu (by omega)) (hg q hq)
      · refine empt_out ?_
        have lb := back_le b.p.f q
        by_cases hj : j < p ∨ p + n ≤ j
        · exact hj
        · exfalso
          -- the page that q's room begins at lies in this run, or before it
          by_cases hb : back b.p.f q ≤ p
          · by_cases hbe : back b.p.f q = p
            · rw [hbe, hn] at h9; omega
            · have := back_in b.p.f q p (by omega) (by omega); omega
          · have := sv (back b.p.f q) (by omega) (by omega); omega
      · have hpq : p ≠ q + j := fun e => by rw [← e] at h3; omega
        refine Eq.trans (empt_out ?_) h3
        by_cases hj : q + j < p ∨ p + n ≤ q + j
        · exact hj
        · exfalso
          have r1 := bkp (q + j) (by omega) (by omega)
          have hqp : q < p := by omega
          have g := hg q hq
          have q10 : 10 ≤ b.p.f q := by
            unfold PageP at g
            rcases g with ⟨g, _⟩ | ⟨m, _, g, _⟩ | ⟨g, _⟩ | g
            · omega
            · omega
            · omega
            · exact g.1
          unfold PageP at g
          rcases g with ⟨g, _⟩ | ⟨m, _, g, _⟩ | ⟨g, _⟩ | g
          · omega
          · omega
          · omega
          · have := g.2.2.2.2.2 (p - q) (by omega) (by omega)
            rw [show q + (p - q) = p by omega] at this
            omega

theorem lies_cells (b : Bx) (i : Nat) : b.Lies i ↔ ∃ v ∈ b.cells, ∃ o n c, v = .slice (some ⟨i, o, none⟩) n c ∧ 0 < c := by
  unfold Bx.Lies
  have e : b.cells = .int .i64 b.s :: b.lists.map (fun x => .slice x.a x.n x.c) := rfl
  rw [e]
  constructor
  · rintro ⟨x, hx, hc, o, ea⟩
    exact ⟨_, List.mem_cons_of_mem _ (List.mem_map.2 ⟨x, hx, rfl⟩), o, x.n, x.c, by rw [ea], hc⟩
  · rintro ⟨v, hv, o, n, c, rfl, hc⟩
    rcases List.mem_cons.1 hv with hv | hv
    · cases hv
    · obtain ⟨x, hx, ex⟩ := List.mem_map.1 hv
      injection ex with e1 e2 e3
      exact ⟨x, hx, by omega, o, e1⟩
theorem lies_same {b c : Bx} (h : c.cells = b.cells) {i : Nat} (g : c.Lies i) : b.Lies i := by
  rw [lies_cells] at g ⊢
  rw [← h]
  exact g

/- The answer of a call: the book c, and two numbers. -/
def Ans3 (b : Bx) (B : Nat) (w : World) (P : Bx → Int → Int → Prop) (e : Ending) (w' : World) : Prop :=
  ∃ (c : Bx) (x y : Int), e = .returned (.tuple #[.agg c.cells.toArray, .int .i64 x, .int .i64 y]) ∧ P c x y ∧ c.Hl B w' ∧ Fr b w w' ∧ ∀ i, c.Lies i → b.Lies i ∨ w.heap.size ≤ i

def PagP (b : Bx) (t n : Nat) (c : Bx) (x y : Int) : Prop :=
  (∃ p : Nat, p + n ≤ b.p.n ∧ EmpP b.p.f p n ∧ (∀ q, q < p → ¬ EmpP b.p.f q n) ∧ c = b.wide p n t ∧ x = 0 ∧ y = (p : Int) * 8) ∨ ((∀ q, q + n ≤ b.p.n → ¬ EmpP b.p.f q n) ∧ c = b ∧ x = 2 ∧ y = 0)

/- So far as its pages are marked. -/
def widI (P : Nat → Int) (p n u : Nat) : Nat → Int := fun j => if j = p then 8 + (n : Int) else if p < j ∧ j < p + u then 7 else P j
def Bx.widI (b : Bx) (p n u : Nat) : Bx := ⟨b.s, ⟨b.p.a, b.p.n, b.p.c, Book.widI b.p.f p n u⟩, b.h0, b.h1, b.h2, b.h3, b.o, b.i, b.e⟩
theorem widI_one (P : Nat → Int) (p n : Nat) : widI P p n 1 = upd P p (8 + (n : Int)) := by
  funext j
  simp only [widI, upd]
  by_cases e : j = p
  · rw [if_pos e, if_pos e]
  · rw [if_neg e, if_neg e, if_neg (by omega)]
theorem widI_step (P : Nat → Int) (p n u : Nat) (h : 1 ≤ u) : widI P p n (u + 1) = upd (widI P p n u) (p + u) 7 := by
  funext j
  simp only [widI, upd]
  by_cases e : j = p
  · rw [if_pos e, if_neg (by omega), if_pos e]
  · rw [if_neg e, if_neg e]
    by_cases e2 : j = p + u
    · rw [if_pos (by omega), if_pos e2]
    · rw [if_neg e2]
      by_cases e3 : p < j ∧ j < p + u
      · rw [if_pos (by omega), if_pos e3]
      · rw [if_neg (by omega), if_neg e3]

set_option maxHeartbeats 8000000 in
theorem dpages_any (b : Bx) (t n B : Nat) (w : World) (h : b.Hl B w) (hok : OkP b) (n2 : 2 ≤ n) (n4 : n ≤ 4) (ht : (t : Int) < b.s) :
    Calls Tryd.prog 91 #[.agg b.cells.toArray, .int .i64 t, .int .i64 n] w fun e w' => Ans3 b B w (PagP b t n) e w' := by
  have l1 := hok.1.1.2.1
  have l2 := hok.1.1.2.2.2.2.1
  have l3 := hok.1.1.2.2.2.2.2.1
  have l4 := hok.1.1.2.2.2.2.2.2
  have S := Dn.start h 26
  simp only [Bx.cells] at S ⊢
  go_enter Tryd.func91, Tryd.ntmps91
  go_wp2_with (fail)
  generalize (w.alloc (.cells #[.int .i64 b.s, .slice b.p.a b.p.n b.p.c, .slice b.h0.a b.h0.n b.h0.c, .slice b.h1.a b.h1.n b.h1.c, .slice b.h2.a b.h2.n b.h2.c, .slice b.h3.a b.h3.n b.h3.c, .slice b.o.a b.o.n b.o.c, .slice b.i.a b.i.n b.i.c, .slice b.e.a b.e.n b.e.c] 26)).alloc (.cells #[.int .i64 0, .slice none 0 0, .slice none 0 0, .slice none 0 0, .slice none 0 0, .slice none 0 0, .slice none 0 0, .slice none 0 0, .slice none 0 0] 26) = W at S ⊢
  obtain ⟨u0, u1, u2, u3, u4, u5, u6, u7, u8⟩ := nine S.e.range
  have HS : Hid (Dn w b B b W) := S
  clear S
  go_wp2_with (fail)
  refine (run_any b n W HS.out.h.at (by omega) (by omega) (by omega) (by omega)).mono ?_
  rintro e w1 ⟨⟨r, rfl, hr⟩, hb⟩
  have S := HS.out.later hb
  clear HS hb u0 u1 u2 u3 u4 u5 u6 u7 u8
  rcases hr with ⟨p, p1, rfl, p2, p3⟩ | ⟨rfl, hr⟩
  · have hx : b.p.At w1 := S.h.at.p
    obtain ⟨k, o, ea, hc⟩ := hx.cells (by omega)
    obtain ⟨kq, oq, eq, hcq⟩ := S.h.at.o.cells (by omega)
    have EA : Hid (b.p.a = some ⟨k, o, none⟩) := ea
    have EQ : Hid (b.o.a = some ⟨kq, oq, none⟩) := eq
    clear hx hc hcq ea eq
    have fre : ∀ (v : World) (c : Bx), Dn w b B c v → c.p.a = b.p.a → c.p.n = b.p.n → c.p.c = b.p.c → ∀ j, j < b.p.n → ∃ y, v.cell? ⟨k, o + j, none⟩ = some y ∧ v.frozen? ⟨k, o + j, none⟩ = false := fun v c D e1 e2 e3 j hj => by
      obtain ⟨g0, g | ⟨k', o', e', g1, g2, g3, g4⟩⟩ := D.h.each c.p (by simp [Bx.lists])
      · omega
      · rw [e1, EA.out] at e'
        cases e'
        obtain ⟨y1, y2⟩ := g3 j (by omega)
        obtain ⟨y, hy⟩ := Option.isSome_iff_exists.1 y1
        exact ⟨y, hy, y2⟩
    have FRE : Hid (∀ (v : World) (c : Bx), Dn w b B c v → c.p.a = b.p.a → c.p.n = b.p.n → c.p.c = b.p.c → ∀ j, j < b.p.n → ∃ y, v.cell? ⟨k, o + j, none⟩ = some y ∧ v.frozen? ⟨k, o + j, none⟩ = false) := fre
    clear fre
    obtain ⟨y0, y1, y2⟩ := FRE.out w1 b S rfl rfl rfl p (by omega)
    obtain ⟨-, u1, -, -, -, -, -, -, -⟩ := nine S.e.range
    rw [EA.out] at u1
    have S1 := S.write (b' := b.widI p n 1) 0 b.p rfl k o p EA.out (by omega) (8 + (n : Int)) (by simp only [Bx.widI, widI_one]; rfl) rfl (fun i hi => lies_same (b := b) (c := b.widI p n 1) rfl hi)
    have HS : Hid (Dn w b B (b.widI p n 1) _) := S1
    have P2 : Hid (EmpP b.p.f p n) := p2
    have P3 : Hid (∀ q, q < p → ¬ EmpP b.p.f q n) := p3
    clear S S1 p2 p3
    go_wp2_with (fail)
    generalize w1.setCell ⟨k, o + p, none⟩ (.int .i64 (8 + (n : Int))) = w2 at HS ⊢
    clear y1 y2 u1
    go_loopw [10] (fun i wr => ∃ u : Nat, 1 ≤ u ∧ u ≤ n ∧ i = .int .i64 u ∧ Dn w b B (b.widI p n u) wr) (fun i _ => n - (intOf i).toNat)
    case atStart => exact ⟨1, by omega, by omega, rfl, HS.out⟩
    case round =>
      obtain ⟨u, h1, h2, rfl, S⟩ := hrel
      obtain ⟨u0, u1, u2, u3, u4, u5, u6, u7, u8⟩ := nine S.e.range
      simp only [Bx.widI, EA.out, EQ.out] at u0 u1 u2 u3 u4 u5 u6 u7 u8
      have HD : Hid (Dn w b B (b.widI p n u) _) := S
      clear S
      by_cases hlt : (u : Int) < n
      · obtain ⟨y0, y1, y2⟩ := FRE.out _ _ HD.out rfl rfl rfl (p + u) (by omega)
        have i1 : ((p : Int) + u) < b.p.n := by omega
        have i2 : ((p : Int) + u).toNat = p + u := by omega
        have S1 := HD.out.write (b' := b.widI p n (u + 1)) 0 (b.widI p n u).p rfl k o (p + u) EA.out (by show p + u < b.p.n; omega) 7 (by simp only [Bx.widI, widI_step _ _ _ _ h1]; rfl) rfl (fun i hi => lies_same (b := b.widI p n u) (c := b.widI p n (u + 1)) rfl hi)
        have HS1 : Hid (Dn w b B (b.widI p n (u + 1)) _) := S1
        clear S1
        go_wp2_with (fail)
        go_round
        case rel => exact ⟨u + 1, by omega, by omega, by go_num, HS1.out⟩
        case measure => simp [intOf]; omega
      · obtain rfl : u = n := by omega
        obtain ⟨z1, z2⟩ : (∃ y, wr.cell? ⟨kq, oq + p * 8, none⟩ = some y) ∧ wr.frozen? ⟨kq, oq + p * 8, none⟩ = false := by
          obtain ⟨g0, g | ⟨k', o', e', g1, g2, g3, g4⟩⟩ := HD.out.h.each b.o (by simp [Bx.lists, Bx.widI])
          · omega
          · rw [EQ.out] at e'
            cases e'
            obtain ⟨q1, q2⟩ := g3 (p * 8) (by omega)
            exact ⟨Option.isSome_iff_exists.1 q1, q2⟩
        obtain ⟨z0, z1⟩ := z1
        have i1 : (p : Int) * 8 < b.o.n := by omega
        have i2 : ((p : Int) * 8).toNat = p * 8 := by omega
        have S5 := HD.out.write (b' := b.wide p u t) 5 b.o rfl kq oq (p * 8) EQ.out (by omega) ((t : Int) + 1) rfl rfl (fun i hi => lies_same (b := b.widI p u u) (c := b.wide p u t) rfl hi)
        obtain ⟨w9, e9, ck9, ow9, be9, li9⟩ := S5.ans
        simp only [Bx.wide, Sx.put, EA.out, EQ.out] at e9
        have tk0 := S5.t 0 _ rfl
        have tk1 := S5.t 1 _ rfl
        have tk2 := S5.t 2 _ rfl
        have tk3 := S5.t 3 _ rfl
        have tk4 := S5.t 4 _ rfl
        have tk5 := S5.t 5 _ rfl
        have tk6 := S5.t 6 _ rfl
        have tk7 := S5.t 7 _ rfl
        have tk8 := S5.t 8 _ rfl
        obtain ⟨v0, v1, v2, v3, v4, v5, v6, v7, v8⟩ := nine S5.e.range
        simp only [Bx.wide, Sx.put, EA.out, EQ.out] at v0 v1 v2 v3 v4 v5 v6 v7 v8
        have HE : Hid (w9 = _) := e9
        clear S5 e9 HS
        go_wp2_with (fail)
        rw [← HE.out]
        exact bodyPost_ret (results_cell_two rfl _ _ (w.heap.size + 1) 0 _ _ rfl ck9.range Tryd.underlying26 rfl (by kernel_rfl)) rfl ⟨b.wide p u t, 0, (p : Int) * 8, rfl, .inl ⟨p, p1, P2.out, P3.out, rfl, rfl, rfl⟩, ow9, be9, li9⟩
  · obtain ⟨w9, e9, ck9, ow9, be9, li9⟩ := S.ans
    have tk0 := S.t 0 _ rfl
    have tk1 := S.t 1 _ rfl
    have tk2 := S.t 2 _ rfl
    have tk3 := S.t 3 _ rfl
    have tk4 := S.t 4 _ rfl
    have tk5 := S.t 5 _ rfl
    have tk6 := S.t 6 _ rfl
    have tk7 := S.t 7 _ rfl
    have tk8 := S.t 8 _ rfl
    obtain ⟨u0, u1, u2, u3, u4, u5, u6, u7, u8⟩ := nine S.e.range
    have HE : Hid (w9 = _) := e9
    have HR : Hid (∀ q, q + n ≤ b.p.n → ¬ EmpP b.p.f q n) := hr
    clear S e9 hr
    go_wp2_with (fail)
    rw [← HE.out]
    exact bodyPost_ret (results_cell_two rfl _ _ (w.heap.size + 1) 0 _ _ rfl ck9.range Tryd.underlying26 rfl (by kernel_rfl)) rfl ⟨b, 2, 0, rfl, .inr ⟨HR.out, rfl, rfl, rfl⟩, ow9, be9, li9⟩

end Go.Proofs.YtbipolfbkemmpaaDoor.Book

import Derived.Test.YtbipolfbkemmpaaDoorM53
import Derived.Test.YtbipolfbkemmpaaDoorM23
import Derived.Test.YtbipolfbkemmpaaDoorM52

/- A slot that is cut off is reaped, room by room: over no program. -/
namespace Go.Proofs.YtbipolfbkemmpaaDoor.Dra
open Go.ChangeShapes Go.WideShapes Go.ChangeAt Go.RowKit
open Aid Lst Book
set_option maxRecDepth 100000
set_option linter.unusedVariables false
set_option linter.unusedSimpArgs false

theorem sel_len (f : Nat → Int) (v : Int) : ∀ n, (selL f v n).length = cnt f v n
  | 0 => rfl
  | n + 1 => by
    have := sel_len f v n
    simp only [selL, cnt]
    split <;> simp [this]
theorem cnt_put0 (f : Nat → Int) (v : Int) (hv : v ≠ 0) (A : Nat) (ho : f A = v) : ∀ n, A < n → cnt (Book.upd f A 0) v n + 1 = cnt f v n
  | 0, h => by omega
  | n + 1, h => by
    simp only [cnt]
    by_cases e : A = n
    · subst e
      have q : cnt (Book.upd f A 0) v A = cnt f v A := cnt_congr (fun j hj => by simp only [Book.upd]; rw [if_neg (by omega)])
      rw [q, ho]
      have z : Book.upd f A 0 A = 0 := by simp [Book.upd]
      rw [z, if_neg (fun e => hv e.symm), if_pos rfl]
    · have := cnt_put0 f v hv A ho n (by omega)
      have z : Book.upd f A 0 n = f n := by simp only [Book.upd]; rw [if_neg (by omega)]
      rw [z]
      omega

/- What a slot's rooms come to while it is reaped. -/
structure Rp (b : Bx) (s n i : Nat) (x : Bx) : Prop where
  ok : OkP x
  es : x.s = b.s
  on : x.o.n = b.o.n
  pn : x.p.n = b.p.n
  is : x.i.f s = 2
  ii : ∀ j, j ≠ s → x.i.f j = b.i.f j
  ee : ∀ j, x.e.f j = b.e.f j
  ct : cnt x.o.f ((s : Int) + 1) x.o.n + i = n
  oo : ∀ u, b.o.f u ≠ (s : Int) + 1 → x.o.f u = b.o.f u
  rr : ∀ u, u < b.o.n → 0 < b.o.f u → b.o.f u ≠ (s : Int) + 1 → x.p.f (u / 8) = b.p.f (u / 8)

theorem back_out {b : Bx} (hok : OkP b) {A : Nat} {c : Bx} (hA : A < b.o.n) (ho : 0 < b.o.f A) (h : BakP b A c) :
    c.s = b.s ∧ c.o.n = b.o.n ∧ c.p.n = b.p.n ∧ c.i = b.i ∧ c.e = b.e ∧ c.o.f = Book.upd b.o.f A 0 ∧ ∀ u, u < b.o.n → u ≠ A → 0 < b.o.f u → c.p.f (u / 8) = b.p.f (u / 8) := by
  have l := hok.1.1
  unfold LensP at l
  have hd := had_at hok hA ho
  have eA : A / 8 * 8 + A % 8 = A := by omega
  rcases h with ⟨n, n1, hn, rfl⟩ | ⟨k, hk, hp, ⟨hf, x, xn, xf, rfl⟩ | ⟨hf, y, hy, rfl⟩⟩
  · obtain ⟨n', n2, n4, hn', fit, e8⟩ : ∃ n : Nat, 2 ≤ n ∧ n ≤ 4 ∧ b.p.f (A / 8) = 8 + (n : Int) ∧ A / 8 + n ≤ b.p.n ∧ A = A / 8 * 8 := by
      rcases hd with ⟨k, hk, e⟩ | q
      · omega
      · exact q
    obtain rfl : n' = n := by omega
    refine ⟨rfl, rfl, rfl, rfl, rfl, by show Book.upd b.o.f (A / 8 * 8) 0 = _; rw [← e8], fun u hu hne h0 => ?_⟩
    show emptF b.p.f (A / 8) n' (u / 8) = b.p.f (u / 8)
    refine empt_out ?_
    have eu : u / 8 * 8 + u % 8 = u := by omega
    by_cases q0 : u / 8 = A / 8
    · exfalso
      rcases hok.2.2 (A / 8) (by omega) with ⟨h, _⟩ | ⟨m, hm, h, _⟩ | ⟨h, _⟩ | ⟨_, _, _, _, h5, _⟩
      · omega
      · omega
      · omega
      · have q := h5 (u % 8) (by omega) (by omega)
        rw [← q0, eu] at q
        exact q h0
    · by_cases q1 : A / 8 < u / 8 ∧ u / 8 < A / 8 + n'
      · exfalso
        have seven : b.p.f (u / 8) = 7 := by
          rcases hok.2.2 (A / 8) (by omega) with ⟨h, _⟩ | ⟨m, hm, h, _⟩ | ⟨h, _⟩ | ⟨_, _, _, _, _, h6⟩
          · omega
          · omega
          · omega
          · have q := h6 (u / 8 - A / 8) (by omega) (by omega)
            have e : A / 8 + (u / 8 - A / 8) = u / 8 := by omega
            rwa [e] at q
        rcases hok.2.2 (u / 8) (by omega) with ⟨h, _⟩ | ⟨m, hm, h, _⟩ | ⟨_, _, _, h⟩ | ⟨h, _⟩
        · omega
        · omega
        · have q := h (u % 8) (by omega) (by omega)
          rw [eu] at q
          exact q h0
        · omega
      · omega
  · exact ⟨rfl, rfl, rfl, rfl, rfl, rfl, fun u _ _ _ => rfl⟩
  · refine ⟨rfl, rfl, rfl, rfl, rfl, rfl, fun u hu hne h0 => ?_⟩
    show Book.upd b.p.f (A / 8) 0 (u / 8) = b.p.f (u / 8)
    simp only [Book.upd]
    have eu : u / 8 * 8 + u % 8 = u := by omega
    by_cases q0 : u / 8 = A / 8
    · exfalso
      have q := hf (u % 8) (by omega) (by omega)
      rw [← q0, eu] at q
      apply q
      show 0 < Book.upd b.o.f A 0 u
      simp only [Book.upd]
      rw [if_neg hne]
      exact h0
    · rw [if_neg q0]
theorem rp_step {b x d : Bx} {s n i : Nat} {c y : Int} (h : Rp b s n i x) (hs : (s : Int) < b.s) (hi : i ≤ n) (hd : DoP x ⟨6, s, s, 0⟩ d c y) :
    (i < n ∧ c = 10 ∧ Rp b s n (i + 1) d) ∨ (i = n ∧ c = 0 ∧ OkP d ∧ d = x.seti s 0 ∧ cnt x.o.f ((s : Int) + 1) x.o.n = 0) := by
  have okd := Book.do_ok h.ok hd
  have es := h.es
  have iS := h.is
  rcases hd with ⟨q, _⟩ | ⟨t, et, ht, ⟨q, _⟩ | ⟨_, ⟨q, _⟩ | ⟨_, q⟩⟩⟩
  · exfalso
    have q' : (s : Int) < 0 ∨ x.s ≤ (s : Int) := q
    omega
  · exact absurd q (by show ¬ ((6 : Int) = 1); decide)
  · have : (s : Int) = (t : Int) := et
    obtain rfl : s = t := by omega
    rw [iS] at q
    exact absurd q (by decide)
  · rcases q with ⟨e, _⟩ | ⟨e, _⟩ | ⟨e, _⟩ | ⟨e, _⟩ | ⟨_, q⟩ | ⟨e, _⟩
    · exact absurd e (by show ¬ ((6 : Int) = 2); decide)
    · exact absurd e (by show ¬ ((6 : Int) = 3); decide)
    · exact absurd e (by show ¬ ((6 : Int) = 4); decide)
    · exact absurd e (by show ¬ ((6 : Int) = 5); decide)
    · rcases q with ⟨e, _⟩ | ⟨t', et', _, _, ⟨e, _⟩ | ⟨_, ⟨hn, ed, ec, _⟩ | ⟨A, hA, hoA, _, hb, ec, _⟩⟩⟩
      · exfalso
        have e' : (s : Int) < 0 ∨ x.s ≤ (s : Int) ∨ x.i.f ((s : Int)).toNat = 0 := e
        have z : ((s : Int)).toNat = s := by simp
        rw [z, iS] at e'
        omega
      · exfalso
        have : (s : Int) = (t' : Int) := et'
        obtain rfl : s = t' := by omega
        rw [iS] at e
        exact absurd e (by decide)
      · have : (s : Int) = (t' : Int) := et'
        obtain rfl : s = t' := by omega
        have c0 : cnt x.o.f ((s : Int) + 1) x.o.n = 0 := Book.cnt_zero _ _ _ hn
        have := h.ct
        exact .inr ⟨by omega, ec, okd, ed, c0⟩
      · have : (s : Int) = (t' : Int) := et'
        obtain rfl : s = t' := by omega
        obtain ⟨b0, b1, b2, b3, b4, b5, b6⟩ := back_out h.ok hA (by omega) hb
        have cp := cnt_put0 x.o.f ((s : Int) + 1) (by omega) A hoA x.o.n hA
        have ct := h.ct
        refine .inl ⟨by omega, ec, ⟨okd, b0.trans h.es, b1.trans h.on, b2.trans h.pn, by rw [b3]; exact iS, fun j hj => by rw [b3]; exact h.ii j hj, fun j => by rw [b4]; exact h.ee j, by rw [b5, b1]; omega, fun u hu => ?_, fun u hu h0 hne => ?_⟩⟩
        · rw [b5]
          simp only [Book.upd]
          by_cases e : u = A
          · subst e
            have q := h.oo u hu
            rw [hoA] at q
            exact absurd q.symm hu
          · rw [if_neg e]; exact h.oo u hu
        · have q := h.oo u hne
          rw [b6 u (by rw [h.on]; exact hu) (fun e => by subst e; rw [hoA] at q; exact hne q.symm) (by rw [q]; exact h0)]
          exact h.rr u hu h0 hne
    · have : (6 : Int) < 2 ∨ (6 : Int) < 6 := e
      omega
theorem rp_m {b x z : Bx} {s n i : Nat} (h : Rp b s n i x) (e : z.m = x.m) : Rp b s n i z := by
  have hok := (ok_m e).2 h.ok
  simp only [Bx.m, Bm.mk.injEq, Sx.m, Prod.mk.injEq] at e
  obtain ⟨a0, ⟨a1, a2⟩, ⟨a3, a4⟩, ⟨a5, a6⟩, ⟨a7, a8⟩, ⟨a9, a10⟩, ⟨a11, a12⟩, ⟨a13, a14⟩, ⟨a15, a16⟩⟩ := e
  exact ⟨hok, a0.trans h.es, a11.trans h.on, a1.trans h.pn, by rw [a14]; exact h.is, fun j hj => by rw [a14]; exact h.ii j hj, fun j => by rw [a16]; exact h.ee j, by rw [a12, a11]; exact h.ct, fun u hu => by rw [a12]; exact h.oo u hu, fun u h1 h2 h3 => by rw [a2]; exact h.rr u h1 h2 h3⟩
/- Behind the last one. -/
structure Re (b : Bx) (s : Nat) (x : Bx) : Prop where
  ok : OkP x
  es : x.s = b.s
  on : x.o.n = b.o.n
  is : x.i.f s = 0
  ii : ∀ j, j ≠ s → x.i.f j = b.i.f j
  ee : ∀ j, x.e.f j = b.e.f j
  ct : cnt x.o.f ((s : Int) + 1) x.o.n = 0
  oo : ∀ u, b.o.f u ≠ (s : Int) + 1 → x.o.f u = b.o.f u
  rr : ∀ u, u < b.o.n → 0 < b.o.f u → b.o.f u ≠ (s : Int) + 1 → x.p.f (u / 8) = b.p.f (u / 8)
theorem re_of {b x d : Bx} {s n i : Nat} (h : Rp b s n i x) (hd : OkP d) (e : d = x.seti s 0) (c0 : cnt x.o.f ((s : Int) + 1) x.o.n = 0) : Re b s d := by
  subst e
  refine ⟨hd, h.es, h.on, ?_, fun j hj => ?_, h.ee, c0, h.oo, h.rr⟩
  · show Book.upd x.i.f s 0 s = 0
    simp [Book.upd]
  · show Book.upd x.i.f s 0 j = _
    simp only [Book.upd]
    rw [if_neg hj]
    exact h.ii j hj
theorem re_m {b x z : Bx} {s : Nat} (h : Re b s x) (e : z.m = x.m) : Re b s z := by
  have hok := (ok_m e).2 h.ok
  simp only [Bx.m, Bm.mk.injEq, Sx.m, Prod.mk.injEq] at e
  obtain ⟨a0, ⟨a1, a2⟩, ⟨a3, a4⟩, ⟨a5, a6⟩, ⟨a7, a8⟩, ⟨a9, a10⟩, ⟨a11, a12⟩, ⟨a13, a14⟩, ⟨a15, a16⟩⟩ := e
  exact ⟨hok, a0.trans h.es, a11.trans h.on, by rw [a14]; exact h.is, fun j hj => by rw [a14]; exact h.ii j hj, fun j => by rw [a16]; exact h.ee j, by rw [a12, a11]; exact h.ct, fun u hu => by rw [a12]; exact h.oo u hu, fun u h1 h2 h3 => by rw [a2]; exact h.rr u h1 h2 h3⟩
/- Somebody else's room has its size. -/
theorem re_room {b x : Bx} {s u : Nat} (hb : OkP b) (h : Re b s x) (hu : u < b.o.n) (h0 : 0 < b.o.f u) (hne : b.o.f u ≠ (s : Int) + 1) (r : Int) : RoomQ x u r ↔ RoomQ b u r := by
  have e1 : ((u : Int) / 8).toNat = u / 8 := by omega
  have e2 : ((u : Int)).toNat = u := by simp
  have o := h.oo u hne
  have p := h.rr u hu h0 hne
  have on := h.on
  unfold RoomQ RoomR
  rw [e1, e2, o, p, on]
  exact ⟨fun q => q.elim (fun q => .inl ⟨hb, q.2⟩) (fun q => absurd h.ok q.1), fun q => q.elim (fun q => .inl ⟨h.ok, q.2⟩) (fun q => absurd hb q.1)⟩
/- Who is cut off has its rooms yet. -/
theorem rp_start {b x : Bx} {s : Nat} (hb : OkP b) (hs : (s : Int) < b.s) (hi : b.i.f s ≠ 0) (e : x.m = cutM b.m s) : Rp b s (cnt b.o.f ((s : Int) + 1) b.o.n) 0 x := by
  have hok := cut_ok hb e
  have in2 := hb.1.2.1 s (by have := hb.1.1; unfold LensP at this; omega)
  unfold InU at in2
  have s0 : (0 : Int) ≤ (s : Int) ∧ (s : Int) < b.m.s := ⟨by omega, hs⟩
  unfold cutM at e
  rw [if_pos s0] at e
  simp only [Bx.m, Bm.mk.injEq, Sx.m, Prod.mk.injEq] at e
  obtain ⟨a0, ⟨a1, a2⟩, ⟨a3, a4⟩, ⟨a5, a6⟩, ⟨a7, a8⟩, ⟨a9, a10⟩, ⟨a11, a12⟩, ⟨a13, a14⟩, ⟨a15, a16⟩⟩ := e
  refine ⟨hok, a0, a11, a1, ?_, fun j hj => ?_, fun j => by rw [a16], by rw [a11, a12]; omega, fun u _ => by rw [a12], fun u _ _ _ => by rw [a2]⟩
  · rw [a14]
    unfold cutF
    by_cases h1 : b.i.f s = 1
    · simp [h1]
    · simp [h1]
      omega
  · rw [a14]
    unfold cutF
    have : ¬ ((j : Int) = (s : Int)) := by omega
    simp [this]

/- It is answered. -/
theorem back_some {x : Bx} (hok : OkP x) {A : Nat} (hA : A < x.o.n) (ho : 0 < x.o.f A) : ∃ c, BakP x A c := by
  rcases had_at hok hA ho with ⟨k, hk, hp⟩ | ⟨n, n2, _, hp, _⟩
  · by_cases hf : FreeP (x.o.put A 0).f (A / 8) 0
    · exact ⟨_, .inr ⟨k, hk, hp, .inr ⟨hf, ⟨none, (kept (consF (x.hd k).f A) ((A / 8 : Nat) : Int) ((x.hd k).n + 1)).length, 0, fun j => (kept (consF (x.hd k).f A) ((A / 8 : Nat) : Int) ((x.hd k).n + 1)).getD j 0⟩, ⟨rfl, fun j _ => rfl⟩, rfl⟩⟩⟩
    · exact ⟨_, .inr ⟨k, hk, hp, .inl ⟨hf, ⟨none, (x.hd k).n + 1, 0, consF (x.hd k).f A⟩, rfl, rfl, rfl⟩⟩⟩
  · exact ⟨_, .inl ⟨n, by omega, hp, rfl⟩⟩
theorem low_of {f : Nat → Int} {v : Int} : ∀ n : Nat, (∀ u, u < n → f u ≠ v) ∨ ∃ A, A < n ∧ f A = v ∧ ∀ j, j < A → f j ≠ v
  | 0 => .inl (fun u h => by omega)
  | n + 1 => by
    rcases low_of (f := f) (v := v) n with h | ⟨A, h1, h2, h3⟩
    · by_cases e : f n = v
      · exact .inr ⟨n, by omega, e, h⟩
      · refine .inl (fun u hu => ?_)
        by_cases q : u = n
        · rw [q]; exact e
        · exact h u (by omega)
    · exact .inr ⟨A, by omega, h2, h3⟩
theorem do_some {b : Bx} {n i : Nat} (x : Bx) (s : Nat) (h : Rp b s n i x) (hs : (s : Int) < b.s) : ∃ d c y, DoP x ⟨6, s, s, 0⟩ d c y := by
  have es := h.es
  have iS := h.is
  have z : ((s : Int)).toNat = s := by simp
  have top : ∀ {d : Bx} {c y : Int}, ReaP x s d c y → DoP x ⟨6, s, s, 0⟩ d c y := fun {d c y} q => .inr ⟨s, rfl, by omega, .inr ⟨by show ¬ ((6 : Int) = 1); decide, .inr ⟨by rw [iS]; decide, .inr (.inr (.inr (.inr (.inl ⟨rfl, q⟩))))⟩⟩⟩
  rcases low_of (f := x.o.f) (v := (s : Int) + 1) x.o.n with q | ⟨A, hA, hoA, hlow⟩
  · exact ⟨_, _, _, top (.inr ⟨s, rfl, by omega, by rw [iS]; decide, .inr ⟨by rw [iS]; decide, .inl ⟨q, rfl, rfl, rfl⟩⟩⟩)⟩
  · obtain ⟨c, hc⟩ := back_some h.ok hA (by omega)
    exact ⟨_, _, _, top (.inr ⟨s, rfl, by omega, by rw [iS]; decide, .inr ⟨by rw [iS]; decide, .inr ⟨A, hA, hoA, hlow, hc, rfl, rfl⟩⟩⟩)⟩
/- The rooms of a slot, counted. -/
theorem bofn (b : Bx) (t : Int) (w : World) (h : b.At w) (hn : b.total ≤ 1000000000) (hcap : b.o.n ≤ b.o.c) :
    Calls Tryd.prog 18 #[.agg b.cells.toArray, .int .i64 t] w fun e w' => (∃ (a : Option Addr) (c : Nat) (L : List Int), e = .returned (.slice a L.length c) ∧ OfL b t L) ∧ Below w.heap.size w w' :=
  (Book.of_any b t w h hn hcap).mono (by
    rintro e w' ⟨⟨v, L, rfl, ⟨_, hv⟩, hL⟩, hb⟩
    rcases hv with ⟨rfl, h0⟩ | ⟨g, c, cur, rfl, _⟩
    · exact ⟨⟨none, 0, L, by rw [h0], hL⟩, hb⟩
    · exact ⟨⟨_, c, L, rfl, hL⟩, hb⟩)
theorem sbofn (b : Bx) (t : Int) (w : World) (h : b.At w) (hn : b.total ≤ 1000000000) (hw : b.Wf) (t0 : -9223372036854775808 ≤ t) (t1 : t ≤ 9223372036854775807) :
    Calls Tryd.prog 20 #[.agg b.cells.toArray, .int .i64 t] w fun e w' => (∃ (a : Option Addr) (c : Nat) (L : List Int), e = .returned (.slice a L.length c) ∧ OfL b t L) ∧ Below w.heap.size w w' :=
  (Book.sof_any b t w h hn hw t0 t1).mono (by
    rintro e w' ⟨⟨v, L, rfl, ⟨_, hv⟩, hL⟩, hb⟩
    rcases hv with ⟨rfl, h0⟩ | ⟨g, c, cur, rfl, _⟩
    · exact ⟨⟨none, 0, L, by rw [h0], hL⟩, hb⟩
    · exact ⟨⟨_, c, L, rfl, hL⟩, hb⟩)
theorem ofl_len {b : Bx} {s : Nat} {L : List Int} (hb : OkP b) (hs : (s : Int) < b.s) (h : OfL b s L) : L.length = cnt b.o.f ((s : Int) + 1) b.o.n := by
  rcases h with ⟨_, ⟨_, e⟩ | ⟨q, _⟩⟩ | ⟨q, _⟩
  · rw [e, sel_len]
  · exact absurd ⟨by omega, hs⟩ q
  · exact absurd hb q
/- No list of a book's lies in a block. -/
def OffB (x : Bx) (q : Nat) : Prop := ∀ s ∈ x.lists, 0 < s.n → ∀ k o, s.a = some ⟨k, o, none⟩ → k ≠ q
theorem off_own {x : Bx} {B C q : Nat} {w : World} (h : x.Own B C w) (hq : q < B ∨ C ≤ q) : OffB x q := fun s hs hn k o e => by
  rcases h.each s hs with z | ⟨k', e', h1, h2, _⟩
  · omega
  · rw [e] at e'
    cases e'
    omega
theorem as_off {x y : Bx} (e : x.trim.m = y.trim.m) : ∃ x1 : Bx, x1.cells = x.cells ∧ x1.m = y.m ∧ (∀ W, x.At W → x1.At W) ∧ x1.o.n = x.o.n ∧ x1.o.c = x.o.c ∧ ∀ q, OffB x q → OffB x1 q := by
  obtain ⟨e0, e1, e2, e3, e4, e5, e6, e7, e8⟩ := bx_trim e
  refine ⟨⟨x.s, asS x.p y.p, asS x.h0 y.h0, asS x.h1 y.h1, asS x.h2 y.h2, asS x.h3 y.h3, asS x.o y.o, asS x.i y.i, asS x.e y.e⟩, rfl, ?_, fun W h z hz => ?_, rfl, rfl, fun q h z hz => ?_⟩
  · simp only [Bx.m, asS_m e1, asS_m e2, asS_m e3, asS_m e4, asS_m e5, asS_m e6, asS_m e7, asS_m e8, e0]
  · simp only [Bx.lists, List.mem_cons, List.not_mem_nil, or_false] at hz
    rcases hz with rfl | rfl | rfl | rfl | rfl | rfl | rfl | rfl
    · exact asS_at e1 (h _ (by simp [Bx.lists]))
    · exact asS_at e2 (h _ (by simp [Bx.lists]))
    · exact asS_at e3 (h _ (by simp [Bx.lists]))
    · exact asS_at e4 (h _ (by simp [Bx.lists]))
    · exact asS_at e5 (h _ (by simp [Bx.lists]))
    · exact asS_at e6 (h _ (by simp [Bx.lists]))
    · exact asS_at e7 (h _ (by simp [Bx.lists]))
    · exact asS_at e8 (h _ (by simp [Bx.lists]))
  · simp only [Bx.lists, List.mem_cons, List.not_mem_nil, or_false] at hz
    rcases hz with rfl | rfl | rfl | rfl | rfl | rfl | rfl | rfl
    all_goals intro hn k o ea
    · exact h x.p (by simp [Bx.lists]) hn k o ea
    · exact h x.h0 (by simp [Bx.lists]) hn k o ea
    · exact h x.h1 (by simp [Bx.lists]) hn k o ea
    · exact h x.h2 (by simp [Bx.lists]) hn k o ea
    · exact h x.h3 (by simp [Bx.lists]) hn k o ea
    · exact h x.o (by simp [Bx.lists]) hn k o ea
    · exact h x.i (by simp [Bx.lists]) hn k o ea
    · exact h x.e (by simp [Bx.lists]) hn k o ea
/- A book that is turned call by call, in a struct at q. -/
structure Rq (w V : World) (k1 : Nat) (b : Bx) (q : Nat) (x : Bx) (W : World) : Prop where
  st : St w [(k1, b.cells)] [b] V
  be : Below V.heap.size V W
  r : Ck W q x.cells
  a : x.At W
  off : OffB x q
  cap : x.o.n ≤ x.o.c
  vq : V.heap.size ≤ q
theorem Rq.later {w V : World} {k1 : Nat} {b : Bx} {q : Nat} {x : Bx} {W W1 : World} (h : Rq w V k1 b q x W) (hb : Below W.heap.size W W1) : Rq w V k1 b q x W1 :=
  ⟨h.st, h.be.trans (hb.mono h.be.size), h.r.below hb h.r.lt, h.a.later hb, h.off, h.cap, h.vq⟩
theorem Rq.two {w V : World} {k1 : Nat} {b : Bx} {q : Nat} {x : Bx} {W : World} (h : Rq w V k1 b q x W) : St w [(q, x.cells), (k1, b.cells)] [x, b] W := by
  have g := (h.st.later h.be).book h.a
  refine ⟨fun p hp => ?_, g.a, g.b⟩
  rcases List.mem_cons.1 hp with rfl | hp
  · exact ⟨h.r.range, h.r.lt⟩
  · exact g.r p hp
theorem Rq.set {w V : World} {k1 : Nat} {b : Bx} {q : Nat} {x z : Bx} {W : World} (h : Rq w V k1 b q x W) (ha : z.At W) (ho : OffB z q) (hc : z.o.n ≤ z.o.c) : Rq w V k1 b q z (W.setCells q 0 z.cells.toArray.toList) := by
  obtain ⟨p1, p2⟩ := put9s h.r (.int .i64 z.s) (.slice z.p.a z.p.n z.p.c) (.slice z.h0.a z.h0.n z.h0.c) (.slice z.h1.a z.h1.n z.h1.c) (.slice z.h2.a z.h2.n z.h2.c) (.slice z.h3.a z.h3.n z.h3.c) (.slice z.o.a z.o.n z.o.c) (.slice z.i.a z.i.n z.i.c) (.slice z.e.a z.e.n z.e.c)
  refine ⟨h.st, below_setCells h.be h.vq _ _, p1, fun s hs => ?_, ho, hc, h.vq⟩
  rcases ha s hs with e | ⟨k, o, e, g⟩
  · exact .inl e
  · refine .inr ⟨k, o, e, fun j hj => ?_⟩
    have gj := g j hj
    have lt := World.block_lt_of_cell? _ _ gj
    have ne := ho s hs (by omega) k o e
    rw [← gj]
    exact p2.cell (k := k) lt (by omega)
def Rgo (b : Bx) (s n i : Nat) (x : Bx) : Prop := (i ≤ n ∧ Rp b s n i x) ∨ (i = n + 1 ∧ Re b s x)
theorem rg_ok {b x : Bx} {s n i : Nat} (h : Rgo b s n i x) : OkP x := h.elim (fun h => h.2.ok) (fun h => h.2.ok)

open Aid Lst Book Rin
open Gs (halt_at)
set_option maxHeartbeats 16000000 in
theorem law_bkreap {adr : Nat → Addr} (a : Option Addr) (len cap : Nat) (zs : List Int) (w : World) (h : Draw.Row w a len cap zs) (hle : ¬ (1048576 : Int) < len) (he : Ea adr w) :
    Calls Tryd.prog 5 #[.slice a len cap] w fun e w' => e = .returned (.bool true) ∧ Below w.heap.size w w' := by
  have HEa : Hid (Ea adr w) := he
  clear he
  go_enter Tryd.func5, Tryd.ntmps5
  go_wp2_with (fail)
  refine (dbof_any a len cap zs w h).mono ?_
  rintro e w1 ⟨b, t, rfl, ba, wf, tot, oc, hB⟩
  have HT0 : Hid (St w [] [b] w1) := ⟨fun p hp => by simp at hp, fun z hz => by
    obtain rfl := List.mem_singleton.1 hz
    exact ba, hB⟩
  have HWf : Hid b.Wf := wf
  have HTO : Hid (b.total ≤ 1001 ∧ b.o.n ≤ b.o.c) := ⟨tot, oc⟩
  have HM0 : Hid (b.total ≤ 1000000000) := (by show b.total ≤ 1000000000; omega)
  have HL0 : Hid (St w _ _ _) := laid HT0.out b 26
  have HTH : Hid (World.there _ w1.heap.size 0 _) := (mk_bk w1 26 b).1
  clear ba hB wf tot oc h hle
  go_wp2_with (with_reducible refine halt_at (.store 26 (.tmp 3) (.tmp 17)) rfl ?_)
  unfold Hid
  refine wpList_store_mid rfl 26 _ _ rfl (w1.heap.size) 0 b.cells.toArray rfl rfl HTH.out (by kernel_rfl) (cells_one _) ?_
  clear HTH
  generalize World.setCells _ _ _ _ = V1 at HL0 ⊢
  have HT1 : Hid (St w [(w1.heap.size, b.cells)] [b] V1) := HL0.out
  clear HL0
  have HRB : Hid (World.rangeAt _ (w1.heap.size) 0 b.cells) := (HT1.out.r (w1.heap.size, b.cells) (by simp)).1
  have kS : ∀ {W : World}, St w [(w1.heap.size, b.cells)] [b] W → W.cell? ⟨w1.heap.size, 0, none⟩ = some (.int .i64 b.s) := fun h => (h.r (w1.heap.size, b.cells) (by simp)).1 0 _ rfl
  have kI : ∀ {W : World}, St w [(w1.heap.size, b.cells)] [b] W → W.cell? ⟨w1.heap.size, 7, none⟩ = some (.slice b.i.a b.i.n b.i.c) := fun h => (h.r (w1.heap.size, b.cells) (by simp)).1 7 _ rfl
  have HKS : Hid (∀ {W : World}, St w [(w1.heap.size, b.cells)] [b] W → _) := kS
  have HKI : Hid (∀ {W : World}, St w [(w1.heap.size, b.cells)] [b] W → _) := kI
  clear kS kI
  go_wp2_with (first
      | refine wpList_load_mid rfl 26 _ rfl (w1.heap.size) 0 rfl b.cells _ HRB.out Tryd.underlying26 rfl (by kernel_rfl) ?_)
  refine (sok_any b _ (HT1.out.a b (by simp)) HM0.out HWf.out).mono ?_
  rintro e W2 ⟨⟨r, rfl, hr⟩, hb⟩
  have HT2 : Hid (St w [(w1.heap.size, b.cells)] [b] W2) := HT1.out.later hb
  clear hb HT1 HRB
  cases r
  · have HNB : Hid (¬ OkP b) := fun q => absurd (hr.2 q) (by simp)
    clear hr
    go_wp2_with (fail)
    refine wp_region_held_drew (S := Sb w W2 [(w1.heap.size, b.cells)] [b]) (by kernel_rfl) (Sb.refl HT2.out).drew (fun hS => ?_)
    generalize World.drew _ = Y0 at hS ⊢
    refine tB 0 (v := .agg b.cells.toArray) (d := some 40) rfl rfl (yieldsIf_load_mid (by rfl) 26 _ rfl (w1.heap.size) 0 rfl b.cells _ (fun w' hw => (hw.r (w1.heap.size, b.cells) (by simp)).1) Tryd.underlying26 rfl (by kernel_rfl)) hS ?_
    try simp only [Act.put, s1, s2, s3]
    refine tB 2 (v := .agg b.cells.toArray) (d := some 42) rfl rfl (yieldsIf_load_mid (by rfl) 26 _ rfl (w1.heap.size) 0 rfl b.cells _ (fun w' hw => (hw.r (w1.heap.size, b.cells) (by simp)).1) Tryd.underlying26 rfl (by kernel_rfl)) hS ?_
    try simp only [Act.put, s1, s2, s3]
    refine r1 1 rfl (fun K hK => ?_)
    have HI0 : Hid (Sb w W2 [(w1.heap.size, b.cells)] [b] Y0) := hS
    clear hS
    go_simp
    refine (Book.ok_any b _ (HI0.out.a b (by simp)) HM0.out HTO.out.2).mono ?_
    rintro e Y1 ⟨⟨r, rfl, hr⟩, hb⟩
    obtain rfl : r = false := by cases r; rfl; exact absurd (hr.1 rfl) HNB.out
    clear hr
    have HI1 : Hid (Sb w W2 [(w1.heap.size, b.cells)] [b] Y1) := HI0.out.later hb
    clear hb HI0
    go_wp2_with (fail)
    refine hK.out _ _ HI1.out (fun hS => ?_)
    clear hK K
    try simp only [Act.put, s1, s2, s3]
    refine r1 3 rfl (fun K hK => ?_)
    have HI1 : Hid (Sb w W2 [(w1.heap.size, b.cells)] [b] Y1) := hS
    clear hS
    go_simp
    refine (sok_any b _ (HI1.out.a b (by simp)) HM0.out HWf.out).mono ?_
    rintro e Y2 ⟨⟨r, rfl, hr⟩, hb⟩
    obtain rfl : r = false := by cases r; rfl; exact absurd (hr.1 rfl) HNB.out
    clear hr
    have HI2 : Hid (Sb w W2 [(w1.heap.size, b.cells)] [b] Y2) := HI1.out.later hb
    clear hb HI1
    go_wp2_with (fail)
    refine hK.out _ _ HI2.out (fun hS => ?_)
    clear hK K
    try simp only [Act.put, s1, s2, s3]
    refine tI 4 (v := .bool true) (d := some 44) rfl rfl (fun w' hw => ?_) hS ?_
    · clear hw; go_simp
    try simp only [Act.put, s1, s2, s3]
    refine tI 5 (v := .bool true) (d := some 2) rfl rfl (fun w' hw => ?_) hS ?_
    · clear hw; go_simp
    try simp only [Act.put, s1, s2, s3]
    refine wpAnyH_done (by kernel_rfl) ?_ _
    have HT3 := hS.st
    clear hS
    go_wp2_with (fail)
    go_ret
    exact ⟨rfl, HT3.b⟩
  have HOB : Hid (OkP b) := hr.1 rfl
  clear hr
  by_cases t0 : t < 0
  · skip
    go_wp2_with (fail)
    refine wp_region_held_drew (S := Sb w W2 [(w1.heap.size, b.cells)] [b]) (by kernel_rfl) (Sb.refl HT2.out).drew (fun hS => ?_)
    generalize World.drew _ = Y0 at hS ⊢
    refine tB 0 (v := .agg b.cells.toArray) (d := some 40) rfl rfl (yieldsIf_load_mid (by rfl) 26 _ rfl (w1.heap.size) 0 rfl b.cells _ (fun w' hw => (hw.r (w1.heap.size, b.cells) (by simp)).1) Tryd.underlying26 rfl (by kernel_rfl)) hS ?_
    try simp only [Act.put, s1, s2, s3]
    refine tB 2 (v := .agg b.cells.toArray) (d := some 42) rfl rfl (yieldsIf_load_mid (by rfl) 26 _ rfl (w1.heap.size) 0 rfl b.cells _ (fun w' hw => (hw.r (w1.heap.size, b.cells) (by simp)).1) Tryd.underlying26 rfl (by kernel_rfl)) hS ?_
    try simp only [Act.put, s1, s2, s3]
    refine r1 1 rfl (fun K hK => ?_)
    have HI0 : Hid (Sb w W2 [(w1.heap.size, b.cells)] [b] Y0) := hS
    clear hS
    go_simp
    refine (Book.ok_any b _ (HI0.out.a b (by simp)) HM0.out HTO.out.2).mono ?_
    rintro e Y1 ⟨⟨r, rfl, hr⟩, hb⟩
    obtain rfl : r = true := hr.2 HOB.out
    clear hr
    have HI1 : Hid (Sb w W2 [(w1.heap.size, b.cells)] [b] Y1) := HI0.out.later hb
    clear hb HI0
    go_wp2_with (fail)
    refine hK.out _ _ HI1.out (fun hS => ?_)
    clear hK K
    try simp only [Act.put, s1, s2, s3]
    refine r1 3 rfl (fun K hK => ?_)
    have HI1 : Hid (Sb w W2 [(w1.heap.size, b.cells)] [b] Y1) := hS
    clear hS
    go_simp
    refine (sok_any b _ (HI1.out.a b (by simp)) HM0.out HWf.out).mono ?_
    rintro e Y2 ⟨⟨r, rfl, hr⟩, hb⟩
    obtain rfl : r = true := hr.2 HOB.out
    clear hr
    have HI2 : Hid (Sb w W2 [(w1.heap.size, b.cells)] [b] Y2) := HI1.out.later hb
    clear hb HI1
    go_wp2_with (fail)
    refine hK.out _ _ HI2.out (fun hS => ?_)
    clear hK K
    try simp only [Act.put, s1, s2, s3]
    refine tI 4 (v := .bool true) (d := some 44) rfl rfl (fun w' hw => ?_) hS ?_
    · clear hw; go_simp
    try simp only [Act.put, s1, s2, s3]
    refine tI 5 (v := .bool true) (d := some 2) rfl rfl (fun w' hw => ?_) hS ?_
    · clear hw; go_simp
    try simp only [Act.put, s1, s2, s3]
    refine wpAnyH_done (by kernel_rfl) ?_ _
    have HT3 := hS.st
    clear hS
    go_wp2_with (fail)
    go_ret
    exact ⟨rfl, HT3.b⟩
  have ks := HKS.out HT2.out
  by_cases t1 : b.s ≤ t
  · have t1' : t ≥ b.s := t1
    go_wp2_with (fail)
    refine wp_region_held_drew (S := Sb w W2 [(w1.heap.size, b.cells)] [b]) (by kernel_rfl) (Sb.refl HT2.out).drew (fun hS => ?_)
    generalize World.drew _ = Y0 at hS ⊢
    refine tB 0 (v := .agg b.cells.toArray) (d := some 40) rfl rfl (yieldsIf_load_mid (by rfl) 26 _ rfl (w1.heap.size) 0 rfl b.cells _ (fun w' hw => (hw.r (w1.heap.size, b.cells) (by simp)).1) Tryd.underlying26 rfl (by kernel_rfl)) hS ?_
    try simp only [Act.put, s1, s2, s3]
    refine tB 2 (v := .agg b.cells.toArray) (d := some 42) rfl rfl (yieldsIf_load_mid (by rfl) 26 _ rfl (w1.heap.size) 0 rfl b.cells _ (fun w' hw => (hw.r (w1.heap.size, b.cells) (by simp)).1) Tryd.underlying26 rfl (by kernel_rfl)) hS ?_
    try simp only [Act.put, s1, s2, s3]
    refine r1 1 rfl (fun K hK => ?_)
    have HI0 : Hid (Sb w W2 [(w1.heap.size, b.cells)] [b] Y0) := hS
    clear hS
    go_simp
    refine (Book.ok_any b _ (HI0.out.a b (by simp)) HM0.out HTO.out.2).mono ?_
    rintro e Y1 ⟨⟨r, rfl, hr⟩, hb⟩
    obtain rfl : r = true := hr.2 HOB.out
    clear hr
    have HI1 : Hid (Sb w W2 [(w1.heap.size, b.cells)] [b] Y1) := HI0.out.later hb
    clear hb HI0
    go_wp2_with (fail)
    refine hK.out _ _ HI1.out (fun hS => ?_)
    clear hK K
    try simp only [Act.put, s1, s2, s3]
    refine r1 3 rfl (fun K hK => ?_)
    have HI1 : Hid (Sb w W2 [(w1.heap.size, b.cells)] [b] Y1) := hS
    clear hS
    go_simp
    refine (sok_any b _ (HI1.out.a b (by simp)) HM0.out HWf.out).mono ?_
    rintro e Y2 ⟨⟨r, rfl, hr⟩, hb⟩
    obtain rfl : r = true := hr.2 HOB.out
    clear hr
    have HI2 : Hid (Sb w W2 [(w1.heap.size, b.cells)] [b] Y2) := HI1.out.later hb
    clear hb HI1
    go_wp2_with (fail)
    refine hK.out _ _ HI2.out (fun hS => ?_)
    clear hK K
    try simp only [Act.put, s1, s2, s3]
    refine tI 4 (v := .bool true) (d := some 44) rfl rfl (fun w' hw => ?_) hS ?_
    · clear hw; go_simp
    try simp only [Act.put, s1, s2, s3]
    refine tI 5 (v := .bool true) (d := some 2) rfl rfl (fun w' hw => ?_) hS ?_
    · clear hw; go_simp
    try simp only [Act.put, s1, s2, s3]
    refine wpAnyH_done (by kernel_rfl) ?_ _
    have HT3 := hS.st
    clear hS
    go_wp2_with (fail)
    go_ret
    exact ⟨rfl, HT3.b⟩
  obtain ⟨s, rfl⟩ : ∃ s : Nat, t = s := ⟨t.toNat, by omega⟩
  have lb := HOB.out.1.1
  unfold LensP at lb
  rcases HT2.out.a b (by simp) b.i (by simp [Bx.lists]) with z0 | ⟨ki, oi, ea, g⟩
  · omega
  have ki1 := g s (by omega)
  have hji : (s : Int) < b.i.n := by omega
  have kI := HKI.out HT2.out
  rw [ea] at kI
  have HLB : Hid ((s : Int) < b.s ∧ b.s ≤ 4 ∧ (b.i.n : Int) = b.s ∧ (b.e.n : Int) = b.s ∧ b.o.n ≤ 48) := (by show _ ∧ _; omega)
  clear g ea lb
  by_cases i0 : b.i.f s = 0
  · rw [i0] at ki1
    go_wp2_with (fail)
    refine wp_region_held_drew (S := Sb w W2 [(w1.heap.size, b.cells)] [b]) (by kernel_rfl) (Sb.refl HT2.out).drew (fun hS => ?_)
    generalize World.drew _ = Y0 at hS ⊢
    refine tB 0 (v := .agg b.cells.toArray) (d := some 40) rfl rfl (yieldsIf_load_mid (by rfl) 26 _ rfl (w1.heap.size) 0 rfl b.cells _ (fun w' hw => (hw.r (w1.heap.size, b.cells) (by simp)).1) Tryd.underlying26 rfl (by kernel_rfl)) hS ?_
    try simp only [Act.put, s1, s2, s3]
    refine tB 2 (v := .agg b.cells.toArray) (d := some 42) rfl rfl (yieldsIf_load_mid (by rfl) 26 _ rfl (w1.heap.size) 0 rfl b.cells _ (fun w' hw => (hw.r (w1.heap.size, b.cells) (by simp)).1) Tryd.underlying26 rfl (by kernel_rfl)) hS ?_
    try simp only [Act.put, s1, s2, s3]
    refine r1 1 rfl (fun K hK => ?_)
    have HI0 : Hid (Sb w W2 [(w1.heap.size, b.cells)] [b] Y0) := hS
    clear hS
    go_simp
    refine (Book.ok_any b _ (HI0.out.a b (by simp)) HM0.out HTO.out.2).mono ?_
    rintro e Y1 ⟨⟨r, rfl, hr⟩, hb⟩
    obtain rfl : r = true := hr.2 HOB.out
    clear hr
    have HI1 : Hid (Sb w W2 [(w1.heap.size, b.cells)] [b] Y1) := HI0.out.later hb
    clear hb HI0
    go_wp2_with (fail)
    refine hK.out _ _ HI1.out (fun hS => ?_)
    clear hK K
    try simp only [Act.put, s1, s2, s3]
    refine r1 3 rfl (fun K hK => ?_)
    have HI1 : Hid (Sb w W2 [(w1.heap.size, b.cells)] [b] Y1) := hS
    clear hS
    go_simp
    refine (sok_any b _ (HI1.out.a b (by simp)) HM0.out HWf.out).mono ?_
    rintro e Y2 ⟨⟨r, rfl, hr⟩, hb⟩
    obtain rfl : r = true := hr.2 HOB.out
    clear hr
    have HI2 : Hid (Sb w W2 [(w1.heap.size, b.cells)] [b] Y2) := HI1.out.later hb
    clear hb HI1
    go_wp2_with (fail)
    refine hK.out _ _ HI2.out (fun hS => ?_)
    clear hK K
    try simp only [Act.put, s1, s2, s3]
    refine tI 4 (v := .bool true) (d := some 44) rfl rfl (fun w' hw => ?_) hS ?_
    · clear hw; go_simp
    try simp only [Act.put, s1, s2, s3]
    refine tI 5 (v := .bool true) (d := some 2) rfl rfl (fun w' hw => ?_) hS ?_
    · clear hw; go_simp
    try simp only [Act.put, s1, s2, s3]
    refine wpAnyH_done (by kernel_rfl) ?_ _
    have HT3 := hS.st
    clear hS
    go_wp2_with (fail)
    go_ret
    exact ⟨rfl, HT3.b⟩
  have HRB : Hid (World.rangeAt _ (w1.heap.size) 0 b.cells) := (HT2.out.r (w1.heap.size, b.cells) (by simp)).1
  have i0b : (b.i.f s == 0) = false := by simpa using i0
  go_wp2_with (first
      | refine wpList_load_mid rfl 26 _ rfl (w1.heap.size) 0 rfl b.cells _ HRB.out Tryd.underlying26 rfl (by kernel_rfl) ?_)
  refine (Book.cut_any b s _ (HT2.out.a b (by simp)) HM0.out HTO.out.2).mono ?_
  rintro e W3 ⟨xc, rfl, hq, ho, hb⟩
  have xm : xc.m = cutM b.m s := by
    rcases hq with ⟨_, q⟩ | ⟨q, _⟩
    · exact q
    · exact absurd HOB.out q
  have HP0 : Hid (Rp b s (cnt b.o.f ((s : Int) + 1) b.o.n) 0 xc) := rp_start HOB.out HLB.out.1 i0 xm
  have HT3 : Hid (St w [(w1.heap.size, b.cells)] [b] W3) := HT2.out.later hb
  have HTH : Hid (World.there _ W3.heap.size 0 _) := (mk_bk W3 26 xc).1
  have HR3 : Hid (Rq w W2 w1.heap.size b W3.heap.size xc _) := ⟨HT2.out, hb.trans ((mk_bk W3 26 xc).2.2.mono hb.size), (mk_bk W3 26 xc).2.1, ho.at.later (mk_bk W3 26 xc).2.2, off_own ho (.inr (Nat.le_refl _)), ho.cap, hb.size⟩
  clear hq ho hb xm HRB i0 i0b ki1 kI hji ks t0 t1 HT3
  go_wp2_with (with_reducible refine halt_at (.store 26 (.tmp 5) (.tmp 47)) rfl ?_)
  unfold Hid
  refine wpList_store_mid rfl 26 _ _ rfl (W3.heap.size) 0 xc.cells.toArray rfl rfl HTH.out (by kernel_rfl) (cells_one _) ?_
  clear HTH
  generalize World.setCells _ _ _ _ = V3 at HR3 ⊢
  have HRB : Hid (World.rangeAt _ (w1.heap.size) 0 b.cells) := ((HR3.out.two).r (w1.heap.size, b.cells) (by simp)).1
  go_wp2_with (first
      | refine wpList_load_mid rfl 26 _ rfl (w1.heap.size) 0 rfl b.cells _ HRB.out Tryd.underlying26 rfl (by kernel_rfl) ?_)
  refine (bofn b s _ (HR3.out.two.a b (by simp)) HM0.out HTO.out.2).mono ?_
  rintro e W4 ⟨⟨a1, c1, L1, rfl, hL1⟩, hb⟩
  have l1 := ofl_len HOB.out HLB.out.1 hL1
  rw [l1]
  have HR4 : Hid (Rq w W2 w1.heap.size b W3.heap.size xc W4) := HR3.out.later hb
  clear hb HR3 HRB hL1 l1
  have HRB : Hid (World.rangeAt _ (w1.heap.size) 0 b.cells) := ((HR4.out.two).r (w1.heap.size, b.cells) (by simp)).1
  go_wp2_with (first
      | refine wpList_load_mid rfl 26 _ rfl (w1.heap.size) 0 rfl b.cells _ HRB.out Tryd.underlying26 rfl (by kernel_rfl) ?_)
  refine (sbofn b s _ (HR4.out.two.a b (by simp)) HM0.out HWf.out (by omega) (by have := HLB.out; omega)).mono ?_
  rintro e W5 ⟨⟨a2, c2, L2, rfl, hL2⟩, hb⟩
  have l2 := ofl_len HOB.out HLB.out.1 hL2
  rw [l2]
  have HR5 : Hid (Rq w W2 w1.heap.size b W3.heap.size xc W5) := HR4.out.later hb
  have HN : Hid (cnt b.o.f ((s : Int) + 1) b.o.n ≤ 48) := Nat.le_trans (Book.cnt_le _ _ _) HLB.out.2.2.2.2
  clear hb HR4 HRB hL2 l2
  generalize cnt b.o.f ((s : Int) + 1) b.o.n = n at HP0 HN ⊢
  have n48 := HN.out
  go_wp2_with (fail)
  go_loopw [7] (fun v wr => ∃ (i : Nat) (xc : Bx), i ≤ n + 1 ∧ v = .int .i64 i ∧ Rgo b s n i xc ∧ Rq w W2 w1.heap.size b W3.heap.size xc wr) (fun v _ => n + 1 - (intOf v).toNat)
  case atStart => exact ⟨0, xc, by omega, rfl, .inl ⟨by omega, HP0.out⟩, HR5.out⟩
  case round =>
    clear HR5 HP0
    obtain ⟨i, x, hi, rfl, hg, hq⟩ := hrel
    have HG : Hid (Rgo b s n i x) := hg
    have HQ : Hid (Rq w W2 w1.heap.size b W3.heap.size x wr) := hq
    have HOX : Hid (OkP x) := rg_ok hg
    have HTX : Hid (x.total ≤ 1000) := ok_total (rg_ok hg)
    have HCR : Hid (World.rangeAt wr W3.heap.size 0 x.cells) := hq.r.range
    clear hg hq
    by_cases hlt : (i : Int) ≤ n
    · have hp : Rp b s n i x := by
        rcases HG.out with ⟨_, q⟩ | ⟨q, _⟩
        · exact q
        · omega
      have HP : Hid (Rp b s n i x) := hp
      clear hp
      go_wp2_with (first
          | refine wpList_load_mid rfl 26 _ rfl (W3.heap.size) 0 rfl x.cells _ HCR.out Tryd.underlying26 rfl (by kernel_rfl) ?_)
      refine (bookdo_any (a := adr) x ⟨6, s, s, 0⟩ _ HQ.out.a (Nat.le_trans HTX.out (by omega)) (at_nil HQ.out.a) HQ.out.cap (HEa.out.later (HQ.out.st.later HQ.out.be).b)).mono ?_
      rintro e W7 ⟨z, c, m, rfl, hbd, ho, hb⟩
      obtain ⟨d, dx, dy, hdo⟩ := do_some x s HP.out HLB.out.1
      obtain ⟨zm, e1, e2⟩ := met_all hbd (.inr ⟨HOX.out, x, rfl, hdo⟩)
      subst e1
      subst e2
      obtain ⟨z1, f1, f2, f3, f4, f5, f6⟩ := as_off zm
      have st := rp_step HP.out HLB.out.1 (by omega) hdo
      have HST : Hid ((i < n ∧ c = 10 ∧ Rp b s n (i + 1) z1) ∨ (i = n ∧ c = 0 ∧ Re b s z1)) := st.imp (fun q => ⟨q.1, q.2.1, rp_m q.2.2 f2⟩) (fun q => ⟨q.1, q.2.1, re_m (re_of HP.out q.2.2.1 q.2.2.2.1 q.2.2.2.2) f2⟩)
      have HQ7 : Hid (Rq w W2 w1.heap.size b W3.heap.size x W7) := HQ.out.later hb
      have HTH : Hid (World.there W7 W3.heap.size 0 z1.cells.toArray.toList.length) := there9 HQ7.out.r
      have HQ8 : Hid (Rq w W2 w1.heap.size b W3.heap.size z1 (W7.setCells W3.heap.size 0 z1.cells.toArray.toList)) := HQ7.out.set (f3 _ ho.at) (f6 _ (off_own ho (.inl HQ.out.r.lt))) (by rw [f4, f5]; exact ho.cap)
      rw [← f1]
      clear hbd ho hb hdo zm f1 f2 f3 f4 f5 f6 st HQ HCR HQ7
      go_wp2_with (with_reducible refine halt_at (.store 26 (.tmp 5) (.tmp 69)) rfl ?_)
      unfold Hid
      refine wpList_store_mid rfl 26 _ _ rfl (W3.heap.size) 0 z1.cells.toArray rfl rfl HTH.out (by kernel_rfl) (cells_one _) ?_
      clear HTH
      generalize World.setCells _ _ _ _ = W8 at HQ8 ⊢
      rcases HST.out with ⟨q1, rfl, q3⟩ | ⟨q1, rfl, q3⟩
      · have q1' : (i : Int) < n := by omega
        have HQ3 : Hid (Rp b s n (i + 1) z1) := q3
        clear q3
        go_wp2_with (fail)
        go_roundw
        case rel => exact ⟨i + 1, z1, by omega, by go_num, .inl ⟨by omega, HQ3.out⟩, HQ8.out⟩
        case measure => simp [intOf]; omega
      · have q1' : ¬ (i : Int) < n := by omega
        have q1b : (i : Int) = n := by omega
        have HQ3 : Hid (Re b s z1) := q3
        clear q3
        go_wp2_with (fail)
        go_roundw
        case rel => exact ⟨i + 1, z1, by omega, by go_num, .inr ⟨by omega, HQ3.out⟩, HQ8.out⟩
        case measure => simp [intOf]; omega
    · have HRE : Hid (Re b s x) := (by
        rcases HG.out with ⟨q, _⟩ | ⟨_, q⟩
        · omega
        · exact q)
      have HT6 : Hid (St w [(W3.heap.size, x.cells), (w1.heap.size, b.cells)] [x, b] wr) := HQ.out.two
      have HCX : Hid (x.o.n ≤ x.o.c) := HQ.out.cap
      clear HG HQ hi n48 HN HCR
      rcases HT6.out.a x (by simp) x.i (by simp [Bx.lists]) with z0 | ⟨ki, oi, ea, g⟩
      · have lx := HOX.out.1.1
        have es := HRE.out.es
        have lb := HLB.out.1
        unfold LensP at lx
        omega
      have lx := HOX.out.1.1
      have es := HRE.out.es
      have lbs := HLB.out.1
      unfold LensP at lx
      have HLX : Hid ((x.i.n : Int) = b.s ∧ (x.e.n : Int) = b.s ∧ x.o.n = b.o.n) := ⟨by omega, by omega, HRE.out.on⟩
      have hjx : (s : Int) < x.i.n := by omega
      have ki1 := g s (by omega)
      rw [HRE.out.is] at ki1
      have kI : wr.cell? ⟨W3.heap.size, 7, none⟩ = some (.slice x.i.a x.i.n x.i.c) := (HT6.out.r (W3.heap.size, x.cells) (by simp)).1 7 _ rfl
      rw [ea] at kI
      clear g ea lx es lbs
      have HRX : Hid (World.rangeAt _ (W3.heap.size) 0 x.cells) := (HT6.out.r (W3.heap.size, x.cells) (by simp)).1
      go_wp2_with (first
          | (refine load_want (by rfl) 26 _ rfl (W3.heap.size) 0 rfl x.cells _ HRX.out Tryd.underlying26 rfl (by kernel_rfl) ?_))
      refine (bofn x s _ (HT6.out.a x (by simp)) (Nat.le_trans HTX.out (by omega)) HCX.out).mono ?_
      rintro e W9 ⟨⟨a1, c1, L1, rfl, hL1⟩, hb⟩
      have l1 := ofl_len HOX.out (by rw [HRE.out.es]; exact HLB.out.1) hL1
      rw [HRE.out.ct] at l1
      rw [l1]
      have HT7 : Hid (St w [(W3.heap.size, x.cells), (w1.heap.size, b.cells)] [x, b] W9) := HT6.out.later hb
      clear hb hL1 l1 HRX HT6 kI ki1 hjx
      have HRX : Hid (World.rangeAt _ (W3.heap.size) 0 x.cells) := (HT7.out.r (W3.heap.size, x.cells) (by simp)).1
      go_wp2_with (first
          | (refine load_want (by rfl) 26 _ rfl (W3.heap.size) 0 rfl x.cells _ HRX.out Tryd.underlying26 rfl (by kernel_rfl) ?_))
      refine (Book.ok_any x _ (HT7.out.a x (by simp)) (Nat.le_trans HTX.out (by omega)) HCX.out).mono ?_
      rintro e W10 ⟨⟨r, rfl, hr⟩, hb⟩
      obtain rfl : r = true := hr.2 HOX.out
      have HT8 : Hid (St w [(W3.heap.size, x.cells), (w1.heap.size, b.cells)] [x, b] W10) := HT7.out.later hb
      clear hb hr HRX HT7
      go_wp2_with (fail)
      go_loopw [9] (fun v wr => ∃ u : Nat, u ≤ b.o.n ∧ v = .int .i64 u ∧ St w [(W3.heap.size, x.cells), (w1.heap.size, b.cells)] [x, b] wr) (fun v _ => b.o.n - (intOf v).toNat)
      case atStart => exact ⟨0, by omega, rfl, HT8.out⟩
      case round =>
        clear HT8 hlt
        obtain ⟨u, hu, rfl, htw⟩ := hrel
        have HTW : Hid (St w [(W3.heap.size, x.cells), (w1.heap.size, b.cells)] [x, b] wr) := htw
        have kO : wr.cell? ⟨w1.heap.size, 6, none⟩ = some (.slice b.o.a b.o.n b.o.c) := (htw.r (w1.heap.size, b.cells) (by simp)).1 6 _ rfl
        have bn := HLB.out.2.2.2.2
        clear htw
        by_cases hlt2 : (u : Int) < b.o.n
        · rcases HTW.out.a b (by simp) b.o (by simp [Bx.lists]) with z0 | ⟨kb, ob, eab, gb⟩
          · omega
          rcases HTW.out.a x (by simp) x.o (by simp [Bx.lists]) with z0 | ⟨kx, ox, eax, gx⟩
          · have := HLX.out; omega
          have HEB : Hid (b.o.a = some ⟨kb, ob, none⟩) := eab
          have HEX : Hid (x.o.a = some ⟨kx, ox, none⟩) := eax
          have HGB : Hid (wr.cell? ⟨kb, ob + u, none⟩ = some (.int .i64 (b.o.f u))) := gb u (by omega)
          have HGX : Hid (wr.cell? ⟨kx, ox + u, none⟩ = some (.int .i64 (x.o.f u))) := gx u (by have := HLX.out; omega)
          have uo : (u : Int) < x.o.n := by have := HLX.out; omega
          rw [eab] at kO
          clear eab eax gb gx
          go_wp2_with (fail)
          clear kO
          by_cases p0 : 0 < b.o.f u
          · have sl := HLB.out.1
            have sl2 := HLB.out.2.1
            by_cases ps : b.o.f u = (s : Int) + 1
            · have ps' : (b.o.f u != (s : Int) + 1) = false := by simpa using ps
              refine wp_region_held_drew (S := Sb w wr [(W3.heap.size, x.cells), (w1.heap.size, b.cells)] [x, b]) (by kernel_rfl) (Sb.refl HTW.out).drew (fun hS => ?_)
              generalize World.drew _ = Y0 at hS ⊢
              refine tI 0 (v := .pointer (some ⟨w1.heap.size, 6, none⟩)) (d := some 113) rfl rfl (fun w' hw => ?_) hS ?_
              · clear hw; go_simp
              try simp only [Act.put, s1, s2, s3]
              refine tI 1 (v := .slice (some ⟨kb, ob, none⟩) b.o.n b.o.c) (d := some 114) rfl rfl (fun w' hw => ?_) hS ?_
              · have q0 := (hw.r (w1.heap.size, b.cells) (by simp)).1 6 _ rfl; rw [HEB.out] at q0; clear hw; go_simp
              try simp only [Act.put, s1, s2, s3]
              refine tI 2 (v := .int .i64 u) (d := some 115) rfl rfl (fun w' hw => ?_) hS ?_
              · clear hw; go_simp
              try simp only [Act.put, s1, s2, s3]
              refine tI 3 (v := .pointer (some ⟨kb, ob + u, none⟩)) (d := some 116) rfl rfl (fun w' hw => ?_) hS ?_
              · clear hw; go_simp
              try simp only [Act.put, s1, s2, s3]
              refine tI 4 (v := .int .i64 (b.o.f u)) (d := some 117) rfl rfl (fun w' hw => ?_) hS ?_
              · have q0 : w'.cell? ⟨kb, ob + u, none⟩ = some (.int .i64 (b.o.f u)) := (hw.be.cell (p := ⟨kb, ob + u, none⟩) (World.block_lt_of_cell? _ _ HGB.out)).trans HGB.out; clear hw; go_simp
              try simp only [Act.put, s1, s2, s3]
              refine tI 5 (v := .bool true) (d := some 118) rfl rfl (fun w' hw => ?_) hS ?_
              · clear hw; go_simp
              try simp only [Act.put, s1, s2, s3]
              refine tI 6 (v := .bool true) (d := some 119) rfl rfl (fun w' hw => ?_) hS ?_
              · clear hw; go_simp
              try simp only [Act.put, s1, s2, s3]
              refine tI 7 (v := .pointer (some ⟨w1.heap.size, 6, none⟩)) (d := some 120) rfl rfl (fun w' hw => ?_) hS ?_
              · clear hw; go_simp
              try simp only [Act.put, s1, s2, s3]
              refine tI 8 (v := .slice (some ⟨kb, ob, none⟩) b.o.n b.o.c) (d := some 121) rfl rfl (fun w' hw => ?_) hS ?_
              · have q0 := (hw.r (w1.heap.size, b.cells) (by simp)).1 6 _ rfl; rw [HEB.out] at q0; clear hw; go_simp
              try simp only [Act.put, s1, s2, s3]
              refine tI 9 (v := .int .i64 u) (d := some 122) rfl rfl (fun w' hw => ?_) hS ?_
              · clear hw; go_simp
              try simp only [Act.put, s1, s2, s3]
              refine tI 10 (v := .pointer (some ⟨kb, ob + u, none⟩)) (d := some 123) rfl rfl (fun w' hw => ?_) hS ?_
              · clear hw; go_simp
              try simp only [Act.put, s1, s2, s3]
              refine tI 11 (v := .int .i64 (b.o.f u)) (d := some 124) rfl rfl (fun w' hw => ?_) hS ?_
              · have q0 : w'.cell? ⟨kb, ob + u, none⟩ = some (.int .i64 (b.o.f u)) := (hw.be.cell (p := ⟨kb, ob + u, none⟩) (World.block_lt_of_cell? _ _ HGB.out)).trans HGB.out; clear hw; go_simp
              try simp only [Act.put, s1, s2, s3]
              refine tI 12 (v := .int .i64 s) (d := some 125) rfl rfl (fun w' hw => ?_) hS ?_
              · clear hw; go_simp
              try simp only [Act.put, s1, s2, s3]
              refine tI 13 (v := .int .i64 ((s : Int) + 1)) (d := some 126) rfl rfl (fun w' hw => ?_) hS ?_
              · clear hw; go_simp <;> (rw [IntKind.wrap_i64]; omega)
              try simp only [Act.put, s1, s2, s3]
              refine tI 14 (v := .bool false) (d := some 127) rfl rfl (fun w' hw => ?_) hS ?_
              · clear hw; go_simp
              try simp only [Act.put, s1, s2, s3]
              refine tI 15 (v := .bool false) (d := some 128) rfl rfl (fun w' hw => ?_) hS ?_
              · clear hw; go_simp
              try simp only [Act.put, s1, s2, s3]
              refine tI 16 (v := .bool false) (d := some 129) rfl rfl (fun w' hw => ?_) hS ?_
              · clear hw; go_simp
              try simp only [Act.put, s1, s2, s3]
              refine tS 17 (d := some 130) rfl rfl hS ?_
              try simp only [Act.put, s1, s2, s3]
              refine tS 18 (d := some 131) rfl rfl hS ?_
              try simp only [Act.put, s1, s2, s3]
              refine tS 19 (d := some 132) rfl rfl hS ?_
              try simp only [Act.put, s1, s2, s3]
              refine tS 20 (d := some 133) rfl rfl hS ?_
              try simp only [Act.put, s1, s2, s3]
              refine tS 21 (d := some 134) rfl rfl hS ?_
              try simp only [Act.put, s1, s2, s3]
              refine tS 22 (d := some 135) rfl rfl hS ?_
              try simp only [Act.put, s1, s2, s3]
              refine tS 23 (d := some 136) rfl rfl hS ?_
              try simp only [Act.put, s1, s2, s3]
              refine tS 24 (d := some 137) rfl rfl hS ?_
              try simp only [Act.put, s1, s2, s3]
              refine tS 25 (d := some 138) rfl rfl hS ?_
              try simp only [Act.put, s1, s2, s3]
              refine tS 26 (d := some 139) rfl rfl hS ?_
              try simp only [Act.put, s1, s2, s3]
              refine tS 27 (d := some 140) rfl rfl hS ?_
              try simp only [Act.put, s1, s2, s3]
              refine tS 28 (d := some 141) rfl rfl hS ?_
              try simp only [Act.put, s1, s2, s3]
              refine tS 29 (d := some 142) rfl rfl hS ?_
              try simp only [Act.put, s1, s2, s3]
              refine tS 30 (d := some 143) rfl rfl hS ?_
              try simp only [Act.put, s1, s2, s3]
              refine tS 31 (d := some 144) rfl rfl hS ?_
              try simp only [Act.put, s1, s2, s3]
              refine tS 32 (d := some 145) rfl rfl hS ?_
              try simp only [Act.put, s1, s2, s3]
              refine tS 33 (d := some 146) rfl rfl hS ?_
              try simp only [Act.put, s1, s2, s3]
              refine tS 34 (d := some 147) rfl rfl hS ?_
              try simp only [Act.put, s1, s2, s3]
              refine tS 35 (d := some 148) rfl rfl hS ?_
              try simp only [Act.put, s1, s2, s3]
              refine tS 36 (d := some 149) rfl rfl hS ?_
              try simp only [Act.put, s1, s2, s3]
              refine tI 37 (v := .bool false) (d := some 150) rfl rfl (fun w' hw => ?_) hS ?_
              · clear hw; go_simp
              try simp only [Act.put, s1, s2, s3]
              refine wpAnyH_done (by kernel_rfl) ?_ _
              have HTV : Hid (St w [(W3.heap.size, x.cells), (w1.heap.size, b.cells)] [x, b] Y0) := hS.st
              clear hS
              clear p0 uo
              go_wp2_with (fail)
              go_roundw
              case rel => exact ⟨u + 1, by omega, by go_num, HTV.out⟩
              case measure => simp [intOf]; omega
            · have xo : x.o.f u = b.o.f u := HRE.out.oo u ps
              rw [xo] at HGX
              refine wp_region_held_drew (S := Sb w wr [(W3.heap.size, x.cells), (w1.heap.size, b.cells)] [x, b]) (by kernel_rfl) (Sb.refl HTW.out).drew (fun hS => ?_)
              generalize World.drew _ = Y0 at hS ⊢
              refine tI 0 (v := .pointer (some ⟨w1.heap.size, 6, none⟩)) (d := some 113) rfl rfl (fun w' hw => ?_) hS ?_
              · clear hw; go_simp
              try simp only [Act.put, s1, s2, s3]
              refine tI 1 (v := .slice (some ⟨kb, ob, none⟩) b.o.n b.o.c) (d := some 114) rfl rfl (fun w' hw => ?_) hS ?_
              · have q0 := (hw.r (w1.heap.size, b.cells) (by simp)).1 6 _ rfl; rw [HEB.out] at q0; clear hw; go_simp
              try simp only [Act.put, s1, s2, s3]
              refine tI 2 (v := .int .i64 u) (d := some 115) rfl rfl (fun w' hw => ?_) hS ?_
              · clear hw; go_simp
              try simp only [Act.put, s1, s2, s3]
              refine tI 3 (v := .pointer (some ⟨kb, ob + u, none⟩)) (d := some 116) rfl rfl (fun w' hw => ?_) hS ?_
              · clear hw; go_simp
              try simp only [Act.put, s1, s2, s3]
              refine tI 4 (v := .int .i64 (b.o.f u)) (d := some 117) rfl rfl (fun w' hw => ?_) hS ?_
              · have q0 : w'.cell? ⟨kb, ob + u, none⟩ = some (.int .i64 (b.o.f u)) := (hw.be.cell (p := ⟨kb, ob + u, none⟩) (World.block_lt_of_cell? _ _ HGB.out)).trans HGB.out; clear hw; go_simp
              try simp only [Act.put, s1, s2, s3]
              refine tI 5 (v := .bool true) (d := some 118) rfl rfl (fun w' hw => ?_) hS ?_
              · clear hw; go_simp
              try simp only [Act.put, s1, s2, s3]
              refine tI 6 (v := .bool true) (d := some 119) rfl rfl (fun w' hw => ?_) hS ?_
              · clear hw; go_simp
              try simp only [Act.put, s1, s2, s3]
              refine tI 7 (v := .pointer (some ⟨w1.heap.size, 6, none⟩)) (d := some 120) rfl rfl (fun w' hw => ?_) hS ?_
              · clear hw; go_simp
              try simp only [Act.put, s1, s2, s3]
              refine tI 8 (v := .slice (some ⟨kb, ob, none⟩) b.o.n b.o.c) (d := some 121) rfl rfl (fun w' hw => ?_) hS ?_
              · have q0 := (hw.r (w1.heap.size, b.cells) (by simp)).1 6 _ rfl; rw [HEB.out] at q0; clear hw; go_simp
              try simp only [Act.put, s1, s2, s3]
              refine tI 9 (v := .int .i64 u) (d := some 122) rfl rfl (fun w' hw => ?_) hS ?_
              · clear hw; go_simp
              try simp only [Act.put, s1, s2, s3]
              refine tI 10 (v := .pointer (some ⟨kb, ob + u, none⟩)) (d := some 123) rfl rfl (fun w' hw => ?_) hS ?_
              · clear hw; go_simp
              try simp only [Act.put, s1, s2, s3]
              refine tI 11 (v := .int .i64 (b.o.f u)) (d := some 124) rfl rfl (fun w' hw => ?_) hS ?_
              · have q0 : w'.cell? ⟨kb, ob + u, none⟩ = some (.int .i64 (b.o.f u)) := (hw.be.cell (p := ⟨kb, ob + u, none⟩) (World.block_lt_of_cell? _ _ HGB.out)).trans HGB.out; clear hw; go_simp
              try simp only [Act.put, s1, s2, s3]
              refine tI 12 (v := .int .i64 s) (d := some 125) rfl rfl (fun w' hw => ?_) hS ?_
              · clear hw; go_simp
              try simp only [Act.put, s1, s2, s3]
              refine tI 13 (v := .int .i64 ((s : Int) + 1)) (d := some 126) rfl rfl (fun w' hw => ?_) hS ?_
              · clear hw; go_simp <;> (rw [IntKind.wrap_i64]; omega)
              try simp only [Act.put, s1, s2, s3]
              refine tI 14 (v := .bool true) (d := some 127) rfl rfl (fun w' hw => ?_) hS ?_
              · clear hw; go_simp
              try simp only [Act.put, s1, s2, s3]
              refine tI 15 (v := .bool true) (d := some 128) rfl rfl (fun w' hw => ?_) hS ?_
              · clear hw; go_simp
              try simp only [Act.put, s1, s2, s3]
              refine tI 16 (v := .bool true) (d := some 129) rfl rfl (fun w' hw => ?_) hS ?_
              · clear hw; go_simp
              try simp only [Act.put, s1, s2, s3]
              refine tI 17 (v := .pointer (some ⟨W3.heap.size, 6, none⟩)) (d := some 130) rfl rfl (fun w' hw => ?_) hS ?_
              · clear hw; go_simp
              try simp only [Act.put, s1, s2, s3]
              refine tI 18 (v := .slice (some ⟨kx, ox, none⟩) x.o.n x.o.c) (d := some 131) rfl rfl (fun w' hw => ?_) hS ?_
              · have q0 := (hw.r (W3.heap.size, x.cells) (by simp)).1 6 _ rfl; rw [HEX.out] at q0; clear hw; go_simp
              try simp only [Act.put, s1, s2, s3]
              refine tI 19 (v := .int .i64 u) (d := some 132) rfl rfl (fun w' hw => ?_) hS ?_
              · clear hw; go_simp
              try simp only [Act.put, s1, s2, s3]
              refine tI 20 (v := .pointer (some ⟨kx, ox + u, none⟩)) (d := some 133) rfl rfl (fun w' hw => ?_) hS ?_
              · clear hw; go_simp
              try simp only [Act.put, s1, s2, s3]
              refine tI 21 (v := .int .i64 (b.o.f u)) (d := some 134) rfl rfl (fun w' hw => ?_) hS ?_
              · have q0 : w'.cell? ⟨kx, ox + u, none⟩ = some (.int .i64 (b.o.f u)) := (hw.be.cell (p := ⟨kx, ox + u, none⟩) (World.block_lt_of_cell? _ _ HGX.out)).trans HGX.out; clear hw; go_simp
              try simp only [Act.put, s1, s2, s3]
              refine tI 22 (v := .pointer (some ⟨w1.heap.size, 6, none⟩)) (d := some 135) rfl rfl (fun w' hw => ?_) hS ?_
              · clear hw; go_simp
              try simp only [Act.put, s1, s2, s3]
              refine tI 23 (v := .slice (some ⟨kb, ob, none⟩) b.o.n b.o.c) (d := some 136) rfl rfl (fun w' hw => ?_) hS ?_
              · have q0 := (hw.r (w1.heap.size, b.cells) (by simp)).1 6 _ rfl; rw [HEB.out] at q0; clear hw; go_simp
              try simp only [Act.put, s1, s2, s3]
              refine tI 24 (v := .int .i64 u) (d := some 137) rfl rfl (fun w' hw => ?_) hS ?_
              · clear hw; go_simp
              try simp only [Act.put, s1, s2, s3]
              refine tI 25 (v := .pointer (some ⟨kb, ob + u, none⟩)) (d := some 138) rfl rfl (fun w' hw => ?_) hS ?_
              · clear hw; go_simp
              try simp only [Act.put, s1, s2, s3]
              refine tI 26 (v := .int .i64 (b.o.f u)) (d := some 139) rfl rfl (fun w' hw => ?_) hS ?_
              · have q0 : w'.cell? ⟨kb, ob + u, none⟩ = some (.int .i64 (b.o.f u)) := (hw.be.cell (p := ⟨kb, ob + u, none⟩) (World.block_lt_of_cell? _ _ HGB.out)).trans HGB.out; clear hw; go_simp
              try simp only [Act.put, s1, s2, s3]
              refine tI 27 (v := .bool false) (d := some 140) rfl rfl (fun w' hw => ?_) hS ?_
              · clear hw; go_simp
              try simp only [Act.put, s1, s2, s3]
              refine tI 28 (v := .bool false) (d := some 141) rfl rfl (fun w' hw => ?_) hS ?_
              · clear hw; go_simp
              try simp only [Act.put, s1, s2, s3]
              refine tB 29 (v := .agg x.cells.toArray) (d := some 142) rfl rfl (yieldsIf_load_mid (by rfl) 26 _ rfl (W3.heap.size) 0 rfl x.cells _ (fun w' hw => (hw.r (W3.heap.size, x.cells) (by simp)).1) Tryd.underlying26 rfl (by kernel_rfl)) hS ?_
              try simp only [Act.put, s1, s2, s3]
              refine tI 30 (v := .int .i64 u) (d := some 143) rfl rfl (fun w' hw => ?_) hS ?_
              · clear hw; go_simp
              try simp only [Act.put, s1, s2, s3]
              refine tB 32 (v := .agg b.cells.toArray) (d := some 145) rfl rfl (yieldsIf_load_mid (by rfl) 26 _ rfl (w1.heap.size) 0 rfl b.cells _ (fun w' hw => (hw.r (w1.heap.size, b.cells) (by simp)).1) Tryd.underlying26 rfl (by kernel_rfl)) hS ?_
              try simp only [Act.put, s1, s2, s3]
              refine tI 33 (v := .int .i64 u) (d := some 146) rfl rfl (fun w' hw => ?_) hS ?_
              · clear hw; go_simp
              try simp only [Act.put, s1, s2, s3]
              refine r1 31 rfl (fun K hK => ?_)
              have HI0 : Hid (Sb w wr [(W3.heap.size, x.cells), (w1.heap.size, b.cells)] [x, b] Y0) := hS
              clear hS
              go_simp
              refine (room_any x u _ (HI0.out.a x (by simp)) (Nat.le_trans HTX.out (by omega)) HCX.out).mono ?_
              rintro e Y1 ⟨⟨r, rfl, hr⟩, hb⟩
              have HRM : Hid (RoomQ b u r) := (re_room HOB.out HRE.out (by omega) p0 ps r).1 hr
              clear hr
              have HI1 : Hid (Sb w wr [(W3.heap.size, x.cells), (w1.heap.size, b.cells)] [x, b] Y1) := HI0.out.later hb
              clear hb HI0
              go_wp2_with (fail)
              refine hK.out _ _ HI1.out (fun hS => ?_)
              clear hK K
              try simp only [Act.put, s1, s2, s3]
              refine r1 34 rfl (fun K hK => ?_)
              have HI1 : Hid (Sb w wr [(W3.heap.size, x.cells), (w1.heap.size, b.cells)] [x, b] Y1) := hS
              clear hS
              go_simp
              refine (room_any b u _ (HI1.out.a b (by simp)) HM0.out HTO.out.2).mono ?_
              rintro e Y2 ⟨⟨r', rfl, hr'⟩, hb⟩
              obtain rfl : r = r' := (roomq_one hr' HRM.out).symm
              clear hr'
              have HI2 : Hid (Sb w wr [(W3.heap.size, x.cells), (w1.heap.size, b.cells)] [x, b] Y2) := HI1.out.later hb
              clear hb HI1
              go_wp2_with (fail)
              refine hK.out _ _ HI2.out (fun hS => ?_)
              clear hK K
              try simp only [Act.put, s1, s2, s3]
              refine tI 35 (v := .bool false) (d := some 148) rfl rfl (fun w' hw => ?_) hS ?_
              · clear hw; go_simp
              try simp only [Act.put, s1, s2, s3]
              refine tI 36 (v := .bool false) (d := some 149) rfl rfl (fun w' hw => ?_) hS ?_
              · clear hw; go_simp
              try simp only [Act.put, s1, s2, s3]
              refine tI 37 (v := .bool false) (d := some 150) rfl rfl (fun w' hw => ?_) hS ?_
              · clear hw; go_simp
              try simp only [Act.put, s1, s2, s3]
              refine wpAnyH_done (by kernel_rfl) ?_ _
              have HTV : Hid (St w [(W3.heap.size, x.cells), (w1.heap.size, b.cells)] [x, b] Y2) := hS.st
              clear hS
              clear p0 uo
              go_wp2_with (fail)
              go_roundw
              case rel => exact ⟨u + 1, by omega, by go_num, HTV.out⟩
              case measure => simp [intOf]; omega
          · skip
            refine wp_region_held_drew (S := Sb w wr [(W3.heap.size, x.cells), (w1.heap.size, b.cells)] [x, b]) (by kernel_rfl) (Sb.refl HTW.out).drew (fun hS => ?_)
            generalize World.drew _ = Y0 at hS ⊢
            refine tI 0 (v := .pointer (some ⟨w1.heap.size, 6, none⟩)) (d := some 113) rfl rfl (fun w' hw => ?_) hS ?_
            · clear hw; go_simp
            try simp only [Act.put, s1, s2, s3]
            refine tI 1 (v := .slice (some ⟨kb, ob, none⟩) b.o.n b.o.c) (d := some 114) rfl rfl (fun w' hw => ?_) hS ?_
            · have q0 := (hw.r (w1.heap.size, b.cells) (by simp)).1 6 _ rfl; rw [HEB.out] at q0; clear hw; go_simp
            try simp only [Act.put, s1, s2, s3]
            refine tI 2 (v := .int .i64 u) (d := some 115) rfl rfl (fun w' hw => ?_) hS ?_
            · clear hw; go_simp
            try simp only [Act.put, s1, s2, s3]
            refine tI 3 (v := .pointer (some ⟨kb, ob + u, none⟩)) (d := some 116) rfl rfl (fun w' hw => ?_) hS ?_
            · clear hw; go_simp
            try simp only [Act.put, s1, s2, s3]
            refine tI 4 (v := .int .i64 (b.o.f u)) (d := some 117) rfl rfl (fun w' hw => ?_) hS ?_
            · have q0 : w'.cell? ⟨kb, ob + u, none⟩ = some (.int .i64 (b.o.f u)) := (hw.be.cell (p := ⟨kb, ob + u, none⟩) (World.block_lt_of_cell? _ _ HGB.out)).trans HGB.out; clear hw; go_simp
            try simp only [Act.put, s1, s2, s3]
            refine tI 5 (v := .bool false) (d := some 118) rfl rfl (fun w' hw => ?_) hS ?_
            · clear hw; go_simp
            try simp only [Act.put, s1, s2, s3]
            refine tI 6 (v := .bool false) (d := some 119) rfl rfl (fun w' hw => ?_) hS ?_
            · clear hw; go_simp
            try simp only [Act.put, s1, s2, s3]
            refine tS 7 (d := some 120) rfl rfl hS ?_
            try simp only [Act.put, s1, s2, s3]
            refine tS 8 (d := some 121) rfl rfl hS ?_
            try simp only [Act.put, s1, s2, s3]
            refine tS 9 (d := some 122) rfl rfl hS ?_
            try simp only [Act.put, s1, s2, s3]
            refine tS 10 (d := some 123) rfl rfl hS ?_
            try simp only [Act.put, s1, s2, s3]
            refine tS 11 (d := some 124) rfl rfl hS ?_
            try simp only [Act.put, s1, s2, s3]
            refine tS 12 (d := some 125) rfl rfl hS ?_
            try simp only [Act.put, s1, s2, s3]
            refine tS 13 (d := some 126) rfl rfl hS ?_
            try simp only [Act.put, s1, s2, s3]
            refine tS 14 (d := some 127) rfl rfl hS ?_
            try simp only [Act.put, s1, s2, s3]
            refine tI 15 (v := .bool false) (d := some 128) rfl rfl (fun w' hw => ?_) hS ?_
            · clear hw; go_simp
            try simp only [Act.put, s1, s2, s3]
            refine tI 16 (v := .bool false) (d := some 129) rfl rfl (fun w' hw => ?_) hS ?_
            · clear hw; go_simp
            try simp only [Act.put, s1, s2, s3]
            refine tS 17 (d := some 130) rfl rfl hS ?_
            try simp only [Act.put, s1, s2, s3]
            refine tS 18 (d := some 131) rfl rfl hS ?_
            try simp only [Act.put, s1, s2, s3]
            refine tS 19 (d := some 132) rfl rfl hS ?_
            try simp only [Act.put, s1, s2, s3]
            refine tS 20 (d := some 133) rfl rfl hS ?_
            try simp only [Act.put, s1, s2, s3]
            refine tS 21 (d := some 134) rfl rfl hS ?_
            try simp only [Act.put, s1, s2, s3]
            refine tS 22 (d := some 135) rfl rfl hS ?_
            try simp only [Act.put, s1, s2, s3]
            refine tS 23 (d := some 136) rfl rfl hS ?_
            try simp only [Act.put, s1, s2, s3]
            refine tS 24 (d := some 137) rfl rfl hS ?_
            try simp only [Act.put, s1, s2, s3]
            refine tS 25 (d := some 138) rfl rfl hS ?_
            try simp only [Act.put, s1, s2, s3]
            refine tS 26 (d := some 139) rfl rfl hS ?_
            try simp only [Act.put, s1, s2, s3]
            refine tS 27 (d := some 140) rfl rfl hS ?_
            try simp only [Act.put, s1, s2, s3]
            refine tS 28 (d := some 141) rfl rfl hS ?_
            try simp only [Act.put, s1, s2, s3]
            refine tS 29 (d := some 142) rfl rfl hS ?_
            try simp only [Act.put, s1, s2, s3]
            refine tS 30 (d := some 143) rfl rfl hS ?_
            try simp only [Act.put, s1, s2, s3]
            refine tS 31 (d := some 144) rfl rfl hS ?_
            try simp only [Act.put, s1, s2, s3]
            refine tS 32 (d := some 145) rfl rfl hS ?_
            try simp only [Act.put, s1, s2, s3]
            refine tS 33 (d := some 146) rfl rfl hS ?_
            try simp only [Act.put, s1, s2, s3]
            refine tS 34 (d := some 147) rfl rfl hS ?_
            try simp only [Act.put, s1, s2, s3]
            refine tS 35 (d := some 148) rfl rfl hS ?_
            try simp only [Act.put, s1, s2, s3]
            refine tS 36 (d := some 149) rfl rfl hS ?_
            try simp only [Act.put, s1, s2, s3]
            refine tI 37 (v := .bool false) (d := some 150) rfl rfl (fun w' hw => ?_) hS ?_
            · clear hw; go_simp
            try simp only [Act.put, s1, s2, s3]
            refine wpAnyH_done (by kernel_rfl) ?_ _
            have HTV : Hid (St w [(W3.heap.size, x.cells), (w1.heap.size, b.cells)] [x, b] Y0) := hS.st
            clear hS
            clear p0 uo
            go_wp2_with (fail)
            go_roundw
            case rel => exact ⟨u + 1, by omega, by go_num, HTV.out⟩
            case measure => simp [intOf]; omega
        · have hx : ¬ ((u : Int) < b.o.n) := hlt2
          go_wp2_with (fail)
          clear kO hlt2 hx hu
          go_loopw [10] (fun v wr => ∃ i : Nat, (i : Int) ≤ b.s ∧ v = .int .i64 i ∧ St w [(W3.heap.size, x.cells), (w1.heap.size, b.cells)] [x, b] wr) (fun v _ => (b.s - intOf v).toNat)
          case atStart => exact ⟨0, by have := HLB.out; omega, rfl, HTW.out⟩
          case round =>
            clear HTW
            obtain ⟨i, hi, rfl, htw⟩ := hrel
            have HTW : Hid (St w [(W3.heap.size, x.cells), (w1.heap.size, b.cells)] [x, b] wr) := htw
            have kS : wr.cell? ⟨w1.heap.size, 0, none⟩ = some (.int .i64 b.s) := (htw.r (w1.heap.size, b.cells) (by simp)).1 0 _ rfl
            have lb := HLB.out
            clear htw
            by_cases hlt3 : (i : Int) < b.s
            · rcases HTW.out.a b (by simp) b.i (by simp [Bx.lists]) with z0 | ⟨ki, oi, ea1, g1⟩
              · omega
              rcases HTW.out.a b (by simp) b.e (by simp [Bx.lists]) with z0 | ⟨ke, oe, ea2, g2⟩
              · omega
              rcases HTW.out.a x (by simp) x.i (by simp [Bx.lists]) with z0 | ⟨kj, oj, ea3, g3⟩
              · have := HLX.out; omega
              rcases HTW.out.a x (by simp) x.e (by simp [Bx.lists]) with z0 | ⟨kf, of, ea4, g4⟩
              · have := HLX.out; omega
              have HE1 : Hid (b.i.a = some ⟨ki, oi, none⟩) := ea1
              have HE2 : Hid (b.e.a = some ⟨ke, oe, none⟩) := ea2
              have HE3 : Hid (x.i.a = some ⟨kj, oj, none⟩) := ea3
              have HE4 : Hid (x.e.a = some ⟨kf, of, none⟩) := ea4
              have HG1 : Hid (wr.cell? ⟨ki, oi + i, none⟩ = some (.int .i64 (b.i.f i))) := g1 i (by omega)
              have HG2 : Hid (wr.cell? ⟨ke, oe + i, none⟩ = some (.int .i64 (b.e.f i))) := g2 i (by omega)
              have HG3 : Hid (wr.cell? ⟨kj, oj + i, none⟩ = some (.int .i64 (x.i.f i))) := g3 i (by have := HLX.out; omega)
              have HG4 : Hid (wr.cell? ⟨kf, of + i, none⟩ = some (.int .i64 (x.e.f i))) := g4 i (by have := HLX.out; omega)
              have l1 : (i : Int) < b.i.n := by omega
              have l2 : (i : Int) < b.e.n := by omega
              have l3 : (i : Int) < x.i.n := by have := HLX.out; omega
              have l4 : (i : Int) < x.e.n := by have := HLX.out; omega
              clear ea1 ea2 ea3 ea4 g1 g2 g3 g4
              go_wp2_with (fail)
              clear kS
              by_cases his : i = s
              · subst his
                refine wp_region_held_drew (S := Sb w wr [(W3.heap.size, x.cells), (w1.heap.size, b.cells)] [x, b]) (by kernel_rfl) (Sb.refl HTW.out).drew (fun hS => ?_)
                generalize World.drew _ = Y0 at hS ⊢
                refine tI 0 (v := .int .i64 i) (d := some 157) rfl rfl (fun w' hw => ?_) hS ?_
                · clear hw; go_simp
                try simp only [Act.put, s1, s2, s3]
                refine tI 1 (v := .int .i64 i) (d := some 158) rfl rfl (fun w' hw => ?_) hS ?_
                · clear hw; go_simp
                try simp only [Act.put, s1, s2, s3]
                refine tI 2 (v := .bool false) (d := some 159) rfl rfl (fun w' hw => ?_) hS ?_
                · clear hw; go_simp
                try simp only [Act.put, s1, s2, s3]
                refine tI 3 (v := .bool false) (d := some 160) rfl rfl (fun w' hw => ?_) hS ?_
                · clear hw; go_simp
                try simp only [Act.put, s1, s2, s3]
                refine tS 4 (d := some 161) rfl rfl hS ?_
                try simp only [Act.put, s1, s2, s3]
                refine tS 5 (d := some 162) rfl rfl hS ?_
                try simp only [Act.put, s1, s2, s3]
                refine tS 6 (d := some 163) rfl rfl hS ?_
                try simp only [Act.put, s1, s2, s3]
                refine tS 7 (d := some 164) rfl rfl hS ?_
                try simp only [Act.put, s1, s2, s3]
                refine tS 8 (d := some 165) rfl rfl hS ?_
                try simp only [Act.put, s1, s2, s3]
                refine tS 9 (d := some 166) rfl rfl hS ?_
                try simp only [Act.put, s1, s2, s3]
                refine tS 10 (d := some 167) rfl rfl hS ?_
                try simp only [Act.put, s1, s2, s3]
                refine tS 11 (d := some 168) rfl rfl hS ?_
                try simp only [Act.put, s1, s2, s3]
                refine tS 12 (d := some 169) rfl rfl hS ?_
                try simp only [Act.put, s1, s2, s3]
                refine tS 13 (d := some 170) rfl rfl hS ?_
                try simp only [Act.put, s1, s2, s3]
                refine tS 14 (d := some 171) rfl rfl hS ?_
                try simp only [Act.put, s1, s2, s3]
                refine tS 15 (d := some 172) rfl rfl hS ?_
                try simp only [Act.put, s1, s2, s3]
                refine tS 16 (d := some 173) rfl rfl hS ?_
                try simp only [Act.put, s1, s2, s3]
                refine tS 17 (d := some 174) rfl rfl hS ?_
                try simp only [Act.put, s1, s2, s3]
                refine tS 18 (d := some 175) rfl rfl hS ?_
                try simp only [Act.put, s1, s2, s3]
                refine tS 19 (d := some 176) rfl rfl hS ?_
                try simp only [Act.put, s1, s2, s3]
                refine tS 20 (d := some 177) rfl rfl hS ?_
                try simp only [Act.put, s1, s2, s3]
                refine tS 21 (d := some 178) rfl rfl hS ?_
                try simp only [Act.put, s1, s2, s3]
                refine tS 22 (d := some 179) rfl rfl hS ?_
                try simp only [Act.put, s1, s2, s3]
                refine tS 23 (d := some 180) rfl rfl hS ?_
                try simp only [Act.put, s1, s2, s3]
                refine tS 24 (d := some 181) rfl rfl hS ?_
                try simp only [Act.put, s1, s2, s3]
                refine tS 25 (d := some 182) rfl rfl hS ?_
                try simp only [Act.put, s1, s2, s3]
                refine tS 26 (d := some 183) rfl rfl hS ?_
                try simp only [Act.put, s1, s2, s3]
                refine tS 27 (d := some 184) rfl rfl hS ?_
                try simp only [Act.put, s1, s2, s3]
                refine tI 28 (v := .bool false) (d := some 185) rfl rfl (fun w' hw => ?_) hS ?_
                · clear hw; go_simp
                try simp only [Act.put, s1, s2, s3]
                refine wpAnyH_done (by kernel_rfl) ?_ _
                have HTV : Hid (St w [(W3.heap.size, x.cells), (w1.heap.size, b.cells)] [x, b] Y0) := hS.st
                clear hS
                clear l1 l2 l3 l4
                go_wp2_with (fail)
                go_roundw
                case rel => exact ⟨i + 1, by omega, by go_num, HTV.out⟩
                case measure => simp [intOf]; omega
              · have hne : ¬ ((i : Int) = (s : Int)) := by omega
                rw [HRE.out.ii i his] at HG3
                rw [HRE.out.ee i] at HG4
                refine wp_region_held_drew (S := Sb w wr [(W3.heap.size, x.cells), (w1.heap.size, b.cells)] [x, b]) (by kernel_rfl) (Sb.refl HTW.out).drew (fun hS => ?_)
                generalize World.drew _ = Y0 at hS ⊢
                refine tI 0 (v := .int .i64 i) (d := some 157) rfl rfl (fun w' hw => ?_) hS ?_
                · clear hw; go_simp
                try simp only [Act.put, s1, s2, s3]
                refine tI 1 (v := .int .i64 s) (d := some 158) rfl rfl (fun w' hw => ?_) hS ?_
                · clear hw; go_simp
                try simp only [Act.put, s1, s2, s3]
                refine tI 2 (v := .bool true) (d := some 159) rfl rfl (fun w' hw => ?_) hS ?_
                · clear hw; go_simp
                try simp only [Act.put, s1, s2, s3]
                refine tI 3 (v := .bool true) (d := some 160) rfl rfl (fun w' hw => ?_) hS ?_
                · clear hw; go_simp
                try simp only [Act.put, s1, s2, s3]
                refine tI 4 (v := .pointer (some ⟨W3.heap.size, 7, none⟩)) (d := some 161) rfl rfl (fun w' hw => ?_) hS ?_
                · clear hw; go_simp
                try simp only [Act.put, s1, s2, s3]
                refine tI 5 (v := .slice (some ⟨kj, oj, none⟩) x.i.n x.i.c) (d := some 162) rfl rfl (fun w' hw => ?_) hS ?_
                · have q0 := (hw.r (W3.heap.size, x.cells) (by simp)).1 7 _ rfl; rw [HE3.out] at q0; clear hw; go_simp
                try simp only [Act.put, s1, s2, s3]
                refine tI 6 (v := .int .i64 i) (d := some 163) rfl rfl (fun w' hw => ?_) hS ?_
                · clear hw; go_simp
                try simp only [Act.put, s1, s2, s3]
                refine tI 7 (v := .pointer (some ⟨kj, oj + i, none⟩)) (d := some 164) rfl rfl (fun w' hw => ?_) hS ?_
                · clear hw; go_simp
                try simp only [Act.put, s1, s2, s3]
                refine tI 8 (v := .int .i64 (b.i.f i)) (d := some 165) rfl rfl (fun w' hw => ?_) hS ?_
                · have q0 : w'.cell? ⟨kj, oj + i, none⟩ = some (.int .i64 (b.i.f i)) := (hw.be.cell (p := ⟨kj, oj + i, none⟩) (World.block_lt_of_cell? _ _ HG3.out)).trans HG3.out; clear hw; go_simp
                try simp only [Act.put, s1, s2, s3]
                refine tI 9 (v := .pointer (some ⟨w1.heap.size, 7, none⟩)) (d := some 166) rfl rfl (fun w' hw => ?_) hS ?_
                · clear hw; go_simp
                try simp only [Act.put, s1, s2, s3]
                refine tI 10 (v := .slice (some ⟨ki, oi, none⟩) b.i.n b.i.c) (d := some 167) rfl rfl (fun w' hw => ?_) hS ?_
                · have q0 := (hw.r (w1.heap.size, b.cells) (by simp)).1 7 _ rfl; rw [HE1.out] at q0; clear hw; go_simp
                try simp only [Act.put, s1, s2, s3]
                refine tI 11 (v := .int .i64 i) (d := some 168) rfl rfl (fun w' hw => ?_) hS ?_
                · clear hw; go_simp
                try simp only [Act.put, s1, s2, s3]
                refine tI 12 (v := .pointer (some ⟨ki, oi + i, none⟩)) (d := some 169) rfl rfl (fun w' hw => ?_) hS ?_
                · clear hw; go_simp
                try simp only [Act.put, s1, s2, s3]
                refine tI 13 (v := .int .i64 (b.i.f i)) (d := some 170) rfl rfl (fun w' hw => ?_) hS ?_
                · have q0 : w'.cell? ⟨ki, oi + i, none⟩ = some (.int .i64 (b.i.f i)) := (hw.be.cell (p := ⟨ki, oi + i, none⟩) (World.block_lt_of_cell? _ _ HG1.out)).trans HG1.out; clear hw; go_simp
                try simp only [Act.put, s1, s2, s3]
                refine tI 14 (v := .bool false) (d := some 171) rfl rfl (fun w' hw => ?_) hS ?_
                · clear hw; go_simp
                try simp only [Act.put, s1, s2, s3]
                refine tI 15 (v := .bool false) (d := some 172) rfl rfl (fun w' hw => ?_) hS ?_
                · clear hw; go_simp
                try simp only [Act.put, s1, s2, s3]
                refine tI 16 (v := .pointer (some ⟨W3.heap.size, 8, none⟩)) (d := some 173) rfl rfl (fun w' hw => ?_) hS ?_
                · clear hw; go_simp
                try simp only [Act.put, s1, s2, s3]
                refine tI 17 (v := .slice (some ⟨kf, of, none⟩) x.e.n x.e.c) (d := some 174) rfl rfl (fun w' hw => ?_) hS ?_
                · have q0 := (hw.r (W3.heap.size, x.cells) (by simp)).1 8 _ rfl; rw [HE4.out] at q0; clear hw; go_simp
                try simp only [Act.put, s1, s2, s3]
                refine tI 18 (v := .int .i64 i) (d := some 175) rfl rfl (fun w' hw => ?_) hS ?_
                · clear hw; go_simp
                try simp only [Act.put, s1, s2, s3]
                refine tI 19 (v := .pointer (some ⟨kf, of + i, none⟩)) (d := some 176) rfl rfl (fun w' hw => ?_) hS ?_
                · clear hw; go_simp
                try simp only [Act.put, s1, s2, s3]
                refine tI 20 (v := .int .i64 (b.e.f i)) (d := some 177) rfl rfl (fun w' hw => ?_) hS ?_
                · have q0 : w'.cell? ⟨kf, of + i, none⟩ = some (.int .i64 (b.e.f i)) := (hw.be.cell (p := ⟨kf, of + i, none⟩) (World.block_lt_of_cell? _ _ HG4.out)).trans HG4.out; clear hw; go_simp
                try simp only [Act.put, s1, s2, s3]
                refine tI 21 (v := .pointer (some ⟨w1.heap.size, 8, none⟩)) (d := some 178) rfl rfl (fun w' hw => ?_) hS ?_
                · clear hw; go_simp
                try simp only [Act.put, s1, s2, s3]
                refine tI 22 (v := .slice (some ⟨ke, oe, none⟩) b.e.n b.e.c) (d := some 179) rfl rfl (fun w' hw => ?_) hS ?_
                · have q0 := (hw.r (w1.heap.size, b.cells) (by simp)).1 8 _ rfl; rw [HE2.out] at q0; clear hw; go_simp
                try simp only [Act.put, s1, s2, s3]
                refine tI 23 (v := .int .i64 i) (d := some 180) rfl rfl (fun w' hw => ?_) hS ?_
                · clear hw; go_simp
                try simp only [Act.put, s1, s2, s3]
                refine tI 24 (v := .pointer (some ⟨ke, oe + i, none⟩)) (d := some 181) rfl rfl (fun w' hw => ?_) hS ?_
                · clear hw; go_simp
                try simp only [Act.put, s1, s2, s3]
                refine tI 25 (v := .int .i64 (b.e.f i)) (d := some 182) rfl rfl (fun w' hw => ?_) hS ?_
                · have q0 : w'.cell? ⟨ke, oe + i, none⟩ = some (.int .i64 (b.e.f i)) := (hw.be.cell (p := ⟨ke, oe + i, none⟩) (World.block_lt_of_cell? _ _ HG2.out)).trans HG2.out; clear hw; go_simp
                try simp only [Act.put, s1, s2, s3]
                refine tI 26 (v := .bool false) (d := some 183) rfl rfl (fun w' hw => ?_) hS ?_
                · clear hw; go_simp
                try simp only [Act.put, s1, s2, s3]
                refine tI 27 (v := .bool false) (d := some 184) rfl rfl (fun w' hw => ?_) hS ?_
                · clear hw; go_simp
                try simp only [Act.put, s1, s2, s3]
                refine tI 28 (v := .bool false) (d := some 185) rfl rfl (fun w' hw => ?_) hS ?_
                · clear hw; go_simp
                try simp only [Act.put, s1, s2, s3]
                refine wpAnyH_done (by kernel_rfl) ?_ _
                have HTV : Hid (St w [(W3.heap.size, x.cells), (w1.heap.size, b.cells)] [x, b] Y0) := hS.st
                clear hS
                clear l1 l2 l3 l4
                go_wp2_with (fail)
                go_roundw
                case rel => exact ⟨i + 1, by omega, by go_num, HTV.out⟩
                case measure => simp [intOf]; omega
            · have hx3 : ¬ ((i : Int) < b.s) := hlt3
              go_wp2_with (fail)
              go_ret
              exact ⟨rfl, HTW.out.b⟩
/- Codes too long are passed by. -/
theorem law_bkreap_all {adr : Nat → Addr} (a : Option Addr) (len cap : Nat) (zs : List Int) (w : World) (h : Bytes w a len cap zs) (he : Ea adr w) :
    Calls Tryd.prog 5 #[.slice a len cap] w fun e w' => e = .returned (.bool true) ∧ Below w.heap.size w w' := by
  have r0 := Draw.row_of h
  have m0 := r0.1
  unfold maxLen at m0
  by_cases h0 : (1048576 : Int) < len
  · go_enter Tryd.func5, Tryd.ntmps5
    go_wp2_with (fail)
    go_ret
    exact ⟨rfl, Below.refl _ _⟩
  · exact law_bkreap a len cap zs w r0 h0 he
end Go.Proofs.YtbipolfbkemmpaaDoor.Dra

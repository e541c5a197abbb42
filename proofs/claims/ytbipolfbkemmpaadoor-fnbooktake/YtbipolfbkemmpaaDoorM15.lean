import Derived.Test.YtbipolfbkemmpaaDoorM11
import Derived.Test.YtbipolfbkemmpaaDoorM14

/- What a call of the specification's book looks up before it turns a thing. -/
namespace Go.Proofs.YtbipolfbkemmpaaDoor.Book
open Go.ChangeShapes Go.WideShapes Go.ChangeAt Go.RowKit
open Aid Lst
set_option maxRecDepth 100000
set_option linter.unusedVariables false

/- The first that is so, or -1. -/
def FstP (f : Nat → Int) (v : Int) (n : Nat) (r : Int) : Prop := (∃ u : Nat, u < n ∧ r = u ∧ f u = v ∧ ∀ j, j < u → f j ≠ v) ∨ (r = -1 ∧ ∀ j, j < n → f j ≠ v)

set_option maxHeartbeats 1000000 in
theorem first_any (b : Bx) (s : Int) (w : World) (h : b.At w) (h0 : 0 < b.o.n) (hn : b.o.n ≤ 1000) (s0 : 0 ≤ s) (s1 : s ≤ 1000) :
    Calls Tryd.prog 78 #[.agg b.cells.toArray, .int .i64 s] w fun e w' => (∃ r, e = .returned (.int .i64 r) ∧ FstP b.o.f (s + 1) b.o.n r) ∧ Below w.heap.size w w' := by
  have E := Ent.start h 26
  simp only [Bx.cells] at E ⊢
  go_enter Tryd.func78, Tryd.ntmps78
  go_wp2_with (fail)
  generalize w.alloc (.cells #[.int .i64 b.s, .slice b.p.a b.p.n b.p.c, .slice b.h0.a b.h0.n b.h0.c, .slice b.h1.a b.h1.n b.h1.c, .slice b.h2.a b.h2.n b.h2.c, .slice b.h3.a b.h3.n b.h3.c, .slice b.o.a b.o.n b.o.c, .slice b.i.a b.i.n b.i.c, .slice b.e.a b.e.n b.e.c] 26) = W at E ⊢
  obtain ⟨k, o, ea, hc⟩ := E.a.o.cells (by omega)
  obtain ⟨-, -, -, -, -, -, u6, -, -⟩ := nine E.r
  rw [ea] at u6
  clear ea
  go_loop [5] (fun i => ∃ u : Nat, u ≤ b.o.n ∧ i = .int .i64 u ∧ ∀ j, j < u → b.o.f j ≠ s + 1) (fun i => b.o.n - (intOf i).toNat)
  case atStart => exact ⟨0, by omega, rfl, fun j h1 => by omega⟩
  case round =>
    obtain ⟨u, hu, rfl, hj⟩ := hrel
    have HJ : Hid (∀ j, j < u → b.o.f j ≠ s + 1) := hj
    clear hj
    by_cases hlt : (u : Int) < b.o.n
    · have c1 := hc u (by omega)
      clear hc
      by_cases e : b.o.f u = s + 1
      · go_wp2_with (fail)
        go_ret
        exact ⟨⟨u, rfl, .inl ⟨u, by omega, rfl, e, HJ.out⟩⟩, E.b⟩
      · go_wp2_with (fail)
        go_round
        case rel => exact ⟨u + 1, by omega, by go_num, fun j a => (by
          by_cases e' : j = u
          · subst e'; exact e
          · exact HJ.out j (by omega))⟩
        case measure => simp [intOf]; omega
    · obtain rfl : u = b.o.n := by omega
      clear hc
      go_wp2_with (fail)
      go_ret
      exact ⟨⟨-1, rfl, .inr ⟨rfl, HJ.out⟩⟩, E.b⟩

/- Pages in a row that are empty. -/
def EmpP (P : Nat → Int) (p n : Nat) : Prop := ∀ i, i < n → P (p + i) = 0
def RunP (P : Nat → Int) (np n : Nat) (r : Int) : Prop := (∃ p : Nat, p + n ≤ np ∧ r = p ∧ EmpP P p n ∧ ∀ q, q < p → ¬ EmpP P q n) ∨ (r = -1 ∧ ∀ q, q + n ≤ np → ¬ EmpP P q n)
theorem EmpP.step {P : Nat → Int} {p n : Nat} : EmpP P p (n + 1) ↔ EmpP P p n ∧ P (p + n) = 0 := by
  unfold EmpP
  constructor
  · intro h; exact ⟨fun i hi => h i (by omega), h n (by omega)⟩
  · intro h i hi
    by_cases e : i = n
    · subst e; exact h.2
    · exact h.1 i (by omega)

set_option maxHeartbeats 4000000 in
theorem run_any (b : Bx) (n : Nat) (w : World) (h : b.At w) (h0 : 0 < b.p.n) (hn : b.p.n ≤ 1000) (n1 : 1 ≤ n) (n4 : n ≤ 1000) :
    Calls Tryd.prog 92 #[.agg b.cells.toArray, .int .i64 n] w fun e w' => (∃ r, e = .returned (.int .i64 r) ∧ RunP b.p.f b.p.n n r) ∧ Below w.heap.size w w' := by
  have E := Ent.start h 26
  simp only [Bx.cells] at E ⊢
  go_enter Tryd.func92, Tryd.ntmps92
  go_wp2_with (fail)
  generalize w.alloc (.cells #[.int .i64 b.s, .slice b.p.a b.p.n b.p.c, .slice b.h0.a b.h0.n b.h0.c, .slice b.h1.a b.h1.n b.h1.c, .slice b.h2.a b.h2.n b.h2.c, .slice b.h3.a b.h3.n b.h3.c, .slice b.o.a b.o.n b.o.c, .slice b.i.a b.i.n b.i.c, .slice b.e.a b.e.n b.e.c] 26) = W at E ⊢
  obtain ⟨k, o, ea, hc⟩ := E.a.p.cells (by omega)
  obtain ⟨-, u1, -, -, -, -, -, -, -⟩ := nine E.r
  rw [ea] at u1
  clear ea
  go_loop [5] (fun i => ∃ p : Nat, p ≤ b.p.n ∧ i = .int .i64 p ∧ ∀ q, q < p → ¬ EmpP b.p.f q n) (fun i => b.p.n - (intOf i).toNat)
  case atStart => exact ⟨0, by omega, rfl, fun j h1 => by omega⟩
  case round =>
    obtain ⟨p, hp, rfl, hj⟩ := hrel
    have HJ : Hid (∀ q, q < p → ¬ EmpP b.p.f q n) := hj
    clear hj
    by_cases hlt : (p : Int) + n ≤ b.p.n
    · go_wp2_with (fail)
      go_loop [6, 7] (fun a i => ∃ (r : Bool) (u : Nat), u ≤ n ∧ a = .bool r ∧ i = .int .i64 u ∧ (r = true ↔ EmpP b.p.f p u)) (fun a i => n - (intOf i).toNat)
      case atStart => exact ⟨true, 0, by omega, rfl, rfl, ⟨fun _ i hi => by omega, fun _ => rfl⟩⟩
      case round =>
        obtain ⟨r, u, hu, rfl, rfl, hr⟩ := hrel
        have HR : Hid (r = true ↔ EmpP b.p.f p u) := hr
        clear hr
        by_cases hlu : (u : Int) < n
        · have c1 := hc (p + u) (by omega)
          have i1 : ((p : Int) + u) < b.p.n := by omega
          have i2 : ((p : Int) + u).toNat = p + u := by omega
          clear hc
          cases r
          · go_wp2_with (fail)
            go_round
            case rel => exact ⟨false, u + 1, by omega, rfl, by go_num, ⟨fun e => Bool.noConfusion e, fun e => HR.out.2 (EmpP.step.1 e).1⟩⟩
            case measure => simp [intOf]; omega
          · go_wp2_with (fail)
            go_round
            case rel => exact ⟨_, u + 1, by omega, rfl, by go_num, by
              rw [EmpP.step]
              have := HR.out.1 rfl
              simp [this]⟩
            case measure => simp [intOf]; omega
        · obtain rfl : u = n := by omega
          clear hc
          cases r
          · go_wp2_with (fail)
            go_round
            case rel => exact ⟨p + 1, by omega, by go_num, fun q hq => (by
              by_cases e' : q = p
              · subst e'; exact fun e => Bool.noConfusion (HR.out.2 e)
              · exact HJ.out q (by omega))⟩
            case measure => simp [intOf]; omega
          · go_wp2_with (fail)
            go_ret
            exact ⟨⟨p, rfl, .inl ⟨p, by omega, rfl, HR.out.1 (by trivial), HJ.out⟩⟩, E.b⟩
    · clear hc
      go_wp2_with (fail)
      go_ret
      exact ⟨⟨-1, rfl, .inr ⟨rfl, fun q hq => HJ.out q (by omega)⟩⟩, E.b⟩

/- Why a slot may do nothing with a room. -/
def WhoP (b : Bx) (s u r : Int) : Prop := ((u < 0 ∨ (b.o.n : Int) ≤ u ∨ b.o.f u.toNat = 0) ∧ r = 3) ∨ ((0 ≤ u ∧ u < b.o.n ∧ ¬ b.o.f u.toNat = 0) ∧ ((b.o.f u.toNat ≠ s + 1 ∧ r = 4) ∨ (b.o.f u.toNat = s + 1 ∧ r = 0)))
theorem room_zero {b : Bx} {u : Int} (h : RoomR b u 0) : u < 0 ∨ (b.o.n : Int) ≤ u ∨ b.o.f u.toNat = 0 := by
  rcases h with ⟨h, _⟩ | ⟨_, ⟨m, _, _, e⟩ | ⟨g, e⟩⟩
  · exact h
  · have := (sz_pos m).1; omega
  · omega
theorem room_some {b : Bx} {u r : Int} (h : RoomR b u r) (hr : r ≠ 0) : 0 ≤ u ∧ u < b.o.n ∧ ¬ b.o.f u.toNat = 0 := by
  rcases h with ⟨_, e⟩ | ⟨h, _⟩
  · exact absurd e hr
  · exact h

set_option maxHeartbeats 4000000 in
theorem whose_any (b : Bx) (s u : Int) (w : World) (h : b.At w) (hok : OkP b) (s0 : 0 ≤ s) (s1 : s ≤ 1000) :
    Calls Tryd.prog 76 #[.agg b.cells.toArray, .int .i64 s, .int .i64 u] w fun e w' => (∃ r, e = .returned (.int .i64 r) ∧ WhoP b s u r) ∧ Below w.heap.size w w' := by
  have E : Ent w b (w.alloc (.cells #[.int .i64 b.s, .slice b.p.a b.p.n b.p.c, .slice b.h0.a b.h0.n b.h0.c, .slice b.h1.a b.h1.n b.h1.c, .slice b.h2.a b.h2.n b.h2.c, .slice b.h3.a b.h3.n b.h3.c, .slice b.o.a b.o.n b.o.c, .slice b.i.a b.i.n b.i.c, .slice b.e.a b.e.n b.e.c] 26)) := Ent.start h 26
  simp only [Bx.cells]
  go_enter Tryd.func76, Tryd.ntmps76
  go_wp2_with (fail)
  generalize w.alloc (.cells #[.int .i64 b.s, .slice b.p.a b.p.n b.p.c, .slice b.h0.a b.h0.n b.h0.c, .slice b.h1.a b.h1.n b.h1.c, .slice b.h2.a b.h2.n b.h2.c, .slice b.h3.a b.h3.n b.h3.c, .slice b.o.a b.o.n b.o.c, .slice b.i.a b.i.n b.i.c, .slice b.e.a b.e.n b.e.c] 26) = W at E ⊢
  refine (sunits_any b u W E.a hok).mono ?_
  rintro e w1 ⟨⟨r, rfl, hr⟩, hb⟩
  replace E := E.later hb
  clear hb
  obtain ⟨-, -, -, -, -, -, u6, -, -⟩ := nine E.r
  by_cases z : r = 0
  · subst z
    have HR : Hid (u < 0 ∨ (b.o.n : Int) ≤ u ∨ b.o.f u.toNat = 0) := room_zero hr
    clear hr
    go_wp2_with (fail)
    go_ret
    exact ⟨⟨3, rfl, .inl ⟨HR.out, rfl⟩⟩, E.b⟩
  · obtain ⟨v0, v1, v2⟩ := room_some hr z
    have HZ : Hid (¬ b.o.f u.toNat = 0) := v2
    clear hr v2
    obtain ⟨k, o, ea, hc⟩ := E.a.o.cells (by omega)
    rw [ea] at u6
    have c1 := hc u.toNat (by omega)
    clear hc ea hok
    by_cases e : b.o.f u.toNat = s + 1
    · go_wp2_with (fail)
      go_ret
      exact ⟨⟨0, rfl, .inr ⟨⟨v0, v1, HZ.out⟩, .inr ⟨e, rfl⟩⟩⟩, E.b⟩
    · go_wp2_with (fail)
      go_ret
      exact ⟨⟨4, rfl, .inr ⟨⟨v0, v1, HZ.out⟩, .inl ⟨e, rfl⟩⟩⟩, E.b⟩

def Bx.ine (b : Bx) (t : Nat) (v e : Int) : Bx := ⟨b.s, b.p, b.h0, b.h1, b.h2, b.h3, b.o, b.i.put t v, b.e.put t e⟩
def Bx.own (b : Bx) (u : Nat) (v : Int) : Bx := ⟨b.s, b.p, b.h0, b.h1, b.h2, b.h3, b.o.put u v, b.i, b.e⟩

/- Who is in has turned: of a slot t. -/
theorem keep_in {b : Bx} (h : OkP b) (t : Nat) (v e : Int) (v0 : 0 ≤ v) (v2 : v ≤ 2) (e0 : 0 ≤ e) (e1 : e ≤ 4095) (he : e = 0 → v ≤ 0) (ho : v = 0 → ∀ u, u < b.o.n → b.o.f u ≠ (t : Int) + 1) : OkP (b.ine t v e) := by
  obtain ⟨⟨hl, hi, hw⟩, hs, hp⟩ := h
  refine ⟨⟨hl, fun j hj => ?_, fun u hu => ?_⟩, hs, hp⟩
  · have q := hi j hj
    unfold InU at q ⊢
    simp only [Bx.ine, Sx.put, upd]
    split
    · exact ⟨v0, v2, e0, e1, he⟩
    · exact q
  · obtain ⟨q1, q2, q3⟩ := hw u hu
    refine ⟨q1, q2, fun g => ?_⟩
    have q4 := q3 g
    simp only [Bx.ine, Sx.put, upd] at g ⊢
    split
    · rename_i e'
      intro ev
      refine ho ev u hu ?_
      have : 0 ≤ b.o.f u - 1 := by omega
      omega
    · exact q4

/- A page is ok by who has rooms, not by whose they are. -/
theorem free_iff {o o' : Nat → Int} {q fr : Nat} (h : ∀ u, 0 < o' u ↔ 0 < o u) : FreeP o' q fr ↔ FreeP o q fr := by
  unfold FreeP
  constructor
  · intro g u h1 h2 h3; exact g u h1 h2 ((h _).2 h3)
  · intro g u h1 h2 h3; exact g u h1 h2 ((h _).1 h3)
theorem page_iff {b c : Bx} (ep : c.p = b.p) (eh : ∀ k, c.hd k = b.hd k) (h : ∀ u, 0 < c.o.f u ↔ 0 < b.o.f u) (z : ∀ u, c.o.f u = 0 ↔ b.o.f u = 0) (q : Nat) (hq : PageP b q) : PageP c q := by
  unfold PageP at hq ⊢
  rw [ep]
  rcases hq with ⟨h1, h2⟩ | ⟨m, m4, h1, h2⟩ | ⟨h1, h2⟩ | hq
  · exact .inl ⟨h1, (free_iff h).2 h2⟩
  · refine .inr (.inl ⟨m, m4, h1, ?_⟩)
    rw [eh]
    refine ⟨fun u hu => ?_, ?_⟩
    · have r := h2.1 u hu
      unfold RoomU at r ⊢
      have e := h (q * 8 + u)
      rcases r with ⟨r1, r2, r3⟩ | ⟨r1, ⟨r2, r3⟩ | ⟨r2, r3⟩⟩
      · exact .inl ⟨r1, by omega, r3⟩
      · exact .inr ⟨r1, .inl ⟨by omega, r3⟩⟩
      · exact .inr ⟨r1, .inr ⟨by omega, r3⟩⟩
    · obtain ⟨u, h3, h4, h5⟩ := h2.2
      exact ⟨u, h3, h4, (h _).2 h5⟩
  · obtain ⟨r1, r2, r3⟩ := h2
    exact .inr (.inr (.inl ⟨h1, r1, r2, (free_iff h).2 r3⟩))
  · obtain ⟨r1, r2, r3, r4, r5, r6⟩ := hq
    exact .inr (.inr (.inr ⟨r1, r2, r3, fun e => r4 ((z _).1 e), (free_iff h).2 r5, r6⟩))

/- A room is handed on. -/
theorem keep_hand {b : Bx} (h : OkP b) (u t : Nat) (hu : u < b.o.n) (hp : 0 < b.o.f u) (ht : (t : Int) < b.s) (hi : b.i.f t ≠ 0) : OkP (b.own u ((t : Int) + 1)) := by
  obtain ⟨⟨hl, hs, hw⟩, hd, hg⟩ := h
  have pos : ∀ j, 0 < (b.own u ((t : Int) + 1)).o.f j ↔ 0 < b.o.f j := fun j => by
    simp only [Bx.own, Sx.put, upd]
    split
    · rename_i e; rw [e]; omega
    · exact Iff.rfl
  have zer : ∀ j, (b.own u ((t : Int) + 1)).o.f j = 0 ↔ b.o.f j = 0 := fun j => by
    simp only [Bx.own, Sx.put, upd]
    split
    · rename_i e; rw [e]; omega
    · exact Iff.rfl
  refine ⟨⟨hl, hs, fun j hj => ?_⟩, hd, fun q hq => page_iff (b := b) (c := b.own u ((t : Int) + 1)) rfl (fun _ => rfl) pos zer q (hg q hq)⟩
  have q := hw j hj
  unfold OwnU at q ⊢
  simp only [Bx.own, Sx.put, upd]
  split
  · refine ⟨by omega, by omega, fun _ => ?_⟩
    rw [show ((t : Int) + 1 - 1).toNat = t by omega]
    exact hi
  · exact q

/- A list of a kind is another one. -/
def Bx.seth (b : Bx) (k : Nat) (x : Sx) : Bx := ⟨b.s, b.p, if k = 0 then x else b.h0, if k = 1 then x else b.h1, if k = 2 then x else b.h2, if k = 3 then x else b.h3, b.o, b.i, b.e⟩
theorem hd_seth (b : Bx) {k j : Nat} (x : Sx) (hk : k < 4) (hj : j < 4) : (b.seth k x).hd j = if j = k then x else b.hd j := by
  obtain rfl | rfl | rfl | rfl : k = 0 ∨ k = 1 ∨ k = 2 ∨ k = 3 := by omega
  all_goals obtain rfl | rfl | rfl | rfl : j = 0 ∨ j = 1 ∨ j = 2 ∨ j = 3 := by omega
  all_goals rfl
theorem page_same {b c : Bx} (q : Nat) (ep : c.p = b.p) (eh : ∀ m : Nat, m < 4 → b.p.f q = m + 1 → ∀ u : Nat, u < 8 → cnt (c.hd m).f ((q : Int) * 8 + u) (c.hd m).n = cnt (b.hd m).f ((q : Int) * 8 + u) (b.hd m).n) (eo : ∀ u, u < 8 → c.o.f (q * 8 + u) = b.o.f (q * 8 + u)) (hq : PageP b q) : PageP c q := by
  have fr : ∀ n, FreeP b.o.f q n → FreeP c.o.f q n := fun n g u h1 h2 h3 => g u h1 h2 (by rw [← eo u h2]; exact h3)
  unfold PageP at hq ⊢
  rw [ep]
  rcases hq with ⟨h1, h2⟩ | ⟨m, m4, h1, h2⟩ | ⟨h1, h2⟩ | hq
  · exact .inl ⟨h1, fr 0 h2⟩
  · refine .inr (.inl ⟨m, m4, h1, ?_⟩)
    refine ⟨fun u hu => ?_, ?_⟩
    · have r := h2.1 u hu
      unfold RoomU at r ⊢
      rw [eo u hu, eh m m4 h1 u hu]
      exact r
    · obtain ⟨u, h3, h4, h5⟩ := h2.2
      exact ⟨u, h3, h4, by rw [eo u h3]; exact h5⟩
  · obtain ⟨r1, r2, r3⟩ := h2
    exact .inr (.inr (.inl ⟨h1, r1, r2, fr 0 r3⟩))
  · obtain ⟨r1, r2, r3, r4, r5, r6⟩ := hq
    exact .inr (.inr (.inr ⟨r1, r2, r3, by have := eo 0 (by omega); rw [Nat.add_zero] at this; rw [this]; exact r4, fr 1 r5, r6⟩))
theorem cnt_tail (f : Nat → Int) (a : Int) : ∀ m, cnt f a (m + 1) = cnt (fun j => f (j + 1)) a m + (if f 0 = a then 1 else 0)
  | 0 => by simp [cnt]
  | m + 1 => by
    rw [show cnt f a (m + 1 + 1) = cnt f a (m + 1) + (if f (m + 1) = a then 1 else 0) from rfl, cnt_tail f a m]
    rw [show cnt (fun j => f (j + 1)) a (m + 1) = cnt (fun j => f (j + 1)) a m + (if f (m + 1) = a then 1 else 0) from rfl]
    omega
theorem sz_is (m : Int) : sz m = 1 ∨ sz m = 2 ∨ sz m = 4 ∨ sz m = 8 := by
  unfold sz
  repeat' split
  all_goals simp
def Sx.tail (x : Sx) : Sx := ⟨x.a, x.n - 1, x.c - 1, fun j => x.f (j + 1)⟩
theorem own_u {b : Bx} (h : OwnsP b b.o.n) (u t : Nat) (ht : (t : Int) < b.s) (hi : b.i.f t ≠ 0) : ∀ j, j < b.o.n → OwnU (b.own u ((t : Int) + 1)) j := fun j hj => by
  have q := h j hj
  unfold OwnU at q ⊢
  simp only [Bx.own, Sx.put, upd]
  split
  · refine ⟨by omega, by omega, fun _ => ?_⟩
    rw [show ((t : Int) + 1 - 1).toNat = t by omega]
    exact hi
  · exact q

/- A free room is taken: the first of its list. -/
theorem keep_pop {b : Bx} (h : OkP b) (k t : Nat) (hk : k < 4) (h0 : 0 < (b.hd k).n) (ht : (t : Int) < b.s) (hi : b.i.f t ≠ 0) : OkP ((b.seth k (b.hd k).tail).own ((b.hd k).f 0).toNat ((t : Int) + 1)) := by
  obtain ⟨⟨hl, hs, hw⟩, hd, hg⟩ := h
  obtain ⟨a0, a1, a2, a3⟩ := (hd k hk).2 0 h0
  obtain ⟨x, hx⟩ : ∃ x, x = b.hd k := ⟨_, rfl⟩
  rw [← hx] at h0 a0 a1 a2 a3 ⊢
  obtain ⟨A, hA⟩ : ∃ A : Nat, x.f 0 = A := ⟨(x.f 0).toNat, by omega⟩
  rw [hA] at a0 a1 a2 a3 ⊢
  rw [Int.toNat_natCast]
  have hpA : b.p.f (A / 8) = (k : Int) + 1 := by rw [← a2]; congr 1
  have hdj : ∀ j, j < 4 → ((b.seth k x.tail).own A ((t : Int) + 1)).hd j = if j = k then x.tail else b.hd j := fun j hj => hd_seth b x.tail hk hj
  refine ⟨⟨hl, hs, own_u (b := b.seth k x.tail) hw A t ht hi⟩, fun j hj => ?_, fun q hq => ?_⟩
  · rw [hdj j hj]
    have g := hd j hj
    split
    · rename_i e
      subst e
      rw [← hx] at g
      exact ⟨by have := g.1; simp only [Sx.tail, Bx.own, Bx.seth, Sx.put]; omega, fun i hi' => by
        have := g.2 (i + 1) (by simp only [Sx.tail] at hi'; omega)
        rw [← hx] at this
        unfold BegP at this ⊢
        rw [hdj j hj, if_pos rfl]
        exact this⟩
    · rename_i e
      exact ⟨g.1, fun i hi' => by
        have := g.2 i hi'
        unfold BegP at this ⊢
        rw [hdj j hj, if_neg e]
        exact this⟩
  · by_cases e : q = A / 8
    · have pg := hg q hq
      unfold PageP at pg ⊢
      rw [e] at pg ⊢
      have hpk : ∀ m : Nat, b.p.f (A / 8) = (m : Int) + 1 → m = k := fun m hm => by omega
      rcases pg with ⟨h1, _⟩ | ⟨m, m4, h1, h2⟩ | ⟨h1, _⟩ | ⟨h1, _⟩
      · omega
      · obtain rfl := hpk m h1
        refine .inr (.inl ⟨m, m4, h1, ?_⟩)
        rw [hdj m m4, if_pos rfl]
        rw [← hx] at h2
        have eA : A = A / 8 * 8 + A % 8 := by omega
        have hAu : ((b.seth m x.tail).own A ((t : Int) + 1)).o.f (A / 8 * 8 + A % 8) = (t : Int) + 1 := by simp only [Bx.own, Sx.put, upd]; rw [if_pos (by omega)]
        refine ⟨fun u hu => ?_, ⟨A % 8, by omega, ?_, by rw [hAu]; omega⟩⟩
        · have r := h2.1 u hu
          obtain ⟨n', hn'⟩ : ∃ n', x.n = n' + 1 := ⟨x.n - 1, by omega⟩
          have ct : cnt x.f (((A / 8 : Nat) : Int) * 8 + u) x.n = cnt x.tail.f (((A / 8 : Nat) : Int) * 8 + u) x.tail.n + (if x.f 0 = ((A / 8 : Nat) : Int) * 8 + u then 1 else 0) := by
            rw [hn', cnt_tail]
            simp only [Sx.tail, hn']
            rfl
          unfold RoomU at r ⊢
          rw [ct] at r
          by_cases eu : u = A % 8
          · rw [if_pos (by rw [hA]; omega)] at r
            rw [eu, hAu]
            rw [eu] at r
            rcases r with ⟨_, _, r3⟩ | ⟨r1, ⟨_, r3⟩ | ⟨_, r3⟩⟩
            · omega
            · omega
            · exact .inr ⟨r1, .inl ⟨by omega, by omega⟩⟩
          · rw [if_neg (by rw [hA]; omega), Nat.add_zero] at r
            have ho : ((b.seth m x.tail).own A ((t : Int) + 1)).o.f (A / 8 * 8 + u) = b.o.f (A / 8 * 8 + u) := by simp only [Bx.own, Sx.put, upd, Bx.seth]; rw [if_neg (by omega)]
            rw [ho]
            exact r
        · have : (A : Int) % sz m ≤ 0 := a3
          have s8 := sz_is m
          rcases s8 with s8 | s8 | s8 | s8 <;> rw [s8] at this ⊢ <;> omega
      · omega
      · omega
    · refine page_same (b := b) q rfl (fun m m4 hm => ?_) (fun u hu => ?_) (hg q hq)
      · intro u hu
        rw [hdj m m4]
        split
        · rename_i e'
          subst e'
          rw [← hx]
          obtain ⟨n', hn'⟩ : ∃ n', x.n = n' + 1 := ⟨x.n - 1, by omega⟩
          rw [hn', cnt_tail, if_neg (by rw [hA]; omega)]
          simp only [Sx.tail, hn']
          rfl
        · rfl
      · simp only [Bx.own, Sx.put, upd, Bx.seth]; rw [if_neg (by omega)]

end Go.Proofs.YtbipolfbkemmpaaDoor.Book

import Derived.Test.YtoaopapnpndklaaDoorM5
import Derived.Test.YtoaopapnpndklaaDoorBk3

/- What the specification asks of the slots; of a book. -/
namespace Go.Proofs.YtoaopapnpndklaaDoor.Book
open Go.ChangeShapes Go.WideShapes Go.ChangeAt Go.RowKit
open Go.Proofs.YtoaopapnpndklaaDoor.Aid Go.Proofs.YtoaopapnpndklaaDoor.Lst
set_option maxRecDepth 100000

def LensP (b : Bx) : Prop := 1 ≤ b.s ∧ b.s ≤ 4 ∧ (b.i.n : Int) = b.s ∧ (b.e.n : Int) = b.s ∧ 1 ≤ (b.p.n : Int) ∧ (b.p.n : Int) ≤ 6 ∧ (b.o.n : Int) = b.p.n * 8
def InU (b : Bx) (j : Nat) : Prop := 0 ≤ b.i.f j ∧ b.i.f j ≤ 2 ∧ 0 ≤ b.e.f j ∧ b.e.f j ≤ 4095 ∧ (b.e.f j = 0 → b.i.f j ≤ 0)
def OwnU (b : Bx) (u : Nat) : Prop := 0 ≤ b.o.f u ∧ b.o.f u ≤ b.s ∧ (0 < b.o.f u → b.i.f (b.o.f u - 1).toNat ≠ 0)
def InsP (b : Bx) (n : Nat) : Prop := ∀ j, j < n → InU b j
def OwnsP (b : Bx) (n : Nat) : Prop := ∀ u, u < n → OwnU b u
def SlotsP (b : Bx) : Prop := LensP b ∧ InsP b b.i.n ∧ OwnsP b b.o.n
theorem InsP.up {b : Bx} {n : Nat} (h : InsP b n) (h1 : InU b n) : InsP b (n + 1) := fun j hj => by
  by_cases e : j = n
  · subst e; exact h1
  · exact h j (by omega)
theorem OwnsP.up {b : Bx} {n : Nat} (h : OwnsP b n) (h1 : OwnU b n) : OwnsP b (n + 1) := fun j hj => by
  by_cases e : j = n
  · subst e; exact h1
  · exact h j (by omega)

set_option maxRecDepth 100000 in
set_option maxHeartbeats 8000000 in
theorem slots_any (b : Bx) (w : World) (h : b.At w) (hn : b.total ≤ 1000000000) (hl : ∀ u, -9223372036854775808 ≤ b.o.f u) (hh : ∀ u, b.o.f u ≤ 9223372036854775807) :
    Calls Tryd.prog 30 #[.agg b.cells.toArray] w fun e w' => Says e (SlotsP b) ∧ Below w.heap.size w w' := by
  have E := Ent.start h 29
  simp only [Bx.total] at hn
  simp only [Bx.cells] at E ⊢
  by_cases s0 : b.s < 1
  case pos =>
    go_enter Tryd.func30, Tryd.ntmps30
    go_wp2_with (fail)
    go_ret
    exact ⟨Says.no (fun g => by have := g.1; unfold LensP at this; omega), E.b⟩
  by_cases s1 : b.s > 4
  case pos =>
    go_enter Tryd.func30, Tryd.ntmps30
    go_wp2_with (fail)
    go_ret
    exact ⟨Says.no (fun g => by have := g.1; unfold LensP at this; omega), E.b⟩
  by_cases s2 : ¬ (b.i.n : Int) = b.s
  case pos =>
    go_enter Tryd.func30, Tryd.ntmps30
    go_wp2_with (fail)
    go_ret
    exact ⟨Says.no (fun g => by have := g.1; unfold LensP at this; omega), E.b⟩
  replace s2 := Decidable.of_not_not s2
  by_cases s3 : ¬ (b.e.n : Int) = b.s
  case pos =>
    go_enter Tryd.func30, Tryd.ntmps30
    go_wp2_with (fail)
    go_ret
    exact ⟨Says.no (fun g => by have := g.1; unfold LensP at this; omega), E.b⟩
  replace s3 := Decidable.of_not_not s3
  by_cases s4 : (b.p.n : Int) < 1
  case pos =>
    go_enter Tryd.func30, Tryd.ntmps30
    go_wp2_with (fail)
    go_ret
    exact ⟨Says.no (fun g => by have := g.1; unfold LensP at this; omega), E.b⟩
  by_cases s5 : (b.p.n : Int) > 6
  case pos =>
    go_enter Tryd.func30, Tryd.ntmps30
    go_wp2_with (fail)
    go_ret
    exact ⟨Says.no (fun g => by have := g.1; unfold LensP at this; omega), E.b⟩
  by_cases s6 : ¬ (b.o.n : Int) = b.p.n * 8
  case pos =>
    go_enter Tryd.func30, Tryd.ntmps30
    go_wp2_with (fail)
    go_ret
    exact ⟨Says.no (fun g => by have := g.1; unfold LensP at this; omega), E.b⟩
  replace s6 := Decidable.of_not_not s6
  have LP : Hid (LensP b) := by unfold LensP Hid; omega
  go_enter Tryd.func30, Tryd.ntmps30
  go_wp2_with (fail)
  have n1 : (b.i.n : Int) ≤ b.s := by omega
  have n2 : b.s ≤ b.i.n := by omega
  have n3 : b.s ≤ b.e.n := by omega
  have n4 : b.o.n ≤ 48 := by omega
  have n5 : b.s ≤ 4 := by omega
  have n6 : 1 ≤ b.s := by omega
  have n7 : 8 ≤ b.o.n := by omega
  clear s0 s1 s2 s3 s4 s5 s6
  generalize w.alloc (.cells #[.int .i64 b.s, .slice b.p.a b.p.n b.p.c, .slice b.h0.a b.h0.n b.h0.c, .slice b.h1.a b.h1.n b.h1.c, .slice b.h2.a b.h2.n b.h2.c, .slice b.h3.a b.h3.n b.h3.c, .slice b.o.a b.o.n b.o.c, .slice b.i.a b.i.n b.i.c, .slice b.e.a b.e.n b.e.c] 29) = W at E ⊢
  obtain ⟨u0, u1, u2, u3, u4, u5, u6, u7, u8⟩ := nine E.r
  clear u1 u2 u3 u4 u5
  obtain ⟨k1, o1, e1, hi⟩ := E.a.i.cells (by omega)
  obtain ⟨k2, o2, e2, he⟩ := E.a.e.cells (by omega)
  have U7 : Hid (W.cell? ⟨w.heap.size, 7, none⟩ = some (.slice b.i.a b.i.n b.i.c)) := u7
  rw [e1] at u7
  rw [e2] at u8
  clear e1 e2
  go_loop [3] (fun i => ∃ j : Nat, (j : Int) ≤ b.s ∧ i = .int .i64 j ∧ InsP b j) (fun i => b.i.n - (intOf i).toNat)
  case atStart => exact ⟨0, by omega, rfl, fun j h => absurd h (Nat.not_lt_zero _)⟩
  case round =>
    obtain ⟨j, hj, rfl, hI⟩ := hrel
    have HI : Hid (InsP b j) := hI
    clear hI
    by_cases lt : (j : Int) < b.s
    · have c1 := hi j (by omega)
      have c2 := he j (by omega)
      have i1 : (j : Int) < b.i.n := by omega
      have i2 : (j : Int) < b.e.n := by omega
      have bad : Hid (¬ InU b j → ¬ SlotsP b) := fun g q => g (q.2.1 j (by omega))
      clear hi he
      by_cases t0 : b.i.f j < 0
      case pos =>
        go_wp2_with (fail)
        go_ret
        exact ⟨Says.no (bad.out (fun g => by unfold InU at g; omega)), E.b⟩
      by_cases t1 : b.i.f j > 2
      case pos =>
        go_wp2_with (fail)
        go_ret
        exact ⟨Says.no (bad.out (fun g => by unfold InU at g; omega)), E.b⟩
      by_cases t2 : b.e.f j < 0
      case pos =>
        go_wp2_with (fail)
        go_ret
        exact ⟨Says.no (bad.out (fun g => by unfold InU at g; omega)), E.b⟩
      by_cases t3 : b.e.f j > 4095
      case pos =>
        go_wp2_with (fail)
        go_ret
        exact ⟨Says.no (bad.out (fun g => by unfold InU at g; omega)), E.b⟩
      by_cases t4 : b.e.f j = 0
      case pos =>
        by_cases t5 : 0 < b.i.f j
        case pos =>
          go_wp2_with (fail)
          go_ret
          exact ⟨Says.no (bad.out (fun g => by unfold InU at g; omega)), E.b⟩
        go_wp2_with (fail)
        go_round
        case rel => exact ⟨j + 1, by omega, by go_num, HI.out.up (by unfold InU; omega)⟩
        case measure => simp [intOf]; omega
      go_wp2_with (fail)
      go_round
      case rel => exact ⟨j + 1, by omega, by go_num, HI.out.up (by unfold InU; omega)⟩
      case measure => simp [intOf]; omega
    · have ej : j = b.i.n := by omega
      have HA : Hid (InsP b b.i.n) := by unfold Hid; rw [← ej]; exact HI.out
      clear ej HI
      go_wp2_with (fail)
      clear hi he u7 u8
      have u7 : W.cell? ⟨w.heap.size, 7, none⟩ = some (.slice b.i.a b.i.n b.i.c) := U7.out
      obtain ⟨k3, o3, e3, ho⟩ := E.a.o.cells (by omega)
      obtain ⟨k1, o1, e1, hi⟩ := E.a.i.cells (by omega)
      rw [e3] at u6
      rw [e1] at u7
      clear e3 e1 U7
      go_loopw [4] (fun i wr => ∃ u : Nat, u ≤ b.o.n ∧ i = .int .i64 u ∧ OwnsP b u ∧ ∃ q, wr = W.drewN q) (fun i _ => b.o.n - (intOf i).toNat)
      case atStart => exact ⟨0, by omega, rfl, fun u h => absurd h (Nat.not_lt_zero _), 0, rfl⟩
      case round =>
        obtain ⟨u, hu, rfl, hO, q, rfl⟩ := hrel
        have HO : Hid (OwnsP b u) := hO
        clear hO
        have v0 : (W.drewN q).cell? ⟨w.heap.size, 0, none⟩ = some (.int .i64 b.s) := u0
        have v6 : (W.drewN q).cell? ⟨w.heap.size, 6, none⟩ = some (.slice (some ⟨k3, o3, none⟩) b.o.n b.o.c) := u6
        have v7 : (W.drewN q).cell? ⟨w.heap.size, 7, none⟩ = some (.slice (some ⟨k1, o1, none⟩) b.i.n b.i.c) := u7
        have EV := E.drewN q
        have hi' : ∀ j, j < b.i.n → (W.drewN q).cell? ⟨k1, o1 + j, none⟩ = some (.int .i64 (b.i.f j)) := hi
        have ho' : ∀ j, j < b.o.n → (W.drewN q).cell? ⟨k3, o3 + j, none⟩ = some (.int .i64 (b.o.f j)) := ho
        clear u0 u6 u7 hi ho E
        generalize hV : W.drewN q = V at v0 v6 v7 EV hi' ho' ⊢
        have HV : Hid (W.drewN q = V) := hV
        clear hV
        by_cases lt : (u : Int) < b.o.n
        · have c1 := ho' u (by omega)
          have low := hl u
          have hig := hh u
          have bad : Hid (¬ OwnU b u → ¬ SlotsP b) := fun g q => g (q.2.2 u (by omega))
          clear ho'
          by_cases t0 : b.o.f u < 0
          case pos =>
            go_wp2_with (fail)
            go_quiet (fail)
            go_wp2_with (fail)
            go_ret
            exact ⟨Says.no (bad.out (fun g => by unfold OwnU at g; omega)), (EV.drewN nq).b⟩
          have d0 : decide (b.o.f u < 0) = false := decide_eq_false t0
          by_cases t1 : b.o.f u > b.s
          case pos =>
            go_wp2_with (fail)
            go_quiet (fail)
            go_wp2_with (fail)
            go_ret
            exact ⟨Says.no (bad.out (fun g => by unfold OwnU at g; omega)), (EV.drewN nq).b⟩
          have d1 : decide (b.s < b.o.f u) = false := decide_eq_false t1
          by_cases t2 : 0 < b.o.f u
          case pos =>
            obtain ⟨m, hm⟩ : ∃ m : Nat, b.o.f u = m + 1 := ⟨(b.o.f u - 1).toNat, by omega⟩
            have HM : Hid (b.o.f u = m + 1) := hm
            have hm' : (b.o.f u - 1).toNat = m := by omega
            have HM' : Hid ((b.o.f u - 1).toNat = m) := hm'
            have c2 := hi' m (by omega)
            have i1 : (m : Int) < b.i.n := by omega
            have e0 : ¬ (m : Int) + 1 < 0 := by omega
            have e1 : ¬ (m : Int) + 1 > b.s := by omega
            have e2 : 0 < (m : Int) + 1 := by omega
            have f0 : decide ((m : Int) + 1 < 0) = false := decide_eq_false e0
            have f1 : decide (b.s < (m : Int) + 1) = false := decide_eq_false e1
            have f2 : decide (0 < (m : Int) + 1) = true := decide_eq_true e2
            rw [hm] at c1
            clear hm hm' d0 d1 t0 t1 t2 low hig
            by_cases t3 : b.i.f m = 0
            case pos =>
              go_wp2_with (fail)
              go_quiet (fail)
              go_wp2_with (fail)
              go_ret
              exact ⟨Says.no (bad.out (fun g => g.2.2 (by rw [HM.out]; omega) (by rw [HM'.out]; exact t3))), (EV.drewN nq).b⟩
            go_wp2_with (fail)
            go_quiet (fail)
            go_wp2_with (fail)
            go_roundw
            case rel => exact ⟨u + 1, by omega, by go_num, HO.out.up ⟨by rw [HM.out]; omega, by rw [HM.out]; omega, fun _ => by rw [HM'.out]; exact t3⟩, q + nq, by rw [← HV.out]; exact World.drewN_drewN _ _ _⟩
            case measure => simp [intOf]; omega
          have d2 : decide (0 < b.o.f u) = false := decide_eq_false t2
          go_wp2_with (fail)
          go_quiet (fail)
          go_wp2_with (fail)
          go_roundw
          case rel => exact ⟨u + 1, by omega, by go_num, HO.out.up ⟨by omega, by omega, fun h => by omega⟩, q + nq, by rw [← HV.out]; exact World.drewN_drewN _ _ _⟩
          case measure => simp [intOf]; omega
        · have eu : u = b.o.n := by omega
          have HB : Hid (OwnsP b b.o.n) := by unfold Hid; rw [← eu]; exact HO.out
          clear eu HO
          go_wp2_with (fail)
          go_ret
          exact ⟨Says.yes ⟨LP.out, HA.out, HB.out⟩, EV.b⟩

end Go.Proofs.YtoaopapnpndklaaDoor.Book

/- What a book is, by the specification. -/
namespace Go.Proofs.YtoaopapnpndklaaDoor.Book
open Go.ChangeShapes Go.WideShapes Go.ChangeAt Go.RowKit
open Go.Proofs.YtoaopapnpndklaaDoor.Aid Go.Proofs.YtoaopapnpndklaaDoor.Lst
set_option maxRecDepth 100000

def PagesP (b : Bx) (n : Nat) : Prop := ∀ q, q < n → PageP b q
def OkP (b : Bx) : Prop := SlotsP b ∧ ListsP b 4 ∧ PagesP b b.p.n
theorem PagesP.up {b : Bx} {n : Nat} (h : PagesP b n) (h1 : PageP b n) : PagesP b (n + 1) := fun j hj => by
  by_cases e : j = n
  · subst e; exact h1
  · exact h j (by omega)
theorem PageP.le {b : Bx} {q : Nat} (h : PageP b q) : b.p.f q ≤ 12 := by
  rcases h with h | ⟨m, h1, h2, _⟩ | h | h
  · have := h.1; omega
  · omega
  · have := h.1; omega
  · exact h.2.1

/- The numbers of a book are ints. -/
def Bx.Wf (b : Bx) : Prop := ∀ x ∈ b.lists, ∀ j, -9223372036854775808 ≤ x.f j ∧ x.f j ≤ 9223372036854775807
theorem Bx.Wf.p {b : Bx} (h : b.Wf) (j : Nat) : -9223372036854775808 ≤ b.p.f j ∧ b.p.f j ≤ 9223372036854775807 := h _ (by simp [Bx.lists]) j
theorem Bx.Wf.o {b : Bx} (h : b.Wf) (j : Nat) : -9223372036854775808 ≤ b.o.f j ∧ b.o.f j ≤ 9223372036854775807 := h _ (by simp [Bx.lists]) j
theorem Bx.hd_mem (b : Bx) (k : Nat) : b.hd k ∈ b.lists := by
  unfold Bx.hd
  repeat' split
  all_goals simp [Bx.lists]
theorem Bx.hd_total (b : Bx) (k : Nat) : (b.hd k).n ≤ b.total := by
  unfold Bx.hd Bx.total
  repeat' split
  all_goals omega

set_option maxRecDepth 100000 in
set_option maxHeartbeats 8000000 in
theorem sok_any (b : Bx) (w : World) (h : b.At w) (hn : b.total ≤ 1000000000) (hw : b.Wf) :
    Calls Tryd.prog 14 #[.agg b.cells.toArray] w fun e w' => Says e (OkP b) ∧ Below w.heap.size w w' := by
  have E := Ent.start h 29
  simp only [Bx.cells] at E ⊢
  go_enter Tryd.func14, Tryd.ntmps14
  go_wp2_with (fail)
  refine (slots_any b _ E.a hn (fun u => (hw.o u).1) (fun u => (hw.o u).2)).mono ?_
  rintro e w1 ⟨⟨r, rfl, hr⟩, hb⟩
  replace E := E.later hb
  clear hb
  obtain ⟨u0, u1, u2, u3, u4, u5, u6, u7, u8⟩ := nine E.r
  cases r
  · go_wp2_with (fail)
    go_ret
    exact ⟨Says.no (fun g => hr.f g.1), E.b⟩
  have SP : Hid (SlotsP b) := hr.t
  obtain ⟨l1, l2, l3, l4, l5, l6, l7⟩ := SP.out.1
  have g1 : b.o.n ≤ b.p.n * 8 := by omega
  have g2 : b.p.n * 8 ≤ b.o.n := by omega
  have g3 : b.p.n ≤ 6 := by omega
  have g4 : 1 ≤ b.p.n := by omega
  clear hr l1 l2 l3 l4 l5 l6 l7
  go_wp2_with (fail)
  refine (lists_any b _ E.a g1 g2 (by omega) g4 (fun k _ => by have := b.hd_total k; omega) (fun k _ j => (hw _ (b.hd_mem k) j).2)).mono ?_
  rintro e w2 ⟨⟨r, rfl, hr⟩, hb⟩
  replace E := E.later hb
  clear hb u0 u1 u2 u3 u4 u5 u6 u7 u8
  cases r
  · go_wp2_with (fail)
    go_ret
    exact ⟨Says.no (fun g => hr.f g.2.1), E.b⟩
  have LP : Hid (ListsP b 4) := hr.t
  have hd : Hid (∀ k, k < 4 → (b.hd k).n ≤ 1000) := fun k hk => by have := (LP.out k hk).1; omega
  clear hr
  go_wp2_with (fail)
  go_loopw [3] (fun i wr => ∃ q : Nat, q ≤ b.p.n ∧ i = .int .i64 q ∧ PagesP b q ∧ Ent w b wr) (fun i _ => b.p.n - (intOf i).toNat)
  case atStart => exact ⟨0, by omega, rfl, fun j h => absurd h (Nat.not_lt_zero _), E⟩
  case round =>
    obtain ⟨q, hq, rfl, hP, F⟩ := hrel
    have HP : Hid (PagesP b q) := hP
    clear hP E
    obtain ⟨u0, u1, u2, u3, u4, u5, u6, u7, u8⟩ := nine F.r
    by_cases lt : (q : Int) < b.p.n
    · go_wp2_with (fail)
      refine (page_any b q _ F.a (by omega) (by omega) (by omega) (by omega) (hw.p q).1 (hw.p q).2 (fun j hj => (HP.out j hj).le) hd.out).mono ?_
      rintro e w3 ⟨⟨r, rfl, hr⟩, hb⟩
      have G := F.later hb
      clear hb F u0 u1 u2 u3 u4 u5 u6 u7 u8
      cases r
      · go_wp2_with (fail)
        go_ret
        exact ⟨Says.no (fun g => hr.f (g.2.2 q (by omega))), G.b⟩
      · go_wp2_with (fail)
        go_roundw
        case rel => exact ⟨q + 1, by omega, by go_num, HP.out.up hr.t, G⟩
        case measure => simp [intOf]; omega
    · have eq : q = b.p.n := by omega
      have HA : Hid (PagesP b b.p.n) := by unfold Hid; rw [← eq]; exact HP.out
      clear eq
      go_wp2_with (fail)
      go_ret
      exact ⟨Says.yes ⟨SP.out, LP.out, HA.out⟩, F.b⟩

end Go.Proofs.YtoaopapnpndklaaDoor.Book

/- Whether two books are the same in all parts, of both. Conditions: at most 1,000,000,000 numbers a list. -/
namespace Go.Proofs.YtoaopapnpndklaaDoor.Book
open Go.ChangeShapes Go.WideShapes Go.ChangeAt Go.RowKit
open Go.Proofs.YtoaopapnpndklaaDoor.Aid Go.Proofs.YtoaopapnpndklaaDoor.Lst
set_option maxRecDepth 100000

def eqL (x y : Nat × (Nat → Int)) : Bool := decide (x.1 = y.1 ∧ ∀ j, j < x.1 → x.2 j = y.2 j)
def sameM (x y : Bm) : Bool := eqL x.h0 y.h0 && eqL x.h1 y.h1 && eqL x.h2 y.h2 && eqL x.h3 y.h3 && decide (x.s = y.s) && eqL x.p y.p && eqL x.o y.o && eqL x.i y.i && eqL x.e y.e

theorem ix4 (a0 a1 a2 a3 : Option Addr) (n0 c0 n1 c1 n2 c2 n3 c3 : Nat) : (∀ w : World, (Instr.index 23 (.agg #[.slice a0 n0 c0, .slice a1 n1 c1, .slice a2 n2 c2, .slice a3 n3 c3]) (.int .i64 0)).run Tryd.prog w = .ok (.slice a0 n0 c0) w) ∧
    (∀ w : World, (Instr.index 23 (.agg #[.slice a0 n0 c0, .slice a1 n1 c1, .slice a2 n2 c2, .slice a3 n3 c3]) (.int .i64 1)).run Tryd.prog w = .ok (.slice a1 n1 c1) w) ∧
    (∀ w : World, (Instr.index 23 (.agg #[.slice a0 n0 c0, .slice a1 n1 c1, .slice a2 n2 c2, .slice a3 n3 c3]) (.int .i64 2)).run Tryd.prog w = .ok (.slice a2 n2 c2) w) ∧
    (∀ w : World, (Instr.index 23 (.agg #[.slice a0 n0 c0, .slice a1 n1 c1, .slice a2 n2 c2, .slice a3 n3 c3]) (.int .i64 3)).run Tryd.prog w = .ok (.slice a3 n3 c3) w) :=
  ⟨fun _ => by kernel_rfl, fun _ => by kernel_rfl, fun _ => by kernel_rfl, fun _ => by kernel_rfl⟩

end Go.Proofs.YtoaopapnpndklaaDoor.Book

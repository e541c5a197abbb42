import Derived.Test.YtbipolfbkemmpaaDoorM3

/- What the specification asks of a page: no owners, rooms of a kind, whole pages, what follows. -/
namespace Go.Proofs.YtbipolfbkemmpaaDoor.Book
open Go.ChangeShapes Go.WideShapes Go.ChangeAt Go.RowKit
open Aid Lst
set_option maxRecDepth 100000

/- A bool that says whether. -/
def Tell (r : Bool) (P : Prop) : Prop := r = true ↔ P
theorem Tell.t {P : Prop} (h : Tell true P) : P := h.1 rfl
theorem Tell.f {P : Prop} (h : Tell false P) : ¬ P := fun p => Bool.noConfusion (h.2 p)
def Says (e : Ending) (P : Prop) : Prop := ∃ r, e = .returned (.bool r) ∧ Tell r P
theorem Says.yes {P : Prop} (h : P) : Says (.returned (.bool true)) P := ⟨true, rfl, ⟨fun _ => h, fun _ => rfl⟩⟩
theorem Says.no {P : Prop} (h : ¬ P) : Says (.returned (.bool false)) P := ⟨false, rfl, ⟨fun e => Bool.noConfusion e, fun e => absurd e h⟩⟩
theorem Says.dec {P Q : Prop} [Decidable P] (h : P ↔ Q) : Says (.returned (.bool (decide P))) Q := ⟨_, rfl, by unfold Tell; rw [decide_eq_true_iff]; exact h⟩
theorem Says.iff {e : Ending} {P Q : Prop} (h : Says e P) (i : P ↔ Q) : Says e Q := by obtain ⟨r, e, h⟩ := h; exact ⟨r, e, Iff.trans h i⟩
theorem Says.not {P : Prop} {r : Bool} (h : Tell r P) : Says (.returned (.bool (!r))) (¬ P) := ⟨_, rfl, by cases r; exact ⟨fun _ => h.f, fun _ => rfl⟩; exact ⟨fun e => Bool.noConfusion e, fun e => absurd h.t e⟩⟩

def FreeP (o : Nat → Int) (q fr : Nat) : Prop := ∀ u, fr ≤ u → u < 8 → ¬ 0 < o (q * 8 + u)

set_option maxHeartbeats 1000000 in
theorem free_any (b : Bx) (q fr : Nat) (w : World) (h : b.At w) (hq : (q + 1) * 8 ≤ b.o.n) (hn : b.o.n ≤ 1000) (hf : fr ≤ 8) :
    Calls Tryd.prog 60 #[.agg b.cells.toArray, .int .i64 q, .int .i64 fr] w fun e w' => Says e (FreeP b.o.f q fr) ∧ Below w.heap.size w w' := by
  have E := Ent.start h 26
  simp only [Bx.cells] at E ⊢
  go_enter Tryd.func60, Tryd.ntmps60
  go_wp2_with (fail)
  generalize w.alloc (.cells #[.int .i64 b.s, .slice b.p.a b.p.n b.p.c, .slice b.h0.a b.h0.n b.h0.c, .slice b.h1.a b.h1.n b.h1.c, .slice b.h2.a b.h2.n b.h2.c, .slice b.h3.a b.h3.n b.h3.c, .slice b.o.a b.o.n b.o.c, .slice b.i.a b.i.n b.i.c, .slice b.e.a b.e.n b.e.c] 26) = W at E ⊢
  obtain ⟨k, o, ea, hc⟩ := E.a.o.cells (by omega)
  obtain ⟨-, -, -, -, -, -, u6, -, -⟩ := nine E.r
  rw [ea] at u6
  clear ea
  go_loop [7] (fun i => ∃ u : Nat, fr ≤ u ∧ u ≤ 8 ∧ i = .int .i64 u ∧ ∀ j, fr ≤ j → j < u → ¬ 0 < b.o.f (q * 8 + j)) (fun i => 8 - (intOf i).toNat)
  case atStart => exact ⟨fr, by omega, hf, rfl, fun j h1 h2 => by omega⟩
  case round =>
    obtain ⟨u, hu0, hu, rfl, hj⟩ := hrel
    by_cases hlt : (u : Int) < 8
    · have c1 := hc (q * 8 + u) (by omega)
      have i1 : ((q : Int) * 8 + u) < b.o.n := by omega
      have i2 : ((q : Int) * 8 + u).toNat = q * 8 + u := by omega
      have HJ : Hid (∀ j, fr ≤ j → j < u → ¬ 0 < b.o.f (q * 8 + j)) := hj
      clear hc hj
      by_cases e : 0 < b.o.f (q * 8 + u)
      · go_wp2_with (fail)
        go_ret
        exact ⟨Says.no (fun h => h u hu0 (by omega) e), E.b⟩
      · go_wp2_with (fail)
        go_round
        case rel => exact ⟨u + 1, by omega, by omega, by go_num, fun j a c => (by
          by_cases e' : j = u
          · subst e'; exact e
          · exact HJ.out j a (by omega))⟩
        case measure => simp [intOf]; omega
    · obtain rfl : u = 8 := by omega
      go_wp2_with (fail)
      go_ret
      exact ⟨Says.yes (fun j a c => by have := hj j a c; omega), E.b⟩

def Bx.hd (b : Bx) (k : Nat) : Sx := if k = 0 then b.h0 else if k = 1 then b.h1 else if k = 2 then b.h2 else b.h3
theorem Bx.At.hd {b : Bx} {w : World} (h : b.At w) (k : Nat) : (b.hd k).At w := by
  unfold Bx.hd
  split
  · exact h.h0
  split
  · exact h.h1
  split
  · exact h.h2
  · exact h.h3
theorem Ent.hd {w : World} {b : Bx} {W : World} (h : Ent w b W) (k : Nat) (hk : k < 4) : W.cell? ⟨w.heap.size, 2 + k, none⟩ = some (.slice (b.hd k).a (b.hd k).n (b.hd k).c) := by
  obtain rfl | rfl | rfl | rfl : k = 0 ∨ k = 1 ∨ k = 2 ∨ k = 3 := by omega
  · exact h.r 2 _ rfl
  · exact h.r 3 _ rfl
  · exact h.r 4 _ rfl
  · exact h.r 5 _ rfl

def RoomU (o : Nat → Int) (x : Sx) (k : Nat) (q u : Nat) : Prop :=
  (0 < (u : Int) % sz k ∧ o (q * 8 + u) ≤ 0 ∧ cnt x.f ((q : Int) * 8 + u) x.n = 0) ∨
  ((u : Int) % sz k ≤ 0 ∧ ((0 < o (q * 8 + u) ∧ cnt x.f ((q : Int) * 8 + u) x.n = 0) ∨ (o (q * 8 + u) ≤ 0 ∧ cnt x.f ((q : Int) * 8 + u) x.n = 1)))
def HasU (o : Nat → Int) (k q u : Nat) : Prop := (u : Int) % sz k ≤ 0 ∧ 0 < o (q * 8 + u)
def Has (o : Nat → Int) (k q n : Nat) : Prop := ∃ u, u < n ∧ HasU o k q u
theorem Has.up {o : Nat → Int} {k q n : Nat} (h : Has o k q n) : Has o k q (n + 1) := by obtain ⟨u, h1, h2⟩ := h; exact ⟨u, by omega, h2⟩
theorem Has.down {o : Nat → Int} {k q n : Nat} (h : Has o k q (n + 1)) (hn : ¬ HasU o k q n) : Has o k q n := by
  obtain ⟨u, h1, h2⟩ := h
  by_cases e : u = n
  · subst e; exact absurd h2 hn
  · exact ⟨u, by omega, h2⟩
def RoomsP (o : Nat → Int) (x : Sx) (k : Nat) (q : Nat) : Prop := (∀ u, u < 8 → RoomU o x k q u) ∧ Has o k q 8

theorem sz_pos (k : Int) : 1 ≤ sz k ∧ sz k ≤ 8 := by simp only [sz]; repeat' split
                                                     all_goals omega

set_option maxHeartbeats 4000000 in
theorem rooms_any (b : Bx) (q k : Nat) (w : World) (h : b.At w) (hq : (q + 1) * 8 ≤ b.o.n) (hn : b.o.n ≤ 1000) (hk : k < 4) (hh : (b.hd k).n ≤ 1000) :
    Calls Tryd.prog 61 #[.agg b.cells.toArray, .int .i64 q, .int .i64 k] w fun e w' => Says e (RoomsP b.o.f (b.hd k) k q) ∧ Below w.heap.size w w' := by
  have E := Ent.start h 26
  simp only [Bx.cells] at E ⊢
  go_enter Tryd.func61, Tryd.ntmps61
  go_wp2_with (fail)
  generalize w.alloc (.cells #[.int .i64 b.s, .slice b.p.a b.p.n b.p.c, .slice b.h0.a b.h0.n b.h0.c, .slice b.h1.a b.h1.n b.h1.c, .slice b.h2.a b.h2.n b.h2.c, .slice b.h3.a b.h3.n b.h3.c, .slice b.o.a b.o.n b.o.c, .slice b.i.a b.i.n b.i.c, .slice b.e.a b.e.n b.e.c] 26) = W at E ⊢
  go_loopw [7, 8] (fun c i wr => ∃ (u m : Nat), u ≤ 8 ∧ m ≤ u ∧ i = .int .i64 u ∧ c = .int .i64 m ∧ (∀ j, j < u → RoomU b.o.f (b.hd k) k q j) ∧ (0 < m ↔ Has b.o.f k q u) ∧ Ent w b wr) (fun _ i _ => 8 - (intOf i).toNat)
  case atStart => exact ⟨0, 0, by omega, by omega, rfl, rfl, fun j h => by omega, ⟨fun h => by omega, fun ⟨j, h, _⟩ => absurd h (Nat.not_lt_zero _)⟩, E⟩
  case round =>
    obtain ⟨u, m, hu, hm, rfl, rfl, hj, he, F⟩ := hrel
    clear E
    by_cases hlt : (u : Int) < 8
    · obtain ⟨bk, o, ea, hc⟩ := F.a.o.cells (by omega)
      obtain ⟨-, -, -, -, -, -, u6, -, -⟩ := nine F.r
      have uh := F.hd k hk
      rw [ea] at u6
      clear ea
      have c1 := hc (q * 8 + u) (by omega)
      have i1 : ((q : Int) * 8 + u) < b.o.n := by omega
      have i2 : ((q : Int) * 8 + u).toNat = q * 8 + u := by omega
      have hkk : (k : Int) < 4 := by omega
      have HJ : Hid (∀ j, j < u → RoomU b.o.f (b.hd k) k q j) := hj
      have HE : Hid (0 < m ↔ Has b.o.f k q u) := he
      clear hc hj he
      go_wp2_with (fail)
      refine (in_any (b.hd k) ((q : Int) * 8 + u) wr (F.a.hd k) (by omega)).mono ?_
      rintro e w1 ⟨rfl, rfl⟩
      generalize hcn : cnt (b.hd k).f ((q : Int) * 8 + u) (b.hd k).n = cn
      have hcl : cn ≤ 1000 := by have := cnt_le (b.hd k).f ((q : Int) * 8 + u) (b.hd k).n; omega
      have HCN : Hid (cnt (b.hd k).f ((q : Int) * 8 + u) (b.hd k).n = cn) := hcn
      clear hcn
      go_wp2_with (fail)
      refine (size_any k (by omega) hkk _).mono ?_
      rintro e w2 ⟨rfl, hb⟩
      have G := F.later hb
      obtain ⟨bk, o, ea, hc⟩ := G.a.o.cells (by omega)
      obtain ⟨-, -, -, -, -, -, u6, -, -⟩ := nine G.r
      rw [ea] at u6
      clear ea
      have c1 := hc (q * 8 + u) (by omega)
      clear hc F hb
      obtain ⟨z1, z2⟩ := sz_pos k
      generalize hd : sz k = d at z1 z2 HE ⊢
      have HD : Hid (sz k = d) := hd
      clear hd
      obtain rfl | rfl | hc2 : cn = 0 ∨ cn = 1 ∨ 1 < cn := by omega
      · by_cases t : 0 < (u : Int) % d
        · by_cases o1 : 0 < b.o.f (q * 8 + u)
          · go_wp2_with (fail)
            go_ret
            exact ⟨Says.no (fun g => by have := g.1 u (by omega); unfold RoomU at this; rw [HD.out, HCN.out] at this; omega), G.b⟩
          · go_wp2_with (fail)
            go_roundw
            case rel => exact ⟨u + 1, m, by omega, by omega, by go_num, by go_num, fun j h => (by
              by_cases e' : j = u
              · subst e'; unfold RoomU; rw [HD.out, HCN.out]; omega
              · exact HJ.out j (by omega)), ⟨fun h => (HE.out.1 h).up, fun h => HE.out.2 (h.down (fun h => by unfold HasU at h; rw [HD.out] at h; omega))⟩, G⟩
            case measure => simp [intOf]; omega
        · by_cases o1 : 0 < b.o.f (q * 8 + u)
          · go_wp2_with (fail)
            go_roundw
            case rel => exact ⟨u + 1, m + 1, by omega, by omega, by go_num, by go_num, fun j h => (by
              by_cases e' : j = u
              · subst e'; unfold RoomU; rw [HD.out, HCN.out]; omega
              · exact HJ.out j (by omega)), ⟨fun h => ⟨u, Nat.lt_succ_self u, by unfold HasU; rw [HD.out]; exact ⟨by omega, o1⟩⟩, fun _ => by omega⟩, G⟩
            case measure => simp [intOf]; omega
          · go_wp2_with (fail)
            go_ret
            exact ⟨Says.no (fun g => by have := g.1 u (by omega); unfold RoomU at this; rw [HD.out, HCN.out] at this; omega), G.b⟩
      · by_cases t : 0 < (u : Int) % d
        · by_cases o1 : 0 < b.o.f (q * 8 + u)
          · go_wp2_with (fail)
            go_ret
            exact ⟨Says.no (fun g => by have := g.1 u (by omega); unfold RoomU at this; rw [HD.out, HCN.out] at this; omega), G.b⟩
          · go_wp2_with (fail)
            go_ret
            exact ⟨Says.no (fun g => by have := g.1 u (by omega); unfold RoomU at this; rw [HD.out, HCN.out] at this; omega), G.b⟩
        · by_cases o1 : 0 < b.o.f (q * 8 + u)
          · go_wp2_with (fail)
            go_ret
            exact ⟨Says.no (fun g => by have := g.1 u (by omega); unfold RoomU at this; rw [HD.out, HCN.out] at this; omega), G.b⟩
          · go_wp2_with (fail)
            go_roundw
            case rel => exact ⟨u + 1, m, by omega, by omega, by go_num, by go_num, fun j h => (by
              by_cases e' : j = u
              · subst e'; unfold RoomU; rw [HD.out, HCN.out]; omega
              · exact HJ.out j (by omega)), ⟨fun h => (HE.out.1 h).up, fun h => HE.out.2 (h.down (fun h => by unfold HasU at h; rw [HD.out] at h; omega))⟩, G⟩
            case measure => simp [intOf]; omega
      · by_cases t : 0 < (u : Int) % d
        · by_cases o1 : 0 < b.o.f (q * 8 + u)
          · go_wp2_with (fail)
            go_ret
            exact ⟨Says.no (fun g => by have := g.1 u (by omega); unfold RoomU at this; rw [HD.out, HCN.out] at this; omega), G.b⟩
          · go_wp2_with (fail)
            go_ret
            exact ⟨Says.no (fun g => by have := g.1 u (by omega); unfold RoomU at this; rw [HD.out, HCN.out] at this; omega), G.b⟩
        · by_cases o1 : 0 < b.o.f (q * 8 + u)
          · go_wp2_with (fail)
            go_ret
            exact ⟨Says.no (fun g => by have := g.1 u (by omega); unfold RoomU at this; rw [HD.out, HCN.out] at this; omega), G.b⟩
          · go_wp2_with (fail)
            go_ret
            exact ⟨Says.no (fun g => by have := g.1 u (by omega); unfold RoomU at this; rw [HD.out, HCN.out] at this; omega), G.b⟩
    · obtain rfl : u = 8 := by omega
      go_wp2_with (fail)
      go_ret
      exact ⟨Says.dec (P := (m : Int) > 0) ⟨fun h => ⟨hj, he.1 (by omega)⟩, fun g => by have := he.2 g.2; omega⟩, F.b⟩

def back (P : Nat → Int) : Nat → Nat
  | 0 => 0
  | n + 1 => if P (n + 1) = 7 then back P n else n + 1
theorem back_le (P : Nat → Int) : ∀ q, back P q ≤ q
  | 0 => Nat.le_refl _
  | n + 1 => by have := back_le P n; simp only [back]; split <;> omega
theorem back_stay {P : Nat → Int} {q : Nat} (h : q = 0 ∨ P q ≠ 7) : back P q = q := by
  cases q with
  | zero => rfl
  | succ n => simp only [back]; rw [if_neg (by rcases h with h | h; omega; exact h)]
theorem back_step {P : Nat → Int} {q : Nat} (h0 : 0 < q) (h : P q = 7) : back P q = back P (q - 1) := by
  cases q with
  | zero => omega
  | succ n => simp only [back, if_pos h]; rfl

def RestP (P o : Nat → Int) (q : Nat) : Prop := 8 < P (back P q) ∧ (q : Int) < back P q + P (back P q) - 8 ∧ FreeP o q 0

set_option maxRecDepth 100000 in
set_option maxHeartbeats 2000000 in
theorem rest_any (b : Bx) (q : Nat) (w : World) (h : b.At w) (hq : (q + 1) * 8 ≤ b.o.n) (hn : b.o.n ≤ 1000) (hp : q < b.p.n) (hpn : b.p.n ≤ 1000) (hP : ∀ j, j ≤ q → b.p.f j ≤ 12) :
    Calls Tryd.prog 62 #[.agg b.cells.toArray, .int .i64 q] w fun e w' => Says e (RestP b.p.f b.o.f q) ∧ Below w.heap.size w w' := by
  have E := Ent.start h 26
  simp only [Bx.cells] at E ⊢
  go_enter Tryd.func62, Tryd.ntmps62
  go_wp2_with (fail)
  generalize w.alloc (.cells #[.int .i64 b.s, .slice b.p.a b.p.n b.p.c, .slice b.h0.a b.h0.n b.h0.c, .slice b.h1.a b.h1.n b.h1.c, .slice b.h2.a b.h2.n b.h2.c, .slice b.h3.a b.h3.n b.h3.c, .slice b.o.a b.o.n b.o.c, .slice b.i.a b.i.n b.i.c, .slice b.e.a b.e.n b.e.c] 26) = W at E ⊢
  obtain ⟨k, o, ea, hc⟩ := E.a.p.cells (by omega)
  obtain ⟨u0, u1, u2, u3, u4, u5, u6, u7, u8⟩ := nine E.r
  rw [ea] at u1
  have EA : Hid (b.p.a = some ⟨k, o, none⟩) := ea
  clear ea
  go_loop [5] (fun i => ∃ p : Nat, p ≤ q ∧ i = .int .i64 p ∧ back b.p.f p = back b.p.f q) (fun i => (intOf i).toNat)
  case atStart => exact ⟨q, Nat.le_refl _, rfl, rfl⟩
  case round =>
    obtain ⟨p, hpq, rfl, hbk⟩ := hrel
    have c1 := hc p (by omega)
    have l1 := hP p hpq
    have i1 : (p : Int) < b.p.n := by omega
    have HB : Hid (back b.p.f p = back b.p.f q) := hbk
    clear hc hbk
    by_cases go : 0 < (p : Int) ∧ b.p.f p = 7
    · obtain ⟨g1, g2⟩ := go
      go_wp2_with (fail)
      go_round
      case rel => exact ⟨p - 1, by omega, by go_num, by rw [← HB.out, back_step (by omega) g2]⟩
      case measure => simp [intOf]; omega
    · have st : back b.p.f q = p := by rw [← HB.out]; exact back_stay (by omega)
      have ST : Hid (back b.p.f q = p) := st
      clear st
      by_cases t1 : 8 < b.p.f p
      · by_cases t2 : (q : Int) < p + b.p.f p - 8
        · by_cases g1 : 0 < (p : Int)
          · have g2 : ¬ b.p.f p = 7 := by omega
            go_wp2_with (fail)
            rw [← EA.out]
            refine (free_any b q 0 W E.a hq hn (by omega)).mono ?_
            rintro e w1 ⟨⟨r, rfl, hr⟩, hb⟩
            have F := E.later hb
            cases r
            · go_wp2_with (fail)
              go_ret
              exact ⟨Says.no (fun h => hr.f h.2.2), F.b⟩
            · go_wp2_with (fail)
              go_ret
              exact ⟨Says.yes (by unfold RestP; rw [ST.out]; exact ⟨t1, t2, hr.t⟩), F.b⟩
          · go_wp2_with (fail)
            rw [← EA.out]
            refine (free_any b q 0 W E.a hq hn (by omega)).mono ?_
            rintro e w1 ⟨⟨r, rfl, hr⟩, hb⟩
            have F := E.later hb
            cases r
            · go_wp2_with (fail)
              go_ret
              exact ⟨Says.no (fun h => hr.f h.2.2), F.b⟩
            · go_wp2_with (fail)
              go_ret
              exact ⟨Says.yes (by unfold RestP; rw [ST.out]; exact ⟨t1, t2, hr.t⟩), F.b⟩
        · by_cases g1 : 0 < (p : Int)
          · have g2 : ¬ b.p.f p = 7 := by omega
            go_wp2_with (fail)
            go_ret
            exact ⟨Says.no (fun h => by unfold RestP at h; rw [ST.out] at h; have := h.2.1; omega), E.b⟩
          · go_wp2_with (fail)
            go_ret
            exact ⟨Says.no (fun h => by unfold RestP at h; rw [ST.out] at h; have := h.2.1; omega), E.b⟩
      · by_cases g1 : 0 < (p : Int)
        · have g2 : ¬ b.p.f p = 7 := by omega
          go_wp2_with (fail)
          go_ret
          exact ⟨Says.no (fun h => by unfold RestP at h; rw [ST.out] at h; have := h.1; omega), E.b⟩
        · go_wp2_with (fail)
          go_ret
          exact ⟨Says.no (fun h => by unfold RestP at h; rw [ST.out] at h; have := h.1; omega), E.b⟩

def WideP (P o : Nat → Int) (np q : Nat) : Prop := 10 ≤ P q ∧ P q ≤ 12 ∧ (q : Int) + P q - 8 ≤ np ∧ ¬ o (q * 8) = 0 ∧ FreeP o q 1 ∧ ∀ j : Nat, 1 ≤ j → (j : Int) < P q - 8 → P (q + j) = 7

theorem wrap_low {x : Int} (h0 : -9223372036854775808 ≤ x) (h : x < -9223372036854775800) : IntKind.i64.wrap (x - 8) = x - 8 + 18446744073709551616 := by
  simp [IntKind.wrap, IntKind.signed, IntKind.bits]
  omega

set_option maxRecDepth 100000 in
set_option maxHeartbeats 2000000 in
theorem wide_any (b : Bx) (q : Nat) (w : World) (h : b.At w) (hq : (q + 1) * 8 ≤ b.o.n) (hn : b.o.n ≤ 1000) (hp : q < b.p.n) (hpn : b.p.n ≤ 1000) (hl : -9223372036854775808 ≤ b.p.f q) (hh : b.p.f q ≤ 9223372036854775807) :
    Calls Tryd.prog 63 #[.agg b.cells.toArray, .int .i64 q] w fun e w' => Says e (WideP b.p.f b.o.f b.p.n q) ∧ Below w.heap.size w w' := by
  obtain ⟨k, o, ea, hc⟩ := h.p.cells (by omega)
  obtain ⟨k', o', ea', hc'⟩ := h.o.cells (by omega)
  obtain ⟨bs, ⟨pa, pn, pc, pf⟩, h0, h1, h2, h3, ⟨oa, on, oc, of⟩, i_, e_⟩ := b
  simp only at ea ea' hq hn hp hpn hl hh hc hc'
  subst ea
  subst ea'
  have E : Ent w ⟨bs, ⟨some ⟨k, o, none⟩, pn, pc, pf⟩, h0, h1, h2, h3, ⟨some ⟨k', o', none⟩, on, oc, of⟩, i_, e_⟩ (w.alloc (.cells #[.int .i64 bs, .slice (some ⟨k, o, none⟩) pn pc, .slice h0.a h0.n h0.c, .slice h1.a h1.n h1.c, .slice h2.a h2.n h2.c, .slice h3.a h3.n h3.c, .slice (some ⟨k', o', none⟩) on oc, .slice i_.a i_.n i_.c, .slice e_.a e_.n e_.c] 26)) := Ent.start h 26
  have c1 := (Sx.At.cells E.a.p (by show 0 < pn; omega))
  have B1 := below1 w (.cells #[.int .i64 bs, .slice (some ⟨k, o, none⟩) pn pc, .slice h0.a h0.n h0.c, .slice h1.a h1.n h1.c, .slice h2.a h2.n h2.c, .slice h3.a h3.n h3.c, .slice (some ⟨k', o', none⟩) on oc, .slice i_.a i_.n i_.c, .slice e_.a e_.n e_.c] 26)
  have c1 : (w.alloc (.cells #[.int .i64 bs, .slice (some ⟨k, o, none⟩) pn pc, .slice h0.a h0.n h0.c, .slice h1.a h1.n h1.c, .slice h2.a h2.n h2.c, .slice h3.a h3.n h3.c, .slice (some ⟨k', o', none⟩) on oc, .slice i_.a i_.n i_.c, .slice e_.a e_.n e_.c] 26)).cell? ⟨k, o + q, none⟩ = some (.int .i64 (pf q)) := by
    have := hc q hp
    rw [B1.cell (p := ⟨k, o + q, none⟩) (World.block_lt_of_cell? w _ this)]; exact this
  have c2 : (w.alloc (.cells #[.int .i64 bs, .slice (some ⟨k, o, none⟩) pn pc, .slice h0.a h0.n h0.c, .slice h1.a h1.n h1.c, .slice h2.a h2.n h2.c, .slice h3.a h3.n h3.c, .slice (some ⟨k', o', none⟩) on oc, .slice i_.a i_.n i_.c, .slice e_.a e_.n e_.c] 26)).cell? ⟨k', o' + q * 8, none⟩ = some (.int .i64 (of (q * 8))) := by
    have := hc' (q * 8) (by omega)
    rw [B1.cell (p := ⟨k', o' + q * 8, none⟩) (World.block_lt_of_cell? w _ this)]; exact this
  have i1 : (q : Int) < pn := by omega
  have i2 : (q : Int) * 8 < on := by omega
  have i3 : ((q : Int) * 8).toNat = q * 8 := by omega
  simp only [Bx.cells]
  by_cases hw : 10 ≤ pf q ∧ pf q ≤ 12
  case neg =>
    by_cases lo : pf q < -9223372036854775800
    · have ew := wrap_low hl lo
      go_enter Tryd.func63, Tryd.ntmps63
      go_wp2_with (fail)
      go_ret
      exact ⟨Says.no (fun h => by have := h.1; have := h.2.1; omega), E.b⟩
    · by_cases l2 : pf q - 8 < 2
      · go_enter Tryd.func63, Tryd.ntmps63
        go_wp2_with (fail)
        go_ret
        exact ⟨Says.no (fun h => by have := h.1; have := h.2.1; omega), E.b⟩
      · have l4 : pf q - 8 > 4 := by omega
        go_enter Tryd.func63, Tryd.ntmps63
        go_wp2_with (fail)
        go_ret
        exact ⟨Says.no (fun h => by have := h.1; have := h.2.1; omega), E.b⟩
  obtain ⟨hw1, hw2⟩ := hw
  have l2 : ¬ pf q - 8 < 2 := by omega
  have l4 : ¬ pf q - 8 > 4 := by omega
  by_cases en : (q : Int) + (pf q - 8) > pn
  · go_enter Tryd.func63, Tryd.ntmps63
    go_wp2_with (fail)
    go_ret
    exact ⟨Says.no (fun h => by have := h.2.2.1; omega), E.b⟩
  by_cases ow : of (q * 8) = 0
  · go_enter Tryd.func63, Tryd.ntmps63
    go_wp2_with (fail)
    go_ret
    exact ⟨Says.no (fun h => h.2.2.2.1 ow), E.b⟩
  go_enter Tryd.func63, Tryd.ntmps63
  go_wp2_with (fail)
  refine (free_any ⟨bs, ⟨some ⟨k, o, none⟩, pn, pc, pf⟩, h0, h1, h2, h3, ⟨some ⟨k', o', none⟩, on, oc, of⟩, i_, e_⟩ q 1 _ E.a hq hn (by omega)).mono ?_
  rintro e w1 ⟨⟨r, rfl, hr⟩, hb⟩
  have F := E.later hb
  clear E c1 c2 hb
  cases r
  · go_wp2_with (fail)
    go_ret
    exact ⟨Says.no (fun h => hr.f h.2.2.2.2.1), F.b⟩
  go_wp2_with (fail)
  obtain ⟨-, u1, -, -, -, -, -, -, -⟩ := nine F.r
  go_loop [6] (fun i => ∃ n : Nat, 1 ≤ n ∧ (n : Int) ≤ pf q - 8 ∧ i = .int .i64 n ∧ ∀ j : Nat, 1 ≤ j → j < n → pf (q + j) = 7) (fun i => 4 - (intOf i).toNat)
  case atStart => exact ⟨1, Nat.le_refl _, by omega, rfl, fun j h1 h2 => by omega⟩
  case round =>
    obtain ⟨n, hn1, hn2, rfl, hj⟩ := hrel
    have HJ : Hid (∀ j : Nat, 1 ≤ j → j < n → pf (q + j) = 7) := hj
    clear hj
    by_cases lt : (n : Int) < pf q - 8
    · have c3 : w1.cell? ⟨k, o + (q + n), none⟩ = some (.int .i64 (pf (q + n))) := by
        have e := hc (q + n) (by omega)
        rw [F.b.cell (p := ⟨k, o + (q + n), none⟩) (World.block_lt_of_cell? w _ e)]; exact e
      have i4 : (q : Int) + n < pn := by omega
      have i5 : ((q : Int) + n).toNat = q + n := by omega
      by_cases e7 : pf (q + n) = 7
      · rw [e7] at c3
        have E7 : Hid (pf (q + n) = 7) := e7
        clear e7
        go_wp2_with (fail)
        go_round
        case rel => exact ⟨n + 1, by omega, by omega, by go_num, fun j a c => (by
          by_cases e : j = n
          · subst e; exact E7.out
          · exact HJ.out j a (by omega))⟩
        case measure => simp [intOf]; omega
      · go_wp2_with (fail)
        go_ret
        exact ⟨Says.no (fun h => e7 (h.2.2.2.2.2 n hn1 (by omega))), F.b⟩
    · go_wp2_with (fail)
      go_ret
      exact ⟨Says.yes ⟨hw1, hw2, by show (q : Int) + pf q - 8 ≤ pn; omega, ow, hr.t, fun j a c => HJ.out j a (by have : (j : Int) < pf q - 8 := c; omega)⟩, F.b⟩

end Go.Proofs.YtbipolfbkemmpaaDoor.Book

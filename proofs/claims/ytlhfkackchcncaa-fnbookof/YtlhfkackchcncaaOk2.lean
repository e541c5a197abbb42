/- What the specification asks of a page: no owners, rooms of a kind, whole pages, what follows. -/
import Derived.Test.YtlhfkackchcncaaM3
namespace Go.Proofs.Ytlhfkackchcncaa.Book
open Go.ChangeShapes Go.WideShapes Go.ChangeAt Go.RowKit
open Go.Proofs.Ytlhfkackchcncaa.Aid Go.Proofs.Ytlhfkackchcncaa.Lst
set_option maxRecDepth 100000

/- A bool that says whether. -/
def Tell (r : Bool) (P : Prop) : Prop := r = true ↔ P
theorem Tell.t {P : Prop} (h : Tell true P) : P := h.1 rfl
theorem Tell.f {P : Prop} (h : Tell false P) : ¬ P := fun p => Bool.noConfusion (h.2 p)
def Says (e : Ending) (P : Prop) : Prop := ∃ r, e = .returned (.bool r) ∧ Tell r P
theorem Says.yes {P : Prop} (h : P) : Says (.returned (.bool true)) P := ⟨true, rfl, ⟨fun _ => h, fun _ => rfl⟩⟩
theorem Says.no {P : Prop} (h : ¬ P) : Says (.returned (.bool false)) P := ⟨false, rfl, ⟨fun e => Bool.noConfusion e, fun e => absurd e h⟩⟩
theorem Says.dec {P Q : Prop} [Decidable P] (h : P ↔ Q) : Says (.returned (.bool (decide P))) Q := ⟨_, rfl, by unfold Tell; rw [decide_eq_true_iff]; exact h⟩
theorem Says.iff {e : Ending} {P Q : Prop} (h : Says e P) (i : P ↔ Q) : Says e Q := by obtain ⟨r, e, h⟩ := h; exact ⟨r, e, Iff.trans h i⟩
theorem Says.not {P : Prop} {r : Bool} (h : Tell r P) : Says (.returned (.bool (!r))) (¬ P) := ⟨_, rfl, by cases r; exact ⟨fun _ => h.f, fun _ => rfl⟩; exact ⟨fun e => Bool.noConfusion e, fun e => absurd h.t e⟩⟩

def FreeP (o : Nat → Int) (q fr : Nat) : Prop := ∀ u, fr ≤ u → u < 8 → ¬ 0 < o (q * 8 + u)

set_option maxHeartbeats 1000000 in
theorem free_any (b : Bx) (q fr : Nat) (w : World) (h : b.At w) (hq : (q + 1) * 8 ≤ b.o.n) (hn : b.o.n ≤ 1000) (hf : fr ≤ 8) :
    Calls Try.prog 31 #[.agg b.cells.toArray, .int .i64 q, .int .i64 fr] w fun e w' => Says e (FreeP b.o.f q fr) ∧ Below w.heap.size w w' := by
  have E := Ent.start h 26
  simp only [Bx.cells] at E ⊢
  go_enter Try.func31, Try.ntmps31
  go_wp2_with (fail)
  generalize w.alloc (.cells #[.int .i64 b.s, .slice b.p.a b.p.n b.p.c, .slice b.h0.a b.h0.n b.h0.c, .slice b.h1.a b.h1.n b.h1.c, .slice b.h2.a b.h2.n b.h2.c, .slice b.h3.a b.h3.n b.h3.c, .slice b.o.a b.o.n b.o.c, .slice b.i.a b.i.n b.i.c, .slice b.e.a b.e.n b.e.c] 26) = W at E ⊢
  obtain ⟨k, o, ea, hc⟩ := E.a.o.cells (by omega)
  obtain ⟨-, -, -, -, -, -, u6, -, -⟩ := nine E.r
  rw [ea] at u6
  clear ea
  go_loop [7] (fun i => ∃ u : Nat, fr ≤ u ∧ u ≤ 8 ∧ i = .int .i64 u ∧ ∀ j, fr ≤ j → j < u → ¬ 0 < b.o.f (q * 8 + j)) (fun i => 8 - (intOf i).toNat)
  case atStart => exact ⟨fr, by omega, hf, rfl, fun j h1 h2 => by omega⟩
  case round =>
    obtain ⟨u, hu0, hu, rfl, hj⟩ := hrel
    by_cases hlt : (u : Int) < 8
    · have c1 := hc (q * 8 + u) (by omega)
      have i1 : ((q : Int) * 8 + u) < b.o.n := by omega
      have i2 : ((q : Int) * 8 + u).toNat = q * 8 + u := by omega
      have HJ : Hid (∀ j, fr ≤ j → j < u → ¬ 0 < b.o.f (q * 8 + j)) := hj
      clear hc hj
      by_cases e : 0 < b.o.f (q * 8 + u)
      · go_wp2_with (fail)
        go_ret
        exact ⟨Says.no (fun h => h u hu0 (by omega) e), E.b⟩
      · go_wp2_with (fail)
        go_round
        case rel => exact ⟨u + 1, by omega, by omega, by go_num, fun j a c => (by
          by_cases e' : j = u
          · subst e'; exact e
          · exact HJ.out j a (by omega))⟩
        case measure => simp [intOf]; omega
    · obtain rfl : u = 8 := by omega
      go_wp2_with (fail)
      go_ret
      exact ⟨Says.yes (fun j a c => by have := hj j a c; omega), E.b⟩

def Bx.hd (b : Bx) (k : Nat) : Sx := if k = 0 then b.h0 else if k = 1 then b.h1 else if k = 2 then b.h2 else b.h3
theorem Bx.At.hd {b : Bx} {w : World} (h : b.At w) (k : Nat) : (b.hd k).At w := by
  unfold Bx.hd
  split
  · exact h.h0
  split
  · exact h.h1
  split
  · exact h.h2
  · exact h.h3
theorem Ent.hd {w : World} {b : Bx} {W : World} (h : Ent w b W) (k : Nat) (hk : k < 4) : W.cell? ⟨w.heap.size, 2 + k, none⟩ = some (.slice (b.hd k).a (b.hd k).n (b.hd k).c) := by
  obtain rfl | rfl | rfl | rfl : k = 0 ∨ k = 1 ∨ k = 2 ∨ k = 3 := by omega
  · exact h.r 2 _ rfl
  · exact h.r 3 _ rfl
  · exact h.r 4 _ rfl
  · exact h.r 5 _ rfl

def RoomU (o : Nat → Int) (x : Sx) (k : Nat) (q u : Nat) : Prop :=
  (0 < (u : Int) % sz k ∧ o (q * 8 + u) ≤ 0 ∧ cnt x.f ((q : Int) * 8 + u) x.n = 0) ∨
  ((u : Int) % sz k ≤ 0 ∧ ((0 < o (q * 8 + u) ∧ cnt x.f ((q : Int) * 8 + u) x.n = 0) ∨ (o (q * 8 + u) ≤ 0 ∧ cnt x.f ((q : Int) * 8 + u) x.n = 1)))
def HasU (o : Nat → Int) (k q u : Nat) : Prop := (u : Int) % sz k ≤ 0 ∧ 0 < o (q * 8 + u)
def Has (o : Nat → Int) (k q n : Nat) : Prop := ∃ u, u < n ∧ HasU o k q u
theorem Has.up {o : Nat → Int} {k q n : Nat} (h : Has o k q n) : Has o k q (n + 1) := by obtain ⟨u, h1, h2⟩ := h; exact ⟨u, by omega, h2⟩
theorem Has.down {o : Nat → Int} {k q n : Nat} (h : Has o k q (n + 1)) (hn : ¬ HasU o k q n) : Has o k q n := by
  obtain ⟨u, h1, h2⟩ := h
  by_cases e : u = n
  · subst e; exact absurd h2 hn
  · exact ⟨u, by omega, h2⟩
def RoomsP (o : Nat → Int) (x : Sx) (k : Nat) (q : Nat) : Prop := (∀ u, u < 8 → RoomU o x k q u) ∧ Has o k q 8

theorem sz_pos (k : Int) : 1 ≤ sz k ∧ sz k ≤ 8 := by simp only [sz]; repeat' split
                                                     all_goals omega

set_option maxHeartbeats 4000000 in
theorem rooms_any (b : Bx) (q k : Nat) (w : World) (h : b.At w) (hq : (q + 1) * 8 ≤ b.o.n) (hn : b.o.n ≤ 1000) (hk : k < 4) (hh : (b.hd k).n ≤ 1000) :
    Calls Try.prog 32 #[.agg b.cells.toArray, .int .i64 q, .int .i64 k] w fun e w' => Says e (RoomsP b.o.f (b.hd k) k q) ∧ Below w.heap.size w w' := by
  have E := Ent.start h 26
  simp only [Bx.cells] at E ⊢
  go_enter Try.func32, Try.ntmps32
  go_wp2_with (fail)
  generalize w.alloc (.cells #[.int .i64 b.s, .slice b.p.a b.p.n b.p.c, .slice b.h0.a b.h0.n b.h0.c, .slice b.h1.a b.h1.n b.h1.c, .slice b.h2.a b.h2.n b.h2.c, .slice b.h3.a b.h3.n b.h3.c, .slice b.o.a b.o.n b.o.c, .slice b.i.a b.i.n b.i.c, .slice b.e.a b.e.n b.e.c] 26) = W at E ⊢
  go_loopw [7, 8] (fun c i wr => ∃ (u m : Nat), u ≤ 8 ∧ m ≤ u ∧ i = .int .i64 u ∧ c = .int .i64 m ∧ (∀ j, j < u → RoomU b.o.f (b.hd k) k q j) ∧ (0 < m ↔ Has b.o.f k q u) ∧ Ent w b wr) (fun _ i _ => 8 - (intOf i).toNat)
  case atStart => exact ⟨0, 0, by omega, by omega, rfl, rfl, fun j h => by omega, ⟨fun h => by omega, fun ⟨j, h, _⟩ => absurd h (Nat.not_lt_zero _)⟩, E⟩
  case round =>
    obtain ⟨u, m, hu, hm, rfl, rfl, hj, he, F⟩ := hrel
    clear E
    by_cases hlt : (u : Int) < 8
    · obtain ⟨bk, o, ea, hc⟩ := F.a.o.cells (by omega)
      obtain ⟨-, -, -, -, -, -, u6, -, -⟩ := nine F.r
      have uh := F.hd k hk
      rw [ea] at u6
      clear ea
      have c1 := hc (q * 8 + u) (by omega)
      have i1 : ((q : Int) * 8 + u) < b.o.n := by omega
      have i2 : ((q : Int) * 8 + u).toNat = q * 8 + u := by omega
      have hkk : (k : Int) < 4 := by omega
      have HJ : Hid (∀ j, j < u → RoomU b.o.f (b.hd k) k q j) := hj
      have HE : Hid (0 < m ↔ Has b.o.f k q u) := he
      clear hc hj he
      go_wp2_with (fail)
      refine (in_any (b.hd k) ((q : Int) * 8 + u) wr (F.a.hd k) (by omega)).mono ?_
      rintro e w1 ⟨rfl, rfl⟩
      generalize hcn : cnt (b.hd k).f ((q : Int) * 8 + u) (b.hd k).n = cn
      have hcl : cn ≤ 1000 := by have := cnt_le (b.hd k).f ((q : Int) * 8 + u) (b.hd k).n; omega
      have HCN : Hid (cnt (b.hd k).f ((q : Int) * 8 + u) (b.hd k).n = cn) := hcn
      clear hcn
      go_wp2_with (fail)
      refine (size_any k (by omega) hkk _).mono ?_
      rintro e w2 ⟨rfl, hb⟩
      have G := F.later hb
      obtain ⟨bk, o, ea, hc⟩ := G.a.o.cells (by omega)
      obtain ⟨-, -, -, -, -, -, u6, -, -⟩ := nine G.r
      rw [ea] at u6
      clear ea
      have c1 := hc (q * 8 + u) (by omega)
      clear hc F hb
      obtain ⟨z1, z2⟩ := sz_pos k
      generalize hd : sz k = d at z1 z2 HE ⊢
      have HD : Hid (sz k = d) := hd
      clear hd
      obtain rfl | rfl | hc2 : cn = 0 ∨ cn = 1 ∨ 1 < cn := by omega
      · by_cases t : 0 < (u : Int) % d
        · by_cases o1 : 0 < b.o.f (q * 8 + u)
          · go_wp2_with (fail)
            go_ret
            exact ⟨Says.no (fun g => by have := g.1 u (by omega); unfold RoomU at this; rw [HD.out, HCN.out] at this; omega), G.b⟩
          · go_wp2_with (fail)
            go_roundw
            case rel => exact ⟨u + 1, m, by omega, by omega, by go_num, by go_num, fun j h => (by
              by_cases e' : j = u
              · subst e'; unfold RoomU; rw [HD.out, HCN.out]; omega
              · exact HJ.out j (by omega)), ⟨fun h => (HE.out.1 h).up, fun h => HE.out.2 (h.down (fun h => by unfold HasU at h; rw [HD.out] at h; omega))⟩, G⟩
            case measure => simp [intOf]; omega
        · by_cases o1 : 0 < b.o.f (q * 8 + u)
          · go_wp2_with (fail)
            go_roundw
            case rel => exact ⟨u + 1, m + 1, by omega, by omega, by go_num, by go_num, fun j h => (by
              by_cases e' : j = u
              · subst e'; unfold RoomU; rw [HD.out, HCN.out]; omega
              · exact HJ.out j (by omega)), ⟨fun h => ⟨u, Nat.lt_succ_self u, by unfold HasU; rw [HD.out]; exact ⟨by omega, o1⟩⟩, fun _ => by omega⟩, G⟩
            case measure => simp [intOf]; omega
          · go_wp2_with (fail)
            go_ret
            exact ⟨Says.no (fun g => by have := g.1 u (by omega); unfold RoomU at this; rw [HD.out, HCN.out] at this; omega), G.b⟩
      · by_cases t : 0 < (u : Int) % d
        · by_cases o1 : 0 < b.o.f (q * 8 + u)
          · go_wp2_with (fail)
            go_ret
            exact ⟨Says.no (fun g => by have := g.1 u (by omega); unfold RoomU at this; rw [HD.out, HCN.out] at this; omega), G.b⟩
          · go_wp2_with (fail)
            go_ret
            exact ⟨Says.no (fun g => by have := g.1 u (by omega); unfold RoomU at this; rw [HD.out, HCN.out] at this; omega), G.b⟩
        · by_cases o1 : 0 < b.o.f (q * 8 + u)
          · go_wp2_with (fail)
            go_ret
            exact ⟨Says.no (fun g => by have := g.1 u (by omega); unfold RoomU at this; rw [HD.out, HCN.out] at this; omega), G.b⟩
          · go_wp2_with (fail)
            go_roundw
            case rel => exact ⟨u + 1, m, by omega, by omega, by go_num, by go_num, fun j h => (by
              by_cases e' : j = u
              · subst e'; unfold RoomU; rw [HD.out, HCN.out]; omega
              · exact HJ.out j (by omega)), ⟨fun h => (HE.out.1 h).up, fun h => HE.out.2 (h.down (fun h => by unfold HasU at h; rw [HD.out] at h; omega))⟩, G⟩
            case measure => simp [intOf]; omega
      · by_cases t : 0 < (u : Int) % d
        · by_cases o1 : 0 < b.o.f (q * 8 + u)
          · go_wp2_with (fail)
            go_ret
            exact ⟨Says.no (fun g => by have := g.1 u (by omega); unfold RoomU at this; rw [HD.out, HCN.out] at this; omega), G.b⟩
          · go_wp2_with (fail)
            go_ret
            exact ⟨Says.no (fun g => by have := g.1 u (by omega); unfold RoomU at this; rw [HD.out, HCN.out] at this; omega), G.b⟩
        · by_cases o1 : 0 < b.o.f (q * 8 + u)
          · go_wp2_with (fail)
            go_ret
            exact ⟨Says.no (fun g => by have := g.1 u (by omega); unfold RoomU at this; rw [HD.out, HCN.out] at this; omega), G.b⟩
          · go_wp2_with (fail)
            go_ret
            exact ⟨Says.no (fun g => by have := g.1 u (by omega); unfold RoomU at this; rw [HD.out, HCN.out] at this; omega), G.b⟩
    · obtain rfl : u = 8 := by omega
      go_wp2_with (fail)
      go_ret
      exact ⟨Says.dec (P := (m : Int) > 0) ⟨fun h => ⟨hj, he.1 (by omega)⟩, fun g => by have := he.2 g.2; omega⟩, F.b⟩

end Go.Proofs.Ytlhfkackchcncaa.Book

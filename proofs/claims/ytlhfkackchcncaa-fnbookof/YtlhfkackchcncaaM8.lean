import Derived.Test.YtlhfkackchcncaaOk6
import Derived.Test.YtlhfkackchcncaaM2

/- What a book is, by the specification. -/
namespace Go.Proofs.Ytlhfkackchcncaa.Book
open Go.ChangeShapes Go.WideShapes Go.ChangeAt Go.RowKit
open Go.Proofs.Ytlhfkackchcncaa.Aid Go.Proofs.Ytlhfkackchcncaa.Lst
set_option maxRecDepth 100000

def PagesP (b : Bx) (n : Nat) : Prop := ∀ q, q < n → PageP b q
def OkP (b : Bx) : Prop := SlotsP b ∧ ListsP b 4 ∧ PagesP b b.p.n
theorem PagesP.up {b : Bx} {n : Nat} (h : PagesP b n) (h1 : PageP b n) : PagesP b (n + 1) := fun j hj => by
  by_cases e : j = n
  · subst e; exact h1
  · exact h j (by omega)
theorem PageP.le {b : Bx} {q : Nat} (h : PageP b q) : b.p.f q ≤ 12 := by
  rcases h with h | ⟨m, h1, h2, _⟩ | h | h
  · have := h.1; omega
  · omega
  · have := h.1; omega
  · exact h.2.1

/- The numbers of a book are ints. -/
def Bx.Wf (b : Bx) : Prop := ∀ x ∈ b.lists, ∀ j, -9223372036854775808 ≤ x.f j ∧ x.f j ≤ 9223372036854775807
theorem Bx.Wf.p {b : Bx} (h : b.Wf) (j : Nat) : -9223372036854775808 ≤ b.p.f j ∧ b.p.f j ≤ 9223372036854775807 := h _ (by simp [Bx.lists]) j
theorem Bx.Wf.o {b : Bx} (h : b.Wf) (j : Nat) : -9223372036854775808 ≤ b.o.f j ∧ b.o.f j ≤ 9223372036854775807 := h _ (by simp [Bx.lists]) j
theorem Bx.hd_mem (b : Bx) (k : Nat) : b.hd k ∈ b.lists := by
  unfold Bx.hd
  repeat' split
  all_goals simp [Bx.lists]
theorem Bx.hd_total (b : Bx) (k : Nat) : (b.hd k).n ≤ b.total := by
  unfold Bx.hd Bx.total
  repeat' split
  all_goals omega

set_option maxRecDepth 100000 in
set_option maxHeartbeats 8000000 in
theorem sok_any (b : Bx) (w : World) (h : b.At w) (hn : b.total ≤ 1000000000) (hw : b.Wf) :
    Calls Try.prog 6 #[.agg b.cells.toArray] w fun e w' => Says e (OkP b) ∧ Below w.heap.size w w' := by
  have E := Ent.start h 26
  simp only [Bx.cells] at E ⊢
  go_enter Try.func6, Try.ntmps6
  go_wp2_with (fail)
  refine (slots_any b _ E.a hn (fun u => (hw.o u).1) (fun u => (hw.o u).2)).mono ?_
  rintro e w1 ⟨⟨r, rfl, hr⟩, hb⟩
  replace E := E.later hb
  clear hb
  obtain ⟨u0, u1, u2, u3, u4, u5, u6, u7, u8⟩ := nine E.r
  cases r
  · go_wp2_with (fail)
    go_ret
    exact ⟨Says.no (fun g => hr.f g.1), E.b⟩
  have SP : Hid (SlotsP b) := hr.t
  obtain ⟨l1, l2, l3, l4, l5, l6, l7⟩ := SP.out.1
  have g1 : b.o.n ≤ b.p.n * 8 := by omega
  have g2 : b.p.n * 8 ≤ b.o.n := by omega
  have g3 : b.p.n ≤ 6 := by omega
  have g4 : 1 ≤ b.p.n := by omega
  clear hr l1 l2 l3 l4 l5 l6 l7
  go_wp2_with (fail)
  refine (lists_any b _ E.a g1 g2 (by omega) g4 (fun k _ => by have := b.hd_total k; omega) (fun k _ j => (hw _ (b.hd_mem k) j).2)).mono ?_
  rintro e w2 ⟨⟨r, rfl, hr⟩, hb⟩
  replace E := E.later hb
  clear hb u0 u1 u2 u3 u4 u5 u6 u7 u8
  cases r
  · go_wp2_with (fail)
    go_ret
    exact ⟨Says.no (fun g => hr.f g.2.1), E.b⟩
  have LP : Hid (ListsP b 4) := hr.t
  have hd : Hid (∀ k, k < 4 → (b.hd k).n ≤ 1000) := fun k hk => by have := (LP.out k hk).1; omega
  clear hr
  go_wp2_with (fail)
  go_loopw [3] (fun i wr => ∃ q : Nat, q ≤ b.p.n ∧ i = .int .i64 q ∧ PagesP b q ∧ Ent w b wr) (fun i _ => b.p.n - (intOf i).toNat)
  case atStart => exact ⟨0, by omega, rfl, fun j h => absurd h (Nat.not_lt_zero _), E⟩
  case round =>
    obtain ⟨q, hq, rfl, hP, F⟩ := hrel
    have HP : Hid (PagesP b q) := hP
    clear hP E
    obtain ⟨u0, u1, u2, u3, u4, u5, u6, u7, u8⟩ := nine F.r
    by_cases lt : (q : Int) < b.p.n
    · go_wp2_with (fail)
      refine (page_any b q _ F.a (by omega) (by omega) (by omega) (by omega) (hw.p q).1 (hw.p q).2 (fun j hj => (HP.out j hj).le) hd.out).mono ?_
      rintro e w3 ⟨⟨r, rfl, hr⟩, hb⟩
      have G := F.later hb
      clear hb F u0 u1 u2 u3 u4 u5 u6 u7 u8
      cases r
      · go_wp2_with (fail)
        go_ret
        exact ⟨Says.no (fun g => hr.f (g.2.2 q (by omega))), G.b⟩
      · go_wp2_with (fail)
        go_roundw
        case rel => exact ⟨q + 1, by omega, by go_num, HP.out.up hr.t, G⟩
        case measure => simp [intOf]; omega
    · have eq : q = b.p.n := by omega
      have HA : Hid (PagesP b b.p.n) := by unfold Hid; rw [← eq]; exact HP.out
      clear eq
      go_wp2_with (fail)
      go_ret
      exact ⟨Says.yes ⟨SP.out, LP.out, HA.out⟩, F.b⟩

end Go.Proofs.Ytlhfkackchcncaa.Book

/- Whether two books are the same in all parts, of both. Conditions: at most 1,000,000,000 numbers a list. -/
namespace Go.Proofs.Ytlhfkackchcncaa.Book
open Go.ChangeShapes Go.WideShapes Go.ChangeAt Go.RowKit
open Go.Proofs.Ytlhfkackchcncaa.Aid Go.Proofs.Ytlhfkackchcncaa.Lst
set_option maxRecDepth 100000

def eqL (x y : Nat × (Nat → Int)) : Bool := decide (x.1 = y.1 ∧ ∀ j, j < x.1 → x.2 j = y.2 j)
def sameM (x y : Bm) : Bool := eqL x.h0 y.h0 && eqL x.h1 y.h1 && eqL x.h2 y.h2 && eqL x.h3 y.h3 && decide (x.s = y.s) && eqL x.p y.p && eqL x.o y.o && eqL x.i y.i && eqL x.e y.e

theorem ix4 (a0 a1 a2 a3 : Option Addr) (n0 c0 n1 c1 n2 c2 n3 c3 : Nat) : (∀ w : World, (Instr.index 24 (.agg #[.slice a0 n0 c0, .slice a1 n1 c1, .slice a2 n2 c2, .slice a3 n3 c3]) (.int .i64 0)).run Try.prog w = .ok (.slice a0 n0 c0) w) ∧
    (∀ w : World, (Instr.index 24 (.agg #[.slice a0 n0 c0, .slice a1 n1 c1, .slice a2 n2 c2, .slice a3 n3 c3]) (.int .i64 1)).run Try.prog w = .ok (.slice a1 n1 c1) w) ∧
    (∀ w : World, (Instr.index 24 (.agg #[.slice a0 n0 c0, .slice a1 n1 c1, .slice a2 n2 c2, .slice a3 n3 c3]) (.int .i64 2)).run Try.prog w = .ok (.slice a2 n2 c2) w) ∧
    (∀ w : World, (Instr.index 24 (.agg #[.slice a0 n0 c0, .slice a1 n1 c1, .slice a2 n2 c2, .slice a3 n3 c3]) (.int .i64 3)).run Try.prog w = .ok (.slice a3 n3 c3) w) :=
  ⟨fun _ => by kernel_rfl, fun _ => by kernel_rfl, fun _ => by kernel_rfl, fun _ => by kernel_rfl⟩

end Go.Proofs.Ytlhfkackchcncaa.Book

/- What the specification asks of a room of whole pages, and of a page that follows. -/
import Derived.Test.YtipbijcmpbefpaaOk2
namespace Go.Proofs.Ytipbijcmpbefpaa.Book
open Go.ChangeShapes Go.WideShapes Go.ChangeAt Go.RowKit
open Go.Proofs.Ytipbijcmpbefpaa.Aid Go.Proofs.Ytipbijcmpbefpaa.Lst
set_option maxRecDepth 100000

def back (P : Nat → Int) : Nat → Nat
  | 0 => 0
  | n + 1 => if P (n + 1) = 7 then back P n else n + 1
theorem back_le (P : Nat → Int) : ∀ q, back P q ≤ q
  | 0 => Nat.le_refl _
  | n + 1 => by have := back_le P n; simp only [back]; split <;> omega
theorem back_stay {P : Nat → Int} {q : Nat} (h : q = 0 ∨ P q ≠ 7) : back P q = q := by
  cases q with
  | zero => rfl
  | succ n => simp only [back]; rw [if_neg (by rcases h with h | h; omega; exact h)]
theorem back_step {P : Nat → Int} {q : Nat} (h0 : 0 < q) (h : P q = 7) : back P q = back P (q - 1) := by
  cases q with
  | zero => omega
  | succ n => simp only [back, if_pos h]; rfl

def RestP (P o : Nat → Int) (q : Nat) : Prop := 8 < P (back P q) ∧ (q : Int) < back P q + P (back P q) - 8 ∧ FreeP o q 0

set_option maxRecDepth 100000 in
set_option maxHeartbeats 2000000 in
theorem rest_any (b : Bx) (q : Nat) (w : World) (h : b.At w) (hq : (q + 1) * 8 ≤ b.o.n) (hn : b.o.n ≤ 1000) (hp : q < b.p.n) (hpn : b.p.n ≤ 1000) (hP : ∀ j, j ≤ q → b.p.f j ≤ 12) :
    Calls Try.prog 82 #[.agg b.cells.toArray, .int .i64 q] w fun e w' => Says e (RestP b.p.f b.o.f q) ∧ Below w.heap.size w w' := by
  have E := Ent.start h 26
  simp only [Bx.cells] at E ⊢
  go_enter Try.func82, Try.ntmps82
  go_wp2_with (fail)
  generalize w.alloc (.cells #[.int .i64 b.s, .slice b.p.a b.p.n b.p.c, .slice b.h0.a b.h0.n b.h0.c, .slice b.h1.a b.h1.n b.h1.c, .slice b.h2.a b.h2.n b.h2.c, .slice b.h3.a b.h3.n b.h3.c, .slice b.o.a b.o.n b.o.c, .slice b.i.a b.i.n b.i.c, .slice b.e.a b.e.n b.e.c] 26) = W at E ⊢
  obtain ⟨k, o, ea, hc⟩ := E.a.p.cells (by omega)
  obtain ⟨u0, u1, u2, u3, u4, u5, u6, u7, u8⟩ := nine E.r
  rw [ea] at u1
  have EA : Hid (b.p.a = some ⟨k, o, none⟩) := ea
  clear ea
  go_loop [5] (fun i => ∃ p : Nat, p ≤ q ∧ i = .int .i64 p ∧ back b.p.f p = back b.p.f q) (fun i => (intOf i).toNat)
  case atStart => exact ⟨q, Nat.le_refl _, rfl, rfl⟩
  case round =>
    obtain ⟨p, hpq, rfl, hbk⟩ := hrel
    have c1 := hc p (by omega)
    have l1 := hP p hpq
    have i1 : (p : Int) < b.p.n := by omega
    have HB : Hid (back b.p.f p = back b.p.f q) := hbk
    clear hc hbk
    by_cases go : 0 < (p : Int) ∧ b.p.f p = 7
    · obtain ⟨g1, g2⟩ := go
      go_wp2_with (fail)
      go_round
      case rel => exact ⟨p - 1, by omega, by go_num, by rw [← HB.out, back_step (by omega) g2]⟩
      case measure => simp [intOf]; omega
    · have st : back b.p.f q = p := by rw [← HB.out]; exact back_stay (by omega)
      have ST : Hid (back b.p.f q = p) := st
      clear st
      by_cases t1 : 8 < b.p.f p
      · by_cases t2 : (q : Int) < p + b.p.f p - 8
        · by_cases g1 : 0 < (p : Int)
          · have g2 : ¬ b.p.f p = 7 := by omega
            go_wp2_with (fail)
            rw [← EA.out]
            refine (free_any b q 0 W E.a hq hn (by omega)).mono ?_
            rintro e w1 ⟨⟨r, rfl, hr⟩, hb⟩
            have F := E.later hb
            cases r
            · go_wp2_with (fail)
              go_ret
              exact ⟨Says.no (fun h => hr.f h.2.2), F.b⟩
            · go_wp2_with (fail)
              go_ret
              exact ⟨Says.yes (by unfold RestP; rw [ST.out]; exact ⟨t1, t2, hr.t⟩), F.b⟩
          · go_wp2_with (fail)
            rw [← EA.out]
            refine (free_any b q 0 W E.a hq hn (by omega)).mono ?_
            rintro e w1 ⟨⟨r, rfl, hr⟩, hb⟩
            have F := E.later hb
            cases r
            · go_wp2_with (fail)
              go_ret
              exact ⟨Says.no (fun h => hr.f h.2.2), F.b⟩
            · go_wp2_with (fail)
              go_ret
              exact ⟨Says.yes (by unfold RestP; rw [ST.out]; exact ⟨t1, t2, hr.t⟩), F.b⟩
        · by_cases g1 : 0 < (p : Int)
          · have g2 : ¬ b.p.f p = 7 := by omega
            go_wp2_with (fail)
            go_ret
            exact ⟨Says.no (fun h => by unfold RestP at h; rw [ST.out] at h; have := h.2.1; omega), E.b⟩
          · go_wp2_with (fail)
            go_ret
            exact ⟨Says.no (fun h => by unfold RestP at h; rw [ST.out] at h; have := h.2.1; omega), E.b⟩
      · by_cases g1 : 0 < (p : Int)
        · have g2 : ¬ b.p.f p = 7 := by omega
          go_wp2_with (fail)
          go_ret
          exact ⟨Says.no (fun h => by unfold RestP at h; rw [ST.out] at h; have := h.1; omega), E.b⟩
        · go_wp2_with (fail)
          go_ret
          exact ⟨Says.no (fun h => by unfold RestP at h; rw [ST.out] at h; have := h.1; omega), E.b⟩

def WideP (P o : Nat → Int) (np q : Nat) : Prop := 10 ≤ P q ∧ P q ≤ 12 ∧ (q : Int) + P q - 8 ≤ np ∧ ¬ o (q * 8) = 0 ∧ FreeP o q 1 ∧ ∀ j : Nat, 1 ≤ j → (j : Int) < P q - 8 → P (q + j) = 7

theorem wrap_low {x : Int} (h0 : -9223372036854775808 ≤ x) (h : x < -9223372036854775800) : IntKind.i64.wrap (x - 8) = x - 8 + 18446744073709551616 := by
  simp [IntKind.wrap, IntKind.signed, IntKind.bits]
  omega

set_option maxRecDepth 100000 in
set_option maxHeartbeats 2000000 in
theorem wide_any (b : Bx) (q : Nat) (w : World) (h : b.At w) (hq : (q + 1) * 8 ≤ b.o.n) (hn : b.o.n ≤ 1000) (hp : q < b.p.n) (hpn : b.p.n ≤ 1000) (hl : -9223372036854775808 ≤ b.p.f q) (hh : b.p.f q ≤ 9223372036854775807) :
    Calls Try.prog 83 #[.agg b.cells.toArray, .int .i64 q] w fun e w' => Says e (WideP b.p.f b.o.f b.p.n q) ∧ Below w.heap.size w w' := by
  obtain ⟨k, o, ea, hc⟩ := h.p.cells (by omega)
  obtain ⟨k', o', ea', hc'⟩ := h.o.cells (by omega)
  obtain ⟨bs, ⟨pa, pn, pc, pf⟩, h0, h1, h2, h3, ⟨oa, on, oc, of⟩, i_, e_⟩ := b
  simp only at ea ea' hq hn hp hpn hl hh hc hc'
  subst ea
  subst ea'
  have E : Ent w ⟨bs, ⟨some ⟨k, o, none⟩, pn, pc, pf⟩, h0, h1, h2, h3, ⟨some ⟨k', o', none⟩, on, oc, of⟩, i_, e_⟩ (w.alloc (.cells #[.int .i64 bs, .slice (some ⟨k, o, none⟩) pn pc, .slice h0.a h0.n h0.c, .slice h1.a h1.n h1.c, .slice h2.a h2.n h2.c, .slice h3.a h3.n h3.c, .slice (some ⟨k', o', none⟩) on oc, .slice i_.a i_.n i_.c, .slice e_.a e_.n e_.c] 26)) := Ent.start h 26
  have c1 := (Sx.At.cells E.a.p (by show 0 < pn; omega))
  have B1 := below1 w (.cells #[.int .i64 bs, .slice (some ⟨k, o, none⟩) pn pc, .slice h0.a h0.n h0.c, .slice h1.a h1.n h1.c, .slice h2.a h2.n h2.c, .slice h3.a h3.n h3.c, .slice (some ⟨k', o', none⟩) on oc, .slice i_.a i_.n i_.c, .slice e_.a e_.n e_.c] 26)
  have c1 : (w.alloc (.cells #[.int .i64 bs, .slice (some ⟨k, o, none⟩) pn pc, .slice h0.a h0.n h0.c, .slice h1.a h1.n h1.c, .slice h2.a h2.n h2.c, .slice h3.a h3.n h3.c, .slice (some ⟨k', o', none⟩) on oc, .slice i_.a i_.n i_.c, .slice e_.a e_.n e_.c] 26)).cell? ⟨k, o + q, none⟩ = some (.int .i64 (pf q)) := by
    have := hc q hp
    rw [B1.cell (p := ⟨k, o + q, none⟩) (World.block_lt_of_cell? w _ this)]; exact this
  have c2 : (w.alloc (.cells #[.int .i64 bs, .slice (some ⟨k, o, none⟩) pn pc, .slice h0.a h0.n h0.c, .slice h1.a h1.n h1.c, .slice h2.a h2.n h2.c, .slice h3.a h3.n h3.c, .slice (some ⟨k', o', none⟩) on oc, .slice i_.a i_.n i_.c, .slice e_.a e_.n e_.c] 26)).cell? ⟨k', o' + q * 8, none⟩ = some (.int .i64 (of (q * 8))) := by
    have := hc' (q * 8) (by omega)
    rw [B1.cell (p := ⟨k', o' + q * 8, none⟩) (World.block_lt_of_cell? w _ this)]; exact this
  have i1 : (q : Int) < pn := by omega
  have i2 : (q : Int) * 8 < on := by omega
  have i3 : ((q : Int) * 8).toNat = q * 8 := by omega
  simp only [Bx.cells]
  by_cases hw : 10 ≤ pf q ∧ pf q ≤ 12
  case neg =>
    by_cases lo : pf q < -9223372036854775800
    · have ew := wrap_low hl lo
      go_enter Try.func83, Try.ntmps83
      go_wp2_with (fail)
      go_ret
      exact ⟨Says.no (fun h => by have := h.1; have := h.2.1; omega), E.b⟩
    · by_cases l2 : pf q - 8 < 2
      · go_enter Try.func83, Try.ntmps83
        go_wp2_with (fail)
        go_ret
        exact ⟨Says.no (fun h => by have := h.1; have := h.2.1; omega), E.b⟩
      · have l4 : pf q - 8 > 4 := by omega
        go_enter Try.func83, Try.ntmps83
        go_wp2_with (fail)
        go_ret
        exact ⟨Says.no (fun h => by have := h.1; have := h.2.1; omega), E.b⟩
  obtain ⟨hw1, hw2⟩ := hw
  have l2 : ¬ pf q - 8 < 2 := by omega
  have l4 : ¬ pf q - 8 > 4 := by omega
  by_cases en : (q : Int) + (pf q - 8) > pn
  · go_enter Try.func83, Try.ntmps83
    go_wp2_with (fail)
    go_ret
    exact ⟨Says.no (fun h => by have := h.2.2.1; omega), E.b⟩
  by_cases ow : of (q * 8) = 0
  · go_enter Try.func83, Try.ntmps83
    go_wp2_with (fail)
    go_ret
    exact ⟨Says.no (fun h => h.2.2.2.1 ow), E.b⟩
  go_enter Try.func83, Try.ntmps83
  go_wp2_with (fail)
  refine (free_any ⟨bs, ⟨some ⟨k, o, none⟩, pn, pc, pf⟩, h0, h1, h2, h3, ⟨some ⟨k', o', none⟩, on, oc, of⟩, i_, e_⟩ q 1 _ E.a hq hn (by omega)).mono ?_
  rintro e w1 ⟨⟨r, rfl, hr⟩, hb⟩
  have F := E.later hb
  clear E c1 c2 hb
  cases r
  · go_wp2_with (fail)
    go_ret
    exact ⟨Says.no (fun h => hr.f h.2.2.2.2.1), F.b⟩
  go_wp2_with (fail)
  obtain ⟨-, u1, -, -, -, -, -, -, -⟩ := nine F.r
  go_loop [6] (fun i => ∃ n : Nat, 1 ≤ n ∧ (n : Int) ≤ pf q - 8 ∧ i = .int .i64 n ∧ ∀ j : Nat, 1 ≤ j → j < n → pf (q + j) = 7) (fun i => 4 - (intOf i).toNat)
  case atStart => exact ⟨1, Nat.le_refl _, by omega, rfl, fun j h1 h2 => by omega⟩
  case round =>
    obtain ⟨n, hn1, hn2, rfl, hj⟩ := hrel
    have HJ : Hid (∀ j : Nat, 1 ≤ j → j < n → pf (q + j) = 7) := hj
    clear hj
    by_cases lt : (n : Int) < pf q - 8
    · have c3 : w1.cell? ⟨k, o + (q + n), none⟩ = some (.int .i64 (pf (q + n))) := by
        have e := hc (q + n) (by omega)
        rw [F.b.cell (p := ⟨k, o + (q + n), none⟩) (World.block_lt_of_cell? w _ e)]; exact e
      have i4 : (q : Int) + n < pn := by omega
      have i5 : ((q : Int) + n).toNat = q + n := by omega
      by_cases e7 : pf (q + n) = 7
      · rw [e7] at c3
        have E7 : Hid (pf (q + n) = 7) := e7
        clear e7
        go_wp2_with (fail)
        go_round
        case rel => exact ⟨n + 1, by omega, by omega, by go_num, fun j a c => (by
          by_cases e : j = n
          · subst e; exact E7.out
          · exact HJ.out j a (by omega))⟩
        case measure => simp [intOf]; omega
      · go_wp2_with (fail)
        go_ret
        exact ⟨Says.no (fun h => e7 (h.2.2.2.2.2 n hn1 (by omega))), F.b⟩
    · go_wp2_with (fail)
      go_ret
      exact ⟨Says.yes ⟨hw1, hw2, by show (q : Int) + pf q - 8 ≤ pn; omega, ow, hr.t, fun j a c => HJ.out j a (by have : (j : Int) < pf q - 8 := c; omega)⟩, F.b⟩

end Go.Proofs.Ytipbijcmpbefpaa.Book

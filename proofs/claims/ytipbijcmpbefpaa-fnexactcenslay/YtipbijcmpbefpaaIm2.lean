/- What the program asks of the slots and the owners of a book. -/
import Derived.Test.YtipbijcmpbefpaaIm1
namespace Go.Proofs.Ytipbijcmpbefpaa.Book
open Go.ChangeShapes Go.WideShapes Go.ChangeAt Go.RowKit
open Go.Proofs.Ytipbijcmpbefpaa.Aid Go.Proofs.Ytipbijcmpbefpaa.Lst
set_option maxRecDepth 100000
set_option linter.unusedVariables false

set_option maxRecDepth 100000 in
set_option maxHeartbeats 4000000 in
theorem ins_any (b : Bx) (w : World) (h : b.At w) (hl : LensP b) :
    Calls Try.prog 36 #[.agg b.cells.toArray] w fun e w' => Says e (InsP b b.i.n) ∧ Below w.heap.size w w' := by
  obtain ⟨l1, l2, l3, l4, l5, l6, l7⟩ := hl
  obtain ⟨k, o, ea, hc⟩ := h.i.cells (by omega)
  obtain ⟨bs, p_, h0, h1, h2, h3, o_, ⟨ia, in_, ic, if_⟩, e_⟩ := b
  simp only at ea hc l1 l2 l3 l4 l5 l6 l7
  subst ea
  have E : Ent w ⟨bs, p_, h0, h1, h2, h3, o_, ⟨some ⟨k, o, none⟩, in_, ic, if_⟩, e_⟩ (w.alloc (.cells #[.int .i64 bs, .slice p_.a p_.n p_.c, .slice h0.a h0.n h0.c, .slice h1.a h1.n h1.c, .slice h2.a h2.n h2.c, .slice h3.a h3.n h3.c, .slice o_.a o_.n o_.c, .slice (some ⟨k, o, none⟩) in_ ic, .slice e_.a e_.n e_.c] 26)) := Ent.start h 26
  have n1 : in_ ≤ 4 := by omega
  have n2 : in_ ≤ e_.n := by omega
  have n3 : 1 ≤ in_ := by omega
  clear l1 l2 l3 l4 l5 l6 l7
  simp only [Bx.cells]
  go_enter Try.func36, Try.ntmps36
  go_wp2_with (fail)
  generalize w.alloc (.cells #[.int .i64 bs, .slice p_.a p_.n p_.c, .slice h0.a h0.n h0.c, .slice h1.a h1.n h1.c, .slice h2.a h2.n h2.c, .slice h3.a h3.n h3.c, .slice o_.a o_.n o_.c, .slice (some ⟨k, o, none⟩) in_ ic, .slice e_.a e_.n e_.c] 26) = W at E ⊢
  obtain ⟨-, -, -, -, -, -, -, -, u8⟩ := nine E.r
  obtain ⟨k2, o2, e2, he⟩ := E.a.e.cells (by show 0 < e_.n; omega)
  simp only at u8 e2 he
  rw [e2] at u8
  clear e2
  go_loop [9] (fun i => ∃ j : Nat, j ≤ in_ ∧ i = .int .i64 j ∧ InsP ⟨bs, p_, h0, h1, h2, h3, o_, ⟨some ⟨k, o, none⟩, in_, ic, if_⟩, e_⟩ j) (fun i => in_ - (intOf i).toNat)
  case atStart => exact ⟨0, by omega, rfl, fun j h => absurd h (Nat.not_lt_zero _)⟩
  case round =>
    obtain ⟨j, hj, rfl, hI⟩ := hrel
    have HI : Hid (InsP ⟨bs, p_, h0, h1, h2, h3, o_, ⟨some ⟨k, o, none⟩, in_, ic, if_⟩, e_⟩ j) := hI
    clear hI
    by_cases lt : (j : Int) < in_
    · have c1 : W.cell? ⟨k, o + j, none⟩ = some (.int .i64 (if_ j)) := by
        have e := hc j (by omega)
        rw [E.b.cell (p := ⟨k, o + j, none⟩) (World.block_lt_of_cell? w _ e)]; exact e
      have c2 := he j (by omega)
      have i2 : (j : Int) < e_.n := by omega
      have bad : Hid (¬ InU ⟨bs, p_, h0, h1, h2, h3, o_, ⟨some ⟨k, o, none⟩, in_, ic, if_⟩, e_⟩ j → ¬ InsP ⟨bs, p_, h0, h1, h2, h3, o_, ⟨some ⟨k, o, none⟩, in_, ic, if_⟩, e_⟩ in_) := fun g q => g (q j (by omega))
      clear hc he
      go_wp2_with (fail)
      refine (within_any (if_ j) 0 2 _).mono ?_
      rintro e w1 ⟨rfl, rfl⟩
      by_cases p1 : 0 ≤ if_ j ∧ if_ j ≤ 2
      case neg =>
        rw [decide_eq_false p1]
        go_wp2_with (fail)
        go_ret
        exact ⟨Says.no (bad.out (fun g => p1 ⟨g.1, g.2.1⟩)), E.b⟩
      rw [decide_eq_true p1]
      go_wp2_with (fail)
      refine (within_any (e_.f j) 0 4095 _).mono ?_
      rintro e w1 ⟨rfl, rfl⟩
      by_cases p2 : 0 ≤ e_.f j ∧ e_.f j ≤ 4095
      case neg =>
        rw [decide_eq_false p2]
        go_wp2_with (fail)
        go_ret
        exact ⟨Says.no (bad.out (fun g => p2 ⟨g.2.2.1, g.2.2.2.1⟩)), E.b⟩
      rw [decide_eq_true p2]
      have P1 : Hid (0 ≤ if_ j ∧ if_ j ≤ 2) := p1
      have P2 : Hid (0 ≤ e_.f j ∧ e_.f j ≤ 4095) := p2
      clear p1 p2
      by_cases p3 : if_ j = 0
      · go_wp2_with (fail)
        go_round
        case rel => exact ⟨j + 1, by omega, by go_num, HI.out.up ⟨P1.out.1, P1.out.2, P2.out.1, P2.out.2, fun _ => by show if_ j ≤ 0; omega⟩⟩
        case measure => simp [intOf]; omega
      · by_cases p4 : e_.f j = 0
        · go_wp2_with (fail)
          go_ret
          exact ⟨Says.no (bad.out (fun g => by have h1 : if_ j ≤ 0 := g.2.2.2.2 p4; have h2 : 0 ≤ if_ j := g.1; omega)), E.b⟩
        · have b3 : (if_ j != 0) = true := by simp [p3]
          have b4 : (e_.f j == 0) = false := by simp [p4]
          have P4 : Hid (¬ e_.f j = 0) := p4
          clear p3 p4
          go_wp2_with (fail)
          go_round
          case rel => exact ⟨j + 1, by omega, by go_num, HI.out.up ⟨P1.out.1, P1.out.2, P2.out.1, P2.out.2, fun h => absurd h P4.out⟩⟩
          case measure => simp [intOf]; omega
    · have ej : j = in_ := by omega
      have HA : Hid (InsP ⟨bs, p_, h0, h1, h2, h3, o_, ⟨some ⟨k, o, none⟩, in_, ic, if_⟩, e_⟩ in_) := by unfold Hid; rw [← ej]; exact HI.out
      clear ej HI
      go_wp2_with (fail)
      go_ret
      exact ⟨Says.yes HA.out, E.b⟩

set_option maxRecDepth 100000 in
set_option maxHeartbeats 4000000 in
theorem owns_any (b : Bx) (w : World) (h : b.At w) (hl : LensP b) :
    Calls Try.prog 37 #[.agg b.cells.toArray] w fun e w' => Says e (OwnsP b b.o.n) ∧ Below w.heap.size w w' := by
  obtain ⟨l1, l2, l3, l4, l5, l6, l7⟩ := hl
  obtain ⟨k, o, ea, hc⟩ := h.o.cells (by omega)
  obtain ⟨bs, p_, h0, h1, h2, h3, ⟨oa, on, oc, of⟩, i_, e_⟩ := b
  simp only at ea hc l1 l2 l3 l4 l5 l6 l7
  subst ea
  have E : Ent w ⟨bs, p_, h0, h1, h2, h3, ⟨some ⟨k, o, none⟩, on, oc, of⟩, i_, e_⟩ (w.alloc (.cells #[.int .i64 bs, .slice p_.a p_.n p_.c, .slice h0.a h0.n h0.c, .slice h1.a h1.n h1.c, .slice h2.a h2.n h2.c, .slice h3.a h3.n h3.c, .slice (some ⟨k, o, none⟩) on oc, .slice i_.a i_.n i_.c, .slice e_.a e_.n e_.c] 26)) := Ent.start h 26
  have n1 : bs ≤ i_.n := by omega
  have n2 : bs ≤ 4 := by omega
  have n3 : 1 ≤ bs := by omega
  have n4 : on ≤ 48 := by omega
  clear l1 l2 l3 l4 l5 l6 l7
  simp only [Bx.cells]
  go_enter Try.func37, Try.ntmps37
  go_wp2_with (fail)
  generalize w.alloc (.cells #[.int .i64 bs, .slice p_.a p_.n p_.c, .slice h0.a h0.n h0.c, .slice h1.a h1.n h1.c, .slice h2.a h2.n h2.c, .slice h3.a h3.n h3.c, .slice (some ⟨k, o, none⟩) on oc, .slice i_.a i_.n i_.c, .slice e_.a e_.n e_.c] 26) = W at E ⊢
  go_loopw [8] (fun i wr => ∃ u : Nat, u ≤ on ∧ i = .int .i64 u ∧ OwnsP ⟨bs, p_, h0, h1, h2, h3, ⟨some ⟨k, o, none⟩, on, oc, of⟩, i_, e_⟩ u ∧ Ent w ⟨bs, p_, h0, h1, h2, h3, ⟨some ⟨k, o, none⟩, on, oc, of⟩, i_, e_⟩ wr) (fun i _ => on - (intOf i).toNat)
  case atStart => exact ⟨0, by omega, rfl, fun j h => absurd h (Nat.not_lt_zero _), E⟩
  case round =>
    obtain ⟨u, hu, rfl, hI, F⟩ := hrel
    have HI : Hid (OwnsP ⟨bs, p_, h0, h1, h2, h3, ⟨some ⟨k, o, none⟩, on, oc, of⟩, i_, e_⟩ u) := hI
    clear hI E
    obtain ⟨u0, u1, u2, u3, u4, u5, u6, u7, u8⟩ := nine F.r
    simp only at u0 u1 u2 u3 u4 u5 u6 u7 u8
    by_cases lt : (u : Int) < on
    · have c1 : wr.cell? ⟨k, o + u, none⟩ = some (.int .i64 (of u)) := by
        have e := hc u (by omega)
        rw [F.b.cell (p := ⟨k, o + u, none⟩) (World.block_lt_of_cell? w _ e)]; exact e
      have bad : Hid (¬ OwnU ⟨bs, p_, h0, h1, h2, h3, ⟨some ⟨k, o, none⟩, on, oc, of⟩, i_, e_⟩ u → ¬ OwnsP ⟨bs, p_, h0, h1, h2, h3, ⟨some ⟨k, o, none⟩, on, oc, of⟩, i_, e_⟩ on) := fun g q => g (q u (by omega))
      clear hc
      go_wp2_with (fail)
      refine (within_any (of u) 0 bs _).mono ?_
      rintro e w1 ⟨rfl, rfl⟩
      by_cases p1 : 0 ≤ of u ∧ of u ≤ bs
      case neg =>
        rw [decide_eq_false p1]
        go_wp2_with (fail)
        go_ret
        exact ⟨Says.no (bad.out (fun g => p1 ⟨g.1, g.2.1⟩)), F.b⟩
      rw [decide_eq_true p1]
      obtain ⟨p11, p12⟩ := p1
      have P1 : Hid (0 ≤ of u ∧ of u ≤ bs) := ⟨p11, p12⟩
      by_cases p2 : of u = 0
      · go_wp2_with (fail)
        go_roundw
        case rel => exact ⟨u + 1, by omega, by go_num, HI.out.up ⟨P1.out.1, P1.out.2, fun h => by have h : 0 < of u := h; omega⟩, F⟩
        case measure => simp [intOf]; omega
      · go_wp2_with (fail)
        refine (isin_any ⟨bs, p_, h0, h1, h2, h3, ⟨some ⟨k, o, none⟩, on, oc, of⟩, i_, e_⟩ (of u - 1) _ F.a n1).mono ?_
        rintro e w2 ⟨⟨r, rfl, hr⟩, hb⟩
        have G := F.later hb
        clear hb F u0 u1 u2 u3 u4 u5 u6 u7 u8 c1
        cases r
        · go_wp2_with (fail)
          go_ret
          exact ⟨Says.no (bad.out (fun g => hr.f ⟨⟨by omega, by show of u - 1 < bs; omega⟩, g.2.2 (by show 0 < of u; omega)⟩)), G.b⟩
        · go_wp2_with (fail)
          go_roundw
          case rel => exact ⟨u + 1, by omega, by go_num, HI.out.up ⟨P1.out.1, P1.out.2, fun _ => hr.t.2⟩, G⟩
          case measure => simp [intOf]; omega
    · have ej : u = on := by omega
      have HA : Hid (OwnsP ⟨bs, p_, h0, h1, h2, h3, ⟨some ⟨k, o, none⟩, on, oc, of⟩, i_, e_⟩ on) := by unfold Hid; rw [← ej]; exact HI.out
      clear ej HI
      go_wp2_with (fail)
      go_ret
      exact ⟨Says.yes HA.out, F.b⟩

end Go.Proofs.Ytipbijcmpbefpaa.Book

/- What a book is, by the program: as by the specification. -/
import Derived.Test.YtlhfkackchcncaaM10
namespace Go.Proofs.Ytlhfkackchcncaa.Book
open Go.ChangeShapes Go.WideShapes Go.ChangeAt Go.RowKit
open Go.Proofs.Ytlhfkackchcncaa.Aid Go.Proofs.Ytlhfkackchcncaa.Lst
set_option maxRecDepth 100000
set_option linter.unusedVariables false

set_option maxRecDepth 100000 in
set_option maxHeartbeats 8000000 in
theorem pages_any (b : Bx) (w : World) (h : b.At w) (hl : LensP b) (h4 : Len4P b 4) (hb : NonNeg b) (hcap : b.o.n ≤ b.o.c) :
    Calls Try.prog 16 #[.agg b.cells.toArray] w fun e w' => Says e (ListsP b 4 ∧ PagesP b b.p.n) ∧ Below w.heap.size w w' := by
  have E : Ent w b (w.alloc (.cells #[.int .i64 b.s, .slice b.p.a b.p.n b.p.c, .slice b.h0.a b.h0.n b.h0.c, .slice b.h1.a b.h1.n b.h1.c, .slice b.h2.a b.h2.n b.h2.c, .slice b.h3.a b.h3.n b.h3.c, .slice b.o.a b.o.n b.o.c, .slice b.i.a b.i.n b.i.c, .slice b.e.a b.e.n b.e.c] 26)) := Ent.start h 26
  have L : Hid (LensP b) := hl
  obtain ⟨l1, l2, l3, l4, l5, l6, l7⟩ := hl
  have n1 : b.o.n ≤ b.p.n * 8 := by omega
  have n1' : b.p.n * 8 ≤ b.o.n := by omega
  have n2 : b.p.n ≤ 6 := by omega
  have n3 : b.o.n ≤ 48 := by omega
  have n4 : 1 ≤ b.p.n := by omega
  clear l1 l2 l3 l4 l5 l6 l7
  have H4 : Hid (Len4P b 4) := h4
  have HB : Hid (NonNeg b) := hb
  clear h4 hb
  simp only [Bx.cells]
  go_enter Try.func16, Try.ntmps16
  go_wp2_with (fail)
  generalize w.alloc (.cells #[.int .i64 b.s, .slice b.p.a b.p.n b.p.c, .slice b.h0.a b.h0.n b.h0.c, .slice b.h1.a b.h1.n b.h1.c, .slice b.h2.a b.h2.n b.h2.c, .slice b.h3.a b.h3.n b.h3.c, .slice b.o.a b.o.n b.o.c, .slice b.i.a b.i.n b.i.c, .slice b.e.a b.e.n b.e.c] 26) = W at E ⊢
  refine (bfree_any b W E.a L.out H4.out).mono ?_
  rintro e w1 ⟨hr, hbw⟩
  have F := E.later hbw
  have zW := E.lt
  clear E
  rcases hr with ⟨hL, k, hk, rfl, FK⟩ | ⟨hL, rfl⟩
  · have HL : Hid (ListsP b 4) := hL
    clear hL
    have hT : Hid (∀ u : Nat, 0 ≤ ((tmK b u 4 : Nat) : Int) ∧ ((tmK b u 4 : Nat) : Int) ≤ 1000) := fun u => by
      have := tmK_le b u H4.out n3 4 (Nat.le_refl _)
      omega
    have xa : (⟨some ⟨k, 0, none⟩, b.o.n, b.o.n, fun u => ((tmK b u 4 : Nat) : Int)⟩ : Sx).At w1 := FK.sl
    have XA : Hid ((⟨some ⟨k, 0, none⟩, b.o.n, b.o.n, fun u => ((tmK b u 4 : Nat) : Int)⟩ : Sx).At w1) := xa
    clear FK xa hbw
    go_wp2_with (fail)
    go_loopw [5] (fun i wr => ∃ q : Nat, q ≤ b.p.n ∧ i = .int .i64 q ∧ Inv b q ∧ Ent w b wr ∧ Below w1.heap.size w1 wr) (fun i _ => b.p.n - (intOf i).toNat)
    case atStart => exact ⟨0, by omega, rfl, inv_zero b, F, Below.refl _ _⟩
    case round =>
      obtain ⟨q, hq, rfl, hI, G, BW⟩ := hrel
      have HI : Hid (Inv b q) := hI
      clear hI F
      obtain ⟨u0, u1, u2, u3, u4, u5, u6, u7, u8⟩ := nine G.r
      by_cases lt : (q : Int) < b.p.n
      · go_wp2_with (fail)
        refine (span_any b q ⟨some ⟨k, 0, none⟩, b.o.n, b.o.n, fun u => ((tmK b u 4 : Nat) : Int)⟩ _ G.a (XA.out.later BW) (Nat.le_refl _) hT.out (by omega) n3 (by omega) n1 n1' n2 hcap).mono ?_
        rintro e w2 ⟨⟨r, rfl, hr⟩, hbw⟩
        have G1 := G.later hbw
        have BW1 := BW.trans (hbw.mono BW.size)
        clear hbw G BW u0 u1 u2 u3 u4 u5 u6 u7 u8
        rcases hr with ⟨rfl, hr⟩ | ⟨rfl, hr⟩ | ⟨rfl, h1, h2, h3⟩
        · have NI : Hid (Inv b (q + 1)) := inv_one HB.out n1' HL.out (by omega) HI.out hr
          clear hr
          go_wp2_with (fail)
          go_roundw
          case rel => exact ⟨q + 1, by omega, by go_num, NI.out, G1, BW1⟩
          case measure => simp [intOf]; omega
        · have e10 : 10 ≤ b.p.f q := hr.1
          have e12 : b.p.f q ≤ 12 := hr.2.1
          obtain ⟨n, hn⟩ : ∃ n : Nat, b.p.f q = n + 8 := ⟨(b.p.f q - 8).toNat, by omega⟩
          have en : q + n ≤ b.p.n := by have := hr.2.2.1; omega
          have NI : Hid (Inv b (q + n)) := inv_large HB.out n1' HI.out hr hn
          have n0 : 2 ≤ n := by omega
          have n9 : n ≤ 4 := by omega
          have z0 : ¬ ((n : Int) = 0) := by omega
          have z0' : ((n : Int) == 0) = false := by simp; omega
          have z0'' : (n == 0) = false := by simp; omega
          rw [hn, show ((n : Int) + 8 - 8) = n by omega]
          clear hr hn e10 e12
          go_wp2_with (fail)
          go_roundw
          case rel => exact ⟨q + n, by omega, by go_num, NI.out, G1, BW1⟩
          case measure => simp [intOf]; omega
        · have NO : Hid (¬ PagesP b b.p.n) := inv_none HB.out n1' HL.out (by omega) HI.out h1 h2 h3
          clear h1 h2 h3
          go_wp2_with (fail)
          go_ret
          exact ⟨Says.no (fun g => NO.out g.2), G1.b⟩
      · have eq : q = b.p.n := by omega
        have HA : Hid (PagesP b b.p.n) := by unfold Hid; rw [← eq]; exact HI.out.1
        clear eq
        go_wp2_with (fail)
        go_ret
        exact ⟨Says.yes ⟨HL.out, HA.out⟩, G.b⟩
  · have HL : Hid (¬ ListsP b 4) := hL
    clear hL
    go_wp2_with (fail)
    go_ret
    exact ⟨Says.no (fun g => HL.out g.1), F.b⟩

set_option maxRecDepth 100000 in
set_option maxHeartbeats 8000000 in
theorem ok_any (b : Bx) (w : World) (h : b.At w) (hn : b.total ≤ 1000000000) (hcap : b.o.n ≤ b.o.c) :
    Calls Try.prog 5 #[.agg b.cells.toArray] w fun e w' => Says e (OkP b) ∧ Below w.heap.size w w' := by
  have E : Ent w b (w.alloc (.cells #[.int .i64 b.s, .slice b.p.a b.p.n b.p.c, .slice b.h0.a b.h0.n b.h0.c, .slice b.h1.a b.h1.n b.h1.c, .slice b.h2.a b.h2.n b.h2.c, .slice b.h3.a b.h3.n b.h3.c, .slice b.o.a b.o.n b.o.c, .slice b.i.a b.i.n b.i.c, .slice b.e.a b.e.n b.e.c] 26)) := Ent.start h 26
  simp only [Bx.cells]
  go_enter Try.func5, Try.ntmps5
  go_wp2_with (fail)
  generalize w.alloc (.cells #[.int .i64 b.s, .slice b.p.a b.p.n b.p.c, .slice b.h0.a b.h0.n b.h0.c, .slice b.h1.a b.h1.n b.h1.c, .slice b.h2.a b.h2.n b.h2.c, .slice b.h3.a b.h3.n b.h3.c, .slice b.o.a b.o.n b.o.c, .slice b.i.a b.i.n b.i.c, .slice b.e.a b.e.n b.e.c] 26) = W at E ⊢
  refine (lens_any b W E.a hn).mono ?_
  rintro e w1 ⟨⟨r, rfl, hr⟩, hbw⟩
  replace E := E.later hbw
  clear hbw
  cases r
  · go_wp2_with (fail)
    go_ret
    exact ⟨Says.no (fun g => hr.f ⟨g.1.1, fun k hk => (g.2.1 k hk).1⟩), E.b⟩
  have L1 : Hid (LensP b) := hr.t.1
  have L4 : Hid (Len4P b 4) := hr.t.2
  clear hr
  obtain ⟨u0, u1, u2, u3, u4, u5, u6, u7, u8⟩ := nine E.r
  go_wp2_with (fail)
  refine (ins_any b _ E.a L1.out).mono ?_
  rintro e w2 ⟨⟨r, rfl, hr⟩, hbw⟩
  replace E := E.later hbw
  clear hbw u0 u1 u2 u3 u4 u5 u6 u7 u8
  cases r
  · go_wp2_with (fail)
    go_ret
    exact ⟨Says.no (fun g => hr.f g.1.2.1), E.b⟩
  have L2 : Hid (InsP b b.i.n) := hr.t
  clear hr
  obtain ⟨u0, u1, u2, u3, u4, u5, u6, u7, u8⟩ := nine E.r
  go_wp2_with (fail)
  refine (owns_any b _ E.a L1.out).mono ?_
  rintro e w3 ⟨⟨r, rfl, hr⟩, hbw⟩
  replace E := E.later hbw
  clear hbw u0 u1 u2 u3 u4 u5 u6 u7 u8
  cases r
  · go_wp2_with (fail)
    go_ret
    exact ⟨Says.no (fun g => hr.f g.1.2.2), E.b⟩
  have L3 : Hid (OwnsP b b.o.n) := hr.t
  clear hr
  obtain ⟨u0, u1, u2, u3, u4, u5, u6, u7, u8⟩ := nine E.r
  go_wp2_with (fail)
  refine (pages_any b _ E.a L1.out L4.out (fun u hu => (L3.out u hu).1) hcap).mono ?_
  rintro e w4 ⟨⟨r, rfl, hr⟩, hbw⟩
  replace E := E.later hbw
  clear hbw u0 u1 u2 u3 u4 u5 u6 u7 u8
  go_wp2_with (fail)
  go_ret
  refine ⟨⟨r, rfl, ?_⟩, E.b⟩
  exact Iff.trans hr ⟨fun g => ⟨⟨L1.out, L2.out, L3.out⟩, g.1, g.2⟩, fun g => ⟨g.2.1, g.2.2⟩⟩

end Go.Proofs.Ytlhfkackchcncaa.Book

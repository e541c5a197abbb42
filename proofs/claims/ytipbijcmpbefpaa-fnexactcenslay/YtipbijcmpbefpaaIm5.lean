/- How many pages that belong together begin at a page, by the program. -/
import Derived.Test.YtipbijcmpbefpaaIm4
namespace Go.Proofs.Ytipbijcmpbefpaa.Book
open Go.ChangeShapes Go.WideShapes Go.ChangeAt Go.RowKit
open Go.Proofs.Ytipbijcmpbefpaa.Aid Go.Proofs.Ytipbijcmpbefpaa.Lst
set_option maxRecDepth 100000
set_option linter.unusedVariables false

def SpanR (b : Bx) (T : Nat → Int) (q : Nat) (r : Int) : Prop :=
  (r = 1 ∧ ((b.p.f q = 0 ∧ ownC b.o.f (q * 8) 8 = 0) ∨ ∃ m : Nat, m < 4 ∧ b.p.f q = m + 1 ∧ RoomsI b T q m)) ∨
  (r = b.p.f q - 8 ∧ LargeI b.p.f b.o.f b.p.n q) ∨
  (r = 0 ∧ ¬ (b.p.f q = 0 ∧ ownC b.o.f (q * 8) 8 = 0) ∧ (∀ m : Nat, m < 4 → b.p.f q = m + 1 → ¬ RoomsI b T q m) ∧ ¬ LargeI b.p.f b.o.f b.p.n q)

set_option maxRecDepth 100000 in
set_option maxHeartbeats 8000000 in
theorem span_any (b : Bx) (q : Nat) (x : Sx) (w : World) (h : b.At w) (hx : x.At w) (hxn : b.o.n ≤ x.n) (hT : ∀ u, 0 ≤ x.f u ∧ x.f u ≤ 1000)
    (hq : (q + 1) * 8 ≤ b.o.n) (hn : b.o.n ≤ 48) (hp : q < b.p.n) (hon : b.o.n ≤ b.p.n * 8) (hon' : b.p.n * 8 ≤ b.o.n) (hpn : b.p.n ≤ 6) (hcap : b.o.n ≤ b.o.c) :
    Calls Try.prog 77 #[.agg b.cells.toArray, .int .i64 q, .slice x.a x.n x.c] w fun e w' => (∃ r, e = .returned (.int .i64 r) ∧ SpanR b x.f q r) ∧ Below w.heap.size w w' := by
  obtain ⟨k, o, ea, hc⟩ := h.p.cells (by omega)
  obtain ⟨bs, ⟨pa, pn, pc, pf⟩, h0, h1, h2, h3, o_, i_, e_⟩ := b
  simp only at ea hc hxn hq hn hp hon hon' hpn hcap
  subst ea
  have E : Ent w ⟨bs, ⟨some ⟨k, o, none⟩, pn, pc, pf⟩, h0, h1, h2, h3, o_, i_, e_⟩ (w.alloc (.cells #[.int .i64 bs, .slice (some ⟨k, o, none⟩) pn pc, .slice h0.a h0.n h0.c, .slice h1.a h1.n h1.c, .slice h2.a h2.n h2.c, .slice h3.a h3.n h3.c, .slice o_.a o_.n o_.c, .slice i_.a i_.n i_.c, .slice e_.a e_.n e_.c] 26)) := Ent.start h 26
  have i1 : (q : Int) < pn := by omega
  have c1 : (w.alloc (.cells #[.int .i64 bs, .slice (some ⟨k, o, none⟩) pn pc, .slice h0.a h0.n h0.c, .slice h1.a h1.n h1.c, .slice h2.a h2.n h2.c, .slice h3.a h3.n h3.c, .slice o_.a o_.n o_.c, .slice i_.a i_.n i_.c, .slice e_.a e_.n e_.c] 26)).cell? ⟨k, o + q, none⟩ = some (.int .i64 (pf q)) := by
    have e := hc q (by omega)
    rw [(below1 w _).cell (p := ⟨k, o + q, none⟩) (World.block_lt_of_cell? w _ e)]; exact e
  clear hc
  simp only [Bx.cells]
  by_cases p0 : pf q = 0
  · rw [p0] at c1
    have P0 : Hid (pf q = 0) := p0
    clear p0
    go_enter Try.func77, Try.ntmps77
    go_wp2_with (fail)
    generalize w.alloc (.cells #[.int .i64 bs, .slice (some ⟨k, o, none⟩) pn pc, .slice h0.a h0.n h0.c, .slice h1.a h1.n h1.c, .slice h2.a h2.n h2.c, .slice h3.a h3.n h3.c, .slice o_.a o_.n o_.c, .slice i_.a i_.n i_.c, .slice e_.a e_.n e_.c] 26) = W at E ⊢
    clear c1
    refine (owners_any ⟨bs, ⟨some ⟨k, o, none⟩, pn, pc, pf⟩, h0, h1, h2, h3, o_, i_, e_⟩ q _ E.a hq (by show o_.n ≤ 1000; omega) hcap).mono ?_
    rintro e w1 ⟨rfl, hb⟩
    replace E := E.later hb
    clear hb
    simp only
    generalize hc : ownC o_.f (q * 8) 8 = c
    have HC : Hid (ownC o_.f (q * 8) 8 = c) := hc
    clear hc
    by_cases c0 : c = 0
    · subst c0
      go_wp2_with (fail)
      go_ret
      exact ⟨⟨1, rfl, .inl ⟨rfl, .inl ⟨P0.out, HC.out⟩⟩⟩, E.b⟩
    · have c0' : ((c : Int) == 0) = false := by simp; omega
      have c0'' : (c == 0) = false := by simp; omega
      have C0 : Hid (¬ c = 0) := c0
      clear c0
      go_wp2_with (fail)
      refine (within_any 0 1 4 _).mono ?_
      rintro e w2 ⟨rfl, rfl⟩
      obtain ⟨u0, u1, u2, u3, u4, u5, u6, u7, u8⟩ := nine E.r
      simp only at u0 u1 u2 u3 u4 u5 u6 u7 u8
      go_wp2_with (fail)
      refine (large_any ⟨bs, ⟨some ⟨k, o, none⟩, pn, pc, pf⟩, h0, h1, h2, h3, o_, i_, e_⟩ q _ E.a hq hn hp hon hon' hpn hcap).mono ?_
      rintro e w3 ⟨⟨r, rfl, hr⟩, hb⟩
      have G := E.later hb
      cases r
      · go_wp2_with (fail)
        go_ret
        exact ⟨⟨0, rfl, .inr (.inr ⟨rfl, fun g => C0.out (by rw [← HC.out]; exact g.2), fun m _ g => by have e : pf q = m + 1 := g; have := P0.out; omega, hr.f⟩)⟩, G.b⟩
      · exact absurd hr.t.1 (by show ¬ 10 ≤ pf q; rw [P0.out]; decide)
  by_cases p4 : 1 ≤ pf q ∧ pf q ≤ 4
  · obtain ⟨m, hm⟩ : ∃ m : Nat, pf q = m + 1 := ⟨(pf q - 1).toNat, by omega⟩
    have hm4 : m < 4 := by omega
    have HM : Hid (pf q = m + 1) := hm
    have p4' : 1 ≤ (m : Int) + 1 ∧ (m : Int) + 1 ≤ 4 := by omega
    rw [hm] at c1
    have q0 : ¬ (m : Int) + 1 = 0 := by omega
    have q0' : ((m : Int) + 1 == 0) = false := by simp; omega
    clear p0 p4 hm
    go_enter Try.func77, Try.ntmps77
    go_wp2_with (fail)
    generalize w.alloc (.cells #[.int .i64 bs, .slice (some ⟨k, o, none⟩) pn pc, .slice h0.a h0.n h0.c, .slice h1.a h1.n h1.c, .slice h2.a h2.n h2.c, .slice h3.a h3.n h3.c, .slice o_.a o_.n o_.c, .slice i_.a i_.n i_.c, .slice e_.a e_.n e_.c] 26) = W at E ⊢
    clear c1
    refine (within_any ((m : Int) + 1) 1 4 _).mono ?_
    rintro e w1 ⟨rfl, rfl⟩
    rw [decide_eq_true p4']
    obtain ⟨u0, u1, u2, u3, u4, u5, u6, u7, u8⟩ := nine E.r
    simp only at u0 u1 u2 u3 u4 u5 u6 u7 u8
    go_wp2_with (fail)
    refine (roomsok_any ⟨bs, ⟨some ⟨k, o, none⟩, pn, pc, pf⟩, h0, h1, h2, h3, o_, i_, e_⟩ q m x _ E.a (hx.later E.b) hxn hT HM.out hm4 hq hn hp hon hpn hcap).mono ?_
    rintro e w2 ⟨⟨r, rfl, hr⟩, hb⟩
    have F := E.later hb
    clear hb E u0 u1 u2 u3 u4 u5 u6 u7 u8
    cases r
    · obtain ⟨u0, u1, u2, u3, u4, u5, u6, u7, u8⟩ := nine F.r
      simp only at u0 u1 u2 u3 u4 u5 u6 u7 u8
      go_wp2_with (fail)
      refine (large_any ⟨bs, ⟨some ⟨k, o, none⟩, pn, pc, pf⟩, h0, h1, h2, h3, o_, i_, e_⟩ q _ F.a hq hn hp hon hon' hpn hcap).mono ?_
      rintro e w3 ⟨⟨r2, rfl, hr2⟩, hb⟩
      have G := F.later hb
      cases r2
      · go_wp2_with (fail)
        go_ret
        refine ⟨⟨0, rfl, .inr (.inr ⟨rfl, fun g => ?_, fun m' _ g => ?_, hr2.f⟩)⟩, G.b⟩
        · have e : pf q = 0 := g.1
          have := HM.out
          omega
        · have e : pf q = m' + 1 := g
          have := HM.out
          obtain rfl : m' = m := by omega
          exact hr.f
      · exact absurd hr2.t.1 (by show ¬ 10 ≤ pf q; rw [HM.out]; omega)
    · go_wp2_with (fail)
      go_ret
      exact ⟨⟨1, rfl, .inl ⟨rfl, .inr ⟨m, hm4, HM.out, hr.t⟩⟩⟩, F.b⟩
  · have q0' : (pf q == 0) = false := by simp [p0]
    have N0 : Hid (¬ pf q = 0) := p0
    have N4 : Hid (¬ (1 ≤ pf q ∧ pf q ≤ 4)) := p4
    have p4d := decide_eq_false p4
    clear p0 p4
    go_enter Try.func77, Try.ntmps77
    go_wp2_with (fail)
    generalize w.alloc (.cells #[.int .i64 bs, .slice (some ⟨k, o, none⟩) pn pc, .slice h0.a h0.n h0.c, .slice h1.a h1.n h1.c, .slice h2.a h2.n h2.c, .slice h3.a h3.n h3.c, .slice o_.a o_.n o_.c, .slice i_.a i_.n i_.c, .slice e_.a e_.n e_.c] 26) = W at E ⊢
    clear c1
    refine (within_any (pf q) 1 4 _).mono ?_
    rintro e w1 ⟨rfl, rfl⟩
    rw [p4d]
    obtain ⟨u0, u1, u2, u3, u4, u5, u6, u7, u8⟩ := nine E.r
    simp only at u0 u1 u2 u3 u4 u5 u6 u7 u8
    go_wp2_with (fail)
    refine (large_any ⟨bs, ⟨some ⟨k, o, none⟩, pn, pc, pf⟩, h0, h1, h2, h3, o_, i_, e_⟩ q _ E.a hq hn hp hon hon' hpn hcap).mono ?_
    rintro e w3 ⟨⟨r2, rfl, hr2⟩, hb⟩
    have G := E.later hb
    cases r2
    · go_wp2_with (fail)
      go_ret
      refine ⟨⟨0, rfl, .inr (.inr ⟨rfl, fun g => N0.out g.1, fun m' h1 g _ => N4.out ?_, hr2.f⟩)⟩, G.b⟩
      have e : pf q = m' + 1 := g
      omega
    · have v1 : 10 ≤ pf q := hr2.t.1
      have v2 : pf q ≤ 12 := hr2.t.2.1
      go_wp2_with (fail)
      go_ret
      exact ⟨⟨_, rfl, .inr (.inl ⟨rfl, hr2.t⟩)⟩, G.b⟩

end Go.Proofs.Ytipbijcmpbefpaa.Book

import Derived.Test.YtbipolfbkemmpaaDoorM8

/- What the program asks of a page of rooms, and of a room of whole pages. -/
namespace Go.Proofs.YtbipolfbkemmpaaDoor.Book
open Go.ChangeShapes Go.WideShapes Go.ChangeAt Go.RowKit
open Aid Lst
set_option maxRecDepth 100000
set_option linter.unusedVariables false

def ClaimU (b : Bx) (T : Nat → Int) (q m u : Nat) : Prop :=
  (BegP b m ((q : Int) * 8 + u) ∧ T (q * 8 + u) + (if b.o.f (q * 8 + u) = 0 then 0 else 1) = 1) ∨ (¬ BegP b m ((q : Int) * 8 + u) ∧ T (q * 8 + u) + (if b.o.f (q * 8 + u) = 0 then 0 else 1) = 0)
def ClaimsP (b : Bx) (T : Nat → Int) (q m n : Nat) : Prop := ∀ u, u < n → ClaimU b T q m u
theorem ClaimsP.up {b : Bx} {T : Nat → Int} {q m n : Nat} (h : ClaimsP b T q m n) (h1 : ClaimU b T q m n) : ClaimsP b T q m (n + 1) := fun j hj => by
  by_cases e : j = n
  · subst e; exact h1
  · exact h j (by omega)
def RoomsI (b : Bx) (T : Nat → Int) (q m : Nat) : Prop := ClaimsP b T q m 8 ∧ 0 < ownC b.o.f (q * 8) 8

set_option maxRecDepth 100000 in
set_option maxHeartbeats 8000000 in
theorem roomsok_any (b : Bx) (q m : Nat) (x : Sx) (w : World) (h : b.At w) (hx : x.At w) (hxn : b.o.n ≤ x.n) (hT : ∀ u, 0 ≤ x.f u ∧ x.f u ≤ 1000) (hm : b.p.f q = m + 1) (hm4 : m < 4)
    (hq : (q + 1) * 8 ≤ b.o.n) (hn : b.o.n ≤ 48) (hp : q < b.p.n) (hon : b.o.n ≤ b.p.n * 8) (hpn : b.p.n ≤ 6) (hcap : b.o.n ≤ b.o.c) :
    Calls Tryd.prog 82 #[.agg b.cells.toArray, .int .i64 q, .slice x.a x.n x.c] w fun e w' => Says e (RoomsI b x.f q m) ∧ Below w.heap.size w w' := by
  obtain ⟨k, o, ea, hc⟩ := h.p.cells (by omega)
  obtain ⟨bs, ⟨pa, pn, pc, pf⟩, h0, h1, h2, h3, o_, i_, e_⟩ := b
  simp only at ea hc hxn hm hq hn hp hon hpn hcap
  subst ea
  have E : Ent w ⟨bs, ⟨some ⟨k, o, none⟩, pn, pc, pf⟩, h0, h1, h2, h3, o_, i_, e_⟩ (w.alloc (.cells #[.int .i64 bs, .slice (some ⟨k, o, none⟩) pn pc, .slice h0.a h0.n h0.c, .slice h1.a h1.n h1.c, .slice h2.a h2.n h2.c, .slice h3.a h3.n h3.c, .slice o_.a o_.n o_.c, .slice i_.a i_.n i_.c, .slice e_.a e_.n e_.c] 26)) := Ent.start h 26
  have i1 : (q : Int) < pn := by omega
  have c1 : (w.alloc (.cells #[.int .i64 bs, .slice (some ⟨k, o, none⟩) pn pc, .slice h0.a h0.n h0.c, .slice h1.a h1.n h1.c, .slice h2.a h2.n h2.c, .slice h3.a h3.n h3.c, .slice o_.a o_.n o_.c, .slice i_.a i_.n i_.c, .slice e_.a e_.n e_.c] 26)).cell? ⟨k, o + q, none⟩ = some (.int .i64 (pf q)) := by
    have e := hc q (by omega)
    rw [(below1 w _).cell (p := ⟨k, o + q, none⟩) (World.block_lt_of_cell? w _ e)]; exact e
  rw [hm] at c1
  clear hm hc
  simp only [Bx.cells]
  go_enter Tryd.func82, Tryd.ntmps82
  go_wp2_with (fail)
  generalize w.alloc (.cells #[.int .i64 bs, .slice (some ⟨k, o, none⟩) pn pc, .slice h0.a h0.n h0.c, .slice h1.a h1.n h1.c, .slice h2.a h2.n h2.c, .slice h3.a h3.n h3.c, .slice o_.a o_.n o_.c, .slice i_.a i_.n i_.c, .slice e_.a e_.n e_.c] 26) = W at E ⊢
  clear c1
  go_loopw [9] (fun i wr => ∃ u : Nat, u ≤ 8 ∧ i = .int .i64 ((q : Int) * 8 + u) ∧ ClaimsP ⟨bs, ⟨some ⟨k, o, none⟩, pn, pc, pf⟩, h0, h1, h2, h3, o_, i_, e_⟩ x.f q m u ∧ Ent w ⟨bs, ⟨some ⟨k, o, none⟩, pn, pc, pf⟩, h0, h1, h2, h3, o_, i_, e_⟩ wr) (fun i _ => q * 8 + 8 - (intOf i).toNat)
  case atStart => exact ⟨0, by omega, by simp, fun j h => absurd h (Nat.not_lt_zero _), E⟩
  case round =>
    obtain ⟨u, hu, rfl, hC, F⟩ := hrel
    have HC : Hid (ClaimsP ⟨bs, ⟨some ⟨k, o, none⟩, pn, pc, pf⟩, h0, h1, h2, h3, o_, i_, e_⟩ x.f q m u) := hC
    clear hC E
    obtain ⟨u0, u1, u2, u3, u4, u5, u6, u7, u8⟩ := nine F.r
    simp only at u0 u1 u2 u3 u4 u5 u6 u7 u8
    by_cases lt : (u : Int) < 8
    · obtain ⟨k1, o1, ex, hcx⟩ := (hx.later F.b).cells (by omega)
      obtain ⟨k2, o2, eo, hco⟩ := F.a.o.cells (by show 0 < o_.n; omega)
      simp only at eo hco
      have c1 := hcx (q * 8 + u) (by omega)
      have c2 := hco (q * 8 + u) (by omega)
      obtain ⟨t1, t2⟩ := hT (q * 8 + u)
      have i3 : (q : Int) * 8 + u < x.n := by omega
      have i4 : (q : Int) * 8 + u < o_.n := by omega
      have i5 : ((q : Int) * 8 + u).toNat = q * 8 + u := by omega
      have i6 : (q : Int) * 8 + u < (q : Int) * 8 + 8 := by omega
      have EO : Hid (o_.a = some ⟨k2, o2, none⟩) := eo
      have EX : Hid (x.a = some ⟨k1, o1, none⟩) := ex
      rw [eo] at u6
      rw [ex]
      clear hcx hco eo ex
      generalize hT1 : x.f (q * 8 + u) = t at c1 t1 t2
      have HT : Hid (x.f (q * 8 + u) = t) := hT1
      have bad : Hid (¬ ClaimU ⟨bs, ⟨some ⟨k, o, none⟩, pn, pc, pf⟩, h0, h1, h2, h3, o_, i_, e_⟩ x.f q m u → ¬ RoomsI ⟨bs, ⟨some ⟨k, o, none⟩, pn, pc, pf⟩, h0, h1, h2, h3, o_, i_, e_⟩ x.f q m) := fun g r => g (r.1 u (by omega))
      have cl : Hid (∀ z : Int, z = (if o_.f (q * 8 + u) = 0 then (0 : Int) else 1) → (ClaimU ⟨bs, ⟨some ⟨k, o, none⟩, pn, pc, pf⟩, h0, h1, h2, h3, o_, i_, e_⟩ x.f q m u ↔ ((BegP ⟨bs, ⟨some ⟨k, o, none⟩, pn, pc, pf⟩, h0, h1, h2, h3, o_, i_, e_⟩ m ((q : Int) * 8 + u) ∧ t + z = 1) ∨ (¬ BegP ⟨bs, ⟨some ⟨k, o, none⟩, pn, pc, pf⟩, h0, h1, h2, h3, o_, i_, e_⟩ m ((q : Int) * 8 + u) ∧ t + z = 0)))) := fun z hz => by
        unfold ClaimU
        rw [hT1]
        show ((BegP ⟨bs, ⟨some ⟨k, o, none⟩, pn, pc, pf⟩, h0, h1, h2, h3, o_, i_, e_⟩ m ((q : Int) * 8 + u) ∧ t + (if o_.f (q * 8 + u) = 0 then (0 : Int) else 1) = 1) ∨ (¬ BegP ⟨bs, ⟨some ⟨k, o, none⟩, pn, pc, pf⟩, h0, h1, h2, h3, o_, i_, e_⟩ m ((q : Int) * 8 + u) ∧ t + (if o_.f (q * 8 + u) = 0 then (0 : Int) else 1) = 0)) ↔ _
        rw [← hz]
      clear hT1
      by_cases z0 : o_.f (q * 8 + u) = 0
      · have Z := cl.out 0 (by rw [if_pos z0])
        rw [z0] at c2
        go_wp2_with (fail)
        rw [← EO.out]
        refine (begins_any ⟨bs, ⟨some ⟨k, o, none⟩, pn, pc, pf⟩, h0, h1, h2, h3, o_, i_, e_⟩ m ((q : Int) * 8 + u) _ F.a hm4 hon (by show pn ≤ 100; omega)).mono ?_
        rintro e w1 ⟨⟨r, rfl, hr⟩, hb⟩
        have G := F.later hb
        clear hb F u0 u1 u2 u3 u4 u5 u6 u7 u8 c1 c2
        cases r
        · by_cases tt : t = 0
          · have HZ : Hid (ClaimU ⟨bs, ⟨some ⟨k, o, none⟩, pn, pc, pf⟩, h0, h1, h2, h3, o_, i_, e_⟩ x.f q m u) := Z.2 (.inr ⟨hr.f, by omega⟩)
            clear Z cl
            go_wp2_with (fail)
            go_roundw
            case rel => exact ⟨u + 1, by omega, by go_num, HC.out.up HZ.out, G⟩
            case measure => simp [intOf]; omega
          · have HZ : Hid (¬ ClaimU ⟨bs, ⟨some ⟨k, o, none⟩, pn, pc, pf⟩, h0, h1, h2, h3, o_, i_, e_⟩ x.f q m u) := fun g => by rcases Z.1 g with g | g; exact hr.f g.1; omega
            clear Z cl
            have nt : ¬ (t = 0) := by omega
            go_wp2_with (fail)
            go_ret
            exact ⟨Says.no (bad.out HZ.out), G.b⟩
        · by_cases tt : t = 1
          · have HZ : Hid (ClaimU ⟨bs, ⟨some ⟨k, o, none⟩, pn, pc, pf⟩, h0, h1, h2, h3, o_, i_, e_⟩ x.f q m u) := Z.2 (.inl ⟨hr.t, by omega⟩)
            clear Z cl
            go_wp2_with (fail)
            go_roundw
            case rel => exact ⟨u + 1, by omega, by go_num, HC.out.up HZ.out, G⟩
            case measure => simp [intOf]; omega
          · have HZ : Hid (¬ ClaimU ⟨bs, ⟨some ⟨k, o, none⟩, pn, pc, pf⟩, h0, h1, h2, h3, o_, i_, e_⟩ x.f q m u) := fun g => by rcases Z.1 g with g | g; omega; exact g.1 hr.t
            clear Z cl
            have nt : ¬ (t = 1) := by omega
            go_wp2_with (fail)
            go_ret
            exact ⟨Says.no (bad.out HZ.out), G.b⟩
      · have Z := cl.out 1 (by rw [if_neg z0])
        go_wp2_with (fail)
        rw [← EO.out]
        refine (begins_any ⟨bs, ⟨some ⟨k, o, none⟩, pn, pc, pf⟩, h0, h1, h2, h3, o_, i_, e_⟩ m ((q : Int) * 8 + u) _ F.a hm4 hon (by show pn ≤ 100; omega)).mono ?_
        rintro e w1 ⟨⟨r, rfl, hr⟩, hb⟩
        have G := F.later hb
        clear hb F u0 u1 u2 u3 u4 u5 u6 u7 u8 c1 c2
        cases r
        · have nz : ¬ (t + 1 = 0) := by omega
          go_wp2_with (fail)
          go_ret
          exact ⟨Says.no (bad.out (fun g => by rcases Z.1 g with g | g; exact hr.f g.1; omega)), G.b⟩
        · by_cases tt : t = 0
          · have HZ : Hid (ClaimU ⟨bs, ⟨some ⟨k, o, none⟩, pn, pc, pf⟩, h0, h1, h2, h3, o_, i_, e_⟩ x.f q m u) := Z.2 (.inl ⟨hr.t, by omega⟩)
            clear Z cl
            go_wp2_with (fail)
            go_roundw
            case rel => exact ⟨u + 1, by omega, by go_num, HC.out.up HZ.out, G⟩
            case measure => simp [intOf]; omega
          · have HZ : Hid (¬ ClaimU ⟨bs, ⟨some ⟨k, o, none⟩, pn, pc, pf⟩, h0, h1, h2, h3, o_, i_, e_⟩ x.f q m u) := fun g => by rcases Z.1 g with g | g; omega; exact g.1 hr.t
            clear Z cl
            have nt : ¬ (t + 1 = 1) := by omega
            go_wp2_with (fail)
            go_ret
            exact ⟨Says.no (bad.out HZ.out), G.b⟩
    · obtain rfl : u = 8 := by omega
      have i6 : ¬ ((q : Int) * 8 + (8 : Nat) < (q : Int) * 8 + 8) := by omega
      go_wp2_with (fail)
      refine (owners_any ⟨bs, ⟨some ⟨k, o, none⟩, pn, pc, pf⟩, h0, h1, h2, h3, o_, i_, e_⟩ q _ F.a hq (by show o_.n ≤ 1000; omega) hcap).mono ?_
      rintro e w1 ⟨rfl, hb⟩
      have G := F.later hb
      clear hb
      go_wp2_with (fail)
      go_ret
      exact ⟨Says.dec (P := 0 < ownC o_.f (q * 8) 8) ⟨fun g => ⟨HC.out, g⟩, fun g => g.2⟩, G.b⟩

theorem ownC_add (o : Nat → Int) (u a : Nat) : ∀ c, ownC o u (a + c) = ownC o u a + ownC o (u + a) c
  | 0 => rfl
  | c + 1 => by
    have e := ownC_add o u a c
    show ownC o u (a + c) + (if o (u + (a + c)) = 0 then 0 else 1) = ownC o u a + (ownC o (u + a) c + (if o (u + a + c) = 0 then 0 else 1))
    rw [e, Nat.add_assoc u a c]
    omega

def LargeI (P o : Nat → Int) (np q : Nat) : Prop := 10 ≤ P q ∧ P q ≤ 12 ∧ (q : Int) + P q - 8 ≤ np ∧ ¬ o (q * 8) = 0 ∧ (∀ j : Nat, 1 ≤ j → (j : Int) < P q - 8 → P (q + j) = 7) ∧ ownC o (q * 8) (8 * (P q - 8).toNat) = 1

set_option maxRecDepth 100000 in
set_option maxHeartbeats 8000000 in
theorem large_any (b : Bx) (q : Nat) (w : World) (h : b.At w) (hq : (q + 1) * 8 ≤ b.o.n) (hn : b.o.n ≤ 48) (hp : q < b.p.n) (hon : b.o.n ≤ b.p.n * 8) (hon' : b.p.n * 8 ≤ b.o.n) (hpn : b.p.n ≤ 6) (hcap : b.o.n ≤ b.o.c) :
    Calls Tryd.prog 83 #[.agg b.cells.toArray, .int .i64 q] w fun e w' => Says e (LargeI b.p.f b.o.f b.p.n q) ∧ Below w.heap.size w w' := by
  obtain ⟨k, o, ea, hc⟩ := h.p.cells (by omega)
  obtain ⟨bs, ⟨pa, pn, pc, pf⟩, h0, h1, h2, h3, o_, i_, e_⟩ := b
  simp only at ea hc hq hn hp hon hon' hpn hcap
  subst ea
  have E : Ent w ⟨bs, ⟨some ⟨k, o, none⟩, pn, pc, pf⟩, h0, h1, h2, h3, o_, i_, e_⟩ (w.alloc (.cells #[.int .i64 bs, .slice (some ⟨k, o, none⟩) pn pc, .slice h0.a h0.n h0.c, .slice h1.a h1.n h1.c, .slice h2.a h2.n h2.c, .slice h3.a h3.n h3.c, .slice o_.a o_.n o_.c, .slice i_.a i_.n i_.c, .slice e_.a e_.n e_.c] 26)) := Ent.start h 26
  have i1 : (q : Int) < pn := by omega
  have c1 : (w.alloc (.cells #[.int .i64 bs, .slice (some ⟨k, o, none⟩) pn pc, .slice h0.a h0.n h0.c, .slice h1.a h1.n h1.c, .slice h2.a h2.n h2.c, .slice h3.a h3.n h3.c, .slice o_.a o_.n o_.c, .slice i_.a i_.n i_.c, .slice e_.a e_.n e_.c] 26)).cell? ⟨k, o + q, none⟩ = some (.int .i64 (pf q)) := by
    have e := hc q (by omega)
    rw [(below1 w _).cell (p := ⟨k, o + q, none⟩) (World.block_lt_of_cell? w _ e)]; exact e
  obtain ⟨k2, o2, eo, hco⟩ := h.o.cells (by show 0 < o_.n; omega)
  have c2 : (w.alloc (.cells #[.int .i64 bs, .slice (some ⟨k, o, none⟩) pn pc, .slice h0.a h0.n h0.c, .slice h1.a h1.n h1.c, .slice h2.a h2.n h2.c, .slice h3.a h3.n h3.c, .slice o_.a o_.n o_.c, .slice i_.a i_.n i_.c, .slice e_.a e_.n e_.c] 26)).cell? ⟨k2, o2 + q * 8, none⟩ = some (.int .i64 (o_.f (q * 8))) := by
    have e := hco (q * 8) (by show q * 8 < o_.n; omega)
    rw [(below1 w _).cell (p := ⟨k2, o2 + q * 8, none⟩) (World.block_lt_of_cell? w _ e)]; exact e
  have EO : Hid (o_.a = some ⟨k2, o2, none⟩) := eo
  have i2 : (q : Int) * 8 < o_.n := by omega
  have i3 : ((q : Int) * 8).toNat = q * 8 := by omega
  clear hco eo
  simp only [Bx.cells]
  go_enter Tryd.func83, Tryd.ntmps83
  go_wp2_with (fail)
  generalize w.alloc (.cells #[.int .i64 bs, .slice (some ⟨k, o, none⟩) pn pc, .slice h0.a h0.n h0.c, .slice h1.a h1.n h1.c, .slice h2.a h2.n h2.c, .slice h3.a h3.n h3.c, .slice o_.a o_.n o_.c, .slice i_.a i_.n i_.c, .slice e_.a e_.n e_.c] 26) = W at E c1 c2 ⊢
  obtain ⟨u0, u1, u2, u3, u4, u5, u6, u7, u8⟩ := nine E.r
  simp only at u0 u1 u2 u3 u4 u5 u6 u7 u8
  rw [EO.out] at u6
  refine (within_any (pf q) 10 12 _).mono ?_
  rintro e w1 ⟨rfl, rfl⟩
  by_cases p1 : 10 ≤ pf q ∧ pf q ≤ 12
  case neg =>
    rw [decide_eq_false p1]
    go_wp2_with (fail)
    go_ret
    exact ⟨Says.no (fun g => p1 ⟨g.1, g.2.1⟩), E.b⟩
  rw [decide_eq_true p1]
  obtain ⟨p11, p12⟩ := p1
  obtain ⟨m, hm⟩ : ∃ m : Nat, pf q = m + 8 := ⟨(pf q - 8).toNat, by omega⟩
  have m1 : 2 ≤ m := by omega
  have m2 : m ≤ 4 := by omega
  have LIE : Hid (LargeI pf o_.f pn q → (q : Int) + m ≤ pn) := fun g => by have e : (q : Int) + pf q - 8 ≤ pn := g.2.2.1; omega
  have LI3 : Hid (LargeI pf o_.f pn q → ¬ o_.f (q * 8) = 0) := fun g => g.2.2.2.1
  have LI : Hid (q + m ≤ pn → ¬ o_.f (q * 8) = 0 → (∀ j : Nat, 1 ≤ j → j < m → pf (q + j) = 7) → ownC o_.f (q * 8) (8 * m) = 1 → LargeI pf o_.f pn q) := fun a0 p3 a c => ⟨p11, p12, by omega, p3, fun j h1 h2 => a j h1 (by omega), by rw [hm, show ((m : Int) + 8 - 8).toNat = m by omega]; exact c⟩
  have LI7 : Hid (LargeI pf o_.f pn q → ∀ j : Nat, 1 ≤ j → j < m → pf (q + j) = 7) := fun g j h1 h2 => g.2.2.2.2.1 j h1 (by omega)
  have LI1 : Hid (LargeI pf o_.f pn q → ownC o_.f (q * 8) (8 * m) = 1) := fun g => by
    have e := g.2.2.2.2.2
    rw [hm, show ((m : Int) + 8 - 8).toNat = m by omega] at e
    exact e
  rw [hm]
  clear hm p11 p12 c1
  by_cases p2 : pn < q + m
  case pos =>
    go_wp2_with (fail)
    go_ret
    exact ⟨Says.no (fun g => by have := LIE.out g; omega), E.b⟩
  have b2 : decide (pn < q + m) = false := decide_eq_false p2
  have b2' : decide ((pn : Int) < (q : Int) + m) = false := decide_eq_false (by omega)
  have m3 : Hid (q + m ≤ pn) := by unfold Hid; omega
  by_cases p3 : o_.f (q * 8) = 0
  case pos =>
    go_wp2_with (fail)
    go_ret
    exact ⟨Says.no (fun g => LI3.out g p3), E.b⟩
  have b3 : (o_.f (q * 8) == 0) = false := by simp [p3]
  have P3 : Hid (¬ o_.f (q * 8) = 0) := p3
  clear p2 p3
  go_wp2_with (fail)
  rw [← EO.out]
  refine (owners_any ⟨bs, ⟨some ⟨k, o, none⟩, pn, pc, pf⟩, h0, h1, h2, h3, o_, i_, e_⟩ q _ E.a hq (by show o_.n ≤ 1000; omega) hcap).mono ?_
  rintro e w2 ⟨rfl, hb⟩
  have F := E.later hb
  clear hb E c2 u0 u1 u2 u3 u4 u5 u6 u7 u8
  go_wp2_with (fail)
  go_loopw [7, 8] (fun c i wr => ∃ j : Nat, 1 ≤ j ∧ j ≤ m ∧ i = .int .i64 ((q : Int) + j) ∧ c = .int .i64 (ownC o_.f (q * 8) (8 * j)) ∧ Hid (∀ t : Nat, 1 ≤ t → t < j → pf (q + t) = 7) ∧ Ent w ⟨bs, ⟨some ⟨k, o, none⟩, pn, pc, pf⟩, h0, h1, h2, h3, o_, i_, e_⟩ wr) (fun _ i _ => q + m - (intOf i).toNat)
  case atStart => exact ⟨1, by omega, by omega, by simp, rfl, fun t h1 h2 => by omega, F⟩
  case round =>
    obtain ⟨j, hj1, hj2, rfl, rfl, hJ, G⟩ := hrel
    clear F
    obtain ⟨u0, u1, u2, u3, u4, u5, u6, u7, u8⟩ := nine G.r
    simp only at u0 u1 u2 u3 u4 u5 u6 u7 u8
    have ol := ownC_le o_.f (q * 8) (8 * j)
    by_cases lt : j < m
    · have M3 := m3.out
      have lt1 : (q : Int) + j < (q : Int) + m := by omega
      have i4 : (q : Int) + j < pn := by omega
      have i5 : ((q : Int) + j).toNat = q + j := by omega
      have c1 : wr.cell? ⟨k, o + (q + j), none⟩ = some (.int .i64 (pf (q + j))) := by
        have e := hc (q + j) (by omega)
        rw [G.b.cell (p := ⟨k, o + (q + j), none⟩) (World.block_lt_of_cell? w _ e)]; exact e
      clear M3
      by_cases e7 : pf (q + j) = 7
      · rw [e7] at c1
        have E7 : Hid (pf (q + j) = 7) := e7
        clear e7
        go_wp2_with (fail)
        rw [show (q : Int) + j = ((q + j : Nat) : Int) by omega]
        refine (owners_any ⟨bs, ⟨some ⟨k, o, none⟩, pn, pc, pf⟩, h0, h1, h2, h3, o_, i_, e_⟩ (q + j) _ G.a (by have := m3.out; show (q + j + 1) * 8 ≤ o_.n; omega) (by show o_.n ≤ 1000; omega) hcap).mono ?_
        rintro e w3 ⟨rfl, hb⟩
        have G1 := G.later hb
        have ea := ownC_add o_.f (q * 8) (8 * j) 8
        have ol2 := ownC_le o_.f ((q + j) * 8) 8
        have ep : (q * 8 + 8 * j) = (q + j) * 8 := by omega
        rw [ep] at ea
        have EA : Hid (ownC o_.f (q * 8) (8 * j + 8) = ownC o_.f (q * 8) (8 * j) + ownC o_.f ((q + j) * 8) 8) := ea
        clear hb ea ep
        rw [show ((q + j : Nat) : Int) = (q : Int) + j by omega]
        go_wp2_with (fail)
        go_roundw
        case rel => exact ⟨j + 1, by omega, by omega, by go_num, by rw [show 8 * (j + 1) = 8 * j + 8 by omega, EA.out]; go_num, fun t h1 h2 => (by
          by_cases e : t = j
          · subst e; exact E7.out
          · exact hJ.out t h1 (by omega)), G1⟩
        case measure => simp [intOf]; omega
      · go_wp2_with (fail)
        go_ret
        exact ⟨Says.no (fun g => e7 (LI7.out g j hj1 lt)), G.b⟩
    · obtain rfl : j = m := by omega
      have lt1 : ¬ (q : Int) + j < (q : Int) + j := by omega
      go_wp2_with (fail)
      go_ret
      refine ⟨⟨_, rfl, ?_⟩, G.b⟩
      unfold Tell
      rw [beq_iff_eq]
      exact ⟨fun g => LI.out m3.out P3.out hJ.out (by omega), fun g => by have := LI1.out g; omega⟩

end Go.Proofs.YtbipolfbkemmpaaDoor.Book

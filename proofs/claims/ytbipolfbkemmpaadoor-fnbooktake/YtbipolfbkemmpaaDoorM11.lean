import Derived.Test.YtbipolfbkemmpaaDoorM10

/- What a book is, by the program: as by the specification. -/
namespace Go.Proofs.YtbipolfbkemmpaaDoor.Book
open Go.ChangeShapes Go.WideShapes Go.ChangeAt Go.RowKit
open Aid Lst
set_option maxRecDepth 100000
set_option linter.unusedVariables false

set_option maxRecDepth 100000 in
set_option maxHeartbeats 8000000 in
theorem pages_any (b : Bx) (w : World) (h : b.At w) (hl : LensP b) (h4 : Len4P b 4) (hb : NonNeg b) (hcap : b.o.n ≤ b.o.c) :
    Calls Tryd.prog 37 #[.agg b.cells.toArray] w fun e w' => Says e (ListsP b 4 ∧ PagesP b b.p.n) ∧ Below w.heap.size w w' := by
  have E : Ent w b (w.alloc (.cells #[.int .i64 b.s, .slice b.p.a b.p.n b.p.c, .slice b.h0.a b.h0.n b.h0.c, .slice b.h1.a b.h1.n b.h1.c, .slice b.h2.a b.h2.n b.h2.c, .slice b.h3.a b.h3.n b.h3.c, .slice b.o.a b.o.n b.o.c, .slice b.i.a b.i.n b.i.c, .slice b.e.a b.e.n b.e.c] 26)) := Ent.start h 26
  have L : Hid (LensP b) := hl
  obtain ⟨l1, l2, l3, l4, l5, l6, l7⟩ := hl
  have n1 : b.o.n ≤ b.p.n * 8 := by omega
  have n1' : b.p.n * 8 ≤ b.o.n := by omega
  have n2 : b.p.n ≤ 6 := by omega
  have n3 : b.o.n ≤ 48 := by omega
  have n4 : 1 ≤ b.p.n := by omega
  clear l1 l2 l3 l4 l5 l6 l7
  have H4 : Hid (Len4P b 4) := h4
  have HB : Hid (NonNeg b) := hb
  clear h4 hb
  simp only [Bx.cells]
  go_enter Tryd.func37, Tryd.ntmps37
  go_wp2_with (fail)
  generalize w.alloc (.cells #[.int .i64 b.s, .slice b.p.a b.p.n b.p.c, .slice b.h0.a b.h0.n b.h0.c, .slice b.h1.a b.h1.n b.h1.c, .slice b.h2.a b.h2.n b.h2.c, .slice b.h3.a b.h3.n b.h3.c, .slice b.o.a b.o.n b.o.c, .slice b.i.a b.i.n b.i.c, .slice b.e.a b.e.n b.e.c] 26) = W at E ⊢
  refine (bfree_any b W E.a L.out H4.out).mono ?_
  rintro e w1 ⟨hr, hbw⟩
  have F := E.later hbw
  have zW := E.lt
  clear E
  rcases hr with ⟨hL, k, hk, rfl, FK⟩ | ⟨hL, rfl⟩
  · have HL : Hid (ListsP b 4) := hL
    clear hL
    have hT : Hid (∀ u : Nat, 0 ≤ ((tmK b u 4 : Nat) : Int) ∧ ((tmK b u 4 : Nat) : Int) ≤ 1000) := fun u => by
      have := tmK_le b u H4.out n3 4 (Nat.le_refl _)
      omega
    have xa : (⟨some ⟨k, 0, none⟩, b.o.n, b.o.n, fun u => ((tmK b u 4 : Nat) : Int)⟩ : Sx).At w1 := FK.sl
    have XA : Hid ((⟨some ⟨k, 0, none⟩, b.o.n, b.o.n, fun u => ((tmK b u 4 : Nat) : Int)⟩ : Sx).At w1) := xa
    clear FK xa hbw
    go_wp2_with (fail)
    go_loopw [5] (fun i wr => ∃ q : Nat, q ≤ b.p.n ∧ i = .int .i64 q ∧ Inv b q ∧ Ent w b wr ∧ Below w1.heap.size w1 wr) (fun i _ => b.p.n - (intOf i).toNat)
    case atStart => exact ⟨0, by omega, rfl, inv_zero b, F, Below.refl _ _⟩
    case round =>
      obtain ⟨q, hq, rfl, hI, G, BW⟩ := hrel
      have HI : Hid (Inv b q) := hI
      clear hI F
      obtain ⟨u0, u1, u2, u3, u4, u5, u6, u7, u8⟩ := nine G.r
      by_cases lt : (q : Int) < b.p.n
      · go_wp2_with (fail)
        refine (span_any b q ⟨some ⟨k, 0, none⟩, b.o.n, b.o.n, fun u => ((tmK b u 4 : Nat) : Int)⟩ _ G.a (XA.out.later BW) (Nat.le_refl _) hT.out (by omega) n3 (by omega) n1 n1' n2 hcap).mono ?_
        rintro e w2 ⟨⟨r, rfl, hr⟩, hbw⟩
        have G1 := G.later hbw
        have BW1 := BW.trans (hbw.mono BW.size)
        clear hbw G BW u0 u1 u2 u3 u4 u5 u6 u7 u8
        rcases hr with ⟨rfl, hr⟩ | ⟨rfl, hr⟩ | ⟨rfl, h1, h2, h3⟩
        · have NI : Hid (Inv b (q + 1)) := inv_one HB.out n1' HL.out (by omega) HI.out hr
          clear hr
          go_wp2_with (fail)
          go_roundw
          case rel => exact ⟨q + 1, by omega, by go_num, NI.out, G1, BW1⟩
          case measure => simp [intOf]; omega
        · have e10 : 10 ≤ b.p.f q := hr.1
          have e12 : b.p.f q ≤ 12 := hr.2.1
          obtain ⟨n, hn⟩ : ∃ n : Nat, b.p.f q = n + 8 := ⟨(b.p.f q - 8).toNat, by omega⟩
          have en : q + n ≤ b.p.n := by have := hr.2.2.1; omega
          have NI : Hid (Inv b (q + n)) := inv_large HB.out n1' HI.out hr hn
          have n0 : 2 ≤ n := by omega
          have n9 : n ≤ 4 := by omega
          have z0 : ¬ ((n : Int) = 0) := by omega
          have z0' : ((n : Int) == 0) = false := by simp; omega
          have z0'' : (n == 0) = false := by simp; omega
          rw [hn, show ((n : Int) + 8 - 8) = n by omega]
          clear hr hn e10 e12
          go_wp2_with (fail)
          go_roundw
          case rel => exact ⟨q + n, by omega, by go_num, NI.out, G1, BW1⟩
          case measure => simp [intOf]; omega
        · have NO : Hid (¬ PagesP b b.p.n) := inv_none HB.out n1' HL.out (by omega) HI.out h1 h2 h3
          clear h1 h2 h3
          go_wp2_with (fail)
          go_ret
          exact ⟨Says.no (fun g => NO.out g.2), G1.b⟩
      · have eq : q = b.p.n := by omega
        have HA : Hid (PagesP b b.p.n) := by unfold Hid; rw [← eq]; exact HI.out.1
        clear eq
        go_wp2_with (fail)
        go_ret
        exact ⟨Says.yes ⟨HL.out, HA.out⟩, G.b⟩
  · have HL : Hid (¬ ListsP b 4) := hL
    clear hL
    go_wp2_with (fail)
    go_ret
    exact ⟨Says.no (fun g => HL.out g.1), F.b⟩

set_option maxRecDepth 100000 in
set_option maxHeartbeats 8000000 in
theorem ok_any (b : Bx) (w : World) (h : b.At w) (hn : b.total ≤ 1000000000) (hcap : b.o.n ≤ b.o.c) :
    Calls Tryd.prog 14 #[.agg b.cells.toArray] w fun e w' => Says e (OkP b) ∧ Below w.heap.size w w' := by
  have E : Ent w b (w.alloc (.cells #[.int .i64 b.s, .slice b.p.a b.p.n b.p.c, .slice b.h0.a b.h0.n b.h0.c, .slice b.h1.a b.h1.n b.h1.c, .slice b.h2.a b.h2.n b.h2.c, .slice b.h3.a b.h3.n b.h3.c, .slice b.o.a b.o.n b.o.c, .slice b.i.a b.i.n b.i.c, .slice b.e.a b.e.n b.e.c] 26)) := Ent.start h 26
  simp only [Bx.cells]
  go_enter Tryd.func14, Tryd.ntmps14
  go_wp2_with (fail)
  generalize w.alloc (.cells #[.int .i64 b.s, .slice b.p.a b.p.n b.p.c, .slice b.h0.a b.h0.n b.h0.c, .slice b.h1.a b.h1.n b.h1.c, .slice b.h2.a b.h2.n b.h2.c, .slice b.h3.a b.h3.n b.h3.c, .slice b.o.a b.o.n b.o.c, .slice b.i.a b.i.n b.i.c, .slice b.e.a b.e.n b.e.c] 26) = W at E ⊢
  refine (lens_any b W E.a hn).mono ?_
  rintro e w1 ⟨⟨r, rfl, hr⟩, hbw⟩
  replace E := E.later hbw
  clear hbw
  cases r
  · go_wp2_with (fail)
    go_ret
    exact ⟨Says.no (fun g => hr.f ⟨g.1.1, fun k hk => (g.2.1 k hk).1⟩), E.b⟩
  have L1 : Hid (LensP b) := hr.t.1
  have L4 : Hid (Len4P b 4) := hr.t.2
  clear hr
  obtain ⟨u0, u1, u2, u3, u4, u5, u6, u7, u8⟩ := nine E.r
  go_wp2_with (fail)
  refine (ins_any b _ E.a L1.out).mono ?_
  rintro e w2 ⟨⟨r, rfl, hr⟩, hbw⟩
  replace E := E.later hbw
  clear hbw u0 u1 u2 u3 u4 u5 u6 u7 u8
  cases r
  · go_wp2_with (fail)
    go_ret
    exact ⟨Says.no (fun g => hr.f g.1.2.1), E.b⟩
  have L2 : Hid (InsP b b.i.n) := hr.t
  clear hr
  obtain ⟨u0, u1, u2, u3, u4, u5, u6, u7, u8⟩ := nine E.r
  go_wp2_with (fail)
  refine (owns_any b _ E.a L1.out).mono ?_
  rintro e w3 ⟨⟨r, rfl, hr⟩, hbw⟩
  replace E := E.later hbw
  clear hbw u0 u1 u2 u3 u4 u5 u6 u7 u8
  cases r
  · go_wp2_with (fail)
    go_ret
    exact ⟨Says.no (fun g => hr.f g.1.2.2), E.b⟩
  have L3 : Hid (OwnsP b b.o.n) := hr.t
  clear hr
  obtain ⟨u0, u1, u2, u3, u4, u5, u6, u7, u8⟩ := nine E.r
  go_wp2_with (fail)
  refine (pages_any b _ E.a L1.out L4.out (fun u hu => (L3.out u hu).1) hcap).mono ?_
  rintro e w4 ⟨⟨r, rfl, hr⟩, hbw⟩
  replace E := E.later hbw
  clear hbw u0 u1 u2 u3 u4 u5 u6 u7 u8
  go_wp2_with (fail)
  go_ret
  refine ⟨⟨r, rfl, ?_⟩, E.b⟩
  exact Iff.trans hr ⟨fun g => ⟨⟨L1.out, L2.out, L3.out⟩, g.1, g.2⟩, fun g => ⟨g.2.1, g.2.2⟩⟩

def Sx.norm (x : Sx) : Sx := ⟨none, x.n, 0, x.f⟩
def Bx.norm (b : Bx) : Bx := ⟨b.s, b.p.norm, b.h0.norm, b.h1.norm, b.h2.norm, b.h3.norm, b.o.norm, b.i.norm, b.e.norm⟩
theorem hd_norm (b : Bx) (k : Nat) : b.norm.hd k = (b.hd k).norm := by
  unfold Bx.hd
  repeat' split
  all_goals rfl
theorem ok_norm (b : Bx) : OkP b.norm ↔ OkP b := by
  unfold OkP PagesP PageP ListsP ListP BegP SlotsP LensP InsP OwnsP InU OwnU
  simp only [hd_norm]
  exact Iff.rfl
theorem norm_m {b c : Bx} (h : b.m = c.m) : b.norm = c.norm := by
  simp only [Bx.m, Bm.mk.injEq, Sx.m, Prod.mk.injEq] at h
  obtain ⟨h0, ⟨h1, h1'⟩, ⟨h2, h2'⟩, ⟨h3, h3'⟩, ⟨h4, h4'⟩, ⟨h5, h5'⟩, ⟨h6, h6'⟩, ⟨h7, h7'⟩, ⟨h8, h8'⟩⟩ := h
  simp only [Bx.norm, Sx.norm, h0, h1, h1', h2, h2', h3, h3', h4, h4', h5, h5', h6, h6', h7, h7', h8, h8']
theorem ok_m {b c : Bx} (h : b.m = c.m) : OkP b ↔ OkP c := by rw [← ok_norm b, ← ok_norm c, norm_m h]
theorem wf_norm (b : Bx) : b.norm.Wf ↔ b.Wf := by
  unfold Bx.Wf
  simp only [Bx.lists, List.forall_mem_cons]
  exact Iff.rfl
theorem wf_m {b c : Bx} (h : b.m = c.m) : b.Wf ↔ c.Wf := by rw [← wf_norm b, ← wf_norm c, norm_m h]
theorem Bx.Good.wf {b : Bx} {w : World} (h : b.Good w) : b.Wf := fun x hx j => bounds_i64 ((h.each x hx).2.2 j)
theorem Bx.Own.cap {b : Bx} {B C : Nat} {w : World} (h : b.Own B C w) : b.o.n ≤ b.o.c := h.caps b.o (by simp [Bx.lists])

def RoomR (b : Bx) (u r : Int) : Prop :=
  ((u < 0 ∨ (b.o.n : Int) ≤ u ∨ b.o.f u.toNat = 0) ∧ r = 0) ∨
  ((0 ≤ u ∧ u < b.o.n ∧ ¬ b.o.f u.toNat = 0) ∧ ((∃ m : Nat, m < 4 ∧ b.p.f (u / 8).toNat = m + 1 ∧ r = sz m) ∨ ((10 ≤ b.p.f (u / 8).toNat ∧ b.p.f (u / 8).toNat ≤ 12) ∧ r = (b.p.f (u / 8).toNat - 8) * 8)))
theorem room_one {b : Bx} {u r r' : Int} (h : RoomR b u r) (h' : RoomR b u r') : r = r' := by
  rcases h with ⟨h, rfl⟩ | ⟨h, g⟩ <;> rcases h' with ⟨h', rfl⟩ | ⟨h', g'⟩
  · rfl
  · clear g'; omega
  · clear g; omega
  · rcases g with ⟨m, m4, e, rfl⟩ | ⟨e, rfl⟩ <;> rcases g' with ⟨m', m4', e', rfl⟩ | ⟨e', rfl⟩
    · obtain rfl : m = m' := by omega
      rfl
    · omega
    · omega
    · rfl
theorem room_norm (b : Bx) (u r : Int) : RoomR b.norm u r ↔ RoomR b u r := Iff.rfl
theorem room_m {b c : Bx} (h : b.m = c.m) (u r : Int) : RoomR b u r ↔ RoomR c u r := by rw [← room_norm b, ← room_norm c, norm_m h]

theorem OkP.nums {b : Bx} (h : OkP b) : b.o.n ≤ b.p.n * 8 ∧ b.p.n * 8 ≤ b.o.n ∧ b.p.n ≤ 6 ∧ 1 ≤ b.p.n ∧ b.o.n ≤ 48 := by
  obtain ⟨l1, l2, l3, l4, l5, l6, l7⟩ := h.1.1
  omega

theorem owner_page {b : Bx} (h : OkP b) {u : Int} (h0 : 0 ≤ u) (h1 : u < b.o.n) (hz : ¬ b.o.f u.toNat = 0) :
    (∃ m : Nat, m < 4 ∧ b.p.f (u / 8).toNat = m + 1) ∨ (10 ≤ b.p.f (u / 8).toNat ∧ b.p.f (u / 8).toNat ≤ 12) := by
  obtain ⟨n1, n2, n3, n4, n5⟩ := h.nums
  have hp := (h.1.2.2 u.toNat (by omega)).1
  have eu : (u / 8).toNat * 8 + (u % 8).toNat = u.toNat := by omega
  have nf : ¬ FreeP b.o.f (u / 8).toNat 0 := fun g => by
    have := g (u % 8).toNat (Nat.zero_le _) (by omega)
    rw [eu] at this
    omega
  rcases h.2.2 (u / 8).toNat (by omega) with g | ⟨m, m4, e, g⟩ | g | g
  · exact absurd g.2 nf
  · exact .inl ⟨m, m4, e⟩
  · exact absurd g.2.2.2 nf
  · exact .inr ⟨g.1, g.2.1⟩

set_option maxRecDepth 100000 in
set_option maxHeartbeats 8000000 in
theorem units_any (b : Bx) (u : Int) (w : World) (h : b.At w) (hok : OkP b) :
    Calls Tryd.prog 43 #[.agg b.cells.toArray, .int .i64 u] w fun e w' => (∃ r, e = .returned (.int .i64 r) ∧ RoomR b u r) ∧ Below w.heap.size w w' := by
  obtain ⟨n1, n2, n3, n4, n5⟩ := hok.nums
  by_cases h1 : u < 0
  case pos =>
    simp only [Bx.cells]
    go_enter Tryd.func43, Tryd.ntmps43
    go_wp2_with (fail)
    go_ret
    exact ⟨⟨0, rfl, .inl ⟨.inl h1, rfl⟩⟩, below1 _ _⟩
  by_cases h2 : u ≥ b.o.n
  case pos =>
    simp only [Bx.cells]
    go_enter Tryd.func43, Tryd.ntmps43
    go_wp2_with (fail)
    go_ret
    exact ⟨⟨0, rfl, .inl ⟨.inr (.inl h2), rfl⟩⟩, below1 _ _⟩
  have OP : Hid (¬ b.o.f u.toNat = 0 → (∃ m : Nat, m < 4 ∧ b.p.f (u / 8).toNat = m + 1) ∨ (10 ≤ b.p.f (u / 8).toNat ∧ b.p.f (u / 8).toNat ≤ 12)) := fun g => owner_page hok (by omega) (by omega) g
  clear hok
  obtain ⟨k, o, ea, hc⟩ := h.p.cells (by omega)
  obtain ⟨k', o', ea', hc'⟩ := h.o.cells (by omega)
  obtain ⟨bs, ⟨pa, pn, pc, pf⟩, h0, h1', h2', h3, ⟨oa, on, oc, of⟩, i_, e_⟩ := b
  simp only at ea ea' hc hc' n1 n2 n3 n4 n5 h2 OP
  subst ea
  subst ea'
  have E : Ent w ⟨bs, ⟨some ⟨k, o, none⟩, pn, pc, pf⟩, h0, h1', h2', h3, ⟨some ⟨k', o', none⟩, on, oc, of⟩, i_, e_⟩ (w.alloc (.cells #[.int .i64 bs, .slice (some ⟨k, o, none⟩) pn pc, .slice h0.a h0.n h0.c, .slice h1'.a h1'.n h1'.c, .slice h2'.a h2'.n h2'.c, .slice h3.a h3.n h3.c, .slice (some ⟨k', o', none⟩) on oc, .slice i_.a i_.n i_.c, .slice e_.a e_.n e_.c] 26)) := Ent.start h 26
  have i1 : u < on := by omega
  have i2 : u / 8 < pn := by omega
  have i3 : 0 ≤ u / 8 := by omega
  have i4 : u ≤ 10000 := by omega
  have i0 : 0 ≤ u := by omega
  have c1 : (w.alloc (.cells #[.int .i64 bs, .slice (some ⟨k, o, none⟩) pn pc, .slice h0.a h0.n h0.c, .slice h1'.a h1'.n h1'.c, .slice h2'.a h2'.n h2'.c, .slice h3.a h3.n h3.c, .slice (some ⟨k', o', none⟩) on oc, .slice i_.a i_.n i_.c, .slice e_.a e_.n e_.c] 26)).cell? ⟨k, o + (u / 8).toNat, none⟩ = some (.int .i64 (pf (u / 8).toNat)) := by
    have e := hc (u / 8).toNat (by omega)
    rw [(below1 w _).cell (p := ⟨k, o + (u / 8).toNat, none⟩) (World.block_lt_of_cell? w _ e)]; exact e
  have c2 : (w.alloc (.cells #[.int .i64 bs, .slice (some ⟨k, o, none⟩) pn pc, .slice h0.a h0.n h0.c, .slice h1'.a h1'.n h1'.c, .slice h2'.a h2'.n h2'.c, .slice h3.a h3.n h3.c, .slice (some ⟨k', o', none⟩) on oc, .slice i_.a i_.n i_.c, .slice e_.a e_.n e_.c] 26)).cell? ⟨k', o' + u.toNat, none⟩ = some (.int .i64 (of u.toNat)) := by
    have e := hc' u.toNat (by omega)
    rw [(below1 w _).cell (p := ⟨k', o' + u.toNat, none⟩) (World.block_lt_of_cell? w _ e)]; exact e
  clear hc hc' n1 n2 n3 n4 n5
  have RY : Hid (¬ of u.toNat = 0 → ∀ r, ((∃ m : Nat, m < 4 ∧ pf (u / 8).toNat = m + 1 ∧ r = sz m) ∨ ((10 ≤ pf (u / 8).toNat ∧ pf (u / 8).toNat ≤ 12) ∧ r = (pf (u / 8).toNat - 8) * 8)) → RoomR ⟨bs, ⟨some ⟨k, o, none⟩, pn, pc, pf⟩, h0, h1', h2', h3, ⟨some ⟨k', o', none⟩, on, oc, of⟩, i_, e_⟩ u r) := fun g r x => .inr ⟨⟨by omega, i1, g⟩, x⟩
  simp only [Bx.cells]
  by_cases z : of u.toNat = 0
  case pos =>
    have RZ : Hid (RoomR ⟨bs, ⟨some ⟨k, o, none⟩, pn, pc, pf⟩, h0, h1', h2', h3, ⟨some ⟨k', o', none⟩, on, oc, of⟩, i_, e_⟩ u 0) := .inl ⟨.inr (.inr z), rfl⟩
    rw [z] at c2
    clear z OP RY
    go_enter Tryd.func43, Tryd.ntmps43
    go_wp2_with (fail)
    go_ret
    exact ⟨⟨0, rfl, RZ.out⟩, E.b⟩
  have bz : (of u.toNat == 0) = false := by simp [z]
  have Z : Hid (¬ of u.toNat = 0) := z
  rcases OP.out z with ⟨m, m4, em⟩ | ⟨e10, e12⟩
  · rw [em] at c1
    have RM : Hid (RoomR ⟨bs, ⟨some ⟨k, o, none⟩, pn, pc, pf⟩, h0, h1', h2', h3, ⟨some ⟨k', o', none⟩, on, oc, of⟩, i_, e_⟩ u (sz m)) := RY.out z _ (.inl ⟨m, m4, em, rfl⟩)
    clear z OP RY em
    obtain rfl | rfl | rfl | rfl : m = 0 ∨ m = 1 ∨ m = 2 ∨ m = 3 := by omega
    all_goals
      go_enter Tryd.func43, Tryd.ntmps43
      go_wp2_with (fail)
      go_ret
      exact ⟨⟨_, rfl, RM.out⟩, E.b⟩
  · have RM : Hid (RoomR ⟨bs, ⟨some ⟨k, o, none⟩, pn, pc, pf⟩, h0, h1', h2', h3, ⟨some ⟨k', o', none⟩, on, oc, of⟩, i_, e_⟩ u ((pf (u / 8).toNat - 8) * 8)) := RY.out z _ (.inr ⟨⟨e10, e12⟩, rfl⟩)
    clear z OP RY
    have g8 : pf (u / 8).toNat > 8 := by omega
    go_enter Tryd.func43, Tryd.ntmps43
    go_wp2_with (fail)
    go_ret
    exact ⟨⟨_, rfl, RM.out⟩, E.b⟩

set_option maxRecDepth 100000 in
set_option maxHeartbeats 8000000 in
theorem sunits_any (b : Bx) (u : Int) (w : World) (h : b.At w) (hok : OkP b) :
    Calls Tryd.prog 94 #[.agg b.cells.toArray, .int .i64 u] w fun e w' => (∃ r, e = .returned (.int .i64 r) ∧ RoomR b u r) ∧ Below w.heap.size w w' := by
  obtain ⟨n1, n2, n3, n4, n5⟩ := hok.nums
  by_cases h1 : u < 0
  case pos =>
    simp only [Bx.cells]
    go_enter Tryd.func94, Tryd.ntmps94
    go_wp2_with (fail)
    go_ret
    exact ⟨⟨0, rfl, .inl ⟨.inl h1, rfl⟩⟩, below1 _ _⟩
  by_cases h2 : u ≥ b.o.n
  case pos =>
    simp only [Bx.cells]
    go_enter Tryd.func94, Tryd.ntmps94
    go_wp2_with (fail)
    go_ret
    exact ⟨⟨0, rfl, .inl ⟨.inr (.inl h2), rfl⟩⟩, below1 _ _⟩
  have OP : Hid (¬ b.o.f u.toNat = 0 → (∃ m : Nat, m < 4 ∧ b.p.f (u / 8).toNat = m + 1) ∨ (10 ≤ b.p.f (u / 8).toNat ∧ b.p.f (u / 8).toNat ≤ 12)) := fun g => owner_page hok (by omega) (by omega) g
  clear hok
  obtain ⟨k, o, ea, hc⟩ := h.p.cells (by omega)
  obtain ⟨k', o', ea', hc'⟩ := h.o.cells (by omega)
  obtain ⟨bs, ⟨pa, pn, pc, pf⟩, h0, h1', h2', h3, ⟨oa, on, oc, of⟩, i_, e_⟩ := b
  simp only at ea ea' hc hc' n1 n2 n3 n4 n5 h2 OP
  subst ea
  subst ea'
  have E : Ent w ⟨bs, ⟨some ⟨k, o, none⟩, pn, pc, pf⟩, h0, h1', h2', h3, ⟨some ⟨k', o', none⟩, on, oc, of⟩, i_, e_⟩ (w.alloc (.cells #[.int .i64 bs, .slice (some ⟨k, o, none⟩) pn pc, .slice h0.a h0.n h0.c, .slice h1'.a h1'.n h1'.c, .slice h2'.a h2'.n h2'.c, .slice h3.a h3.n h3.c, .slice (some ⟨k', o', none⟩) on oc, .slice i_.a i_.n i_.c, .slice e_.a e_.n e_.c] 26)) := Ent.start h 26
  have i1 : u < on := by omega
  have i2 : u / 8 < pn := by omega
  have i3 : 0 ≤ u / 8 := by omega
  have i4 : u ≤ 10000 := by omega
  have i0 : 0 ≤ u := by omega
  have c1 : (w.alloc (.cells #[.int .i64 bs, .slice (some ⟨k, o, none⟩) pn pc, .slice h0.a h0.n h0.c, .slice h1'.a h1'.n h1'.c, .slice h2'.a h2'.n h2'.c, .slice h3.a h3.n h3.c, .slice (some ⟨k', o', none⟩) on oc, .slice i_.a i_.n i_.c, .slice e_.a e_.n e_.c] 26)).cell? ⟨k, o + (u / 8).toNat, none⟩ = some (.int .i64 (pf (u / 8).toNat)) := by
    have e := hc (u / 8).toNat (by omega)
    rw [(below1 w _).cell (p := ⟨k, o + (u / 8).toNat, none⟩) (World.block_lt_of_cell? w _ e)]; exact e
  have c2 : (w.alloc (.cells #[.int .i64 bs, .slice (some ⟨k, o, none⟩) pn pc, .slice h0.a h0.n h0.c, .slice h1'.a h1'.n h1'.c, .slice h2'.a h2'.n h2'.c, .slice h3.a h3.n h3.c, .slice (some ⟨k', o', none⟩) on oc, .slice i_.a i_.n i_.c, .slice e_.a e_.n e_.c] 26)).cell? ⟨k', o' + u.toNat, none⟩ = some (.int .i64 (of u.toNat)) := by
    have e := hc' u.toNat (by omega)
    rw [(below1 w _).cell (p := ⟨k', o' + u.toNat, none⟩) (World.block_lt_of_cell? w _ e)]; exact e
  clear hc hc' n1 n2 n3 n4 n5
  have RY : Hid (¬ of u.toNat = 0 → ∀ r, ((∃ m : Nat, m < 4 ∧ pf (u / 8).toNat = m + 1 ∧ r = sz m) ∨ ((10 ≤ pf (u / 8).toNat ∧ pf (u / 8).toNat ≤ 12) ∧ r = (pf (u / 8).toNat - 8) * 8)) → RoomR ⟨bs, ⟨some ⟨k, o, none⟩, pn, pc, pf⟩, h0, h1', h2', h3, ⟨some ⟨k', o', none⟩, on, oc, of⟩, i_, e_⟩ u r) := fun g r x => .inr ⟨⟨by omega, i1, g⟩, x⟩
  simp only [Bx.cells]
  by_cases z : of u.toNat = 0
  case pos =>
    have RZ : Hid (RoomR ⟨bs, ⟨some ⟨k, o, none⟩, pn, pc, pf⟩, h0, h1', h2', h3, ⟨some ⟨k', o', none⟩, on, oc, of⟩, i_, e_⟩ u 0) := .inl ⟨.inr (.inr z), rfl⟩
    rw [z] at c2
    clear z OP RY
    go_enter Tryd.func94, Tryd.ntmps94
    go_wp2_with (fail)
    go_ret
    exact ⟨⟨0, rfl, RZ.out⟩, E.b⟩
  have bz : (of u.toNat == 0) = false := by simp [z]
  have Z : Hid (¬ of u.toNat = 0) := z
  rcases OP.out z with ⟨m, m4, em⟩ | ⟨e10, e12⟩
  · have RM : Hid (RoomR ⟨bs, ⟨some ⟨k, o, none⟩, pn, pc, pf⟩, h0, h1', h2', h3, ⟨some ⟨k', o', none⟩, on, oc, of⟩, i_, e_⟩ u (sz m)) := RY.out z _ (.inl ⟨m, m4, em, rfl⟩)
    have ek : kdM (pf (u / 8).toNat) = m := (kdM_iff _ m m4).2 em
    clear z OP RY em
    go_enter Tryd.func94, Tryd.ntmps94
    go_wp2_with (fail)
    refine (kd_any _ _).mono ?_
    rintro e w1 ⟨rfl, rfl⟩
    rw [ek]
    have HEK : Hid (kdM (pf (u / 8).toNat) = m) := ek
    clear ek
    go_wp2_with (fail)
    refine (kd_any _ _).mono ?_
    rintro e w1 ⟨rfl, rfl⟩
    rw [HEK.out]
    go_wp2_with (fail)
    refine (size_any m (by omega) (by omega) _).mono ?_
    rintro e w1 ⟨rfl, hb⟩
    have F := E.later hb
    go_wp2_with (fail)
    go_ret
    exact ⟨⟨_, rfl, RM.out⟩, F.b⟩
  · have RM : Hid (RoomR ⟨bs, ⟨some ⟨k, o, none⟩, pn, pc, pf⟩, h0, h1', h2', h3, ⟨some ⟨k', o', none⟩, on, oc, of⟩, i_, e_⟩ u ((pf (u / 8).toNat - 8) * 8)) := RY.out z _ (.inr ⟨⟨e10, e12⟩, rfl⟩)
    have ek : kdM (pf (u / 8).toNat) = -1 := by simp only [kdM]; rw [if_neg (by omega)]
    clear z OP RY
    go_enter Tryd.func94, Tryd.ntmps94
    go_wp2_with (fail)
    refine (kd_any _ _).mono ?_
    rintro e w1 ⟨rfl, rfl⟩
    rw [ek]
    clear ek
    go_wp2_with (fail)
    go_ret
    exact ⟨⟨_, rfl, RM.out⟩, E.b⟩

def RoomQ (b : Bx) (u r : Int) : Prop := (OkP b ∧ RoomR b u r) ∨ (¬ OkP b ∧ r = 0)
theorem roomq_one {b : Bx} {u r r' : Int} (h : RoomQ b u r) (h' : RoomQ b u r') : r = r' := by
  rcases h with ⟨h, g⟩ | ⟨h, rfl⟩ <;> rcases h' with ⟨h', g'⟩ | ⟨h', rfl⟩
  · exact room_one g g'
  · exact absurd h h'
  · exact absurd h' h
  · rfl
theorem roomq_m {b c : Bx} (h : b.m = c.m) (u r : Int) : RoomQ b u r ↔ RoomQ c u r := by
  unfold RoomQ
  rw [ok_m h, room_m h]

set_option maxRecDepth 100000 in
set_option maxHeartbeats 8000000 in
theorem room_any (b : Bx) (u : Int) (w : World) (h : b.At w) (hn : b.total ≤ 1000000000) (hx : b.o.n ≤ b.o.c) :
    Calls Tryd.prog 17 #[.agg b.cells.toArray, .int .i64 u] w fun e w' => (∃ r, e = .returned (.int .i64 r) ∧ RoomQ b u r) ∧ Below w.heap.size w w' := by
  have E : Ent w b (w.alloc (.cells #[.int .i64 b.s, .slice b.p.a b.p.n b.p.c, .slice b.h0.a b.h0.n b.h0.c, .slice b.h1.a b.h1.n b.h1.c, .slice b.h2.a b.h2.n b.h2.c, .slice b.h3.a b.h3.n b.h3.c, .slice b.o.a b.o.n b.o.c, .slice b.i.a b.i.n b.i.c, .slice b.e.a b.e.n b.e.c] 26)) := Ent.start h 26
  simp only [Bx.cells]
  go_enter Tryd.func17, Tryd.ntmps17
  go_wp2_with (fail)
  generalize w.alloc (.cells #[.int .i64 b.s, .slice b.p.a b.p.n b.p.c, .slice b.h0.a b.h0.n b.h0.c, .slice b.h1.a b.h1.n b.h1.c, .slice b.h2.a b.h2.n b.h2.c, .slice b.h3.a b.h3.n b.h3.c, .slice b.o.a b.o.n b.o.c, .slice b.i.a b.i.n b.i.c, .slice b.e.a b.e.n b.e.c] 26) = W at E ⊢
  refine (ok_any b W E.a hn hx).mono ?_
  rintro e w1 ⟨⟨r, rfl, hr⟩, hb⟩
  replace E := E.later hb
  clear hb
  cases r
  · go_wp2_with (fail)
    go_ret
    exact ⟨⟨0, rfl, .inr ⟨hr.f, rfl⟩⟩, E.b⟩
  have OK : Hid (OkP b) := hr.t
  clear hr
  obtain ⟨u0, u1, u2, u3, u4, u5, u6, u7, u8⟩ := nine E.r
  go_wp2_with (fail)
  refine (units_any b u _ E.a OK.out).mono ?_
  rintro e w2 ⟨⟨r, rfl, hr⟩, hb⟩
  have F := E.later hb
  go_wp2_with (fail)
  go_ret
  exact ⟨⟨r, rfl, .inl ⟨OK.out, hr⟩⟩, F.b⟩

end Go.Proofs.YtbipolfbkemmpaaDoor.Book

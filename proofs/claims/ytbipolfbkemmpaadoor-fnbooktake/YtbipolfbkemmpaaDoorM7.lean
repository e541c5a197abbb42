import Derived.Test.YtbipolfbkemmpaaDoorM5
import Derived.Test.YtbipolfbkemmpaaDoorM6

/- What the program asks of a book: its parts. -/
namespace Go.Proofs.YtbipolfbkemmpaaDoor.Book
open Go.ChangeShapes Go.WideShapes Go.ChangeAt Go.RowKit
open Aid Lst
set_option maxRecDepth 100000
set_option linter.unusedVariables false

set_option maxHeartbeats 1000000 in
theorem isslot_any (b : Bx) (n : Int) (w : World) :
    Calls Tryd.prog 51 #[.agg b.cells.toArray, .int .i64 n] w fun e w' => Says e (0 ≤ n ∧ n < b.s) ∧ Below w.heap.size w w' := by
  simp only [Bx.cells]
  by_cases h1 : 0 ≤ n <;> by_cases h2 : n < b.s
  all_goals
    go_enter Tryd.func51, Tryd.ntmps51
    go_wp2_with (fail)
    go_ret
  · exact ⟨Says.yes ⟨h1, h2⟩, below1 _ _⟩
  · exact ⟨Says.no (fun h => by omega), below1 _ _⟩
  · exact ⟨Says.no (fun h => by omega), below1 _ _⟩
  · exact ⟨Says.no (fun h => by omega), below1 _ _⟩

set_option maxHeartbeats 2000000 in
theorem isin_any (b : Bx) (n : Int) (w : World) (h : b.At w) (hs : b.s ≤ b.i.n) :
    Calls Tryd.prog 42 #[.agg b.cells.toArray, .int .i64 n] w fun e w' => Says e ((0 ≤ n ∧ n < b.s) ∧ b.i.f n.toNat ≠ 0) ∧ Below w.heap.size w w' := by
  have E := Ent.start h 26
  simp only [Bx.cells] at E ⊢
  go_enter Tryd.func42, Tryd.ntmps42
  go_wp2_with (fail)
  refine (isslot_any b n _).mono ?_
  rintro e w1 ⟨⟨r, rfl, hr⟩, hb⟩
  replace E := E.later hb
  clear hb
  obtain ⟨u0, u1, u2, u3, u4, u5, u6, u7, u8⟩ := nine E.r
  cases r
  · go_wp2_with (fail)
    go_ret
    exact ⟨Says.no (fun g => hr.f g.1), E.b⟩
  obtain ⟨m, rfl⟩ : ∃ m : Nat, n = m := ⟨n.toNat, by have := hr.t.1; omega⟩
  have i1 : (m : Int) < b.i.n := by have := hr.t.2; omega
  obtain ⟨k, o, ea, hc⟩ := E.a.i.cells (by omega)
  have c1 := hc m (by omega)
  rw [ea] at u7
  clear ea hc
  go_wp2_with (fail)
  go_ret
  refine ⟨⟨_, rfl, ?_⟩, E.b⟩
  have t := hr.t
  unfold Tell
  rw [bne_iff_ne]
  exact ⟨fun h => ⟨t, h⟩, fun h => h.2⟩

/- How many units have an owner, of n from one on. -/
def ownC (o : Nat → Int) (u : Nat) : Nat → Nat
  | 0 => 0
  | n + 1 => ownC o u n + (if o (u + n) = 0 then 0 else 1)
theorem ownC_le (o : Nat → Int) (u : Nat) : ∀ n, ownC o u n ≤ n
  | 0 => Nat.le_refl _
  | n + 1 => by have := ownC_le o u n; simp only [ownC]; split <;> omega

set_option maxRecDepth 100000 in
set_option maxHeartbeats 2000000 in
theorem owners_any (b : Bx) (q : Nat) (w : World) (h : b.At w) (hq : (q + 1) * 8 ≤ b.o.n) (hn : b.o.n ≤ 1000) (hcap : b.o.n ≤ b.o.c) :
    Calls Tryd.prog 81 #[.agg b.cells.toArray, .int .i64 q] w fun e w' => e = .returned (.int .i64 (ownC b.o.f (q * 8) 8)) ∧ Below w.heap.size w w' := by
  obtain ⟨k, o, ea, hc⟩ := h.o.cells (by omega)
  obtain ⟨bs, p_, h0, h1, h2, h3, ⟨oa, on, oc, of⟩, i_, e_⟩ := b
  simp only at ea hq hn hc hcap
  subst ea
  have E : Ent w ⟨bs, p_, h0, h1, h2, h3, ⟨some ⟨k, o, none⟩, on, oc, of⟩, i_, e_⟩ (w.alloc (.cells #[.int .i64 bs, .slice p_.a p_.n p_.c, .slice h0.a h0.n h0.c, .slice h1.a h1.n h1.c, .slice h2.a h2.n h2.c, .slice h3.a h3.n h3.c, .slice (some ⟨k, o, none⟩) on oc, .slice i_.a i_.n i_.c, .slice e_.a e_.n e_.c] 26)) := Ent.start h 26
  simp only [Bx.cells]
  have i1 : (q : Int) * 8 ≤ ((q : Int) + 1) * 8 := by omega
  have i2 : ((q : Int) + 1) * 8 ≤ oc := by omega
  have i3 : ((q : Int) * 8).toNat = q * 8 := by omega
  have i4 : (((q : Int) + 1) * 8).toNat = (q + 1) * 8 := by omega
  go_enter Tryd.func81, Tryd.ntmps81
  go_wp2_with (fail)
  rw [show (q + 1) * 8 - q * 8 = 8 by omega]
  clear i1 i2 i3 i4
  generalize w.alloc (.cells #[.int .i64 bs, .slice p_.a p_.n p_.c, .slice h0.a h0.n h0.c, .slice h1.a h1.n h1.c, .slice h2.a h2.n h2.c, .slice h3.a h3.n h3.c, .slice (some ⟨k, o, none⟩) on oc, .slice i_.a i_.n i_.c, .slice e_.a e_.n e_.c] 26) = W at E ⊢
  go_loop [5, 17] (fun c i => ∃ m : Nat, m ≤ 8 ∧ i = .int .i64 m ∧ c = .int .i64 (ownC of (q * 8) m)) (fun _ i => 8 - (intOf i).toNat)
  case atStart => exact ⟨0, by omega, rfl, rfl⟩
  case round =>
    obtain ⟨m, hm, rfl, rfl⟩ := hrel
    have hle := ownC_le of (q * 8) m
    by_cases lt : (m : Int) < 8
    · have c1 : W.cell? ⟨k, o + q * 8 + m, none⟩ = some (.int .i64 (of (q * 8 + m))) := by
        have e := hc (q * 8 + m) (by omega)
        rw [Nat.add_assoc, E.b.cell (p := ⟨k, o + (q * 8 + m), none⟩) (World.block_lt_of_cell? w _ e)]; exact e
      by_cases e : of (q * 8 + m) = 0
      · rw [e] at c1
        have E0 : Hid (of (q * 8 + m) = 0) := e
        clear e
        go_wp2_with (fail)
        go_round
        case rel => exact ⟨m + 1, by omega, by go_num, by simp only [ownC, if_pos E0.out]; rfl⟩
        case measure => simp [intOf]; omega
      · go_wp2_with (fail)
        go_round
        case rel => exact ⟨m + 1, by omega, by go_num, by simp only [ownC, if_neg e]; go_num⟩
        case measure => simp [intOf]; omega
    · obtain rfl : m = 8 := by omega
      go_wp2_with (fail)
      go_ret
      exact ⟨rfl, E.b⟩

set_option maxRecDepth 100000 in
set_option maxHeartbeats 4000000 in
theorem begins_any (b : Bx) (k : Nat) (u : Int) (w : World) (h : b.At w) (hk : k < 4) (hon : b.o.n ≤ b.p.n * 8) (hpn : b.p.n ≤ 100) :
    Calls Tryd.prog 80 #[.agg b.cells.toArray, .int .i64 k, .int .i64 u] w fun e w' => Says e (BegP b k u) ∧ Below w.heap.size w w' := by
  by_cases h1 : 0 ≤ u
  case neg =>
    simp only [Bx.cells]
    go_enter Tryd.func80, Tryd.ntmps80
    go_wp2_with (fail)
    go_ret
    exact ⟨Says.no (fun g => by have := g.1; omega), below1 _ _⟩
  by_cases h2 : u < b.o.n
  case neg =>
    simp only [Bx.cells]
    go_enter Tryd.func80, Tryd.ntmps80
    go_wp2_with (fail)
    go_ret
    exact ⟨Says.no (fun g => by have := g.2.1; omega), below1 _ _⟩
  obtain ⟨kk, o, ea, hc⟩ := h.p.cells (by omega)
  obtain ⟨bs, ⟨pa, pn, pc, pf⟩, h0, h1', h2', h3, o_, i_, e_⟩ := b
  simp only at ea hon hpn hc h2
  subst ea
  have E : Ent w ⟨bs, ⟨some ⟨kk, o, none⟩, pn, pc, pf⟩, h0, h1', h2', h3, o_, i_, e_⟩ (w.alloc (.cells #[.int .i64 bs, .slice (some ⟨kk, o, none⟩) pn pc, .slice h0.a h0.n h0.c, .slice h1'.a h1'.n h1'.c, .slice h2'.a h2'.n h2'.c, .slice h3.a h3.n h3.c, .slice o_.a o_.n o_.c, .slice i_.a i_.n i_.c, .slice e_.a e_.n e_.c] 26)) := Ent.start h 26
  have c1 : (w.alloc (.cells #[.int .i64 bs, .slice (some ⟨kk, o, none⟩) pn pc, .slice h0.a h0.n h0.c, .slice h1'.a h1'.n h1'.c, .slice h2'.a h2'.n h2'.c, .slice h3.a h3.n h3.c, .slice o_.a o_.n o_.c, .slice i_.a i_.n i_.c, .slice e_.a e_.n e_.c] 26)).cell? ⟨kk, o + (u / 8).toNat, none⟩ = some (.int .i64 (pf (u / 8).toNat)) := by
    have e := hc (u / 8).toNat (by omega)
    rw [(below1 w _).cell (p := ⟨kk, o + (u / 8).toNat, none⟩) (World.block_lt_of_cell? w _ e)]; exact e
  have i1 : u / 8 < pn := by omega
  have i2 : 0 ≤ u / 8 := by omega
  have i3 : u ≤ 10000 := by omega
  have HI : Hid (BegP ⟨bs, ⟨some ⟨kk, o, none⟩, pn, pc, pf⟩, h0, h1', h2', h3, o_, i_, e_⟩ k u ↔ (pf (u / 8).toNat = k + 1 ∧ u % sz k ≤ 0)) := ⟨fun g => ⟨g.2.2.1, g.2.2.2⟩, fun g => ⟨h1, h2, g.1, g.2⟩⟩
  generalize hy : pf (u / 8).toNat = y at c1 HI
  clear hc hy
  simp only [Bx.cells]
  by_cases ey : y = (k : Int) + 1
  case neg =>
    go_enter Tryd.func80, Tryd.ntmps80
    go_wp2_with (fail)
    go_ret
    exact ⟨Says.no (fun g => ey (HI.out.1 g).1), E.b⟩
  subst ey
  obtain rfl | rfl | rfl | rfl : k = 0 ∨ k = 1 ∨ k = 2 ∨ k = 3 := by omega
  · go_enter Tryd.func80, Tryd.ntmps80
    go_wp2_with (fail)
    go_ret
    exact ⟨Says.yes (HI.out.2 (by simp [sz])), E.b⟩
  · go_enter Tryd.func80, Tryd.ntmps80
    go_wp2_with (fail)
    go_ret
    refine ⟨⟨_, rfl, ?_⟩, E.b⟩
    unfold Tell
    rw [beq_iff_eq]
    refine ⟨fun h => HI.out.2 ?_, fun g => ?_⟩
    · simp [sz]; omega
    · have := HI.out.1 g
      simp [sz] at this
      omega
  · go_enter Tryd.func80, Tryd.ntmps80
    go_wp2_with (fail)
    go_ret
    refine ⟨⟨_, rfl, ?_⟩, E.b⟩
    unfold Tell
    rw [beq_iff_eq]
    refine ⟨fun h => HI.out.2 ?_, fun g => ?_⟩
    · simp [sz]; omega
    · have := HI.out.1 g
      simp [sz] at this
      omega
  · go_enter Tryd.func80, Tryd.ntmps80
    go_wp2_with (fail)
    go_ret
    refine ⟨⟨_, rfl, ?_⟩, E.b⟩
    unfold Tell
    rw [beq_iff_eq]
    refine ⟨fun h => HI.out.2 ?_, fun g => ?_⟩
    · simp [sz]; omega
    · have := HI.out.1 g
      simp [sz] at this
      omega

def Len4P (b : Bx) (n : Nat) : Prop := ∀ k, k < n → (b.hd k).n ≤ b.o.n

set_option maxRecDepth 100000 in
set_option maxHeartbeats 4000000 in
theorem lens_any (b : Bx) (w : World) (h : b.At w) (hn : b.total ≤ 1000000000) :
    Calls Tryd.prog 34 #[.agg b.cells.toArray] w fun e w' => Says e (LensP b ∧ Len4P b 4) ∧ Below w.heap.size w w' := by
  have E := Ent.start h 26
  obtain ⟨ix0, ix1, ix2, ix3⟩ := ix4 b.h0.a b.h1.a b.h2.a b.h3.a b.h0.n b.h0.c b.h1.n b.h1.c b.h2.n b.h2.c b.h3.n b.h3.c
  simp only [Bx.total] at hn
  simp only [Bx.cells] at E ⊢
  go_enter Tryd.func34, Tryd.ntmps34
  go_wp2_with (fail)
  generalize w.alloc (.cells #[.int .i64 b.s, .slice b.p.a b.p.n b.p.c, .slice b.h0.a b.h0.n b.h0.c, .slice b.h1.a b.h1.n b.h1.c, .slice b.h2.a b.h2.n b.h2.c, .slice b.h3.a b.h3.n b.h3.c, .slice b.o.a b.o.n b.o.c, .slice b.i.a b.i.n b.i.c, .slice b.e.a b.e.n b.e.c] 26) = W at E ⊢
  obtain ⟨u0, u1, u2, u3, u4, u5, u6, u7, u8⟩ := nine E.r
  clear u2 u3 u4 u5
  refine wp_loop_rounds 5 ?_
  rw [rounds_succ]
  by_cases t0 : (b.h0.n : Int) > b.o.n
  · go_wp2_with (fail)
    go_ret
    exact ⟨Says.no (fun g => by have e := g.2 0 (by omega); simp [Bx.hd] at e; omega), E.b⟩
  go_wp2_with (fail)
  rw [rounds_succ]
  by_cases t1 : (b.h1.n : Int) > b.o.n
  · go_wp2_with (fail)
    go_ret
    exact ⟨Says.no (fun g => by have e := g.2 1 (by omega); simp [Bx.hd] at e; omega), E.b⟩
  go_wp2_with (fail)
  rw [rounds_succ]
  by_cases t2 : (b.h2.n : Int) > b.o.n
  · go_wp2_with (fail)
    go_ret
    exact ⟨Says.no (fun g => by have e := g.2 2 (by omega); simp [Bx.hd] at e; omega), E.b⟩
  go_wp2_with (fail)
  rw [rounds_succ]
  by_cases t3 : (b.h3.n : Int) > b.o.n
  · go_wp2_with (fail)
    go_ret
    exact ⟨Says.no (fun g => by have e := g.2 3 (by omega); simp [Bx.hd] at e; omega), E.b⟩
  go_wp2_with (fail)
  have L4 : Hid (Len4P b 4) := fun k hk => by
    obtain rfl | rfl | rfl | rfl : k = 0 ∨ k = 1 ∨ k = 2 ∨ k = 3 := by omega
    all_goals simp [Bx.hd]; omega
  clear t0 t1 t2 t3
  rw [rounds_succ]
  go_wp2_with (fail)
  refine (within_any b.s 1 4 _).mono ?_
  rintro e w1 ⟨rfl, rfl⟩
  by_cases p1 : 1 ≤ b.s ∧ b.s ≤ 4
  case neg =>
    rw [decide_eq_false p1]
    go_wp2_with (fail)
    go_ret
    exact ⟨Says.no (fun g => by have := g.1.1; have := g.1.2.1; omega), E.b⟩
  rw [decide_eq_true p1]
  go_wp2_with (fail)
  refine (within_any b.p.n 1 6 _).mono ?_
  rintro e w1 ⟨rfl, rfl⟩
  by_cases p2 : 1 ≤ (b.p.n : Int) ∧ (b.p.n : Int) ≤ 6
  case neg =>
    rw [decide_eq_false p2]
    go_wp2_with (fail)
    go_ret
    exact ⟨Says.no (fun g => by have := g.1.2.2.2.2.1; have := g.1.2.2.2.2.2.1; omega), E.b⟩
  rw [decide_eq_true p2]
  obtain ⟨p21, p22⟩ := p2
  by_cases p3 : (b.o.n : Int) = b.p.n * 8
  case neg =>
    go_wp2_with (fail)
    go_ret
    exact ⟨Says.no (fun g => p3 g.1.2.2.2.2.2.2), E.b⟩
  by_cases p4 : (b.i.n : Int) = b.s
  case neg =>
    go_wp2_with (fail)
    go_ret
    exact ⟨Says.no (fun g => p4 g.1.2.2.1), E.b⟩
  by_cases p5 : (b.e.n : Int) = b.s
  case neg =>
    go_wp2_with (fail)
    go_ret
    exact ⟨⟨_, rfl, by unfold Tell; rw [beq_iff_eq]; exact ⟨fun h => absurd h p5, fun g => g.1.2.2.2.1⟩⟩, E.b⟩
  have LP : Hid (LensP b) := ⟨p1.1, p1.2, p4, p5, p21, p22, p3⟩
  go_wp2_with (fail)
  go_ret
  exact ⟨Says.yes ⟨LP.out, L4.out⟩, E.b⟩

set_option maxRecDepth 100000 in
set_option maxHeartbeats 4000000 in
theorem ins_any (b : Bx) (w : World) (h : b.At w) (hl : LensP b) :
    Calls Tryd.prog 35 #[.agg b.cells.toArray] w fun e w' => Says e (InsP b b.i.n) ∧ Below w.heap.size w w' := by
  obtain ⟨l1, l2, l3, l4, l5, l6, l7⟩ := hl
  obtain ⟨k, o, ea, hc⟩ := h.i.cells (by omega)
  obtain ⟨bs, p_, h0, h1, h2, h3, o_, ⟨ia, in_, ic, if_⟩, e_⟩ := b
  simp only at ea hc l1 l2 l3 l4 l5 l6 l7
  subst ea
  have E : Ent w ⟨bs, p_, h0, h1, h2, h3, o_, ⟨some ⟨k, o, none⟩, in_, ic, if_⟩, e_⟩ (w.alloc (.cells #[.int .i64 bs, .slice p_.a p_.n p_.c, .slice h0.a h0.n h0.c, .slice h1.a h1.n h1.c, .slice h2.a h2.n h2.c, .slice h3.a h3.n h3.c, .slice o_.a o_.n o_.c, .slice (some ⟨k, o, none⟩) in_ ic, .slice e_.a e_.n e_.c] 26)) := Ent.start h 26
  have n1 : in_ ≤ 4 := by omega
  have n2 : in_ ≤ e_.n := by omega
  have n3 : 1 ≤ in_ := by omega
  clear l1 l2 l3 l4 l5 l6 l7
  simp only [Bx.cells]
  go_enter Tryd.func35, Tryd.ntmps35
  go_wp2_with (fail)
  generalize w.alloc (.cells #[.int .i64 bs, .slice p_.a p_.n p_.c, .slice h0.a h0.n h0.c, .slice h1.a h1.n h1.c, .slice h2.a h2.n h2.c, .slice h3.a h3.n h3.c, .slice o_.a o_.n o_.c, .slice (some ⟨k, o, none⟩) in_ ic, .slice e_.a e_.n e_.c] 26) = W at E ⊢
  obtain ⟨-, -, -, -, -, -, -, -, u8⟩ := nine E.r
  obtain ⟨k2, o2, e2, he⟩ := E.a.e.cells (by show 0 < e_.n; omega)
  simp only at u8 e2 he
  rw [e2] at u8
  clear e2
  go_loop [9] (fun i => ∃ j : Nat, j ≤ in_ ∧ i = .int .i64 j ∧ InsP ⟨bs, p_, h0, h1, h2, h3, o_, ⟨some ⟨k, o, none⟩, in_, ic, if_⟩, e_⟩ j) (fun i => in_ - (intOf i).toNat)
  case atStart => exact ⟨0, by omega, rfl, fun j h => absurd h (Nat.not_lt_zero _)⟩
  case round =>
    obtain ⟨j, hj, rfl, hI⟩ := hrel
    have HI : Hid (InsP ⟨bs, p_, h0, h1, h2, h3, o_, ⟨some ⟨k, o, none⟩, in_, ic, if_⟩, e_⟩ j) := hI
    clear hI
    by_cases lt : (j : Int) < in_
    · have c1 : W.cell? ⟨k, o + j, none⟩ = some (.int .i64 (if_ j)) := by
        have e := hc j (by omega)
        rw [E.b.cell (p := ⟨k, o + j, none⟩) (World.block_lt_of_cell? w _ e)]; exact e
      have c2 := he j (by omega)
      have i2 : (j : Int) < e_.n := by omega
      have bad : Hid (¬ InU ⟨bs, p_, h0, h1, h2, h3, o_, ⟨some ⟨k, o, none⟩, in_, ic, if_⟩, e_⟩ j → ¬ InsP ⟨bs, p_, h0, h1, h2, h3, o_, ⟨some ⟨k, o, none⟩, in_, ic, if_⟩, e_⟩ in_) := fun g q => g (q j (by omega))
      clear hc he
      go_wp2_with (fail)
      refine (within_any (if_ j) 0 2 _).mono ?_
      rintro e w1 ⟨rfl, rfl⟩
      by_cases p1 : 0 ≤ if_ j ∧ if_ j ≤ 2
      case neg =>
        rw [decide_eq_false p1]
        go_wp2_with (fail)
        go_ret
        exact ⟨Says.no (bad.out (fun g => p1 ⟨g.1, g.2.1⟩)), E.b⟩
      rw [decide_eq_true p1]
      go_wp2_with (fail)
      refine (within_any (e_.f j) 0 4095 _).mono ?_
      rintro e w1 ⟨rfl, rfl⟩
      by_cases p2 : 0 ≤ e_.f j ∧ e_.f j ≤ 4095
      case neg =>
        rw [decide_eq_false p2]
        go_wp2_with (fail)
        go_ret
        exact ⟨Says.no (bad.out (fun g => p2 ⟨g.2.2.1, g.2.2.2.1⟩)), E.b⟩
      rw [decide_eq_true p2]
      have P1 : Hid (0 ≤ if_ j ∧ if_ j ≤ 2) := p1
      have P2 : Hid (0 ≤ e_.f j ∧ e_.f j ≤ 4095) := p2
      clear p1 p2
      by_cases p3 : if_ j = 0
      · go_wp2_with (fail)
        go_round
        case rel => exact ⟨j + 1, by omega, by go_num, HI.out.up ⟨P1.out.1, P1.out.2, P2.out.1, P2.out.2, fun _ => by show if_ j ≤ 0; omega⟩⟩
        case measure => simp [intOf]; omega
      · by_cases p4 : e_.f j = 0
        · go_wp2_with (fail)
          go_ret
          exact ⟨Says.no (bad.out (fun g => by have h1 : if_ j ≤ 0 := g.2.2.2.2 p4; have h2 : 0 ≤ if_ j := g.1; omega)), E.b⟩
        · have b3 : (if_ j != 0) = true := by simp [p3]
          have b4 : (e_.f j == 0) = false := by simp [p4]
          have P4 : Hid (¬ e_.f j = 0) := p4
          clear p3 p4
          go_wp2_with (fail)
          go_round
          case rel => exact ⟨j + 1, by omega, by go_num, HI.out.up ⟨P1.out.1, P1.out.2, P2.out.1, P2.out.2, fun h => absurd h P4.out⟩⟩
          case measure => simp [intOf]; omega
    · have ej : j = in_ := by omega
      have HA : Hid (InsP ⟨bs, p_, h0, h1, h2, h3, o_, ⟨some ⟨k, o, none⟩, in_, ic, if_⟩, e_⟩ in_) := by unfold Hid; rw [← ej]; exact HI.out
      clear ej HI
      go_wp2_with (fail)
      go_ret
      exact ⟨Says.yes HA.out, E.b⟩

set_option maxRecDepth 100000 in
set_option maxHeartbeats 4000000 in
theorem owns_any (b : Bx) (w : World) (h : b.At w) (hl : LensP b) :
    Calls Tryd.prog 36 #[.agg b.cells.toArray] w fun e w' => Says e (OwnsP b b.o.n) ∧ Below w.heap.size w w' := by
  obtain ⟨l1, l2, l3, l4, l5, l6, l7⟩ := hl
  obtain ⟨k, o, ea, hc⟩ := h.o.cells (by omega)
  obtain ⟨bs, p_, h0, h1, h2, h3, ⟨oa, on, oc, of⟩, i_, e_⟩ := b
  simp only at ea hc l1 l2 l3 l4 l5 l6 l7
  subst ea
  have E : Ent w ⟨bs, p_, h0, h1, h2, h3, ⟨some ⟨k, o, none⟩, on, oc, of⟩, i_, e_⟩ (w.alloc (.cells #[.int .i64 bs, .slice p_.a p_.n p_.c, .slice h0.a h0.n h0.c, .slice h1.a h1.n h1.c, .slice h2.a h2.n h2.c, .slice h3.a h3.n h3.c, .slice (some ⟨k, o, none⟩) on oc, .slice i_.a i_.n i_.c, .slice e_.a e_.n e_.c] 26)) := Ent.start h 26
  have n1 : bs ≤ i_.n := by omega
  have n2 : bs ≤ 4 := by omega
  have n3 : 1 ≤ bs := by omega
  have n4 : on ≤ 48 := by omega
  clear l1 l2 l3 l4 l5 l6 l7
  simp only [Bx.cells]
  go_enter Tryd.func36, Tryd.ntmps36
  go_wp2_with (fail)
  generalize w.alloc (.cells #[.int .i64 bs, .slice p_.a p_.n p_.c, .slice h0.a h0.n h0.c, .slice h1.a h1.n h1.c, .slice h2.a h2.n h2.c, .slice h3.a h3.n h3.c, .slice (some ⟨k, o, none⟩) on oc, .slice i_.a i_.n i_.c, .slice e_.a e_.n e_.c] 26) = W at E ⊢
  go_loopw [8] (fun i wr => ∃ u : Nat, u ≤ on ∧ i = .int .i64 u ∧ OwnsP ⟨bs, p_, h0, h1, h2, h3, ⟨some ⟨k, o, none⟩, on, oc, of⟩, i_, e_⟩ u ∧ Ent w ⟨bs, p_, h0, h1, h2, h3, ⟨some ⟨k, o, none⟩, on, oc, of⟩, i_, e_⟩ wr) (fun i _ => on - (intOf i).toNat)
  case atStart => exact ⟨0, by omega, rfl, fun j h => absurd h (Nat.not_lt_zero _), E⟩
  case round =>
    obtain ⟨u, hu, rfl, hI, F⟩ := hrel
    have HI : Hid (OwnsP ⟨bs, p_, h0, h1, h2, h3, ⟨some ⟨k, o, none⟩, on, oc, of⟩, i_, e_⟩ u) := hI
    clear hI E
    obtain ⟨u0, u1, u2, u3, u4, u5, u6, u7, u8⟩ := nine F.r
    simp only at u0 u1 u2 u3 u4 u5 u6 u7 u8
    by_cases lt : (u : Int) < on
    · have c1 : wr.cell? ⟨k, o + u, none⟩ = some (.int .i64 (of u)) := by
        have e := hc u (by omega)
        rw [F.b.cell (p := ⟨k, o + u, none⟩) (World.block_lt_of_cell? w _ e)]; exact e
      have bad : Hid (¬ OwnU ⟨bs, p_, h0, h1, h2, h3, ⟨some ⟨k, o, none⟩, on, oc, of⟩, i_, e_⟩ u → ¬ OwnsP ⟨bs, p_, h0, h1, h2, h3, ⟨some ⟨k, o, none⟩, on, oc, of⟩, i_, e_⟩ on) := fun g q => g (q u (by omega))
      clear hc
      go_wp2_with (fail)
      refine (within_any (of u) 0 bs _).mono ?_
      rintro e w1 ⟨rfl, rfl⟩
      by_cases p1 : 0 ≤ of u ∧ of u ≤ bs
      case neg =>
        rw [decide_eq_false p1]
        go_wp2_with (fail)
        go_ret
        exact ⟨Says.no (bad.out (fun g => p1 ⟨g.1, g.2.1⟩)), F.b⟩
      rw [decide_eq_true p1]
      obtain ⟨p11, p12⟩ := p1
      have P1 : Hid (0 ≤ of u ∧ of u ≤ bs) := ⟨p11, p12⟩
      by_cases p2 : of u = 0
      · go_wp2_with (fail)
        go_roundw
        case rel => exact ⟨u + 1, by omega, by go_num, HI.out.up ⟨P1.out.1, P1.out.2, fun h => by have h : 0 < of u := h; omega⟩, F⟩
        case measure => simp [intOf]; omega
      · go_wp2_with (fail)
        refine (isin_any ⟨bs, p_, h0, h1, h2, h3, ⟨some ⟨k, o, none⟩, on, oc, of⟩, i_, e_⟩ (of u - 1) _ F.a n1).mono ?_
        rintro e w2 ⟨⟨r, rfl, hr⟩, hb⟩
        have G := F.later hb
        clear hb F u0 u1 u2 u3 u4 u5 u6 u7 u8 c1
        cases r
        · go_wp2_with (fail)
          go_ret
          exact ⟨Says.no (bad.out (fun g => hr.f ⟨⟨by omega, by show of u - 1 < bs; omega⟩, g.2.2 (by show 0 < of u; omega)⟩)), G.b⟩
        · go_wp2_with (fail)
          go_roundw
          case rel => exact ⟨u + 1, by omega, by go_num, HI.out.up ⟨P1.out.1, P1.out.2, fun _ => hr.t.2⟩, G⟩
          case measure => simp [intOf]; omega
    · have ej : u = on := by omega
      have HA : Hid (OwnsP ⟨bs, p_, h0, h1, h2, h3, ⟨some ⟨k, o, none⟩, on, oc, of⟩, i_, e_⟩ on) := by unfold Hid; rw [← ej]; exact HI.out
      clear ej HI
      go_wp2_with (fail)
      go_ret
      exact ⟨Says.yes HA.out, F.b⟩

end Go.Proofs.YtbipolfbkemmpaaDoor.Book

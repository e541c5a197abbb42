/- What the program asks of a book: its parts. -/
import Derived.Test.YtlhfkackchcncaaM8
namespace Go.Proofs.Ytlhfkackchcncaa.Book
open Go.ChangeShapes Go.WideShapes Go.ChangeAt Go.RowKit
open Go.Proofs.Ytlhfkackchcncaa.Aid Go.Proofs.Ytlhfkackchcncaa.Lst
set_option maxRecDepth 100000
set_option linter.unusedVariables false

set_option maxHeartbeats 1000000 in
theorem isslot_any (b : Bx) (n : Int) (w : World) :
    Calls Try.prog 35 #[.agg b.cells.toArray, .int .i64 n] w fun e w' => Says e (0 ≤ n ∧ n < b.s) ∧ Below w.heap.size w w' := by
  simp only [Bx.cells]
  by_cases h1 : 0 ≤ n <;> by_cases h2 : n < b.s
  all_goals
    go_enter Try.func35, Try.ntmps35
    go_wp2_with (fail)
    go_ret
  · exact ⟨Says.yes ⟨h1, h2⟩, below1 _ _⟩
  · exact ⟨Says.no (fun h => by omega), below1 _ _⟩
  · exact ⟨Says.no (fun h => by omega), below1 _ _⟩
  · exact ⟨Says.no (fun h => by omega), below1 _ _⟩

set_option maxHeartbeats 2000000 in
theorem isin_any (b : Bx) (n : Int) (w : World) (h : b.At w) (hs : b.s ≤ b.i.n) :
    Calls Try.prog 26 #[.agg b.cells.toArray, .int .i64 n] w fun e w' => Says e ((0 ≤ n ∧ n < b.s) ∧ b.i.f n.toNat ≠ 0) ∧ Below w.heap.size w w' := by
  have E := Ent.start h 26
  simp only [Bx.cells] at E ⊢
  go_enter Try.func26, Try.ntmps26
  go_wp2_with (fail)
  refine (isslot_any b n _).mono ?_
  rintro e w1 ⟨⟨r, rfl, hr⟩, hb⟩
  replace E := E.later hb
  clear hb
  obtain ⟨u0, u1, u2, u3, u4, u5, u6, u7, u8⟩ := nine E.r
  cases r
  · go_wp2_with (fail)
    go_ret
    exact ⟨Says.no (fun g => hr.f g.1), E.b⟩
  obtain ⟨m, rfl⟩ : ∃ m : Nat, n = m := ⟨n.toNat, by have := hr.t.1; omega⟩
  have i1 : (m : Int) < b.i.n := by have := hr.t.2; omega
  obtain ⟨k, o, ea, hc⟩ := E.a.i.cells (by omega)
  have c1 := hc m (by omega)
  rw [ea] at u7
  clear ea hc
  go_wp2_with (fail)
  go_ret
  refine ⟨⟨_, rfl, ?_⟩, E.b⟩
  have t := hr.t
  unfold Tell
  rw [bne_iff_ne]
  exact ⟨fun h => ⟨t, h⟩, fun h => h.2⟩

/- How many units have an owner, of n from one on. -/
def ownC (o : Nat → Int) (u : Nat) : Nat → Nat
  | 0 => 0
  | n + 1 => ownC o u n + (if o (u + n) = 0 then 0 else 1)
theorem ownC_le (o : Nat → Int) (u : Nat) : ∀ n, ownC o u n ≤ n
  | 0 => Nat.le_refl _
  | n + 1 => by have := ownC_le o u n; simp only [ownC]; split <;> omega

set_option maxRecDepth 100000 in
set_option maxHeartbeats 2000000 in
theorem owners_any (b : Bx) (q : Nat) (w : World) (h : b.At w) (hq : (q + 1) * 8 ≤ b.o.n) (hn : b.o.n ≤ 1000) (hcap : b.o.n ≤ b.o.c) :
    Calls Try.prog 41 #[.agg b.cells.toArray, .int .i64 q] w fun e w' => e = .returned (.int .i64 (ownC b.o.f (q * 8) 8)) ∧ Below w.heap.size w w' := by
  obtain ⟨k, o, ea, hc⟩ := h.o.cells (by omega)
  obtain ⟨bs, p_, h0, h1, h2, h3, ⟨oa, on, oc, of⟩, i_, e_⟩ := b
  simp only at ea hq hn hc hcap
  subst ea
  have E : Ent w ⟨bs, p_, h0, h1, h2, h3, ⟨some ⟨k, o, none⟩, on, oc, of⟩, i_, e_⟩ (w.alloc (.cells #[.int .i64 bs, .slice p_.a p_.n p_.c, .slice h0.a h0.n h0.c, .slice h1.a h1.n h1.c, .slice h2.a h2.n h2.c, .slice h3.a h3.n h3.c, .slice (some ⟨k, o, none⟩) on oc, .slice i_.a i_.n i_.c, .slice e_.a e_.n e_.c] 26)) := Ent.start h 26
  simp only [Bx.cells]
  have i1 : (q : Int) * 8 ≤ ((q : Int) + 1) * 8 := by omega
  have i2 : ((q : Int) + 1) * 8 ≤ oc := by omega
  have i3 : ((q : Int) * 8).toNat = q * 8 := by omega
  have i4 : (((q : Int) + 1) * 8).toNat = (q + 1) * 8 := by omega
  go_enter Try.func41, Try.ntmps41
  go_wp2_with (fail)
  rw [show (q + 1) * 8 - q * 8 = 8 by omega]
  clear i1 i2 i3 i4
  generalize w.alloc (.cells #[.int .i64 bs, .slice p_.a p_.n p_.c, .slice h0.a h0.n h0.c, .slice h1.a h1.n h1.c, .slice h2.a h2.n h2.c, .slice h3.a h3.n h3.c, .slice (some ⟨k, o, none⟩) on oc, .slice i_.a i_.n i_.c, .slice e_.a e_.n e_.c] 26) = W at E ⊢
  go_loop [5, 17] (fun c i => ∃ m : Nat, m ≤ 8 ∧ i = .int .i64 m ∧ c = .int .i64 (ownC of (q * 8) m)) (fun _ i => 8 - (intOf i).toNat)
  case atStart => exact ⟨0, by omega, rfl, rfl⟩
  case round =>
    obtain ⟨m, hm, rfl, rfl⟩ := hrel
    have hle := ownC_le of (q * 8) m
    by_cases lt : (m : Int) < 8
    · have c1 : W.cell? ⟨k, o + q * 8 + m, none⟩ = some (.int .i64 (of (q * 8 + m))) := by
        have e := hc (q * 8 + m) (by omega)
        rw [Nat.add_assoc, E.b.cell (p := ⟨k, o + (q * 8 + m), none⟩) (World.block_lt_of_cell? w _ e)]; exact e
      by_cases e : of (q * 8 + m) = 0
      · rw [e] at c1
        have E0 : Hid (of (q * 8 + m) = 0) := e
        clear e
        go_wp2_with (fail)
        go_round
        case rel => exact ⟨m + 1, by omega, by go_num, by simp only [ownC, if_pos E0.out]; rfl⟩
        case measure => simp [intOf]; omega
      · go_wp2_with (fail)
        go_round
        case rel => exact ⟨m + 1, by omega, by go_num, by simp only [ownC, if_neg e]; go_num⟩
        case measure => simp [intOf]; omega
    · obtain rfl : m = 8 := by omega
      go_wp2_with (fail)
      go_ret
      exact ⟨rfl, E.b⟩

set_option maxRecDepth 100000 in
set_option maxHeartbeats 4000000 in
theorem begins_any (b : Bx) (k : Nat) (u : Int) (w : World) (h : b.At w) (hk : k < 4) (hon : b.o.n ≤ b.p.n * 8) (hpn : b.p.n ≤ 100) :
    Calls Try.prog 40 #[.agg b.cells.toArray, .int .i64 k, .int .i64 u] w fun e w' => Says e (BegP b k u) ∧ Below w.heap.size w w' := by
  by_cases h1 : 0 ≤ u
  case neg =>
    simp only [Bx.cells]
    go_enter Try.func40, Try.ntmps40
    go_wp2_with (fail)
    go_ret
    exact ⟨Says.no (fun g => by have := g.1; omega), below1 _ _⟩
  by_cases h2 : u < b.o.n
  case neg =>
    simp only [Bx.cells]
    go_enter Try.func40, Try.ntmps40
    go_wp2_with (fail)
    go_ret
    exact ⟨Says.no (fun g => by have := g.2.1; omega), below1 _ _⟩
  obtain ⟨kk, o, ea, hc⟩ := h.p.cells (by omega)
  obtain ⟨bs, ⟨pa, pn, pc, pf⟩, h0, h1', h2', h3, o_, i_, e_⟩ := b
  simp only at ea hon hpn hc h2
  subst ea
  have E : Ent w ⟨bs, ⟨some ⟨kk, o, none⟩, pn, pc, pf⟩, h0, h1', h2', h3, o_, i_, e_⟩ (w.alloc (.cells #[.int .i64 bs, .slice (some ⟨kk, o, none⟩) pn pc, .slice h0.a h0.n h0.c, .slice h1'.a h1'.n h1'.c, .slice h2'.a h2'.n h2'.c, .slice h3.a h3.n h3.c, .slice o_.a o_.n o_.c, .slice i_.a i_.n i_.c, .slice e_.a e_.n e_.c] 26)) := Ent.start h 26
  have c1 : (w.alloc (.cells #[.int .i64 bs, .slice (some ⟨kk, o, none⟩) pn pc, .slice h0.a h0.n h0.c, .slice h1'.a h1'.n h1'.c, .slice h2'.a h2'.n h2'.c, .slice h3.a h3.n h3.c, .slice o_.a o_.n o_.c, .slice i_.a i_.n i_.c, .slice e_.a e_.n e_.c] 26)).cell? ⟨kk, o + (u / 8).toNat, none⟩ = some (.int .i64 (pf (u / 8).toNat)) := by
    have e := hc (u / 8).toNat (by omega)
    rw [(below1 w _).cell (p := ⟨kk, o + (u / 8).toNat, none⟩) (World.block_lt_of_cell? w _ e)]; exact e
  have i1 : u / 8 < pn := by omega
  have i2 : 0 ≤ u / 8 := by omega
  have i3 : u ≤ 10000 := by omega
  have HI : Hid (BegP ⟨bs, ⟨some ⟨kk, o, none⟩, pn, pc, pf⟩, h0, h1', h2', h3, o_, i_, e_⟩ k u ↔ (pf (u / 8).toNat = k + 1 ∧ u % sz k ≤ 0)) := ⟨fun g => ⟨g.2.2.1, g.2.2.2⟩, fun g => ⟨h1, h2, g.1, g.2⟩⟩
  generalize hy : pf (u / 8).toNat = y at c1 HI
  clear hc hy
  simp only [Bx.cells]
  by_cases ey : y = (k : Int) + 1
  case neg =>
    go_enter Try.func40, Try.ntmps40
    go_wp2_with (fail)
    go_ret
    exact ⟨Says.no (fun g => ey (HI.out.1 g).1), E.b⟩
  subst ey
  obtain rfl | rfl | rfl | rfl : k = 0 ∨ k = 1 ∨ k = 2 ∨ k = 3 := by omega
  · go_enter Try.func40, Try.ntmps40
    go_wp2_with (fail)
    go_ret
    exact ⟨Says.yes (HI.out.2 (by simp [sz])), E.b⟩
  · go_enter Try.func40, Try.ntmps40
    go_wp2_with (fail)
    go_ret
    refine ⟨⟨_, rfl, ?_⟩, E.b⟩
    unfold Tell
    rw [beq_iff_eq]
    refine ⟨fun h => HI.out.2 ?_, fun g => ?_⟩
    · simp [sz]; omega
    · have := HI.out.1 g
      simp [sz] at this
      omega
  · go_enter Try.func40, Try.ntmps40
    go_wp2_with (fail)
    go_ret
    refine ⟨⟨_, rfl, ?_⟩, E.b⟩
    unfold Tell
    rw [beq_iff_eq]
    refine ⟨fun h => HI.out.2 ?_, fun g => ?_⟩
    · simp [sz]; omega
    · have := HI.out.1 g
      simp [sz] at this
      omega
  · go_enter Try.func40, Try.ntmps40
    go_wp2_with (fail)
    go_ret
    refine ⟨⟨_, rfl, ?_⟩, E.b⟩
    unfold Tell
    rw [beq_iff_eq]
    refine ⟨fun h => HI.out.2 ?_, fun g => ?_⟩
    · simp [sz]; omega
    · have := HI.out.1 g
      simp [sz] at this
      omega

def Len4P (b : Bx) (n : Nat) : Prop := ∀ k, k < n → (b.hd k).n ≤ b.o.n

set_option maxRecDepth 100000 in
set_option maxHeartbeats 4000000 in
theorem lens_any (b : Bx) (w : World) (h : b.At w) (hn : b.total ≤ 1000000000) :
    Calls Try.prog 13 #[.agg b.cells.toArray] w fun e w' => Says e (LensP b ∧ Len4P b 4) ∧ Below w.heap.size w w' := by
  have E := Ent.start h 26
  obtain ⟨ix0, ix1, ix2, ix3⟩ := ix4 b.h0.a b.h1.a b.h2.a b.h3.a b.h0.n b.h0.c b.h1.n b.h1.c b.h2.n b.h2.c b.h3.n b.h3.c
  simp only [Bx.total] at hn
  simp only [Bx.cells] at E ⊢
  go_enter Try.func13, Try.ntmps13
  go_wp2_with (fail)
  generalize w.alloc (.cells #[.int .i64 b.s, .slice b.p.a b.p.n b.p.c, .slice b.h0.a b.h0.n b.h0.c, .slice b.h1.a b.h1.n b.h1.c, .slice b.h2.a b.h2.n b.h2.c, .slice b.h3.a b.h3.n b.h3.c, .slice b.o.a b.o.n b.o.c, .slice b.i.a b.i.n b.i.c, .slice b.e.a b.e.n b.e.c] 26) = W at E ⊢
  obtain ⟨u0, u1, u2, u3, u4, u5, u6, u7, u8⟩ := nine E.r
  clear u2 u3 u4 u5
  refine wp_loop_rounds 5 ?_
  rw [rounds_succ]
  by_cases t0 : (b.h0.n : Int) > b.o.n
  · go_wp2_with (fail)
    go_ret
    exact ⟨Says.no (fun g => by have e := g.2 0 (by omega); simp [Bx.hd] at e; omega), E.b⟩
  go_wp2_with (fail)
  rw [rounds_succ]
  by_cases t1 : (b.h1.n : Int) > b.o.n
  · go_wp2_with (fail)
    go_ret
    exact ⟨Says.no (fun g => by have e := g.2 1 (by omega); simp [Bx.hd] at e; omega), E.b⟩
  go_wp2_with (fail)
  rw [rounds_succ]
  by_cases t2 : (b.h2.n : Int) > b.o.n
  · go_wp2_with (fail)
    go_ret
    exact ⟨Says.no (fun g => by have e := g.2 2 (by omega); simp [Bx.hd] at e; omega), E.b⟩
  go_wp2_with (fail)
  rw [rounds_succ]
  by_cases t3 : (b.h3.n : Int) > b.o.n
  · go_wp2_with (fail)
    go_ret
    exact ⟨Says.no (fun g => by have e := g.2 3 (by omega); simp [Bx.hd] at e; omega), E.b⟩
  go_wp2_with (fail)
  have L4 : Hid (Len4P b 4) := fun k hk => by
    obtain rfl | rfl | rfl | rfl : k = 0 ∨ k = 1 ∨ k = 2 ∨ k = 3 := by omega
    all_goals simp [Bx.hd]; omega
  clear t0 t1 t2 t3
  rw [rounds_succ]
  go_wp2_with (fail)
  refine (within_any b.s 1 4 _).mono ?_
  rintro e w1 ⟨rfl, rfl⟩
  by_cases p1 : 1 ≤ b.s ∧ b.s ≤ 4
  case neg =>
    rw [decide_eq_false p1]
    go_wp2_with (fail)
    go_ret
    exact ⟨Says.no (fun g => by have := g.1.1; have := g.1.2.1; omega), E.b⟩
  rw [decide_eq_true p1]
  go_wp2_with (fail)
  refine (within_any b.p.n 1 6 _).mono ?_
  rintro e w1 ⟨rfl, rfl⟩
  by_cases p2 : 1 ≤ (b.p.n : Int) ∧ (b.p.n : Int) ≤ 6
  case neg =>
    rw [decide_eq_false p2]
    go_wp2_with (fail)
    go_ret
    exact ⟨Says.no (fun g => by have := g.1.2.2.2.2.1; have := g.1.2.2.2.2.2.1; omega), E.b⟩
  rw [decide_eq_true p2]
  obtain ⟨p21, p22⟩ := p2
  by_cases p3 : (b.o.n : Int) = b.p.n * 8
  case neg =>
    go_wp2_with (fail)
    go_ret
    exact ⟨Says.no (fun g => p3 g.1.2.2.2.2.2.2), E.b⟩
  by_cases p4 : (b.i.n : Int) = b.s
  case neg =>
    go_wp2_with (fail)
    go_ret
    exact ⟨Says.no (fun g => p4 g.1.2.2.1), E.b⟩
  by_cases p5 : (b.e.n : Int) = b.s
  case neg =>
    go_wp2_with (fail)
    go_ret
    exact ⟨⟨_, rfl, by unfold Tell; rw [beq_iff_eq]; exact ⟨fun h => absurd h p5, fun g => g.1.2.2.2.1⟩⟩, E.b⟩
  have LP : Hid (LensP b) := ⟨p1.1, p1.2, p4, p5, p21, p22, p3⟩
  go_wp2_with (fail)
  go_ret
  exact ⟨Says.yes ⟨LP.out, L4.out⟩, E.b⟩

end Go.Proofs.Ytlhfkackchcncaa.Book

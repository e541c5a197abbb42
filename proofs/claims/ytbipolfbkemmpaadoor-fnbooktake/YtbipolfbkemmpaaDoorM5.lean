import Derived.Test.YtbipolfbkemmpaaDoorM4

/- What the specification asks of a page, of the lists, of the slots; of a book. -/
namespace Go.Proofs.YtbipolfbkemmpaaDoor.Book
open Go.ChangeShapes Go.WideShapes Go.ChangeAt Go.RowKit
open Aid Lst
set_option maxRecDepth 100000

def PageP (b : Bx) (q : Nat) : Prop :=
  (b.p.f q = 0 ∧ FreeP b.o.f q 0) ∨ (∃ m : Nat, m < 4 ∧ b.p.f q = m + 1 ∧ RoomsP b.o.f (b.hd m) m q) ∨
  (b.p.f q = 7 ∧ RestP b.p.f b.o.f q) ∨ WideP b.p.f b.o.f b.p.n q

theorem Ent.drew {w : World} {b : Bx} {W : World} (h : Ent w b W) : Ent w b W.drew := ⟨h.r, h.a, ⟨h.b.os, h.b.tape, h.b.output, h.b.size, h.b.block⟩, h.lt⟩

set_option maxRecDepth 100000 in
set_option maxHeartbeats 4000000 in
theorem page_any (b : Bx) (q : Nat) (w : World) (h : b.At w) (hq : (q + 1) * 8 ≤ b.o.n) (hn : b.o.n ≤ 1000) (hp : q < b.p.n) (hpn : b.p.n ≤ 1000) (hl : -9223372036854775808 ≤ b.p.f q) (hh : b.p.f q ≤ 9223372036854775807)
    (hP : ∀ j, j < q → b.p.f j ≤ 12) (hd : ∀ k, k < 4 → (b.hd k).n ≤ 1000) :
    Calls Tryd.prog 40 #[.agg b.cells.toArray, .int .i64 q] w fun e w' => Says e (PageP b q) ∧ Below w.heap.size w w' := by
  obtain ⟨k, o, ea, hc⟩ := h.p.cells (by omega)
  obtain ⟨bs, ⟨pa, pn, pc, pf⟩, h0, h1, h2, h3, o_, i_, e_⟩ := b
  simp only at ea hq hn hp hpn hl hh hc hP
  subst ea
  have E : Ent w ⟨bs, ⟨some ⟨k, o, none⟩, pn, pc, pf⟩, h0, h1, h2, h3, o_, i_, e_⟩ (w.alloc (.cells #[.int .i64 bs, .slice (some ⟨k, o, none⟩) pn pc, .slice h0.a h0.n h0.c, .slice h1.a h1.n h1.c, .slice h2.a h2.n h2.c, .slice h3.a h3.n h3.c, .slice o_.a o_.n o_.c, .slice i_.a i_.n i_.c, .slice e_.a e_.n e_.c] 26)) := Ent.start h 26
  have B1 := below1 w (.cells #[.int .i64 bs, .slice (some ⟨k, o, none⟩) pn pc, .slice h0.a h0.n h0.c, .slice h1.a h1.n h1.c, .slice h2.a h2.n h2.c, .slice h3.a h3.n h3.c, .slice o_.a o_.n o_.c, .slice i_.a i_.n i_.c, .slice e_.a e_.n e_.c] 26)
  have c1 : (w.alloc (.cells #[.int .i64 bs, .slice (some ⟨k, o, none⟩) pn pc, .slice h0.a h0.n h0.c, .slice h1.a h1.n h1.c, .slice h2.a h2.n h2.c, .slice h3.a h3.n h3.c, .slice o_.a o_.n o_.c, .slice i_.a i_.n i_.c, .slice e_.a e_.n e_.c] 26)).cell? ⟨k, o + q, none⟩ = some (.int .i64 (pf q)) := by
    have := hc q hp
    rw [B1.cell (p := ⟨k, o + q, none⟩) (World.block_lt_of_cell? w _ this)]; exact this
  have i1 : (q : Int) < pn := by omega
  clear B1 hc
  simp only [Bx.cells]
  by_cases p0 : pf q = 0
  · rw [p0] at c1
    have P0 : Hid (pf q = 0) := p0
    clear p0
    go_enter Tryd.func40, Tryd.ntmps40
    go_wp2_with (fail)
    refine (free_any ⟨bs, ⟨some ⟨k, o, none⟩, pn, pc, pf⟩, h0, h1, h2, h3, o_, i_, e_⟩ q 0 _ E.a hq hn (by omega)).mono ?_
    rintro e w1 ⟨⟨r, rfl, hr⟩, hb⟩
    have F := E.later hb
    go_wp2_with (fail)
    go_ret
    refine ⟨⟨r, rfl, ?_⟩, F.b⟩
    have p0 := P0.out
    cases r
    · exact ⟨fun e => Bool.noConfusion e, fun g => by
        unfold PageP at g
        rcases g with g | g | g | g
        · exact absurd g.2 hr.f
        · obtain ⟨m, g1, g2, g3⟩ := g; simp only at g2; omega
        · have := g.1; simp only at this; omega
        · have := g.1; simp only at this; omega⟩
    · exact ⟨fun _ => .inl ⟨p0, hr.t⟩, fun _ => rfl⟩
  by_cases p4 : 1 ≤ pf q ∧ pf q ≤ 4
  · obtain ⟨m, hm⟩ : ∃ m : Nat, pf q = m + 1 := ⟨(pf q - 1).toNat, by omega⟩
    have hm4 : m < 4 := by omega
    have ek : kdM (pf q) = (m : Int) := by simp only [kdM]; rw [if_pos p4]; omega
    obtain ⟨p41, p42⟩ := p4
    have HM : Hid (pf q = m + 1) := hm
    clear hm
    go_enter Tryd.func40, Tryd.ntmps40
    go_wp2_with (fail)
    refine (kd_any (pf q) _).mono ?_
    rintro e w1 ⟨rfl, rfl⟩
    have HEK : Hid (kdM (pf q) = (m : Int)) := ek
    have kk : 0 ≤ kdM (pf q) := by omega
    have kk' : kdM (pf q) < 4 := by omega
    clear ek
    go_wp2_with (fail)
    clear c1
    generalize w.alloc (.cells #[.int .i64 bs, .slice (some ⟨k, o, none⟩) pn pc, .slice h0.a h0.n h0.c, .slice h1.a h1.n h1.c, .slice h2.a h2.n h2.c, .slice h3.a h3.n h3.c, .slice o_.a o_.n o_.c, .slice i_.a i_.n i_.c, .slice e_.a e_.n e_.c] 26) = W at E ⊢
    refine wp_region_held_drew (S := Ent w ⟨bs, ⟨some ⟨k, o, none⟩, pn, pc, pf⟩, h0, h1, h2, h3, o_, i_, e_⟩) (by kernel_rfl) E.drew (fun hS => ?_)
    refine tI 0 (v := .agg #[.int .i64 bs, .slice (some ⟨k, o, none⟩) pn pc, .slice h0.a h0.n h0.c, .slice h1.a h1.n h1.c, .slice h2.a h2.n h2.c, .slice h3.a h3.n h3.c, .slice o_.a o_.n o_.c, .slice i_.a i_.n i_.c, .slice e_.a e_.n e_.c]) (d := some 21) rfl rfl (fun w' hw => ?_) (by assumption) ?_
    · obtain ⟨u0, u1, u2, u3, u4, u5, u6, u7, u8⟩ := nine hw.r; go_simp
    simp only [Act.put, s1, s2, s3]
    refine tI 1 (v := .int .i64 q) (d := some 22) rfl rfl (fun w' hw => ?_) (by assumption) ?_
    · go_simp
    simp only [Act.put, s1, s2, s3]
    refine tI 2 (v := .int .i64 (pf q)) (d := some 23) rfl rfl (fun w' hw => ?_) (by assumption) ?_
    · go_simp
    simp only [Act.put, s1, s2, s3]
    generalize W.drew = W at hS ⊢
    refine r1 3 rfl (fun K hK => ?_)
    go_simp
    refine (kd_any (pf q) _).mono ?_
    rintro e w1 ⟨rfl, rfl⟩
    go_wp2_with (fail)
    refine hK.out _ _ hS (fun hS => ?_)
    clear hK K
    refine r1 4 rfl (fun K hK => ?_)
    rw [HEK.out]
    go_simp
    refine (rooms_any ⟨bs, ⟨some ⟨k, o, none⟩, pn, pc, pf⟩, h0, h1, h2, h3, o_, i_, e_⟩ q m _ hS.a hq hn hm4 (hd m hm4)).mono ?_
    rintro e w1 ⟨⟨r, rfl, hr⟩, hb⟩
    go_wp2_with (fail)
    refine hK.out _ _ (hS.later hb) (fun hS => ?_)
    clear hK K
    refine tI 5 (v := .bool r) (d := some 4) rfl rfl (fun w' hw => ?_) (by assumption) ?_
    · go_simp
    simp only [Act.put, s1, s2, s3]
    refine wpAnyH_done (by kernel_rfl) ?_ _
    go_wp2_with (fail)
    go_ret
    refine ⟨⟨r, rfl, ?_⟩, hS.b⟩
    have hm := HM.out
    cases r
    · exact ⟨fun e => Bool.noConfusion e, fun g => by
        unfold PageP at g
        rcases g with g | g | g | g
        · have := g.1; simp only at this; omega
        · obtain ⟨m', g1, g2, g3⟩ := g
          simp only at g2
          obtain rfl : m' = m := by omega
          exact absurd g3 hr.f
        · have := g.1; simp only at this; omega
        · have := g.1; simp only at this; omega⟩
    · exact ⟨fun _ => .inr (.inl ⟨m, hm4, hm, hr.t⟩), fun _ => rfl⟩
  have ek : kdM (pf q) = -1 := by simp only [kdM]; rw [if_neg p4]
  by_cases p7 : pf q = 7
  · rw [p7] at c1 ek
    have P7 : Hid (pf q = 7) := p7
    clear p7 p0 p4
    go_enter Tryd.func40, Tryd.ntmps40
    go_wp2_with (fail)
    refine (kd_any 7 _).mono ?_
    rintro e w1 ⟨rfl, rfl⟩
    rw [ek]
    clear ek
    go_wp2_with (fail)
    refine (rest_any ⟨bs, ⟨some ⟨k, o, none⟩, pn, pc, pf⟩, h0, h1, h2, h3, o_, i_, e_⟩ q _ E.a hq hn hp hpn (fun j hj => ?_)).mono ?_
    · by_cases e : j = q
      · subst e; show pf j ≤ 12; rw [P7.out]; decide
      · exact hP j (by omega)
    rintro e w1 ⟨⟨r, rfl, hr⟩, hb⟩
    have F := E.later hb
    go_wp2_with (fail)
    go_ret
    refine ⟨⟨r, rfl, ?_⟩, F.b⟩
    have p7 := P7.out
    cases r
    · exact ⟨fun e => Bool.noConfusion e, fun g => by
        unfold PageP at g
        rcases g with g | g | g | g
        · have := g.1; simp only at this; omega
        · obtain ⟨m', g1, g2, g3⟩ := g; simp only at g2; omega
        · exact absurd g.2 hr.f
        · have := g.1; simp only at this; omega⟩
    · exact ⟨fun _ => .inr (.inr (.inl ⟨p7, hr.t⟩)), fun _ => rfl⟩
  · go_enter Tryd.func40, Tryd.ntmps40
    go_wp2_with (fail)
    refine (kd_any (pf q) _).mono ?_
    rintro e w1 ⟨rfl, rfl⟩
    rw [ek]
    clear ek
    go_wp2_with (fail)
    refine (wide_any ⟨bs, ⟨some ⟨k, o, none⟩, pn, pc, pf⟩, h0, h1, h2, h3, o_, i_, e_⟩ q _ E.a hq hn hp hpn hl hh).mono ?_
    rintro e w1 ⟨⟨r, rfl, hr⟩, hb⟩
    have F := E.later hb
    go_wp2_with (fail)
    go_ret
    refine ⟨⟨r, rfl, ?_⟩, F.b⟩
    cases r
    · exact ⟨fun e => Bool.noConfusion e, fun g => by
        unfold PageP at g
        rcases g with g | g | g | g
        · have := g.1; simp only at this; omega
        · obtain ⟨m', g1, g2, g3⟩ := g; simp only at g2; omega
        · have := g.1; simp only at this; omega
        · exact absurd g hr.f⟩
    · exact ⟨fun _ => .inr (.inr (.inr hr.t)), fun _ => rfl⟩

def BegP (b : Bx) (k : Nat) (u : Int) : Prop := 0 ≤ u ∧ u < b.o.n ∧ b.p.f (u / 8).toNat = k + 1 ∧ u % sz k ≤ 0
def ListP (b : Bx) (k n : Nat) : Prop := ∀ j, j < n → BegP b k ((b.hd k).f j)
def ListsP (b : Bx) (m : Nat) : Prop := ∀ k, k < m → (b.hd k).n ≤ b.o.n ∧ ListP b k (b.hd k).n

theorem ListP.up {b : Bx} {k n : Nat} (h : ListP b k n) (h1 : BegP b k ((b.hd k).f n)) : ListP b k (n + 1) := fun j hj => by
  by_cases e : j = n
  · subst e; exact h1
  · exact h j (by omega)
theorem ListsP.up {b : Bx} {m : Nat} (h : ListsP b m) (h1 : (b.hd m).n ≤ b.o.n) (h2 : ListP b m (b.hd m).n) : ListsP b (m + 1) := fun k hk => by
  by_cases e : k = m
  · subst e; exact ⟨h1, h2⟩
  · exact h k (by omega)

theorem kdM_iff (s : Int) (k : Nat) (hk : k < 4) : kdM s = k ↔ s = k + 1 := by
  simp only [kdM]
  split <;> omega

set_option maxRecDepth 100000 in
set_option maxHeartbeats 8000000 in
theorem lists_any (b : Bx) (w : World) (h : b.At w) (hon : b.o.n ≤ b.p.n * 8) (hon' : b.p.n * 8 ≤ b.o.n) (hpn : b.p.n ≤ 100) (h1 : 1 ≤ b.p.n) (hh : ∀ k, k < 4 → (b.hd k).n ≤ 1000000000) (hf : ∀ k, k < 4 → ∀ j, (b.hd k).f j ≤ 9223372036854775807) :
    Calls Tryd.prog 39 #[.agg b.cells.toArray] w fun e w' => Says e (ListsP b 4) ∧ Below w.heap.size w w' := by
  have E := Ent.start h 26
  simp only [Bx.cells] at E ⊢
  go_enter Tryd.func39, Tryd.ntmps39
  go_wp2_with (fail)
  generalize w.alloc (.cells #[.int .i64 b.s, .slice b.p.a b.p.n b.p.c, .slice b.h0.a b.h0.n b.h0.c, .slice b.h1.a b.h1.n b.h1.c, .slice b.h2.a b.h2.n b.h2.c, .slice b.h3.a b.h3.n b.h3.c, .slice b.o.a b.o.n b.o.c, .slice b.i.a b.i.n b.i.c, .slice b.e.a b.e.n b.e.c] 26) = W at E ⊢
  go_loopw [3] (fun i wr => ∃ k : Nat, k ≤ 4 ∧ i = .int .i64 k ∧ ListsP b k ∧ Ent w b wr) (fun i _ => 4 - (intOf i).toNat)
  case atStart => exact ⟨0, by omega, rfl, fun k h => absurd h (Nat.not_lt_zero _), E⟩
  case round =>
    obtain ⟨k, hk, rfl, hL, F⟩ := hrel
    clear E
    by_cases hlt : (k : Int) < 4
    · have hk4 : k < 4 := by omega
      have hxn := hh k hk4
      have hxf := hf k hk4
      have uh := F.hd k hk4
      obtain ⟨-, -, -, -, -, -, u6, -, -⟩ := nine F.r
      have HL : Hid (ListsP b k) := hL
      clear hL
      by_cases ln : ((b.hd k).n : Int) > b.o.n
      · go_wp2_with (fail)
        go_quiet (fail)
        go_wp2_with (fail)
        go_ret
        exact ⟨Says.no (fun g => by have := (g k hk4).1; omega), (F.drewN nq).b⟩
      · go_wp2_with (fail)
        go_quiet (fail)
        have G := F.drewN nq
        clear uh u6 F
        generalize wr.drewN nq = wr at G ⊢
        go_wp2_with (fail)
        rw [show decide (b.o.n < (b.hd k).n) = false from decide_eq_false (by omega)]
        go_loopw [4] (fun i wr => ∃ j : Nat, j ≤ (b.hd k).n ∧ i = .int .i64 j ∧ ListP b k j ∧ Ent w b wr) (fun i _ => (b.hd k).n - (intOf i).toNat)
        case atStart => exact ⟨0, by omega, rfl, fun j h => absurd h (Nat.not_lt_zero _), G⟩
        case round =>
          obtain ⟨j, hj, rfl, hP, F⟩ := hrel
          clear G
          have uh := F.hd k hk4
          obtain ⟨-, u1, -, -, -, -, u6, -, -⟩ := nine F.r
          by_cases jl : (j : Int) < (b.hd k).n
          · obtain ⟨k1, o1, ex, hx⟩ := (F.a.hd k).cells (by omega)
            obtain ⟨k2, o2, ep, hp⟩ := F.a.p.cells (by omega)
            have c1 := hx j (by omega)
            rw [ex] at uh
            rw [ep] at u1
            have xf := hxf j
            have HP : Hid (ListP b k j) := hP
            clear ex ep hx hP
            generalize hv : (b.hd k).f j = v at c1 xf
            have HV : Hid ((b.hd k).f j = v) := hv
            clear hv
            have bad : ¬ BegP b k v → ¬ ListsP b 4 := fun g q => g (by rw [← HV.out]; exact (q k hk4).2 j (by omega))
            by_cases v0 : v < 0
            · go_wp2_with (fail)
              go_ret
              exact ⟨Says.no (bad (fun g => by have := g.1; omega)), F.b⟩
            by_cases v1 : v ≥ b.o.n
            · go_wp2_with (fail)
              go_ret
              exact ⟨Says.no (bad (fun g => by have := g.2.1; omega)), F.b⟩
            have c2 := hp (v / 8).toNat (by omega)
            have i1 : v / 8 < b.p.n := by omega
            have i2 : 0 ≤ v / 8 := by omega
            clear hp
            generalize hy : b.p.f (v / 8).toNat = y at c2
            have HY : Hid (b.p.f (v / 8).toNat = y) := hy
            have BAD : Hid (¬ BegP b k v → ¬ ListsP b 4) := bad
            clear hy bad
            go_wp2_with (fail)
            refine (kd_any y _).mono ?_
            rintro e w1 ⟨rfl, rfl⟩
            have kI := kdM_iff y k hk4
            generalize kdM y = z at kI ⊢
            by_cases zk : z = k
            · have hyk : Hid (y = k + 1) := kI.1 zk
              rw [zk]
              clear zk kI
              go_wp2_with (fail)
              refine (size_any k (by omega) hlt _).mono ?_
              rintro e w2 ⟨rfl, hb⟩
              obtain ⟨z1, z2⟩ := sz_pos k
              generalize hd : sz k = d at z1 z2 ⊢
              have HD : Hid (sz k = d) := hd
              have G := F.later hb
              clear hd hb F c1 c2 u1 u6 uh
              by_cases r : 0 < v % d
              · go_wp2_with (fail)
                go_ret
                exact ⟨Says.no (BAD.out (fun g => by have := g.2.2.2; rw [HD.out] at this; omega)), G.b⟩
              · go_wp2_with (fail)
                go_roundw
                case rel => exact ⟨j + 1, by omega, by go_num, HP.out.up (by rw [HV.out]; exact ⟨by omega, by omega, by rw [HY.out]; exact hyk.out, by rw [HD.out]; omega⟩), G⟩
                case measure => simp [intOf]; omega
            · have hyk : ¬ y = k + 1 := fun e => zk (kI.2 e)
              clear kI
              go_wp2_with (fail)
              go_ret
              exact ⟨Says.no (BAD.out (fun g => by have := g.2.2.1; rw [HY.out] at this; exact hyk this)), F.b⟩
          · go_wp2_with (fail)
            go_roundw
            case rel => exact ⟨k + 1, by omega, by go_num, HL.out.up (by omega) (by
              have e : j = (b.hd k).n := by omega
              rw [← e]; exact hP), F⟩
            case measure => simp [intOf]; omega
    · obtain rfl : k = 4 := by omega
      have HL : Hid (ListsP b 4) := hL
      clear hL
      go_wp2_with (fail)
      go_ret
      exact ⟨Says.yes HL.out, F.b⟩

def LensP (b : Bx) : Prop := 1 ≤ b.s ∧ b.s ≤ 4 ∧ (b.i.n : Int) = b.s ∧ (b.e.n : Int) = b.s ∧ 1 ≤ (b.p.n : Int) ∧ (b.p.n : Int) ≤ 6 ∧ (b.o.n : Int) = b.p.n * 8
def InU (b : Bx) (j : Nat) : Prop := 0 ≤ b.i.f j ∧ b.i.f j ≤ 2 ∧ 0 ≤ b.e.f j ∧ b.e.f j ≤ 4095 ∧ (b.e.f j = 0 → b.i.f j ≤ 0)
def OwnU (b : Bx) (u : Nat) : Prop := 0 ≤ b.o.f u ∧ b.o.f u ≤ b.s ∧ (0 < b.o.f u → b.i.f (b.o.f u - 1).toNat ≠ 0)
def InsP (b : Bx) (n : Nat) : Prop := ∀ j, j < n → InU b j
def OwnsP (b : Bx) (n : Nat) : Prop := ∀ u, u < n → OwnU b u
def SlotsP (b : Bx) : Prop := LensP b ∧ InsP b b.i.n ∧ OwnsP b b.o.n
theorem InsP.up {b : Bx} {n : Nat} (h : InsP b n) (h1 : InU b n) : InsP b (n + 1) := fun j hj => by
  by_cases e : j = n
  · subst e; exact h1
  · exact h j (by omega)
theorem OwnsP.up {b : Bx} {n : Nat} (h : OwnsP b n) (h1 : OwnU b n) : OwnsP b (n + 1) := fun j hj => by
  by_cases e : j = n
  · subst e; exact h1
  · exact h j (by omega)

set_option maxRecDepth 100000 in
set_option maxHeartbeats 8000000 in
theorem slots_any (b : Bx) (w : World) (h : b.At w) (hn : b.total ≤ 1000000000) (hl : ∀ u, -9223372036854775808 ≤ b.o.f u) (hh : ∀ u, b.o.f u ≤ 9223372036854775807) :
    Calls Tryd.prog 38 #[.agg b.cells.toArray] w fun e w' => Says e (SlotsP b) ∧ Below w.heap.size w w' := by
  have E := Ent.start h 26
  simp only [Bx.total] at hn
  simp only [Bx.cells] at E ⊢
  by_cases s0 : b.s < 1
  case pos =>
    go_enter Tryd.func38, Tryd.ntmps38
    go_wp2_with (fail)
    go_ret
    exact ⟨Says.no (fun g => by have := g.1; unfold LensP at this; omega), E.b⟩
  by_cases s1 : b.s > 4
  case pos =>
    go_enter Tryd.func38, Tryd.ntmps38
    go_wp2_with (fail)
    go_ret
    exact ⟨Says.no (fun g => by have := g.1; unfold LensP at this; omega), E.b⟩
  by_cases s2 : ¬ (b.i.n : Int) = b.s
  case pos =>
    go_enter Tryd.func38, Tryd.ntmps38
    go_wp2_with (fail)
    go_ret
    exact ⟨Says.no (fun g => by have := g.1; unfold LensP at this; omega), E.b⟩
  replace s2 := Decidable.of_not_not s2
  by_cases s3 : ¬ (b.e.n : Int) = b.s
  case pos =>
    go_enter Tryd.func38, Tryd.ntmps38
    go_wp2_with (fail)
    go_ret
    exact ⟨Says.no (fun g => by have := g.1; unfold LensP at this; omega), E.b⟩
  replace s3 := Decidable.of_not_not s3
  by_cases s4 : (b.p.n : Int) < 1
  case pos =>
    go_enter Tryd.func38, Tryd.ntmps38
    go_wp2_with (fail)
    go_ret
    exact ⟨Says.no (fun g => by have := g.1; unfold LensP at this; omega), E.b⟩
  by_cases s5 : (b.p.n : Int) > 6
  case pos =>
    go_enter Tryd.func38, Tryd.ntmps38
    go_wp2_with (fail)
    go_ret
    exact ⟨Says.no (fun g => by have := g.1; unfold LensP at this; omega), E.b⟩
  by_cases s6 : ¬ (b.o.n : Int) = b.p.n * 8
  case pos =>
    go_enter Tryd.func38, Tryd.ntmps38
    go_wp2_with (fail)
    go_ret
    exact ⟨Says.no (fun g => by have := g.1; unfold LensP at this; omega), E.b⟩
  replace s6 := Decidable.of_not_not s6
  have LP : Hid (LensP b) := by unfold LensP Hid; omega
  go_enter Tryd.func38, Tryd.ntmps38
  go_wp2_with (fail)
  have n1 : (b.i.n : Int) ≤ b.s := by omega
  have n2 : b.s ≤ b.i.n := by omega
  have n3 : b.s ≤ b.e.n := by omega
  have n4 : b.o.n ≤ 48 := by omega
  have n5 : b.s ≤ 4 := by omega
  have n6 : 1 ≤ b.s := by omega
  have n7 : 8 ≤ b.o.n := by omega
  clear s0 s1 s2 s3 s4 s5 s6
  generalize w.alloc (.cells #[.int .i64 b.s, .slice b.p.a b.p.n b.p.c, .slice b.h0.a b.h0.n b.h0.c, .slice b.h1.a b.h1.n b.h1.c, .slice b.h2.a b.h2.n b.h2.c, .slice b.h3.a b.h3.n b.h3.c, .slice b.o.a b.o.n b.o.c, .slice b.i.a b.i.n b.i.c, .slice b.e.a b.e.n b.e.c] 26) = W at E ⊢
  obtain ⟨u0, u1, u2, u3, u4, u5, u6, u7, u8⟩ := nine E.r
  clear u1 u2 u3 u4 u5
  obtain ⟨k1, o1, e1, hi⟩ := E.a.i.cells (by omega)
  obtain ⟨k2, o2, e2, he⟩ := E.a.e.cells (by omega)
  have U7 : Hid (W.cell? ⟨w.heap.size, 7, none⟩ = some (.slice b.i.a b.i.n b.i.c)) := u7
  rw [e1] at u7
  rw [e2] at u8
  clear e1 e2
  go_loop [3] (fun i => ∃ j : Nat, (j : Int) ≤ b.s ∧ i = .int .i64 j ∧ InsP b j) (fun i => b.i.n - (intOf i).toNat)
  case atStart => exact ⟨0, by omega, rfl, fun j h => absurd h (Nat.not_lt_zero _)⟩
  case round =>
    obtain ⟨j, hj, rfl, hI⟩ := hrel
    have HI : Hid (InsP b j) := hI
    clear hI
    by_cases lt : (j : Int) < b.s
    · have c1 := hi j (by omega)
      have c2 := he j (by omega)
      have i1 : (j : Int) < b.i.n := by omega
      have i2 : (j : Int) < b.e.n := by omega
      have bad : Hid (¬ InU b j → ¬ SlotsP b) := fun g q => g (q.2.1 j (by omega))
      clear hi he
      by_cases t0 : b.i.f j < 0
      case pos =>
        go_wp2_with (fail)
        go_ret
        exact ⟨Says.no (bad.out (fun g => by unfold InU at g; omega)), E.b⟩
      by_cases t1 : b.i.f j > 2
      case pos =>
        go_wp2_with (fail)
        go_ret
        exact ⟨Says.no (bad.out (fun g => by unfold InU at g; omega)), E.b⟩
      by_cases t2 : b.e.f j < 0
      case pos =>
        go_wp2_with (fail)
        go_ret
        exact ⟨Says.no (bad.out (fun g => by unfold InU at g; omega)), E.b⟩
      by_cases t3 : b.e.f j > 4095
      case pos =>
        go_wp2_with (fail)
        go_ret
        exact ⟨Says.no (bad.out (fun g => by unfold InU at g; omega)), E.b⟩
      by_cases t4 : b.e.f j = 0
      case pos =>
        by_cases t5 : 0 < b.i.f j
        case pos =>
          go_wp2_with (fail)
          go_ret
          exact ⟨Says.no (bad.out (fun g => by unfold InU at g; omega)), E.b⟩
        go_wp2_with (fail)
        go_round
        case rel => exact ⟨j + 1, by omega, by go_num, HI.out.up (by unfold InU; omega)⟩
        case measure => simp [intOf]; omega
      go_wp2_with (fail)
      go_round
      case rel => exact ⟨j + 1, by omega, by go_num, HI.out.up (by unfold InU; omega)⟩
      case measure => simp [intOf]; omega
    · have ej : j = b.i.n := by omega
      have HA : Hid (InsP b b.i.n) := by unfold Hid; rw [← ej]; exact HI.out
      clear ej HI
      go_wp2_with (fail)
      clear hi he u7 u8
      have u7 := U7.out
      obtain ⟨k3, o3, e3, ho⟩ := E.a.o.cells (by omega)
      obtain ⟨k1, o1, e1, hi⟩ := E.a.i.cells (by omega)
      rw [e3] at u6
      rw [e1] at u7
      clear e3 e1 U7
      go_loopw [4] (fun i wr => ∃ u : Nat, u ≤ b.o.n ∧ i = .int .i64 u ∧ OwnsP b u ∧ ∃ q, wr = W.drewN q) (fun i _ => b.o.n - (intOf i).toNat)
      case atStart => exact ⟨0, by omega, rfl, fun u h => absurd h (Nat.not_lt_zero _), 0, rfl⟩
      case round =>
        obtain ⟨u, hu, rfl, hO, q, rfl⟩ := hrel
        have HO : Hid (OwnsP b u) := hO
        clear hO
        have v0 : (W.drewN q).cell? ⟨w.heap.size, 0, none⟩ = some (.int .i64 b.s) := u0
        have v6 : (W.drewN q).cell? ⟨w.heap.size, 6, none⟩ = some (.slice (some ⟨k3, o3, none⟩) b.o.n b.o.c) := u6
        have v7 : (W.drewN q).cell? ⟨w.heap.size, 7, none⟩ = some (.slice (some ⟨k1, o1, none⟩) b.i.n b.i.c) := u7
        have EV := E.drewN q
        have hi' : ∀ j, j < b.i.n → (W.drewN q).cell? ⟨k1, o1 + j, none⟩ = some (.int .i64 (b.i.f j)) := hi
        have ho' : ∀ j, j < b.o.n → (W.drewN q).cell? ⟨k3, o3 + j, none⟩ = some (.int .i64 (b.o.f j)) := ho
        clear u0 u6 u7 hi ho E
        generalize hV : W.drewN q = V at v0 v6 v7 EV hi' ho' ⊢
        have HV : Hid (W.drewN q = V) := hV
        clear hV
        by_cases lt : (u : Int) < b.o.n
        · have c1 := ho' u (by omega)
          have low := hl u
          have hig := hh u
          have bad : Hid (¬ OwnU b u → ¬ SlotsP b) := fun g q => g (q.2.2 u (by omega))
          clear ho'
          by_cases t0 : b.o.f u < 0
          case pos =>
            go_wp2_with (fail)
            go_quiet (fail)
            go_wp2_with (fail)
            go_ret
            exact ⟨Says.no (bad.out (fun g => by unfold OwnU at g; omega)), (EV.drewN nq).b⟩
          have d0 : decide (b.o.f u < 0) = false := decide_eq_false t0
          by_cases t1 : b.o.f u > b.s
          case pos =>
            go_wp2_with (fail)
            go_quiet (fail)
            go_wp2_with (fail)
            go_ret
            exact ⟨Says.no (bad.out (fun g => by unfold OwnU at g; omega)), (EV.drewN nq).b⟩
          have d1 : decide (b.s < b.o.f u) = false := decide_eq_false t1
          by_cases t2 : 0 < b.o.f u
          case pos =>
            obtain ⟨m, hm⟩ : ∃ m : Nat, b.o.f u = m + 1 := ⟨(b.o.f u - 1).toNat, by omega⟩
            have HM : Hid (b.o.f u = m + 1) := hm
            have hm' : (b.o.f u - 1).toNat = m := by omega
            have HM' : Hid ((b.o.f u - 1).toNat = m) := hm'
            have c2 := hi' m (by omega)
            have i1 : (m : Int) < b.i.n := by omega
            have e0 : ¬ (m : Int) + 1 < 0 := by omega
            have e1 : ¬ (m : Int) + 1 > b.s := by omega
            have e2 : 0 < (m : Int) + 1 := by omega
            have f0 : decide ((m : Int) + 1 < 0) = false := decide_eq_false e0
            have f1 : decide (b.s < (m : Int) + 1) = false := decide_eq_false e1
            have f2 : decide (0 < (m : Int) + 1) = true := decide_eq_true e2
            rw [hm] at c1
            clear hm hm' d0 d1 t0 t1 t2 low hig
            by_cases t3 : b.i.f m = 0
            case pos =>
              go_wp2_with (fail)
              go_quiet (fail)
              go_wp2_with (fail)
              go_ret
              exact ⟨Says.no (bad.out (fun g => g.2.2 (by rw [HM.out]; omega) (by rw [HM'.out]; exact t3))), (EV.drewN nq).b⟩
            go_wp2_with (fail)
            go_quiet (fail)
            go_wp2_with (fail)
            go_roundw
            case rel => exact ⟨u + 1, by omega, by go_num, HO.out.up ⟨by rw [HM.out]; omega, by rw [HM.out]; omega, fun _ => by rw [HM'.out]; exact t3⟩, q + nq, by rw [← HV.out]; exact World.drewN_drewN _ _ _⟩
            case measure => simp [intOf]; omega
          have d2 : decide (0 < b.o.f u) = false := decide_eq_false t2
          go_wp2_with (fail)
          go_quiet (fail)
          go_wp2_with (fail)
          go_roundw
          case rel => exact ⟨u + 1, by omega, by go_num, HO.out.up ⟨by omega, by omega, fun h => by omega⟩, q + nq, by rw [← HV.out]; exact World.drewN_drewN _ _ _⟩
          case measure => simp [intOf]; omega
        · have eu : u = b.o.n := by omega
          have HB : Hid (OwnsP b b.o.n) := by unfold Hid; rw [← eu]; exact HO.out
          clear eu HO
          go_wp2_with (fail)
          go_ret
          exact ⟨Says.yes ⟨LP.out, HA.out, HB.out⟩, EV.b⟩

def PagesP (b : Bx) (n : Nat) : Prop := ∀ q, q < n → PageP b q
def OkP (b : Bx) : Prop := SlotsP b ∧ ListsP b 4 ∧ PagesP b b.p.n
theorem PagesP.up {b : Bx} {n : Nat} (h : PagesP b n) (h1 : PageP b n) : PagesP b (n + 1) := fun j hj => by
  by_cases e : j = n
  · subst e; exact h1
  · exact h j (by omega)
theorem PageP.le {b : Bx} {q : Nat} (h : PageP b q) : b.p.f q ≤ 12 := by
  rcases h with h | ⟨m, h1, h2, _⟩ | h | h
  · have := h.1; omega
  · omega
  · have := h.1; omega
  · exact h.2.1

/- The numbers of a book are ints. -/
def Bx.Wf (b : Bx) : Prop := ∀ x ∈ b.lists, ∀ j, -9223372036854775808 ≤ x.f j ∧ x.f j ≤ 9223372036854775807
theorem Bx.Wf.p {b : Bx} (h : b.Wf) (j : Nat) : -9223372036854775808 ≤ b.p.f j ∧ b.p.f j ≤ 9223372036854775807 := h _ (by simp [Bx.lists]) j
theorem Bx.Wf.o {b : Bx} (h : b.Wf) (j : Nat) : -9223372036854775808 ≤ b.o.f j ∧ b.o.f j ≤ 9223372036854775807 := h _ (by simp [Bx.lists]) j
theorem Bx.hd_mem (b : Bx) (k : Nat) : b.hd k ∈ b.lists := by
  unfold Bx.hd
  repeat' split
  all_goals simp [Bx.lists]
theorem Bx.hd_total (b : Bx) (k : Nat) : (b.hd k).n ≤ b.total := by
  unfold Bx.hd Bx.total
  repeat' split
  all_goals omega

set_option maxRecDepth 100000 in
set_option maxHeartbeats 8000000 in
theorem sok_any (b : Bx) (w : World) (h : b.At w) (hn : b.total ≤ 1000000000) (hw : b.Wf) :
    Calls Tryd.prog 15 #[.agg b.cells.toArray] w fun e w' => Says e (OkP b) ∧ Below w.heap.size w w' := by
  have E := Ent.start h 26
  simp only [Bx.cells] at E ⊢
  go_enter Tryd.func15, Tryd.ntmps15
  go_wp2_with (fail)
  refine (slots_any b _ E.a hn (fun u => (hw.o u).1) (fun u => (hw.o u).2)).mono ?_
  rintro e w1 ⟨⟨r, rfl, hr⟩, hb⟩
  replace E := E.later hb
  clear hb
  obtain ⟨u0, u1, u2, u3, u4, u5, u6, u7, u8⟩ := nine E.r
  cases r
  · go_wp2_with (fail)
    go_ret
    exact ⟨Says.no (fun g => hr.f g.1), E.b⟩
  have SP : Hid (SlotsP b) := hr.t
  obtain ⟨l1, l2, l3, l4, l5, l6, l7⟩ := SP.out.1
  have g1 : b.o.n ≤ b.p.n * 8 := by omega
  have g2 : b.p.n * 8 ≤ b.o.n := by omega
  have g3 : b.p.n ≤ 6 := by omega
  have g4 : 1 ≤ b.p.n := by omega
  clear hr l1 l2 l3 l4 l5 l6 l7
  go_wp2_with (fail)
  refine (lists_any b _ E.a g1 g2 (by omega) g4 (fun k _ => by have := b.hd_total k; omega) (fun k _ j => (hw _ (b.hd_mem k) j).2)).mono ?_
  rintro e w2 ⟨⟨r, rfl, hr⟩, hb⟩
  replace E := E.later hb
  clear hb u0 u1 u2 u3 u4 u5 u6 u7 u8
  cases r
  · go_wp2_with (fail)
    go_ret
    exact ⟨Says.no (fun g => hr.f g.2.1), E.b⟩
  have LP : Hid (ListsP b 4) := hr.t
  have hd : Hid (∀ k, k < 4 → (b.hd k).n ≤ 1000) := fun k hk => by have := (LP.out k hk).1; omega
  clear hr
  go_wp2_with (fail)
  go_loopw [3] (fun i wr => ∃ q : Nat, q ≤ b.p.n ∧ i = .int .i64 q ∧ PagesP b q ∧ Ent w b wr) (fun i _ => b.p.n - (intOf i).toNat)
  case atStart => exact ⟨0, by omega, rfl, fun j h => absurd h (Nat.not_lt_zero _), E⟩
  case round =>
    obtain ⟨q, hq, rfl, hP, F⟩ := hrel
    have HP : Hid (PagesP b q) := hP
    clear hP E
    obtain ⟨u0, u1, u2, u3, u4, u5, u6, u7, u8⟩ := nine F.r
    by_cases lt : (q : Int) < b.p.n
    · go_wp2_with (fail)
      refine (page_any b q _ F.a (by omega) (by omega) (by omega) (by omega) (hw.p q).1 (hw.p q).2 (fun j hj => (HP.out j hj).le) hd.out).mono ?_
      rintro e w3 ⟨⟨r, rfl, hr⟩, hb⟩
      have G := F.later hb
      clear hb F u0 u1 u2 u3 u4 u5 u6 u7 u8
      cases r
      · go_wp2_with (fail)
        go_ret
        exact ⟨Says.no (fun g => hr.f (g.2.2 q (by omega))), G.b⟩
      · go_wp2_with (fail)
        go_roundw
        case rel => exact ⟨q + 1, by omega, by go_num, HP.out.up hr.t, G⟩
        case measure => simp [intOf]; omega
    · have eq : q = b.p.n := by omega
      have HA : Hid (PagesP b b.p.n) := by unfold Hid; rw [← eq]; exact HP.out
      clear eq
      go_wp2_with (fail)
      go_ret
      exact ⟨Says.yes ⟨SP.out, LP.out, HA.out⟩, F.b⟩

end Go.Proofs.YtbipolfbkemmpaaDoor.Book

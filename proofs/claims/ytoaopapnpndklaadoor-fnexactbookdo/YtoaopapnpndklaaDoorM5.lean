import Derived.Test.YtoaopapnpndklaaDoorM4

/- What the specification asks of a page, of the lists, of the slots; of a book. -/
namespace Go.Proofs.YtoaopapnpndklaaDoor.Book
open Go.ChangeShapes Go.WideShapes Go.ChangeAt Go.RowKit
open Go.Proofs.YtoaopapnpndklaaDoor.Aid Go.Proofs.YtoaopapnpndklaaDoor.Lst
set_option maxRecDepth 100000

def PageP (b : Bx) (q : Nat) : Prop :=
  (b.p.f q = 0 ∧ FreeP b.o.f q 0) ∨ (∃ m : Nat, m < 4 ∧ b.p.f q = m + 1 ∧ RoomsP b.o.f (b.hd m) m q) ∨
  (b.p.f q = 7 ∧ RestP b.p.f b.o.f q) ∨ WideP b.p.f b.o.f b.p.n q

theorem Ent.drew {w : World} {b : Bx} {W : World} (h : Ent w b W) : Ent w b W.drew := ⟨h.r, h.a, ⟨h.b.os, h.b.tape, h.b.output, h.b.size, h.b.block⟩, h.lt⟩

set_option maxRecDepth 100000 in
set_option maxHeartbeats 4000000 in
theorem page_any (b : Bx) (q : Nat) (w : World) (h : b.At w) (hq : (q + 1) * 8 ≤ b.o.n) (hn : b.o.n ≤ 1000) (hp : q < b.p.n) (hpn : b.p.n ≤ 1000) (hl : -9223372036854775808 ≤ b.p.f q) (hh : b.p.f q ≤ 9223372036854775807)
    (hP : ∀ j, j < q → b.p.f j ≤ 12) (hd : ∀ k, k < 4 → (b.hd k).n ≤ 1000) :
    Calls Tryd.prog 32 #[.agg b.cells.toArray, .int .i64 q] w fun e w' => Says e (PageP b q) ∧ Below w.heap.size w w' := by
  obtain ⟨k, o, ea, hc⟩ := h.p.cells (by omega)
  obtain ⟨bs, ⟨pa, pn, pc, pf⟩, h0, h1, h2, h3, o_, i_, e_⟩ := b
  simp only at ea hq hn hp hpn hl hh hc hP
  subst ea
  have E : Ent w ⟨bs, ⟨some ⟨k, o, none⟩, pn, pc, pf⟩, h0, h1, h2, h3, o_, i_, e_⟩ (w.alloc (.cells #[.int .i64 bs, .slice (some ⟨k, o, none⟩) pn pc, .slice h0.a h0.n h0.c, .slice h1.a h1.n h1.c, .slice h2.a h2.n h2.c, .slice h3.a h3.n h3.c, .slice o_.a o_.n o_.c, .slice i_.a i_.n i_.c, .slice e_.a e_.n e_.c] 29)) := Ent.start h 29
  have B1 := below1 w (.cells #[.int .i64 bs, .slice (some ⟨k, o, none⟩) pn pc, .slice h0.a h0.n h0.c, .slice h1.a h1.n h1.c, .slice h2.a h2.n h2.c, .slice h3.a h3.n h3.c, .slice o_.a o_.n o_.c, .slice i_.a i_.n i_.c, .slice e_.a e_.n e_.c] 29)
  have c1 : (w.alloc (.cells #[.int .i64 bs, .slice (some ⟨k, o, none⟩) pn pc, .slice h0.a h0.n h0.c, .slice h1.a h1.n h1.c, .slice h2.a h2.n h2.c, .slice h3.a h3.n h3.c, .slice o_.a o_.n o_.c, .slice i_.a i_.n i_.c, .slice e_.a e_.n e_.c] 29)).cell? ⟨k, o + q, none⟩ = some (.int .i64 (pf q)) := by
    have := hc q hp
    rw [B1.cell (p := ⟨k, o + q, none⟩) (World.block_lt_of_cell? w _ this)]; exact this
  have i1 : (q : Int) < pn := by omega
  clear B1 hc
  simp only [Bx.cells]
  by_cases p0 : pf q = 0
  · rw [p0] at c1
    have P0 : Hid (pf q = 0) := p0
    clear p0
    go_enter Tryd.func32, Tryd.ntmps32
    go_wp2_with (fail)
    refine (free_any ⟨bs, ⟨some ⟨k, o, none⟩, pn, pc, pf⟩, h0, h1, h2, h3, o_, i_, e_⟩ q 0 _ E.a hq hn (by omega)).mono ?_
    rintro e w1 ⟨⟨r, rfl, hr⟩, hb⟩
    have F := E.later hb
    go_wp2_with (fail)
    go_ret
    refine ⟨⟨r, rfl, ?_⟩, F.b⟩
    have p0 := P0.out
    cases r
    · exact ⟨fun e => Bool.noConfusion e, fun g => by
        unfold PageP at g
        rcases g with g | g | g | g
        · exact absurd g.2 hr.f
        · obtain ⟨m, g1, g2, g3⟩ := g; simp only at g2; omega
        · have := g.1; simp only at this; omega
        · have := g.1; simp only at this; omega⟩
    · exact ⟨fun _ => .inl ⟨p0, hr.t⟩, fun _ => rfl⟩
  by_cases p4 : 1 ≤ pf q ∧ pf q ≤ 4
  · obtain ⟨m, hm⟩ : ∃ m : Nat, pf q = m + 1 := ⟨(pf q - 1).toNat, by omega⟩
    have hm4 : m < 4 := by omega
    have ek : kdM (pf q) = (m : Int) := by simp only [kdM]; rw [if_pos p4]; omega
    obtain ⟨p41, p42⟩ := p4
    have HM : Hid (pf q = m + 1) := hm
    clear hm
    go_enter Tryd.func32, Tryd.ntmps32
    go_wp2_with (fail)
    refine (kd_any (pf q) _).mono ?_
    rintro e w1 ⟨rfl, rfl⟩
    have HEK : Hid (kdM (pf q) = (m : Int)) := ek
    have kk : 0 ≤ kdM (pf q) := by omega
    have kk' : kdM (pf q) < 4 := by omega
    clear ek
    go_wp2_with (fail)
    clear c1
    generalize w.alloc (.cells #[.int .i64 bs, .slice (some ⟨k, o, none⟩) pn pc, .slice h0.a h0.n h0.c, .slice h1.a h1.n h1.c, .slice h2.a h2.n h2.c, .slice h3.a h3.n h3.c, .slice o_.a o_.n o_.c, .slice i_.a i_.n i_.c, .slice e_.a e_.n e_.c] 29) = W at E ⊢
    refine wp_region_held_drew (S := Ent w ⟨bs, ⟨some ⟨k, o, none⟩, pn, pc, pf⟩, h0, h1, h2, h3, o_, i_, e_⟩) (by kernel_rfl) E.drew (fun hS => ?_)
    refine takeB (i := 0) (v := .agg #[.int .i64 bs, .slice (some ⟨k, o, none⟩) pn pc, .slice h0.a h0.n h0.c, .slice h1.a h1.n h1.c, .slice h2.a h2.n h2.c, .slice h3.a h3.n h3.c, .slice o_.a o_.n o_.c, .slice i_.a i_.n i_.c, .slice e_.a e_.n e_.c]) (d := some 21) rfl rfl (by kernel_rfl) (by kernel_rfl) (by kernel_rfl) (fun _ _ _ h => h) (Or.inl ⟨by rfl, fun w' hw => ?_⟩) (by assumption) ?_
    · obtain ⟨u0, u1, u2, u3, u4, u5, u6, u7, u8⟩ := nine hw.r; go_simp
    simp only [Act.put, List.setIfInBounds_toArray, List.set_cons_zero, List.set_cons_succ]
    refine takeB (i := 1) (v := .int .i64 q) (d := some 22) rfl rfl (by kernel_rfl) (by kernel_rfl) (by kernel_rfl) (fun _ _ _ h => h) (Or.inl ⟨by rfl, fun w' hw => ?_⟩) (by assumption) ?_
    · go_simp
    simp only [Act.put, List.setIfInBounds_toArray, List.set_cons_zero, List.set_cons_succ]
    refine takeB (i := 2) (v := .int .i64 (pf q)) (d := some 23) rfl rfl (by kernel_rfl) (by kernel_rfl) (by kernel_rfl) (fun _ _ _ h => h) (Or.inl ⟨by rfl, fun w' hw => ?_⟩) (by assumption) ?_
    · go_simp
    simp only [Act.put, List.setIfInBounds_toArray, List.set_cons_zero, List.set_cons_succ]
    generalize W.drew = W at hS ⊢
    refine wpAnyH_ready (rs := [3]) (by kernel_rfl) (by simp) ?_
    refine AllReadyH.cons rfl (fun K hK => ?_) AllReadyH.nil
    go_simp
    refine (kd_any (pf q) _).mono ?_
    rintro e w1 ⟨rfl, rfl⟩
    go_wp2_with (fail)
    refine hK.out _ _ hS (fun hS => ?_)
    clear hK K
    refine wpAnyH_ready (rs := [4]) (by kernel_rfl) (by simp) ?_
    refine AllReadyH.cons rfl (fun K hK => ?_) AllReadyH.nil
    rw [HEK.out]
    go_simp
    refine (rooms_any ⟨bs, ⟨some ⟨k, o, none⟩, pn, pc, pf⟩, h0, h1, h2, h3, o_, i_, e_⟩ q m _ hS.a hq hn hm4 (hd m hm4)).mono ?_
    rintro e w1 ⟨⟨r, rfl, hr⟩, hb⟩
    go_wp2_with (fail)
    refine hK.out _ _ (hS.later hb) (fun hS => ?_)
    clear hK K
    refine takeB (i := 5) (v := .bool r) (d := some 4) rfl rfl (by kernel_rfl) (by kernel_rfl) (by kernel_rfl) (fun _ _ _ h => h) (Or.inl ⟨by rfl, fun w' hw => ?_⟩) (by assumption) ?_
    · go_simp
    simp only [Act.put, List.setIfInBounds_toArray, List.set_cons_zero, List.set_cons_succ]
    refine wpAnyH_done (by kernel_rfl) ?_ _
    go_wp2_with (fail)
    go_ret
    refine ⟨⟨r, rfl, ?_⟩, hS.b⟩
    have hm := HM.out
    cases r
    · exact ⟨fun e => Bool.noConfusion e, fun g => by
        unfold PageP at g
        rcases g with g | g | g | g
        · have := g.1; simp only at this; omega
        · obtain ⟨m', g1, g2, g3⟩ := g
          simp only at g2
          obtain rfl : m' = m := by omega
          exact absurd g3 hr.f
        · have := g.1; simp only at this; omega
        · have := g.1; simp only at this; omega⟩
    · exact ⟨fun _ => .inr (.inl ⟨m, hm4, hm, hr.t⟩), fun _ => rfl⟩
  have ek : kdM (pf q) = -1 := by simp only [kdM]; rw [if_neg p4]
  by_cases p7 : pf q = 7
  · rw [p7] at c1 ek
    have P7 : Hid (pf q = 7) := p7
    clear p7 p0 p4
    go_enter Tryd.func32, Tryd.ntmps32
    go_wp2_with (fail)
    refine (kd_any 7 _).mono ?_
    rintro e w1 ⟨rfl, rfl⟩
    rw [ek]
    clear ek
    go_wp2_with (fail)
    refine (rest_any ⟨bs, ⟨some ⟨k, o, none⟩, pn, pc, pf⟩, h0, h1, h2, h3, o_, i_, e_⟩ q _ E.a hq hn hp hpn (fun j hj => ?_)).mono ?_
    · by_cases e : j = q
      · subst e; show pf j ≤ 12; rw [P7.out]; decide
      · exact hP j (by omega)
    rintro e w1 ⟨⟨r, rfl, hr⟩, hb⟩
    have F := E.later hb
    go_wp2_with (fail)
    go_ret
    refine ⟨⟨r, rfl, ?_⟩, F.b⟩
    have p7 := P7.out
    cases r
    · exact ⟨fun e => Bool.noConfusion e, fun g => by
        unfold PageP at g
        rcases g with g | g | g | g
        · have := g.1; simp only at this; omega
        · obtain ⟨m', g1, g2, g3⟩ := g; simp only at g2; omega
        · exact absurd g.2 hr.f
        · have := g.1; simp only at this; omega⟩
    · exact ⟨fun _ => .inr (.inr (.inl ⟨p7, hr.t⟩)), fun _ => rfl⟩
  · go_enter Tryd.func32, Tryd.ntmps32
    go_wp2_with (fail)
    refine (kd_any (pf q) _).mono ?_
    rintro e w1 ⟨rfl, rfl⟩
    rw [ek]
    clear ek
    go_wp2_with (fail)
    refine (wide_any ⟨bs, ⟨some ⟨k, o, none⟩, pn, pc, pf⟩, h0, h1, h2, h3, o_, i_, e_⟩ q _ E.a hq hn hp hpn hl hh).mono ?_
    rintro e w1 ⟨⟨r, rfl, hr⟩, hb⟩
    have F := E.later hb
    go_wp2_with (fail)
    go_ret
    refine ⟨⟨r, rfl, ?_⟩, F.b⟩
    cases r
    · exact ⟨fun e => Bool.noConfusion e, fun g => by
        unfold PageP at g
        rcases g with g | g | g | g
        · have := g.1; simp only at this; omega
        · obtain ⟨m', g1, g2, g3⟩ := g; simp only at g2; omega
        · have := g.1; simp only at this; omega
        · exact absurd g hr.f⟩
    · exact ⟨fun _ => .inr (.inr (.inr hr.t)), fun _ => rfl⟩

end Go.Proofs.YtoaopapnpndklaaDoor.Book

/- What the specification asks of the lists. -/
namespace Go.Proofs.YtoaopapnpndklaaDoor.Book
open Go.ChangeShapes Go.WideShapes Go.ChangeAt Go.RowKit
open Go.Proofs.YtoaopapnpndklaaDoor.Aid Go.Proofs.YtoaopapnpndklaaDoor.Lst
set_option maxRecDepth 100000

def BegP (b : Bx) (k : Nat) (u : Int) : Prop := 0 ≤ u ∧ u < b.o.n ∧ b.p.f (u / 8).toNat = k + 1 ∧ u % sz k ≤ 0
def ListP (b : Bx) (k n : Nat) : Prop := ∀ j, j < n → BegP b k ((b.hd k).f j)
def ListsP (b : Bx) (m : Nat) : Prop := ∀ k, k < m → (b.hd k).n ≤ b.o.n ∧ ListP b k (b.hd k).n

theorem ListP.up {b : Bx} {k n : Nat} (h : ListP b k n) (h1 : BegP b k ((b.hd k).f n)) : ListP b k (n + 1) := fun j hj => by
  by_cases e : j = n
  · subst e; exact h1
  · exact h j (by omega)
theorem ListsP.up {b : Bx} {m : Nat} (h : ListsP b m) (h1 : (b.hd m).n ≤ b.o.n) (h2 : ListP b m (b.hd m).n) : ListsP b (m + 1) := fun k hk => by
  by_cases e : k = m
  · subst e; exact ⟨h1, h2⟩
  · exact h k (by omega)

theorem kdM_iff (s : Int) (k : Nat) (hk : k < 4) : kdM s = k ↔ s = k + 1 := by
  simp only [kdM]
  split <;> omega

set_option maxRecDepth 100000 in
set_option maxHeartbeats 8000000 in
theorem lists_any (b : Bx) (w : World) (h : b.At w) (hon : b.o.n ≤ b.p.n * 8) (hon' : b.p.n * 8 ≤ b.o.n) (hpn : b.p.n ≤ 100) (h1 : 1 ≤ b.p.n) (hh : ∀ k, k < 4 → (b.hd k).n ≤ 1000000000) (hf : ∀ k, k < 4 → ∀ j, (b.hd k).f j ≤ 9223372036854775807) :
    Calls Tryd.prog 31 #[.agg b.cells.toArray] w fun e w' => Says e (ListsP b 4) ∧ Below w.heap.size w w' := by
  have E := Ent.start h 29
  simp only [Bx.cells] at E ⊢
  go_enter Tryd.func31, Tryd.ntmps31
  go_wp2_with (fail)
  generalize w.alloc (.cells #[.int .i64 b.s, .slice b.p.a b.p.n b.p.c, .slice b.h0.a b.h0.n b.h0.c, .slice b.h1.a b.h1.n b.h1.c, .slice b.h2.a b.h2.n b.h2.c, .slice b.h3.a b.h3.n b.h3.c, .slice b.o.a b.o.n b.o.c, .slice b.i.a b.i.n b.i.c, .slice b.e.a b.e.n b.e.c] 29) = W at E ⊢
  go_loopw [3] (fun i wr => ∃ k : Nat, k ≤ 4 ∧ i = .int .i64 k ∧ ListsP b k ∧ Ent w b wr) (fun i _ => 4 - (intOf i).toNat)
  case atStart => exact ⟨0, by omega, rfl, fun k h => absurd h (Nat.not_lt_zero _), E⟩
  case round =>
    obtain ⟨k, hk, rfl, hL, F⟩ := hrel
    clear E
    by_cases hlt : (k : Int) < 4
    · have hk4 : k < 4 := by omega
      have hxn := hh k hk4
      have hxf := hf k hk4
      have uh := F.hd k hk4
      obtain ⟨-, -, -, -, -, -, u6, -, -⟩ := nine F.r
      have HL : Hid (ListsP b k) := hL
      clear hL
      by_cases ln : ((b.hd k).n : Int) > b.o.n
      · go_wp2_with (fail)
        go_quiet (fail)
        go_wp2_with (fail)
        go_ret
        exact ⟨Says.no (fun g => by have := (g k hk4).1; omega), (F.drewN nq).b⟩
      · go_wp2_with (fail)
        go_quiet (fail)
        have G := F.drewN nq
        clear uh u6 F
        generalize wr.drewN nq = wr at G ⊢
        go_wp2_with (fail)
        rw [show decide (b.o.n < (b.hd k).n) = false from decide_eq_false (by omega)]
        go_loopw [4] (fun i wr => ∃ j : Nat, j ≤ (b.hd k).n ∧ i = .int .i64 j ∧ ListP b k j ∧ Ent w b wr) (fun i _ => (b.hd k).n - (intOf i).toNat)
        case atStart => exact ⟨0, by omega, rfl, fun j h => absurd h (Nat.not_lt_zero _), G⟩
        case round =>
          obtain ⟨j, hj, rfl, hP, F⟩ := hrel
          clear G
          have uh := F.hd k hk4
          obtain ⟨-, u1, -, -, -, -, u6, -, -⟩ := nine F.r
          by_cases jl : (j : Int) < (b.hd k).n
          · obtain ⟨k1, o1, ex, hx⟩ := (F.a.hd k).cells (by omega)
            obtain ⟨k2, o2, ep, hp⟩ := F.a.p.cells (by omega)
            have c1 := hx j (by omega)
            rw [ex] at uh
            rw [ep] at u1
            have xf := hxf j
            have HP : Hid (ListP b k j) := hP
            clear ex ep hx hP
            generalize hv : (b.hd k).f j = v at c1 xf
            have HV : Hid ((b.hd k).f j = v) := hv
            clear hv
            have bad : ¬ BegP b k v → ¬ ListsP b 4 := fun g q => g (by rw [← HV.out]; exact (q k hk4).2 j (by omega))
            by_cases v0 : v < 0
            · go_wp2_with (fail)
              go_ret
              exact ⟨Says.no (bad (fun g => by have := g.1; omega)), F.b⟩
            by_cases v1 : v ≥ b.o.n
            · go_wp2_with (fail)
              go_ret
              exact ⟨Says.no (bad (fun g => by have := g.2.1; omega)), F.b⟩
            have c2 := hp (v / 8).toNat (by omega)
            have i1 : v / 8 < b.p.n := by omega
            have i2 : 0 ≤ v / 8 := by omega
            clear hp
            generalize hy : b.p.f (v / 8).toNat = y at c2
            have HY : Hid (b.p.f (v / 8).toNat = y) := hy
            have BAD : Hid (¬ BegP b k v → ¬ ListsP b 4) := bad
            clear hy bad
            go_wp2_with (fail)
            refine (kd_any y _).mono ?_
            rintro e w1 ⟨rfl, rfl⟩
            have kI := kdM_iff y k hk4
            generalize kdM y = z at kI ⊢
            by_cases zk : z = k
            · have hyk : Hid (y = k + 1) := kI.1 zk
              rw [zk]
              clear zk kI
              go_wp2_with (fail)
              refine (size_any k (by omega) hlt _).mono ?_
              rintro e w2 ⟨rfl, hb⟩
              obtain ⟨z1, z2⟩ := sz_pos k
              generalize hd : sz k = d at z1 z2 ⊢
              have HD : Hid (sz k = d) := hd
              have G := F.later hb
              clear hd hb F c1 c2 u1 u6 uh
              by_cases r : 0 < v % d
              · go_wp2_with (fail)
                go_ret
                exact ⟨Says.no (BAD.out (fun g => by have := g.2.2.2; rw [HD.out] at this; omega)), G.b⟩
              · go_wp2_with (fail)
                go_roundw
                case rel => exact ⟨j + 1, by omega, by go_num, HP.out.up (by rw [HV.out]; exact ⟨by omega, by omega, by rw [HY.out]; exact hyk.out, by rw [HD.out]; omega⟩), G⟩
                case measure => simp [intOf]; omega
            · have hyk : ¬ y = k + 1 := fun e => zk (kI.2 e)
              clear kI
              go_wp2_with (fail)
              go_ret
              exact ⟨Says.no (BAD.out (fun g => by have := g.2.2.1; rw [HY.out] at this; exact hyk this)), F.b⟩
          · go_wp2_with (fail)
            go_roundw
            case rel => exact ⟨k + 1, by omega, by go_num, HL.out.up (by omega) (by
              have e : j = (b.hd k).n := by omega
              rw [← e]; exact hP), F⟩
            case measure => simp [intOf]; omega
    · obtain rfl : k = 4 := by omega
      have HL : Hid (ListsP b 4) := hL
      clear hL
      go_wp2_with (fail)
      go_ret
      exact ⟨Says.yes HL.out, F.b⟩

end Go.Proofs.YtoaopapnpndklaaDoor.Book

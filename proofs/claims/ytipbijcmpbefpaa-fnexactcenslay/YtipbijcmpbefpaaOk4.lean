/- What the specification asks of a page, of the lists, of the slots; of a book. -/
import Derived.Test.YtipbijcmpbefpaaOk3
namespace Go.Proofs.Ytipbijcmpbefpaa.Book
open Go.ChangeShapes Go.WideShapes Go.ChangeAt Go.RowKit
open Go.Proofs.Ytipbijcmpbefpaa.Aid Go.Proofs.Ytipbijcmpbefpaa.Lst
set_option maxRecDepth 100000

def PageP (b : Bx) (q : Nat) : Prop :=
  (b.p.f q = 0 ∧ FreeP b.o.f q 0) ∨ (∃ m : Nat, m < 4 ∧ b.p.f q = m + 1 ∧ RoomsP b.o.f (b.hd m) m q) ∨
  (b.p.f q = 7 ∧ RestP b.p.f b.o.f q) ∨ WideP b.p.f b.o.f b.p.n q

theorem Ent.drew {w : World} {b : Bx} {W : World} (h : Ent w b W) : Ent w b W.drew := ⟨h.r, h.a, ⟨h.b.os, h.b.tape, h.b.output, h.b.size, h.b.block⟩, h.lt⟩

set_option maxRecDepth 100000 in
set_option maxHeartbeats 4000000 in
theorem page_any (b : Bx) (q : Nat) (w : World) (h : b.At w) (hq : (q + 1) * 8 ≤ b.o.n) (hn : b.o.n ≤ 1000) (hp : q < b.p.n) (hpn : b.p.n ≤ 1000) (hl : -9223372036854775808 ≤ b.p.f q) (hh : b.p.f q ≤ 9223372036854775807)
    (hP : ∀ j, j < q → b.p.f j ≤ 12) (hd : ∀ k, k < 4 → (b.hd k).n ≤ 1000) :
    Calls Try.prog 41 #[.agg b.cells.toArray, .int .i64 q] w fun e w' => Says e (PageP b q) ∧ Below w.heap.size w w' := by
  obtain ⟨k, o, ea, hc⟩ := h.p.cells (by omega)
  obtain ⟨bs, ⟨pa, pn, pc, pf⟩, h0, h1, h2, h3, o_, i_, e_⟩ := b
  simp only at ea hq hn hp hpn hl hh hc hP
  subst ea
  have E : Ent w ⟨bs, ⟨some ⟨k, o, none⟩, pn, pc, pf⟩, h0, h1, h2, h3, o_, i_, e_⟩ (w.alloc (.cells #[.int .i64 bs, .slice (some ⟨k, o, none⟩) pn pc, .slice h0.a h0.n h0.c, .slice h1.a h1.n h1.c, .slice h2.a h2.n h2.c, .slice h3.a h3.n h3.c, .slice o_.a o_.n o_.c, .slice i_.a i_.n i_.c, .slice e_.a e_.n e_.c] 26)) := Ent.start h 26
  have B1 := below1 w (.cells #[.int .i64 bs, .slice (some ⟨k, o, none⟩) pn pc, .slice h0.a h0.n h0.c, .slice h1.a h1.n h1.c, .slice h2.a h2.n h2.c, .slice h3.a h3.n h3.c, .slice o_.a o_.n o_.c, .slice i_.a i_.n i_.c, .slice e_.a e_.n e_.c] 26)
  have c1 : (w.alloc (.cells #[.int .i64 bs, .slice (some ⟨k, o, none⟩) pn pc, .slice h0.a h0.n h0.c, .slice h1.a h1.n h1.c, .slice h2.a h2.n h2.c, .slice h3.a h3.n h3.c, .slice o_.a o_.n o_.c, .slice i_.a i_.n i_.c, .slice e_.a e_.n e_.c] 26)).cell? ⟨k, o + q, none⟩ = some (.int .i64 (pf q)) := by
    have := hc q hp
    rw [B1.cell (p := ⟨k, o + q, none⟩) (World.block_lt_of_cell? w _ this)]; exact this
  have i1 : (q : Int) < pn := by omega
  clear B1 hc
  simp only [Bx.cells]
  by_cases p0 : pf q = 0
  · rw [p0] at c1
    have P0 : Hid (pf q = 0) := p0
    clear p0
    go_enter Try.func41, Try.ntmps41
    go_wp2_with (fail)
    refine (free_any ⟨bs, ⟨some ⟨k, o, none⟩, pn, pc, pf⟩, h0, h1, h2, h3, o_, i_, e_⟩ q 0 _ E.a hq hn (by omega)).mono ?_
    rintro e w1 ⟨⟨r, rfl, hr⟩, hb⟩
    have F := E.later hb
    go_wp2_with (fail)
    go_ret
    refine ⟨⟨r, rfl, ?_⟩, F.b⟩
    have p0 := P0.out
    cases r
    · exact ⟨fun e => Bool.noConfusion e, fun g => by
        unfold PageP at g
        rcases g with g | g | g | g
        · exact absurd g.2 hr.f
        · obtain ⟨m, g1, g2, g3⟩ := g; simp only at g2; omega
        · have := g.1; simp only at this; omega
        · have := g.1; simp only at this; omega⟩
    · exact ⟨fun _ => .inl ⟨p0, hr.t⟩, fun _ => rfl⟩
  by_cases p4 : 1 ≤ pf q ∧ pf q ≤ 4
  · obtain ⟨m, hm⟩ : ∃ m : Nat, pf q = m + 1 := ⟨(pf q - 1).toNat, by omega⟩
    have hm4 : m < 4 := by omega
    have ek : kdM (pf q) = (m : Int) := by simp only [kdM]; rw [if_pos p4]; omega
    obtain ⟨p41, p42⟩ := p4
    have HM : Hid (pf q = m + 1) := hm
    clear hm
    go_enter Try.func41, Try.ntmps41
    go_wp2_with (fail)
    refine (kd_any (pf q) _).mono ?_
    rintro e w1 ⟨rfl, rfl⟩
    have HEK : Hid (kdM (pf q) = (m : Int)) := ek
    have kk : 0 ≤ kdM (pf q) := by omega
    have kk' : kdM (pf q) < 4 := by omega
    clear ek
    go_wp2_with (fail)
    clear c1
    generalize w.alloc (.cells #[.int .i64 bs, .slice (some ⟨k, o, none⟩) pn pc, .slice h0.a h0.n h0.c, .slice h1.a h1.n h1.c, .slice h2.a h2.n h2.c, .slice h3.a h3.n h3.c, .slice o_.a o_.n o_.c, .slice i_.a i_.n i_.c, .slice e_.a e_.n e_.c] 26) = W at E ⊢
    refine wp_region_held_drew (S := Ent w ⟨bs, ⟨some ⟨k, o, none⟩, pn, pc, pf⟩, h0, h1, h2, h3, o_, i_, e_⟩) (by kernel_rfl) E.drew (fun hS => ?_)
    refine takeB (i := 0) (v := .agg #[.int .i64 bs, .slice (some ⟨k, o, none⟩) pn pc, .slice h0.a h0.n h0.c, .slice h1.a h1.n h1.c, .slice h2.a h2.n h2.c, .slice h3.a h3.n h3.c, .slice o_.a o_.n o_.c, .slice i_.a i_.n i_.c, .slice e_.a e_.n e_.c]) (d := some 21) rfl rfl (by kernel_rfl) (by kernel_rfl) (by kernel_rfl) (fun _ _ _ h => h) (Or.inl ⟨by rfl, fun w' hw => ?_⟩) (by assumption) ?_
    · obtain ⟨u0, u1, u2, u3, u4, u5, u6, u7, u8⟩ := nine hw.r; go_simp
    simp only [Act.put, List.setIfInBounds_toArray, List.set_cons_zero, List.set_cons_succ]
    refine takeB (i := 1) (v := .int .i64 q) (d := some 22) rfl rfl (by kernel_rfl) (by kernel_rfl) (by kernel_rfl) (fun _ _ _ h => h) (Or.inl ⟨by rfl, fun w' hw => ?_⟩) (by assumption) ?_
    · go_simp
    simp only [Act.put, List.setIfInBounds_toArray, List.set_cons_zero, List.set_cons_succ]
    refine takeB (i := 2) (v := .int .i64 (pf q)) (d := some 23) rfl rfl (by kernel_rfl) (by kernel_rfl) (by kernel_rfl) (fun _ _ _ h => h) (Or.inl ⟨by rfl, fun w' hw => ?_⟩) (by assumption) ?_
    · go_simp
    simp only [Act.put, List.setIfInBounds_toArray, List.set_cons_zero, List.set_cons_succ]
    generalize W.drew = W at hS ⊢
    refine wpAnyH_ready (rs := [3]) (by kernel_rfl) (by simp) ?_
    refine AllReadyH.cons rfl (fun K hK => ?_) AllReadyH.nil
    go_simp
    refine (kd_any (pf q) _).mono ?_
    rintro e w1 ⟨rfl, rfl⟩
    go_wp2_with (fail)
    refine hK.out _ _ hS (fun hS => ?_)
    clear hK K
    refine wpAnyH_ready (rs := [4]) (by kernel_rfl) (by simp) ?_
    refine AllReadyH.cons rfl (fun K hK => ?_) AllReadyH.nil
    rw [HEK.out]
    go_simp
    refine (rooms_any ⟨bs, ⟨some ⟨k, o, none⟩, pn, pc, pf⟩, h0, h1, h2, h3, o_, i_, e_⟩ q m _ hS.a hq hn hm4 (hd m hm4)).mono ?_
    rintro e w1 ⟨⟨r, rfl, hr⟩, hb⟩
    go_wp2_with (fail)
    refine hK.out _ _ (hS.later hb) (fun hS => ?_)
    clear hK K
    refine takeB (i := 5) (v := .bool r) (d := some 4) rfl rfl (by kernel_rfl) (by kernel_rfl) (by kernel_rfl) (fun _ _ _ h => h) (Or.inl ⟨by rfl, fun w' hw => ?_⟩) (by assumption) ?_
    · go_simp
    simp only [Act.put, List.setIfInBounds_toArray, List.set_cons_zero, List.set_cons_succ]
    refine wpAnyH_done (by kernel_rfl) ?_ _
    go_wp2_with (fail)
    go_ret
    refine ⟨⟨r, rfl, ?_⟩, hS.b⟩
    have hm := HM.out
    cases r
    · exact ⟨fun e => Bool.noConfusion e, fun g => by
        unfold PageP at g
        rcases g with g | g | g | g
        · have := g.1; simp only at this; omega
        · obtain ⟨m', g1, g2, g3⟩ := g
          simp only at g2
          obtain rfl : m' = m := by omega
          exact absurd g3 hr.f
        · have := g.1; simp only at this; omega
        · have := g.1; simp only at this; omega⟩
    · exact ⟨fun _ => .inr (.inl ⟨m, hm4, hm, hr.t⟩), fun _ => rfl⟩
  have ek : kdM (pf q) = -1 := by simp only [kdM]; rw [if_neg p4]
  by_cases p7 : pf q = 7
  · rw [p7] at c1 ek
    have P7 : Hid (pf q = 7) := p7
    clear p7 p0 p4
    go_enter Try.func41, Try.ntmps41
    go_wp2_with (fail)
    refine (kd_any 7 _).mono ?_
    rintro e w1 ⟨rfl, rfl⟩
    rw [ek]
    clear ek
    go_wp2_with (fail)
    refine (rest_any ⟨bs, ⟨some ⟨k, o, none⟩, pn, pc, pf⟩, h0, h1, h2, h3, o_, i_, e_⟩ q _ E.a hq hn hp hpn (fun j hj => ?_)).mono ?_
    · by_cases e : j = q
      · subst e; show pf j ≤ 12; rw [P7.out]; decide
      · exact hP j (by omega)
    rintro e w1 ⟨⟨r, rfl, hr⟩, hb⟩
    have F := E.later hb
    go_wp2_with (fail)
    go_ret
    refine ⟨⟨r, rfl, ?_⟩, F.b⟩
    have p7 := P7.out
    cases r
    · exact ⟨fun e => Bool.noConfusion e, fun g => by
        unfold PageP at g
        rcases g with g | g | g | g
        · have := g.1; simp only at this; omega
        · obtain ⟨m', g1, g2, g3⟩ := g; simp only at g2; omega
        · exact absurd g.2 hr.f
        · have := g.1; simp only at this; omega⟩
    · exact ⟨fun _ => .inr (.inr (.inl ⟨p7, hr.t⟩)), fun _ => rfl⟩
  · go_enter Try.func41, Try.ntmps41
    go_wp2_with (fail)
    refine (kd_any (pf q) _).mono ?_
    rintro e w1 ⟨rfl, rfl⟩
    rw [ek]
    clear ek
    go_wp2_with (fail)
    refine (wide_any ⟨bs, ⟨some ⟨k, o, none⟩, pn, pc, pf⟩, h0, h1, h2, h3, o_, i_, e_⟩ q _ E.a hq hn hp hpn hl hh).mono ?_
    rintro e w1 ⟨⟨r, rfl, hr⟩, hb⟩
    have F := E.later hb
    go_wp2_with (fail)
    go_ret
    refine ⟨⟨r, rfl, ?_⟩, F.b⟩
    cases r
    · exact ⟨fun e => Bool.noConfusion e, fun g => by
        unfold PageP at g
        rcases g with g | g | g | g
        · have := g.1; simp only at this; omega
        · obtain ⟨m', g1, g2, g3⟩ := g; simp only at g2; omega
        · have := g.1; simp only at this; omega
        · exact absurd g hr.f⟩
    · exact ⟨fun _ => .inr (.inr (.inr hr.t)), fun _ => rfl⟩

end Go.Proofs.Ytipbijcmpbefpaa.Book

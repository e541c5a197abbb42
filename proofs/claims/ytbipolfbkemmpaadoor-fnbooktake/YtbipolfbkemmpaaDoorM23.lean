import Derived.Test.YtbipolfbkemmpaaDoorM22
import Derived.Test.YtbipolfbkemmpaaDoorM12
import Derived.Test.YtbipolfbkemmpaaDoorM3

/- The program's mine. -/
namespace Go.Proofs.YtbipolfbkemmpaaDoor.Dra
open Go.ChangeShapes Go.WideShapes Go.ChangeAt Go.RowKit
open Aid Lst Book Rin
set_option maxRecDepth 100000
set_option linter.unusedVariables false
set_option maxHeartbeats 16000000 in
theorem mine_any {a : Nat → Addr} {B D : Nat} {s t : Nat → Nat} {b : Bx} {U : Nat → List Int} {w : World} (h : Dr B D s t b U w) (he : Er a w) (hB : 12 ≤ B) (hok : OkP b) (o : Ox) (t1 : 0 ≤ o.s) (t2 : o.s ≤ 1000) :
    Calls Tryd.prog 88 #[.pointer (some ⟨D, 0, none⟩), .agg o.cells.toArray] w fun e w' => (∃ r : Nat, e = .returned (errV a r) ∧ WhoP b o.s o.a r) ∧ ∃ t', Du B D s t w t' b U w' := by
  have S := Oq.start (a := a) h he hB o 28
  have HOK : Hid (OkP b) := hok
  have l6 := hok.1.1.2.2.2.2.1
  have l7 := hok.1.1.2.2.2.2.2.2
  obtain ⟨ko, oo, eo, to⟩ := h.addr (x := b.o) (by simp [Bx.lists]) (by omega)
  have EO : Hid (b.o.a = some ⟨ko, oo, none⟩) := eo
  clear h he hB eo hok l6 l7
  simp only [Ox.cells] at S ⊢
  go_enter Tryd.func88, Tryd.ntmps88
  go_wp2_with (fail)
  generalize w.alloc (.cells _ 28) = W at S ⊢
  have HS0 : Hid (Oq a B D s t w t b U w.heap.size o W) := S
  clear S
  refine wp_region_held_drew (S := Oq a B D s t w t b U w.heap.size o) (by kernel_rfl) (HS0.out.drewN 1) (fun hS => ?_)
  refine tI 0 (v := .pointer (some ⟨D, 0, none⟩)) (d := some 5) rfl rfl (fun w' hw => ?_) hS ?_
  · clear hw; go_simp
  try simp only [Act.put, s1, s2, s3]
  refine tI 1 (v := .pointer (some ⟨D, 0, none⟩)) (d := some 6) rfl rfl (fun w' hw => ?_) hS ?_
  · clear hw; go_simp
  try simp only [Act.put, s1, s2, s3]
  refine tI 2 (v := .pointer (some ⟨D, 0, none⟩)) (d := some 7) rfl rfl (fun w' hw => ?_) hS ?_
  · clear hw; go_simp
  try simp only [Act.put, s1, s2, s3]
  refine tB 3 (v := .agg b.cells.toArray) (d := some 8) rfl rfl (yieldsIf_load_mid (by rfl) 26 _ rfl D 0 rfl b.cells _ (fun w' hw => hw.d.d.range) Tryd.underlying26 rfl (by kernel_rfl)) hS ?_
  try simp only [Act.put, s1, s2, s3]
  refine tI 4 (v := .pointer (some ⟨w.heap.size, 2, none⟩)) (d := some 9) rfl rfl (fun w' hw => ?_) hS ?_
  · clear hw; go_simp
  try simp only [Act.put, s1, s2, s3]
  refine tI 5 (v := .int .i64 o.a) (d := some 10) rfl rfl (fun w' hw => ?_) hS ?_
  · have q := hw.op 2 _ rfl; clear hw; go_simp
  try simp only [Act.put, s1, s2, s3]
  refine r1 6 rfl (fun K hK => ?_)
  have HS1 : Hid (Oq a B D s t w t b U w.heap.size o W.drew) := hS
  clear hS
  go_simp
  refine (units_any b o.a _ HS1.out.d.d.h.at HOK.out).mono ?_
  rintro e w2 ⟨⟨r, rfl, hr⟩, hb⟩
  have HR : Hid (RoomR b o.a r) := hr
  have HS2 : Hid (Oq a B D s t w t b U w.heap.size o w2) := HS1.out.later hb
  clear HS1 hb hr
  go_wp2_with (fail)
  refine hK.out _ _ HS2.out (fun hS => ?_)
  clear hK K
  try simp only [Act.put, s1, s2, s3]
  refine tI 7 (v := .bool (r == 0)) (d := some 12) rfl rfl (fun w' hw => ?_) hS ?_
  · clear hw; go_simp
  try simp only [Act.put, s1, s2, s3]
  refine wpAnyH_done (by kernel_rfl) ?_ _
  clear hS
  by_cases r0 : r = 0
  · subst r0
    have HZ : Hid (o.a < 0 ∨ (b.o.n : Int) ≤ o.a ∨ b.o.f o.a.toNat = 0) := room_zero HR.out
    have c3 : w2.cell? ⟨4, 0, none⟩ = some (ev a 3) := HS2.out.e.h _ _ (by simp [erl])
    go_wp2_with (fail)
    refine bodyPost_ret (v := ev a 3) (by simp [results]) rfl ?_
    exact ⟨⟨3, rfl, .inl ⟨HZ.out, rfl⟩⟩, t, HS2.out.d⟩
  · obtain ⟨v0, v1, v2⟩ := room_some HR.out r0
    obtain ⟨A, eA⟩ : ∃ A : Nat, o.a = A := ⟨o.a.toNat, by omega⟩
    have hA : A < b.o.n := by omega
    have nb : (r == 0) = false := by simpa using r0
    rw [eA, Int.toNat_natCast] at v2
    have c6 : w2.cell? ⟨D, 6, none⟩ = some (.slice (some ⟨ko, oo, none⟩) b.o.n b.o.c) := by rw [← EO.out]; exact HS2.out.d.d.cell 6 _ rfl
    have ca := (HS2.out.d.d.at (x := b.o) (by simp [Bx.lists]) EO.out hA).1
    have k2 : w2.cell? ⟨w.heap.size, 2, none⟩ = some (.int .i64 A) := by rw [← eA]; exact HS2.out.op 2 _ rfl
    have k1 : w2.cell? ⟨w.heap.size, 1, none⟩ = some (.int .i64 o.s) := HS2.out.op 1 _ rfl
    have HV : Hid (¬ b.o.f A = 0) := v2
    have HA : Hid (o.a = A) := eA
    have iA : (A : Int) < b.o.n := by omega
    have c4 : w2.cell? ⟨5, 0, none⟩ = some (ev a 4) := HS2.out.e.h _ _ (by simp [erl])
    clear v2 eA v0 v1
    go_wp2_with (fail)
    go_quiet (fail)
    by_cases e : b.o.f A = o.s + 1
    · go_wp2_with (fail)
      refine bodyPost_ret (v := .nilIface) (by simp [results]) rfl ?_
      refine ⟨⟨0, rfl, ?_⟩, t, HS2.out.d.drewN _⟩
      rw [HA.out]
      exact .inr ⟨⟨by omega, by omega, by rw [Int.toNat_natCast]; exact HV.out⟩, .inr ⟨by rw [Int.toNat_natCast]; exact e, rfl⟩⟩
    · go_wp2_with (fail)
      refine bodyPost_ret (v := ev a 4) (by simp [results]) rfl ?_
      refine ⟨⟨4, rfl, ?_⟩, t, HS2.out.d.drewN _⟩
      rw [HA.out]
      exact .inr ⟨⟨by omega, by omega, by rw [Int.toNat_natCast]; exact HV.out⟩, .inl ⟨by rw [Int.toNat_natCast]; exact e, rfl⟩⟩
  
  end Go.Proofs.YtbipolfbkemmpaaDoor.Dra
/- BookOf, of both. -/
namespace Go.Proofs.YtbipolfbkemmpaaDoor.Book
open Go.ChangeShapes Go.WideShapes Go.ChangeAt Go.RowKit
open Aid Lst
set_option maxRecDepth 100000
set_option linter.unusedVariables false

/- The rooms of a slot of a book. -/
def OfL (b : Bx) (t : Int) (L : List Int) : Prop := (OkP b ∧ ((0 ≤ t ∧ t < b.s) ∧ L = selL b.o.f (t + 1) b.o.n ∨ ¬ (0 ≤ t ∧ t < b.s) ∧ L = [])) ∨ (¬ OkP b ∧ L = [])
theorem ofl_one {b : Bx} {t : Int} {L M : List Int} (h : OfL b t L) (g : OfL b t M) : L = M := by
  rcases h with ⟨h, ⟨h1, rfl⟩ | ⟨h1, rfl⟩⟩ | ⟨h, rfl⟩ <;> rcases g with ⟨g, ⟨g1, rfl⟩ | ⟨g1, rfl⟩⟩ | ⟨g, rfl⟩
  · rfl
  · exact absurd h1 g1
  · exact absurd h g
  · exact absurd g1 h1
  · rfl
  · exact absurd h g
  · exact absurd g h
  · exact absurd g h
  · rfl
theorem ofl_m {b c : Bx} (h : b.m = c.m) (t : Int) (L : List Int) : OfL b t L ↔ OfL c t L := by
  have e := norm_m h
  have es : b.s = c.s := congrArg (·.s) e
  have ef : b.o.f = c.o.f := congrArg (·.o.f) e
  have en : b.o.n = c.o.n := congrArg (·.o.n) e
  unfold OfL
  rw [ok_m h, es, ef, en]

def OfQ (b : Bx) (t : Int) (base : Nat) (w' : World) (e : Ending) : Prop := ∃ v L, e = .returned v ∧ w'.ownsRow base 3 1 v L.length (vals L) ∧ OfL b t L

set_option maxRecDepth 100000 in
set_option maxHeartbeats 8000000 in
theorem rooms_out (b : Bx) (t : Int) (w : World) (h : b.At w) (ht : ¬ (0 ≤ t ∧ t < b.s)) :
    Calls Tryd.prog 44 #[.agg b.cells.toArray, .int .i64 t] w fun e w' => e = .returned (.slice none 0 0) ∧ Below w.heap.size w w' := by
  have E : Ent w b (w.alloc (.cells #[.int .i64 b.s, .slice b.p.a b.p.n b.p.c, .slice b.h0.a b.h0.n b.h0.c, .slice b.h1.a b.h1.n b.h1.c, .slice b.h2.a b.h2.n b.h2.c, .slice b.h3.a b.h3.n b.h3.c, .slice b.o.a b.o.n b.o.c, .slice b.i.a b.i.n b.i.c, .slice b.e.a b.e.n b.e.c] 26)) := Ent.start h 26
  simp only [Bx.cells]
  go_enter Tryd.func44, Tryd.ntmps44
  go_wp2_with (fail)
  generalize w.alloc (.cells #[.int .i64 b.s, .slice b.p.a b.p.n b.p.c, .slice b.h0.a b.h0.n b.h0.c, .slice b.h1.a b.h1.n b.h1.c, .slice b.h2.a b.h2.n b.h2.c, .slice b.h3.a b.h3.n b.h3.c, .slice b.o.a b.o.n b.o.c, .slice b.i.a b.i.n b.i.c, .slice b.e.a b.e.n b.e.c] 26) = W at E ⊢
  refine (isslot_any b t W).mono ?_
  rintro e w1 ⟨⟨r, rfl, hr⟩, hb⟩
  replace E := E.later hb
  clear hb
  cases r
  · go_wp2_with (fail)
    go_ret
    exact ⟨rfl, E.b⟩
  · exact absurd hr.t ht

set_option maxRecDepth 100000 in
set_option maxHeartbeats 8000000 in
theorem of_any (b : Bx) (t : Int) (w : World) (h : b.At w) (hn : b.total ≤ 1000000000) (hcap : b.o.n ≤ b.o.c) :
    Calls Tryd.prog 18 #[.agg b.cells.toArray, .int .i64 t] w fun e w' => OfQ b t w.heap.size w' e ∧ Below w.heap.size w w' := by
  have E : Ent w b (w.alloc (.cells #[.int .i64 b.s, .slice b.p.a b.p.n b.p.c, .slice b.h0.a b.h0.n b.h0.c, .slice b.h1.a b.h1.n b.h1.c, .slice b.h2.a b.h2.n b.h2.c, .slice b.h3.a b.h3.n b.h3.c, .slice b.o.a b.o.n b.o.c, .slice b.i.a b.i.n b.i.c, .slice b.e.a b.e.n b.e.c] 26)) := Ent.start h 26
  simp only [Bx.cells]
  go_enter Tryd.func18, Tryd.ntmps18
  go_wp2_with (fail)
  generalize w.alloc (.cells #[.int .i64 b.s, .slice b.p.a b.p.n b.p.c, .slice b.h0.a b.h0.n b.h0.c, .slice b.h1.a b.h1.n b.h1.c, .slice b.h2.a b.h2.n b.h2.c, .slice b.h3.a b.h3.n b.h3.c, .slice b.o.a b.o.n b.o.c, .slice b.i.a b.i.n b.i.c, .slice b.e.a b.e.n b.e.c] 26) = W at E ⊢
  refine (ok_any b W E.a hn hcap).mono ?_
  rintro e w1 ⟨⟨r, rfl, hr⟩, hb⟩
  replace E := E.later hb
  clear hb
  cases r
  · go_wp2_with (fail)
    go_ret
    exact ⟨⟨_, [], rfl, ⟨rfl, .inl ⟨rfl, rfl⟩⟩, .inr ⟨hr.f, rfl⟩⟩, E.b⟩
  have OK : Hid (OkP b) := hr.t
  clear hr
  obtain ⟨u0, u1, u2, u3, u4, u5, u6, u7, u8⟩ := nine E.r
  go_wp2_with (fail)
  by_cases ht : 0 ≤ t ∧ t < b.s
  · refine (rooms_in b t _ E.a OK.out ht.1 ht.2).mono ?_
    rintro e w2 ⟨⟨v, rfl, ho⟩, hb⟩
    have F := E.later hb
    have zz := E.b.size
    go_wp2_with (fail)
    go_ret
    refine ⟨⟨v, selL b.o.f (t + 1) b.o.n, rfl, ⟨ho.1, ?_⟩, .inl ⟨OK.out, .inl ⟨ht, rfl⟩⟩⟩, F.b⟩
    rcases ho.2 with g | ⟨g, cap, cur, e, hb, r⟩
    · exact .inl g
    · exact .inr ⟨g, cap, cur, e, by omega, r⟩
  · refine (rooms_out b t _ E.a ht).mono ?_
    rintro e w2 ⟨rfl, hb⟩
    have F := E.later hb
    go_wp2_with (fail)
    go_ret
    exact ⟨⟨_, [], rfl, ⟨rfl, .inl ⟨rfl, rfl⟩⟩, .inl ⟨OK.out, .inr ⟨ht, rfl⟩⟩⟩, F.b⟩

def selQ (b : Bx) (t : Int) (u : Nat) : List Int := if 0 ≤ t ∧ t < b.s then selL b.o.f (t + 1) u else []
theorem selQ_len (b : Bx) (t : Int) (u : Nat) : (selQ b t u).length ≤ u := by
  unfold selQ
  split
  · exact selL_len _ _ _
  · exact Nat.zero_le _
theorem selQ_no (b : Bx) (t : Int) (u : Nat) (h : ¬ ((0 ≤ t ∧ t < b.s) ∧ b.o.f u = t + 1)) : selQ b t (u + 1) = selQ b t u := by
  unfold selQ
  split
  · rename_i g
    simp only [selL]
    rw [if_neg (fun e => h ⟨g, e⟩)]
  · rfl
theorem selQ_yes (b : Bx) (t : Int) (u : Nat) (g : 0 ≤ t ∧ t < b.s) (e : b.o.f u = t + 1) : selQ b t (u + 1) = selQ b t u ++ [(u : Int)] := by
  unfold selQ
  rw [if_pos g, if_pos g]
  simp only [selL]
  rw [if_pos e]
theorem own_later {w w1 : World} {base n : Nat} {e : TypeId} {v : Value} {xs : List Value} (h : w.ownsRow base e 1 v n xs) (hb : Below w.heap.size w w1) : w1.ownsRow base e 1 v n xs := by
  obtain ⟨q, g | ⟨g, cap, cur, e, hb', hg, r⟩⟩ := h
  · exact ⟨q, .inl g⟩
  · have hlt : g < w.heap.size := Nat.lt_of_not_le fun hle => by rw [Array.getElem?_eq_none hle] at hg; cases hg
    exact ⟨q, .inr ⟨g, cap, cur, e, hb', by rw [hb.block g hlt]; exact hg, r⟩⟩

set_option maxRecDepth 100000 in
set_option maxHeartbeats 16000000 in
theorem sof_any (b : Bx) (t : Int) (w : World) (h : b.At w) (hn : b.total ≤ 1000000000) (hw : b.Wf) (t0 : -9223372036854775808 ≤ t) (t1 : t ≤ 9223372036854775807) :
    Calls Tryd.prog 20 #[.agg b.cells.toArray, .int .i64 t] w fun e w' => OfQ b t w.heap.size w' e ∧ Below w.heap.size w w' := by
  obtain ⟨i0, hi0, hz0, hz1, hz2⟩ := int_parts infoInt
  have E : Ent w b ((w.alloc (.cells #[.int .i64 b.s, .slice b.p.a b.p.n b.p.c, .slice b.h0.a b.h0.n b.h0.c, .slice b.h1.a b.h1.n b.h1.c, .slice b.h2.a b.h2.n b.h2.c, .slice b.h3.a b.h3.n b.h3.c, .slice b.o.a b.o.n b.o.c, .slice b.i.a b.i.n b.i.c, .slice b.e.a b.e.n b.e.c] 26)).alloc (.cells #[] 3)) := (Ent.start h 26).later (below1 _ _)
  have O : ((w.alloc (.cells #[.int .i64 b.s, .slice b.p.a b.p.n b.p.c, .slice b.h0.a b.h0.n b.h0.c, .slice b.h1.a b.h1.n b.h1.c, .slice b.h2.a b.h2.n b.h2.c, .slice b.h3.a b.h3.n b.h3.c, .slice b.o.a b.o.n b.o.c, .slice b.i.a b.i.n b.i.c, .slice b.e.a b.e.n b.e.c] 26)).alloc (.cells #[] 3)).ownsRow (w.heap.size + 1) 3 1 (.slice (some ⟨w.heap.size + 1, 0, none⟩) 0 0) 0 [] := ⟨rfl, .inr ⟨w.heap.size + 1, 0, #[], rfl, Nat.le_refl _, heap2_1 w _ _, Nat.le_refl _, Nat.zero_le _, rfl, rfl⟩⟩
  simp only [Bx.cells]
  go_enter Tryd.func20, Tryd.ntmps20
  go_wp2_with (fail)
  generalize (w.alloc (.cells #[.int .i64 b.s, .slice b.p.a b.p.n b.p.c, .slice b.h0.a b.h0.n b.h0.c, .slice b.h1.a b.h1.n b.h1.c, .slice b.h2.a b.h2.n b.h2.c, .slice b.h3.a b.h3.n b.h3.c, .slice b.o.a b.o.n b.o.c, .slice b.i.a b.i.n b.i.c, .slice b.e.a b.e.n b.e.c] 26)).alloc (.cells #[] 3) = W at E O ⊢
  by_cases ok : OkP b
  case neg =>
    refine wp_loop_rounds 1 ?_
    rw [rounds_succ]
    obtain ⟨u0, u1, u2, u3, u4, u5, u6, u7, u8⟩ := nine E.r
    go_wp2_with (fail)
    refine (sok_any b W E.a hn hw).mono ?_
    rintro e w1 ⟨⟨r, rfl, hr⟩, hb⟩
    have O1 : w1.ownsRow (w.heap.size + 1) 3 1 (.slice (some ⟨w.heap.size + 1, 0, none⟩) 0 0) 0 [] := by
      obtain ⟨q, ⟨e, _⟩ | ⟨g, cap, cur, e, hb', hg, r⟩⟩ := O
      · cases e
      · have hlt : g < W.heap.size := Nat.lt_of_not_le fun hle => by rw [Array.getElem?_eq_none hle] at hg; cases hg
        exact ⟨q, .inr ⟨g, cap, cur, e, hb', by rw [hb.block g hlt]; exact hg, r⟩⟩
    have F := E.later hb
    clear hb O E u0 u1 u2 u3 u4 u5 u6 u7 u8
    cases r
    · go_wp2_with (fail)
      go_ret
      refine ⟨⟨_, [], rfl, ⟨rfl, ?_⟩, .inr ⟨ok, rfl⟩⟩, F.b⟩
      rcases O1.2 with g | ⟨g, cap, cur, e, hb', r⟩
      · exact .inl g
      · exact .inr ⟨g, cap, cur, e, by omega, r⟩
    · exact absurd hr.t ok
  have OK : Hid (OkP b) := ok
  obtain ⟨n1, n2, n3, n4, n5⟩ := ok.nums
  have OW : Hid (OwnsP b b.o.n) := ok.1.2.2
  have s4 : b.s ≤ 4 := ok.1.1.2.1
  have s1 : 1 ≤ b.s := ok.1.1.1
  clear ok
  go_loopw [5, 6] (fun v i wr => ∃ u : Nat, u ≤ b.o.n ∧ i = .int .i64 u ∧ wr.ownsRow (w.heap.size + 1) 3 1 v (selQ b t u).length (vals (selQ b t u)) ∧ Ent w b wr) (fun _ i _ => b.o.n - (intOf i).toNat)
  case atStart =>
    have e0 : selQ b t 0 = [] := by unfold selQ; split <;> rfl
    exact ⟨0, by omega, rfl, by rw [e0]; exact O, E⟩
  case round =>
    obtain ⟨u, hu, rfl, ho, F⟩ := hrel
    clear E O
    have HO : Hid (wr.ownsRow (w.heap.size + 1) 3 1 u5 (selQ b t u).length (vals (selQ b t u))) := ho
    clear ho
    obtain ⟨u0, u1, u2, u3, u4, u5', u6', u7, u8⟩ := nine F.r
    go_wp2_with (fail)
    refine (sok_any b wr F.a hn hw).mono ?_
    rintro e w1 ⟨⟨r, rfl, hr⟩, hb⟩
    have HO1 : Hid (w1.ownsRow (w.heap.size + 1) 3 1 u5 (selQ b t u).length (vals (selQ b t u))) := own_later HO.out hb
    have G := F.later hb
    clear hb F HO u0 u1 u2 u3 u4 u5' u6' u7 u8
    cases r
    · exact absurd OK.out hr.f
    clear hr
    obtain ⟨-, -, -, -, -, -, v6, -, -⟩ := nine G.r
    by_cases lt : (u : Int) < b.o.n
    · obtain ⟨k, o, ea, hc⟩ := G.a.o.cells (by omega)
      have c1 := hc u (by omega)
      rw [ea] at v6
      clear ea hc
      have ll := selQ_len b t u
      obtain ⟨w0', w1', w2'⟩ := OW.out u (by omega)
      clear w2'
      have OUT : Hid (∀ g, u5.ownBlock = some g → w.heap.size < g) := own_out HO1.out (Nat.lt_succ_self w.heap.size)
      by_cases ta : t < 0
      · have tb : ¬ t ≥ 0 := by omega
        by_cases e : b.o.f u = t + 1
        · have HO2 : Hid (w1.ownsRow (w.heap.size + 1) 3 1 u5 (selQ b t (u + 1)).length (vals (selQ b t (u + 1)))) := by
            unfold Hid
            rw [selQ_no b t u (by omega)]
            exact HO1.out
          clear HO1 OUT
          go_wp2_with (fail)
          go_roundw
          case rel => exact ⟨u + 1, by omega, by go_num, HO2.out, G⟩
          case measure => simp [intOf]; omega
        · have eb : (b.o.f u == t + 1) = false := by simp [e]
          have HO2 : Hid (w1.ownsRow (w.heap.size + 1) 3 1 u5 (selQ b t (u + 1)).length (vals (selQ b t (u + 1)))) := by
            unfold Hid
            rw [selQ_no b t u (by omega)]
            exact HO1.out
          clear HO1 OUT
          go_wp2_with (fail)
          go_roundw
          case rel => exact ⟨u + 1, by omega, by go_num, HO2.out, G⟩
          case measure => simp [intOf]; omega
      · by_cases tc : t < b.s
        · by_cases e : b.o.f u = t + 1
          · have SE : Hid (selQ b t (u + 1) = selQ b t u ++ [(u : Int)]) := selQ_yes b t u ⟨by omega, tc⟩ e
            rw [e] at c1
            clear e
            generalize selQ b t u = L at HO1 ll SE
            have fl := G.lt
            go_wp2_with (refine wpList_append_own _ rfl _ _ 23 rfl (w.heap.size + 1) 3 i0 (.int .i64 0) 1 8 Tryd.underlying23 hi0 hz0 hz1 hz2 rfl (by decide) _ L.length (vals L) rfl (HO1.out.alloc _) ⟨w1.heap.size, 0, none⟩ 1 1 [.int .i64 u] rfl rfl (one_int w1 3 u) (by intro u hu; simp at hu; subst hu; rfl) (by unfold maxLen; omega) (by omega) (by simp; omega) ?_)
            intro v' w4 hown hgrow hiff
            have G2 := (G.later (below1 w1 (.cells #[.int .i64 u] 3))).grown h hgrow OUT.out
            have HO2 : Hid (w4.ownsRow (w.heap.size + 1) 3 1 v' (selQ b t (u + 1)).length (vals (selQ b t (u + 1)))) := by
              unfold Hid
              rw [SE.out]
              simpa [vals] using hown
            clear hown hgrow hiff HO1 SE OUT G fl
            go_wp2_with (fail)
            go_roundw
            case rel => exact ⟨u + 1, by omega, by go_num, HO2.out, G2⟩
            case measure => simp [intOf]; omega
          · have eb : (b.o.f u == t + 1) = false := by simp [e]
            have HO2 : Hid (w1.ownsRow (w.heap.size + 1) 3 1 u5 (selQ b t (u + 1)).length (vals (selQ b t (u + 1)))) := by
              unfold Hid
              rw [selQ_no b t u (by omega)]
              exact HO1.out
            clear HO1 OUT
            go_wp2_with (fail)
            go_roundw
            case rel => exact ⟨u + 1, by omega, by go_num, HO2.out, G⟩
            case measure => simp [intOf]; omega
        · by_cases tm : t = 9223372036854775807
          · subst tm
            have eb : (b.o.f u == -9223372036854775808) = false := by simp; omega
            have wv : wrap64 9223372036854775808 = -9223372036854775808 := by unfold wrap64; omega
            have wv2 : wrap64 (9223372036854775807 + 1) = -9223372036854775808 := by unfold wrap64; omega
            have ne : ¬ b.o.f u = -9223372036854775808 := by omega
            have HO2 : Hid (w1.ownsRow (w.heap.size + 1) 3 1 u5 (selQ b 9223372036854775807 (u + 1)).length (vals (selQ b 9223372036854775807 (u + 1)))) := by
              unfold Hid
              rw [selQ_no b 9223372036854775807 u (by omega)]
              exact HO1.out
            clear HO1 OUT
            go_wp2_with (fail)
            go_roundw
            case rel => exact ⟨u + 1, by omega, by go_num, HO2.out, G⟩
            case measure => simp [intOf]; omega
          · have eb : (b.o.f u == t + 1) = false := by simp; omega
            have HO2 : Hid (w1.ownsRow (w.heap.size + 1) 3 1 u5 (selQ b t (u + 1)).length (vals (selQ b t (u + 1)))) := by
              unfold Hid
              rw [selQ_no b t u (by omega)]
              exact HO1.out
            clear HO1 OUT
            go_wp2_with (fail)
            go_roundw
            case rel => exact ⟨u + 1, by omega, by go_num, HO2.out, G⟩
            case measure => simp [intOf]; omega
    · have eu : u = b.o.n := by omega
      have HO2 : Hid (w1.ownsRow (w.heap.size + 1) 3 1 u5 (selQ b t b.o.n).length (vals (selQ b t b.o.n))) := by unfold Hid; rw [← eu]; exact HO1.out
      clear eu HO1
      go_wp2_with (fail)
      go_ret
      refine ⟨⟨_, selQ b t b.o.n, rfl, ⟨HO2.out.1, ?_⟩, .inl ⟨OK.out, ?_⟩⟩, G.b⟩
      · rcases HO2.out.2 with g | ⟨g, cap, cur, e, hb', r⟩
        · exact .inl g
        · exact .inr ⟨g, cap, cur, e, by omega, r⟩
      · unfold selQ
        by_cases g : 0 ≤ t ∧ t < b.s
        · rw [if_pos g]; exact .inl ⟨g, rfl⟩
        · rw [if_neg g]; exact .inr ⟨g, rfl⟩

theorem own_sx {w : World} {base : Nat} {v : Value} {L : List Int} (h : w.ownsRow base 3 1 v L.length (vals L)) : ∃ x : Sx, v = .slice x.a x.n x.c ∧ x.m = (L.length, fun j => L.getD j 0) ∧ x.Own base w.heap.size w := by
  obtain ⟨q, ⟨rfl, h0⟩ | ⟨g, cap, cur, rfl, hb, hg, h1, h2, h3, h4⟩⟩ := h
  · refine ⟨⟨none, 0, 0, fun j => L.getD j 0⟩, rfl, ?_, .inl rfl⟩
    show (0, fun j => L.getD j 0) = _
    rw [h0]
  · refine ⟨⟨some ⟨g, 0, none⟩, L.length, cap, fun j => L.getD j 0⟩, rfl, rfl, .inr ⟨g, rfl, hb, Nat.lt_of_not_le fun hle => (by rw [Array.getElem?_eq_none hle] at hg; cases hg), fun j hj => ?_⟩⟩
    rw [cell_of_row _ _ j _ _ _ hg, frozen_of_row _ _ j _ _ hg]
    refine ⟨?_, rfl⟩
    have hj : j < L.length := hj
    have e : (cur.toList.take (L.length * 1))[j]? = (vals L)[j]? := by rw [h4]
    rw [List.getElem?_take_of_lt (by omega)] at e
    rw [← Array.getElem?_toList, e]
    simp [vals, hj]
theorem ofl_len {b : Bx} {t : Int} {L : List Int} (h : OfL b t L) : L.length ≤ 48 := by
  rcases h with ⟨h, ⟨h1, rfl⟩ | ⟨h1, rfl⟩⟩ | ⟨h, rfl⟩
  · have := selL_len b.o.f (t + 1) b.o.n
    have := h.nums.2.2.2.2
    omega
  · simp
  · simp
structure StB (w0 : World) (rs : List (Nat × List Value)) (bs : List Bx) (v w : World) : Prop where
  st : St w0 rs bs w
  be : Below v.heap.size v w
theorem StB.later {w0 v w w1 : World} {rs : List (Nat × List Value)} {bs : List Bx} (h : StB w0 rs bs v w) (hb : Below w.heap.size w w1) : StB w0 rs bs v w1 := ⟨h.st.later hb, h.be.trans (hb.mono h.be.size)⟩
theorem StB.drew {w0 v w : World} {rs : List (Nat × List Value)} {bs : List Bx} (h : StB w0 rs bs v w) : StB w0 rs bs v w.drew := ⟨h.st.drew, ⟨h.be.os, h.be.tape, h.be.output, h.be.size, h.be.block⟩⟩
theorem StB.r {w0 v w : World} {rs : List (Nat × List Value)} {bs : List Bx} (h : StB w0 rs bs v w) : ∀ p ∈ rs, w.rangeAt p.1 0 p.2 ∧ p.1 < w.heap.size := h.st.r
theorem StB.a {w0 v w : World} {rs : List (Nat × List Value)} {bs : List Bx} (h : StB w0 rs bs v w) : ∀ b ∈ bs, b.At w := h.st.a
theorem Sx.Own.later {x : Sx} {B C : Nat} {w w' : World} (hx : x.Own B C w) (h : Below w.heap.size w w') : x.Own B C w' := hx.only (Only.of (B := C) (C := C) h) (.inl (Nat.le_refl _))
theorem St.only {w0 w w1 : World} {rs : List (Nat × List Value)} {bs : List Bx} {B C : Nat} (h : St w0 rs bs w) (ho : Only B C w w1) (hr : ∀ p ∈ rs, p.1 < B ∨ C ≤ p.1) (hB : w0.heap.size ≤ B) (hbs : ∀ b ∈ bs, b.At w1) : St w0 rs bs w1 :=
  ⟨fun p hp => ⟨fun j x hx => by rw [ho.cell (h.r p hp).2 (hr p hp)]; exact (h.r p hp).1 j x hx, Nat.lt_of_lt_of_le (h.r p hp).2 ho.size⟩, hbs, h.b.trans ⟨ho.os, ho.tape, ho.output, ho.size, fun k hk => ho.block k (Nat.lt_of_lt_of_le hk h.b.size) (.inl (by omega))⟩⟩

end Go.Proofs.YtbipolfbkemmpaaDoor.Book

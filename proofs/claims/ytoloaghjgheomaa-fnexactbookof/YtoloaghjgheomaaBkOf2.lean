/- BookOf, of both. -/
import Derived.Test.YtoloaghjgheomaaBkOf
namespace Go.Proofs.Ytoloaghjgheomaa.Book
open Go.ChangeShapes Go.WideShapes Go.ChangeAt Go.RowKit
open Go.Proofs.Ytoloaghjgheomaa.Aid Go.Proofs.Ytoloaghjgheomaa.Lst
set_option linter.unusedVariables false

/- The rooms of a slot of a book. -/
def OfL (b : Bx) (t : Int) (L : List Int) : Prop := (OkP b ∧ ((0 ≤ t ∧ t < b.s) ∧ L = selL b.o.f (t + 1) b.o.n ∨ ¬ (0 ≤ t ∧ t < b.s) ∧ L = [])) ∨ (¬ OkP b ∧ L = [])
theorem ofl_one {b : Bx} {t : Int} {L M : List Int} (h : OfL b t L) (g : OfL b t M) : L = M := by
  rcases h with ⟨h, ⟨h1, rfl⟩ | ⟨h1, rfl⟩⟩ | ⟨h, rfl⟩ <;> rcases g with ⟨g, ⟨g1, rfl⟩ | ⟨g1, rfl⟩⟩ | ⟨g, rfl⟩
  · rfl
  · exact absurd h1 g1
  · exact absurd h g
  · exact absurd g1 h1
  · rfl
  · exact absurd h g
  · exact absurd g h
  · exact absurd g h
  · rfl
theorem ofl_m {b c : Bx} (h : b.m = c.m) (t : Int) (L : List Int) : OfL b t L ↔ OfL c t L := by
  have e := norm_m h
  have es : b.s = c.s := congrArg (·.s) e
  have ef : b.o.f = c.o.f := congrArg (·.o.f) e
  have en : b.o.n = c.o.n := congrArg (·.o.n) e
  unfold OfL
  rw [ok_m h, es, ef, en]

def OfQ (b : Bx) (t : Int) (base : Nat) (w' : World) (e : Ending) : Prop := ∃ v L, e = .returned v ∧ w'.ownsRow base 3 1 v L.length (vals L) ∧ OfL b t L

set_option maxRecDepth 100000 in
set_option maxHeartbeats 8000000 in
theorem rooms_out (b : Bx) (t : Int) (w : World) (h : b.At w) (ht : ¬ (0 ≤ t ∧ t < b.s)) :
    Calls Try.prog 45 #[.agg b.cells.toArray, .int .i64 t] w fun e w' => e = .returned (.slice none 0 0) ∧ Below w.heap.size w w' := by
  have E : Ent w b (w.alloc (.cells #[.int .i64 b.s, .slice b.p.a b.p.n b.p.c, .slice b.h0.a b.h0.n b.h0.c, .slice b.h1.a b.h1.n b.h1.c, .slice b.h2.a b.h2.n b.h2.c, .slice b.h3.a b.h3.n b.h3.c, .slice b.o.a b.o.n b.o.c, .slice b.i.a b.i.n b.i.c, .slice b.e.a b.e.n b.e.c] 26)) := Ent.start h 26
  simp only [Bx.cells]
  go_enter Try.func45, Try.ntmps45
  go_wp2_with (fail)
  generalize w.alloc (.cells #[.int .i64 b.s, .slice b.p.a b.p.n b.p.c, .slice b.h0.a b.h0.n b.h0.c, .slice b.h1.a b.h1.n b.h1.c, .slice b.h2.a b.h2.n b.h2.c, .slice b.h3.a b.h3.n b.h3.c, .slice b.o.a b.o.n b.o.c, .slice b.i.a b.i.n b.i.c, .slice b.e.a b.e.n b.e.c] 26) = W at E ⊢
  refine (isslot_any b t W).mono ?_
  rintro e w1 ⟨⟨r, rfl, hr⟩, hb⟩
  replace E := E.later hb
  clear hb
  cases r
  · go_wp2_with (fail)
    go_ret
    exact ⟨rfl, E.b⟩
  · exact absurd hr.t ht

set_option maxRecDepth 100000 in
set_option maxHeartbeats 8000000 in
theorem of_any (b : Bx) (t : Int) (w : World) (h : b.At w) (hn : b.total ≤ 1000000000) (hcap : b.o.n ≤ b.o.c) :
    Calls Try.prog 14 #[.agg b.cells.toArray, .int .i64 t] w fun e w' => OfQ b t w.heap.size w' e ∧ Below w.heap.size w w' := by
  have E : Ent w b (w.alloc (.cells #[.int .i64 b.s, .slice b.p.a b.p.n b.p.c, .slice b.h0.a b.h0.n b.h0.c, .slice b.h1.a b.h1.n b.h1.c, .slice b.h2.a b.h2.n b.h2.c, .slice b.h3.a b.h3.n b.h3.c, .slice b.o.a b.o.n b.o.c, .slice b.i.a b.i.n b.i.c, .slice b.e.a b.e.n b.e.c] 26)) := Ent.start h 26
  simp only [Bx.cells]
  go_enter Try.func14, Try.ntmps14
  go_wp2_with (fail)
  generalize w.alloc (.cells #[.int .i64 b.s, .slice b.p.a b.p.n b.p.c, .slice b.h0.a b.h0.n b.h0.c, .slice b.h1.a b.h1.n b.h1.c, .slice b.h2.a b.h2.n b.h2.c, .slice b.h3.a b.h3.n b.h3.c, .slice b.o.a b.o.n b.o.c, .slice b.i.a b.i.n b.i.c, .slice b.e.a b.e.n b.e.c] 26) = W at E ⊢
  refine (ok_any b W E.a hn hcap).mono ?_
  rintro e w1 ⟨⟨r, rfl, hr⟩, hb⟩
  replace E := E.later hb
  clear hb
  cases r
  · go_wp2_with (fail)
    go_ret
    exact ⟨⟨_, [], rfl, ⟨rfl, .inl ⟨rfl, rfl⟩⟩, .inr ⟨hr.f, rfl⟩⟩, E.b⟩
  have OK : Hid (OkP b) := hr.t
  clear hr
  obtain ⟨u0, u1, u2, u3, u4, u5, u6, u7, u8⟩ := nine E.r
  go_wp2_with (fail)
  by_cases ht : 0 ≤ t ∧ t < b.s
  · refine (rooms_in b t _ E.a OK.out ht.1 ht.2).mono ?_
    rintro e w2 ⟨⟨v, rfl, ho⟩, hb⟩
    have F := E.later hb
    have zz := E.b.size
    go_wp2_with (fail)
    go_ret
    refine ⟨⟨v, selL b.o.f (t + 1) b.o.n, rfl, ⟨ho.1, ?_⟩, .inl ⟨OK.out, .inl ⟨ht, rfl⟩⟩⟩, F.b⟩
    rcases ho.2 with g | ⟨g, cap, cur, e, hb, r⟩
    · exact .inl g
    · exact .inr ⟨g, cap, cur, e, by omega, r⟩
  · refine (rooms_out b t _ E.a ht).mono ?_
    rintro e w2 ⟨rfl, hb⟩
    have F := E.later hb
    go_wp2_with (fail)
    go_ret
    exact ⟨⟨_, [], rfl, ⟨rfl, .inl ⟨rfl, rfl⟩⟩, .inl ⟨OK.out, .inr ⟨ht, rfl⟩⟩⟩, F.b⟩

end Go.Proofs.Ytoloaghjgheomaa.Book

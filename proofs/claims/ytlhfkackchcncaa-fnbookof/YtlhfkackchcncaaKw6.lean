/- The calls of who is in, by the specification. -/
import Derived.Test.YtlhfkackchcncaaKw5
namespace Go.Proofs.Ytlhfkackchcncaa.Book
open Go.ChangeShapes Go.WideShapes Go.ChangeAt Go.RowKit
open Go.Proofs.Ytlhfkackchcncaa.Aid Go.Proofs.Ytlhfkackchcncaa.Lst
set_option maxRecDepth 100000
set_option linter.unusedVariables false

/- What is taken, the book is ok. -/
theorem tak_ok {b c : Bx} {t : Nat} {u x y : Int} (hok : OkP b) (ht : (t : Int) < b.s) (hi : b.i.f t ≠ 0) (h : TakP b t u c x y) : OkP c := by
  rcases h with ⟨_, rfl, _, _⟩ | ⟨hu, hp⟩ | ⟨k, hk, _, ⟨h0, ⟨a, rfl⟩, _, _⟩ | ⟨_, _, rfl, _, _⟩ | ⟨h0, p, hp, he, _, ⟨a, o, hc, rfl⟩, _, _⟩⟩
  · exact hok
  · rcases hp with ⟨p, hp, he, _, rfl, _, _⟩ | ⟨_, rfl, _, _⟩
    · have n9 : 9 ≤ u ∧ u ≤ 32 := by
        simp only [kindM] at hu
        repeat' split at hu
        all_goals omega
      exact keep_wide hok p _ t (by omega) (by omega) hp he ht hi
    · exact hok
  · exact (ok_drop hk a _ _).2 (keep_pop hok k t hk h0 ht hi)
  · exact hok
  · have sp := sz_is k
    refine keep_fresh hok k p t (a.drop o) hk h0 (by omega) (he 0 (by omega)) ht hi ?_ (fun j hj => ?_)
    · have := hc.1
      simp only [Sx.drop]
      rcases sp with sp | sp | sp | sp <;> rw [sp] at this ⊢ <;> omega
    · simp only [Sx.drop] at hj ⊢
      rw [hc.2 (j + 1) (by omega)]
      rcases sp with sp | sp | sp | sp <;> rw [sp] <;> omega

def OwnQ (b : Bx) (o : Ox) (t : Nat) (c : Bx) (x y : Int) : Prop :=
  (o.k = 2 ∧ TakP b t o.a c x y) ∨
  (o.k = 3 ∧ ((∃ r, WhoP b t o.a r ∧ 0 < r ∧ c = b ∧ x = r ∧ y = 0) ∨ (WhoP b t o.a 0 ∧ ∃ A : Nat, o.a = A ∧ BakP b A c ∧ x = 0 ∧ y = 0))) ∨
  (o.k = 4 ∧ ((∃ r, WhoP b t o.a r ∧ 0 < r ∧ c = b ∧ x = r ∧ y = 0) ∨
    (WhoP b t o.a 0 ∧ (((o.b < 0 ∨ b.s ≤ o.b ∨ b.i.f o.b.toNat = 0) ∧ c = b ∧ x = 5 ∧ y = 0) ∨ ∃ A q : Nat, o.a = A ∧ o.b = q ∧ (q : Int) < b.s ∧ b.i.f q ≠ 0 ∧ c = b.own A ((q : Int) + 1) ∧ x = 0 ∧ y = 0)))) ∨
  (o.k = 5 ∧ (((∃ u, u < b.o.n ∧ b.o.f u = (t : Int) + 1) ∧ c = b ∧ x = 7 ∧ y = 0) ∨ ((∀ u, u < b.o.n → b.o.f u ≠ (t : Int) + 1) ∧ c = b.seti t 0 ∧ x = 0 ∧ y = 0))) ∨
  (o.k = 6 ∧ ReaP b o.a c x y) ∨
  ((o.k < 2 ∨ 6 < o.k) ∧ c = b ∧ x = 13 ∧ y = 0)
theorem who_zero {b : Bx} {t u : Int} (h : WhoP b t u 0) : 0 ≤ u ∧ u < b.o.n ∧ ¬ b.o.f u.toNat = 0 ∧ b.o.f u.toNat = t + 1 := by
  rcases h with ⟨_, e⟩ | ⟨⟨h1, h2, h3⟩, ⟨_, e⟩ | ⟨h4, _⟩⟩
  · omega
  · omega
  · exact ⟨h1, h2, h3, h4⟩
theorem own_ok {b c : Bx} {o : Ox} {t : Nat} {x y : Int} (hok : OkP b) (ht : (t : Int) < b.s) (hi : b.i.f t ≠ 0) (h : OwnQ b o t c x y) : OkP c := by
  rcases h with ⟨_, h⟩ | ⟨_, ⟨r, _, _, rfl, _⟩ | ⟨hw, A, hA, hb, _⟩⟩ | ⟨_, ⟨r, _, _, rfl, _⟩ | ⟨hw, ⟨_, rfl, _⟩ | ⟨A, q, hA, _, hq, hiq, rfl, _⟩⟩⟩ | ⟨_, ⟨_, rfl, _⟩ | ⟨hn, rfl, _⟩⟩ | ⟨_, h⟩ | ⟨_, rfl, _⟩
  · exact tak_ok hok ht hi h
  · exact hok
  · obtain ⟨h1, h2, h3, h4⟩ := who_zero hw
    rw [hA, Int.toNat_natCast] at h4
    exact bak_ok hok (by omega) (by omega) hb
  · exact hok
  · exact hok
  · obtain ⟨h1, h2, h3, h4⟩ := who_zero hw
    rw [hA, Int.toNat_natCast] at h4
    exact keep_hand hok A q (by omega) (by omega) hq hiq
  · exact hok
  · exact keep_seti hok t 0 (by omega) (by omega) (fun _ => by omega) (by have := hok.1.1.2.2.2.1; omega) (fun _ => hn)
  · exact rea_ok hok h
  · exact hok

end Go.Proofs.Ytlhfkackchcncaa.Book

import Derived.Test.YtoaopapnpndklaaDoorM18

/- One room of whoever was cut off is reaped, or it is let out, by the specification. -/
namespace Go.Proofs.YtoaopapnpndklaaDoor.Book
open Go.ChangeShapes Go.WideShapes Go.ChangeAt Go.RowKit
open Go.Proofs.YtoaopapnpndklaaDoor.Aid Go.Proofs.YtoaopapnpndklaaDoor.Lst
set_option maxRecDepth 100000
set_option linter.unusedVariables false

def ReaP (b : Bx) (s : Int) (c : Bx) (x y : Int) : Prop :=
  ((s < 0 ∨ b.s ≤ s ∨ b.i.f s.toNat = 0) ∧ c = b ∧ x = 9 ∧ y = 0) ∨
  ∃ t : Nat, s = t ∧ (t : Int) < b.s ∧ ¬ b.i.f t = 0 ∧
    ((b.i.f t = 1 ∧ c = b ∧ x = 8 ∧ y = 0) ∨
     (¬ b.i.f t = 1 ∧ (((∀ u, u < b.o.n → b.o.f u ≠ (t : Int) + 1) ∧ c = b.seti t 0 ∧ x = 0 ∧ y = 0) ∨
       ∃ A : Nat, A < b.o.n ∧ b.o.f A = (t : Int) + 1 ∧ (∀ j, j < A → b.o.f j ≠ (t : Int) + 1) ∧ BakP b A c ∧ x = 10 ∧ y = A)))
theorem rea_ok {b c : Bx} {s x y : Int} (hok : OkP b) (h : ReaP b s c x y) : OkP c := by
  rcases h with ⟨_, rfl, _, _⟩ | ⟨t, _, ht, h0, ⟨_, rfl, _, _⟩ | ⟨_, ⟨hn, rfl, _, _⟩ | ⟨A, hA, ho, _, hb, _, _⟩⟩⟩
  · exact hok
  · exact hok
  · exact keep_seti hok t 0 (by omega) (by omega) (fun _ => by omega) (by have := hok.1.1.2.2.2.1; omega) (fun _ => hn)
  · exact bak_ok hok hA (by omega) hb

set_option maxHeartbeats 8000000 in
theorem dreap_any (b : Bx) (B : Nat) (s : Int) (w : World) (h : b.Hl B w) (hB : B ≤ w.heap.size) (hok : OkP b) :
    Calls Tryd.prog 55 #[.agg b.cells.toArray, .int .i64 s] w fun e w' => Ans3 b B w (ReaP b s) e w' := by
  have l1 := hok.1.1.2.1
  have l0 := hok.1.1.1
  have l2 := hok.1.1.2.2.1
  have l3 := hok.1.1.2.2.2.2.1
  have l4 := hok.1.1.2.2.2.2.2.1
  have l5 := hok.1.1.2.2.2.2.2.2
  have S := Dn.start h 29
  obtain ⟨ki, oi, ei, hci⟩ := S.h.at.i.cells (by omega)
  have EI : Hid (b.i.a = some ⟨ki, oi, none⟩) := ei
  have HS : Hid (Dn w b B b _) := S
  clear S
  by_cases s0 : s < 0
  · clear hci
    simp only [Bx.cells] at HS ⊢
    clear ei
    go_enter Tryd.func55, Tryd.ntmps55
    have HA : Hid (Ret w b B (b) _) := HS.out.anss
    have HT : Hid (World.there _ (w.heap.size + 1) 0 9) := HS.out.theret
    have HR : Hid (World.rangeAt _ w.heap.size 0 (b).cells) := HS.out.e.range
    go_wp2_with (first | (refine wpList_load_mid rfl 29 _ rfl w.heap.size 0 rfl (b).cells _ HR.out Tryd.underlying29 rfl (by kernel_rfl) ?_) | (refine wpList_store_mid rfl 29 _ _ rfl (w.heap.size + 1) 0 (b).cells.toArray rfl rfl HT.out (by kernel_rfl) (cells_one _) ?_))
    exact bodyPost_ret (results_cell_two rfl _ _ (w.heap.size + 1) 0 _ _ rfl HA.out.c Tryd.underlying29 rfl (by kernel_rfl)) rfl (HA.out.ans3 (.inl ⟨.inl s0, rfl, rfl, rfl⟩))
  by_cases s1 : b.s ≤ s
  · clear hci ei
    simp only [Bx.cells] at HS ⊢
    go_enter Tryd.func55, Tryd.ntmps55
    have HA : Hid (Ret w b B (b) _) := HS.out.anss
    have HT : Hid (World.there _ (w.heap.size + 1) 0 9) := HS.out.theret
    have HR : Hid (World.rangeAt _ w.heap.size 0 (b).cells) := HS.out.e.range
    go_wp2_with (first | (refine wpList_load_mid rfl 29 _ rfl w.heap.size 0 rfl (b).cells _ HR.out Tryd.underlying29 rfl (by kernel_rfl) ?_) | (refine wpList_store_mid rfl 29 _ _ rfl (w.heap.size + 1) 0 (b).cells.toArray rfl rfl HT.out (by kernel_rfl) (cells_one _) ?_))
    exact bodyPost_ret (results_cell_two rfl _ _ (w.heap.size + 1) 0 _ _ rfl HA.out.c Tryd.underlying29 rfl (by kernel_rfl)) rfl (HA.out.ans3 (.inl ⟨.inr (.inl s1), rfl, rfl, rfl⟩))
  obtain ⟨t, rfl⟩ : ∃ t : Nat, s = t := ⟨s.toNat, by omega⟩
  have t1 : (t : Int) < b.i.n := by omega
  have ci := hci t (by omega)
  clear hci
  simp only [Bx.cells, ei] at ci HS ⊢
  clear ei
  by_cases v0 : b.i.f t = 0
  · rw [v0] at ci
    go_enter Tryd.func55, Tryd.ntmps55
    have HA : Hid (Ret w b B (b) _) := HS.out.anss
    have HT : Hid (World.there _ (w.heap.size + 1) 0 9) := HS.out.theret
    have HR : Hid (World.rangeAt _ w.heap.size 0 (b).cells) := HS.out.e.range
    go_wp2_with (first | (refine wpList_load_mid rfl 29 _ rfl w.heap.size 0 rfl (b).cells _ HR.out Tryd.underlying29 rfl (by kernel_rfl) ?_) | (refine wpList_store_mid rfl 29 _ _ rfl (w.heap.size + 1) 0 (b).cells.toArray rfl rfl HT.out (by kernel_rfl) (cells_one _) ?_))
    exact bodyPost_ret (results_cell_two rfl _ _ (w.heap.size + 1) 0 _ _ rfl HA.out.c Tryd.underlying29 rfl (by kernel_rfl)) rfl (HA.out.ans3 (.inl ⟨.inr (.inr (by rw [Int.toNat_natCast]; exact v0)), rfl, rfl, rfl⟩))
  by_cases v1 : b.i.f t = 1
  · rw [v1] at ci
    go_enter Tryd.func55, Tryd.ntmps55
    have HA : Hid (Ret w b B (b) _) := HS.out.anss
    have HT : Hid (World.there _ (w.heap.size + 1) 0 9) := HS.out.theret
    have HR : Hid (World.rangeAt _ w.heap.size 0 (b).cells) := HS.out.e.range
    go_wp2_with (first | (refine wpList_load_mid rfl 29 _ rfl w.heap.size 0 rfl (b).cells _ HR.out Tryd.underlying29 rfl (by kernel_rfl) ?_) | (refine wpList_store_mid rfl 29 _ _ rfl (w.heap.size + 1) 0 (b).cells.toArray rfl rfl HT.out (by kernel_rfl) (cells_one _) ?_))
    exact bodyPost_ret (results_cell_two rfl _ _ (w.heap.size + 1) 0 _ _ rfl HA.out.c Tryd.underlying29 rfl (by kernel_rfl)) rfl (HA.out.ans3 (.inr ⟨t, rfl, by omega, v0, .inl ⟨v1, rfl, rfl, rfl⟩⟩))
  have HR : Hid (World.rangeAt _ w.heap.size 0 b.cells) := HS.out.e.range
  go_enter Tryd.func55, Tryd.ntmps55
  go_wp2_with (refine wpList_load_mid rfl 29 _ rfl w.heap.size 0 rfl (b).cells _ HR.out Tryd.underlying29 rfl (by kernel_rfl) ?_)
  refine (first_any b t _ HS.out.h.at (by omega) (by omega) (by omega) (by omega)).mono ?_
  rintro e w1 ⟨⟨r, rfl, hr⟩, hb⟩
  have S1 := HS.out.later hb
  have HS1 : Hid (Dn w b B b w1) := S1
  clear hb HR HS ci
  rcases hr with ⟨A, hA, rfl, ho, hm⟩ | ⟨rfl, hn⟩
  · have HO : Hid (b.o.f A = (t : Int) + 1) := ho
    have HM : Hid (∀ j, j < A → b.o.f j ≠ (t : Int) + 1) := hm
    have HR : Hid (World.rangeAt _ w.heap.size 0 b.cells) := S1.e.range
    have op : Hid (0 < b.o.f A) := by rw [show b.o.f A = (t : Int) + 1 from ho]; show (0 : Int) < (t : Int) + 1; omega
    clear ho hm S1
    go_wp2_with (refine wpList_load_mid rfl 29 _ rfl w.heap.size 0 rfl (b).cells _ HR.out Tryd.underlying29 rfl (by kernel_rfl) ?_)
    refine (dback_any b A B w1 HS1.out.h (by have := HS1.out.z; omega) hok hA op.out).mono ?_
    rintro e w2 ⟨c, rfl, bp, hh, hf, hl⟩
    have M := HS1.out.call hh hf hl
    have BP : Hid (BakP b A c) := bp
    clear HR bp hh hf hl
    have HA : Hid (Ret w b B (c) _) := M.anss
    have HT : Hid (World.there _ (w.heap.size + 1) 0 9) := M.theret
    clear M
    go_wp2_with (first | (refine wpList_store_mid rfl 29 _ _ rfl (w.heap.size + 1) 0 (c).cells.toArray rfl rfl HT.out (by kernel_rfl) (cells_one _) ?_))
    exact bodyPost_ret (results_cell_two rfl _ _ (w.heap.size + 1) 0 _ _ rfl HA.out.c Tryd.underlying29 rfl (by kernel_rfl)) rfl (HA.out.ans3 (.inr ⟨t, rfl, by omega, v0, .inr ⟨v1, .inr ⟨A, hA, HO.out, HM.out, BP.out, rfl, rfl⟩⟩⟩))
  · have HN : Hid (∀ u, u < b.o.n → b.o.f u ≠ (t : Int) + 1) := hn
    obtain ⟨y0, y1, y2⟩ := S1.fre (x := b.i) (by simp [Bx.lists]) EI.out (j := t) (by omega)
    obtain ⟨-, -, -, -, -, -, -, u7, -⟩ := nine S1.e.range
    rw [EI.out] at u7
    have S2 := S1.write (b' := b.seti t 0) 6 b.i rfl ki oi t EI.out (by omega) 0 rfl rfl (fun i hi => lies_same (b := b) (c := b.seti t 0) rfl hi)
    clear hn S1
    have HA : Hid (Ret w b B (b.seti t 0) _) := S2.anss
    have HT : Hid (World.there _ (w.heap.size + 1) 0 9) := S2.theret
    have HR : Hid (World.rangeAt _ w.heap.size 0 (b.seti t 0).cells) := S2.e.range
    clear S2
    go_wp2_with (first | (refine wpList_load_mid rfl 29 _ rfl w.heap.size 0 rfl (b.seti t 0).cells _ HR.out Tryd.underlying29 rfl (by kernel_rfl) ?_) | (refine wpList_store_mid rfl 29 _ _ rfl (w.heap.size + 1) 0 (b.seti t 0).cells.toArray rfl rfl HT.out (by kernel_rfl) (cells_one _) ?_))
    exact bodyPost_ret (results_cell_two rfl _ _ (w.heap.size + 1) 0 _ _ rfl HA.out.c Tryd.underlying29 rfl (by kernel_rfl)) rfl (HA.out.ans3 (.inr ⟨t, rfl, by omega, v0, .inr ⟨v1, .inl ⟨HN.out, rfl, rfl, rfl⟩⟩⟩))

end Go.Proofs.YtoaopapnpndklaaDoor.Book

/- The calls of who is in, by the specification. -/
namespace Go.Proofs.YtoaopapnpndklaaDoor.Book
open Go.ChangeShapes Go.WideShapes Go.ChangeAt Go.RowKit
open Go.Proofs.YtoaopapnpndklaaDoor.Aid Go.Proofs.YtoaopapnpndklaaDoor.Lst
set_option maxRecDepth 100000
set_option linter.unusedVariables false

/- What is taken, the book is ok. -/
theorem tak_ok {b c : Bx} {t : Nat} {u x y : Int} (hok : OkP b) (ht : (t : Int) < b.s) (hi : b.i.f t ≠ 0) (h : TakP b t u c x y) : OkP c := by
  rcases h with ⟨_, rfl, _, _⟩ | ⟨hu, hp⟩ | ⟨k, hk, _, ⟨h0, ⟨a, rfl⟩, _, _⟩ | ⟨_, _, rfl, _, _⟩ | ⟨h0, p, hp, he, _, ⟨a, o, hc, rfl⟩, _, _⟩⟩
  · exact hok
  · rcases hp with ⟨p, hp, he, _, rfl, _, _⟩ | ⟨_, rfl, _, _⟩
    · have n9 : 9 ≤ u ∧ u ≤ 32 := by
        simp only [kindM] at hu
        repeat' split at hu
        all_goals omega
      exact keep_wide hok p _ t (by omega) (by omega) hp he ht hi
    · exact hok
  · exact (ok_drop hk a _ _).2 (keep_pop hok k t hk h0 ht hi)
  · exact hok
  · have sp := sz_is k
    refine keep_fresh hok k p t (a.drop o) hk h0 (by omega) (he 0 (by omega)) ht hi ?_ (fun j hj => ?_)
    · have := hc.1
      simp only [Sx.drop]
      rcases sp with sp | sp | sp | sp <;> rw [sp] at this ⊢ <;> omega
    · simp only [Sx.drop] at hj ⊢
      rw [hc.2 (j + 1) (by omega)]
      rcases sp with sp | sp | sp | sp <;> rw [sp] <;> omega

def OwnQ (b : Bx) (o : Ox) (t : Nat) (c : Bx) (x y : Int) : Prop :=
  (o.k = 2 ∧ TakP b t o.a c x y) ∨
  (o.k = 3 ∧ ((∃ r, WhoP b t o.a r ∧ 0 < r ∧ c = b ∧ x = r ∧ y = 0) ∨ (WhoP b t o.a 0 ∧ ∃ A : Nat, o.a = A ∧ BakP b A c ∧ x = 0 ∧ y = 0))) ∨
  (o.k = 4 ∧ ((∃ r, WhoP b t o.a r ∧ 0 < r ∧ c = b ∧ x = r ∧ y = 0) ∨
    (WhoP b t o.a 0 ∧ (((o.b < 0 ∨ b.s ≤ o.b ∨ b.i.f o.b.toNat = 0) ∧ c = b ∧ x = 5 ∧ y = 0) ∨ ∃ A q : Nat, o.a = A ∧ o.b = q ∧ (q : Int) < b.s ∧ b.i.f q ≠ 0 ∧ c = b.own A ((q : Int) + 1) ∧ x = 0 ∧ y = 0)))) ∨
  (o.k = 5 ∧ (((∃ u, u < b.o.n ∧ b.o.f u = (t : Int) + 1) ∧ c = b ∧ x = 7 ∧ y = 0) ∨ ((∀ u, u < b.o.n → b.o.f u ≠ (t : Int) + 1) ∧ c = b.seti t 0 ∧ x = 0 ∧ y = 0))) ∨
  (o.k = 6 ∧ ReaP b o.a c x y) ∨
  ((o.k < 2 ∨ 6 < o.k) ∧ c = b ∧ x = 13 ∧ y = 0)
theorem who_zero {b : Bx} {t u : Int} (h : WhoP b t u 0) : 0 ≤ u ∧ u < b.o.n ∧ ¬ b.o.f u.toNat = 0 ∧ b.o.f u.toNat = t + 1 := by
  rcases h with ⟨_, e⟩ | ⟨⟨h1, h2, h3⟩, ⟨_, e⟩ | ⟨h4, _⟩⟩
  · omega
  · omega
  · exact ⟨h1, h2, h3, h4⟩
theorem own_ok {b c : Bx} {o : Ox} {t : Nat} {x y : Int} (hok : OkP b) (ht : (t : Int) < b.s) (hi : b.i.f t ≠ 0) (h : OwnQ b o t c x y) : OkP c := by
  rcases h with ⟨_, h⟩ | ⟨_, ⟨r, _, _, rfl, _⟩ | ⟨hw, A, hA, hb, _⟩⟩ | ⟨_, ⟨r, _, _, rfl, _⟩ | ⟨hw, ⟨_, rfl, _⟩ | ⟨A, q, hA, _, hq, hiq, rfl, _⟩⟩⟩ | ⟨_, ⟨_, rfl, _⟩ | ⟨hn, rfl, _⟩⟩ | ⟨_, h⟩ | ⟨_, rfl, _⟩
  · exact tak_ok hok ht hi h
  · exact hok
  · obtain ⟨h1, h2, h3, h4⟩ := who_zero hw
    rw [hA, Int.toNat_natCast] at h4
    exact bak_ok hok (by omega) (by omega) hb
  · exact hok
  · exact hok
  · obtain ⟨h1, h2, h3, h4⟩ := who_zero hw
    rw [hA, Int.toNat_natCast] at h4
    exact keep_hand hok A q (by omega) (by omega) hq hiq
  · exact hok
  · exact keep_seti hok t 0 (by omega) (by omega) (fun _ => by omega) (by have := hok.1.1.2.2.2.1; omega) (fun _ => hn)
  · exact rea_ok hok h
  · exact hok

end Go.Proofs.YtoaopapnpndklaaDoor.Book

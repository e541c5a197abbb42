import Derived.Test.YtbipolfbkemmpaaDoorM41
import Derived.Test.YtbipolfbkemmpaaDoorM11

/- The program's call of a draft is the specification's call of a book: over no program. -/
namespace Go.Proofs.YtbipolfbkemmpaaDoor.Dra
open Go.ChangeShapes Go.WideShapes Go.ChangeAt Go.RowKit
open Aid Lst Book Rin
set_option maxRecDepth 100000
set_option linter.unusedVariables false

theorem do_met {b d d' c : Bx} {U V : Nat → List Int} {o : Ox} {x : Nat} {y x' y' : Int} (h : Pair b U d) (h1 : DdQ b U o c V x y) (h2 : DoP d o d' x' y') : Met c V x y d' x' y' := by
  obtain ⟨on, of⟩ := h.o
  obtain ⟨i_n, i_f⟩ := h.i
  obtain ⟨e_n, e_f⟩ := h.e
  have es := h.s
  rcases h1 with ⟨g, rfl, rfl, rfl, rfl⟩ | ⟨q, hq, hqs, hr⟩
  · rcases h2 with ⟨_, rfl, rfl, rfl⟩ | ⟨t, ht, hts, _⟩
    · exact ⟨h, rfl, rfl⟩
    · omega
  · rcases h2 with ⟨g, _⟩ | ⟨t, ht, hts, hr2⟩
    · omega
    · obtain rfl : q = t := by omega
      rcases hr with ⟨k1, rfl, he⟩ | ⟨k1, hr⟩
      · rcases hr2 with ⟨_, he2⟩ | ⟨k2, _⟩
        · rw [i_f, e_f] at he
          rcases he with ⟨g, rfl, rfl, rfl⟩ | ⟨g, g2, rfl, rfl, rfl⟩ | ⟨g, g2, rfl, rfl, rfl⟩
          · rcases he2 with ⟨_, rfl, rfl, rfl⟩ | ⟨f, _⟩ | ⟨f, _⟩
            · exact ⟨h, rfl, rfl⟩
            · exact absurd f g
            · exact absurd f g
          · rcases he2 with ⟨f, _⟩ | ⟨_, _, rfl, rfl, rfl⟩ | ⟨_, f, _⟩
            · exact absurd g f
            · exact ⟨h, rfl, rfl⟩
            · exact absurd g2 f
          · rcases he2 with ⟨f, _⟩ | ⟨_, f, _⟩ | ⟨_, _, rfl, rfl, rfl⟩
            · exact absurd g f
            · exact absurd f g2
            · exact ⟨h.ine q 1 _, rfl, rfl⟩
        · exact absurd k1 k2
      · rcases hr2 with ⟨k2, _⟩ | ⟨_, hr2⟩
        · exact absurd k2 k1
        · rw [i_f] at hr
          rcases hr with ⟨g, rfl, rfl, rfl, rfl⟩ | ⟨g, hr⟩
          · rcases hr2 with ⟨_, rfl, rfl, rfl⟩ | ⟨f, _⟩
            · exact ⟨h, rfl, rfl⟩
            · exact absurd g f
          · rcases hr2 with ⟨f, _⟩ | ⟨_, hr2⟩
            · exact absurd f g
            · rcases hr2 with ⟨m, h2⟩ | ⟨m, h2⟩ | ⟨m, h2⟩ | ⟨m, h2⟩ | ⟨m, h2⟩ | ⟨m, rfl, rfl, rfl⟩
              · rcases hr with ⟨n, h1⟩ | ⟨n, h1⟩ | ⟨n, h1⟩ | ⟨n, h1⟩ | ⟨n, h1⟩ | ⟨n, h1⟩
                · exact take_met h h1 h2
                all_goals omega
              · rcases hr with ⟨n, h1⟩ | ⟨n, h1⟩ | ⟨n, h1⟩ | ⟨n, h1⟩ | ⟨n, h1⟩ | ⟨n, h1⟩
                · omega
                · rw [hq] at h1
                  rcases h1 with ⟨r, w1, w0, rfl, rfl, rfl, rfl⟩ | ⟨w1, A, ha, hg, rfl, rfl⟩
                  · rcases h2 with ⟨r', v1, v0, rfl, rfl, rfl⟩ | ⟨v1, _⟩
                    · exact ⟨h, who_one (who_to h w1) v1, rfl⟩
                    · have := who_one (who_to h w1) v1; omega
                  · rcases h2 with ⟨r', v1, v0, _⟩ | ⟨v1, A', ha', hb, rfl, rfl⟩
                    · have := who_one (who_to h w1) v1; omega
                    · obtain rfl : A = A' := by omega
                      exact ⟨give_met h hg hb, rfl, rfl⟩
                all_goals omega
              · rcases hr with ⟨n, h1⟩ | ⟨n, h1⟩ | ⟨n, h1⟩ | ⟨n, h1⟩ | ⟨n, h1⟩ | ⟨n, h1⟩
                · omega
                · omega
                · rw [hq] at h1
                  obtain ⟨rfl, h1⟩ := h1
                  rcases h1 with ⟨r, w1, w0, rfl, rfl, rfl⟩ | ⟨w1, h1⟩
                  · rcases h2 with ⟨r', v1, v0, rfl, rfl, rfl⟩ | ⟨v1, _⟩
                    · exact ⟨h, who_one (who_to h w1) v1, rfl⟩
                    · have := who_one (who_to h w1) v1; omega
                  · rcases h2 with ⟨r', v1, v0, _⟩ | ⟨v1, h2⟩
                    · have := who_one (who_to h w1) v1; omega
                    · rw [i_f] at h1
                      rcases h1 with ⟨g1, rfl, rfl, rfl⟩ | ⟨A, p, ha, hp, hps, hpi, rfl, rfl, rfl⟩
                      · rcases h2 with ⟨_, rfl, rfl, rfl⟩ | ⟨A, p, ha, hp, hps, hpi, _⟩
                        · exact ⟨h, rfl, rfl⟩
                        · rw [hp, Int.toNat_natCast] at g1
                          rcases g1 with g1 | g1 | g1
                          · omega
                          · omega
                          · exact absurd g1 hpi
                      · rcases h2 with ⟨g1, _⟩ | ⟨A', p', ha', hp', hps', hpi', rfl, rfl, rfl⟩
                        · rw [hp, Int.toNat_natCast] at g1
                          rcases g1 with g1 | g1 | g1
                          · omega
                          · omega
                          · exact absurd g1 hpi
                        · obtain rfl : A = A' := by omega
                          obtain rfl : p = p' := by omega
                          exact ⟨h.own A _, rfl, rfl⟩
                all_goals omega
              · rcases hr with ⟨n, h1⟩ | ⟨n, h1⟩ | ⟨n, h1⟩ | ⟨n, h1⟩ | ⟨n, h1⟩ | ⟨n, h1⟩
                · omega
                · omega
                · omega
                · obtain ⟨rfl, h1⟩ := h1
                  rw [on, of] at h1
                  rcases h1 with ⟨⟨u, u1, u2⟩, rfl, rfl, rfl⟩ | ⟨g1, rfl, rfl, rfl⟩
                  · rcases h2 with ⟨_, rfl, rfl, rfl⟩ | ⟨g2, _⟩
                    · exact ⟨h, rfl, rfl⟩
                    · exact absurd u2 (g2 u u1)
                  · rcases h2 with ⟨⟨u, u1, u2⟩, _⟩ | ⟨_, rfl, rfl, rfl⟩
                    · exact absurd u2 (g1 u u1)
                    · exact ⟨h.seti q 0, rfl, rfl⟩
                all_goals omega
              · rcases hr with ⟨n, h1⟩ | ⟨n, h1⟩ | ⟨n, h1⟩ | ⟨n, h1⟩ | ⟨n, h1⟩ | ⟨n, h1⟩
                · omega
                · omega
                · omega
                · omega
                · exact rea_met h h1 h2
                · omega
              · rcases hr with ⟨n, h1⟩ | ⟨n, h1⟩ | ⟨n, h1⟩ | ⟨n, h1⟩ | ⟨n, h1⟩ | ⟨n, rfl, rfl, rfl, rfl⟩
                · omega
                · omega
                · omega
                · omega
                · omega
                · exact ⟨h, rfl, rfl⟩

/- Of a book that is as another one, with its rings. -/
theorem Pair.of {b c d : Bx} (h1 : c.m = b.m) (h2 : d.m = b.m) : Pair c (hU b) d := by
  simp only [Bx.m, Bm.mk.injEq, Sx.m, Prod.mk.injEq] at h1 h2
  obtain ⟨a0, ⟨a1, a2⟩, ⟨a3, a4⟩, ⟨a5, a6⟩, ⟨a7, a8⟩, ⟨a9, a10⟩, ⟨a11, a12⟩, ⟨a13, a14⟩, ⟨a15, a16⟩⟩ := h1
  obtain ⟨b0, ⟨b1, b2⟩, ⟨b3, b4⟩, ⟨b5, b6⟩, ⟨b7, b8⟩, ⟨b9, b10⟩, ⟨b11, b12⟩, ⟨b13, b14⟩, ⟨b15, b16⟩⟩ := h2
  refine ⟨a0.trans b0.symm, ⟨a1.trans b1.symm, a2.trans b2.symm⟩, ⟨a11.trans b11.symm, a12.trans b12.symm⟩, ⟨a13.trans b13.symm, a14.trans b14.symm⟩, ⟨a15.trans b15.symm, a16.trans b16.symm⟩, fun k hk => ?_⟩
  obtain rfl | rfl | rfl | rfl : k = 0 ∨ k = 1 ∨ k = 2 ∨ k = 3 := by omega
  · have := HE.row b.h0; exact ⟨b3.trans this.1, fun j hj => by rw [show (d.hd 0).f = b.h0.f from b4]; exact this.2 j (by rw [← b3]; exact hj)⟩
  · have := HE.row b.h1; exact ⟨b5.trans this.1, fun j hj => by rw [show (d.hd 1).f = b.h1.f from b6]; exact this.2 j (by rw [← b5]; exact hj)⟩
  · have := HE.row b.h2; exact ⟨b7.trans this.1, fun j hj => by rw [show (d.hd 2).f = b.h2.f from b8]; exact this.2 j (by rw [← b7]; exact hj)⟩
  · have := HE.row b.h3; exact ⟨b9.trans this.1, fun j hj => by rw [show (d.hd 3).f = b.h3.f from b10]; exact this.2 j (by rw [← b9]; exact hj)⟩
theorem trim_one {x y : Sx} (n : x.n = y.n) (f : ∀ j, j < x.n → x.f j = y.f j) : x.trim.m = y.trim.m := by
  simp only [Sx.trim, Sx.m]
  rw [n]
  congr 1
  funext j
  by_cases e : j < y.n
  · rw [if_pos e, if_pos e]; exact f j (by omega)
  · rw [if_neg e, if_neg e]
/- What is finished is the specification's book. -/
theorem fin_met {c d c' : Bx} {V : Nat → List Int} (h : Pair c V d) (hf : FinP c V c') : c'.trim.m = d.trim.m := by
  obtain ⟨f0, f1, f2, f3, f4, f5⟩ := hf
  have hd' : ∀ k, k < 4 → (c'.hd k).trim.m = (d.hd k).trim.m := fun k hk => by
    have e := (Prod.mk.inj (show ((c'.hd k).n, (c'.hd k).f) = _ from (f5 k hk).1))
    have g := h.h k hk
    refine trim_one (by rw [e.1, g.1]) (fun j hj => ?_)
    rw [e.2]
    exact (g.2 j (by rw [g.1, ← e.1]; exact hj)).symm
  have g0 := hd' 0 (by omega)
  have g1 := hd' 1 (by omega)
  have g2 := hd' 2 (by omega)
  have g3 := hd' 3 (by omega)
  have gp : c'.p.trim.m = d.p.trim.m := by rw [f1]; exact trim_one h.p.1 (fun j _ => by rw [h.p.2])
  have go : c'.o.trim.m = d.o.trim.m := by rw [f2]; exact trim_one h.o.1 (fun j _ => by rw [h.o.2])
  have gi : c'.i.trim.m = d.i.trim.m := by rw [f3]; exact trim_one h.i.1 (fun j _ => by rw [h.i.2])
  have ge : c'.e.trim.m = d.e.trim.m := by rw [f4]; exact trim_one h.e.1 (fun j _ => by rw [h.e.2])
  show Bm.mk c'.s c'.p.trim.m c'.h0.trim.m c'.h1.trim.m c'.h2.trim.m c'.h3.trim.m c'.o.trim.m c'.i.trim.m c'.e.trim.m = Bm.mk d.s d.p.trim.m d.h0.trim.m d.h1.trim.m d.h2.trim.m d.h3.trim.m d.o.trim.m d.i.trim.m d.e.trim.m
  rw [f0, h.s, gp, show c'.h0.trim.m = d.h0.trim.m from g0, show c'.h1.trim.m = d.h1.trim.m from g1, show c'.h2.trim.m = d.h2.trim.m from g2, show c'.h3.trim.m = d.h3.trim.m from g3, go, gi, ge]

/- The lists but those of free rooms lie where they lay. -/
def AE (b c : Bx) : Prop := c.p.a = b.p.a ∧ c.p.n = b.p.n ∧ c.o.a = b.o.a ∧ c.o.n = b.o.n ∧ c.i.a = b.i.a ∧ c.i.n = b.i.n ∧ c.e.a = b.e.a ∧ c.e.n = b.e.n
theorem gv_ae {b c : Bx} {U V : Nat → List Int} {A : Nat} {v : Value} (h : GvQ b U A c V v) : AE b c := by
  rcases h.2 with ⟨n, _, _, rfl, _⟩ | ⟨k, _, _, ⟨_, rfl, _⟩ | ⟨_, rfl, _⟩⟩
  all_goals exact ⟨rfl, rfl, rfl, rfl, rfl, rfl, rfl, rfl⟩
theorem dd_ae {b c : Bx} {U V : Nat → List Int} {o : Ox} {x : Nat} {y : Int} (h : DdQ b U o c V x y) : AE b c := by
  have z : ∀ b : Bx, AE b b := fun b => ⟨rfl, rfl, rfl, rfl, rfl, rfl, rfl, rfl⟩
  rcases h with ⟨_, rfl, _⟩ | ⟨q, _, _, ⟨_, _, ⟨_, rfl, _⟩ | ⟨_, _, rfl, _⟩ | ⟨_, _, rfl, _⟩⟩ | ⟨_, ⟨_, rfl, _⟩ | ⟨_, ⟨_, h⟩ | ⟨_, h⟩ | ⟨_, h⟩ | ⟨_, h⟩ | ⟨_, h⟩ | ⟨_, rfl, _⟩⟩⟩⟩
  · exact z _
  · exact z _
  · exact z _
  · exact ⟨rfl, rfl, rfl, rfl, rfl, rfl, rfl, rfl⟩
  · exact z _
  · rcases h with ⟨_, rfl, _⟩ | ⟨_, _, ⟨p, _, _, _, rfl, _⟩ | ⟨_, rfl, _⟩⟩ | ⟨k, _, _, ⟨A, r, _, rfl, _⟩ | ⟨_, _, rfl, _⟩ | ⟨_, p, _, _, _, rfl, _⟩⟩
    all_goals exact ⟨rfl, rfl, rfl, rfl, rfl, rfl, rfl, rfl⟩
  · rcases h with ⟨r, _, _, rfl, _⟩ | ⟨_, A, _, hg, _⟩
    · exact z _
    · exact gv_ae hg
  · rcases h with ⟨_, ⟨r, _, _, rfl, _⟩ | ⟨_, ⟨_, rfl, _⟩ | ⟨A, p, _, _, _, _, rfl, _⟩⟩⟩
    all_goals exact ⟨rfl, rfl, rfl, rfl, rfl, rfl, rfl, rfl⟩
  · rcases h with ⟨_, ⟨_, rfl, _⟩ | ⟨_, rfl, _⟩⟩
    all_goals exact ⟨rfl, rfl, rfl, rfl, rfl, rfl, rfl, rfl⟩
  · rcases h with ⟨_, rfl, _⟩ | ⟨p, _, _, _, ⟨_, rfl, _⟩ | ⟨_, ⟨_, rfl, _⟩ | ⟨A, _, _, _, hg, _⟩⟩⟩
    · exact z _
    · exact z _
    · exact ⟨rfl, rfl, rfl, rfl, rfl, rfl, rfl, rfl⟩
    · exact gv_ae hg
  · exact z _
/- How long the rings are; which codes there are. -/
theorem updL_len {U : Nat → List Int} {k : Nat} {L : List Int} (hU : ∀ k, k < 4 → (U k).length ≤ 50) (hL : L.length ≤ 60) : ∀ m, m < 4 → (updL U k L m).length ≤ 60 := fun m hm => by
  by_cases e : m = k
  · subst e; rw [updL_same]; exact hL
  · rw [updL_ne e]; have := hU m hm; omega
theorem gv_len {b c : Bx} {U V : Nat → List Int} {A : Nat} {v : Value} (h : GvQ b U A c V v) (hU : ∀ k, k < 4 → (U k).length ≤ 50) : ∀ m, m < 4 → (V m).length ≤ 60 := by
  rcases h.2 with ⟨n, _, _, _, rfl⟩ | ⟨k, hk, _, ⟨_, _, rfl⟩ | ⟨_, _, rfl⟩⟩
  · exact fun m hm => by have := hU m hm; omega
  · exact updL_len hU (by have := hU k hk; simp; omega)
  · refine updL_len hU ?_
    have h1 : (keepU (A / 8) ((A : Int) :: U k)).length ≤ ((A : Int) :: U k).length := List.length_filter_le _ _
    have := hU k hk
    simp only [List.length_cons] at h1
    omega
theorem dd_len {b c : Bx} {U V : Nat → List Int} {o : Ox} {x : Nat} {y : Int} (h : DdQ b U o c V x y) (hU : ∀ k, k < 4 → (U k).length ≤ 50) : (∀ m, m < 4 → (V m).length ≤ 60) ∧ (x = 0 ∨ x ∈ codes) := by
  have z : ∀ m, m < 4 → (U m).length ≤ 60 := fun m hm => by have := hU m hm; omega
  rcases h with ⟨_, _, rfl, rfl, _⟩ | ⟨q, _, _, ⟨_, rfl, ⟨_, _, rfl, _⟩ | ⟨_, _, _, rfl, _⟩ | ⟨_, _, _, rfl, _⟩⟩ | ⟨_, ⟨_, _, rfl, rfl, _⟩ | ⟨_, ⟨_, h⟩ | ⟨_, h⟩ | ⟨_, h⟩ | ⟨_, h⟩ | ⟨_, h⟩ | ⟨_, _, rfl, rfl, _⟩⟩⟩⟩
  · exact ⟨z, .inr (by simp [codes])⟩
  · exact ⟨z, .inr (by simp [codes])⟩
  · exact ⟨z, .inr (by simp [codes])⟩
  · exact ⟨z, .inl rfl⟩
  · exact ⟨z, .inr (by simp [codes])⟩
  · rcases h with ⟨_, _, rfl, rfl, _⟩ | ⟨_, rfl, ⟨p, _, _, _, _, rfl, _⟩ | ⟨_, _, rfl, _⟩⟩ | ⟨k, hk, _, ⟨A, r, e, _, rfl, rfl, _⟩ | ⟨_, _, _, rfl, rfl, _⟩ | ⟨_, p, _, _, _, _, rfl, rfl, _⟩⟩
    · exact ⟨z, .inr (by simp [codes])⟩
    · exact ⟨z, .inl rfl⟩
    · exact ⟨z, .inr (by simp [codes])⟩
    · refine ⟨updL_len hU ?_, .inl rfl⟩
      have := hU k hk
      rw [e] at this
      simp at this
      omega
    · exact ⟨z, .inr (by simp [codes])⟩
    · refine ⟨updL_len hU ?_, .inl rfl⟩
      have : (carL p k).length ≤ 8 := by
        unfold carL
        rw [rowU_length]
        exact Nat.div_le_self _ _
      rw [List.length_tail]
      omega
  · rcases h with ⟨r, w, r0, _, rfl, rfl, _⟩ | ⟨_, A, _, hg, rfl, _⟩
    · refine ⟨z, .inr ?_⟩
      rcases w with ⟨_, e⟩ | ⟨_, ⟨_, e⟩ | ⟨_, e⟩⟩
      · obtain rfl : x = 3 := by omega
        simp [codes]
      · obtain rfl : x = 4 := by omega
        simp [codes]
      · omega
    · exact ⟨gv_len hg hU, .inl rfl⟩
  · rcases h with ⟨rfl, ⟨r, w, r0, _, rfl, _⟩ | ⟨_, ⟨_, _, rfl, _⟩ | ⟨A, p, _, _, _, _, _, rfl, _⟩⟩⟩
    · refine ⟨z, .inr ?_⟩
      rcases w with ⟨_, e⟩ | ⟨_, ⟨_, e⟩ | ⟨_, e⟩⟩
      · obtain rfl : x = 3 := by omega
        simp [codes]
      · obtain rfl : x = 4 := by omega
        simp [codes]
      · omega
    · exact ⟨z, .inr (by simp [codes])⟩
    · exact ⟨z, .inl rfl⟩
  · rcases h with ⟨rfl, ⟨_, _, rfl, _⟩ | ⟨_, _, rfl, _⟩⟩
    · exact ⟨z, .inr (by simp [codes])⟩
    · exact ⟨z, .inl rfl⟩
  · rcases h with ⟨_, _, rfl, rfl, _⟩ | ⟨p, _, _, _, ⟨_, _, rfl, rfl, _⟩ | ⟨_, ⟨_, _, rfl, rfl, _⟩ | ⟨A, _, _, _, hg, rfl, _⟩⟩⟩
    · exact ⟨z, .inr (by simp [codes])⟩
    · exact ⟨z, .inr (by simp [codes])⟩
    · exact ⟨z, .inl rfl⟩
    · exact ⟨gv_len hg hU, .inr (by simp [codes])⟩
  · exact ⟨z, .inr (by simp [codes])⟩

structure Pq (b : Bx) (o : Ox) (w w1 : World) : Prop where
  b : w1.rangeAt w.heap.size 0 b.cells
  o : w1.rangeAt (w.heap.size + 1) 0 o.cells
  t : Ck w1 (w.heap.size + 2) z9
  l : Below w.heap.size w w1
  z : w.heap.size + 3 ≤ w1.heap.size
theorem Pq.start (b : Bx) (o : Ox) (w : World) (t t' : TypeId) : Pq b o w (((w.alloc (.cells b.cells.toArray t)).alloc (.cells o.cells.toArray t')).alloc (.cells z9.toArray t)) := by
  refine ⟨?_, ?_, ?_, below3 w _ _ _, by simp⟩
  · have := (ck_lit b.cells.toArray (heap3_0 w (.cells b.cells.toArray t) (.cells o.cells.toArray t') (.cells z9.toArray t))).range; simpa using this
  · have := (ck_lit o.cells.toArray (heap3_1 w (.cells b.cells.toArray t) (.cells o.cells.toArray t') (.cells z9.toArray t))).range; simpa using this
  · exact ck_lit z9.toArray (heap3_2 w (.cells b.cells.toArray t) (.cells o.cells.toArray t') (.cells z9.toArray t))
theorem Pq.later {b : Bx} {o : Ox} {w w1 w2 : World} {B : Nat} (h : Pq b o w w1) (hb : Below B w1 w2) (hB : w.heap.size + 3 ≤ B) : Pq b o w w2 :=
  ⟨fun j v hv => by rw [hb.cell (p := _) (by show w.heap.size < B; omega)]; exact h.b j v hv, fun j v hv => by rw [hb.cell (p := _) (by show w.heap.size + 1 < B; omega)]; exact h.o j v hv, h.t.below hb (by omega), h.l.trans (hb.mono (by omega)), Nat.le_trans h.z hb.size⟩
def BdQ (b : Bx) (o : Ox) (c : Bx) (x y : Int) : Prop :=
  (¬ OkP b ∧ c.m = noneM ∧ x = 13 ∧ y = 0) ∨ (OkP b ∧ ∃ (c0 cf : Bx) (V : Nat → List Int) (n : Nat), c0.m = b.m ∧ DdQ c0 (hU b) o cf V n y ∧ x = n ∧ FinP cf V c)
theorem ok_total {b : Bx} (h : OkP b) : b.total ≤ 1000 := by
  have l0 := h.1.1.2.1
  have l2 := h.1.1.2.2.1
  have l3 := h.1.1.2.2.2.1
  have l6 := h.1.1.2.2.2.2.2.1
  have l7 := h.1.1.2.2.2.2.2.2
  have h0 := (h.2.1 0 (by omega)).1
  have h1 := (h.2.1 1 (by omega)).1
  have h2 := (h.2.1 2 (by omega)).1
  have h3 := (h.2.1 3 (by omega)).1
  have e0 : (b.hd 0).n = b.h0.n := rfl
  have e1 : (b.hd 1).n = b.h1.n := rfl
  have e2 : (b.hd 2).n = b.h2.n := rfl
  have e3 : (b.hd 3).n = b.h3.n := rfl
  unfold Bx.total
  omega
theorem hU_len {b : Bx} (h : OkP b) : ∀ k, k < 4 → (hU b k).length ≤ 50 := fun k hk => by
  have l6 := h.1.1.2.2.2.2.2.1
  have l7 := h.1.1.2.2.2.2.2.2
  have := (h.2.1 k hk).1
  unfold hU
  rw [rowU_length]
  omega
theorem mem_rowU {f : Nat → Int} {u : Int} : ∀ {n : Nat}, u ∈ rowU f n → ∃ j, j < n ∧ u = f j
  | 0, h => by simp [rowU] at h
  | n + 1, h => by
    simp only [rowU, List.mem_append, List.mem_singleton] at h
    rcases h with h | h
    · obtain ⟨j, hj, e⟩ := mem_rowU h
      exact ⟨j, by omega, e⟩
    · exact ⟨n, by omega, h⟩
theorem hU_in {b : Bx} (h : OkP b) : ∀ k, k < 4 → ∀ u ∈ hU b k, 0 ≤ u ∧ u < b.o.n := fun k hk u hu => by
  obtain ⟨j, hj, rfl⟩ := mem_rowU hu
  have := (h.2.1 k hk).2 j hj
  exact ⟨this.1, this.2.1⟩
/- A book of one's own, its lists at the beginnings of their rows. -/
theorem hl_own {c : Bx} {B C : Nat} {w : World} (h : c.Hl B w) (hz : Zo c) (hC : B ≤ C) : c.Own C w.heap.size w ∨ True := .inr trivial
theorem Hl.own {c : Bx} {B A : Nat} {w : World} (h : c.Hl B w) (hz : Zo c) (hA : A ≤ B) : c.Own A w.heap.size w := by
  refine ⟨fun x hx => ?_, ?_, fun x hx => (h.each x hx).1⟩
  · rcases hz x hx with q | ⟨k, e⟩
    · exact .inl q
    · obtain ⟨g1, g2 | ⟨k', o', e', g3, g4, g5, g6⟩⟩ := h.each x hx
      · exact .inl (by omega)
      · rw [e] at e'
        cases e'
        refine .inr ⟨k, e, by omega, g4, fun j hj => ?_⟩
        have q1 := g6 j hj
        have q2 := (g5 j (by omega)).2
        rw [Nat.zero_add] at q1 q2
        exact ⟨q1, q2⟩
  · have hp := h.apart
    rw [List.pairwise_iff_getElem] at hp ⊢
    intro i j hi hj hlt
    have g := hp i j hi hj hlt
    have ci := (h.each _ (List.getElem_mem hi)).1
    have cj := (h.each _ (List.getElem_mem hj)).1
    rcases g with g | g | g
    · exact .inl (by omega)
    · exact .inr (.inl (by omega))
    · rcases hz _ (List.getElem_mem hi) with q | ⟨k, e⟩
      · exact .inl q
      · rcases hz _ (List.getElem_mem hj) with q | ⟨k', e'⟩
        · exact .inr (.inl q)
        · exact .inr (.inr ⟨k, k', e, e', g k 0 k' 0 e e'⟩)
theorem zo_fin {c0 cf c : Bx} {V : Nat → List Int} (hz : Zo c0) (ha : AE c0 cf) (hf : FinP cf V c) : Zo c := by
  obtain ⟨a1, a2, a3, a4, a5, a6, a7, a8⟩ := ha
  obtain ⟨f0, f1, f2, f3, f4, f5⟩ := hf
  intro x hx
  have hz' : ∀ {y z : Sx}, y ∈ c0.lists → z.a = y.a → z.n = y.n → z.n = 0 ∨ ∃ k, z.a = some ⟨k, 0, none⟩ := fun hy e1 e2 => by rw [e1, e2]; exact hz _ hy
  simp only [Bx.lists, List.mem_cons, List.not_mem_nil, or_false] at hx
  rcases hx with rfl | rfl | rfl | rfl | rfl | rfl | rfl | rfl
  · rw [f1]; exact hz' (by simp [Bx.lists]) a1 a2
  · exact (f5 0 (by omega)).2
  · exact (f5 1 (by omega)).2
  · exact (f5 2 (by omega)).2
  · exact (f5 3 (by omega)).2
  · rw [f2]; exact hz' (by simp [Bx.lists]) a3 a4
  · rw [f3]; exact hz' (by simp [Bx.lists]) a5 a6
  · rw [f4]; exact hz' (by simp [Bx.lists]) a7 a8

set_option maxHeartbeats 16000000 in
theorem bookdo_any {a : Nat → Addr} (b : Bx) (o : Ox) (w : World) (h : b.At w) (hn : b.total ≤ 1000000000) (hnil : ∀ x ∈ b.lists, x.a = none → x.n = 0) (hcap : b.o.n ≤ b.o.c) (he : Ea a w) :
    Calls Tryd.prog 11 #[.agg b.cells.toArray, .agg o.cells.toArray] w fun e w' => ∃ c x y, e = .returned (.tuple #[.agg c.cells.toArray, .int .i64 x, .int .i64 y]) ∧ BdQ b o c x y ∧ c.Own w.heap.size w'.heap.size w' ∧ Below w.heap.size w w' := by
  have S := Pq.start b o w 26 28
  have HS0 : Hid (Pq b o w _) := S
  have HR0 : Hid (World.rangeAt _ w.heap.size 0 b.cells) := S.b
  have HA : Hid (b.At w) := h
  have HEa : Hid (Ea a w) := he
  have W12 : Hid (12 ≤ w.heap.size) := by
    have := World.block_lt_of_cell? w _ (he.er.h 11 12 (by simp [erl]))
    show 12 ≤ w.heap.size
    have h2 : (⟨11, 0, none⟩ : Addr).block = 11 := rfl
    omega
  clear S h he
  simp only [Bx.cells, Ox.cells, z9] at HS0 HR0 ⊢
  go_enter Tryd.func11, Tryd.ntmps11
  go_wp2_with (refine wpList_load_mid rfl 26 _ rfl w.heap.size 0 rfl b.cells _ HR0.out Tryd.underlying26 rfl (by kernel_rfl) ?_)
  refine (ok_any b _ (HA.out.later HS0.out.l) hn hcap).mono ?_
  rintro e w1 ⟨⟨r, rfl, hr⟩, hb⟩
  have HS1 : Hid (Pq b o w w1) := HS0.out.later hb HS0.out.z
  have HOK : Hid (Tell r (OkP b)) := hr
  clear hb hr HR0 HS0
  cases r
  · have HT : Hid (w1.there (w.heap.size + 2) 0 9) := there9 HS1.out.t
    go_wp2_with (refine wpList_store_mid rfl 26 _ _ rfl (w.heap.size + 2) 0 noneB.cells.toArray rfl rfl HT.out (by kernel_rfl) (cells_one _) ?_)
    refine bodyPost_ret (results_cell_two rfl _ _ (w.heap.size + 2) 0 _ _ rfl (World.rangeAt_setCells_same _ _ _ _ HT.out) Tryd.underlying26 rfl (by kernel_rfl)) rfl ?_
    exact ⟨noneB, 13, 0, rfl, .inl ⟨fun q => (by have := HOK.out.2 q; cases this), rfl, rfl, rfl⟩, none_own _ _ _, below_setCells HS1.out.l (by omega) _ _⟩
  · have OK : Hid (OkP b) := HOK.out.1 rfl
    have HR1 : Hid (World.rangeAt w1 w.heap.size 0 b.cells) := HS1.out.b
    clear HOK
    go_wp2_with (refine wpList_load_mid rfl 26 _ rfl w.heap.size 0 rfl b.cells _ HR1.out Tryd.underlying26 rfl (by kernel_rfl) ?_)
    refine (draft_any b w1 (HA.out.later HS1.out.l) (ok_total OK.out) hnil).mono ?_
    rintro e w2 ⟨D, s, t, c0, rfl, cm, cz, hd, hb⟩
    have HS2 : Hid (Pq b o w w2) := HS1.out.later hb HS1.out.z
    have HD2 : Hid (Dr w1.heap.size D s t c0 (hU b) w2 ∧ w1.heap.size ≤ w2.heap.size) := ⟨hd, hb.size⟩
    have HM : Hid (c0.m = b.m ∧ Zo c0) := ⟨cm, cz⟩
    have HP2 : Hid (World.rangeAt w2 (w.heap.size + 1) 0 o.cells) := HS2.out.o
    clear hb hd cm cz HR1
    go_wp2_with (refine wpList_load_mid rfl 28 _ rfl (w.heap.size + 1) 0 rfl o.cells _ HP2.out Tryd.underlying28 rfl (by kernel_rfl) ?_)
    refine (do_any HD2.out.1 (HEa.out.later HS2.out.l).er (by have := HS1.out.z; have := W12.out; omega) ((ok_m HM.out.1).2 OK.out) o (by
      have e : c0.o.n = b.o.n := congrArg (fun m => m.o.1) HM.out.1
      rw [e]
      exact hU_in OK.out)).mono ?_
    rintro e w3 ⟨c, V, x, y, rfl, hq, t3, hd⟩
    have HQ : Hid (DdQ c0 (hU b) o c V x y) := hq
    have hb3 : Below w1.heap.size w2 w3 := hd.f.below w1.heap.size HD2.out.2 (fun i hi => (HD2.out.1.z i hi).1)
    have HS3 : Hid (Pq b o w w3) := HS2.out.later hb3 HS1.out.z
    have HD3 : Hid (Dr w1.heap.size D s t3 c V w3 ∧ w1.heap.size ≤ w3.heap.size) := ⟨hd.d, Nat.le_trans HD2.out.2 hb3.size⟩
    obtain ⟨hlen, hx⟩ := dd_len hq (hU_len OK.out)
    have HX : Hid ((∀ m, m < 4 → (V m).length ≤ 60) ∧ (x = 0 ∨ x ∈ codes)) := ⟨hlen, hx⟩
    clear hb3 hd hq hlen hx HD2 HS2 HP2
    go_wp2_with (fail)
    refine (finish_any HD3.out.1 (fun k hk => by have := HX.out.1 k hk; omega)).mono ?_
    rintro e w4 ⟨c', t4, rfl, hf, hd, hfq⟩
    have hb4 : Below w1.heap.size w3 w4 := hfq.below w1.heap.size HD3.out.2 (fun i hi => (HD3.out.1.z i hi).1)
    have HS4 : Hid (Pq b o w w4) := HS3.out.later hb4 HS1.out.z
    have HD4 : Hid (Dr w1.heap.size D s t4 c' V w4) := hd
    have HF : Hid (FinP c V c') := hf
    clear hb4 hd hf hfq HD3 HS3
    go_wp2_with (fail)
    have hc : Calls Tryd.prog 30 #[errV a x] w4 fun e w' => e = .returned (.int .i64 x) ∧ w' = w4 := by
      rcases HX.out.2 with rfl | q
      · exact code_nil w4
      · have q0 : x ≠ 0 := fun e => by rw [e] at q; simp [codes] at q
        rw [errV_pos a q0]
        exact code_any (HEa.out.later HS4.out.l) x q
    refine hc.mono ?_
    rintro e w5 ⟨rfl, e5⟩
    rw [e5]
    clear e5 hc
    have HT : Hid (w4.there (w.heap.size + 2) 0 9) := there9 HS4.out.t
    go_wp2_with (refine wpList_store_mid rfl 26 _ _ rfl (w.heap.size + 2) 0 c'.cells.toArray rfl rfl HT.out (by kernel_rfl) (cells_one _) ?_)
    refine bodyPost_ret (results_cell_two rfl _ _ (w.heap.size + 2) 0 _ _ rfl (World.rangeAt_setCells_same _ _ _ _ HT.out) Tryd.underlying26 rfl (by kernel_rfl)) rfl ?_
    have OY : Only (w.heap.size + 2) (w.heap.size + 2 + 1) w4 (w4.setCells (w.heap.size + 2) 0 c'.cells.toArray.toList) := only_setCells (Nat.le_refl _) (by omega) _ _ _ (Only.refl _ _ _)
    have hl : c'.Hl w1.heap.size (w4.setCells (w.heap.size + 2) 0 c'.cells.toArray.toList) := ⟨fun z hz => (HD4.out.h.each z hz).same OY.size (fun k o hc e => by
      have := HD4.out.h.lies ⟨z, hz, hc, o, e⟩
      exact OY.block k this.2 (.inr (by have := HS1.out.z; omega))), HD4.out.h.apart⟩
    exact ⟨c', x, y, rfl, .inr ⟨OK.out, c0, c, V, x, HM.out.1, HQ.out, rfl, HF.out⟩, Hl.own hl (zo_fin HM.out.2 (dd_ae HQ.out) HF.out) (by have := HS1.out.z; omega), below_setCells HS4.out.l (by omega) _ _⟩

end Go.Proofs.YtbipolfbkemmpaaDoor.Dra

/- A room of whole pages is taken, by the specification. -/
import Derived.Test.YtlhfkackchcncaaM6
import Derived.Test.YtlhfkackchcncaaM12
namespace Go.Proofs.Ytlhfkackchcncaa.Book
open Go.ChangeShapes Go.WideShapes Go.ChangeAt Go.RowKit
open Go.Proofs.Ytlhfkackchcncaa.Aid Go.Proofs.Ytlhfkackchcncaa.Lst
set_option maxRecDepth 100000
set_option linter.unusedVariables false

theorem lies_cells (b : Bx) (i : Nat) : b.Lies i ↔ ∃ v ∈ b.cells, ∃ o n c, v = .slice (some ⟨i, o, none⟩) n c ∧ 0 < c := by
  unfold Bx.Lies
  have e : b.cells = .int .i64 b.s :: b.lists.map (fun x => .slice x.a x.n x.c) := rfl
  rw [e]
  constructor
  · rintro ⟨x, hx, hc, o, ea⟩
    exact ⟨_, List.mem_cons_of_mem _ (List.mem_map.2 ⟨x, hx, rfl⟩), o, x.n, x.c, by rw [ea], hc⟩
  · rintro ⟨v, hv, o, n, c, rfl, hc⟩
    rcases List.mem_cons.1 hv with hv | hv
    · cases hv
    · obtain ⟨x, hx, ex⟩ := List.mem_map.1 hv
      injection ex with e1 e2 e3
      exact ⟨x, hx, by omega, o, e1⟩
theorem lies_same {b c : Bx} (h : c.cells = b.cells) {i : Nat} (g : c.Lies i) : b.Lies i := by
  rw [lies_cells] at g ⊢
  rw [← h]
  exact g

/- The answer of a call: the book c, and two numbers. -/
def Ans3 (b : Bx) (B : Nat) (w : World) (P : Bx → Int → Int → Prop) (e : Ending) (w' : World) : Prop :=
  ∃ (c : Bx) (x y : Int), e = .returned (.tuple #[.agg c.cells.toArray, .int .i64 x, .int .i64 y]) ∧ P c x y ∧ c.Hl B w' ∧ Fr b w w' ∧ ∀ i, c.Lies i → b.Lies i ∨ w.heap.size ≤ i

def PagP (b : Bx) (t n : Nat) (c : Bx) (x y : Int) : Prop :=
  (∃ p : Nat, p + n ≤ b.p.n ∧ EmpP b.p.f p n ∧ (∀ q, q < p → ¬ EmpP b.p.f q n) ∧ c = b.wide p n t ∧ x = 0 ∧ y = (p : Int) * 8) ∨ ((∀ q, q + n ≤ b.p.n → ¬ EmpP b.p.f q n) ∧ c = b ∧ x = 2 ∧ y = 0)

/- So far as its pages are marked. -/
def widI (P : Nat → Int) (p n u : Nat) : Nat → Int := fun j => if j = p then 8 + (n : Int) else if p < j ∧ j < p + u then 7 else P j
def Bx.widI (b : Bx) (p n u : Nat) : Bx := ⟨b.s, ⟨b.p.a, b.p.n, b.p.c, Book.widI b.p.f p n u⟩, b.h0, b.h1, b.h2, b.h3, b.o, b.i, b.e⟩
theorem widI_one (P : Nat → Int) (p n : Nat) : widI P p n 1 = upd P p (8 + (n : Int)) := by
  funext j
  simp only [widI, upd]
  by_cases e : j = p
  · rw [if_pos e, if_pos e]
  · rw [if_neg e, if_neg e, if_neg (by omega)]
theorem widI_step (P : Nat → Int) (p n u : Nat) (h : 1 ≤ u) : widI P p n (u + 1) = upd (widI P p n u) (p + u) 7 := by
  funext j
  simp only [widI, upd]
  by_cases e : j = p
  · rw [if_pos e, if_neg (by omega), if_pos e]
  · rw [if_neg e, if_neg e]
    by_cases e2 : j = p + u
    · rw [if_pos (by omega), if_pos e2]
    · rw [if_neg e2]
      by_cases e3 : p < j ∧ j < p + u
      · rw [if_pos (by omega), if_pos e3]
      · rw [if_neg (by omega), if_neg e3]

set_option maxHeartbeats 8000000 in
theorem dpages_any (b : Bx) (t n B : Nat) (w : World) (h : b.Hl B w) (hok : OkP b) (n2 : 2 ≤ n) (n4 : n ≤ 4) (ht : (t : Int) < b.s) :
    Calls Try.prog 54 #[.agg b.cells.toArray, .int .i64 t, .int .i64 n] w fun e w' => Ans3 b B w (PagP b t n) e w' := by
  have l1 := hok.1.1.2.1
  have l2 := hok.1.1.2.2.2.2.1
  have l3 := hok.1.1.2.2.2.2.2.1
  have l4 := hok.1.1.2.2.2.2.2.2
  have S := Dn.start h 26
  simp only [Bx.cells] at S ⊢
  go_enter Try.func54, Try.ntmps54
  go_wp2_with (fail)
  generalize (w.alloc (.cells #[.int .i64 b.s, .slice b.p.a b.p.n b.p.c, .slice b.h0.a b.h0.n b.h0.c, .slice b.h1.a b.h1.n b.h1.c, .slice b.h2.a b.h2.n b.h2.c, .slice b.h3.a b.h3.n b.h3.c, .slice b.o.a b.o.n b.o.c, .slice b.i.a b.i.n b.i.c, .slice b.e.a b.e.n b.e.c] 26)).alloc (.cells #[.int .i64 0, .slice none 0 0, .slice none 0 0, .slice none 0 0, .slice none 0 0, .slice none 0 0, .slice none 0 0, .slice none 0 0, .slice none 0 0] 26) = W at S ⊢
  obtain ⟨u0, u1, u2, u3, u4, u5, u6, u7, u8⟩ := nine S.e.range
  have HS : Hid (Dn w b B b W) := S
  clear S
  go_wp2_with (fail)
  refine (run_any b n W HS.out.h.at (by omega) (by omega) (by omega) (by omega)).mono ?_
  rintro e w1 ⟨⟨r, rfl, hr⟩, hb⟩
  have S := HS.out.later hb
  clear HS hb u0 u1 u2 u3 u4 u5 u6 u7 u8
  rcases hr with ⟨p, p1, rfl, p2, p3⟩ | ⟨rfl, hr⟩
  · have hx : b.p.At w1 := S.h.at.p
    obtain ⟨k, o, ea, hc⟩ := hx.cells (by omega)
    obtain ⟨kq, oq, eq, hcq⟩ := S.h.at.o.cells (by omega)
    have EA : Hid (b.p.a = some ⟨k, o, none⟩) := ea
    have EQ : Hid (b.o.a = some ⟨kq, oq, none⟩) := eq
    clear hx hc hcq ea eq
    have fre : ∀ (v : World) (c : Bx), Dn w b B c v → c.p.a = b.p.a → c.p.n = b.p.n → c.p.c = b.p.c → ∀ j, j < b.p.n → ∃ y, v.cell? ⟨k, o + j, none⟩ = some y ∧ v.frozen? ⟨k, o + j, none⟩ = false := fun v c D e1 e2 e3 j hj => by
      obtain ⟨g0, g | ⟨k', o', e', g1, g2, g3, g4⟩⟩ := D.h.each c.p (by simp [Bx.lists])
      · omega
      · rw [e1, EA.out] at e'
        cases e'
        obtain ⟨y1, y2⟩ := g3 j (by omega)
        obtain ⟨y, hy⟩ := Option.isSome_iff_exists.1 y1
        exact ⟨y, hy, y2⟩
    have FRE : Hid (∀ (v : World) (c : Bx), Dn w b B c v → c.p.a = b.p.a → c.p.n = b.p.n → c.p.c = b.p.c → ∀ j, j < b.p.n → ∃ y, v.cell? ⟨k, o + j, none⟩ = some y ∧ v.frozen? ⟨k, o + j, none⟩ = false) := fre
    clear fre
    obtain ⟨y0, y1, y2⟩ := FRE.out w1 b S rfl rfl rfl p (by omega)
    obtain ⟨-, u1, -, -, -, -, -, -, -⟩ := nine S.e.range
    rw [EA.out] at u1
    have S1 := S.write (b' := b.widI p n 1) 0 b.p rfl k o p EA.out (by omega) (8 + (n : Int)) (by simp only [Bx.widI, widI_one]; rfl) rfl (fun i hi => lies_same (b := b) (c := b.widI p n 1) rfl hi)
    have HS : Hid (Dn w b B (b.widI p n 1) _) := S1
    have P2 : Hid (EmpP b.p.f p n) := p2
    have P3 : Hid (∀ q, q < p → ¬ EmpP b.p.f q n) := p3
    clear S S1 p2 p3
    go_wp2_with (fail)
    generalize w1.setCell ⟨k, o + p, none⟩ (.int .i64 (8 + (n : Int))) = w2 at HS ⊢
    clear y1 y2 u1
    go_loopw [10] (fun i wr => ∃ u : Nat, 1 ≤ u ∧ u ≤ n ∧ i = .int .i64 u ∧ Dn w b B (b.widI p n u) wr) (fun i _ => n - (intOf i).toNat)
    case atStart => exact ⟨1, by omega, by omega, rfl, HS.out⟩
    case round =>
      obtain ⟨u, h1, h2, rfl, S⟩ := hrel
      obtain ⟨u0, u1, u2, u3, u4, u5, u6, u7, u8⟩ := nine S.e.range
      simp only [Bx.widI, EA.out, EQ.out] at u0 u1 u2 u3 u4 u5 u6 u7 u8
      have HD : Hid (Dn w b B (b.widI p n u) _) := S
      clear S
      by_cases hlt : (u : Int) < n
      · obtain ⟨y0, y1, y2⟩ := FRE.out _ _ HD.out rfl rfl rfl (p + u) (by omega)
        have i1 : ((p : Int) + u) < b.p.n := by omega
        have i2 : ((p : Int) + u).toNat = p + u := by omega
        have S1 := HD.out.write (b' := b.widI p n (u + 1)) 0 (b.widI p n u).p rfl k o (p + u) EA.out (by show p + u < b.p.n; omega) 7 (by simp only [Bx.widI, widI_step _ _ _ _ h1]; rfl) rfl (fun i hi => lies_same (b := b.widI p n u) (c := b.widI p n (u + 1)) rfl hi)
        have HS1 : Hid (Dn w b B (b.widI p n (u + 1)) _) := S1
        clear S1
        go_wp2_with (fail)
        go_round
        case rel => exact ⟨u + 1, by omega, by omega, by go_num, HS1.out⟩
        case measure => simp [intOf]; omega
      · obtain rfl : u = n := by omega
        obtain ⟨z1, z2⟩ : (∃ y, wr.cell? ⟨kq, oq + p * 8, none⟩ = some y) ∧ wr.frozen? ⟨kq, oq + p * 8, none⟩ = false := by
          obtain ⟨g0, g | ⟨k', o', e', g1, g2, g3, g4⟩⟩ := HD.out.h.each b.o (by simp [Bx.lists, Bx.widI])
          · omega
          · rw [EQ.out] at e'
            cases e'
            obtain ⟨q1, q2⟩ := g3 (p * 8) (by omega)
            exact ⟨Option.isSome_iff_exists.1 q1, q2⟩
        obtain ⟨z0, z1⟩ := z1
        have i1 : (p : Int) * 8 < b.o.n := by omega
        have i2 : ((p : Int) * 8).toNat = p * 8 := by omega
        have S5 := HD.out.write (b' := b.wide p u t) 5 b.o rfl kq oq (p * 8) EQ.out (by omega) ((t : Int) + 1) rfl rfl (fun i hi => lies_same (b := b.widI p u u) (c := b.wide p u t) rfl hi)
        obtain ⟨w9, e9, ck9, ow9, be9, li9⟩ := S5.ans
        simp only [Bx.wide, Sx.put, EA.out, EQ.out] at e9
        have tk0 := S5.t 0 _ rfl
        have tk1 := S5.t 1 _ rfl
        have tk2 := S5.t 2 _ rfl
        have tk3 := S5.t 3 _ rfl
        have tk4 := S5.t 4 _ rfl
        have tk5 := S5.t 5 _ rfl
        have tk6 := S5.t 6 _ rfl
        have tk7 := S5.t 7 _ rfl
        have tk8 := S5.t 8 _ rfl
        obtain ⟨v0, v1, v2, v3, v4, v5, v6, v7, v8⟩ := nine S5.e.range
        simp only [Bx.wide, Sx.put, EA.out, EQ.out] at v0 v1 v2 v3 v4 v5 v6 v7 v8
        have HE : Hid (w9 = _) := e9
        clear S5 e9 HS
        go_wp2_with (fail)
        rw [← HE.out]
        exact bodyPost_ret (results_cell_two rfl _ _ (w.heap.size + 1) 0 _ _ rfl ck9.range Try.underlying26 rfl (by kernel_rfl)) rfl ⟨b.wide p u t, 0, (p : Int) * 8, rfl, .inl ⟨p, p1, P2.out, P3.out, rfl, rfl, rfl⟩, ow9, be9, li9⟩
  · obtain ⟨w9, e9, ck9, ow9, be9, li9⟩ := S.ans
    have tk0 := S.t 0 _ rfl
    have tk1 := S.t 1 _ rfl
    have tk2 := S.t 2 _ rfl
    have tk3 := S.t 3 _ rfl
    have tk4 := S.t 4 _ rfl
    have tk5 := S.t 5 _ rfl
    have tk6 := S.t 6 _ rfl
    have tk7 := S.t 7 _ rfl
    have tk8 := S.t 8 _ rfl
    obtain ⟨u0, u1, u2, u3, u4, u5, u6, u7, u8⟩ := nine S.e.range
    have HE : Hid (w9 = _) := e9
    have HR : Hid (∀ q, q + n ≤ b.p.n → ¬ EmpP b.p.f q n) := hr
    clear S e9 hr
    go_wp2_with (fail)
    rw [← HE.out]
    exact bodyPost_ret (results_cell_two rfl _ _ (w.heap.size + 1) 0 _ _ rfl ck9.range Try.underlying26 rfl (by kernel_rfl)) rfl ⟨b, 2, 0, rfl, .inr ⟨HR.out, rfl, rfl, rfl⟩, ow9, be9, li9⟩

end Go.Proofs.Ytlhfkackchcncaa.Book

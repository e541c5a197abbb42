import Derived.Test.YtbipolfbkemmpaaDoorM23
import Derived.Test.YtbipolfbkemmpaaDoorM11
import Derived.Test.YtbipolfbkemmpaaDoorM52

/- What is known of the rooms of a book that is ok: each room fits between those of its owner; all are counted. Over no program. -/
namespace Go.Proofs.YtbipolfbkemmpaaDoor.Book
open Aid Lst
set_option maxRecDepth 100000
set_option linter.unusedVariables false

/- The rooms of one owner ascend. -/
theorem selL_mem {o : Nat → Int} {t : Int} : ∀ {n : Nat} {x : Int}, x ∈ selL o t n → 0 ≤ x ∧ x < n ∧ o x.toNat = t
  | 0, x, h => by simp [selL] at h
  | n + 1, x, h => by
    simp only [selL] at h
    split at h
    · rename_i e
      rcases List.mem_append.1 h with h | h
      · have := selL_mem h; exact ⟨this.1, by omega, this.2.2⟩
      · simp at h; subst h; exact ⟨by omega, by omega, by simpa using e⟩
    · have := selL_mem h; exact ⟨this.1, by omega, this.2.2⟩
theorem selL_asc {o : Nat → Int} {t : Int} : ∀ {n : Nat}, (selL o t n).Pairwise (· < ·)
  | 0 => List.Pairwise.nil
  | n + 1 => by
    simp only [selL]
    split
    · refine List.pairwise_append.2 ⟨selL_asc, List.pairwise_singleton _ _, fun a ha b hb => ?_⟩
      have := selL_mem ha
      simp at hb
      omega
    · exact selL_asc
theorem selL_at {o : Nat → Int} {t : Int} {n i : Nat} (h : i < (selL o t n).length) : 0 ≤ (selL o t n).getD i 0 ∧ (selL o t n).getD i 0 < n ∧ o ((selL o t n).getD i 0).toNat = t := by
  rw [List.getD_eq_getElem?_getD, List.getElem?_eq_getElem h]
  exact selL_mem (List.getElem_mem h)
theorem selL_next {o : Nat → Int} {t : Int} {n i : Nat} (h : i + 1 < (selL o t n).length) : (selL o t n).getD i 0 < (selL o t n).getD (i + 1) 0 := by
  rw [List.getD_eq_getElem?_getD, List.getD_eq_getElem?_getD, List.getElem?_eq_getElem h, List.getElem?_eq_getElem (show i < _ by omega)]
  exact List.pairwise_iff_getElem.1 selL_asc i (i + 1) (by omega) h (by omega)

/- How many of the first n numbers are above 0. -/
def posN (o : Nat → Int) : Nat → Nat
  | 0 => 0
  | n + 1 => posN o n + if 0 < o n then 1 else 0
theorem posN_sel (o : Nat → Int) : ∀ (n : Nat), (∀ u, u < n → 0 ≤ o u ∧ o u ≤ 4) → (selL o 1 n).length + (selL o 2 n).length + (selL o 3 n).length + (selL o 4 n).length = posN o n
  | 0, _ => rfl
  | n + 1, h => by
    have ih := posN_sel o n (fun u hu => h u (by omega))
    have g := h n (by omega)
    simp only [selL, posN]
    obtain e | e | e | e | e : o n = 0 ∨ o n = 1 ∨ o n = 2 ∨ o n = 3 ∨ o n = 4 := by omega
    all_goals
      rw [e]
      simp
      omega
theorem selL_none (o : Nat → Int) (t : Int) : ∀ (n : Nat), (∀ u, u < n → o u ≠ t) → selL o t n = []
  | 0, _ => rfl
  | n + 1, h => by
    simp only [selL]
    rw [if_neg (h n (by omega)), selL_none o t n (fun u hu => h u (by omega))]

theorem sz_four {m : Nat} (h : m < 4) : sz m = 1 ∨ sz m = 2 ∨ sz m = 4 ∨ sz m = 8 := by
  obtain rfl | rfl | rfl | rfl : m = 0 ∨ m = 1 ∨ m = 2 ∨ m = 3 := by omega
  all_goals simp [sz]

/- The room of an owner's: how large it is, how it lies, and who comes next. -/
theorem room_lies {b : Bx} (h : OkP b) {u r : Int} (h0 : 0 ≤ u) (h1 : u < b.o.n) (ho : 0 < b.o.f u.toNat) (hr : RoomR b u r) :
    1 ≤ r ∧ (r < 8 → u % r = 0) ∧ (8 ≤ r → u % 8 = 0) ∧ ∀ v : Int, u < v → v < b.o.n → 0 < b.o.f v.toNat → u + r ≤ v := by
  obtain ⟨n1, n2, n3, n4, n5⟩ := h.nums
  have eu : (u / 8).toNat * 8 + (u % 8).toNat = u.toNat := by omega
  have hq : (u / 8).toNat < b.p.n := by omega
  rcases hr with ⟨g, -⟩ | ⟨-, hr⟩
  · omega
  have pg := h.2.2 _ hq
  rcases hr with ⟨m, m4, em, rfl⟩ | ⟨ew, rfl⟩
  · have s4 := sz_four m4
    have rm : (∀ x, x < 8 → RoomU b.o.f (b.hd m) m (u / 8).toNat x) := by
      rcases pg with g | ⟨m', m4', e', g⟩ | g | g
      · omega
      · obtain rfl : m = m' := by omega
        exact g.1
      · omega
      · have := g.1; omega
    have hm : (u % 8) % sz m = 0 := by
      have g := rm (u % 8).toNat (by omega)
      have e8 : (((u % 8).toNat : Nat) : Int) = u % 8 := by omega
      rcases g with ⟨-, g, -⟩ | ⟨g, -⟩
      · rw [eu] at g; omega
      · rw [e8] at g
        rcases s4 with s4 | s4 | s4 | s4 <;> rw [s4] at g ⊢ <;> omega
    have um : u % sz m = 0 := by rcases s4 with s4 | s4 | s4 | s4 <;> rw [s4] at hm ⊢ <;> omega
    refine ⟨by omega, fun _ => um, fun g8 => by rcases s4 with s4 | s4 | s4 | s4 <;> rw [s4] at g8 um <;> omega, fun v hv hv1 hov => ?_⟩
    by_cases same : v / 8 = u / 8
    · have ev : (u / 8).toNat * 8 + (v % 8).toNat = v.toNat := by omega
      have g := rm (v % 8).toNat (by omega)
      have e8 : (((v % 8).toNat : Nat) : Int) = v % 8 := by omega
      have vm : (v % 8) % sz m = 0 := by
        rcases g with ⟨-, g, -⟩ | ⟨g, -⟩
        · rw [ev] at g; omega
        · rw [e8] at g
          rcases s4 with s4 | s4 | s4 | s4 <;> rw [s4] at g ⊢ <;> omega
      rcases s4 with s4 | s4 | s4 | s4 <;> rw [s4] at hm vm ⊢ <;> omega
    · rcases s4 with s4 | s4 | s4 | s4 <;> rw [s4] at hm ⊢ <;> omega
  · have wd : WideP b.p.f b.o.f b.p.n (u / 8).toNat := by
      rcases pg with g | ⟨m', m4', e', g⟩ | g | g
      · omega
      · omega
      · omega
      · exact g
    obtain ⟨w1, w2, w3, w4, w5, w6⟩ := wd
    have u8 : u % 8 = 0 := by
      by_cases e : u % 8 = 0
      · exact e
      · have := w5 (u % 8).toNat (by omega) (by omega)
        rw [eu] at this
        omega
    refine ⟨by omega, fun g => by omega, fun _ => u8, fun v hv hv1 hov => ?_⟩
    by_cases far : u + (b.p.f (u / 8).toNat - 8) * 8 ≤ v
    · exact far
    exfalso
    by_cases same : v / 8 = u / 8
    · have ev : (u / 8).toNat * 8 + (v % 8).toNat = v.toNat := by omega
      have := w5 (v % 8).toNat (by omega) (by omega)
      rw [ev] at this
      omega
    · have ej : (u / 8).toNat + (v / 8 - u / 8).toNat = (v / 8).toNat := by omega
      have g7 := w6 (v / 8 - u / 8).toNat (by omega) (by omega)
      rw [ej] at g7
      have ev : (v / 8).toNat * 8 + (v % 8).toNat = v.toNat := by omega
      rcases h.2.2 (v / 8).toNat (by omega) with g | ⟨m', m4', e', g⟩ | g | g
      · omega
      · omega
      · have := g.2.2.2 (v % 8).toNat (Nat.zero_le _) (by omega)
        rw [ev] at this
        omega
      · have := g.1; omega

/- The lists of all owners together. -/
theorem all_owned {b : Bx} (h : OkP b) : (selL b.o.f 1 b.o.n).length + (selL b.o.f 2 b.o.n).length + (selL b.o.f 3 b.o.n).length + (selL b.o.f 4 b.o.n).length = posN b.o.f b.o.n :=
  posN_sel _ _ fun u hu => by
    have g := h.1.2.2 u hu
    have l := h.1.1
    unfold LensP at l
    exact ⟨g.1, by have := g.2.1; omega⟩
/- What the list of an owner is. -/
theorem ofl_sel {b : Bx} (h : OkP b) {t : Int} (h0 : 0 ≤ t) {L : List Int} (hL : OfL b t L) : L = selL b.o.f (t + 1) b.o.n := by
  rcases hL with ⟨-, ⟨-, g⟩ | ⟨g, e⟩⟩ | ⟨g, -⟩
  · exact g
  · rw [e, selL_none]
    intro u hu
    have := (h.1.2.2 u hu).2.1
    omega
  · exact absurd h g

end Go.Proofs.YtbipolfbkemmpaaDoor.Book
/- A room that is taken: how large it is, and that giving it back makes it undone: over no program. -/
namespace Go.Proofs.YtbipolfbkemmpaaDoor.Dra
open Go.ChangeShapes Go.WideShapes Go.ChangeAt Go.RowKit
open Aid Lst Book
set_option maxRecDepth 100000
set_option linter.unusedVariables false
set_option linter.unusedSimpArgs false

theorem kept_nil {f : Nat → Int} {p : Int} : ∀ {n : Nat}, (∀ j, j < n → f j / 8 = p) → kept f p n = []
  | 0, _ => rfl
  | n + 1, h => by
    have := kept_nil (f := f) (p := p) (n := n) (fun j hj => h j (by omega))
    simp only [kept, this]
    rw [if_neg (by rw [h n (by omega)]; simp)]
/- What is so of the book b, a room at A of the size r that the slot t was given in y, and of what was asked for. -/
structure Tk (b y : Bx) (t A : Nat) (u r : Int) : Prop where
  a : A < b.o.n
  on : y.o.n = b.o.n
  pn : y.p.n = b.p.n
  s : y.s = b.s
  i : y.i = b.i
  o : y.o.f A = (t : Int) + 1
  room : RoomR y A r
  r0 : u ≤ r
  u0 : 1 ≤ u ∧ u ≤ 32 ∧ 1 ≤ r ∧ r ≤ 32
  r8 : u ≤ 8 → r < 2 * u
  r9 : 8 < u → r - u < 8
  fit : (A : Int) + r ≤ b.o.n
  back : ∃ d, BakP y A d ∧ d.o.n = b.o.n ∧ d.p.n = b.p.n ∧ d.s = b.s ∧ d.i = b.i ∧ d.o.f A = 0 ∧ (∀ u, u < b.o.n → d.o.f u = b.o.f u) ∧ (∀ q, q < b.p.n → d.p.f q = b.p.f q) ∧ ∀ k, k < 4 → (d.hd k).n = (b.hd k).n
theorem free0 {b : Bx} (hok : OkP b) {p : Nat} (hp : p < b.p.n) (h0 : b.p.f p = 0) : ∀ u, u < 8 → b.o.f (p * 8 + u) = 0 := fun u hu => by
  have l := hok.1.1
  unfold LensP at l
  have hf : FreeP b.o.f p 0 := by
    rcases hok.2.2 p hp with ⟨_, h⟩ | ⟨m, hm, h, _⟩ | ⟨h, _⟩ | ⟨h, _⟩
    · exact h
    · omega
    · omega
    · omega
  have q := hf u (by omega) hu
  have g := hok.1.2.2 (p * 8 + u) (by omega)
  unfold OwnU at g
  omega
theorem upd2 (f : Nat → Int) (A : Nat) (v : Int) (h : f A = 0) : Book.upd (Book.upd f A v) A 0 = f := by
  funext j
  unfold Book.upd
  by_cases e : j = A
  · subst e; simp [h]
  · simp [e]
theorem take_at {b y : Bx} {o : Ox} {x at_ : Int} (hok : OkP b) (hk : o.k = 2) (h : DoP b o y x at_) (h0 : x = 0) :
    ∃ (t A : Nat) (r : Int), o.s = t ∧ (t : Int) < b.s ∧ b.i.f t ≠ 0 ∧ at_ = A ∧ Tk b y t A o.a r := by
  have l := hok.1.1
  unfold LensP at l
  rcases h with ⟨_, _, h2, _⟩ | ⟨t, es, ht, ⟨h1, _⟩ | ⟨_, ⟨_, _, h2, _⟩ | ⟨hi, h⟩⟩⟩
  · omega
  · omega
  · omega
  rcases h with ⟨_, h⟩ | ⟨e, _⟩ | ⟨e, _⟩ | ⟨e, _⟩ | ⟨e, _⟩ | ⟨e, _⟩
  · rcases h with ⟨_, _, h2, _⟩ | ⟨k4, h⟩ | ⟨k, hk4, ek, h⟩
    · omega
    · have hu : 8 < o.a ∧ o.a ≤ 32 := by
        unfold kindM at k4
        split at k4
        · omega
        · split at k4
          · omega
          · split at k4
            · omega
            · split at k4
              · omega
              · split at k4
                · omega
                · omega
      rcases h with ⟨p, g1, g2, _, ey, _, ea⟩ | ⟨_, _, h2, _⟩
      · obtain ⟨n, en⟩ : ∃ n, n = ((o.a + 7) / 8).toNat := ⟨_, rfl⟩
        rw [← en] at g1 g2 ey
        have n2 : 2 ≤ n ∧ n ≤ 4 ∧ (n : Int) * 8 - o.a < 8 ∧ o.a ≤ (n : Int) * 8 := by omega
        have z := free0 hok (p := p) (by omega) (by simpa using g2 0 (by omega)) 0 (by omega)
        rw [Nat.add_zero] at z
        have p8 : p * 8 / 8 = p := by omega
        have yp : y.p.f p = 8 + (n : Int) := by rw [ey]; exact wide_at _ _ _
        have yo : y.o.f (p * 8) = (t : Int) + 1 := by rw [ey]; show Book.upd _ _ _ _ = _; simp [Book.upd]
        refine ⟨t, p * 8, (n : Int) * 8, es, ht, hi, by rw [ea]; omega, ⟨by omega, by rw [ey]; rfl, by rw [ey]; rfl, by rw [ey]; rfl, by rw [ey]; rfl, yo, ?_, n2.2.2.2, by omega, by omega, by omega, by omega, ?_⟩⟩
        · have e8 : (((p * 8 : Nat) : Int) / 8).toNat = p := by omega
          have e9 : ((p * 8 : Nat) : Int).toNat = p * 8 := by omega
          refine .inr ⟨⟨by omega, by rw [ey]; show ((p * 8 : Nat) : Int) < b.o.n; omega, by rw [e9, yo]; omega⟩, .inr ⟨⟨by rw [e8, yp]; omega, by rw [e8, yp]; omega⟩, by rw [e8, yp]; omega⟩⟩
        · have od : (y.unwide p n).o.f = b.o.f := by
            rw [ey]
            exact upd2 b.o.f (p * 8) _ z
          refine ⟨y.unwide p n, .inl ⟨n, by omega, by rw [p8]; exact yp, by rw [p8]⟩, by rw [ey]; rfl, by rw [ey]; rfl, by rw [ey]; rfl, by rw [ey]; rfl, by rw [od]; exact z, fun u _ => by rw [od], fun q hq => ?_, fun k _ => by rw [ey]; rfl⟩
          rw [ey]
          show emptF (wideF b.p.f p n) p n q = b.p.f q
          by_cases c : p ≤ q ∧ q < p + n
          · rw [empt_in c.1 c.2]
            have := g2 (q - p) (by omega)
            rw [show p + (q - p) = q by omega] at this
            exact this.symm
          · rw [empt_out (by omega), wide_out (by omega) (by omega)]
      · omega
    · have hu : 1 ≤ o.a ∧ o.a ≤ sz k ∧ sz k < 2 * o.a ∧ o.a ≤ 8 ∧ 1 ≤ sz k ∧ sz k ≤ 8 := by
        unfold kindM at ek
        obtain rfl | rfl | rfl | rfl : k = 0 ∨ k = 1 ∨ k = 2 ∨ k = 3 := by omega
        all_goals
          simp only [sz]
          split at ek
          · simp at ek
          · split at ek
            · first | (simp at ek; done) | (simp; omega)
            · split at ek
              · first | (simp at ek; done) | (simp; omega)
              · split at ek
                · first | (simp at ek; done) | (simp; omega)
                · split at ek
                  · first | (simp at ek; done) | (simp; omega)
                  · simp at ek
      rcases h with ⟨hn, ⟨a, ey⟩, _, ea⟩ | ⟨_, _, _, h2, _⟩ | ⟨hn, p, g1, g2, _, ⟨a, ao, hc, ey⟩, _, ea⟩
      · obtain ⟨hn2, hl⟩ := hok.2.1 k hk4
        obtain ⟨b0, b1, b2, b3⟩ := hl 0 hn
        obtain ⟨A, eA⟩ : ∃ A : Nat, (b.hd k).f 0 = A := ⟨((b.hd k).f 0).toNat, by omega⟩
        rw [eA] at b0 b1 b2 b3 ey ea
        have e9 : ((A : Int)).toNat = A := by simp
        have e8 : ((A : Int) / 8).toNat = A / 8 := by omega
        rw [e9] at ey
        rw [e8] at b2
        have eA8 : A / 8 * 8 + A % 8 = A := by omega
        have hpg : RoomsP b.o.f (b.hd k) k (A / 8) := by
          rcases hok.2.2 (A / 8) (by omega) with ⟨h, _⟩ | ⟨m, hm, h, hr⟩ | ⟨h, _⟩ | ⟨h, _⟩
          · omega
          · obtain rfl : m = k := by omega
            exact hr
          · omega
          · omega
        have c1 : 1 ≤ cnt (b.hd k).f (((A / 8 : Nat) : Int) * 8 + ((A % 8 : Nat) : Int)) (b.hd k).n := by
          have e : (((A / 8 : Nat) : Int) * 8 + ((A % 8 : Nat) : Int)) = (A : Int) := by omega
          rw [e]
          obtain ⟨n', en'⟩ : ∃ n', (b.hd k).n = n' + 1 := ⟨(b.hd k).n - 1, by omega⟩
          rw [en', cnt_tail, eA, if_pos rfl]
          omega
        have oA : b.o.f A = 0 := by
          have g := hok.1.2.2 A (by omega)
          unfold OwnU at g
          have q := hpg.1 (A % 8) (by omega)
          unfold RoomU at q
          rw [eA8] at q
          omega
        obtain ⟨v, hv8, hv1, hv2⟩ := hpg.2
        have yo : y.o.f A = (t : Int) + 1 := by rw [ey]; show Book.upd _ _ _ _ = _; simp [Book.upd]
        have yp : y.p = b.p := by rw [ey]; rfl
        have yh : y.hd k = (b.hd k).drop a := by
          rw [ey]
          show (b.seth k ((b.hd k).drop a)).hd k = _
          rw [hd_seth b _ hk4 hk4, if_pos rfl]
        have od : Book.upd y.o.f A 0 = b.o.f := by
          rw [ey]
          exact upd2 b.o.f A _ oA
        have yn : (y.hd k).n = (b.hd k).n - 1 := by rw [yh]; rfl
        refine ⟨t, A, sz k, es, ht, hi, ea, ⟨by omega, by rw [ey]; rfl, by rw [yp], by rw [ey]; rfl, by rw [ey]; rfl, yo, ?_, hu.2.1, by omega, by omega, by omega, ?_, ?_⟩⟩
        · refine .inr ⟨⟨by omega, by rw [ey]; show (A : Int) < b.o.n; omega, by rw [e9, yo]; omega⟩, .inl ⟨k, hk4, by rw [e8, yp]; exact b2, rfl⟩⟩
        · obtain rfl | rfl | rfl | rfl : k = 0 ∨ k = 1 ∨ k = 2 ∨ k = 3 := by omega
          all_goals simp [sz] at b3 ⊢; omega
        · have nf : ¬ FreeP (y.o.put A 0).f (A / 8) 0 := fun hf => by
            apply hf v (by omega) hv8
            show 0 < Book.upd y.o.f A 0 (A / 8 * 8 + v)
            rw [od]
            exact hv2
          obtain ⟨X, eX⟩ : ∃ X : Sx, X = ⟨none, (y.hd k).n + 1, 0, consF (y.hd k).f A⟩ := ⟨_, rfl⟩
          have hdd : ∀ j, j < 4 → (((y.seth k X).own A 0).hd j).n = (b.hd j).n := fun j hj => by
            show ((y.seth k X).hd j).n = _
            rw [hd_seth y _ hk4 hj]
            split
            · rename_i e
              subst e
              rw [eX]
              show (y.hd j).n + 1 = (b.hd j).n
              omega
            · rename_i e
              rw [ey]
              show ((b.seth k ((b.hd k).drop a)).hd j).n = _
              rw [hd_seth b _ hk4 hj, if_neg e]
          refine ⟨(y.seth k X).own A 0, .inr ⟨k, hk4, by rw [yp]; exact b2, .inl ⟨nf, X, by rw [eX], by rw [eX], rfl⟩⟩, by rw [ey]; rfl, by rw [ey]; rfl, by rw [ey]; rfl, by rw [ey]; rfl, ?_, fun u _ => ?_, fun q _ => by show y.p.f q = _; rw [yp], hdd⟩
          · show Book.upd y.o.f A 0 A = 0
            simp [Book.upd]
          · show Book.upd y.o.f A 0 u = _
            rw [od]
      · omega
      · have hp0 : b.p.f p = 0 := by simpa using g2 0 (by omega)
        have z := free0 hok (p := p) (by omega) hp0
        have z0 := z 0 (by omega)
        rw [Nat.add_zero] at z0
        have p8 : p * 8 / 8 = p := by omega
        have e8 : (((p * 8 : Nat) : Int) / 8).toNat = p := by omega
        have e9 : ((p * 8 : Nat) : Int).toNat = p * 8 := by omega
        have yp : y.p.f p = (k : Int) + 1 := by rw [ey]; show Book.upd _ _ _ _ = _; simp [Book.upd]
        have yo : y.o.f (p * 8) = (t : Int) + 1 := by rw [ey]; show Book.upd _ _ _ _ = _; simp [Book.upd]
        have yh : y.hd k = a.drop ao := by
          rw [ey]
          show ((b.pag p ((k : Int) + 1)).seth k (a.drop ao)).hd k = _
          rw [hd_seth _ _ hk4 hk4, if_pos rfl]
        have od : Book.upd y.o.f (p * 8) 0 = b.o.f := by
          rw [ey]
          exact upd2 b.o.f (p * 8) _ z0
        refine ⟨t, p * 8, sz k, es, ht, hi, by rw [ea]; omega, ⟨by omega, by rw [ey]; rfl, by rw [ey]; rfl, by rw [ey]; rfl, by rw [ey]; rfl, yo, ?_, hu.2.1, by omega, by omega, by omega, by omega, ?_⟩⟩
        · refine .inr ⟨⟨by omega, by rw [ey]; show ((p * 8 : Nat) : Int) < b.o.n; omega, by rw [e9, yo]; omega⟩, .inl ⟨k, hk4, by rw [e8]; exact yp, rfl⟩⟩
        · have ff : FreeP (y.o.put (p * 8) 0).f (p * 8 / 8) 0 := fun v _ hv => by
            rw [p8]
            show ¬ 0 < Book.upd y.o.f (p * 8) 0 (p * 8 + v)
            rw [od, z v hv]
            omega
          have kn : kept (consF (y.hd k).f ((p * 8 : Nat) : Int)) ((p * 8 / 8 : Nat) : Int) ((y.hd k).n + 1) = [] := kept_nil (fun j hj => by
            rw [p8]
            cases j with
            | zero => show ((p * 8 : Nat) : Int) / 8 = _; omega
            | succ j =>
              show (y.hd k).f j / 8 = _
              rw [yh] at hj ⊢
              have hj' : j < a.n - 1 := by
                have : j + 1 < (a.n - 1) + 1 := hj
                omega
              obtain ⟨hc1, hc2⟩ := hc
              have q := hc2 (j + 1) (by omega)
              show a.f (j + 1) / 8 = _
              rw [q]
              obtain rfl | rfl | rfl | rfl : k = 0 ∨ k = 1 ∨ k = 2 ∨ k = 3 := by omega
              all_goals simp [sz] at hc1 ⊢; omega)
          obtain ⟨X, eX⟩ : ∃ X : Sx, X = ⟨none, 0, 0, fun _ => 0⟩ := ⟨_, rfl⟩
          have hX : KepP (consF (y.hd k).f ((p * 8 : Nat) : Int)) ((p * 8 / 8 : Nat) : Int) ((y.hd k).n + 1) X := by
            unfold KepP
            rw [kn, eX]
            exact ⟨rfl, fun j hj => by cases hj⟩
          refine ⟨((y.pag (p * 8 / 8) 0).seth k X).own (p * 8) 0, .inr ⟨k, hk4, by rw [p8]; exact yp, .inr ⟨ff, X, hX, rfl⟩⟩, by rw [ey]; rfl, by rw [ey]; rfl, by rw [ey]; rfl, by rw [ey]; rfl, ?_, fun u _ => ?_, fun q _ => ?_, fun j hj => ?_⟩
          · show Book.upd y.o.f (p * 8) 0 (p * 8) = 0
            simp [Book.upd]
          · show Book.upd y.o.f (p * 8) 0 u = _
            rw [od]
          · show Book.upd y.p.f (p * 8 / 8) 0 q = b.p.f q
            rw [p8, ey]
            show Book.upd (Book.upd b.p.f p ((k : Int) + 1)) p 0 q = b.p.f q
            rw [upd2 b.p.f p _ hp0]
          · show (((y.pag (p * 8 / 8) 0).seth k X).hd j).n = _
            rw [hd_seth _ _ hk4 hj]
            split
            · rename_i e
              subst e
              rw [eX]
              show 0 = (b.hd j).n
              omega
            · rename_i e
              rw [ey]
              show (((b.pag p ((k : Int) + 1)).seth k (a.drop ao)).hd j).n = _
              rw [hd_seth _ _ hk4 hj, if_neg e]
              rfl
  all_goals omega

/- The rooms of a slot, as a list that is read. -/
theorem bofx (b : Bx) (t : Int) (w : World) (h : b.At w) (hn : b.total ≤ 1000000000) (hcap : b.o.n ≤ b.o.c) :
    Calls Tryd.prog 18 #[.agg b.cells.toArray, .int .i64 t] w fun e w' => (∃ (x : Sx) (L : List Int), e = .returned (.slice x.a x.n x.c) ∧ x.At w' ∧ x.n = L.length ∧ (∀ j, x.f j = L.getD j 0) ∧ OfL b t L) ∧ Below w.heap.size w w' :=
  (Book.of_any b t w h hn hcap).mono (by
    rintro e w' ⟨⟨v, L, rfl, hv, hL⟩, hb⟩
    obtain ⟨x, rfl, xm, xo⟩ := own_sx hv
    simp only [Sx.m, Prod.mk.injEq] at xm
    exact ⟨⟨x, L, rfl, xo.at, xm.1, fun j => congrFun xm.2 j, hL⟩, hb⟩)
/- Each of them is a room that somebody has. -/
theorem ofl_mem {b : Bx} {i : Nat} {L : List Int} (h : OfL b i L) {j : Nat} (hj : j < L.length) : OkP b ∧ ∃ u : Nat, L.getD j 0 = u ∧ u < b.o.n ∧ 0 < b.o.f u := by
  have hm : L.getD j 0 ∈ L := by
    rw [List.getD_eq_getElem?_getD, List.getElem?_eq_getElem hj]
    exact List.getElem_mem hj
  rcases h with ⟨k, ⟨_, e⟩ | ⟨_, e⟩⟩ | ⟨_, e⟩
  · rw [e] at hm
    have q := selL_mem hm
    refine ⟨k, (L.getD j 0).toNat, by rw [e]; omega, by rw [e]; omega, by rw [e]; omega⟩
  · rw [e] at hj; cases hj
  · rw [e] at hj; cases hj
/- Two rooms that somebody has lie apart. -/
theorem apart_at {b : Bx} (hok : OkP b) {A u : Nat} {r : Int} (hA : A < b.o.n) (hu : u < b.o.n) (oA : 0 < b.o.f A) (ou : 0 < b.o.f u) (ra : RoomR b A r) (hne : u ≠ A) :
    ((A : Int) < u → ¬ (u : Int) < A + r) ∧ ((u : Int) < A → ∀ r', RoomR b u r' → ¬ (A : Int) < u + r') := by
  have eA : ((A : Int)).toNat = A := by omega
  have eu : ((u : Int)).toNat = u := by omega
  refine ⟨fun hlt => ?_, fun hlt r' hr' => ?_⟩
  · have q := (room_lies hok (u := (A : Int)) (by omega) (by omega) (by rw [eA]; exact oA) ra).2.2.2 u hlt (by omega) (by rw [eu]; exact ou)
    omega
  · have q := (room_lies hok (u := (u : Int)) (by omega) (by omega) (by rw [eu]; exact ou) hr').2.2.2 A hlt (by omega) (by rw [eA]; exact oA)
    omega
theorem room_le {b : Bx} (hok : OkP b) {u r : Int} (h : RoomQ b u r) : 0 ≤ r ∧ r ≤ 32 := by
  rcases h with ⟨_, ⟨_, rfl⟩ | ⟨_, ⟨m, _, _, rfl⟩ | ⟨_, rfl⟩⟩⟩ | ⟨_, rfl⟩
  · omega
  · have := sz_pos m; omega
  · omega
  · omega
theorem give_do {y d : Bx} {t A : Nat} (ht : (t : Int) < y.s) (hi : y.i.f t ≠ 0) (hA : A < y.o.n) (ho : y.o.f A = (t : Int) + 1) (hb : BakP y A d) : DoP y ⟨3, t, A, 0⟩ d 0 0 := by
  have eA : ((A : Int)).toNat = A := by omega
  refine .inr ⟨t, rfl, ht, .inr ⟨by show ¬ ((3 : Int) = 1); decide, .inr ⟨hi, .inr (.inl ⟨rfl, .inr ⟨?_, A, rfl, hb, rfl, rfl⟩⟩)⟩⟩⟩
  exact .inr ⟨⟨by show (0 : Int) ≤ (A : Int); omega, by show (A : Int) < (y.o.n : Int); omega, by rw [eA, ho]; omega⟩, .inr ⟨by rw [eA, ho], rfl⟩⟩
theorem give_no {d : Bx} {t A : Nat} (ht : (t : Int) < d.s) (hi : d.i.f t ≠ 0) (ho : d.o.f A = 0) : DoP d ⟨3, t, A, 0⟩ d 3 0 := by
  have eA : ((A : Int)).toNat = A := by omega
  refine .inr ⟨t, rfl, ht, .inr ⟨by show ¬ ((3 : Int) = 1); decide, .inr ⟨hi, .inr (.inl ⟨rfl, .inl ⟨3, .inl ⟨.inr (.inr (by rw [eA]; exact ho)), rfl⟩, by decide, rfl, rfl, rfl⟩⟩)⟩⟩⟩

open Aid Lst Book Rin
open Gs (halt_at)
set_option maxHeartbeats 16000000 in
theorem law_bktake {adr : Nat → Addr} (a : Option Addr) (len cap : Nat) (zs : List Int) (w : World) (h : Draw.Row w a len cap zs) (hle : ¬ (1048576 : Int) < len) (he : Ea adr w) :
    Calls Tryd.prog 4 #[.slice a len cap] w fun e w' => e = .returned (.bool true) ∧ Below w.heap.size w w' := by
  have HEa : Hid (Ea adr w) := he
  clear he
  go_enter Tryd.func4, Tryd.ntmps4
  go_wp2_with (fail)
  refine (dbdo_any a len cap zs w h).mono ?_
  rintro e w1 ⟨b, o, rfl, ba, wf, tot, oc, hB⟩
  have HT0 : Hid (St w [] [b] w1) := ⟨fun p hp => by simp at hp, fun z hz => by
    obtain rfl := List.mem_singleton.1 hz
    exact ba, hB⟩
  have HWf : Hid b.Wf := wf
  have HTO : Hid (b.total ≤ 1001 ∧ b.o.n ≤ b.o.c) := ⟨tot, oc⟩
  obtain ⟨l1, l2, l3, l4, l5⟩ := laid2 HT0.out b o 26 28
  have HA1 : Hid (World.there _ w1.heap.size 0 _) := l1
  have HA2 : Hid (World.there _ (w1.heap.size + 1) 0 _) := l2
  have HCK : Hid (Ck _ (w1.heap.size + 1) o.cells) := l3
  have HRB : Hid (World.rangeAt _ w1.heap.size 0 b.cells) := l4
  have HBL : Hid (Below w1.heap.size w1 _) := l5
  clear l1 l2 l3 l4 l5 ba hB wf tot oc h hle
  go_wp2_with (with_reducible refine halt_at (.store 26 (.tmp 3) (.tmp 29)) rfl ?_)
  unfold Hid
  refine wpList_store_mid rfl 26 _ _ rfl (w1.heap.size) 0 b.cells.toArray rfl rfl HA1.out (by kernel_rfl) (cells_one _) ?_
  go_wp2_with (with_reducible refine halt_at (.store 28 (.tmp 4) (.tmp 30)) rfl ?_)
  unfold Hid
  refine wpList_store_mid rfl 28 _ _ rfl (w1.heap.size + 1) 0 o.cells.toArray rfl rfl HA2.out (by kernel_rfl) (ox_one _) ?_
  clear HA1 HA2
  generalize World.setCells _ _ _ _ = V0 at HCK HRB HBL ⊢
  obtain ⟨c0, c1⟩ := HCK.out 0 _ rfl
  obtain ⟨k1, k2, k3⟩ := kind_set 2 HCK.out HRB.out HBL.out
  have HK1 : Hid (Ck _ (w1.heap.size + 1) _) := k1
  have HK2 : Hid (World.rangeAt _ w1.heap.size 0 b.cells) := k2
  have HK3 : Hid (Below w1.heap.size w1 _) := k3
  clear k1 k2 k3 HCK HRB HBL
  go_wp2_with (with_reducible refine halt_at (.load 3 (.tmp 32)) rfl ?_)
  unfold Hid
  clear c0 c1
  generalize World.setCell _ _ _ = V1 at HK1 HK2 HK3 ⊢
  obtain ⟨c0, c1⟩ := HK1.out 2 _ rfl
  rename_i K1 k1 K0 k0
  have HKK : Hid (∀ (a : Act) (w : World), _ → K1 a w) := k1
  clear k1
  have TAIL : ∀ (v23 v24 v25 v26 v27 v28 v29 v30 v31 v32 v33 v34 v35 v36 : Value) (p : Ox) (V1 : World), p.k = 2 → St w [(w1.heap.size + 1, p.cells), (w1.heap.size, b.cells)] [b] V1 → K1 ⟨#[.slice a len cap, undef, .bool false, .pointer (some ⟨w1.heap.size, 0, none⟩), .pointer (some ⟨w1.heap.size + 1, 0, none⟩), undef, undef, undef, undef, undef, undef, undef, undef, undef, undef, undef, undef, undef, undef, undef, undef, undef, undef, v23, v24, v25, v26, v27, v28, v29, v30, v31, v32, v33, v34, v35, v36, undef, undef, undef, undef, undef, undef, undef, undef, undef, undef, undef, undef, undef, undef, undef, undef, undef, undef, undef, undef, undef, undef, undef, undef, undef, undef, undef, undef, undef, undef, undef, undef, undef, undef, undef, undef, undef, undef, undef, undef, undef, undef, undef, undef, undef, undef, undef, undef, undef, undef, undef, undef, undef, undef, undef, undef, undef, undef, undef, undef, undef, undef, undef, undef, undef, undef, undef, undef, undef, undef, undef, undef, undef, undef, undef, undef, undef, undef, undef, undef, undef, undef, undef, undef, undef, undef, undef, undef, undef, undef, undef, undef, undef, undef, undef, undef, undef, undef, undef, undef, undef, undef, undef, undef, undef, undef, undef, undef, undef, undef, undef, undef, undef, undef, undef, undef, undef, undef, undef, undef, undef, undef, undef, undef, undef, undef, undef, undef, undef, undef, undef, undef, undef, undef, undef, undef, undef, undef, undef, undef, undef, undef, undef, undef, undef, undef, undef, undef, undef, undef, undef, undef, undef, undef, undef, undef, undef, undef, undef, undef, undef, undef, undef, undef, undef, undef, undef, undef, undef, undef, undef, undef, undef, undef, undef, undef, undef, undef, undef, undef, undef, undef, undef, undef, undef, undef, undef, undef], []⟩ V1 := by
    intro v23 v24 v25 v26 v27 v28 v29 v30 v31 v32 v33 v34 v35 v36 p V1 pk ht1
    have HPK : Hid (p.k = 2) := pk
    have HT1 : Hid (St w [(w1.heap.size + 1, p.cells), (w1.heap.size, b.cells)] [b] V1) := ht1
    clear c0 c1 HK1 HK2 HK3 k0 K0 pk ht1
    refine HKK.out _ _ ?_
    clear HKK K1
    have HRB : Hid (World.rangeAt _ (w1.heap.size) 0 b.cells) := (HT1.out.r (w1.heap.size, b.cells) (by simp)).1
    have HRO : Hid (World.rangeAt _ (w1.heap.size + 1) 0 p.cells) := (HT1.out.r (w1.heap.size + 1, p.cells) (by simp)).1
    go_wp2_with (first
        | refine wpList_load_mid rfl 26 _ rfl (w1.heap.size) 0 rfl b.cells _ HRB.out Tryd.underlying26 rfl (by kernel_rfl) ?_
        | refine wpList_load_mid rfl 28 _ rfl (w1.heap.size + 1) 0 rfl p.cells _ HRO.out Tryd.underlying28 rfl (by kernel_rfl) ?_)
    refine (bookdo_any (a := adr) b p _ (HT1.out.a b (by simp)) (by have := HTO.out.1; omega) (at_nil (HT1.out.a b (by simp))) HTO.out.2 (HEa.out.later HT1.out.b)).mono ?_
    rintro e W2 ⟨x, c, m, rfl, hq, ho, hb⟩
    have HQ : Hid (BdQ b p x c m) := hq
    have HXC : Hid (x.o.n ≤ x.o.c) := ho.cap
    have HT2 : Hid (St w [(w1.heap.size + 1, p.cells), (w1.heap.size, b.cells)] [x, b] W2) := (HT1.out.later hb).book ho.at
    have HL2 : Hid (St w _ _ _) := laid HT2.out x 26
    have HTH : Hid (World.there _ W2.heap.size 0 _) := (mk_bk W2 26 x).1
    clear hq ho hb HRB HRO HT1
    go_wp2_with (with_reducible refine halt_at (.store 26 (.tmp 5) (.tmp 40)) rfl ?_)
    unfold Hid
    refine wpList_store_mid rfl 26 _ _ rfl (W2.heap.size) 0 x.cells.toArray rfl rfl HTH.out (by kernel_rfl) (cells_one _) ?_
    clear HTH HT2
    generalize World.setCells _ _ _ _ = V2 at HL2 ⊢
    have HT3 : Hid (St w [(W2.heap.size, x.cells), (w1.heap.size + 1, p.cells), (w1.heap.size, b.cells)] [x, b] V2) := HL2.out
    clear HL2
    have HRB : Hid (World.rangeAt _ (w1.heap.size) 0 b.cells) := (HT3.out.r (w1.heap.size, b.cells) (by simp)).1
    have HRO : Hid (World.rangeAt _ (w1.heap.size + 1) 0 p.cells) := (HT3.out.r (w1.heap.size + 1, p.cells) (by simp)).1
    go_wp2_with (first
        | refine wpList_load_mid rfl 26 _ rfl (w1.heap.size) 0 rfl b.cells _ HRB.out Tryd.underlying26 rfl (by kernel_rfl) ?_
        | refine wpList_load_mid rfl 28 _ rfl (w1.heap.size + 1) 0 rfl p.cells _ HRO.out Tryd.underlying28 rfl (by kernel_rfl) ?_)
    refine (sbookdo_any b p _ (HT3.out.a b (by simp)) (by have := HTO.out.1; omega) (at_nil (HT3.out.a b (by simp))) HWf.out).mono ?_
    rintro e W3 ⟨y, d, m', rfl, hs, hl, hb⟩
    obtain ⟨gm, e1, e2⟩ := met_sb HQ.out hs
    subst e1
    subst e2
    obtain ⟨x1, f1, f2, f3, f4, f5⟩ := as_ex gm
    have HS : Hid (SbQ b p y c m) := hs
    have HXM : Hid (x1.m = y.m) := f2
    have HX1 : Hid (x1.o.n ≤ x1.o.c) := (by show x1.o.n ≤ x1.o.c; rw [f4, f5]; exact HXC.out)
    have HTY : Hid (y.total ≤ 1000) := sb_total hs
    have HTX : Hid (x1.total ≤ 1000) := (by show x1.total ≤ 1000; rw [Book.total_m f2]; exact HTY.out)
    have g3 := HT3.out.later hb
    have HT4 : Hid (St w [(W2.heap.size, x1.cells), (w1.heap.size + 1, p.cells), (w1.heap.size, b.cells)] [y, x1, b] W3) := (St.book (⟨by rw [f1]; exact g3.r, fun z hz => by
      simp only [List.mem_cons, List.not_mem_nil, or_false] at hz
      rcases hz with rfl | rfl
      · exact f3 _ (g3.a x (by simp))
      · exact g3.a z (by simp), g3.b⟩ : St w [(W2.heap.size, x1.cells), (w1.heap.size + 1, p.cells), (w1.heap.size, b.cells)] [x1, b] W3) hl.at)
    have HL4 : Hid (St w _ _ _) := laid HT4.out y 26
    have HTH : Hid (World.there _ W3.heap.size 0 _) := (mk_bk W3 26 y).1
    clear gm hs hl hb f1 f2 f3 f4 f5 g3 HQ HXC HT3 HRB HRO
    go_wp2_with (with_reducible refine halt_at (.store 26 (.tmp 8) (.tmp 47)) rfl ?_)
    unfold Hid
    refine wpList_store_mid rfl 26 _ _ rfl (W3.heap.size) 0 y.cells.toArray rfl rfl HTH.out (by kernel_rfl) (cells_one _) ?_
    clear HTH HT4
    generalize World.setCells _ _ _ _ = V3 at HL4 ⊢
    have HT : Hid (St w [(W3.heap.size, y.cells), (W2.heap.size, x1.cells), (w1.heap.size + 1, p.cells), (w1.heap.size, b.cells)] [y, x1, b] V3) := HL4.out
    clear HL4
    by_cases hc : c = 0
    case neg =>
      go_wp2_with (fail)
      go_ret
      exact ⟨rfl, HT.out.b⟩
    subst hc
    obtain ⟨okb, d0, e0, hd⟩ : OkP b ∧ ∃ d0 : Bx, d0.m = b.m ∧ DoP d0 p y 0 m := by
      rcases HS.out with ⟨_, _, q, _⟩ | q
      · omega
      · exact q
    have ok0 : OkP d0 := (ok_m e0).2 okb
    have okY : OkP y := Book.do_ok ok0 hd
    obtain ⟨t, A, rr, es, ht, hi, em, tk⟩ := take_at ok0 HPK.out hd rfl
    subst em
    have e0' := e0
    simp only [Bx.m, Bm.mk.injEq, Sx.m, Prod.mk.injEq] at e0'
    obtain ⟨q0, ⟨q1, q2⟩, ⟨q3, q4⟩, ⟨q5, q6⟩, ⟨q7, q8⟩, ⟨q9, q10⟩, ⟨q11, q12⟩, ⟨q13, q14⟩, ⟨q15, q16⟩⟩ := e0'
    have xm' := HXM.out
    simp only [Bx.m, Bm.mk.injEq, Sx.m, Prod.mk.injEq] at xm'
    obtain ⟨w0, ⟨w1', w2⟩, ⟨w3, w4⟩, ⟨w5, w6⟩, ⟨w7, w8⟩, ⟨w9, w10⟩, ⟨w11, w12⟩, ⟨w13, w14⟩, ⟨w15, w16⟩⟩ := xm'
    have tkon := tk.on
    have tkpn := tk.pn
    have tks := tk.s
    have tki : y.i.f = d0.i.f := by rw [tk.i]
    obtain ⟨dd, d1, d2, d3, d4, d5, d6, d7, d8, d9⟩ := tk.back
    have d5' : dd.i.f = d0.i.f := by rw [d5]
    have HOKY : Hid (OkP y) := okY
    have HOKX : Hid (OkP x1) := (ok_m HXM.out).2 okY
    have HSA : Hid (p.s = t ∧ A < b.o.n ∧ b.o.n ≤ 1001) := ⟨es, by have := tk.a; omega, by have := HTO.out.1; unfold Bx.total at this; omega⟩
    have HXN : Hid (x1.o.n = b.o.n ∧ x1.p.n = b.p.n ∧ x1.s = b.s ∧ b.s ≤ 4 ∧ 1 ≤ b.s ∧ (b.o.n : Int) = b.p.n * 8) := (by
      have l := ok0.1.1
      unfold LensP at l
      refine ⟨?_, ?_, ?_, ?_, ?_, ?_⟩ <;> omega)
    have HXO : Hid (x1.o.f A = (t : Int) + 1) := (by show x1.o.f A = _; rw [w12]; exact tk.o)
    have HRX : Hid (RoomR x1 A rr) := (by
      rcases (roomq_m HXM.out A rr).2 (.inl ⟨okY, tk.room⟩) with ⟨_, q⟩ | ⟨q, _⟩
      · exact q
      · exact absurd HOKX.out q)
    have HRR : Hid (p.a ≤ rr ∧ (1 ≤ p.a ∧ p.a ≤ 32 ∧ 1 ≤ rr ∧ rr ≤ 32) ∧ (p.a ≤ 8 → rr < 2 * p.a) ∧ (8 < p.a → rr - p.a < 8) ∧ (A : Int) + rr ≤ x1.o.n) := ⟨tk.r0, tk.u0, tk.r8, tk.r9, by have := tk.fit; omega⟩
    have HG1 : Hid (DoP y ⟨3, t, A, 0⟩ dd 0 0) := give_do (by omega) (by rw [tki]; exact hi) (by have := tk.a; omega) tk.o d1
    have HG2 : Hid (DoP dd ⟨3, t, A, 0⟩ dd 3 0) := give_no (by omega) (by rw [d5']; exact hi) d6
    have HGD : Hid (dd.o.n = b.o.n ∧ dd.p.n = b.p.n ∧ (∀ u, u < b.o.n → dd.o.f u = b.o.f u) ∧ (∀ q, q < b.p.n → dd.p.f q = b.p.f q) ∧ ∀ k, k < 4 → (dd.hd k).n = (b.hd k).n) := ⟨by omega, by omega, fun u hu => by rw [d7 u (by omega), q12], fun q hq => by rw [d8 q (by omega), q2], fun k hk => by
      rw [d9 k hk]
      unfold Bx.hd
      repeat' split
      all_goals assumption⟩
    have HOD : Hid (OkP dd) := Book.do_ok okY HG1.out
    clear okb e0 hd ok0 okY es ht hi tk q0 q1 q2 q3 q4 q5 q6 q7 q8 q9 q10 q11 q12 q13 q14 q15 q16 w0 w1' w2 w3 w4 w5 w6 w7 w8 w9 w10 w11 w12 w13 w14 w15 w16 tkon tkpn tks tki d1 d2 d3 d4 d5 d5' d6 d7 d8 d9 d0 HS
    have HRX1 : Hid (World.rangeAt _ (W2.heap.size) 0 x1.cells) := (HT.out.r (W2.heap.size, x1.cells) (by simp)).1
    go_wp2_with (first
        | refine wpList_load_mid rfl 26 _ rfl (W2.heap.size) 0 rfl x1.cells _ HRX1.out Tryd.underlying26 rfl (by kernel_rfl) ?_)
    refine (room_any x1 A _ (HT.out.a x1 (by simp)) (Nat.le_trans HTX.out (by omega)) HX1.out).mono ?_
    rintro e W5 ⟨⟨r, rfl, hr⟩, hb⟩
    obtain rfl : rr = r := (roomq_one hr (.inl ⟨HOKX.out, HRX.out⟩)).symm
    replace HT : Hid (St w [(W3.heap.size, y.cells), (W2.heap.size, x1.cells), (w1.heap.size + 1, p.cells), (w1.heap.size, b.cells)] [y, x1, b] W5) := HT.out.later hb
    clear hr hb HRX1
    have kA : W5.cell? ⟨w1.heap.size + 1, 2, none⟩ = some (.int .i64 p.a) := (HT.out.r (w1.heap.size + 1, p.cells) (by simp)).1 2 _ rfl
    have kO : W5.cell? ⟨W2.heap.size, 6, none⟩ = some (.slice x1.o.a x1.o.n x1.o.c) := (HT.out.r (W2.heap.size, x1.cells) (by simp)).1 6 _ rfl
    have kX : W5.cell? ⟨W2.heap.size, 0, none⟩ = some (.int .i64 x1.s) := (HT.out.r (W2.heap.size, x1.cells) (by simp)).1 0 _ rfl
    obtain ⟨r1, r2, r3, r4, r5⟩ := HRR.out
    have r1' : ¬ rr < p.a := by omega
    have r5' : ¬ (A : Int) + rr > x1.o.n := by omega
    have aB : (A : Int) < 1002 := by have := HSA.out; omega
    have LOOPS : ∀ (_ : True), True := fun _ => trivial
    clear LOOPS
    have R14 : (p.a ≤ 8 ∧ rr < 2 * p.a) ∨ (8 < p.a ∧ rr - p.a < 8) := by omega
    rcases R14 with ⟨h8, h9⟩ | ⟨h8, h9⟩
    all_goals
      first
        | have h8' : ¬ (p.a > 8) := by omega
        | have h8' : ¬ (p.a ≤ 8) := by omega
      first
        | have h9' : ¬ (rr ≥ 2 * p.a) := by omega
        | have h9' : ¬ (rr - p.a ≥ 8) := by omega
      go_wp2_with (fail)
      clear kA kO kX r1 r2 r3 r4 r5 r1' r5' h8 h9 h8' h9'
      go_loopw [12] (fun v wr => ∃ i : Nat, (i : Int) ≤ b.s ∧ v = .int .i64 i ∧ St w [(W3.heap.size, y.cells), (W2.heap.size, x1.cells), (w1.heap.size + 1, p.cells), (w1.heap.size, b.cells)] [y, x1, b] wr) (fun v _ => (b.s - intOf v).toNat)
      case atStart => exact ⟨0, by have := HXN.out; omega, rfl, HT.out⟩
      case round =>
        clear HT
        obtain ⟨i, hi, rfl, htw⟩ := hrel
        have HTW : Hid (St w [(W3.heap.size, y.cells), (W2.heap.size, x1.cells), (w1.heap.size + 1, p.cells), (w1.heap.size, b.cells)] [y, x1, b] wr) := htw
        have kX : wr.cell? ⟨W2.heap.size, 0, none⟩ = some (.int .i64 b.s) := by rw [← HXN.out.2.2.1]; exact (htw.r (W2.heap.size, x1.cells) (by simp)).1 0 _ rfl
        clear htw
        by_cases hlt : (i : Int) < b.s
        · have i4 : (i : Int) < 5 := by have := HXN.out; omega
          have HRX1 : Hid (World.rangeAt _ (W2.heap.size) 0 x1.cells) := (HTW.out.r (W2.heap.size, x1.cells) (by simp)).1
          go_wp2_with (first
              | refine wpList_load_mid rfl 26 _ rfl (W2.heap.size) 0 rfl x1.cells _ HRX1.out Tryd.underlying26 rfl (by kernel_rfl) ?_)
          refine (bofx x1 i _ (HTW.out.a x1 (by simp)) (Nat.le_trans HTX.out (by omega)) HX1.out).mono ?_
          rintro e W6 ⟨⟨lx, L, rfl, la, ln, lf, hL⟩, hb⟩
          have HT6 : Hid (St w [(W3.heap.size, y.cells), (W2.heap.size, x1.cells), (w1.heap.size + 1, p.cells), (w1.heap.size, b.cells)] [y, x1, b] W6) := HTW.out.later hb
          have HLA : Hid (lx.At W6) := la
          have HLL : Hid (lx.n = L.length ∧ (∀ j, lx.f j = L.getD j 0) ∧ OfL x1 i L) := ⟨ln, lf, hL⟩
          have ln48 : lx.n ≤ 1001 := by
            have q : L.length ≤ x1.o.n := by
              rcases hL with ⟨_, ⟨_, e⟩ | ⟨_, e⟩⟩ | ⟨_, e⟩
              · rw [e]; exact selL_len _ _ _
              · rw [e]; simp
              · rw [e]; simp
            have := HSA.out
            have := HXN.out
            omega
          clear hb la ln lf hL HRX1 HTW kX
          go_wp2_with (fail)
          go_loopw [14] (fun v wr => ∃ j : Nat, j ≤ lx.n ∧ v = .int .i64 j ∧ St w [(W3.heap.size, y.cells), (W2.heap.size, x1.cells), (w1.heap.size + 1, p.cells), (w1.heap.size, b.cells)] [y, x1, b] wr ∧ lx.At wr) (fun v _ => lx.n - (intOf v).toNat)
          case atStart => exact ⟨0, by omega, rfl, HT6.out, HLA.out⟩
          case round =>
            clear HT6 HLA
            obtain ⟨j, hj, rfl, htw, hla⟩ := hrel
            have HTW : Hid (St w [(W3.heap.size, y.cells), (W2.heap.size, x1.cells), (w1.heap.size + 1, p.cells), (w1.heap.size, b.cells)] [y, x1, b] wr) := htw
            have HLA : Hid (lx.At wr) := hla
            by_cases hlt2 : (j : Int) < lx.n
            · rcases hla with z0 | ⟨kl, ol, eal, gl⟩
              · omega
              obtain ⟨okx, u, eu, hu, ou⟩ := ofl_mem HLL.out.2.2 (j := j) (by have := HLL.out.1; omega)
              have gj := gl j (by omega)
              rw [HLL.out.2.1 j, eu] at gj
              have HGJ : Hid (wr.cell? ⟨kl, ol + j, none⟩ = some (.int .i64 u)) := gj
              have AP := fun hne => apart_at HOKX.out (by have := HXN.out; have := HSA.out; omega) hu (by rw [HXO.out]; omega) ou HRX.out hne
              have HAP : Hid (u ≠ A → _) := AP
              have uB : (u : Int) < 1002 := by have := HXN.out; have := HSA.out; omega
              have rB := HRR.out.2.1
              have HEL : Hid (lx.a = some ⟨kl, ol, none⟩) := eal
              clear AP gj gl okx eu hu ou htw hlt hi eal
              go_wp2_with (fail)
              by_cases huA : u = A
              · rw [huA] at HGJ
                refine wp_region_held_drew (S := Sb w wr [(W3.heap.size, y.cells), (W2.heap.size, x1.cells), (w1.heap.size + 1, p.cells), (w1.heap.size, b.cells)] [y, x1, b]) (by kernel_rfl) (Sb.refl HTW.out).drew (fun hS => ?_)
                generalize World.drew _ = Y0 at hS ⊢
                refine tI 0 (v := .slice lx.a lx.n lx.c) (d := some 120) rfl rfl (fun w' hw => ?_) hS ?_
                · clear hw; go_simp
                try simp only [Act.put, s1, s2, s3]
                refine tI 1 (v := .int .i64 j) (d := some 121) rfl rfl (fun w' hw => ?_) hS ?_
                · clear hw; go_simp
                try simp only [Act.put, s1, s2, s3]
                refine tI 2 (v := .pointer (some ⟨kl, ol + j, none⟩)) (d := some 122) rfl rfl (fun w' hw => ?_) hS ?_
                · clear hw; rw [HEL.out]; go_simp
                try simp only [Act.put, s1, s2, s3]
                refine tI 3 (v := .int .i64 A) (d := some 123) rfl rfl (fun w' hw => ?_) hS ?_
                · have q0 : w'.cell? ⟨kl, ol + j, none⟩ = some (.int .i64 A) := (hw.be.cell (p := ⟨kl, ol + j, none⟩) (World.block_lt_of_cell? _ _ HGJ.out)).trans HGJ.out; clear hw; go_simp
                try simp only [Act.put, s1, s2, s3]
                refine tI 4 (v := .int .i64 A) (d := some 124) rfl rfl (fun w' hw => ?_) hS ?_
                · clear hw; go_simp
                try simp only [Act.put, s1, s2, s3]
                refine tI 5 (v := .bool false) (d := some 125) rfl rfl (fun w' hw => ?_) hS ?_
                · clear hw; go_simp
                try simp only [Act.put, s1, s2, s3]
                refine tI 6 (v := .bool false) (d := some 126) rfl rfl (fun w' hw => ?_) hS ?_
                · clear hw; go_simp
                try simp only [Act.put, s1, s2, s3]
                refine tS 7 (d := some 127) rfl rfl hS ?_
                try simp only [Act.put, s1, s2, s3]
                refine tS 8 (d := some 128) rfl rfl hS ?_
                try simp only [Act.put, s1, s2, s3]
                refine tS 9 (d := some 129) rfl rfl hS ?_
                try simp only [Act.put, s1, s2, s3]
                refine tS 10 (d := some 130) rfl rfl hS ?_
                try simp only [Act.put, s1, s2, s3]
                refine tS 11 (d := some 131) rfl rfl hS ?_
                try simp only [Act.put, s1, s2, s3]
                refine tS 12 (d := some 132) rfl rfl hS ?_
                try simp only [Act.put, s1, s2, s3]
                refine tS 13 (d := some 133) rfl rfl hS ?_
                try simp only [Act.put, s1, s2, s3]
                refine tS 14 (d := some 134) rfl rfl hS ?_
                try simp only [Act.put, s1, s2, s3]
                refine tI 15 (v := .bool false) (d := some 135) rfl rfl (fun w' hw => ?_) hS ?_
                · clear hw; go_simp
                try simp only [Act.put, s1, s2, s3]
                refine tI 16 (v := .bool false) (d := some 136) rfl rfl (fun w' hw => ?_) hS ?_
                · clear hw; go_simp
                try simp only [Act.put, s1, s2, s3]
                refine tS 17 (d := some 137) rfl rfl hS ?_
                try simp only [Act.put, s1, s2, s3]
                refine tS 18 (d := some 138) rfl rfl hS ?_
                try simp only [Act.put, s1, s2, s3]
                refine tS 19 (d := some 139) rfl rfl hS ?_
                try simp only [Act.put, s1, s2, s3]
                refine tS 20 (d := some 140) rfl rfl hS ?_
                try simp only [Act.put, s1, s2, s3]
                refine tS 21 (d := some 141) rfl rfl hS ?_
                try simp only [Act.put, s1, s2, s3]
                refine tS 22 (d := some 142) rfl rfl hS ?_
                try simp only [Act.put, s1, s2, s3]
                refine tS 23 (d := some 143) rfl rfl hS ?_
                try simp only [Act.put, s1, s2, s3]
                refine tS 24 (d := some 144) rfl rfl hS ?_
                try simp only [Act.put, s1, s2, s3]
                refine tS 25 (d := some 145) rfl rfl hS ?_
                try simp only [Act.put, s1, s2, s3]
                refine tS 26 (d := some 146) rfl rfl hS ?_
                try simp only [Act.put, s1, s2, s3]
                refine tS 27 (d := some 147) rfl rfl hS ?_
                try simp only [Act.put, s1, s2, s3]
                refine tS 28 (d := some 148) rfl rfl hS ?_
                try simp only [Act.put, s1, s2, s3]
                refine tS 29 (d := some 149) rfl rfl hS ?_
                try simp only [Act.put, s1, s2, s3]
                refine tI 30 (v := .bool false) (d := some 150) rfl rfl (fun w' hw => ?_) hS ?_
                · clear hw; go_simp
                try simp only [Act.put, s1, s2, s3]
                refine wpAnyH_done (by kernel_rfl) ?_ _
                have HTV : Hid (St w [(W3.heap.size, y.cells), (W2.heap.size, x1.cells), (w1.heap.size + 1, p.cells), (w1.heap.size, b.cells)] [y, x1, b] Y0) := hS.st
                have HBV := hS.be
                clear hS
                have HLV : Hid (lx.At _) := HLA.out.later HBV
                clear HBV
                go_wp2_with (fail)
                go_roundw
                case rel => exact ⟨j + 1, by omega, by go_num, HTV.out, HLV.out⟩
                case measure => simp [intOf]; omega
              · have hne : ¬ ((u : Int) = (A : Int)) := by omega
                by_cases hlo : (u : Int) < A
                · have hl2 : (u : Int) < (A : Int) + rr := by omega
                  refine wp_region_held_drew (S := Sb w wr [(W3.heap.size, y.cells), (W2.heap.size, x1.cells), (w1.heap.size + 1, p.cells), (w1.heap.size, b.cells)] [y, x1, b]) (by kernel_rfl) (Sb.refl HTW.out).drew (fun hS => ?_)
                  generalize World.drew _ = Y0 at hS ⊢
                  refine tI 0 (v := .slice lx.a lx.n lx.c) (d := some 120) rfl rfl (fun w' hw => ?_) hS ?_
                  · clear hw; go_simp
                  try simp only [Act.put, s1, s2, s3]
                  refine tI 1 (v := .int .i64 j) (d := some 121) rfl rfl (fun w' hw => ?_) hS ?_
                  · clear hw; go_simp
                  try simp only [Act.put, s1, s2, s3]
                  refine tI 2 (v := .pointer (some ⟨kl, ol + j, none⟩)) (d := some 122) rfl rfl (fun w' hw => ?_) hS ?_
                  · clear hw; rw [HEL.out]; go_simp
                  try simp only [Act.put, s1, s2, s3]
                  refine tI 3 (v := .int .i64 u) (d := some 123) rfl rfl (fun w' hw => ?_) hS ?_
                  · have q0 : w'.cell? ⟨kl, ol + j, none⟩ = some (.int .i64 u) := (hw.be.cell (p := ⟨kl, ol + j, none⟩) (World.block_lt_of_cell? _ _ HGJ.out)).trans HGJ.out; clear hw; go_simp
                  try simp only [Act.put, s1, s2, s3]
                  refine tI 4 (v := .int .i64 A) (d := some 124) rfl rfl (fun w' hw => ?_) hS ?_
                  · clear hw; go_simp
                  try simp only [Act.put, s1, s2, s3]
                  refine tI 5 (v := .bool true) (d := some 125) rfl rfl (fun w' hw => ?_) hS ?_
                  · clear hw; go_simp
                  try simp only [Act.put, s1, s2, s3]
                  refine tI 6 (v := .bool true) (d := some 126) rfl rfl (fun w' hw => ?_) hS ?_
                  · clear hw; go_simp
                  try simp only [Act.put, s1, s2, s3]
                  refine tI 7 (v := .slice lx.a lx.n lx.c) (d := some 127) rfl rfl (fun w' hw => ?_) hS ?_
                  · clear hw; go_simp
                  try simp only [Act.put, s1, s2, s3]
                  refine tI 8 (v := .int .i64 j) (d := some 128) rfl rfl (fun w' hw => ?_) hS ?_
                  · clear hw; go_simp
                  try simp only [Act.put, s1, s2, s3]
                  refine tI 9 (v := .pointer (some ⟨kl, ol + j, none⟩)) (d := some 129) rfl rfl (fun w' hw => ?_) hS ?_
                  · clear hw; rw [HEL.out]; go_simp
                  try simp only [Act.put, s1, s2, s3]
                  refine tI 10 (v := .int .i64 u) (d := some 130) rfl rfl (fun w' hw => ?_) hS ?_
                  · have q0 : w'.cell? ⟨kl, ol + j, none⟩ = some (.int .i64 u) := (hw.be.cell (p := ⟨kl, ol + j, none⟩) (World.block_lt_of_cell? _ _ HGJ.out)).trans HGJ.out; clear hw; go_simp
                  try simp only [Act.put, s1, s2, s3]
                  refine tI 11 (v := .int .i64 A) (d := some 131) rfl rfl (fun w' hw => ?_) hS ?_
                  · clear hw; go_simp
                  try simp only [Act.put, s1, s2, s3]
                  refine tI 12 (v := .int .i64 rr) (d := some 132) rfl rfl (fun w' hw => ?_) hS ?_
                  · clear hw; go_simp
                  try simp only [Act.put, s1, s2, s3]
                  refine tI 13 (v := .int .i64 ((A : Int) + rr)) (d := some 133) rfl rfl (fun w' hw => ?_) hS ?_
                  · clear hw; go_simp <;> (rw [IntKind.wrap_i64]; omega)
                  try simp only [Act.put, s1, s2, s3]
                  refine tI 14 (v := .bool true) (d := some 134) rfl rfl (fun w' hw => ?_) hS ?_
                  · clear hw; go_simp
                  try simp only [Act.put, s1, s2, s3]
                  refine tI 15 (v := .bool true) (d := some 135) rfl rfl (fun w' hw => ?_) hS ?_
                  · clear hw; go_simp
                  try simp only [Act.put, s1, s2, s3]
                  refine tI 16 (v := .bool true) (d := some 136) rfl rfl (fun w' hw => ?_) hS ?_
                  · clear hw; go_simp
                  try simp only [Act.put, s1, s2, s3]
                  refine tI 17 (v := .int .i64 A) (d := some 137) rfl rfl (fun w' hw => ?_) hS ?_
                  · clear hw; go_simp
                  try simp only [Act.put, s1, s2, s3]
                  refine tI 18 (v := .slice lx.a lx.n lx.c) (d := some 138) rfl rfl (fun w' hw => ?_) hS ?_
                  · clear hw; go_simp
                  try simp only [Act.put, s1, s2, s3]
                  refine tI 19 (v := .int .i64 j) (d := some 139) rfl rfl (fun w' hw => ?_) hS ?_
                  · clear hw; go_simp
                  try simp only [Act.put, s1, s2, s3]
                  refine tI 20 (v := .pointer (some ⟨kl, ol + j, none⟩)) (d := some 140) rfl rfl (fun w' hw => ?_) hS ?_
                  · clear hw; rw [HEL.out]; go_simp
                  try simp only [Act.put, s1, s2, s3]
                  refine tI 21 (v := .int .i64 u) (d := some 141) rfl rfl (fun w' hw => ?_) hS ?_
                  · have q0 : w'.cell? ⟨kl, ol + j, none⟩ = some (.int .i64 u) := (hw.be.cell (p := ⟨kl, ol + j, none⟩) (World.block_lt_of_cell? _ _ HGJ.out)).trans HGJ.out; clear hw; go_simp
                  try simp only [Act.put, s1, s2, s3]
                  refine tB 22 (v := .agg x1.cells.toArray) (d := some 142) rfl rfl (yieldsIf_load_mid (by rfl) 26 _ rfl (W2.heap.size) 0 rfl x1.cells _ (fun w' hw => (hw.r (W2.heap.size, x1.cells) (by simp)).1) Tryd.underlying26 rfl (by kernel_rfl)) hS ?_
                  try simp only [Act.put, s1, s2, s3]
                  refine tI 23 (v := .slice lx.a lx.n lx.c) (d := some 143) rfl rfl (fun w' hw => ?_) hS ?_
                  · clear hw; go_simp
                  try simp only [Act.put, s1, s2, s3]
                  refine tI 24 (v := .int .i64 j) (d := some 144) rfl rfl (fun w' hw => ?_) hS ?_
                  · clear hw; go_simp
                  try simp only [Act.put, s1, s2, s3]
                  refine tI 25 (v := .pointer (some ⟨kl, ol + j, none⟩)) (d := some 145) rfl rfl (fun w' hw => ?_) hS ?_
                  · clear hw; rw [HEL.out]; go_simp
                  try simp only [Act.put, s1, s2, s3]
                  refine tI 26 (v := .int .i64 u) (d := some 146) rfl rfl (fun w' hw => ?_) hS ?_
                  · have q0 : w'.cell? ⟨kl, ol + j, none⟩ = some (.int .i64 u) := (hw.be.cell (p := ⟨kl, ol + j, none⟩) (World.block_lt_of_cell? _ _ HGJ.out)).trans HGJ.out; clear hw; go_simp
                  try simp only [Act.put, s1, s2, s3]
                  refine r1 27 rfl (fun K hK => ?_)
                  have HI0 : Hid (Sb w wr [(W3.heap.size, y.cells), (W2.heap.size, x1.cells), (w1.heap.size + 1, p.cells), (w1.heap.size, b.cells)] [y, x1, b] Y0) := hS
                  clear hS
                  go_simp
                  refine (room_any x1 u _ (HI0.out.a x1 (by simp)) (Nat.le_trans HTX.out (by omega)) HX1.out).mono ?_
                  rintro e Y1 ⟨⟨r', rfl, hr'⟩, hb⟩
                  have hx : ¬ ((A : Int) < u + r') := by
                    rcases hr' with ⟨_, q⟩ | ⟨q, _⟩
                    · exact Int.not_lt.2 ((HAP.out huA).2 hlo r' q)
                    · exact absurd HOKX.out q
                  have r'B : 0 ≤ r' ∧ r' ≤ 32 := room_le HOKX.out hr'
                  clear hr'
                  have HI1 : Hid (Sb w wr [(W3.heap.size, y.cells), (W2.heap.size, x1.cells), (w1.heap.size + 1, p.cells), (w1.heap.size, b.cells)] [y, x1, b] Y1) := HI0.out.later hb
                  clear hb HI0
                  go_wp2_with (fail)
                  refine hK.out _ _ HI1.out (fun hS => ?_)
                  clear hK K
                  try simp only [Act.put, s1, s2, s3]
                  refine tI 28 (v := .int .i64 ((u : Int) + r')) (d := some 148) rfl rfl (fun w' hw => ?_) hS ?_
                  · clear hw; go_simp <;> (rw [IntKind.wrap_i64]; omega)
                  try simp only [Act.put, s1, s2, s3]
                  refine tI 29 (v := .bool false) (d := some 149) rfl rfl (fun w' hw => ?_) hS ?_
                  · clear hw; go_simp
                  try simp only [Act.put, s1, s2, s3]
                  refine tI 30 (v := .bool false) (d := some 150) rfl rfl (fun w' hw => ?_) hS ?_
                  · clear hw; go_simp
                  try simp only [Act.put, s1, s2, s3]
                  refine wpAnyH_done (by kernel_rfl) ?_ _
                  have HTV : Hid (St w [(W3.heap.size, y.cells), (W2.heap.size, x1.cells), (w1.heap.size + 1, p.cells), (w1.heap.size, b.cells)] [y, x1, b] Y1) := hS.st
                  have HBV := hS.be
                  clear hS
                  have HLV : Hid (lx.At _) := HLA.out.later HBV
                  clear HBV
                  go_wp2_with (fail)
                  go_roundw
                  case rel => exact ⟨j + 1, by omega, by go_num, HTV.out, HLV.out⟩
                  case measure => simp [intOf]; omega
                · have hl2 : ¬ ((u : Int) < (A : Int) + rr) := Int.not_lt.2 ((HAP.out huA).1 (by omega))
                  refine wp_region_held_drew (S := Sb w wr [(W3.heap.size, y.cells), (W2.heap.size, x1.cells), (w1.heap.size + 1, p.cells), (w1.heap.size, b.cells)] [y, x1, b]) (by kernel_rfl) (Sb.refl HTW.out).drew (fun hS => ?_)
                  generalize World.drew _ = Y0 at hS ⊢
                  refine tI 0 (v := .slice lx.a lx.n lx.c) (d := some 120) rfl rfl (fun w' hw => ?_) hS ?_
                  · clear hw; go_simp
                  try simp only [Act.put, s1, s2, s3]
                  refine tI 1 (v := .int .i64 j) (d := some 121) rfl rfl (fun w' hw => ?_) hS ?_
                  · clear hw; go_simp
                  try simp only [Act.put, s1, s2, s3]
                  refine tI 2 (v := .pointer (some ⟨kl, ol + j, none⟩)) (d := some 122) rfl rfl (fun w' hw => ?_) hS ?_
                  · clear hw; rw [HEL.out]; go_simp
                  try simp only [Act.put, s1, s2, s3]
                  refine tI 3 (v := .int .i64 u) (d := some 123) rfl rfl (fun w' hw => ?_) hS ?_
                  · have q0 : w'.cell? ⟨kl, ol + j, none⟩ = some (.int .i64 u) := (hw.be.cell (p := ⟨kl, ol + j, none⟩) (World.block_lt_of_cell? _ _ HGJ.out)).trans HGJ.out; clear hw; go_simp
                  try simp only [Act.put, s1, s2, s3]
                  refine tI 4 (v := .int .i64 A) (d := some 124) rfl rfl (fun w' hw => ?_) hS ?_
                  · clear hw; go_simp
                  try simp only [Act.put, s1, s2, s3]
                  refine tI 5 (v := .bool true) (d := some 125) rfl rfl (fun w' hw => ?_) hS ?_
                  · clear hw; go_simp
                  try simp only [Act.put, s1, s2, s3]
                  refine tI 6 (v := .bool true) (d := some 126) rfl rfl (fun w' hw => ?_) hS ?_
                  · clear hw; go_simp
                  try simp only [Act.put, s1, s2, s3]
                  refine tI 7 (v := .slice lx.a lx.n lx.c) (d := some 127) rfl rfl (fun w' hw => ?_) hS ?_
                  · clear hw; go_simp
                  try simp only [Act.put, s1, s2, s3]
                  refine tI 8 (v := .int .i64 j) (d := some 128) rfl rfl (fun w' hw => ?_) hS ?_
                  · clear hw; go_simp
                  try simp only [Act.put, s1, s2, s3]
                  refine tI 9 (v := .pointer (some ⟨kl, ol + j, none⟩)) (d := some 129) rfl rfl (fun w' hw => ?_) hS ?_
                  · clear hw; rw [HEL.out]; go_simp
                  try simp only [Act.put, s1, s2, s3]
                  refine tI 10 (v := .int .i64 u) (d := some 130) rfl rfl (fun w' hw => ?_) hS ?_
                  · have q0 : w'.cell? ⟨kl, ol + j, none⟩ = some (.int .i64 u) := (hw.be.cell (p := ⟨kl, ol + j, none⟩) (World.block_lt_of_cell? _ _ HGJ.out)).trans HGJ.out; clear hw; go_simp
                  try simp only [Act.put, s1, s2, s3]
                  refine tI 11 (v := .int .i64 A) (d := some 131) rfl rfl (fun w' hw => ?_) hS ?_
                  · clear hw; go_simp
                  try simp only [Act.put, s1, s2, s3]
                  refine tI 12 (v := .int .i64 rr) (d := some 132) rfl rfl (fun w' hw => ?_) hS ?_
                  · clear hw; go_simp
                  try simp only [Act.put, s1, s2, s3]
                  refine tI 13 (v := .int .i64 ((A : Int) + rr)) (d := some 133) rfl rfl (fun w' hw => ?_) hS ?_
                  · clear hw; go_simp <;> (rw [IntKind.wrap_i64]; omega)
                  try simp only [Act.put, s1, s2, s3]
                  refine tI 14 (v := .bool false) (d := some 134) rfl rfl (fun w' hw => ?_) hS ?_
                  · clear hw; go_simp
                  try simp only [Act.put, s1, s2, s3]
                  refine tI 15 (v := .bool false) (d := some 135) rfl rfl (fun w' hw => ?_) hS ?_
                  · clear hw; go_simp
                  try simp only [Act.put, s1, s2, s3]
                  refine tI 16 (v := .bool false) (d := some 136) rfl rfl (fun w' hw => ?_) hS ?_
                  · clear hw; go_simp
                  try simp only [Act.put, s1, s2, s3]
                  refine tS 17 (d := some 137) rfl rfl hS ?_
                  try simp only [Act.put, s1, s2, s3]
                  refine tS 18 (d := some 138) rfl rfl hS ?_
                  try simp only [Act.put, s1, s2, s3]
                  refine tS 19 (d := some 139) rfl rfl hS ?_
                  try simp only [Act.put, s1, s2, s3]
                  refine tS 20 (d := some 140) rfl rfl hS ?_
                  try simp only [Act.put, s1, s2, s3]
                  refine tS 21 (d := some 141) rfl rfl hS ?_
                  try simp only [Act.put, s1, s2, s3]
                  refine tS 22 (d := some 142) rfl rfl hS ?_
                  try simp only [Act.put, s1, s2, s3]
                  refine tS 23 (d := some 143) rfl rfl hS ?_
                  try simp only [Act.put, s1, s2, s3]
                  refine tS 24 (d := some 144) rfl rfl hS ?_
                  try simp only [Act.put, s1, s2, s3]
                  refine tS 25 (d := some 145) rfl rfl hS ?_
                  try simp only [Act.put, s1, s2, s3]
                  refine tS 26 (d := some 146) rfl rfl hS ?_
                  try simp only [Act.put, s1, s2, s3]
                  refine tS 27 (d := some 147) rfl rfl hS ?_
                  try simp only [Act.put, s1, s2, s3]
                  refine tS 28 (d := some 148) rfl rfl hS ?_
                  try simp only [Act.put, s1, s2, s3]
                  refine tS 29 (d := some 149) rfl rfl hS ?_
                  try simp only [Act.put, s1, s2, s3]
                  refine tI 30 (v := .bool false) (d := some 150) rfl rfl (fun w' hw => ?_) hS ?_
                  · clear hw; go_simp
                  try simp only [Act.put, s1, s2, s3]
                  refine wpAnyH_done (by kernel_rfl) ?_ _
                  have HTV : Hid (St w [(W3.heap.size, y.cells), (W2.heap.size, x1.cells), (w1.heap.size + 1, p.cells), (w1.heap.size, b.cells)] [y, x1, b] Y0) := hS.st
                  have HBV := hS.be
                  clear hS
                  have HLV : Hid (lx.At _) := HLA.out.later HBV
                  clear HBV
                  go_wp2_with (fail)
                  go_roundw
                  case rel => exact ⟨j + 1, by omega, by go_num, HTV.out, HLV.out⟩
                  case measure => simp [intOf]; omega
            · have hx : ¬ ((j : Int) < lx.n) := hlt2
              go_wp2_with (fail)
              go_roundw
              case rel => exact ⟨i + 1, by omega, by go_num, HTW.out⟩
              case measure => simp [intOf]; omega
        · have hx : ¬ ((i : Int) < b.s) := hlt
          have kS : wr.cell? ⟨w1.heap.size + 1, 1, none⟩ = some (.int .i64 t) := by rw [← HSA.out.1]; exact (HTW.out.r (w1.heap.size + 1, p.cells) (by simp)).1 1 _ rfl
          have HRX1 : Hid (World.rangeAt _ (W2.heap.size) 0 x1.cells) := (HTW.out.r (W2.heap.size, x1.cells) (by simp)).1
          go_wp2_with (first
              | refine wpList_load_mid rfl 26 _ rfl (W2.heap.size) 0 rfl x1.cells _ HRX1.out Tryd.underlying26 rfl (by kernel_rfl) ?_)
          refine (bookdo_any (a := adr) x1 ⟨3, t, A, 0⟩ _ (HTW.out.a x1 (by simp)) (Nat.le_trans HTX.out (by omega)) (at_nil (HTW.out.a x1 (by simp))) HX1.out (HEa.out.later HTW.out.b)).mono ?_
          rintro e W7 ⟨z, e', n', rfl, hq, ho, hb⟩
          obtain ⟨zm, e1, e2⟩ := met_all hq (.inr ⟨HOKX.out, y, HXM.out.symm, HG1.out⟩)
          subst e1
          subst e2
          obtain ⟨z1, f1, f2, f3, f4, f5⟩ := as_ex zm
          have HZM : Hid (z1.m = dd.m) := f2
          have HZC : Hid (z1.o.n ≤ z1.o.c) := (by show z1.o.n ≤ z1.o.c; rw [f4, f5]; exact ho.cap)
          have HOZ : Hid (OkP z1) := (ok_m f2).2 HOD.out
          have HTZ : Hid (z1.total ≤ 1000) := ok_total HOZ.out
          have HT7 : Hid (St w [(W3.heap.size, y.cells), (W2.heap.size, x1.cells), (w1.heap.size + 1, p.cells), (w1.heap.size, b.cells)] [z1, y, x1, b] W7) := (HTW.out.later hb).book (f3 _ ho.at)
          have HL7 : Hid (St w _ _ _) := laid HT7.out z1 26
          have HTH : Hid (World.there _ W7.heap.size 0 _) := (mk_bk W7 26 z1).1
          rw [← f1]
          clear hq ho hb zm f1 f2 f3 f4 f5 HRX1 kS hx hlt hi kX HTW
          go_wp2_with (with_reducible refine halt_at (.store 26 (.tmp 15) (.tmp 158)) rfl ?_)
          unfold Hid
          refine wpList_store_mid rfl 26 _ _ rfl (W7.heap.size) 0 z1.cells.toArray rfl rfl HTH.out (by kernel_rfl) (cells_one _) ?_
          clear HTH HT7
          generalize World.setCells _ _ _ _ = V7 at HL7 ⊢
          have HT8 : Hid (St w [(W7.heap.size, z1.cells), (W3.heap.size, y.cells), (W2.heap.size, x1.cells), (w1.heap.size + 1, p.cells), (w1.heap.size, b.cells)] [z1, y, x1, b] V7) := HL7.out
          clear HL7
          have kS : V7.cell? ⟨w1.heap.size + 1, 1, none⟩ = some (.int .i64 t) := by rw [← HSA.out.1]; exact (HT8.out.r (w1.heap.size + 1, p.cells) (by simp)).1 1 _ rfl
          have HRZ : Hid (World.rangeAt _ (W7.heap.size) 0 z1.cells) := (HT8.out.r (W7.heap.size, z1.cells) (by simp)).1
          go_wp2_with (first
              | refine wpList_load_mid rfl 26 _ rfl (W7.heap.size) 0 rfl z1.cells _ HRZ.out Tryd.underlying26 rfl (by kernel_rfl) ?_)
          refine (bookdo_any (a := adr) z1 ⟨3, t, A, 0⟩ _ (HT8.out.a z1 (by simp)) (Nat.le_trans HTZ.out (by omega)) (at_nil (HT8.out.a z1 (by simp))) HZC.out (HEa.out.later HT8.out.b)).mono ?_
          rintro e W8 ⟨q, e', n', rfl, hq, ho, hb⟩
          obtain ⟨_, e1, e2⟩ := met_all hq (.inr ⟨HOZ.out, dd, HZM.out.symm, HG2.out⟩)
          subst e1
          subst e2
          have HT9 : Hid (St w [(W7.heap.size, z1.cells), (W3.heap.size, y.cells), (W2.heap.size, x1.cells), (w1.heap.size + 1, p.cells), (w1.heap.size, b.cells)] [z1, y, x1, b] W8) := HT8.out.later hb
          have HL9 : Hid (St w _ _ _) := laid HT9.out q 26
          have HTH : Hid (World.there _ W8.heap.size 0 _) := (mk_bk W8 26 q).1
          clear hq ho hb HRZ kS HT8
          go_wp2_with (with_reducible refine halt_at (.store 26 (.tmp 18) (.tmp 168)) rfl ?_)
          unfold Hid
          refine wpList_store_mid rfl 26 _ _ rfl (W8.heap.size) 0 q.cells.toArray rfl rfl HTH.out (by kernel_rfl) (cells_one _) ?_
          clear HTH HT9
          generalize World.setCells _ _ _ _ = V8 at HL9 ⊢
          have HT9 : Hid (St w [(W8.heap.size, q.cells), (W7.heap.size, z1.cells), (W3.heap.size, y.cells), (W2.heap.size, x1.cells), (w1.heap.size + 1, p.cells), (w1.heap.size, b.cells)] [z1, y, x1, b] V8) := HL9.out
          clear HL9
          have HZF : Hid (z1.o.n = b.o.n ∧ z1.p.n = b.p.n ∧ (∀ u, u < b.o.n → z1.o.f u = b.o.f u) ∧ (∀ q, q < b.p.n → z1.p.f q = b.p.f q) ∧ ∀ k, k < 4 → (z1.hd k).n = (b.hd k).n) := (by
            have zm := HZM.out
            simp only [Bx.m, Bm.mk.injEq, Sx.m, Prod.mk.injEq] at zm
            obtain ⟨q0, ⟨q1, q2⟩, ⟨q3, q4⟩, ⟨q5, q6⟩, ⟨q7, q8⟩, ⟨q9, q10⟩, ⟨q11, q12⟩, ⟨q13, q14⟩, ⟨q15, q16⟩⟩ := zm
            obtain ⟨g1, g2, g3, g4, g5⟩ := HGD.out
            refine ⟨q11.trans g1, q1.trans g2, fun u hu => by rw [q12]; exact g3 u hu, fun q hq => by rw [q2]; exact g4 q hq, fun k hk => ?_⟩
            rw [← g5 k hk]
            unfold Bx.hd
            repeat' split
            all_goals assumption)
          go_wp2_with (fail)
          go_loopw [21] (fun v wr => ∃ u : Nat, u ≤ b.o.n ∧ v = .int .i64 u ∧ St w [(W8.heap.size, q.cells), (W7.heap.size, z1.cells), (W3.heap.size, y.cells), (W2.heap.size, x1.cells), (w1.heap.size + 1, p.cells), (w1.heap.size, b.cells)] [z1, y, x1, b] wr) (fun v _ => b.o.n - (intOf v).toNat)
          case atStart => exact ⟨0, by omega, rfl, HT9.out⟩
          case round =>
            clear HT9
            obtain ⟨u, hu, rfl, htw⟩ := hrel
            have HTW : Hid (St w [(W8.heap.size, q.cells), (W7.heap.size, z1.cells), (W3.heap.size, y.cells), (W2.heap.size, x1.cells), (w1.heap.size + 1, p.cells), (w1.heap.size, b.cells)] [z1, y, x1, b] wr) := htw
            have kO : wr.cell? ⟨w1.heap.size, 6, none⟩ = some (.slice b.o.a b.o.n b.o.c) := (htw.r (w1.heap.size, b.cells) (by simp)).1 6 _ rfl
            clear htw
            by_cases hlt : (u : Int) < b.o.n
            · rcases HTW.out.a b (by simp) b.o (by simp [Bx.lists]) with z0 | ⟨kb, ob, eab, gb⟩
              · omega
              rcases HTW.out.a b (by simp) b.p (by simp [Bx.lists]) with z0 | ⟨kc, oc, eac, gc⟩
              · have := HXN.out; omega
              rcases HTW.out.a z1 (by simp) z1.o (by simp [Bx.lists]) with z0 | ⟨kz, oz, eaz, gz⟩
              · have := HZF.out; omega
              rcases HTW.out.a z1 (by simp) z1.p (by simp [Bx.lists]) with z0 | ⟨kq, oq, eaq, gq⟩
              · have := HZF.out; have := HXN.out; omega
              have HE1 : Hid (b.o.a = some ⟨kb, ob, none⟩) := eab
              have HE2 : Hid (b.p.a = some ⟨kc, oc, none⟩) := eac
              have HE3 : Hid (z1.o.a = some ⟨kz, oz, none⟩ ∧ z1.o.n = b.o.n) := ⟨eaz, HZF.out.1⟩
              have HE4 : Hid (z1.p.a = some ⟨kq, oq, none⟩ ∧ z1.p.n = b.p.n) := ⟨eaq, HZF.out.2.1⟩
              have HG3 : Hid (wr.cell? ⟨kb, ob + u, none⟩ = some (.int .i64 (b.o.f u))) := gb u (by omega)
              have HG4 : Hid (wr.cell? ⟨kc, oc + u / 8, none⟩ = some (.int .i64 (b.p.f (u / 8)))) := gc (u / 8) (by have := HXN.out; omega)
              have HG5 : Hid (wr.cell? ⟨kz, oz + u, none⟩ = some (.int .i64 (b.o.f u))) := (by show _ = _; rw [← HZF.out.2.2.1 u (by omega)]; exact gz u (by have := HZF.out; omega))
              have HG6 : Hid (wr.cell? ⟨kq, oq + u / 8, none⟩ = some (.int .i64 (b.p.f (u / 8)))) := (by show _ = _; rw [← HZF.out.2.2.2.1 (u / 8) (by have := HXN.out; omega)]; exact gq (u / 8) (by have := HZF.out; have := HXN.out; omega))
              have u8 : ((u : Int) / 8) < b.p.n := by have := HXN.out; omega
              have uB : (u : Int) < 1002 := by have := HSA.out; omega
              clear eab eac eaz eaq gb gc gz gq
              go_wp2_with (fail)
              clear kO
              refine wp_region_held_drew (S := Sb w wr [(W8.heap.size, q.cells), (W7.heap.size, z1.cells), (W3.heap.size, y.cells), (W2.heap.size, x1.cells), (w1.heap.size + 1, p.cells), (w1.heap.size, b.cells)] [z1, y, x1, b]) (by kernel_rfl) (Sb.refl HTW.out).drew (fun hS => ?_)
              generalize World.drew _ = Y0 at hS ⊢
              refine tI 0 (v := .pointer (some ⟨W7.heap.size, 6, none⟩)) (d := some 184) rfl rfl (fun w' hw => ?_) hS ?_
              · clear hw; go_simp
              try simp only [Act.put, s1, s2, s3]
              refine tI 1 (v := .slice (some ⟨kz, oz, none⟩) b.o.n z1.o.c) (d := some 185) rfl rfl (fun w' hw => ?_) hS ?_
              · have q0 := (hw.r (W7.heap.size, z1.cells) (by simp)).1 6 _ rfl; rw [HE3.out.1] at q0; rw [HE3.out.2] at q0; clear hw; go_simp
              try simp only [Act.put, s1, s2, s3]
              refine tI 2 (v := .int .i64 u) (d := some 186) rfl rfl (fun w' hw => ?_) hS ?_
              · clear hw; go_simp
              try simp only [Act.put, s1, s2, s3]
              refine tI 3 (v := .pointer (some ⟨kz, oz + u, none⟩)) (d := some 187) rfl rfl (fun w' hw => ?_) hS ?_
              · clear hw; go_simp
              try simp only [Act.put, s1, s2, s3]
              refine tI 4 (v := .int .i64 (b.o.f u)) (d := some 188) rfl rfl (fun w' hw => ?_) hS ?_
              · have q0 : w'.cell? ⟨kz, oz + u, none⟩ = some (.int .i64 (b.o.f u)) := (hw.be.cell (p := ⟨kz, oz + u, none⟩) (World.block_lt_of_cell? _ _ HG5.out)).trans HG5.out; clear hw; go_simp
              try simp only [Act.put, s1, s2, s3]
              refine tI 5 (v := .pointer (some ⟨w1.heap.size, 6, none⟩)) (d := some 189) rfl rfl (fun w' hw => ?_) hS ?_
              · clear hw; go_simp
              try simp only [Act.put, s1, s2, s3]
              refine tI 6 (v := .slice (some ⟨kb, ob, none⟩) b.o.n b.o.c) (d := some 190) rfl rfl (fun w' hw => ?_) hS ?_
              · have q0 := (hw.r (w1.heap.size, b.cells) (by simp)).1 6 _ rfl; rw [HE1.out] at q0; clear hw; go_simp
              try simp only [Act.put, s1, s2, s3]
              refine tI 7 (v := .int .i64 u) (d := some 191) rfl rfl (fun w' hw => ?_) hS ?_
              · clear hw; go_simp
              try simp only [Act.put, s1, s2, s3]
              refine tI 8 (v := .pointer (some ⟨kb, ob + u, none⟩)) (d := some 192) rfl rfl (fun w' hw => ?_) hS ?_
              · clear hw; go_simp
              try simp only [Act.put, s1, s2, s3]
              refine tI 9 (v := .int .i64 (b.o.f u)) (d := some 193) rfl rfl (fun w' hw => ?_) hS ?_
              · have q0 : w'.cell? ⟨kb, ob + u, none⟩ = some (.int .i64 (b.o.f u)) := (hw.be.cell (p := ⟨kb, ob + u, none⟩) (World.block_lt_of_cell? _ _ HG3.out)).trans HG3.out; clear hw; go_simp
              try simp only [Act.put, s1, s2, s3]
              refine tI 10 (v := .bool false) (d := some 194) rfl rfl (fun w' hw => ?_) hS ?_
              · clear hw; go_simp
              try simp only [Act.put, s1, s2, s3]
              refine tI 11 (v := .bool false) (d := some 195) rfl rfl (fun w' hw => ?_) hS ?_
              · clear hw; go_simp
              try simp only [Act.put, s1, s2, s3]
              refine tI 12 (v := .pointer (some ⟨W7.heap.size, 1, none⟩)) (d := some 196) rfl rfl (fun w' hw => ?_) hS ?_
              · clear hw; go_simp
              try simp only [Act.put, s1, s2, s3]
              refine tI 13 (v := .slice (some ⟨kq, oq, none⟩) b.p.n z1.p.c) (d := some 197) rfl rfl (fun w' hw => ?_) hS ?_
              · have q0 := (hw.r (W7.heap.size, z1.cells) (by simp)).1 1 _ rfl; rw [HE4.out.1] at q0; rw [HE4.out.2] at q0; clear hw; go_simp
              try simp only [Act.put, s1, s2, s3]
              refine tI 14 (v := .int .i64 u) (d := some 198) rfl rfl (fun w' hw => ?_) hS ?_
              · clear hw; go_simp
              try simp only [Act.put, s1, s2, s3]
              refine tI 15 (v := .int .i64 ((u : Int) / 8)) (d := some 199) rfl rfl (fun w' hw => ?_) hS ?_
              · clear hw; go_simp <;> (rw [IntKind.wrap_i64]; omega)
              try simp only [Act.put, s1, s2, s3]
              refine tI 16 (v := .pointer (some ⟨kq, oq + u / 8, none⟩)) (d := some 200) rfl rfl (fun w' hw => ?_) hS ?_
              · clear hw; have h0 : (0 : Int) ≤ (u : Int) / 8 := by omega
                have ht : ((u : Int) / 8).toNat = u / 8 := by omega
                go_simp <;> simp [h0, ht]
              try simp only [Act.put, s1, s2, s3]
              refine tI 17 (v := .int .i64 (b.p.f (u / 8))) (d := some 201) rfl rfl (fun w' hw => ?_) hS ?_
              · have q0 : w'.cell? ⟨kq, oq + u / 8, none⟩ = some (.int .i64 (b.p.f (u / 8))) := (hw.be.cell (p := ⟨kq, oq + u / 8, none⟩) (World.block_lt_of_cell? _ _ HG6.out)).trans HG6.out; clear hw; go_simp
              try simp only [Act.put, s1, s2, s3]
              refine tI 18 (v := .pointer (some ⟨w1.heap.size, 1, none⟩)) (d := some 202) rfl rfl (fun w' hw => ?_) hS ?_
              · clear hw; go_simp
              try simp only [Act.put, s1, s2, s3]
              refine tI 19 (v := .slice (some ⟨kc, oc, none⟩) b.p.n b.p.c) (d := some 203) rfl rfl (fun w' hw => ?_) hS ?_
              · have q0 := (hw.r (w1.heap.size, b.cells) (by simp)).1 1 _ rfl; rw [HE2.out] at q0; clear hw; go_simp
              try simp only [Act.put, s1, s2, s3]
              refine tI 20 (v := .int .i64 u) (d := some 204) rfl rfl (fun w' hw => ?_) hS ?_
              · clear hw; go_simp
              try simp only [Act.put, s1, s2, s3]
              refine tI 21 (v := .int .i64 ((u : Int) / 8)) (d := some 205) rfl rfl (fun w' hw => ?_) hS ?_
              · clear hw; go_simp <;> (rw [IntKind.wrap_i64]; omega)
              try simp only [Act.put, s1, s2, s3]
              refine tI 22 (v := .pointer (some ⟨kc, oc + u / 8, none⟩)) (d := some 206) rfl rfl (fun w' hw => ?_) hS ?_
              · clear hw; have h0 : (0 : Int) ≤ (u : Int) / 8 := by omega
                have ht : ((u : Int) / 8).toNat = u / 8 := by omega
                go_simp <;> simp [h0, ht]
              try simp only [Act.put, s1, s2, s3]
              refine tI 23 (v := .int .i64 (b.p.f (u / 8))) (d := some 207) rfl rfl (fun w' hw => ?_) hS ?_
              · have q0 : w'.cell? ⟨kc, oc + u / 8, none⟩ = some (.int .i64 (b.p.f (u / 8))) := (hw.be.cell (p := ⟨kc, oc + u / 8, none⟩) (World.block_lt_of_cell? _ _ HG4.out)).trans HG4.out; clear hw; go_simp
              try simp only [Act.put, s1, s2, s3]
              refine tI 24 (v := .bool false) (d := some 208) rfl rfl (fun w' hw => ?_) hS ?_
              · clear hw; go_simp
              try simp only [Act.put, s1, s2, s3]
              refine tI 25 (v := .bool false) (d := some 209) rfl rfl (fun w' hw => ?_) hS ?_
              · clear hw; go_simp
              try simp only [Act.put, s1, s2, s3]
              refine wpAnyH_done (by kernel_rfl) ?_ _
              have HTV : Hid (St w [(W8.heap.size, q.cells), (W7.heap.size, z1.cells), (W3.heap.size, y.cells), (W2.heap.size, x1.cells), (w1.heap.size + 1, p.cells), (w1.heap.size, b.cells)] [z1, y, x1, b] Y0) := hS.st
              clear hS
              clear u8
              go_wp2_with (fail)
              go_roundw
              case rel => exact ⟨u + 1, by omega, by go_num, HTV.out⟩
              case measure => simp [intOf]; omega
            · have hx : ¬ ((u : Int) < b.o.n) := hlt
              go_wp2_with (fail)
              clear kO hx hlt hu
              go_loopw [22] (fun v wr => ∃ k : Nat, k ≤ 4 ∧ v = .int .i64 k ∧ St w [(W8.heap.size, q.cells), (W7.heap.size, z1.cells), (W3.heap.size, y.cells), (W2.heap.size, x1.cells), (w1.heap.size + 1, p.cells), (w1.heap.size, b.cells)] [z1, y, x1, b] wr) (fun v _ => 4 - (intOf v).toNat)
              case atStart => exact ⟨0, by omega, rfl, HTW.out⟩
              case round =>
                clear HTW
                obtain ⟨k, hk, rfl, htw⟩ := hrel
                have HTW : Hid (St w [(W8.heap.size, q.cells), (W7.heap.size, z1.cells), (W3.heap.size, y.cells), (W2.heap.size, x1.cells), (w1.heap.size + 1, p.cells), (w1.heap.size, b.cells)] [z1, y, x1, b] wr) := htw
                clear htw
                by_cases hlt : (k : Int) < 4
                · have k4 : k < 4 := by omega
                  obtain rfl | rfl | rfl | rfl : k = 0 ∨ k = 1 ∨ k = 2 ∨ k = 3 := by omega
                  · have HH : Hid (z1.h0.n = b.h0.n) := HZF.out.2.2.2.2 0 (by omega)
                    go_wp2_with (fail)
                    refine wp_region_held_drew (S := Sb w wr [(W8.heap.size, q.cells), (W7.heap.size, z1.cells), (W3.heap.size, y.cells), (W2.heap.size, x1.cells), (w1.heap.size + 1, p.cells), (w1.heap.size, b.cells)] [z1, y, x1, b]) (by kernel_rfl) (Sb.refl HTW.out).drew (fun hS => ?_)
                    generalize World.drew _ = Y0 at hS ⊢
                    refine tI 0 (v := .int .i64 0) (d := some 214) rfl rfl (fun w' hw => ?_) hS ?_
                    · clear hw; go_simp
                    try simp only [Act.put, s1, s2, s3]
                    refine tI 1 (v := .pointer (some ⟨W7.heap.size, 2, none⟩)) (d := some 215) rfl rfl (fun w' hw => ?_) hS ?_
                    · clear hw; go_simp
                    try simp only [Act.put, s1, s2, s3]
                    refine tI 2 (v := .pointer (some ⟨W7.heap.size, 2, none⟩)) (d := some 216) rfl rfl (fun w' hw => ?_) hS ?_
                    · clear hw; go_simp
                    try simp only [Act.put, s1, s2, s3]
                    refine tI 3 (v := .slice z1.h0.a b.h0.n z1.h0.c) (d := some 217) rfl rfl (fun w' hw => ?_) hS ?_
                    · have q0 := (hw.r (W7.heap.size, z1.cells) (by simp)).1 2 _ rfl; rw [HH.out] at q0; clear hw; go_simp
                    try simp only [Act.put, s1, s2, s3]
                    refine tI 4 (v := .int .i64 b.h0.n) (d := some 218) rfl rfl (fun w' hw => ?_) hS ?_
                    · clear hw; go_simp
                    try simp only [Act.put, s1, s2, s3]
                    refine tI 5 (v := .int .i64 0) (d := some 219) rfl rfl (fun w' hw => ?_) hS ?_
                    · clear hw; go_simp
                    try simp only [Act.put, s1, s2, s3]
                    refine tI 6 (v := .pointer (some ⟨w1.heap.size, 2, none⟩)) (d := some 220) rfl rfl (fun w' hw => ?_) hS ?_
                    · clear hw; go_simp
                    try simp only [Act.put, s1, s2, s3]
                    refine tI 7 (v := .pointer (some ⟨w1.heap.size, 2, none⟩)) (d := some 221) rfl rfl (fun w' hw => ?_) hS ?_
                    · clear hw; go_simp
                    try simp only [Act.put, s1, s2, s3]
                    refine tI 8 (v := .slice b.h0.a b.h0.n b.h0.c) (d := some 222) rfl rfl (fun w' hw => ?_) hS ?_
                    · have q0 := (hw.r (w1.heap.size, b.cells) (by simp)).1 2 _ rfl; clear hw; go_simp
                    try simp only [Act.put, s1, s2, s3]
                    refine tI 9 (v := .int .i64 b.h0.n) (d := some 223) rfl rfl (fun w' hw => ?_) hS ?_
                    · clear hw; go_simp
                    try simp only [Act.put, s1, s2, s3]
                    refine tI 10 (v := .bool false) (d := some 224) rfl rfl (fun w' hw => ?_) hS ?_
                    · clear hw; go_simp
                    try simp only [Act.put, s1, s2, s3]
                    refine wpAnyH_done (by kernel_rfl) ?_ _
                    have HTV : Hid (St w [(W8.heap.size, q.cells), (W7.heap.size, z1.cells), (W3.heap.size, y.cells), (W2.heap.size, x1.cells), (w1.heap.size + 1, p.cells), (w1.heap.size, b.cells)] [z1, y, x1, b] Y0) := hS.st
                    clear hS
                    clear HH
                    go_wp2_with (fail)
                    go_roundw
                    case rel => exact ⟨1, by omega, by go_num, HTV.out⟩
                    case measure => simp [intOf]
                  · have HH : Hid (z1.h1.n = b.h1.n) := HZF.out.2.2.2.2 1 (by omega)
                    go_wp2_with (fail)
                    refine wp_region_held_drew (S := Sb w wr [(W8.heap.size, q.cells), (W7.heap.size, z1.cells), (W3.heap.size, y.cells), (W2.heap.size, x1.cells), (w1.heap.size + 1, p.cells), (w1.heap.size, b.cells)] [z1, y, x1, b]) (by kernel_rfl) (Sb.refl HTW.out).drew (fun hS => ?_)
                    generalize World.drew _ = Y0 at hS ⊢
                    refine tI 0 (v := .int .i64 1) (d := some 214) rfl rfl (fun w' hw => ?_) hS ?_
                    · clear hw; go_simp
                    try simp only [Act.put, s1, s2, s3]
                    refine tI 1 (v := .pointer (some ⟨W7.heap.size, 2, none⟩)) (d := some 215) rfl rfl (fun w' hw => ?_) hS ?_
                    · clear hw; go_simp
                    try simp only [Act.put, s1, s2, s3]
                    refine tI 2 (v := .pointer (some ⟨W7.heap.size, 3, none⟩)) (d := some 216) rfl rfl (fun w' hw => ?_) hS ?_
                    · clear hw; go_simp
                    try simp only [Act.put, s1, s2, s3]
                    refine tI 3 (v := .slice z1.h1.a b.h1.n z1.h1.c) (d := some 217) rfl rfl (fun w' hw => ?_) hS ?_
                    · have q0 := (hw.r (W7.heap.size, z1.cells) (by simp)).1 3 _ rfl; rw [HH.out] at q0; clear hw; go_simp
                    try simp only [Act.put, s1, s2, s3]
                    refine tI 4 (v := .int .i64 b.h1.n) (d := some 218) rfl rfl (fun w' hw => ?_) hS ?_
                    · clear hw; go_simp
                    try simp only [Act.put, s1, s2, s3]
                    refine tI 5 (v := .int .i64 1) (d := some 219) rfl rfl (fun w' hw => ?_) hS ?_
                    · clear hw; go_simp
                    try simp only [Act.put, s1, s2, s3]
                    refine tI 6 (v := .pointer (some ⟨w1.heap.size, 2, none⟩)) (d := some 220) rfl rfl (fun w' hw => ?_) hS ?_
                    · clear hw; go_simp
                    try simp only [Act.put, s1, s2, s3]
                    refine tI 7 (v := .pointer (some ⟨w1.heap.size, 3, none⟩)) (d := some 221) rfl rfl (fun w' hw => ?_) hS ?_
                    · clear hw; go_simp
                    try simp only [Act.put, s1, s2, s3]
                    refine tI 8 (v := .slice b.h1.a b.h1.n b.h1.c) (d := some 222) rfl rfl (fun w' hw => ?_) hS ?_
                    · have q0 := (hw.r (w1.heap.size, b.cells) (by simp)).1 3 _ rfl; clear hw; go_simp
                    try simp only [Act.put, s1, s2, s3]
                    refine tI 9 (v := .int .i64 b.h1.n) (d := some 223) rfl rfl (fun w' hw => ?_) hS ?_
                    · clear hw; go_simp
                    try simp only [Act.put, s1, s2, s3]
                    refine tI 10 (v := .bool false) (d := some 224) rfl rfl (fun w' hw => ?_) hS ?_
                    · clear hw; go_simp
                    try simp only [Act.put, s1, s2, s3]
                    refine wpAnyH_done (by kernel_rfl) ?_ _
                    have HTV : Hid (St w [(W8.heap.size, q.cells), (W7.heap.size, z1.cells), (W3.heap.size, y.cells), (W2.heap.size, x1.cells), (w1.heap.size + 1, p.cells), (w1.heap.size, b.cells)] [z1, y, x1, b] Y0) := hS.st
                    clear hS
                    clear HH
                    go_wp2_with (fail)
                    go_roundw
                    case rel => exact ⟨2, by omega, by go_num, HTV.out⟩
                    case measure => simp [intOf]
                  · have HH : Hid (z1.h2.n = b.h2.n) := HZF.out.2.2.2.2 2 (by omega)
                    go_wp2_with (fail)
                    refine wp_region_held_drew (S := Sb w wr [(W8.heap.size, q.cells), (W7.heap.size, z1.cells), (W3.heap.size, y.cells), (W2.heap.size, x1.cells), (w1.heap.size + 1, p.cells), (w1.heap.size, b.cells)] [z1, y, x1, b]) (by kernel_rfl) (Sb.refl HTW.out).drew (fun hS => ?_)
                    generalize World.drew _ = Y0 at hS ⊢
                    refine tI 0 (v := .int .i64 2) (d := some 214) rfl rfl (fun w' hw => ?_) hS ?_
                    · clear hw; go_simp
                    try simp only [Act.put, s1, s2, s3]
                    refine tI 1 (v := .pointer (some ⟨W7.heap.size, 2, none⟩)) (d := some 215) rfl rfl (fun w' hw => ?_) hS ?_
                    · clear hw; go_simp
                    try simp only [Act.put, s1, s2, s3]
                    refine tI 2 (v := .pointer (some ⟨W7.heap.size, 4, none⟩)) (d := some 216) rfl rfl (fun w' hw => ?_) hS ?_
                    · clear hw; go_simp
                    try simp only [Act.put, s1, s2, s3]
                    refine tI 3 (v := .slice z1.h2.a b.h2.n z1.h2.c) (d := some 217) rfl rfl (fun w' hw => ?_) hS ?_
                    · have q0 := (hw.r (W7.heap.size, z1.cells) (by simp)).1 4 _ rfl; rw [HH.out] at q0; clear hw; go_simp
                    try simp only [Act.put, s1, s2, s3]
                    refine tI 4 (v := .int .i64 b.h2.n) (d := some 218) rfl rfl (fun w' hw => ?_) hS ?_
                    · clear hw; go_simp
                    try simp only [Act.put, s1, s2, s3]
                    refine tI 5 (v := .int .i64 2) (d := some 219) rfl rfl (fun w' hw => ?_) hS ?_
                    · clear hw; go_simp
                    try simp only [Act.put, s1, s2, s3]
                    refine tI 6 (v := .pointer (some ⟨w1.heap.size, 2, none⟩)) (d := some 220) rfl rfl (fun w' hw => ?_) hS ?_
                    · clear hw; go_simp
                    try simp only [Act.put, s1, s2, s3]
                    refine tI 7 (v := .pointer (some ⟨w1.heap.size, 4, none⟩)) (d := some 221) rfl rfl (fun w' hw => ?_) hS ?_
                    · clear hw; go_simp
                    try simp only [Act.put, s1, s2, s3]
                    refine tI 8 (v := .slice b.h2.a b.h2.n b.h2.c) (d := some 222) rfl rfl (fun w' hw => ?_) hS ?_
                    · have q0 := (hw.r (w1.heap.size, b.cells) (by simp)).1 4 _ rfl; clear hw; go_simp
                    try simp only [Act.put, s1, s2, s3]
                    refine tI 9 (v := .int .i64 b.h2.n) (d := some 223) rfl rfl (fun w' hw => ?_) hS ?_
                    · clear hw; go_simp
                    try simp only [Act.put, s1, s2, s3]
                    refine tI 10 (v := .bool false) (d := some 224) rfl rfl (fun w' hw => ?_) hS ?_
                    · clear hw; go_simp
                    try simp only [Act.put, s1, s2, s3]
                    refine wpAnyH_done (by kernel_rfl) ?_ _
                    have HTV : Hid (St w [(W8.heap.size, q.cells), (W7.heap.size, z1.cells), (W3.heap.size, y.cells), (W2.heap.size, x1.cells), (w1.heap.size + 1, p.cells), (w1.heap.size, b.cells)] [z1, y, x1, b] Y0) := hS.st
                    clear hS
                    clear HH
                    go_wp2_with (fail)
                    go_roundw
                    case rel => exact ⟨3, by omega, by go_num, HTV.out⟩
                    case measure => simp [intOf]
                  · have HH : Hid (z1.h3.n = b.h3.n) := HZF.out.2.2.2.2 3 (by omega)
                    go_wp2_with (fail)
                    refine wp_region_held_drew (S := Sb w wr [(W8.heap.size, q.cells), (W7.heap.size, z1.cells), (W3.heap.size, y.cells), (W2.heap.size, x1.cells), (w1.heap.size + 1, p.cells), (w1.heap.size, b.cells)] [z1, y, x1, b]) (by kernel_rfl) (Sb.refl HTW.out).drew (fun hS => ?_)
                    generalize World.drew _ = Y0 at hS ⊢
                    refine tI 0 (v := .int .i64 3) (d := some 214) rfl rfl (fun w' hw => ?_) hS ?_
                    · clear hw; go_simp
                    try simp only [Act.put, s1, s2, s3]
                    refine tI 1 (v := .pointer (some ⟨W7.heap.size, 2, none⟩)) (d := some 215) rfl rfl (fun w' hw => ?_) hS ?_
                    · clear hw; go_simp
                    try simp only [Act.put, s1, s2, s3]
                    refine tI 2 (v := .pointer (some ⟨W7.heap.size, 5, none⟩)) (d := some 216) rfl rfl (fun w' hw => ?_) hS ?_
                    · clear hw; go_simp
                    try simp only [Act.put, s1, s2, s3]
                    refine tI 3 (v := .slice z1.h3.a b.h3.n z1.h3.c) (d := some 217) rfl rfl (fun w' hw => ?_) hS ?_
                    · have q0 := (hw.r (W7.heap.size, z1.cells) (by simp)).1 5 _ rfl; rw [HH.out] at q0; clear hw; go_simp
                    try simp only [Act.put, s1, s2, s3]
                    refine tI 4 (v := .int .i64 b.h3.n) (d := some 218) rfl rfl (fun w' hw => ?_) hS ?_
                    · clear hw; go_simp
                    try simp only [Act.put, s1, s2, s3]
                    refine tI 5 (v := .int .i64 3) (d := some 219) rfl rfl (fun w' hw => ?_) hS ?_
                    · clear hw; go_simp
                    try simp only [Act.put, s1, s2, s3]
                    refine tI 6 (v := .pointer (some ⟨w1.heap.size, 2, none⟩)) (d := some 220) rfl rfl (fun w' hw => ?_) hS ?_
                    · clear hw; go_simp
                    try simp only [Act.put, s1, s2, s3]
                    refine tI 7 (v := .pointer (some ⟨w1.heap.size, 5, none⟩)) (d := some 221) rfl rfl (fun w' hw => ?_) hS ?_
                    · clear hw; go_simp
                    try simp only [Act.put, s1, s2, s3]
                    refine tI 8 (v := .slice b.h3.a b.h3.n b.h3.c) (d := some 222) rfl rfl (fun w' hw => ?_) hS ?_
                    · have q0 := (hw.r (w1.heap.size, b.cells) (by simp)).1 5 _ rfl; clear hw; go_simp
                    try simp only [Act.put, s1, s2, s3]
                    refine tI 9 (v := .int .i64 b.h3.n) (d := some 223) rfl rfl (fun w' hw => ?_) hS ?_
                    · clear hw; go_simp
                    try simp only [Act.put, s1, s2, s3]
                    refine tI 10 (v := .bool false) (d := some 224) rfl rfl (fun w' hw => ?_) hS ?_
                    · clear hw; go_simp
                    try simp only [Act.put, s1, s2, s3]
                    refine wpAnyH_done (by kernel_rfl) ?_ _
                    have HTV : Hid (St w [(W8.heap.size, q.cells), (W7.heap.size, z1.cells), (W3.heap.size, y.cells), (W2.heap.size, x1.cells), (w1.heap.size + 1, p.cells), (w1.heap.size, b.cells)] [z1, y, x1, b] Y0) := hS.st
                    clear hS
                    clear HH
                    go_wp2_with (fail)
                    go_roundw
                    case rel => exact ⟨4, by omega, by go_num, HTV.out⟩
                    case measure => simp [intOf]
                · have hx : ¬ ((k : Int) < 4) := hlt
                  go_wp2_with (fail)
                  go_ret
                  exact ⟨rfl, HTW.out.b⟩
  by_cases hA : 40 < o.a
  · obtain ⟨p, ep⟩ : ∃ p : Ox, p = ⟨2, o.s, 3, o.b⟩ := ⟨_, rfl⟩
    have ck := HK1.out.set 2 (.int .i64 3)
    have HS3 : Hid (St w [(w1.heap.size + 1, (⟨2, o.s, 3, o.b⟩ : Ox).cells), (w1.heap.size, b.cells)] [b] (V1.setCell ⟨w1.heap.size + 1, 2, none⟩ (.int .i64 3))) := st_two (d := b) (o := ⟨2, o.s, 3, o.b⟩) HT0.out ck (fun j v hv => by
      rw [World.cell?_setCell_far _ _ _ _ (by show w1.heap.size + 1 ≠ w1.heap.size; omega)]
      exact HK2.out j v hv) (HK3.out.setCell (p := ⟨w1.heap.size + 1, 2, none⟩) (by show w1.heap.size ≤ w1.heap.size + 1; omega) (.int .i64 3))
    clear ck
    go_wp2_with (fail)
    exact TAIL _ _ _ _ _ _ _ _ _ _ _ _ _ _ ⟨2, o.s, 3, o.b⟩ _ rfl HS3.out
  · have HS2 : Hid (St w [(w1.heap.size + 1, (⟨2, o.s, o.a, o.b⟩ : Ox).cells), (w1.heap.size, b.cells)] [b] V1) := st_two (d := b) (o := ⟨2, o.s, o.a, o.b⟩) HT0.out HK1.out HK2.out HK3.out
    go_wp2_with (fail)
    exact TAIL _ _ _ _ _ _ _ _ _ _ _ _ _ _ ⟨2, o.s, o.a, o.b⟩ _ rfl HS2.out
/- Codes too long are passed by. -/
theorem law_bktake_all {adr : Nat → Addr} (a : Option Addr) (len cap : Nat) (zs : List Int) (w : World) (h : Bytes w a len cap zs) (he : Ea adr w) :
    Calls Tryd.prog 4 #[.slice a len cap] w fun e w' => e = .returned (.bool true) ∧ Below w.heap.size w w' := by
  have r0 := Draw.row_of h
  have m0 := r0.1
  unfold maxLen at m0
  by_cases h0 : (1048576 : Int) < len
  · go_enter Tryd.func4, Tryd.ntmps4
    go_wp2_with (fail)
    go_ret
    exact ⟨rfl, Below.refl _ _⟩
  · exact law_bktake a len cap zs w r0 h0 he
end Go.Proofs.YtbipolfbkemmpaaDoor.Dra

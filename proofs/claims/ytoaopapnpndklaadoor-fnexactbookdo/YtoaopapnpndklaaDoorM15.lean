import Derived.Test.YtoaopapnpndklaaDoorM14

/- In the middle of a call: a number is appended to a list of free rooms: over no program. -/
namespace Go.Proofs.YtoaopapnpndklaaDoor.Book
open Go.ChangeShapes Go.WideShapes Go.ChangeAt Go.RowKit
open Go.Proofs.YtoaopapnpndklaaDoor.Aid Go.Proofs.YtoaopapnpndklaaDoor.Lst
set_option maxRecDepth 100000
set_option linter.unusedVariables false

theorem seth_lists (b : Bx) {k : Nat} (hk : k < 4) (x : Sx) : (b.seth k x).lists = b.lists.set (1 + k) x := by
  obtain rfl | rfl | rfl | rfl : k = 0 ∨ k = 1 ∨ k = 2 ∨ k = 3 := by omega
  all_goals rfl
theorem hd_lists (b : Bx) {k : Nat} (hk : k < 4) : b.lists[1 + k]? = some (b.hd k) := by
  obtain rfl | rfl | rfl | rfl : k = 0 ∨ k = 1 ∨ k = 2 ∨ k = 3 := by omega
  all_goals rfl
theorem seth_cells (b : Bx) {k : Nat} (hk : k < 4) (x : Sx) : (b.seth k x).cells = b.cells.set (2 + k) (.slice x.a x.n x.c) := by
  obtain rfl | rfl | rfl | rfl : k = 0 ∨ k = 1 ∨ k = 2 ∨ k = 3 := by omega
  all_goals rfl
theorem lies_seth {b : Bx} {k : Nat} (hk : k < 4) {x : Sx} {i : Nat} (h : (b.seth k x).Lies i) : b.Lies i ∨ (0 < x.c ∧ ∃ o, x.a = some ⟨i, o, none⟩) := by
  obtain ⟨y, hy, hc, o, e⟩ := h
  rw [seth_lists b hk] at hy
  rcases List.mem_or_eq_of_mem_set hy with hy | rfl
  · exact .inl ⟨y, hy, hc, o, e⟩
  · exact .inr ⟨hc, o, e⟩

/- A list in the variable is another one now. -/
theorem Dn.head {w0 w2 : World} {b0 b : Bx} {B k : Nat} (hk : k < 4) {x : Sx} (e : Ck w2 w0.heap.size b.cells)
    (t : Ck w2 (w0.heap.size + 1) [.int .i64 0, .slice none 0 0, .slice none 0 0, .slice none 0 0, .slice none 0 0, .slice none 0 0, .slice none 0 0, .slice none 0 0, .slice none 0 0])
    (h : (b.seth k x).Hl B w2) (g : ∀ i, (b.seth k x).Lies i → b0.Lies i ∨ w0.heap.size + 2 ≤ i) (l : ∀ i, b0.Lies i → i < w0.heap.size) (f : Fr b0 w0 w2) (z : w0.heap.size + 2 ≤ w2.heap.size) :
    Dn w0 b0 B (b.seth k x) (w2.setCell ⟨w0.heap.size, 2 + k, none⟩ (.slice x.a x.n x.c)) := by
  have oy := Only.setCell (Only.refl w0.heap.size (w0.heap.size + 1) w2) w0.heap.size (2 + k) (Nat.le_refl _) (by omega) (.slice x.a x.n x.c)
  refine ⟨by rw [seth_cells b hk]; exact e.set _ _, t.far _ (by show w0.heap.size ≠ w0.heap.size + 1; omega) _, ⟨fun y hy => (h.each y hy).same oy.size (fun k' o hc ea => ?_), h.apart⟩, g, l, ?_, by simpa using z⟩
  · have lk : (b.seth k x).Lies k' := ⟨y, hy, hc, o, ea⟩
    refine oy.block k' (h.lies lk).2 ?_
    rcases g k' lk with q | q
    · have := l k' q; omega
    · omega
  · exact ⟨f.os, f.tape, f.output, by simpa using f.size, fun i hi hn => (oy.block i (by have := f.size; omega) (by omega)).trans (f.block i hi hn)⟩

theorem Dn.app {w0 w1 w2 : World} {b0 b : Bx} {B k : Nat} (h : Dn w0 b0 B b w1) (hk : k < 4) {v : Int} {r : Value} (g : App1 (b.hd k) v B w1 r w2) :
    ∃ x : Sx, r = .slice x.a x.n x.c ∧ x.n = (b.hd k).n + 1 ∧ x.f = upd (b.hd k).f (b.hd k).n v ∧ Dn w0 b0 B (b.seth k x) (w2.setCell ⟨w0.heap.size, 2 + k, none⟩ r) := by
  obtain ⟨x, rfl, xn, xf, xh, xw⟩ := g
  refine ⟨x, rfl, xn, xf, ?_⟩
  have z := h.z
  have hm : b.hd k ∈ b.lists := List.mem_of_getElem? (hd_lists b hk)
  have hB : ∀ y ∈ b.lists, 0 < y.c → ∀ k o, y.a = some ⟨k, o, none⟩ → k < w1.heap.size := fun y hy hc k o e => (h.h.lies ⟨y, hy, hc, o, e⟩).2
  have hh : (b.seth k x).Hl B w2 := h.h.app (1 + k) (b.hd k) x v (hd_lists b hk) xn xh hB (xw.imp (fun ⟨k1, o1, e1, e2, e3, e4, e5⟩ => ⟨k1, o1, e1, e2, by omega, e5⟩) (fun g => ⟨g.1, g.2.1⟩)) (seth_lists b hk x)
  rcases xw with ⟨k1, o1, e1, e2, e3, e4, rfl⟩ | ⟨e1, hb, hs⟩
  · have lk : b.Lies k1 := ⟨_, hm, by omega, o1, e1⟩
    have kk : k1 ≠ w0.heap.size ∧ k1 ≠ w0.heap.size + 1 := by
      rcases h.k k1 lk with g | g
      · have := h.l k1 g; omega
      · omega
    refine Dn.head hk (h.e.far _ kk.1 _) (h.t.far _ kk.2 _) hh (fun i hi => ?_) h.l ?_ (by simpa using z)
    · rcases lies_seth hk hi with g | ⟨_, o, g⟩
      · exact h.k i g
      · rw [e2, e1] at g; cases g; exact h.k k1 lk
    · have oy := Only.setCell (Only.refl k1 (k1 + 1) w1) k1 (o1 + (b.hd k).n) (Nat.le_refl _) (by omega) (.int .i64 v)
      have f := h.f
      refine ⟨f.os, f.tape, f.output, by simpa using f.size, fun i hi hn => (oy.block i (by have := f.size; omega) ?_).trans (f.block i hi hn)⟩
      have : k1 ≠ i := fun e => by
        subst e
        rcases h.k k1 lk with g | g
        · exact hn g
        · omega
      omega
  · have D := h.later hb
    refine Dn.head hk D.e D.t hh (fun i hi => ?_) h.l D.f D.z
    rcases lies_seth hk hi with g | ⟨_, o, g⟩
    · exact h.k i g
    · rw [e1] at g; cases g; exact .inr z

end Go.Proofs.YtoaopapnpndklaaDoor.Book

/- A page is opened for rooms, and a room is given back: the book stays ok: over no program. -/
namespace Go.Proofs.YtoaopapnpndklaaDoor.Book
open Go.ChangeShapes Go.WideShapes Go.ChangeAt Go.RowKit
open Go.Proofs.YtoaopapnpndklaaDoor.Aid Go.Proofs.YtoaopapnpndklaaDoor.Lst
set_option maxRecDepth 100000
set_option linter.unusedVariables false

theorem cnt_none {f : Nat → Int} {a : Int} : ∀ {n : Nat}, (∀ j, j < n → f j ≠ a) → cnt f a n = 0
  | 0, _ => rfl
  | n + 1, h => by
    rw [show cnt f a (n + 1) = cnt f a n + (if f n = a then 1 else 0) from rfl, cnt_none (fun j hj => h j (by omega)), if_neg (h n (by omega))]
theorem cnt_one {f : Nat → Int} {a : Int} : ∀ {n : Nat} (i : Nat), i < n → f i = a → (∀ j, j < n → f j = a → j = i) → cnt f a n = 1
  | 0, i, h, _, _ => by omega
  | n + 1, i, h, e, g => by
    rw [show cnt f a (n + 1) = cnt f a n + (if f n = a then 1 else 0) from rfl]
    by_cases ei : i = n
    · subst ei
      rw [if_pos e, cnt_none (fun j hj ej => by have := g j (by omega) ej; omega)]
    · rw [if_neg (fun en => by have := g n (by omega) en; omega), cnt_one i (by omega) e (fun j hj ej => g j (by omega) ej)]
theorem cnt_pos {f : Nat → Int} {a : Int} : ∀ {n : Nat}, 0 < cnt f a n → ∃ j, j < n ∧ f j = a
  | 0, h => by simp [cnt] at h
  | n + 1, h => by
    rw [show cnt f a (n + 1) = cnt f a n + (if f n = a then 1 else 0) from rfl] at h
    by_cases e : f n = a
    · exact ⟨n, by omega, e⟩
    · rw [if_neg e, Nat.add_zero] at h
      obtain ⟨j, h1, h2⟩ := cnt_pos h
      exact ⟨j, by omega, h2⟩

/- How many there are in all. -/
def sumc (f : Nat → Int) (n : Nat) : Nat → Nat
  | 0 => 0
  | a + 1 => sumc f n a + cnt f (a : Int) n
theorem sumc_zero (f : Nat → Int) : ∀ N, sumc f 0 N = 0
  | 0 => rfl
  | N + 1 => by rw [sumc, sumc_zero f N]; rfl
theorem sumc_step (f : Nat → Int) (n : Nat) : ∀ N, sumc f (n + 1) N = sumc f n N + (if 0 ≤ f n ∧ f n < N then 1 else 0)
  | 0 => by rw [if_neg (by omega)]; rfl
  | N + 1 => by
    rw [sumc, sumc_step f n N, sumc, show cnt f (N : Int) (n + 1) = cnt f N n + (if f n = N then 1 else 0) from rfl]
    by_cases e : f n = N
    · rw [if_pos e, if_neg (by omega), if_pos (by omega)]; omega
    · rw [if_neg e]
      by_cases e2 : 0 ≤ f n ∧ f n < N
      · rw [if_pos e2, if_pos (by omega)]; omega
      · rw [if_neg e2, if_neg (by omega)]; omega
theorem sumc_all (f : Nat → Int) (N : Nat) : ∀ n, (∀ j, j < n → 0 ≤ f j ∧ f j < N) → sumc f n N = n
  | 0, _ => sumc_zero f N
  | n + 1, h => by rw [sumc_step, sumc_all f N n (fun j hj => h j (by omega)), if_pos (h n (by omega))]
theorem sumc_le (f : Nat → Int) (n : Nat) : ∀ N, (∀ a : Nat, a < N → cnt f (a : Int) n ≤ 1) → sumc f n N ≤ N
  | 0, _ => Nat.le_refl _
  | N + 1, h => by have h1 := sumc_le f n N (fun a ha => h a (by omega)); have h2 := h N (by omega); rw [sumc]; omega
theorem sumc_lt (f : Nat → Int) (n A : Nat) : ∀ N, (∀ a : Nat, a < N → cnt f (a : Int) n ≤ 1) → A < N → cnt f (A : Int) n = 0 → sumc f n N < N
  | 0, _, h, _ => by omega
  | N + 1, h, hA, h0 => by
    rw [sumc]
    by_cases e : A = N
    · subst e
      have h1 := sumc_le f n A (fun a ha => h a (by omega))
      omega
    · have h1 := sumc_lt f n A N (fun a ha => h a (by omega)) (by omega) h0
      have h2 := h N (by omega)
      omega

/- A list of a book that is ok names a room once. -/
theorem list_once {b : Bx} (h : OkP b) {k : Nat} (hk : k < 4) (a : Nat) (ha : a < b.o.n) : cnt (b.hd k).f (a : Int) (b.hd k).n ≤ 1 := by
  obtain ⟨⟨hl, hs, hw⟩, hd, hg⟩ := h
  by_cases e : cnt (b.hd k).f (a : Int) (b.hd k).n = 0
  · omega
  · obtain ⟨j, hj, ej⟩ := cnt_pos (Nat.pos_of_ne_zero e)
    obtain ⟨g1, g2, g3, g4⟩ := (hd k hk).2 j hj
    rw [ej] at g1 g2 g3 g4
    have hpn : a / 8 < b.p.n := by have := hl.2.2.2.2.2.2; omega
    have g := hg (a / 8) hpn
    have g3' : b.p.f (a / 8) = (k : Int) + 1 := by rw [← g3]; congr 1
    unfold PageP at g
    rcases g with ⟨g, _⟩ | ⟨m, m4, g, g'⟩ | ⟨g, _⟩ | g
    · omega
    · obtain rfl : m = k := by omega
      have r := g'.1 (a % 8) (by omega)
      unfold RoomU at r
      rw [show ((a / 8 : Nat) : Int) * 8 + ((a % 8 : Nat) : Int) = a by omega] at r
      omega
    · omega
    · have := g.1; omega

def Bx.pag (b : Bx) (q : Nat) (v : Int) : Bx := ⟨b.s, b.p.put q v, b.h0, b.h1, b.h2, b.h3, b.o, b.i, b.e⟩

/- A page is opened, and its first room is taken. -/
theorem keep_fresh {b : Bx} (h : OkP b) (k p t : Nat) (x : Sx) (hk : k < 4) (h0 : (b.hd k).n = 0) (hp : p < b.p.n) (hz : b.p.f p = 0) (ht : (t : Int) < b.s) (hi : b.i.f t ≠ 0)
    (xn : ((x.n : Int) + 1) * sz k = 8) (xf : ∀ j, j < x.n → x.f j = (p : Int) * 8 + ((j : Int) + 1) * sz k) : OkP (((b.pag p ((k : Int) + 1)).seth k x).own (p * 8) ((t : Int) + 1)) := by
  obtain ⟨⟨hl, hs, hw⟩, hd, hg⟩ := h
  have sp := sz_is k
  have on : (b.o.n : Int) = b.p.n * 8 := hl.2.2.2.2.2.2
  obtain ⟨c, hc⟩ : ∃ c, c = ((b.pag p ((k : Int) + 1)).seth k x).own (p * 8) ((t : Int) + 1) := ⟨_, rfl⟩
  have hdj : ∀ j, j < 4 → c.hd j = if j = k then x else b.hd j := fun j hj => by rw [hc]; exact hd_seth _ x hk hj
  have pp : c.p.f p = (k : Int) + 1 := by rw [hc]; simp only [Bx.own, Bx.seth, Bx.pag, Sx.put, upd, if_true]
  have pq : ∀ q, q ≠ p → c.p.f q = b.p.f q := fun q hq => by rw [hc]; simp only [Bx.own, Bx.seth, Bx.pag, Sx.put, upd]; rw [if_neg hq]
  have oo : ∀ u, u ≠ p * 8 → c.o.f u = b.o.f u := fun u hu => by rw [hc]; simp only [Bx.own, Bx.seth, Bx.pag, Sx.put, upd]; rw [if_neg hu]
  have o0 : c.o.f (p * 8) = (t : Int) + 1 := by rw [hc]; simp only [Bx.own, Bx.seth, Bx.pag, Sx.put, upd, if_true]
  have xr : ∀ j, j < x.n → (p : Int) * 8 < x.f j ∧ x.f j < (p : Int) * 8 + 8 ∧ x.f j % sz k = 0 := fun j hj => by
    rw [xf j hj]
    rcases sp with sp | sp | sp | sp <;> rw [sp] at xn ⊢ <;> omega
  have fz : FreeP b.o.f p 0 := by
    have g := hg p hp
    unfold PageP at g
    rcases g with ⟨_, g⟩ | ⟨m, _, g, _⟩ | ⟨g, _⟩ | g
    · exact g
    · omega
    · omega
    · have := g.1; omega
  have cp : c.p.n = b.p.n := by rw [hc]; rfl
  have co : c.o.n = b.o.n := by rw [hc]; rfl
  rw [← hc]
  refine ⟨⟨by rw [hc]; exact hl, by rw [hc]; exact hs, by rw [hc]; exact own_u (b := (b.pag p ((k : Int) + 1)).seth k x) hw (p * 8) t ht hi⟩, fun j hj => ?_, fun q hq => ?_⟩
  · unfold ListP BegP
    rw [hdj j hj, co]
    split
    · rename_i e
      subst e
      refine ⟨by rcases sp with sp | sp | sp | sp <;> rw [sp] at xn <;> omega, fun i hi' => ?_⟩
      obtain ⟨r1, r2, r3⟩ := xr i hi'
      refine ⟨by omega, by omega, ?_, by omega⟩
      rw [show (x.f i / 8).toNat = p by omega]
      exact pp
    · refine ⟨(hd j hj).1, fun i hi' => ?_⟩
      obtain ⟨g1, g2, g3, g4⟩ := (hd j hj).2 i hi'
      refine ⟨g1, g2, ?_, g4⟩
      rw [pq _ (fun e => by rw [e] at g3; omega)]
      exact g3
  · rw [cp] at hq
    by_cases e : q = p
    · subst e
      refine .inr (.inl ⟨k, hk, pp, ?_⟩)
      rw [hdj k hk, if_pos rfl]
      refine ⟨fun u hu => ?_, ⟨0, by omega, by simp, by rw [Nat.add_zero, o0]; omega⟩⟩
      unfold RoomU
      by_cases eu : u = 0
      · subst eu
        rw [Nat.add_zero, o0, cnt_none (fun j hj => by have := xr j hj; omega)]
        exact .inr ⟨by simp, .inl ⟨by omega, rfl⟩⟩
      · rw [oo _ (by omega)]
        have f0 := fz u (by omega) hu
        by_cases em : 0 < (u : Int) % sz k
        · rw [cnt_none (fun j hj => by
            have := xr j hj
            rcases sp with sp | sp | sp | sp <;> rw [sp] at this em <;> omega)]
          exact .inl ⟨em, by omega, rfl⟩
        · refine .inr ⟨by omega, .inr ⟨by omega, ?_⟩⟩
          obtain ⟨i, hi1, hi2⟩ : ∃ i : Nat, (u : Int) = ((i : Int) + 1) * sz k ∧ i < x.n := by
            rcases sp with sp | sp | sp | sp <;> rw [sp] at xn em ⊢
            · exact ⟨u - 1, by omega, by omega⟩
            · exact ⟨u / 2 - 1, by omega, by omega⟩
            · exact ⟨u / 4 - 1, by omega, by omega⟩
            · exact ⟨u / 8 - 1, by omega, by omega⟩
          refine cnt_one i hi2 (by rw [xf i hi2, hi1]) (fun j hj ej => ?_)
          rw [xf j hj, hi1] at ej
          rcases sp with sp | sp | sp | sp <;> rw [sp] at ej <;> omega
    · refine page_to (b := b) q cp (pq q e) (fun h7 h8 h9 j h1 h2 => ?_) (fun j h1 h2 h3 => ?_) (fun m m4 hm u hu => ?_) (fun u hu => oo _ (by omega)) (hg q hq)
      · refine pq j (fun ej => ?_)
        subst ej
        by_cases eb : j = back b.p.f q
        · rw [← eb] at h8; omega
        · have := back_in b.p.f q j (by omega) h2; omega
      · rw [pq _ (fun ej => by rw [ej] at h3; omega)]
        exact h3
      · rw [hdj m m4]
        split
        · rename_i em
          subst em
          rw [cnt_none (fun j hj => by have := xr j hj; omega), h0]
          rfl
        · rfl

end Go.Proofs.YtoaopapnpndklaaDoor.Book

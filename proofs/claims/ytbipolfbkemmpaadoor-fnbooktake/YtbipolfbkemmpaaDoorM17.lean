import Derived.Test.YtbipolfbkemmpaaDoorM16

/- In the middle of a call: a number is appended to a list of free rooms: over no program. -/
namespace Go.Proofs.YtbipolfbkemmpaaDoor.Book
open Go.ChangeShapes Go.WideShapes Go.ChangeAt Go.RowKit
open Aid Lst
set_option maxRecDepth 100000
set_option linter.unusedVariables false

theorem seth_lists (b : Bx) {k : Nat} (hk : k < 4) (x : Sx) : (b.seth k x).lists = b.lists.set (1 + k) x := by
  obtain rfl | rfl | rfl | rfl : k = 0 ∨ k = 1 ∨ k = 2 ∨ k = 3 := by omega
  all_goals rfl
theorem hd_lists (b : Bx) {k : Nat} (hk : k < 4) : b.lists[1 + k]? = some (b.hd k) := by
  obtain rfl | rfl | rfl | rfl : k = 0 ∨ k = 1 ∨ k = 2 ∨ k = 3 := by omega
  all_goals rfl
theorem seth_cells (b : Bx) {k : Nat} (hk : k < 4) (x : Sx) : (b.seth k x).cells = b.cells.set (2 + k) (.slice x.a x.n x.c) := by
  obtain rfl | rfl | rfl | rfl : k = 0 ∨ k = 1 ∨ k = 2 ∨ k = 3 := by omega
  all_goals rfl
theorem lies_seth {b : Bx} {k : Nat} (hk : k < 4) {x : Sx} {i : Nat} (h : (b.seth k x).Lies i) : b.Lies i ∨ (0 < x.c ∧ ∃ o, x.a = some ⟨i, o, none⟩) := by
  obtain ⟨y, hy, hc, o, e⟩ := h
  rw [seth_lists b hk] at hy
  rcases List.mem_or_eq_of_mem_set hy with hy | rfl
  · exact .inl ⟨y, hy, hc, o, e⟩
  · exact .inr ⟨hc, o, e⟩

/- A list in the variable is another one now. -/
theorem Dn.head {w0 w2 : World} {b0 b : Bx} {B k : Nat} (hk : k < 4) {x : Sx} (e : Ck w2 w0.heap.size b.cells)
    (t : Ck w2 (w0.heap.size + 1) [.int .i64 0, .slice none 0 0, .slice none 0 0, .slice none 0 0, .slice none 0 0, .slice none 0 0, .slice none 0 0, .slice none 0 0, .slice none 0 0])
    (h : (b.seth k x).Hl B w2) (g : ∀ i, (b.seth k x).Lies i → b0.Lies i ∨ w0.heap.size + 2 ≤ i) (l : ∀ i, b0.Lies i → i < w0.heap.size) (f : Fr b0 w0 w2) (z : w0.heap.size + 2 ≤ w2.heap.size) :
    Dn w0 b0 B (b.seth k x) (w2.setCell ⟨w0.heap.size, 2 + k, none⟩ (.slice x.a x.n x.c)) := by
  have oy := Only.setCell (Only.refl w0.heap.size (w0.heap.size + 1) w2) w0.heap.size (2 + k) (Nat.le_refl _) (by omega) (.slice x.a x.n x.c)
  refine ⟨by rw [seth_cells b hk]; exact e.set _ _, t.far _ (by show w0.heap.size ≠ w0.heap.size + 1; omega) _, ⟨fun y hy => (h.each y hy).same oy.size (fun k' o hc ea => ?_), h.apart⟩, g, l, ?_, by simpa using z⟩
  · have lk : (b.seth k x).Lies k' := ⟨y, hy, hc, o, ea⟩
    refine oy.block k' (h.lies lk).2 ?_
    rcases g k' lk with q | q
    · have := l k' q; omega
    · omega
  · exact ⟨f.os, f.tape, f.output, by simpa using f.size, fun i hi hn => (oy.block i (by have := f.size; omega) (by omega)).trans (f.block i hi hn)⟩

theorem Dn.app {w0 w1 w2 : World} {b0 b : Bx} {B k : Nat} (h : Dn w0 b0 B b w1) (hk : k < 4) {v : Int} {r : Value} (g : App1 (b.hd k) v B w1 r w2) :
    ∃ x : Sx, r = .slice x.a x.n x.c ∧ x.n = (b.hd k).n + 1 ∧ x.f = upd (b.hd k).f (b.hd k).n v ∧ Dn w0 b0 B (b.seth k x) (w2.setCell ⟨w0.heap.size, 2 + k, none⟩ r) := by
  obtain ⟨x, rfl, xn, xf, xh, xw⟩ := g
  refine ⟨x, rfl, xn, xf, ?_⟩
  have z := h.z
  have hm : b.hd k ∈ b.lists := List.mem_of_getElem? (hd_lists b hk)
  have hB : ∀ y ∈ b.lists, 0 < y.c → ∀ k o, y.a = some ⟨k, o, none⟩ → k < w1.heap.size := fun y hy hc k o e => (h.h.lies ⟨y, hy, hc, o, e⟩).2
  have hh : (b.seth k x).Hl B w2 := h.h.app (1 + k) (b.hd k) x v (hd_lists b hk) xn xh hB (xw.imp (fun ⟨k1, o1, e1, e2, e3, e4, e5⟩ => ⟨k1, o1, e1, e2, by omega, e5⟩) (fun g => ⟨g.1, g.2.1⟩)) (seth_lists b hk x)
  rcases xw with ⟨k1, o1, e1, e2, e3, e4, rfl⟩ | ⟨e1, hb, hs⟩
  · have lk : b.Lies k1 := ⟨_, hm, by omega, o1, e1⟩
    have kk : k1 ≠ w0.heap.size ∧ k1 ≠ w0.heap.size + 1 := by
      rcases h.k k1 lk with g | g
      · have := h.l k1 g; omega
      · omega
    refine Dn.head hk (h.e.far _ kk.1 _) (h.t.far _ kk.2 _) hh (fun i hi => ?_) h.l ?_ (by simpa using z)
    · rcases lies_seth hk hi with g | ⟨_, o, g⟩
      · exact h.k i g
      · rw [e2, e1] at g; cases g; exact h.k k1 lk
    · have oy := Only.setCell (Only.refl k1 (k1 + 1) w1) k1 (o1 + (b.hd k).n) (Nat.le_refl _) (by omega) (.int .i64 v)
      have f := h.f
      refine ⟨f.os, f.tape, f.output, by simpa using f.size, fun i hi hn => (oy.block i (by have := f.size; omega) ?_).trans (f.block i hi hn)⟩
      have : k1 ≠ i := fun e => by
        subst e
        rcases h.k k1 lk with g | g
        · exact hn g
        · omega
      omega
  · have D := h.later hb
    refine Dn.head hk D.e D.t hh (fun i hi => ?_) h.l D.f D.z
    rcases lies_seth hk hi with g | ⟨_, o, g⟩
    · exact h.k i g
    · rw [e1] at g; cases g; exact .inr z

theorem cnt_none {f : Nat → Int} {a : Int} : ∀ {n : Nat}, (∀ j, j < n → f j ≠ a) → cnt f a n = 0
  | 0, _ => rfl
  | n + 1, h => by
    rw [show cnt f a (n + 1) = cnt f a n + (if f n = a then 1 else 0) from rfl, cnt_none (fun j hj => h j (by omega)), if_neg (h n (by omega))]
theorem cnt_one {f : Nat → Int} {a : Int} : ∀ {n : Nat} (i : Nat), i < n → f i = a → (∀ j, j < n → f j = a → j = i) → cnt f a n = 1
  | 0, i, h, _, _ => by omega
  | n + 1, i, h, e, g => by
    rw [show cnt f a (n + 1) = cnt f a n + (if f n = a then 1 else 0) from rfl]
    by_cases ei : i = n
    · subst ei
      rw [if_pos e, cnt_none (fun j hj ej => by have := g j (by omega) ej; omega)]
    · rw [if_neg (fun en => by have := g n (by omega) en; omega), cnt_one i (by omega) e (fun j hj ej => g j (by omega) ej)]
theorem cnt_pos {f : Nat → Int} {a : Int} : ∀ {n : Nat}, 0 < cnt f a n → ∃ j, j < n ∧ f j = a
  | 0, h => by simp [cnt] at h
  | n + 1, h => by
    rw [show cnt f a (n + 1) = cnt f a n + (if f n = a then 1 else 0) from rfl] at h
    by_cases e : f n = a
    · exact ⟨n, by omega, e⟩
    · rw [if_neg e, Nat.add_zero] at h
      obtain ⟨j, h1, h2⟩ := cnt_pos h
      exact ⟨j, by omega, h2⟩

/- How many there are in all. -/
def sumc (f : Nat → Int) (n : Nat) : Nat → Nat
  | 0 => 0
  | a + 1 => sumc f n a + cnt f (a : Int) n
theorem sumc_zero (f : Nat → Int) : ∀ N, sumc f 0 N = 0
  | 0 => rfl
  | N + 1 => by rw [sumc, sumc_zero f N]; rfl
theorem sumc_step (f : Nat → Int) (n : Nat) : ∀ N, sumc f (n + 1) N = sumc f n N + (if 0 ≤ f n ∧ f n < N then 1 else 0)
  | 0 => by rw [if_neg (by omega)]; rfl
  | N + 1 => by
    rw [sumc, sumc_step f n N, sumc, show cnt f (N : Int) (n + 1) = cnt f N n + (if f n = N then 1 else 0) from rfl]
    by_cases e : f n = N
    · rw [if_pos e, if_neg (by omega), if_pos (by omega)]; omega
    · rw [if_neg e]
      by_cases e2 : 0 ≤ f n ∧ f n < N
      · rw [if_pos e2, if_pos (by omega)]; omega
      · rw [if_neg e2, if_neg (by omega)]; omega
theorem sumc_all (f : Nat → Int) (N : Nat) : ∀ n, (∀ j, j < n → 0 ≤ f j ∧ f j < N) → sumc f n N = n
  | 0, _ => sumc_zero f N
  | n + 1, h => by rw [sumc_step, sumc_all f N n (fun j hj => h j (by omega)), if_pos (h n (by omega))]
theorem sumc_le (f : Nat → Int) (n : Nat) : ∀ N, (∀ a : Nat, a < N → cnt f (a : Int) n ≤ 1) → sumc f n N ≤ N
  | 0, _ => Nat.le_refl _
  | N + 1, h => by have h1 := sumc_le f n N (fun a ha => h a (by omega)); have h2 := h N (by omega); rw [sumc]; omega
theorem sumc_lt (f : Nat → Int) (n A : Nat) : ∀ N, (∀ a : Nat, a < N → cnt f (a : Int) n ≤ 1) → A < N → cnt f (A : Int) n = 0 → sumc f n N < N
  | 0, _, h, _ => by omega
  | N + 1, h, hA, h0 => by
    rw [sumc]
    by_cases e : A = N
    · subst e
      have h1 := sumc_le f n A (fun a ha => h a (by omega))
      omega
    · have h1 := sumc_lt f n A N (fun a ha => h a (by omega)) (by omega) h0
      have h2 := h N (by omega)
      omega

/- A list of a book that is ok names a room once. -/
theorem list_once {b : Bx} (h : OkP b) {k : Nat} (hk : k < 4) (a : Nat) (ha : a < b.o.n) : cnt (b.hd k).f (a : Int) (b.hd k).n ≤ 1 := by
  obtain ⟨⟨hl, hs, hw⟩, hd, hg⟩ := h
  by_cases e : cnt (b.hd k).f (a : Int) (b.hd k).n = 0
  · omega
  · obtain ⟨j, hj, ej⟩ := cnt_pos (Nat.pos_of_ne_zero e)
    obtain ⟨g1, g2, g3, g4⟩ := (hd k hk).2 j hj
    rw [ej] at g1 g2 g3 g4
    have hpn : a / 8 < b.p.n := by have := hl.2.2.2.2.2.2; omega
    have g := hg (a / 8) hpn
    have g3' : b.p.f (a / 8) = (k : Int) + 1 := by rw [← g3]; congr 1
    unfold PageP at g
    rcases g with ⟨g, _⟩ | ⟨m, m4, g, g'⟩ | ⟨g, _⟩ | g
    · omega
    · obtain rfl : m = k := by omega
      have r := g'.1 (a % 8) (by omega)
      unfold RoomU at r
      rw [show ((a / 8 : Nat) : Int) * 8 + ((a % 8 : Nat) : Int) = a by omega] at r
      omega
    · omega
    · have := g.1; omega

def Bx.pag (b : Bx) (q : Nat) (v : Int) : Bx := ⟨b.s, b.p.put q v, b.h0, b.h1, b.h2, b.h3, b.o, b.i, b.e⟩

/- A page is opened, and its first room is taken. -/
theorem keep_fresh {b : Bx} (h : OkP b) (k p t : Nat) (x : Sx) (hk : k < 4) (h0 : (b.hd k).n = 0) (hp : p < b.p.n) (hz : b.p.f p = 0) (ht : (t : Int) < b.s) (hi : b.i.f t ≠ 0)
    (xn : ((x.n : Int) + 1) * sz k = 8) (xf : ∀ j, j < x.n → x.f j = (p : Int) * 8 + ((j : Int) + 1) * sz k) : OkP (((b.pag p ((k : Int) + 1)).seth k x).own (p * 8) ((t : Int) + 1)) := by
  obtain ⟨⟨hl, hs, hw⟩, hd, hg⟩ := h
  have sp := sz_is k
  have on : (b.o.n : Int) = b.p.n * 8 := hl.2.2.2.2.2.2
  obtain ⟨c, hc⟩ : ∃ c, c = ((b.pag p ((k : Int) + 1)).seth k x).own (p * 8) ((t : Int) + 1) := ⟨_, rfl⟩
  have hdj : ∀ j, j < 4 → c.hd j = if j = k then x else b.hd j := fun j hj => by rw [hc]; exact hd_seth _ x hk hj
  have pp : c.p.f p = (k : Int) + 1 := by rw [hc]; simp only [Bx.own, Bx.seth, Bx.pag, Sx.put, upd, if_true]
  have pq : ∀ q, q ≠ p → c.p.f q = b.p.f q := fun q hq => by rw [hc]; simp only [Bx.own, Bx.seth, Bx.pag, Sx.put, upd]; rw [if_neg hq]
  have oo : ∀ u, u ≠ p * 8 → c.o.f u = b.o.f u := fun u hu => by rw [hc]; simp only [Bx.own, Bx.seth, Bx.pag, Sx.put, upd]; rw [if_neg hu]
  have o0 : c.o.f (p * 8) = (t : Int) + 1 := by rw [hc]; simp only [Bx.own, Bx.seth, Bx.pag, Sx.put, upd, if_true]
  have xr : ∀ j, j < x.n → (p : Int) * 8 < x.f j ∧ x.f j < (p : Int) * 8 + 8 ∧ x.f j % sz k = 0 := fun j hj => by
    rw [xf j hj]
    rcases sp with sp | sp | sp | sp <;> rw [sp] at xn ⊢ <;> omega
  have fz : FreeP b.o.f p 0 := by
    have g := hg p hp
    unfold PageP at g
    rcases g with ⟨_, g⟩ | ⟨m, _, g, _⟩ | ⟨g, _⟩ | g
    · exact g
    · omega
    · omega
    · have := g.1; omega
  have cp : c.p.n = b.p.n := by rw [hc]; rfl
  have co : c.o.n = b.o.n := by rw [hc]; rfl
  rw [← hc]
  refine ⟨⟨by rw [hc]; exact hl, by rw [hc]; exact hs, by rw [hc]; exact own_u (b := (b.pag p ((k : Int) + 1)).seth k x) hw (p * 8) t ht hi⟩, fun j hj => ?_, fun q hq => ?_⟩
  · unfold ListP BegP
    rw [hdj j hj, co]
    split
    · rename_i e
      subst e
      refine ⟨by rcases sp with sp | sp | sp | sp <;> rw [sp] at xn <;> omega, fun i hi' => ?_⟩
      obtain ⟨r1, r2, r3⟩ := xr i hi'
      refine ⟨by omega, by omega, ?_, by omega⟩
      rw [show (x.f i / 8).toNat = p by omega]
      exact pp
    · refine ⟨(hd j hj).1, fun i hi' => ?_⟩
      obtain ⟨g1, g2, g3, g4⟩ := (hd j hj).2 i hi'
      refine ⟨g1, g2, ?_, g4⟩
      rw [pq _ (fun e => by rw [e] at g3; omega)]
      exact g3
  · rw [cp] at hq
    by_cases e : q = p
    · subst e
      refine .inr (.inl ⟨k, hk, pp, ?_⟩)
      rw [hdj k hk, if_pos rfl]
      refine ⟨fun u hu => ?_, ⟨0, by omega, by simp, by rw [Nat.add_zero, o0]; omega⟩⟩
      unfold RoomU
      by_cases eu : u = 0
      · subst eu
        rw [Nat.add_zero, o0, cnt_none (fun j hj => by have := xr j hj; omega)]
        exact .inr ⟨by simp, .inl ⟨by omega, rfl⟩⟩
      · rw [oo _ (by omega)]
        have f0 := fz u (by omega) hu
        by_cases em : 0 < (u : Int) % sz k
        · rw [cnt_none (fun j hj => by
            have := xr j hj
            rcases sp with sp | sp | sp | sp <;> rw [sp] at this em <;> omega)]
          exact .inl ⟨em, by omega, rfl⟩
        · refine .inr ⟨by omega, .inr ⟨by omega, ?_⟩⟩
          obtain ⟨i, hi1, hi2⟩ : ∃ i : Nat, (u : Int) = ((i : Int) + 1) * sz k ∧ i < x.n := by
            rcases sp with sp | sp | sp | sp <;> rw [sp] at xn em ⊢
            · exact ⟨u - 1, by omega, by omega⟩
            · exact ⟨u / 2 - 1, by omega, by omega⟩
            · exact ⟨u / 4 - 1, by omega, by omega⟩
            · exact ⟨u / 8 - 1, by omega, by omega⟩
          refine cnt_one i hi2 (by rw [xf i hi2, hi1]) (fun j hj ej => ?_)
          rw [xf j hj, hi1] at ej
          rcases sp with sp | sp | sp | sp <;> rw [sp] at ej <;> omega
    · refine page_to (b := b) q cp (pq q e) (fun h7 h8 h9 j h1 h2 => ?_) (fun j h1 h2 h3 => ?_) (fun m m4 hm u hu => ?_) (fun u hu => oo _ (by omega)) (hg q hq)
      · refine pq j (fun ej => ?_)
        subst ej
        by_cases eb : j = back b.p.f q
        · rw [← eb] at h8; omega
        · have := back_in b.p.f q j (by omega) h2; omega
      · rw [pq _ (fun ej => by rw [ej] at h3; omega)]
        exact h3
      · rw [hdj m m4]
        split
        · rename_i em
          subst em
          rw [cnt_none (fun j hj => by have := xr j hj; omega), h0]
          rfl
        · rfl

def consF (f : Nat → Int) (a : Int) : Nat → Int
  | 0 => a
  | j + 1 => f j
theorem cnt_cons (f : Nat → Int) (a c : Int) (n : Nat) : cnt (consF f a) c (n + 1) = cnt f c n + (if a = c then 1 else 0) := by
  rw [cnt_tail]
  rfl

/- What has an owner is no free room. -/
theorem owned_out {b : Bx} (h : OkP b) {k A : Nat} (hA : A < b.o.n) (hp : b.p.f (A / 8) = (k : Int) + 1) (hk : k < 4) (ho : 0 < b.o.f A) :
    (A : Int) % sz k ≤ 0 ∧ cnt (b.hd k).f (A : Int) (b.hd k).n = 0 ∧ RoomsP b.o.f (b.hd k) k (A / 8) := by
  obtain ⟨⟨hl, hs, hw⟩, hd, hg⟩ := h
  have g := hg (A / 8) (by have := hl.2.2.2.2.2.2; omega)
  unfold PageP at g
  rcases g with ⟨g, _⟩ | ⟨m, m4, g, g'⟩ | ⟨g, _⟩ | g
  · omega
  · obtain rfl : m = k := by omega
    have r := g'.1 (A % 8) (by omega)
    unfold RoomU at r
    rw [show ((A / 8 : Nat) : Int) * 8 + ((A % 8 : Nat) : Int) = A by omega, show A / 8 * 8 + A % 8 = A by omega] at r
    have e : (A : Int) % sz m = ((A % 8 : Nat) : Int) % sz m := by
      rcases sz_is m with sp | sp | sp | sp <;> rw [sp] <;> omega
    rw [e]
    exact ⟨by omega, by omega, g'⟩
  · omega
  · have := g.1; omega

/- The list with it is no longer than it may be. -/
theorem owned_room {b : Bx} (h : OkP b) {k A : Nat} (hA : A < b.o.n) (hp : b.p.f (A / 8) = (k : Int) + 1) (hk : k < 4) (ho : 0 < b.o.f A) : (b.hd k).n < b.o.n := by
  have e := sumc_all (b.hd k).f b.o.n (b.hd k).n (fun j hj => ⟨((h.2.1 k hk).2 j hj).1, ((h.2.1 k hk).2 j hj).2.1⟩)
  have l := sumc_lt (b.hd k).f (b.hd k).n A b.o.n (fun a ha => list_once h hk a ha) hA (owned_out h hA hp hk ho).2.1
  omega

/- Others of its page are still had. -/
theorem keep_give {b : Bx} (h : OkP b) (k A : Nat) (x : Sx) (hk : k < 4) (hA : A < b.o.n) (hp : b.p.f (A / 8) = (k : Int) + 1) (ho : 0 < b.o.f A)
    (xn : x.n = (b.hd k).n + 1) (xf : x.f = consF (b.hd k).f A) (hh : ¬ FreeP (b.o.put A 0).f (A / 8) 0) : OkP ((b.seth k x).own A 0) := by
  obtain ⟨oa, oc, og⟩ := owned_out h hA hp hk ho
  have ol := owned_room h hA hp hk ho
  obtain ⟨⟨hl, hs, hw⟩, hd, hg⟩ := h
  have sp := sz_is k
  obtain ⟨c, hc⟩ : ∃ c, c = (b.seth k x).own A 0 := ⟨_, rfl⟩
  have hdj : ∀ j, j < 4 → c.hd j = if j = k then x else b.hd j := fun j hj => by rw [hc]; exact hd_seth _ x hk hj
  have oo : ∀ u, u ≠ A → c.o.f u = b.o.f u := fun u hu => by rw [hc]; simp only [Bx.own, Bx.seth, Sx.put, upd]; rw [if_neg hu]
  have o0 : c.o.f A = 0 := by rw [hc]; simp only [Bx.own, Bx.seth, Sx.put, upd, if_true]
  have cp : c.p = b.p := by rw [hc]; rfl
  have co : c.o.n = b.o.n := by rw [hc]; rfl
  have cof : c.o.f = (b.o.put A 0).f := by rw [hc]; rfl
  have xc : ∀ a : Int, cnt x.f a x.n = cnt (b.hd k).f a (b.hd k).n + (if (A : Int) = a then 1 else 0) := fun a => by rw [xn, xf, cnt_cons]
  rw [← hc]
  refine ⟨⟨by rw [hc]; exact hl, by rw [hc]; exact hs, by rw [hc]; exact own_none (b := b.seth k x) hw A (by have := hl.1; show (0 : Int) ≤ b.s; omega)⟩, fun j hj => ?_, fun q hq => ?_⟩
  · unfold ListP BegP
    rw [hdj j hj, co, cp]
    split
    · rename_i e
      subst e
      refine ⟨by omega, fun i hi' => ?_⟩
      cases i with
      | zero =>
        rw [xf]
        refine ⟨by simp only [consF]; omega, by simp only [consF]; omega, ?_, oa⟩
        rw [show ((consF (b.hd j).f (A : Int) 0) / 8).toNat = A / 8 by simp only [consF]; omega]
        exact hp
      | succ i =>
        rw [xf]
        exact (hd j hj).2 i (by omega)
    · exact hd j hj
  · rw [cp] at hq
    by_cases e : q = A / 8
    · subst e
      refine .inr (.inl ⟨k, hk, by rw [cp]; exact hp, ?_⟩)
      rw [hdj k hk, if_pos rfl]
      have rr : ∀ u, u < 8 → RoomU c.o.f x k (A / 8) u := fun u hu => by
        have r := og.1 u hu
        unfold RoomU at r ⊢
        rw [xc]
        by_cases eu : u = A % 8
        · subst eu
          rw [show ((A / 8 : Nat) : Int) * 8 + ((A % 8 : Nat) : Int) = A by omega, show A / 8 * 8 + A % 8 = A by omega] at r ⊢
          rw [o0, oc, if_pos rfl]
          exact .inr ⟨by omega, .inr ⟨by omega, rfl⟩⟩
        · rw [if_neg (by omega), Nat.add_zero, oo _ (by omega)]
          exact r
      refine ⟨rr, ?_⟩
      apply Classical.byContradiction
      intro hn
      apply hh
      intro u h1 h2 h3
      rw [← cof] at h3
      have r := rr u h2
      unfold RoomU at r
      exact hn ⟨u, h2, by omega, h3⟩
    · refine page_to (b := b) q (by rw [cp]) (by rw [cp]) (fun h7 h8 h9 j h1 h2 => by rw [cp]) (fun j h1 h2 h3 => by rw [cp]; exact h3) (fun m m4 hm u hu => ?_) (fun u hu => oo _ (by omega)) (hg q hq)
      rw [hdj m m4]
      split
      · rename_i em
        subst em
        rw [xc, if_neg (by omega), Nat.add_zero]
      · rfl

/- It was the last of its page: the page is empty, and its rooms are off the list. -/
theorem keep_last {b : Bx} (h : OkP b) (k A : Nat) (y : Sx) (hk : k < 4) (hA : A < b.o.n) (hp : b.p.f (A / 8) = (k : Int) + 1) (ho : 0 < b.o.f A)
    (yn : y.n ≤ (b.hd k).n + 1) (yf : ∀ j, j < y.n → ∃ i, i < (b.hd k).n + 1 ∧ y.f j = consF (b.hd k).f A i ∧ y.f j / 8 ≠ ((A / 8 : Nat) : Int))
    (yc : ∀ a : Int, a / 8 ≠ ((A / 8 : Nat) : Int) → cnt y.f a y.n = cnt (consF (b.hd k).f A) a ((b.hd k).n + 1)) (hh : FreeP (b.o.put A 0).f (A / 8) 0) : OkP (((b.pag (A / 8) 0).seth k y).own A 0) := by
  obtain ⟨oa, oc, og⟩ := owned_out h hA hp hk ho
  have ol := owned_room h hA hp hk ho
  obtain ⟨⟨hl, hs, hw⟩, hd, hg⟩ := h
  obtain ⟨c, hc⟩ : ∃ c, c = ((b.pag (A / 8) 0).seth k y).own A 0 := ⟨_, rfl⟩
  have hdj : ∀ j, j < 4 → c.hd j = if j = k then y else b.hd j := fun j hj => by rw [hc]; exact hd_seth _ y hk hj
  have oo : ∀ u, u ≠ A → c.o.f u = b.o.f u := fun u hu => by rw [hc]; simp only [Bx.own, Bx.seth, Bx.pag, Sx.put, upd]; rw [if_neg hu]
  have pp : c.p.f (A / 8) = 0 := by rw [hc]; simp only [Bx.own, Bx.seth, Bx.pag, Sx.put, upd, if_true]
  have pq : ∀ q, q ≠ A / 8 → c.p.f q = b.p.f q := fun q hq => by rw [hc]; simp only [Bx.own, Bx.seth, Bx.pag, Sx.put, upd]; rw [if_neg hq]
  have cp : c.p.n = b.p.n := by rw [hc]; rfl
  have co : c.o.n = b.o.n := by rw [hc]; rfl
  have cof : c.o.f = (b.o.put A 0).f := by rw [hc]; rfl
  have yb : ∀ j, j < y.n → BegP b k (y.f j) ∧ y.f j / 8 ≠ ((A / 8 : Nat) : Int) := fun j hj => by
    obtain ⟨i, i1, i2, i3⟩ := yf j hj
    refine ⟨?_, i3⟩
    cases i with
    | zero => rw [i2] at i3; simp only [consF] at i3; omega
    | succ i => rw [i2]; exact (hd k hk).2 i (by omega)
  rw [← hc]
  refine ⟨⟨by rw [hc]; exact hl, by rw [hc]; exact hs, by rw [hc]; exact own_none (b := (b.pag (A / 8) 0).seth k y) hw A (by have := hl.1; show (0 : Int) ≤ b.s; omega)⟩, fun j hj => ?_, fun q hq => ?_⟩
  · unfold ListP BegP
    rw [hdj j hj, co]
    split
    · rename_i e
      subst e
      refine ⟨by omega, fun i hi' => ?_⟩
      obtain ⟨⟨g1, g2, g3, g4⟩, g5⟩ := yb i hi'
      refine ⟨g1, g2, ?_, g4⟩
      rw [pq _ (by omega)]
      exact g3
    · rename_i e
      refine ⟨(hd j hj).1, fun i hi' => ?_⟩
      obtain ⟨g1, g2, g3, g4⟩ := (hd j hj).2 i hi'
      refine ⟨g1, g2, ?_, g4⟩
      rw [pq _ (fun ee => by rw [ee] at g3; omega)]
      exact g3
  · rw [cp] at hq
    by_cases e : q = A / 8
    · subst e
      exact .inl ⟨pp, by rw [cof]; exact hh⟩
    · refine page_to (b := b) q cp (pq q e) (fun h7 h8 h9 j h1 h2 => ?_) (fun j h1 h2 h3 => ?_) (fun m m4 hm u hu => ?_) (fun u hu => oo _ (by omega)) (hg q hq)
      · refine pq j (fun ej => ?_)
        subst ej
        by_cases eb : A / 8 = back b.p.f q
        · rw [← eb] at h8; omega
        · have := back_in b.p.f q (A / 8) (by omega) h2; omega
      · rw [pq _ (fun ej => by rw [ej] at h3; omega)]
        exact h3
      · rw [hdj m m4]
        split
        · rename_i em
          subst em
          rw [yc _ (by omega), cnt_cons, if_neg (by omega), Nat.add_zero]
        · rfl

theorem seth_self (b : Bx) {k : Nat} (hk : k < 4) : b.seth k (b.hd k) = b := by
  obtain rfl | rfl | rfl | rfl : k = 0 ∨ k = 1 ∨ k = 2 ∨ k = 3 := by omega
  all_goals rfl
theorem seth_seth (b : Bx) {k : Nat} (x y : Sx) : (b.seth k x).seth k y = b.seth k y := by
  simp only [Bx.seth]
  congr 1 <;> split <;> simp_all
theorem hd_same (b : Bx) {k : Nat} (hk : k < 4) (x : Sx) : (b.seth k x).hd k = x := by rw [hd_seth b x hk hk, if_pos rfl]
theorem Dn.fre {w0 w : World} {b0 b : Bx} {B : Nat} (h : Dn w0 b0 B b w) {x : Sx} (hx : x ∈ b.lists) {k o : Nat} (e : x.a = some ⟨k, o, none⟩) {j : Nat} (hj : j < x.n) : ∃ y, w.cell? ⟨k, o + j, none⟩ = some y ∧ w.frozen? ⟨k, o + j, none⟩ = false := by
  obtain ⟨g0, g | ⟨k', o', e', g1, g2, g3, g4⟩⟩ := h.h.each x hx
  · omega
  · rw [e] at e'
    cases e'
    obtain ⟨y1, y2⟩ := g3 j (by omega)
    obtain ⟨y, hy⟩ := Option.isSome_iff_exists.1 y1
    exact ⟨y, hy, y2⟩
theorem Dn.hd {w0 w : World} {b0 b : Bx} {B : Nat} (h : Dn w0 b0 B b w) {k : Nat} (hk : k < 4) : w.cell? ⟨w0.heap.size, 2 + k, none⟩ = some (.slice (b.hd k).a (b.hd k).n (b.hd k).c) ∧ w.frozen? ⟨w0.heap.size, 2 + k, none⟩ = false := by
  obtain rfl | rfl | rfl | rfl : k = 0 ∨ k = 1 ∨ k = 2 ∨ k = 3 := by omega
  · exact h.e 2 _ rfl
  · exact h.e 3 _ rfl
  · exact h.e 4 _ rfl
  · exact h.e 5 _ rfl

theorem ck_hd {w : World} {i : Nat} {b : Bx} (h : Ck w i b.cells) {k : Nat} (hk : k < 4) : w.cell? ⟨i, 2 + k, none⟩ = some (.slice (b.hd k).a (b.hd k).n (b.hd k).c) ∧ w.frozen? ⟨i, 2 + k, none⟩ = false := by
  obtain rfl | rfl | rfl | rfl : k = 0 ∨ k = 1 ∨ k = 2 ∨ k = 3 := by omega
  · exact h 2 _ rfl
  · exact h 3 _ rfl
  · exact h 4 _ rfl
  · exact h 5 _ rfl
theorem Dn.var {w0 w1 w2 : World} {b0 b : Bx} {B k : Nat} (h : Dn w0 b0 B b w1) (hk : k < 4) {v : Int} {r : Value} (g : App1 (b.hd k) v B w1 r w2) : w2.cell? ⟨w0.heap.size, 2 + k, none⟩ = some (.slice (b.hd k).a (b.hd k).n (b.hd k).c) ∧ w2.frozen? ⟨w0.heap.size, 2 + k, none⟩ = false := by
  obtain ⟨x, rfl, xn, xf, xh, ⟨k1, o1, e1, e2, e3, e4, rfl⟩ | ⟨e1, hb, hs⟩⟩ := g
  · have lk : b.Lies k1 := ⟨_, List.mem_of_getElem? (hd_lists b hk), by omega, o1, e1⟩
    refine ck_hd (h.e.far _ ?_ _) hk
    show k1 ≠ w0.heap.size
    rcases h.k k1 lk with g | g
    · have := h.l k1 g; omega
    · omega
  · exact ck_hd (h.later hb).e hk

def CarP (p k : Nat) (x : Sx) : Prop := (x.n : Int) * sz k = 8 ∧ ∀ j, j < x.n → x.f j = (p : Int) * 8 + (j : Int) * sz k

def CarQ (b : Bx) (p k B : Nat) (w : World) (e : Ending) (w' : World) : Prop := ∃ x : Sx, e = .returned (.agg ((b.pag p ((k : Int) + 1)).seth k x).cells.toArray) ∧ CarP p k x ∧ ((b.pag p ((k : Int) + 1)).seth k x).Hl B w' ∧ Fr b w w' ∧ ∀ i, ((b.pag p ((k : Int) + 1)).seth k x).Lies i → b.Lies i ∨ w.heap.size ≤ i

set_option maxHeartbeats 8000000 in
theorem dcarve_any (b : Bx) (p k B : Nat) (w : World) (h : b.Hl B w) (hB : B ≤ w.heap.size) (hk : k < 4) (hp : p < b.p.n) (hpn : b.p.n ≤ 6) (h0 : (b.hd k).n = 0) :
    Calls Tryd.prog 93 #[.agg b.cells.toArray, .int .i64 p, .int .i64 k] w fun e w' => CarQ b p k B w e w' := by
  have S := Dn.start h 26
  obtain ⟨kp, op, ea, hc⟩ := S.h.at.p.cells (by omega)
  obtain ⟨y0, y1, y2⟩ := S.fre (x := b.p) (by simp [Bx.lists]) ea hp
  have S1 := S.write (b' := b.pag p ((k : Int) + 1)) 0 b.p rfl kp op p ea hp ((k : Int) + 1) rfl rfl (fun i hi => lies_same (b := b) (c := b.pag p ((k : Int) + 1)) rfl hi)
  clear hc S
  have HS : Hid (Dn w b B (b.pag p ((k : Int) + 1)) _) := S1
  clear S1
  simp only [Bx.cells, ea] at y1 y2 HS ⊢
  have EA : Hid (b.p.a = some ⟨kp, op, none⟩) := ea
  clear ea
  go_enter Tryd.func93, Tryd.ntmps93
  go_wp2_with (fail)
  generalize World.setCell _ ⟨kp, op + p, none⟩ (.int .i64 ((k : Int) + 1)) = w2 at HS ⊢
  clear y1 y2
  obtain ⟨c, hc⟩ : ∃ c, c = b.pag p ((k : Int) + 1) := ⟨_, rfl⟩
  have hc0 : (c.hd k).n = 0 := by rw [hc]; exact h0
  rw [← hc] at HS
  obtain ⟨z1, z2⟩ := sz_pos k
  generalize hd : sz k = d at z1 z2
  have HD : Hid (sz k = d) := hd
  have sp := sz_is k
  rw [hd] at sp
  clear hd
  go_loopw [7] (fun i wr => ∃ (m : Nat) (x : Sx), (m : Int) * d ≤ 8 ∧ i = .int .i64 ((m : Int) * d) ∧ x.n = m ∧ (∀ j, j < m → x.f j = (p : Int) * 8 + (j : Int) * d) ∧ Dn w b B (c.seth k x) wr) (fun i _ => 8 - (intOf i).toNat)
  case atStart => exact ⟨0, c.hd k, by omega, by simp, hc0, fun j hj => by omega, by rw [seth_self c hk]; exact HS.out⟩
  case round =>
    obtain ⟨m, x, hm, rfl, xn, xf, S⟩ := hrel
    by_cases hlt : (m : Int) * d < 8
    · have Hd := S.hd hk
      rw [hd_same c hk] at Hd
      obtain ⟨d1, d2⟩ := Hd
      have HS2 : Hid (Dn w b B (c.seth k x) wr) := S
      have XF : Hid (∀ j, j < m → x.f j = (p : Int) * 8 + (j : Int) * d) := xf
      clear S xf
      have md : 0 ≤ (m : Int) * d := by rcases sp with rfl | rfl | rfl | rfl <;> omega
      generalize hq : (m : Int) * d = q at hm hlt md ⊢
      have HQ : Hid ((m : Int) * d = q) := hq
      clear hq
      have fz := HS2.out.z
      have XH : Hid (x.Hl B wr) := HS2.out.h.each x (List.mem_of_getElem? (by have := hd_lists (c.seth k x) hk; rw [hd_same c hk] at this; exact this))
      have m8 : m ≤ 8 := by have := HQ.out; rcases sp with rfl | rfl | rfl | rfl <;> omega
      generalize hv : Value.slice x.a x.n x.c = v at d1
      have HV : Hid (Value.slice x.a x.n x.c = v) := hv
      clear hv
      go_wp2_with (refine wpList_app1 rfl _ _ x ((p : Int) * 8 + q) B _ wr.heap.size 0 1 rfl (by rw [HV.out]; rfl) rfl (XH.out.later (below1 _ _)) (by simp; omega) (by omega) (ck_lit #[.int .i64 ((p : Int) * 8 + q)] (heap1_0 wr _) 0 _ rfl).1 ?_)
      intro r w4 hq
      have DL := HS2.out.later (below1 wr (.cells #[.int .i64 ((p : Int) * 8 + q)] 3))
      rw [← hd_same c hk x] at hq
      obtain ⟨f1, f2⟩ := DL.var hk hq
      obtain ⟨x', rfl, xn', xf', D⟩ := DL.app hk hq
      rw [hd_same c hk] at xn' xf'
      rw [seth_seth] at D
      have HD4 : Hid (Dn w b B (c.seth k x') _) := D
      have XN : Hid (x'.n = x.n + 1) := xn'
      have XF' : Hid (x'.f = upd x.f x.n ((p : Int) * 8 + q)) := xf'
      clear D DL hq XH d1 d2 xn' xf' HS2
      go_wp2_with (fail)
      refine (size_any k (by omega) (by omega) _).mono ?_
      rintro e w5 ⟨rfl, hb⟩
      have D5 := HD4.out.later hb
      rw [HD.out]
      have HD5 : Hid (Dn w b B (c.seth k x') w5) := D5
      clear D5 HD4 hb f1 f2
      go_wp2_with (fail)
      go_roundw
      case rel => exact ⟨m + 1, x', (by
          have := HQ.out
          rcases sp with rfl | rfl | rfl | rfl <;> omega), (by
          rw [show ((m + 1 : Nat) : Int) * d = q + d by rw [← HQ.out]; rcases sp with rfl | rfl | rfl | rfl <;> omega]), by rw [XN.out, xn], (fun j hj => by
          rw [XF'.out, xn]
          simp only [upd]
          by_cases ej : j = m
          · rw [if_pos ej, ej, HQ.out]
          · rw [if_neg ej]; exact XF.out j (by omega)), HD5.out⟩
      case measure => simp [intOf]; omega
    · have CP : Hid (CarP p k x) := ⟨by rw [HD.out, xn]; omega, fun j hj => by rw [HD.out]; exact xf j (by omega)⟩
      obtain ⟨g, hg⟩ : ∃ g, g = c.seth k x := ⟨_, rfl⟩
      have HG : Hid (g = c.seth k x) := hg
      rw [← hg] at S
      clear hg
      obtain ⟨w9, e9, ck9, ow9, be9, li9⟩ := S.ans
      have tk0 := S.t 0 _ rfl
      have tk1 := S.t 1 _ rfl
      have tk2 := S.t 2 _ rfl
      have tk3 := S.t 3 _ rfl
      have tk4 := S.t 4 _ rfl
      have tk5 := S.t 5 _ rfl
      have tk6 := S.t 6 _ rfl
      have tk7 := S.t 7 _ rfl
      have tk8 := S.t 8 _ rfl
      obtain ⟨v0, v1, v2, v3, v4, v5, v6, v7, v8⟩ := nine S.e.range
      have HE : Hid (w9 = _) := e9
      clear S e9 HS xf
      go_wp2_with (fail)
      rw [← HE.out]
      rw [HG.out, hc] at ck9 ow9 li9
      exact bodyPost_ret (results_cell_mid rfl _ _ (w.heap.size + 1) 0 _ _ rfl ck9.range Tryd.underlying26 rfl (by kernel_rfl)) rfl ⟨x, rfl, CP.out, ow9, be9, li9⟩

end Go.Proofs.YtbipolfbkemmpaaDoor.Book

import Derived.Test.YtbipolfbkemmpaaDoorM20
import Derived.Test.YtbipolfbkemmpaaDoorM15
import Derived.Test.YtbipolfbkemmpaaDoorM17
import Derived.Test.YtbipolfbkemmpaaDoorM16

/- The program's first row of empty pages. -/
namespace Go.Proofs.YtbipolfbkemmpaaDoor.Dra
open Go.ChangeShapes Go.WideShapes Go.ChangeAt Go.RowKit
open Aid Lst Book Rin
set_option maxRecDepth 100000
set_option linter.unusedVariables false

/- Going through the pages: r empty ones right ahead of j. -/
structure RowI (P : Nat → Int) (n j r : Nat) : Prop where
  le : r ≤ j
  e : EmpP P (j - r) r
  m : r = j ∨ P (j - r - 1) ≠ 0
  lt : r < n
  no : ∀ q, q + n ≤ j → ¬ EmpP P q n
theorem RowI.bad {P : Nat → Int} {n j r : Nat} (h : RowI P n j r) (hp : P j ≠ 0) (h1 : 1 ≤ n) : RowI P n (j + 1) 0 :=
  ⟨by omega, fun i hi => by omega, .inr (by simpa using hp), by omega, fun q hq e => by
    by_cases e' : q + n ≤ j
    · exact h.no q e' e
    · have := e (j - q) (by omega)
      rw [show q + (j - q) = j by omega] at this
      exact hp this⟩
theorem RowI.one {P : Nat → Int} {n j r : Nat} (h : RowI P n j r) (hp : P j = 0) (hn : r + 1 < n) : RowI P n (j + 1) (r + 1) := by
  have hl := h.le
  refine ⟨by omega, fun i hi => ?_, ?_, hn, fun q hq e => ?_⟩
  · by_cases ei : i = r
    · rw [show j + 1 - (r + 1) + i = j by omega]; exact hp
    · have := h.e i (by omega)
      rw [show j + 1 - (r + 1) + i = j - r + i by omega]; exact this
  · rcases h.m with g | g
    · exact .inl (by omega)
    · refine .inr ?_
      rw [show j + 1 - (r + 1) - 1 = j - r - 1 by omega]; exact g
  · by_cases e' : q + n ≤ j
    · exact h.no q e' e
    · rcases h.m with g | g
      · omega
      · have := e (j - r - 1 - q) (by omega)
        rw [show q + (j - r - 1 - q) = j - r - 1 by omega] at this
        exact g this
theorem RowI.hit {P : Nat → Int} {n j r : Nat} (h : RowI P n j r) (hp : P j = 0) (hn : r + 1 = n) : EmpP P (j + 1 - n) n ∧ ∀ q, q < j + 1 - n → ¬ EmpP P q n := by
  have hl := h.le
  refine ⟨fun i hi => ?_, fun q hq => h.no q (by omega)⟩
  by_cases ei : i = r
  · rw [show j + 1 - n + i = j by omega]; exact hp
  · have := h.e i (by omega)
    rw [show j + 1 - n + i = j - r + i by omega]; exact this

set_option maxHeartbeats 4000000 in
theorem row_any (x : Sx) (n : Nat) (w : World) (h : x.At w) (hn : x.n ≤ 1000) (n1 : 1 ≤ n) (n4 : n ≤ 1000) :
    Calls Tryd.prog 95 #[.slice x.a x.n x.c, .int .i64 n] w fun e w' => (∃ r, e = .returned (.int .i64 r) ∧ RunP x.f x.n n r) ∧ w' = w := by
  have HS : Hid (Sl .i64 w x.a x.n x.f) := h
  clear h
  obtain ⟨a, m, c, f⟩ := x
  simp only at HS hn ⊢
  go_enter Tryd.func95, Tryd.ntmps95
  go_wp2_with (fail)
  go_loop [5, 10] (fun r i => ∃ p q : Nat, p ≤ m ∧ r = .int .i64 q ∧ i = .int .i64 p ∧ RowI f n p q) (fun r i => m - (intOf i).toNat)
  case atStart => exact ⟨0, 0, by omega, rfl, rfl, ⟨by omega, fun i hi => by omega, .inl rfl, by omega, fun q hq => by omega⟩⟩
  case round =>
    obtain ⟨p, q, hp, rfl, rfl, hr⟩ := hrel
    have HR : Hid (RowI f n p q) := hr
    have ql := hr.le
    have qn := hr.lt
    clear hr
    by_cases hlt : (p : Int) < m
    · rcases HS.out with h | ⟨b, off, rfl, h⟩
      · omega
      have c0 := h p (by omega)
      clear h
      by_cases h0 : f p = 0
      · have H0 : Hid (f p = 0) := h0
        rw [h0] at c0
        clear h0
        by_cases hq : (q : Int) + 1 = n
        · go_wp2_with (fail)
          go_ret
          have g := HR.out.hit H0.out (by omega)
          exact ⟨⟨_, rfl, .inl ⟨p + 1 - n, by omega, by omega, g.1, g.2⟩⟩, rfl⟩
        · have hb : ((q : Int) + 1 == n) = false := by simpa using hq
          go_wp2_with (fail)
          go_round
          case rel => exact ⟨p + 1, q + 1, by omega, by go_num, by go_num, HR.out.one H0.out (by omega)⟩
          case measure => simp [intOf]; omega
      · have hb : (f p == 0) = false := by simpa using h0
        have H0 : Hid (f p ≠ 0) := h0
        clear h0
        go_wp2_with (fail)
        go_round
        case rel => exact ⟨p + 1, 0, by omega, rfl, by go_num, HR.out.bad H0.out n1⟩
        case measure => simp [intOf]; omega
    · obtain rfl : p = m := by omega
      go_wp2_with (fail)
      go_ret
      exact ⟨⟨-1, rfl, .inr ⟨rfl, fun q hq => HR.out.no q hq⟩⟩, rfl⟩

/- The rooms of a page, m of them, z units each. -/
def carF (p : Nat) (z : Nat) : Nat → Int := fun j => (p : Int) * 8 + (j : Int) * z
def carL (p k : Nat) : List Int := rowU (carF p (2 ^ k)) (8 / 2 ^ k)
/- A room is put behind the last of a ring. -/
theorem Du.append {B D : Nat} {s t0 t : Nat → Nat} {b : Bx} {U : Nat → List Int} {w0 w : World} (h : Du B D s t0 w0 t b U w) (k : Nat) (hk : k < 4) (u : Int) (ty : TypeId) :
    ∃ a : Nat, w.cell? ⟨s k, 2, none⟩ = some (.pointer (some ⟨a, 0, none⟩)) ∧ w.cell? ⟨a, 1, none⟩ = some (ptr (s k)) ∧ w.frozen? ⟨a, 1, none⟩ = false ∧ w.frozen? ⟨s k, 2, none⟩ = false ∧
      ∃ t', Du B D s t0 w0 t' b (updL U k (U k ++ [u])) (((w.alloc (.cells #[.int .i64 u, ptr (s k), ptr a] ty)).setCell ⟨s k, 2, none⟩ (ptr w.heap.size)).setCell ⟨a, 1, none⟩ (ptr w.heap.size)) := by
  obtain ⟨un, nx, pv, l, g, ht⟩ := h.d.r k hk
  have ms : pv (s k) ∈ s k :: l := by rw [g.r.prev]; exact last_mem (s k) l
  have hB : B ≤ w.heap.size := Nat.le_trans (g.b (s k) List.mem_cons_self) (Nat.le_of_lt (g.m (s k) List.mem_cons_self).lt)
  have A := g.append hB u ty
  have M := g.m (s k) List.mem_cons_self
  refine ⟨pv (s k), M.p, by have := (g.m (pv (s k)) ms).n; rw [A.1] at this; exact this, (g.m (pv (s k)) ms).fn, M.fp, ?_⟩
  refine h.ring k hk ht ?_ A.2 (fun x hx => ?_)
  · refine ((Fq.of (S := fun i => i ∈ s k :: l) (below1 w _)).trans (Fq.set (fun i => i ∈ s k :: l) _ (s k) 2 List.mem_cons_self _) (fun _ _ q => q)).trans (Fq.set (fun i => i ∈ s k :: l) _ (pv (s k)) 1 ms _) (fun _ _ q => q)
  · rcases List.mem_append.1 hx with e | e
    · exact .inl (List.mem_cons_of_mem _ e)
    · simp at e; exact .inr (by omega)

theorem pag_set (b : Bx) (p : Nat) (v : Int) : (b.pag p v).lists = b.lists.set 0 (b.p.put p v) := rfl
theorem updL_two (U : Nat → List Int) (k : Nat) (v v' : List Int) : updL (updL U k v) k v' = updL U k v' := by
  funext i; simp only [updL]; split <;> rfl
theorem updL_self (U : Nat → List Int) (k : Nat) : updL U k (U k) = U := by
  funext i; simp only [updL]; split
  · rename_i e; rw [e]
  · rfl

set_option maxHeartbeats 8000000 in
theorem open_any {B D : Nat} {s t : Nat → Nat} {b : Bx} {U : Nat → List Int} {w : World} (h : Dr B D s t b U w) (p k : Nat) (hk : k < 4) (hp : p < b.p.n) (hn : b.p.n ≤ 100) :
    Calls Tryd.prog 96 #[.pointer (some ⟨D, 0, none⟩), .int .i64 p, .int .i64 k] w fun e w' => e = .returned (.tuple #[]) ∧ ∃ t', Du B D s t w t' (b.pag p ((k : Int) + 1)) (updL U k (U k ++ carL p k)) w' := by
  obtain ⟨kp, op, ep, tp⟩ := h.addr (x := b.p) (by simp [Bx.lists]) (by omega)
  obtain ⟨c1, f1⟩ := h.at (x := b.p) (by simp [Bx.lists]) ep hp
  have cD : w.cell? ⟨D, 1, none⟩ = some (.slice b.p.a b.p.n b.p.c) := h.cell 1 _ rfl
  rw [ep] at cD
  have S := (Du.start h).write (b' := b.pag p ((k : Int) + 1)) 0 b.p rfl kp op p ep hp ((k : Int) + 1) (pag_set b p _) rfl (fun i hi => lies_same (b := b) (c := b.pag p ((k : Int) + 1)) rfl hi)
  have HS : Hid (∃ t', Du B D s t w t' (b.pag p ((k : Int) + 1)) U (w.setCell ⟨kp, op + p, none⟩ (.int .i64 ((k : Int) + 1)))) := ⟨_, S⟩
  have EP : Hid (b.p.a = some ⟨kp, op, none⟩) := ep
  clear S h ep
  have main : ∀ z m : Nat, (z = 2 ^ k) → m * z = 8 → wrap64 ((2 : Int) ^ k) = z → Calls Tryd.prog 96 #[.pointer (some ⟨D, 0, none⟩), .int .i64 p, .int .i64 k] w fun e w' => e = .returned (.tuple #[]) ∧ ∃ t', Du B D s t w t' (b.pag p ((k : Int) + 1)) (updL U k (U k ++ carL p k)) w' := by
    intro z m hz hm hw
    have HM : Hid (m * z = 8) := hm
    have HZ : Hid (z = 2 ^ k) := hz
    have zp : 1 ≤ z := by rcases Nat.eq_zero_or_pos z with e | e; rw [e] at hm; omega; exact e
    have z8 : z ≤ 8 := by
      rcases Nat.eq_zero_or_pos m with e | e
      · rw [e] at hm; omega
      · have := Nat.mul_le_mul_right z e; omega
    clear hm hz
    go_enter Tryd.func96, Tryd.ntmps96
    go_wp2_with (fail)
    obtain ⟨W, eW⟩ : ∃ W, W = w.setCell ⟨kp, op + p, none⟩ (.int .i64 ((k : Int) + 1)) := ⟨_, rfl⟩
    rw [← eW] at HS ⊢
    clear eW c1 f1 cD
    go_loopw [7] (fun i wr => ∃ j : Nat, j ≤ m ∧ (∃ q : Nat, q = j * z ∧ i = .int .i64 ((p : Int) * 8 + q)) ∧ ∃ t', Du B D s t w t' (b.pag p ((k : Int) + 1)) (updL U k (U k ++ rowU (carF p z) j)) wr) (fun i _ => p * 8 + 8 - (intOf i).toNat)
    case atStart => exact ⟨0, by omega, ⟨0, by omega, by simp⟩, by simpa [rowU, updL_self] using HS.out⟩
    case round =>
      obtain ⟨j, hj, ⟨q, hq, rfl⟩, t1, hd⟩ := hrel
      have HD : Hid (Du B D s t w t1 (b.pag p ((k : Int) + 1)) (updL U k (U k ++ rowU (carF p z) j)) wr) := hd
      have HQ : Hid (q = j * z) := hq
      have qm : j < m ↔ q < 8 := by
        rw [hq, ← HM.out]
        exact ⟨fun g => Nat.mul_lt_mul_of_pos_right g zp, fun g => Nat.lt_of_mul_lt_mul_right g⟩
      have q8 : q ≤ 8 := by rw [hq, ← HM.out]; exact Nat.mul_le_mul_right z hj
      clear hq hd HS
      by_cases hlt : q < 8
      · have jm : j < m := qm.2 hlt
        clear qm
        obtain ⟨a, a1, a2, a3, a4, t2, hd2⟩ := HD.out.append k hk ((p : Int) * 8 + q) 84
        rw [updL_same, updL_two, List.append_assoc] at hd2
        have HN : Hid (Du B D s t w t2 _ _ _) := hd2
        have r1 := HD.out.d.rcell k hk
        have A2 : Hid (wr.cell? ⟨a, 1, none⟩ = some (ptr (s k)) ∧ wr.frozen? ⟨a, 1, none⟩ = false ∧ wr.frozen? ⟨s k, 2, none⟩ = false) := ⟨a2, a3, a4⟩
        clear hd2 a2 a3 a4
        go_wp2_with (fail)
        refine (follow_at a (s k) ((p : Int) * 8 + q) _ wr A2.out.1 a1 A2.out.2.1 A2.out.2.2).mono ?_
        rintro e w1 ⟨rfl, e1⟩
        have HN1 : Hid (Du B D s t w t2 (b.pag p ((k : Int) + 1)) (updL U k (U k ++ rowU (carF p z) (j + 1))) w1) := by
          unfold Hid
          rw [e1, show rowU (carF p z) (j + 1) = rowU (carF p z) j ++ [(p : Int) * 8 + q] by simp [rowU, carF, HQ.out]]
          exact HN.out
        clear e1 HN a1 r1 A2
        go_wp2_with (fail)
        go_roundw
        case rel => exact ⟨j + 1, by omega, ⟨q + z, by rw [HQ.out, Nat.succ_mul], by go_num⟩, t2, HN1.out⟩
        case measure => simp [intOf]; omega
      · clear qm
        have jm : j = m := by
          have := HM.out
          have h8 : q = 8 := by omega
          rw [HQ.out] at h8
          exact Nat.eq_of_mul_eq_mul_right zp (by omega)
        go_wp2_with (fail)
        refine bodyPost_end (v := .tuple #[]) (by simp [results, Tryd.results96]) rfl ⟨rfl, t1, ?_⟩
        have em : 8 / 2 ^ k = m := by rw [← HZ.out, ← HM.out]; exact Nat.mul_div_cancel _ zp
        unfold carL
        rw [em, ← HZ.out, ← jm]
        exact HD.out
  obtain rfl | rfl | rfl | rfl : k = 0 ∨ k = 1 ∨ k = 2 ∨ k = 3 := by omega
  · exact main 1 8 rfl rfl (by unfold wrap64; decide)
  · exact main 2 4 rfl rfl (by unfold wrap64; decide)
  · exact main 4 2 rfl rfl (by unfold wrap64; decide)
  · exact main 8 1 rfl rfl (by unfold wrap64; decide)

def Bx.setp (b : Bx) (f : Nat → Int) : Bx := ⟨b.s, ⟨b.p.a, b.p.n, b.p.c, f⟩, b.h0, b.h1, b.h2, b.h3, b.o, b.i, b.e⟩
theorem Du.page {B D : Nat} {s t0 t : Nat → Nat} {b : Bx} {f : Nat → Int} {U : Nat → List Int} {w0 w : World} (h : Du B D s t0 w0 t (Bx.setp b f) U w) {k o : Nat} (ha : b.p.a = some ⟨k, o, none⟩) (j : Nat) (hj : j < b.p.n) (v : Int) :
    Du B D s t0 w0 t (Bx.setp b (Book.upd f j v)) U (w.setCell ⟨k, o + j, none⟩ (.int .i64 v)) :=
  h.write (b' := Bx.setp b (Book.upd f j v)) 0 (Bx.setp b f).p rfl k o j ha hj v rfl rfl (fun i hi => lies_same (b := Bx.setp b f) (c := Bx.setp b (Book.upd f j v)) rfl hi)
theorem Du.owner {B D : Nat} {s t0 t : Nat → Nat} {b : Bx} {U : Nat → List Int} {w0 w : World} (h : Du B D s t0 w0 t b U w) {k o : Nat} (ha : b.o.a = some ⟨k, o, none⟩) (j : Nat) (hj : j < b.o.n) (v : Int) :
    Du B D s t0 w0 t (b.own j v) U (w.setCell ⟨k, o + j, none⟩ (.int .i64 v)) :=
  h.write (b' := b.own j v) 5 b.o rfl k o j ha hj v rfl rfl (fun i hi => lies_same (b := b) (c := b.own j v) rfl hi)
/- Rest pages from p on, so many. -/
def resF (P : Nat → Int) (p j : Nat) : Nat → Int := fun i => if p ≤ i ∧ i < p + j then 7 else P i
theorem resF_zero (P : Nat → Int) (p : Nat) : resF P p 0 = P := by
  funext i; simp only [resF]; rw [if_neg (by omega)]
theorem resF_step (P : Nat → Int) (p j : Nat) : Book.upd (resF P p j) (p + j) 7 = resF P p (j + 1) := by
  funext i; simp only [resF, Book.upd]
  by_cases e : i = p + j
  · rw [if_pos e, if_pos (by omega)]
  · rw [if_neg e]
    by_cases q : p ≤ i ∧ i < p + j
    · rw [if_pos q, if_pos (by omega)]
    · rw [if_neg q, if_neg (by omega)]
theorem resF_wide (P : Nat → Int) (p n : Nat) : Book.upd (resF P p n) p (8 + (n : Int)) = wideF P p n := by
  funext i; simp only [resF, Book.upd, wideF]
  by_cases e : i = p
  · rw [if_pos e, if_pos e]
  · rw [if_neg e, if_neg e]
    by_cases q : p ≤ i ∧ i < p + n
    · rw [if_pos q, if_pos (by omega)]
    · rw [if_neg q, if_neg (by omega)]

theorem Du.drewN {B D : Nat} {s t0 t : Nat → Nat} {b : Bx} {U : Nat → List Int} {w0 w : World} (h : Du B D s t0 w0 t b U w) (n : Nat) : Du B D s t0 w0 t b U (w.drewN n) := ⟨h.d.drewN n, h.f.drewN n, h.a⟩
/- What comes of a call of a draft. -/
def DrA (B D : Nat) (s t : Nat → Nat) (w : World) (P : Bx → (Nat → List Int) → Value → Prop) (e : Ending) (w' : World) : Prop := ∃ c V v, e = .returned v ∧ P c V v ∧ ∃ t', Du B D s t w t' c V w'
theorem DrA.mk {B D : Nat} {s t t' : Nat → Nat} {w w' : World} {P : Bx → (Nat → List Int) → Value → Prop} {v : Value} {c : Bx} {V : Nat → List Int} (hd : Du B D s t w t' c V w') (h : P c V v) : DrA B D s t w P (.returned v) w' := ⟨c, V, v, rfl, h, t', hd⟩
/- How pages are taken. -/
def TpQ (b : Bx) (U : Nat → List Int) (n t : Nat) (E : Value) (c : Bx) (V : Nat → List Int) (v : Value) : Prop :=
  V = U ∧ ((∃ p : Nat, p + n ≤ b.p.n ∧ EmpP b.p.f p n ∧ (∀ q, q < p → ¬ EmpP b.p.f q n) ∧ c = b.wide p n t ∧ v = .tuple #[.int .i64 ((p : Int) * 8), .nilIface]) ∨ ((∀ q, q + n ≤ b.p.n → ¬ EmpP b.p.f q n) ∧ c = b ∧ v = .tuple #[.int .i64 0, E]))

set_option maxHeartbeats 8000000 in
theorem takep_any {B D : Nat} {s t : Nat → Nat} {b : Bx} {U : Nat → List Int} {w : World} (h : Dr B D s t b U w) (n q : Nat) (n1 : 1 ≤ n) (n4 : n ≤ 4) (hp0 : 0 < b.p.n) (hp6 : b.p.n ≤ 6) (ho : b.o.n = b.p.n * 8) (hq : q ≤ 4) (E : Value) (hE : w.cell? ⟨3, 0, none⟩ = some E) :
    Calls Tryd.prog 87 #[.pointer (some ⟨D, 0, none⟩), .int .i64 n, .int .i64 ((q : Int) + 1)] w fun e w' => DrA B D s t w (TpQ b U n q E) e w' := by
  obtain ⟨kp, op, ep, tp⟩ := h.addr (x := b.p) (by simp [Bx.lists]) hp0
  obtain ⟨ko, oo, eo, to⟩ := h.addr (x := b.o) (by simp [Bx.lists]) (by omega)
  have pAt : b.p.At w := h.h.at.p
  have cD : w.cell? ⟨D, 1, none⟩ = some (.slice b.p.a b.p.n b.p.c) := h.cell 1 _ rfl
  have HE : Hid (w.cell? ⟨3, 0, none⟩ = some E) := hE
  have H0 : Hid (Dr B D s t b U w) := h
  have EP : Hid (b.p.a = some ⟨kp, op, none⟩) := ep
  have EO : Hid (b.o.a = some ⟨ko, oo, none⟩) := eo
  clear h ep eo
  go_enter Tryd.func87, Tryd.ntmps87
  go_wp2_with (fail)
  refine (row_any b.p n w pAt (by omega) n1 (by omega)).mono ?_
  rintro e w1 ⟨⟨r, rfl, hr⟩, rfl⟩
  rcases hr with ⟨p, hp, rfl, h1, h2⟩ | ⟨rfl, h1⟩
  · have HP : Hid (EmpP b.p.f p n ∧ ∀ q, q < p → ¬ EmpP b.p.f q n) := ⟨h1, h2⟩
    clear h1 h2 pAt hE
    rw [EP.out] at cD
    go_wp2_with (fail)
    go_loopw [22] (fun i wr => ∃ j : Nat, j ≤ n ∧ i = .int .i64 j ∧ ∃ t', Du B D s t w1 t' (Bx.setp b (resF b.p.f p j)) U wr) (fun i _ => n - (intOf i).toNat)
    case atStart => exact ⟨0, by omega, rfl, t, by rw [resF_zero]; exact Du.start H0.out⟩
    case round =>
      obtain ⟨j, hj, rfl, t1, hd⟩ := hrel
      have HD : Hid (Du B D s t w1 t1 (Bx.setp b (resF b.p.f p j)) U wr) := hd
      have c1 : wr.cell? ⟨D, 1, none⟩ = some (.slice (some ⟨kp, op, none⟩) b.p.n b.p.c) := by rw [← EP.out]; exact hd.d.cell 1 _ rfl
      clear hd cD
      by_cases hlt : (j : Int) < n
      · obtain ⟨x1, f1⟩ := HD.out.d.at (x := (Bx.setp b (resF b.p.f p j)).p) (by simp [Bx.lists]) EP.out (j := p + j) (show p + j < b.p.n by omega)
        have HN : Hid (Du B D s t w1 t1 (Bx.setp b (resF b.p.f p (j + 1))) U (wr.setCell ⟨kp, op + (p + j), none⟩ (.int .i64 7))) := by
          unfold Hid
          rw [← resF_step]
          exact HD.out.page EP.out (p + j) (by omega) 7
        have i1 : ((p : Int) + j).toNat = p + j := by omega
        have i2 : (p : Int) + j < b.p.n := by omega
        go_wp2_with (fail)
        go_roundw
        case rel => exact ⟨j + 1, by omega, by go_num, t1, HN.out⟩
        case measure => simp [intOf]; omega
      · obtain rfl : j = n := by omega
        obtain ⟨x1, f1⟩ := HD.out.d.at (x := (Bx.setp b (resF b.p.f p j)).p) (by simp [Bx.lists]) EP.out (j := p) (show p < b.p.n by omega)
        have HN : Hid (Du B D s t w1 t1 (b.wide p j q) U ((wr.setCell ⟨kp, op + p, none⟩ (.int .i64 (8 + (j : Int)))).setCell ⟨ko, oo + p * 8, none⟩ (.int .i64 ((q : Int) + 1)))) := by
          have D1 := HD.out.page EP.out p (by omega) (8 + (j : Int))
          rw [resF_wide] at D1
          exact D1.owner EO.out (p * 8) (show p * 8 < b.o.n by omega) ((q : Int) + 1)
        have hkk : ko ≠ kp ∨ True := .inr trivial
        have c6 : (wr.setCell ⟨kp, op + p, none⟩ (.int .i64 (8 + (j : Int)))).cell? ⟨D, 6, none⟩ = some (.slice (some ⟨ko, oo, none⟩) b.o.n b.o.c) := by
          have D1 := HD.out.page EP.out p (by omega) (8 + (j : Int))
          rw [← EO.out]
          exact D1.d.cell 6 _ rfl
        obtain ⟨y1, y2⟩ := (HD.out.page EP.out p (by omega) (8 + (j : Int))).d.at (x := b.o) (by simp [Bx.lists, Bx.setp]) EO.out (j := p * 8) (show p * 8 < b.o.n by omega)
        have o1 : (p : Int) * 8 < b.o.n := by omega
        have o2 : ((p : Int) * 8).toNat = p * 8 := by omega
        go_wp2_with (fail)
        refine bodyPost_ret (v := .tuple #[.int .i64 ((p : Int) * 8), .nilIface]) (by simp [results, Tryd.results87]) rfl ?_
        exact DrA.mk HN.out ⟨rfl, .inl ⟨p, by omega, HP.out.1, HP.out.2, rfl, rfl⟩⟩
  · go_wp2_with (fail)
    go_quiet (fail)
    go_wp2_with (fail)
    refine bodyPost_ret (v := .tuple #[.int .i64 0, E]) (by simp [results, Tryd.results87]) rfl ?_
    exact DrA.mk ((Du.start H0.out).drewN _) ⟨rfl, .inr ⟨h1, rfl, rfl⟩⟩

theorem run_eql_ptr {P : Program} (w : World) (t : TypeId) (x s : Nat) (h : P.underlying t = some (.pointer (P.pointee t))) (hs : (P.info? (P.pointee t)).map (·.size) = some 3) (hx : ∃ C t, w.heap[x]? = some (.cells C t (0, 0))) (hs' : ∃ C t, w.heap[s]? = some (.cells C t (0, 0))) : (binOp .eql t (.pointer (some ⟨x, 0, none⟩)) (.pointer (some ⟨s, 0, none⟩))).run P w = .ok (.bool (decide (x = s))) w := by
  have e : (Op.equal t (.pointer (some ⟨x, 0, none⟩)) (.pointer (some ⟨s, 0, none⟩))).run P w = .ok (decide (x = s)) w := run_equalIn_ptr w 9999 t x s h hs hx hs'
  simp only [binOp]
  simp [e]
/- Nothing in a ring. -/
theorem Dr.none {B D : Nat} {s t : Nat → Nat} {b : Bx} {U : Nat → List Int} {w : World} (h : Dr B D s t b U w) (k : Nat) (hk : k < 4) (hu : U k = []) : w.cell? ⟨s k, 1, none⟩ = some (.pointer (some ⟨s k, 0, none⟩)) ∧ ∃ C t, w.heap[s k]? = some (.cells C t (0, 0)) := by
  obtain ⟨un, nx, pv, l, g, ht⟩ := h.r k hk
  have M := g.m (s k) List.mem_cons_self
  have hl : l = [] := by
    have := g.u
    rw [hu] at this
    exact List.map_eq_nil_iff.1 this
  have e := g.r.next
  rw [hl] at e
  have := M.n
  rw [e] at this
  exact ⟨this, M.o⟩
/- The first room of a ring that begins at σ, and the one behind it. -/
structure Fst (σ k x n : Nat) (u : Int) (t : Nat → Nat) (w : World) : Prop where
  hc : w.cell? ⟨σ, 1, none⟩ = some (.pointer (some ⟨x, 0, none⟩))
  hu : w.cell? ⟨x, 0, none⟩ = some (.int .i64 u)
  hn : w.cell? ⟨x, 1, none⟩ = some (ptr n)
  hp : w.cell? ⟨x, 2, none⟩ = some (ptr σ)
  hb : w.cell? ⟨n, 2, none⟩ = some (ptr x)
  fa : w.frozen? ⟨σ, 1, none⟩ = false
  fb : w.frozen? ⟨n, 2, none⟩ = false
  xs : x ≠ σ
  xn : x ≠ n
  ox : ∃ C t, w.heap[x]? = some (.cells C t (0, 0))
  os : ∃ C t, w.heap[σ]? = some (.cells C t (0, 0))
  ht : t x = 3 + k
theorem Du.first {B D : Nat} {s t0 t : Nat → Nat} {b : Bx} {U : Nat → List Int} {w0 w : World} (h : Du B D s t0 w0 t b U w) (k : Nat) (hk : k < 4) {u : Int} {r : List Int} (hu : U k = u :: r) :
    ∃ x n, Fst (s k) k x n u t w ∧ ∃ t', Du B D s t0 w0 t' b (updL U k r) ((w.setCell ⟨s k, 1, none⟩ (ptr n)).setCell ⟨n, 2, none⟩ (ptr (s k))) := by
  obtain ⟨un, nx, pv, l, g, ht⟩ := h.d.r k hk
  obtain ⟨x, l2, rfl⟩ : ∃ x l2, l = x :: l2 := by
    cases l with
    | nil => have := g.u; rw [hu] at this; cases this
    | cons x l2 => exact ⟨x, l2, rfl⟩
  have hm := g.u
  rw [hu, List.map_cons] at hm
  obtain ⟨hu1, hu2⟩ := List.cons.inj hm
  have Lv := Rg.leave (l1 := []) (l2 := l2) (x := x) g
  obtain ⟨L1, L2, L3, L4⟩ := Lv
  simp only [List.getLastD_nil] at L2
  rw [L2] at L3 L4
  rw [List.nil_append, hu2] at L4
  have mx : x ∈ s k :: x :: l2 := by simp
  have ms : s k ∈ s k :: x :: l2 := List.mem_cons_self
  have mn : nx x ∈ s k :: x :: l2 := by
    rw [L1, hd_eq]
    rcases List.mem_cons.1 (head_mem (s k) l2) with e | e
    · rw [e]; exact ms
    · exact List.mem_cons_of_mem _ (List.mem_cons_of_mem _ e)
  have nd := g.r.n
  rw [List.nodup_cons, List.nodup_cons] at nd
  have xn : x ≠ nx x := fun e => by
    rw [L1, hd_eq] at e
    rcases List.mem_cons.1 (head_mem (s k) l2) with q | q
    · exact nd.1 (by rw [← q, ← e]; exact List.mem_cons_self)
    · exact nd.2.1 (by rw [e]; exact q)
  have en := g.r.next
  simp only [List.headD_cons] at en
  have M := g.m (s k) ms
  have X := g.m x mx
  have N := g.m (nx x) mn
  have pn : pv (nx x) = x := by
    have d := g.r.d.2.2
    cases l2 with
    | nil => have e1 : nx x = s k := by rw [L1]; rfl
             rw [e1]; exact d.2
    | cons z t => have e1 : nx x = z := by rw [L1]; rfl
                  rw [e1]; exact d.2.1
  refine ⟨x, nx x, ⟨by have := M.n; rw [en] at this; exact this, by have := X.u; rw [hu1] at this; exact this, X.n, by have := X.p; rw [L2] at this; exact this, by have := N.p; rw [pn] at this; exact this, M.fn, N.fp, L3, xn, X.o, M.o, ht x mx⟩, ?_⟩
  refine h.ring (l := x :: l2) (l' := l2) k hk ht ?_ L4 (fun y hy => .inl (List.mem_cons_of_mem _ (List.mem_cons_of_mem _ hy)))
  exact (Fq.set (fun i => i ∈ s k :: x :: l2) w (s k) 1 ms _).trans (Fq.set (fun i => i ∈ s k :: x :: l2) _ (nx x) 2 mn _) (fun _ _ q => q)
/- A room is put in front of a ring. -/
theorem Du.front {B D : Nat} {s t0 t : Nat → Nat} {b : Bx} {U : Nat → List Int} {w0 w : World} (h : Du B D s t0 w0 t b U w) (k : Nat) (hk : k < 4) (u : Int) (ty : TypeId) :
    ∃ n : Nat, w.cell? ⟨s k, 1, none⟩ = some (ptr n) ∧ (∃ v, w.cell? ⟨n, 2, none⟩ = some v) ∧ w.frozen? ⟨s k, 1, none⟩ = false ∧ w.frozen? ⟨n, 2, none⟩ = false ∧
      ∃ t', Du B D s t0 w0 t' b (updL U k (u :: U k)) (((w.alloc (.cells #[.int .i64 u, ptr n, ptr (s k)] ty)).setCell ⟨n, 2, none⟩ (ptr w.heap.size)).setCell ⟨s k, 1, none⟩ (ptr w.heap.size)) := by
  obtain ⟨un, nx, pv, l, g, ht⟩ := h.d.r k hk
  have ms : s k ∈ s k :: l := List.mem_cons_self
  have mn : nx (s k) ∈ s k :: l := by rw [g.r.next, hd_eq]; exact head_mem (s k) l
  have M := g.m (s k) ms
  have N := g.m _ mn
  have hB : B ≤ w.heap.size := Nat.le_trans (g.b (s k) ms) (Nat.le_of_lt M.lt)
  have A := g.follow hB u ty
  refine ⟨nx (s k), M.n, ⟨_, N.p⟩, M.fn, N.fp, ?_⟩
  refine h.ring k hk ht ?_ A (fun x hx => ?_)
  · refine ((Fq.of (S := fun i => i ∈ s k :: l) (below1 w _)).trans (Fq.set (fun i => i ∈ s k :: l) _ (nx (s k)) 2 mn _) (fun _ _ q => q)).trans (Fq.set (fun i => i ∈ s k :: l) _ (s k) 1 ms _) (fun _ _ q => q)
  · rcases List.mem_cons.1 hx with e | e
    · exact .inr (by omega)
    · exact .inl (List.mem_cons_of_mem _ e)

end Go.Proofs.YtbipolfbkemmpaaDoor.Dra

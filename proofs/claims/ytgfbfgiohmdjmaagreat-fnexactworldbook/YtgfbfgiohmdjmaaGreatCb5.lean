/- Words are read into a draft: what holds meanwhile; each function of the visitor reads one more. -/
import Derived.Test.YtgfbfgiohmdjmaaGreatCb2
import Derived.Test.YtgfbfgiohmdjmaaGreatCb4
namespace Go.Proofs.YtgfbfgiohmdjmaaGreat.Book
open Go.ChangeShapes Go.WideShapes Go.ChangeAt Go.RowKit
open Aid Lst Words
open Plat (okB okB_of getF W64 layL)
set_option maxRecDepth 100000
set_option linter.unusedVariables false

def hdC (f : Nat → Int) (S t : Nat) : List Value := [.int .i64 (cutn t (wHd f S) 0), .int .i64 (cutn t (wHd f S) 1), .int .i64 (cutn t (wHd f S) 2), .int .i64 (cutn t (wHd f S) 3)]
theorem hdC_full (f : Nat → Int) (S t : Nat) (h : 4 ≤ t) : hdC f S t = hdC f S 4 := by
  unfold hdC cutn
  rw [if_pos (by omega), if_pos (by omega), if_pos (by omega), if_pos (by omega)]
  rfl
def draftC (f : Nat → Int) (S P kl t : Nat) (b : Bx) : List Value := b.cells ++ (hdC f S t ++ [.slice (some ⟨kl, 0, none⟩) (P * 8) (P * 8)])
theorem draft_set (f : Nat → Int) (S P kl : Nat) (b : Bx) (n : Nat) (h : n < 4) : draftC f S P kl (n + 1) b = (draftC f S P kl n b).set (9 + n) (.int .i64 (wHd f S n)) := by
  match n, h with
  | 0, _ => simp [draftC, Bx.cells, hdC, cutn]
  | 1, _ => simp [draftC, Bx.cells, hdC, cutn]
  | 2, _ => simp [draftC, Bx.cells, hdC, cutn]
  | 3, _ => simp [draftC, Bx.cells, hdC, cutn]

theorem draft_get (f : Nat → Int) (S P kl t : Nat) (b : Bx) (n : Nat) (h : n < 4) : (draftC f S P kl t b)[9 + n]? = some (.int .i64 (cutn t (wHd f S) n)) := by
  match n, h with
  | 0, _ => rfl
  | 1, _ => rfl
  | 2, _ => rfl
  | 3, _ => rfl

structure RdB (W0 : World) (a : Option Addr) (N cap : Nat) (f : Nat → Int) (S P B C wb db l1 l2 l3 l4 dk kl : Nat) (b : Bx) (T : Nat) (w : World) : Prop where
  xw : w.cell? ⟨wb, 0, none⟩ = some (.slice a N cap)
  xd : w.cell? ⟨db, 0, none⟩ = some (.pointer (some ⟨dk, 0, none⟩))
  x1 : w.cell? ⟨l1, 0, none⟩ = some (.slice (some ⟨dk, 9, none⟩) 4 4)
  x2 : w.cell? ⟨l2, 0, none⟩ = some (.slice b.p.a b.p.n b.p.c)
  x3 : w.cell? ⟨l3, 0, none⟩ = some (.slice b.o.a b.o.n b.o.c)
  x4 : w.cell? ⟨l4, 0, none⟩ = some (.slice (some ⟨kl, 0, none⟩) (P * 8) (P * 8))
  d : Ck w dk (draftC f S P kl (T - (3 + S + S)) b)
  k : Fk .i64 (P * 8) w kl (cutn (min (T - (3 + S + S + 4 + P + P * 8)) (P * 8)) (wLk f S P))
  o : b.Own B C w
  m : b.m = stM f S P (min (T - 3) S) (min (T - (3 + S + S + 4)) P) (min (T - (3 + S + S + 4 + P)) (P * 8)) nilL nilL nilL nilL
  ad : Away b dk
  ak : Away b kl
  bw : Below W0.heap.size W0 w
  nh : NilH b
structure RdS (W0 : World) (B C wb db l1 l2 l3 l4 dk kl : Nat) : Prop where
  B0 : W0.heap.size ≤ B
  wb : C ≤ wb
  db : C ≤ db
  l1 : C ≤ l1
  l2 : C ≤ l2
  l3 : C ≤ l3
  l4 : C ≤ l4
  d0 : B ≤ dk
  d1 : dk < C
  k0 : B ≤ kl
  k1 : kl < C
  ne : dk ≠ kl
theorem RdB.later {W0 : World} {a : Option Addr} {N cap : Nat} {f : Nat → Int} {S P B C wb db l1 l2 l3 l4 dk kl : Nat} {b : Bx} {T : Nat} {w w1 : World} (h : RdB W0 a N cap f S P B C wb db l1 l2 l3 l4 dk kl b T w) (hb : Below w.heap.size w w1) : RdB W0 a N cap f S P B C wb db l1 l2 l3 l4 dk kl b T w1 :=
  have bl := fun (p : Addr) (v : Value) (h : w.cell? p = some v) => (hb.cell (p := p) (World.block_lt_of_cell? w p h)).trans h
  ⟨bl _ _ h.xw, bl _ _ h.xd, bl _ _ h.x1, bl _ _ h.x2, bl _ _ h.x3, bl _ _ h.x4, h.d.below hb h.d.lt, h.k.later hb, h.o.later hb, h.m, h.ad, h.ak, h.bw.trans (hb.mono h.bw.size), h.nh⟩
theorem Fk.lt0 {n : Nat} {w : World} {k : Nat} {f : Nat → Int} (h : Fk .i64 n w k f) (hn : 0 < n) : k < w.heap.size := World.block_lt_of_cell? w _ (h 0 hn).1

theorem stm_eq {f : Nat → Int} {S P t1 t2 t3 u1 u2 u3 : Nat} {h0 h1 h2 h3 : Nat × (Nat → Int)} (e1 : t1 = u1) (e2 : t2 = u2) (e3 : t3 = u3) : stM f S P t1 t2 t3 h0 h1 h2 h3 = stM f S P u1 u2 u3 h0 h1 h2 h3 := by rw [e1, e2, e3]

/- One store more. -/
theorem stepL (x : Nat) {p : Addr} {w : World} {c : Nat} (h : p.block ≠ c) (v u : Value) (hc : w.cell? ⟨c, 0, none⟩ = some u) : (w.setCell p v).cell? ⟨c, 0, none⟩ = some u := by
  rw [World.cell?_setCell_far _ _ _ _ h]; exact hc
theorem only_set {B C : Nat} {w u : World} (hb : Below w.heap.size w u) (k j : Nat) (h0 : B ≤ k) (h1 : k < C) (v : Value) : Only B C w (u.setCell ⟨k, j, none⟩ v) := (Only.of hb).trans ((Only.refl B C u).setCell k j h0 h1 v)

theorem RdB.link {W0 : World} {a : Option Addr} {N cap : Nat} {f : Nat → Int} {S P B C wb db l1 l2 l3 l4 dk kl : Nat} {b : Bx} {n : Nat} {w : World} (s : RdS W0 B C wb db l1 l2 l3 l4 dk kl) (h : RdB W0 a N cap f S P B C wb db l1 l2 l3 l4 dk kl b (3 + S + S + 4 + P + P * 8 + n) w) (hn : n < P * 8) : RdB W0 a N cap f S P B C wb db l1 l2 l3 l4 dk kl b (3 + S + S + 4 + P + P * 8 + n + 1) (w.setCell ⟨kl, n, none⟩ (.int .i64 (wLk f S P n))) := by
  have k1 := s.k1; have k0 := s.k0; have B0 := s.B0
  refine ⟨stepL 0 (by have := s.wb; simp; omega) _ _ (h.xw), stepL 0 (by have := s.db; simp; omega) _ _ (h.xd), stepL 0 (by have := s.l1; simp; omega) _ _ (h.x1), stepL 0 (by have := s.l2; simp; omega) _ _ (h.x2), stepL 0 (by have := s.l3; simp; omega) _ _ (h.x3), stepL 0 (by have := s.l4; simp; omega) _ _ (h.x4), ?_, ?_, h.o.offb h.ak n _, ?_, h.ad, h.ak, h.bw.setCell (p := ⟨kl, n, none⟩) (show W0.heap.size ≤ kl by omega) _, h.nh⟩
  · have e := h.d.far ⟨kl, n, none⟩ (fun q => s.ne q.symm) (.int .i64 (wLk f S P n))
    unfold draftC at e ⊢
    rw [hdC_full f S _ (by omega)] at e ⊢
    exact e
  · have e := h.k
    rw [show min (3 + S + S + 4 + P + P * 8 + n - (3 + S + S + 4 + P + P * 8)) (P * 8) = n by omega] at e
    rw [show min (3 + S + S + 4 + P + P * 8 + n + 1 - (3 + S + S + 4 + P + P * 8)) (P * 8) = n + 1 by omega, ← cutn_upd]
    exact e.set n _ _ (by simp [upd]) (fun i _ hne => by simp [upd, hne])
  · rw [h.m]; exact stm_eq (by omega) (by omega) (by omega)

theorem RdB.head {W0 : World} {a : Option Addr} {N cap : Nat} {f : Nat → Int} {S P B C wb db l1 l2 l3 l4 dk kl : Nat} {b : Bx} {n : Nat} {w : World} (s : RdS W0 B C wb db l1 l2 l3 l4 dk kl) (h : RdB W0 a N cap f S P B C wb db l1 l2 l3 l4 dk kl b (3 + S + S + n) w) (hn : n < 4) : RdB W0 a N cap f S P B C wb db l1 l2 l3 l4 dk kl b (3 + S + S + n + 1) (w.setCell ⟨dk, 9 + n, none⟩ (.int .i64 (wHd f S n))) := by
  have k1 := s.d1; have k0 := s.d0; have B0 := s.B0
  refine ⟨stepL 0 (by have := s.wb; simp; omega) _ _ (h.xw), stepL 0 (by have := s.db; simp; omega) _ _ (h.xd), stepL 0 (by have := s.l1; simp; omega) _ _ (h.x1), stepL 0 (by have := s.l2; simp; omega) _ _ (h.x2), stepL 0 (by have := s.l3; simp; omega) _ _ (h.x3), stepL 0 (by have := s.l4; simp; omega) _ _ (h.x4), ?_, ?_, h.o.offb h.ad (9 + n) _, ?_, h.ad, h.ak, h.bw.setCell (p := ⟨dk, 9 + n, none⟩) (show W0.heap.size ≤ dk by omega) _, h.nh⟩
  · have e := h.d
    rw [show 3 + S + S + n - (3 + S + S) = n by omega] at e
    rw [show 3 + S + S + n + 1 - (3 + S + S) = n + 1 by omega, draft_set f S P kl b n hn]
    exact e.set (9 + n) _
  · have e := h.k.far ⟨dk, 9 + n, none⟩ s.ne (.int .i64 (wHd f S n))
    rw [show min (3 + S + S + n - (3 + S + S + 4 + P + P * 8)) (P * 8) = 0 by omega] at e
    rw [show min (3 + S + S + n + 1 - (3 + S + S + 4 + P + P * 8)) (P * 8) = 0 by omega]
    exact e
  · rw [h.m]; exact stm_eq (by omega) (by omega) (by omega)

theorem RdB.page {W0 : World} {a : Option Addr} {N cap : Nat} {f : Nat → Int} {S P B C wb db l1 l2 l3 l4 dk kl : Nat} {b : Bx} {n : Nat} {w : World} (s : RdS W0 B C wb db l1 l2 l3 l4 dk kl) (h : RdB W0 a N cap f S P B C wb db l1 l2 l3 l4 dk kl b (3 + S + S + 4 + n) w) (hn : n < P) {kk : Nat} (ek : b.p.a = some ⟨kk, 0, none⟩) (b0 : B ≤ kk) (b1 : kk < C) : RdB W0 a N cap f S P B C wb db l1 l2 l3 l4 dk kl (b.setp n (rP f S n)) (3 + S + S + 4 + n + 1) (w.setCell ⟨kk, n, none⟩ (.int .i64 (rP f S n))) := by
  have B0 := s.B0
  have nn : b.p.n = P := congrArg (fun m => m.p.1) h.m
  have nd : kk ≠ dk := h.ad b.p (by simp [Bx.lists]) kk 0 ek (by omega)
  have nk : kk ≠ kl := h.ak b.p (by simp [Bx.lists]) kk 0 ek (by omega)
  have aw : ∀ z, Away b z → Away (b.setp n (rP f S n)) z := fun z ha x hx k o e hp => by
    simp only [Bx.setp, Bx.lists, List.mem_cons, List.not_mem_nil, or_false] at hx
    rcases hx with rfl | rfl | rfl | rfl | rfl | rfl | rfl | rfl
    all_goals first | exact ha b.p (by simp [Bx.lists]) k o e hp | exact ha _ (by simp [Bx.lists]) k o e hp
  refine ⟨stepL 0 (by have := s.wb; simp; omega) _ _ (h.xw), stepL 0 (by have := s.db; simp; omega) _ _ (h.xd), stepL 0 (by have := s.l1; simp; omega) _ _ (h.x1), stepL 0 (by have := s.l2; simp; omega) _ _ (h.x2), stepL 0 (by have := s.l3; simp; omega) _ _ (h.x3), stepL 0 (by have := s.l4; simp; omega) _ _ (h.x4), ?_, ?_, h.o.write 0 b.p rfl kk n ek (by omega) _ rfl, ?_, aw _ h.ad, aw _ h.ak, h.bw.setCell (p := ⟨kk, n, none⟩) (show W0.heap.size ≤ kk by omega) _, h.nh⟩
  · have e := h.d.far ⟨kk, n, none⟩ nd (.int .i64 (rP f S n))
    unfold draftC at e ⊢
    rw [hdC_full f S _ (by omega)] at e ⊢
    exact e
  · have e := h.k.far ⟨kk, n, none⟩ nk (.int .i64 (rP f S n))
    rw [show min (3 + S + S + 4 + n - (3 + S + S + 4 + P + P * 8)) (P * 8) = 0 by omega] at e
    rw [show min (3 + S + S + 4 + n + 1 - (3 + S + S + 4 + P + P * 8)) (P * 8) = 0 by omega]
    exact e
  · rw [st_page (h.m.trans (stm_eq (u1 := S) (u2 := n) (u3 := 0) (by omega) (by omega) (by omega)))]; exact stm_eq (by omega) (by omega) (by omega)

theorem RdB.tag {W0 : World} {a : Option Addr} {N cap : Nat} {f : Nat → Int} {S P B C wb db l1 l2 l3 l4 dk kl : Nat} {b : Bx} {n : Nat} {w : World} (s : RdS W0 B C wb db l1 l2 l3 l4 dk kl) (h : RdB W0 a N cap f S P B C wb db l1 l2 l3 l4 dk kl b (3 + S + S + 4 + P + n) w) (hn : n < P * 8) {kk : Nat} (ek : b.o.a = some ⟨kk, 0, none⟩) (b0 : B ≤ kk) (b1 : kk < C) : RdB W0 a N cap f S P B C wb db l1 l2 l3 l4 dk kl (b.seto n (rO f S P n)) (3 + S + S + 4 + P + n + 1) (w.setCell ⟨kk, n, none⟩ (.int .i64 (rO f S P n))) := by
  have B0 := s.B0
  have nn : b.o.n = P * 8 := congrArg (fun m => m.o.1) h.m
  have nd : kk ≠ dk := h.ad b.o (by simp [Bx.lists]) kk 0 ek (by omega)
  have nk : kk ≠ kl := h.ak b.o (by simp [Bx.lists]) kk 0 ek (by omega)
  have aw : ∀ z, Away b z → Away (b.seto n (rO f S P n)) z := fun z ha x hx k o e hp => by
    simp only [Bx.seto, Bx.lists, List.mem_cons, List.not_mem_nil, or_false] at hx
    rcases hx with rfl | rfl | rfl | rfl | rfl | rfl | rfl | rfl
    all_goals first | exact ha b.o (by simp [Bx.lists]) k o e hp | exact ha _ (by simp [Bx.lists]) k o e hp
  refine ⟨stepL 0 (by have := s.wb; simp; omega) _ _ (h.xw), stepL 0 (by have := s.db; simp; omega) _ _ (h.xd), stepL 0 (by have := s.l1; simp; omega) _ _ (h.x1), stepL 0 (by have := s.l2; simp; omega) _ _ (h.x2), stepL 0 (by have := s.l3; simp; omega) _ _ (h.x3), stepL 0 (by have := s.l4; simp; omega) _ _ (h.x4), ?_, ?_, h.o.write 5 b.o rfl kk n ek (by omega) _ rfl, ?_, aw _ h.ad, aw _ h.ak, h.bw.setCell (p := ⟨kk, n, none⟩) (show W0.heap.size ≤ kk by omega) _, h.nh⟩
  · have e := h.d.far ⟨kk, n, none⟩ nd (.int .i64 (rO f S P n))
    unfold draftC at e ⊢
    rw [hdC_full f S _ (by omega)] at e ⊢
    exact e
  · have e := h.k.far ⟨kk, n, none⟩ nk (.int .i64 (rO f S P n))
    rw [show min (3 + S + S + 4 + P + n - (3 + S + S + 4 + P + P * 8)) (P * 8) = 0 by omega] at e
    rw [show min (3 + S + S + 4 + P + n + 1 - (3 + S + S + 4 + P + P * 8)) (P * 8) = 0 by omega]
    exact e
  · rw [st_tag (h.m.trans (stm_eq (u1 := S) (u2 := P) (u3 := n) (by omega) (by omega) (by omega)))]; exact stm_eq (by omega) (by omega) (by omega)

theorem RdB.reg {W0 : World} {a : Option Addr} {N cap : Nat} {f : Nat → Int} {S P B C wb db l1 l2 l3 l4 dk kl : Nat} {b : Bx} {n : Nat} {w : World} (s : RdS W0 B C wb db l1 l2 l3 l4 dk kl) (h : RdB W0 a N cap f S P B C wb db l1 l2 l3 l4 dk kl b (3 + n) w) (hn : n < S) {ki ke : Nat} (ei : b.i.a = some ⟨ki, 0, none⟩) (ee : b.e.a = some ⟨ke, 0, none⟩) (b0 : B ≤ ki) (b1 : ki < C) (c0 : B ≤ ke) (c1 : ke < C) : RdB W0 a N cap f S P B C wb db l1 l2 l3 l4 dk kl ((b.seti n (rI f n)).sete n (rE f n)) (3 + n + 1) ((w.setCell ⟨ki, n, none⟩ (.int .i64 (rI f n))).setCell ⟨ke, n, none⟩ (.int .i64 (rE f n))) := by
  have B0 := s.B0
  have ni : b.i.n = S := congrArg (fun m => m.i.1) h.m
  have ne : b.e.n = S := congrArg (fun m => m.e.1) h.m
  have nd : ki ≠ dk := h.ad b.i (by simp [Bx.lists]) ki 0 ei (by omega)
  have nk : ki ≠ kl := h.ak b.i (by simp [Bx.lists]) ki 0 ei (by omega)
  have nd' : ke ≠ dk := h.ad b.e (by simp [Bx.lists]) ke 0 ee (by omega)
  have nk' : ke ≠ kl := h.ak b.e (by simp [Bx.lists]) ke 0 ee (by omega)
  have aw : ∀ z, Away b z → Away ((b.seti n (rI f n)).sete n (rE f n)) z := fun z ha x hx k o e hp => by
    simp only [Bx.seti, Bx.sete, Bx.lists, List.mem_cons, List.not_mem_nil, or_false] at hx
    rcases hx with rfl | rfl | rfl | rfl | rfl | rfl | rfl | rfl
    all_goals first | exact ha b.i (by simp [Bx.lists]) k o e hp | exact ha b.e (by simp [Bx.lists]) k o e hp | exact ha _ (by simp [Bx.lists]) k o e hp
  refine ⟨stepL 0 (by have := s.wb; simp; omega) _ _ (stepL 0 (by have := s.wb; simp; omega) _ _ (h.xw)), stepL 0 (by have := s.db; simp; omega) _ _ (stepL 0 (by have := s.db; simp; omega) _ _ (h.xd)), stepL 0 (by have := s.l1; simp; omega) _ _ (stepL 0 (by have := s.l1; simp; omega) _ _ (h.x1)), stepL 0 (by have := s.l2; simp; omega) _ _ (stepL 0 (by have := s.l2; simp; omega) _ _ (h.x2)), stepL 0 (by have := s.l3; simp; omega) _ _ (stepL 0 (by have := s.l3; simp; omega) _ _ (h.x3)), stepL 0 (by have := s.l4; simp; omega) _ _ (stepL 0 (by have := s.l4; simp; omega) _ _ (h.x4)), ?_, ?_, (h.o.write (b' := b.seti n (rI f n)) 6 b.i rfl ki n ei (by omega) _ rfl).write 7 b.e rfl ke n ee (by omega) _ rfl, ?_, aw _ h.ad, aw _ h.ak, (h.bw.setCell (p := ⟨ki, n, none⟩) (show W0.heap.size ≤ ki by omega) _).setCell (p := ⟨ke, n, none⟩) (show W0.heap.size ≤ ke by omega) _, h.nh⟩
  · have e := (h.d.far ⟨ki, n, none⟩ nd (.int .i64 (rI f n))).far ⟨ke, n, none⟩ nd' (.int .i64 (rE f n))
    unfold draftC at e ⊢
    rw [show 3 + n - (3 + S + S) = 0 by omega] at e
    rw [show 3 + n + 1 - (3 + S + S) = 0 by omega]
    exact e
  · have e := (h.k.far ⟨ki, n, none⟩ nk (.int .i64 (rI f n))).far ⟨ke, n, none⟩ nk' (.int .i64 (rE f n))
    rw [show min (3 + n - (3 + S + S + 4 + P + P * 8)) (P * 8) = 0 by omega] at e
    rw [show min (3 + n + 1 - (3 + S + S + 4 + P + P * 8)) (P * 8) = 0 by omega]
    exact e
  · rw [st_reg (h.m.trans (stm_eq (u1 := n) (u2 := 0) (u3 := 0) (by omega) (by omega) (by omega)))]; exact stm_eq (by omega) (by omega) (by omega)

theorem off_block {W0 : World} {a : Option Addr} {N k : Nat} {f : Nat → Int} (sl : Sl .u64 W0 a N f) (hN : 0 < N) (hk : W0.heap.size ≤ k) : ∀ ka oa, a = some ⟨ka, oa, none⟩ → ka ≠ k := fun ka oa e hq => by
  obtain ⟨k', o', e', c⟩ := sl_cell sl hN
  rw [e] at e'; cases e'
  have := World.block_lt_of_cell? W0 _ c
  simp at this
  omega

theorem rsees_reg {W0 : World} {a : Option Addr} {N cap : Nat} {f : Nat → Int} {S P B C wb db l1 l2 l3 l4 dk kl : Nat} (s : RdS W0 B C wb db l1 l2 l3 l4 dk kl) (sl : Sl .u64 W0 a N f) (hw : W64 f) (hN : 3 + S + S + 4 + P + P * 8 + P * 8 ≤ N) : Sees (fun T w => ∃ b, RdB W0 a N cap f S P B C wb db l1 l2 l3 l4 dk kl b T w) B C 102 #[.pointer (some ⟨wb, 0, none⟩), .pointer (some ⟨db, 0, none⟩)] 3 S := fun n w hn _ ⟨b, h⟩ => by
  have ni : b.i.n = S := congrArg (fun m => m.i.1) h.m
  have ne : b.e.n = S := congrArg (fun m => m.e.1) h.m
  obtain ⟨ki, ei, i0, i1, fi⟩ := h.o.row (x := b.i) (by simp [Bx.lists]) (by omega)
  obtain ⟨ke, ee, j0, j1, fe⟩ := h.o.row (x := b.e) (by simp [Bx.lists]) (by omega)
  have B0 := s.B0
  have nie : ki ≠ ke := by
    have ap := h.o.apart
    simp only [Bx.lists, List.pairwise_cons] at ap
    rcases ap.2.2.2.2.2.2.1 b.e (by simp) with q | q | ⟨j, k, q1, q2, q3⟩
    · omega
    · omega
    · rw [ei] at q1; rw [ee] at q2; cases q1; cases q2; exact q3
  have c7 := (h.d 7 _ rfl).1
  have c8 := (h.d 8 _ rfl).1
  rw [ei, ni] at c7
  rw [ee, ne] at c8
  have q1 := s.wb; have q2 := s.db
  refine (rreg_any wb db dk ki ke n (3 + n) S b.i.c S b.e.c a N cap f _ _ w h.xw (sl.later h.bw) h.xd c7 c8 (fi n (by omega)).1 (fi n (by omega)).2 (fe n (by omega)).1 (fe n (by omega)).2 hn hn (by omega) hw (by omega) (by omega) (off_block sl (by omega) (by omega)) (fun e => h.ad b.i (by simp [Bx.lists]) ki 0 ei (by omega) e.symm) (by omega) (by omega) (off_block sl (by omega) (by omega)) (fun e => h.ad b.e (by simp [Bx.lists]) ke 0 ee (by omega) e.symm) nie).mono ?_
  rintro e w' ⟨he, u, hb, rfl⟩
  exact ⟨he, ⟨_, (h.later hb).reg s hn ei ee i0 i1 j0 j1⟩, (only_set hb ki n i0 i1 _).trans ((Only.refl B C _).setCell ke n j0 j1 _)⟩

theorem rsees_head {W0 : World} {a : Option Addr} {N cap : Nat} {f : Nat → Int} {S P B C wb db l1 l2 l3 l4 dk kl : Nat} (s : RdS W0 B C wb db l1 l2 l3 l4 dk kl) (sl : Sl .u64 W0 a N f) (hw : W64 f) (hN : 3 + S + S + 4 + P + P * 8 + P * 8 ≤ N) : Sees (fun T w => ∃ b, RdB W0 a N cap f S P B C wb db l1 l2 l3 l4 dk kl b T w) B C 100 #[.pointer (some ⟨wb, 0, none⟩), .pointer (some ⟨l1, 0, none⟩)] (3 + S + S) 4 := fun n w hn _ ⟨b, h⟩ => by
  have B0 := s.B0
  have q1 := s.wb; have q2 := s.l1; have q3 := s.d0; have q4 := s.d1
  have hx : ∃ x, w.cell? ⟨dk, 9 + n, none⟩ = some (.int .i64 x) ∧ w.frozen? ⟨dk, 9 + n, none⟩ = false := by
    exact ⟨_, h.d (9 + n) _ (draft_get f S P kl _ b n hn)⟩
  obtain ⟨x, hc, hf⟩ := hx
  refine (rcopy_any wb l1 dk 9 n (3 + S + S + n) 4 4 a N cap f x w h.xw (sl.later h.bw) h.x1 hc hf hn (by omega) hw (by omega) (by omega) (off_block sl (by omega) (by omega))).mono ?_
  rintro e w' ⟨he, u, hb, rfl⟩
  exact ⟨he, ⟨_, (h.later hb).head s hn⟩, only_set hb dk (9 + n) q3 q4 _⟩

theorem rsees_link {W0 : World} {a : Option Addr} {N cap : Nat} {f : Nat → Int} {S P B C wb db l1 l2 l3 l4 dk kl : Nat} (s : RdS W0 B C wb db l1 l2 l3 l4 dk kl) (sl : Sl .u64 W0 a N f) (hw : W64 f) (hN : 3 + S + S + 4 + P + P * 8 + P * 8 ≤ N) : Sees (fun T w => ∃ b, RdB W0 a N cap f S P B C wb db l1 l2 l3 l4 dk kl b T w) B C 100 #[.pointer (some ⟨wb, 0, none⟩), .pointer (some ⟨l4, 0, none⟩)] (3 + S + S + 4 + P + P * 8) (P * 8) := fun n w hn _ ⟨b, h⟩ => by
  have B0 := s.B0
  have q1 := s.wb; have q2 := s.l4; have q3 := s.k0; have q4 := s.k1
  have c := h.k n hn
  refine (rcopy_any wb l4 kl 0 n (3 + S + S + 4 + P + P * 8 + n) (P * 8) (P * 8) a N cap f _ w h.xw (sl.later h.bw) h.x4 (by simpa using c.1) (by simpa using c.2) hn (by omega) hw (by omega) (by omega) (off_block sl (by omega) (by omega))).mono ?_
  rintro e w' ⟨he, u, hb, rfl⟩
  simp only [Nat.zero_add]
  exact ⟨he, ⟨_, (h.later hb).link s hn⟩, only_set hb kl n q3 q4 _⟩

theorem rsees_page {W0 : World} {a : Option Addr} {N cap : Nat} {f : Nat → Int} {S P B C wb db l1 l2 l3 l4 dk kl : Nat} (s : RdS W0 B C wb db l1 l2 l3 l4 dk kl) (sl : Sl .u64 W0 a N f) (hw : W64 f) (hN : 3 + S + S + 4 + P + P * 8 + P * 8 ≤ N) : Sees (fun T w => ∃ b, RdB W0 a N cap f S P B C wb db l1 l2 l3 l4 dk kl b T w) B C 100 #[.pointer (some ⟨wb, 0, none⟩), .pointer (some ⟨l2, 0, none⟩)] (3 + S + S + 4) (P) := fun n w hn _ ⟨b, h⟩ => by
  have nn : b.p.n = P := congrArg (fun m => m.p.1) h.m
  obtain ⟨kk, ek, i0, i1, fk⟩ := h.o.row (x := b.p) (by simp [Bx.lists]) (by omega)
  have B0 := s.B0
  have q1 := s.wb; have q2 := s.l2
  have c := fk n (by omega)
  have cx := h.x2
  rw [ek, nn] at cx
  refine (rcopy_any wb l2 kk 0 n (3 + S + S + 4 + n) (P) b.p.c a N cap f _ w h.xw (sl.later h.bw) cx (by simpa using c.1) (by simpa using c.2) hn (by omega) hw (by omega) (by omega) (off_block sl (by omega) (by omega))).mono ?_
  rintro e w' ⟨he, u, hb, rfl⟩
  simp only [Nat.zero_add]
  exact ⟨he, ⟨_, (h.later hb).page s hn ek i0 i1⟩, only_set hb kk n i0 i1 _⟩

theorem rsees_tag {W0 : World} {a : Option Addr} {N cap : Nat} {f : Nat → Int} {S P B C wb db l1 l2 l3 l4 dk kl : Nat} (s : RdS W0 B C wb db l1 l2 l3 l4 dk kl) (sl : Sl .u64 W0 a N f) (hw : W64 f) (hN : 3 + S + S + 4 + P + P * 8 + P * 8 ≤ N) : Sees (fun T w => ∃ b, RdB W0 a N cap f S P B C wb db l1 l2 l3 l4 dk kl b T w) B C 100 #[.pointer (some ⟨wb, 0, none⟩), .pointer (some ⟨l3, 0, none⟩)] (3 + S + S + 4 + P) (P * 8) := fun n w hn _ ⟨b, h⟩ => by
  have nn : b.o.n = P * 8 := congrArg (fun m => m.o.1) h.m
  obtain ⟨kk, ek, i0, i1, fk⟩ := h.o.row (x := b.o) (by simp [Bx.lists]) (by omega)
  have B0 := s.B0
  have q1 := s.wb; have q2 := s.l3
  have c := fk n (by omega)
  have cx := h.x3
  rw [ek, nn] at cx
  refine (rcopy_any wb l3 kk 0 n (3 + S + S + 4 + P + n) (P * 8) b.o.c a N cap f _ w h.xw (sl.later h.bw) cx (by simpa using c.1) (by simpa using c.2) hn (by omega) hw (by omega) (by omega) (off_block sl (by omega) (by omega))).mono ?_
  rintro e w' ⟨he, u, hb, rfl⟩
  simp only [Nat.zero_add]
  exact ⟨he, ⟨_, (h.later hb).tag s hn ek i0 i1⟩, only_set hb kk n i0 i1 _⟩

theorem reading_any {W0 : World} {a : Option Addr} {N cap : Nat} {f : Nat → Int} {S P B C wb db l1 l2 l3 l4 dk kl : Nat} (s : RdS W0 B C wb db l1 l2 l3 l4 dk kl) (sl : Sl .u64 W0 a N f) (hw : W64 f) (hN : 3 + S + S + 4 + P + P * 8 + P * 8 ≤ N) (hS : S ≤ 4) (hP : P ≤ 6) (w : World) (hC : C ≤ w.heap.size) (h0 : ∃ b, RdB W0 a N cap f S P B C wb db l1 l2 l3 l4 dk kl b 3 w) :
    Calls Tryz.prog 69 #[.agg #[Value.nilFunc, .func (.func 102) #[] #[.pointer (some ⟨wb, 0, none⟩), .pointer (some ⟨db, 0, none⟩)], Value.nilFunc, .func (.func 100) #[] #[.pointer (some ⟨wb, 0, none⟩), .pointer (some ⟨l1, 0, none⟩)], .func (.func 100) #[] #[.pointer (some ⟨wb, 0, none⟩), .pointer (some ⟨l2, 0, none⟩)], .func (.func 100) #[] #[.pointer (some ⟨wb, 0, none⟩), .pointer (some ⟨l3, 0, none⟩)], .func (.func 100) #[] #[.pointer (some ⟨wb, 0, none⟩), .pointer (some ⟨l4, 0, none⟩)], Value.nilFunc], .agg (ints (layL S P)).toArray] w fun e w' => e = .returned (.tuple #[]) ∧ (∃ b, RdB W0 a N cap f S P B C wb db l1 l2 l3 l4 dk kl b (3 + S + S + 4 + P + P * 8 + P * 8) w') ∧ Only B C w w' :=
  visit_any (fun T w => ∃ b, RdB W0 a N cap f S P B C wb db l1 l2 l3 l4 dk kl b T w) (fun T w w1 ⟨b, h⟩ hb => ⟨b, h.later hb⟩) B C S P 102 100 100 100 100 _ _ _ _ _ hS hP (fun _ _ => by kernel_rfl) (fun _ _ => by kernel_rfl) (fun _ _ => by kernel_rfl) (fun _ _ => by kernel_rfl) (fun _ _ => by kernel_rfl) (rsees_reg s sl hw hN) (rsees_head s sl hw hN) (rsees_page s sl hw hN) (rsees_tag s sl hw hN) (rsees_link s sl hw hN)
    (fun w ⟨b, h⟩ => ⟨b, h.xw, h.xd, h.x1, h.x2, h.x3, h.x4, by rw [show 3 + S + S - (3 + S + S) = 3 + S - (3 + S + S) by omega]; exact h.d, by rw [show min (3 + S + S - (3 + S + S + 4 + P + P * 8)) (P * 8) = min (3 + S - (3 + S + S + 4 + P + P * 8)) (P * 8) by omega]; exact h.k, h.o, h.m.trans (stm_eq (by omega) (by omega) (by omega)), h.ad, h.ak, h.bw, h.nh⟩) w hC h0

end Go.Proofs.YtgfbfgiohmdjmaaGreat.Book

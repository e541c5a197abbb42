import Derived.Test.YtbipolfbkemmpaaDoorM49

/- How large a house is, drawn. -/
namespace Go.Proofs.YtbipolfbkemmpaaDoor.Book
open Go.ChangeShapes Go.WideShapes Go.ChangeAt Go.RowKit
open Aid Lst Draw
set_option maxRecDepth 100000
set_option linter.unusedVariables false

set_option maxHeartbeats 4000000 in
theorem lcfg_any (r : Nat) (ra : Option Addr) (rl rc : Nat) (zs : List Int) (p : Int) (w : World) (hr : Rd w r ra rl rc zs p) (hp : p ≤ 1000000000) :
    Calls Tryd.prog 48 #[.pointer (some ⟨r, 0, none⟩)] w fun e w' => ∃ s q l : Int, Plat.okB s q l = true ∧ e = .returned (.agg #[.int .i64 s, .int .i64 q, .int .i64 l]) ∧ Rd w' r ra rl rc zs (p + 1 + 1 + 1) ∧ Save r w w' := by
  have p0 := hr.p0
  have rlt := hr.lt
  have old := hr.old
  have R1 := rd_later hr (below1 w (.cells #[.int .i64 0, .int .i64 0, .int .i64 0] 62))
  have T1 := ck_lit #[.int .i64 0, .int .i64 0, .int .i64 0] (heap1_0 w (.cells #[.int .i64 0, .int .i64 0, .int .i64 0] 62))
  have V1 : Save r w (w.alloc (.cells #[.int .i64 0, .int .i64 0, .int .i64 0] 62)) := save_of (below1 w _)
  have z1 : w.heap.size < (w.alloc (.cells #[.int .i64 0, .int .i64 0, .int .i64 0] 62)).heap.size := by simp
  go_enter Tryd.func48, Tryd.ntmps48
  go_wp2_with (fail)
  generalize w.alloc (.cells #[.int .i64 0, .int .i64 0, .int .i64 0] 62) = W at R1 T1 V1 z1 ⊢
  refine (pick_on r ra rl rc zs p 3 W R1 (by omega)).mono ?_
  rintro e w2 ⟨x, rfl, x0, x1, -, R2, s2⟩
  have x1' := x1 (by omega)
  have T2 := ck_save T1 s2 (by omega) z1
  have z2 := s2.size
  clear x1 R1 T1
  have HT2 : Hid (Ck w2 w.heap.size _) := T2
  clear T2
  go_wp2_with (fail)
  refine (pick_on r ra rl rc zs (p + 1) 3 w2 R2 (by omega)).mono ?_
  rintro e w3 ⟨y, rfl, y0, y1, -, R3, s3⟩
  have y1' := y1 (by omega)
  have T3 := ck_save HT2.out s3 (by omega) (by omega)
  have z3 := s3.size
  clear y1 R2 HT2
  have HT3 : Hid (Ck w3 w.heap.size _) := T3
  clear T3
  go_wp2_with (fail)
  refine (pick_on r ra rl rc zs (p + 1 + 1) 3 w3 R3 (by omega)).mono ?_
  rintro e w4 ⟨z, rfl, z0, z1', -, R4, s4⟩
  have z1'' := z1' (by omega)
  have T4 := ck_save HT3.out s4 (by omega) (by omega)
  have z4' := s4.size
  clear z1' R3 HT3
  have th : w4.there w.heap.size 0 3 := fun j hj => by
    have g := T4 j _ (List.getElem?_eq_getElem (show j < [Value.int .i64 0, .int .i64 0, .int .i64 0].length from hj))
    rw [Nat.zero_add, g.1]
    exact ⟨rfl, g.2⟩
  have V4 : Save r w w4 := ((V1.trans s2).trans s3).trans s4
  have sv : Save w.heap.size w4 (w4.setCells w.heap.size 0 [.int .i64 (1 + x), .int .i64 (1 + y), .int .i64 (1 + z)]) := save_setCells _ _ _ (Save.refl _ _)
  have hb : Below w.heap.size w4 (w4.setCells w.heap.size 0 [.int .i64 (1 + x), .int .i64 (1 + y), .int .i64 (1 + z)]) := sv.below (Nat.le_refl _) (by omega)
  have HQ : Hid ((w4.setCells w.heap.size 0 [.int .i64 (1 + x), .int .i64 (1 + y), .int .i64 (1 + z)]).rangeAt w.heap.size 0 [.int .i64 (1 + x), .int .i64 (1 + y), .int .i64 (1 + z)] ∧ Rd (w4.setCells w.heap.size 0 [.int .i64 (1 + x), .int .i64 (1 + y), .int .i64 (1 + z)]) r ra rl rc zs (p + 1 + 1 + 1) ∧ Save r w (w4.setCells w.heap.size 0 [.int .i64 (1 + x), .int .i64 (1 + y), .int .i64 (1 + z)])) :=
    ⟨World.rangeAt_setCells_same _ _ _ _ th, rd_below R4 hb (by omega) hr.old, save_below V4 hb (Nat.le_refl _)⟩
  have HT : Hid (w4.there w.heap.size 0 3) := th
  clear th sv hb T4 V4 V1 R4 s2 s3 s4
  go_wp2_with (refine wpList_store_mid rfl 62 _ _ rfl w.heap.size 0 #[.int .i64 (1 + x), .int .i64 (1 + y), .int .i64 (1 + z)] rfl rfl HT.out (by kernel_rfl) (by simp [Value.oneCell']) ?_)
  exact bodyPost_ret (results_cell_mid rfl _ _ w.heap.size 0 _ _ rfl HQ.out.1 Tryd.underlying62 rfl (by kernel_rfl)) rfl ⟨1 + x, 1 + y, 1 + z, by unfold Plat.okB; exact decide_eq_true (by omega), rfl, HQ.out.2.1, HQ.out.2.2⟩

/- What a drawn book's owners are, bent or not. -/
def OB (b : Bx) : Prop := b.o.n ≤ 1000 ∧ ∀ u, u < b.o.n → 0 ≤ b.o.f u ∧ b.o.f u ≤ 1000
theorem OB.put {b : Bx} (h : OB b) (j : Nat) {y : Int} (h0 : 0 ≤ y) (h1 : y ≤ 1000) : OB { b with o := b.o.put j y } := ⟨h.1, fun u hu => by
  show 0 ≤ upd b.o.f j y u ∧ upd b.o.f j y u ≤ 1000
  unfold upd
  split
  · exact ⟨h0, h1⟩
  · exact h.2 u hu⟩
/- A book in a struct of the call's own at block v, its lists in new memory; the answer's struct is the first of the call. -/
structure Ln (w0 : World) (r : Nat) (ra : Option Addr) (rl rc : Nat) (zs : List Int) (P : Int) (b : Bx) (v : Nat) (w : World) : Prop where
  e : Ck w v b.cells
  t : Ck w w0.heap.size z9
  h : b.Hl w0.heap.size w
  k : ∀ i, b.Lies i → w0.heap.size + 1 ≤ i ∧ i ≠ v
  d : ∃ p, p ≤ P ∧ Rd w r ra rl rc zs p
  s : Save r w0 w
  v0 : w0.heap.size + 1 ≤ v
  v1 : v < w.heap.size
  q : Old ra rl w0.heap.size
  r0 : r < w0.heap.size
  wf : b.Wf
  tot : b.total ≤ 1001
  ob : OB b

theorem Ln.later {w0 w w1 : World} {r : Nat} {ra : Option Addr} {rl rc : Nat} {zs : List Int} {P : Int} {b : Bx} {v : Nat} (h : Ln w0 r ra rl rc zs P b v w) (hb : Below w.heap.size w w1) : Ln w0 r ra rl rc zs P b v w1 := by
  have := h.v0
  have := h.v1
  obtain ⟨p, p1, hd⟩ := h.d
  exact ⟨h.e.below hb h.v1, h.t.below hb (by omega), h.h.later hb, h.k, ⟨p, p1, rd_later hd hb⟩, h.s.trans (save_of hb), h.v0, Nat.lt_of_lt_of_le h.v1 hb.size, h.q, h.r0, h.wf, h.tot, h.ob⟩
theorem Ln.read {w0 w w1 : World} {r : Nat} {ra : Option Addr} {rl rc : Nat} {zs : List Int} {P P' p : Int} {b : Bx} {v : Nat} (h : Ln w0 r ra rl rc zs P b v w) (hs : Save r w w1) (hd : Rd w1 r ra rl rc zs p) (hp : p ≤ P') : Ln w0 r ra rl rc zs P' b v w1 := by
  have := h.v0
  have := h.v1
  have := h.r0
  refine ⟨ck_save h.e hs (by omega) h.v1, ck_save h.t hs (by omega) (by omega), ⟨fun x hx => (h.h.each x hx).same hs.size (fun k o hc e => ?_), h.h.apart⟩, h.k, ⟨p, hp, hd⟩, h.s.trans hs, h.v0, Nat.lt_of_lt_of_le h.v1 hs.size, h.q, h.r0, h.wf, h.tot, h.ob⟩
  have lk : b.Lies k := ⟨x, hx, hc, o, e⟩
  have := (h.k k lk).1
  exact hs.block k (by omega) (h.h.lies lk).2
theorem Ln.mono {w0 w : World} {r : Nat} {ra : Option Addr} {rl rc : Nat} {zs : List Int} {P P' : Int} {b : Bx} {v : Nat} (h : Ln w0 r ra rl rc zs P b v w) (hp : P ≤ P') : Ln w0 r ra rl rc zs P' b v w := by
  obtain ⟨p, p1, hd⟩ := h.d
  exact ⟨h.e, h.t, h.h, h.k, ⟨p, by omega, hd⟩, h.s, h.v0, h.v1, h.q, h.r0, h.wf, h.tot, h.ob⟩

/- A number of a list is written. -/
theorem Ln.write {w0 w : World} {r : Nat} {ra : Option Addr} {rl rc : Nat} {zs : List Int} {P : Int} {b b' : Bx} {v : Nat} (h : Ln w0 r ra rl rc zs P b v w) (q : Nat) (x : Sx) (hx : b.lists[q]? = some x) (k o j : Nat) (ha : x.a = some ⟨k, o, none⟩) (hj : j < x.n) (y : Int) (hy : -9223372036854775808 ≤ y ∧ y ≤ 9223372036854775807) (hl : b'.lists = b.lists.set q (x.put j y)) (hc : b'.cells = b.cells) (ht : b'.total = b.total) (hob : OB b') :
    Ln w0 r ra rl rc zs P b' v (w.setCell ⟨k, o + j, none⟩ (.int .i64 y)) := by
  have a0 := h.v0
  have a1 := h.v1
  have a2 := h.r0
  have hm : x ∈ b.lists := List.mem_of_getElem? hx
  have hcx := (h.h.each x hm).1
  have lk : b.Lies k := ⟨x, hm, by omega, o, ha⟩
  have kk := h.k k lk
  obtain ⟨p, p1, hd⟩ := h.d
  have hb : Below w0.heap.size w (w.setCell ⟨k, o + j, none⟩ (.int .i64 y)) := (Below.refl _ _).setCell (by show w0.heap.size ≤ k; omega) _
  refine ⟨by rw [hc]; exact h.e.far _ kk.2 _, h.t.far _ (by show k ≠ _; omega) _, h.h.write q x hx k o j ha hj y hl, fun i hi => h.k i (lies_same hc hi), ⟨p, p1, rd_below hd hb h.r0 h.q⟩, save_below h.s hb (Nat.le_refl _), a0, by simpa [World.setCell] using a1, h.q, a2, ?_, by rw [ht]; exact h.tot, hob⟩
  intro z hz i
  rw [hl] at hz
  rcases List.mem_or_eq_of_mem_set hz with hz | rfl
  · exact h.wf z hz i
  · simp only [Sx.put, upd]
    split
    · exact hy
    · exact h.wf x hm i

/- The answer. -/
def BnQ (w0 : World) (r : Nat) (ra : Option Addr) (rl rc : Nat) (zs : List Int) (P : Int) (e : Ending) (w' : World) : Prop := ∃ b : Bx, e = .returned (.agg b.cells.toArray) ∧ b.Wf ∧ b.total ≤ 1001 ∧ b.Hl w0.heap.size w' ∧ (∃ p, p ≤ P ∧ Rd w' r ra rl rc zs p) ∧ Save r w0 w' ∧ OB b
theorem Ln.ans {w0 w : World} {r : Nat} {ra : Option Addr} {rl rc : Nat} {zs : List Int} {P : Int} {b : Bx} {v : Nat} (h : Ln w0 r ra rl rc zs P b v w) :
    w.there w0.heap.size 0 9 ∧ (w.setCells w0.heap.size 0 b.cells.toArray.toList).rangeAt w0.heap.size 0 b.cells ∧ BnQ w0 r ra rl rc zs P (.returned (.agg b.cells.toArray)) (w.setCells w0.heap.size 0 b.cells.toArray.toList) := by
  have a1 := h.v0
  have a2 := h.v1
  have a3 := h.r0
  have th : w.there w0.heap.size 0 9 := there9 h.t
  have sv : Save w0.heap.size w (w.setCells w0.heap.size 0 b.cells.toArray.toList) := save_setCells _ _ _ (Save.refl _ _)
  have hb : Below w0.heap.size w (w.setCells w0.heap.size 0 b.cells.toArray.toList) := sv.below (by omega) (by omega)
  obtain ⟨p, p1, hd⟩ := h.d
  refine ⟨th, World.rangeAt_setCells_same _ _ _ _ th, b, rfl, h.wf, h.tot, ⟨fun x hx => (h.h.each x hx).same sv.size (fun k o hcc e => ?_), h.h.apart⟩, ⟨p, p1, rd_below hd hb h.r0 h.q⟩, save_below h.s hb (Nat.le_refl _), h.ob⟩
  have lk : b.Lies k := ⟨x, hx, hcc, o, e⟩
  exact sv.block k (by have := (h.k k lk).1; omega) (h.h.lies lk).2

/- Another number of slots. -/
theorem Ln.slots {w0 w : World} {r : Nat} {ra : Option Addr} {rl rc : Nat} {zs : List Int} {P : Int} {b : Bx} {v : Nat} (h : Ln w0 r ra rl rc zs P b v w) (y : Int) :
    Ln w0 r ra rl rc zs P { b with s := y } v (w.setCell ⟨v, 0, none⟩ (.int .i64 y)) := by
  have a0 := h.v0
  have a1 := h.v1
  have a2 := h.r0
  obtain ⟨p, p1, hd⟩ := h.d
  have hb : Below w0.heap.size w (w.setCell ⟨v, 0, none⟩ (.int .i64 y)) := (Below.refl _ _).setCell (by show w0.heap.size ≤ v; omega) _
  have sv : Save v w (w.setCell ⟨v, 0, none⟩ (.int .i64 y)) := (Save.refl v w).setCell rfl _
  refine ⟨h.e.set 0 _, h.t.far _ (by show v ≠ _; omega) _, ⟨fun x hx => (h.h.each x hx).same sv.size (fun k o hcc e => ?_), h.h.apart⟩, fun i hi => h.k i hi, ⟨p, p1, rd_below hd hb h.r0 h.q⟩, save_below h.s hb (Nat.le_refl _), a0, by simpa [World.setCell] using a1, h.q, a2, h.wf, h.tot, h.ob⟩
  have lk : b.Lies k := ⟨x, hx, hcc, o, e⟩
  exact sv.block k (h.k k lk).2 (h.h.lies lk).2

/- A number is appended to a list of free rooms. -/
theorem Ln.app {w0 w1 w2 : World} {r : Nat} {ra : Option Addr} {rl rc : Nat} {zs : List Int} {P : Int} {b : Bx} {v k : Nat} (h : Ln w0 r ra rl rc zs P b v w1) (hk : k < 4) {y : Int} {val : Value} (g : App1 (b.hd k) y w0.heap.size w1 val w2) (hy : -9223372036854775808 ≤ y ∧ y ≤ 9223372036854775807) (ht : b.total ≤ 1000) :
    ∃ c : Bx, Ln w0 r ra rl rc zs P c v (w2.setCell ⟨v, 2 + k, none⟩ val) := by
  obtain ⟨x, rfl, xn, xf, xh, xw⟩ := g
  refine ⟨b.seth k x, ?_⟩
  have a0 := h.v0
  have a1 := h.v1
  have a2 := h.r0
  have hm : b.hd k ∈ b.lists := List.mem_of_getElem? (hd_lists b hk)
  have hB : ∀ y ∈ b.lists, 0 < y.c → ∀ k o, y.a = some ⟨k, o, none⟩ → k < w1.heap.size := fun y hy hc k o e => (h.h.lies ⟨y, hy, hc, o, e⟩).2
  have hh : (b.seth k x).Hl w0.heap.size w2 := h.h.app (1 + k) (b.hd k) x y (hd_lists b hk) xn xh hB (xw.imp (fun ⟨k1, o1, e1, e2, e3, e4, e5⟩ => ⟨k1, o1, e1, e2, by omega, e5⟩) (fun g => ⟨g.1, g.2.1⟩)) (seth_lists b hk x)
  have wf : (b.seth k x).Wf := fun z hz i => by
    rw [seth_lists b hk] at hz
    rcases List.mem_or_eq_of_mem_set hz with hz | rfl
    · exact h.wf z hz i
    · rw [xf]
      simp only [upd]
      split
      · exact hy
      · exact h.wf _ hm i
  have tot : (b.seth k x).total ≤ 1001 := by
    obtain rfl | rfl | rfl | rfl : k = 0 ∨ k = 1 ∨ k = 2 ∨ k = 3 := by omega
    all_goals
      simp [Bx.hd] at xn
      simp [Bx.total, Bx.seth] at ht ⊢
      omega
  have fin : ∀ w2 : World, Ck w2 v b.cells → Ck w2 w0.heap.size z9 → (b.seth k x).Hl w0.heap.size w2 → (∀ i, (b.seth k x).Lies i → w0.heap.size + 1 ≤ i ∧ i ≠ v) → (∃ p, p ≤ P ∧ Rd w2 r ra rl rc zs p) → Save r w0 w2 → v < w2.heap.size →
      Ln w0 r ra rl rc zs P (b.seth k x) v (w2.setCell ⟨v, 2 + k, none⟩ (.slice x.a x.n x.c)) := fun w2 e t hl kl ⟨p, p1, hd⟩ s v1 => by
    have hb : Below w0.heap.size w2 (w2.setCell ⟨v, 2 + k, none⟩ (.slice x.a x.n x.c)) := (Below.refl _ _).setCell (by show w0.heap.size ≤ v; omega) _
    have sv : Save v w2 (w2.setCell ⟨v, 2 + k, none⟩ (.slice x.a x.n x.c)) := (Save.refl v w2).setCell rfl _
    refine ⟨by rw [seth_cells b hk]; exact e.set (2 + k) _, t.far _ (by show v ≠ _; omega) _, ⟨fun z hz => (hl.each z hz).same sv.size (fun i o hcc ee => ?_), hl.apart⟩, kl, ⟨p, p1, rd_below hd hb a2 h.q⟩, save_below s hb (Nat.le_refl _), a0, by simpa [World.setCell] using v1, h.q, a2, wf, tot, h.ob⟩
    have lk : (b.seth k x).Lies i := ⟨z, hz, hcc, o, ee⟩
    exact sv.block i (kl i lk).2 (hl.lies lk).2
  rcases xw with ⟨k1, o1, e1, e2, e3, e4, rfl⟩ | ⟨e1, hb, hs⟩
  · have lk : b.Lies k1 := ⟨_, hm, by omega, o1, e1⟩
    have kk := h.k k1 lk
    obtain ⟨p, p1, hd⟩ := h.d
    have hb : Below w0.heap.size w1 (w1.setCell ⟨k1, o1 + (b.hd k).n, none⟩ (.int .i64 y)) := (Below.refl _ _).setCell (by show w0.heap.size ≤ k1; omega) _
    refine fin _ (h.e.far _ kk.2 _) (h.t.far _ (by show k1 ≠ _; omega) _) hh (fun i hi => ?_) ⟨p, p1, rd_below hd hb a2 h.q⟩ (save_below h.s hb (Nat.le_refl _)) (by simpa [World.setCell] using a1)
    rcases lies_seth hk hi with g | ⟨_, o, g⟩
    · exact h.k i g
    · rw [e2, e1] at g; cases g; exact kk
  · have D := h.later hb
    refine fin _ D.e D.t hh (fun i hi => ?_) D.d D.s D.v1
    rcases lies_seth hk hi with g | ⟨_, o, g⟩
    · exact h.k i g
    · rw [e1] at g; cases g; exact ⟨by omega, by omega⟩

theorem Ln.start {w0 w : World} {r : Nat} {ra : Option Addr} {rl rc : Nat} {zs : List Int} {P p : Int} {b : Bx} (t : TypeId) (ht : Ck w w0.heap.size z9) (hh : b.Hl (w0.heap.size + 1) w) (hd : Rd w r ra rl rc zs p) (hp : p ≤ P) (hs : Save r w0 w) (hq : Old ra rl w0.heap.size) (hr : r < w0.heap.size) (hz : w0.heap.size + 1 ≤ w.heap.size) (wf : b.Wf) (tot : b.total ≤ 1001) (ob : OB b) :
    (w.alloc (.cells z9.toArray t)).there w.heap.size 0 9 ∧ Ln w0 r ra rl rc zs P b w.heap.size ((w.alloc (.cells z9.toArray t)).setCells w.heap.size 0 b.cells.toArray.toList) := by
  have hb := below1 w (.cells z9.toArray t)
  have cz : Ck (w.alloc (.cells z9.toArray t)) w.heap.size z9 := ck_lit z9.toArray (heap1_0 w _)
  have th : (w.alloc (.cells z9.toArray t)).there w.heap.size 0 9 := there9 cz
  have sv : Save w.heap.size (w.alloc (.cells z9.toArray t)) ((w.alloc (.cells z9.toArray t)).setCells w.heap.size 0 b.cells.toArray.toList) := save_setCells _ _ _ (Save.refl _ _)
  have zz : w.heap.size < (w.alloc (.cells z9.toArray t)).heap.size := by simp
  have hb2 : Below w.heap.size (w.alloc (.cells z9.toArray t)) ((w.alloc (.cells z9.toArray t)).setCells w.heap.size 0 b.cells.toArray.toList) := sv.below (Nat.le_refl _) (by omega)
  have hB := hb.trans (hb2.mono (Nat.le_refl _))
  obtain ⟨ck, oy⟩ := put9s cz (.int .i64 b.s) (.slice b.p.a b.p.n b.p.c) (.slice b.h0.a b.h0.n b.h0.c) (.slice b.h1.a b.h1.n b.h1.c) (.slice b.h2.a b.h2.n b.h2.c) (.slice b.h3.a b.h3.n b.h3.c) (.slice b.o.a b.o.n b.o.c) (.slice b.i.a b.i.n b.i.c) (.slice b.e.a b.e.n b.e.c)
  refine ⟨th, ck, ht.below hB (by omega), (hh.mono (by omega)).later hB, fun i hi => ?_, ⟨p, hp, rd_later hd hB⟩, hs.trans (save_of hB), by omega, by have := sv.size; omega, hq, hr, wf, tot, ob⟩
  have g := hh.lies hi
  exact ⟨g.1, by omega⟩

end Go.Proofs.YtbipolfbkemmpaaDoor.Book

import Derived.Test.YtbipolfbkemmpaaDoorM48
import Derived.Test.YtbipolfbkemmpaaDoorM43

/- A book is kept for some calls that are drawn: what it rests on while it goes: over no program. -/
namespace Go.Proofs.YtbipolfbkemmpaaDoor.Book
open Go.ChangeShapes Go.WideShapes Go.ChangeAt Go.RowKit
open Aid Lst Draw
set_option maxRecDepth 100000
set_option linter.unusedVariables false

theorem rd_below {N : Nat} {w w' : World} {r : Nat} {a : Option Addr} {len cap : Nat} {zs : List Int} {p : Int} (h : Rd w r a len cap zs p) (hb : Below N w w') (hr : r < N) (ho : Old a len N) : Rd w' r a len cap zs p := by
  refine ⟨by rw [hb.cell (p := ⟨r, 0, none⟩) hr]; exact h.sl, by rw [hb.cell (p := ⟨r, 1, none⟩) hr]; exact h.pl, by rw [hb.frozen (p := ⟨r, 1, none⟩) hr]; exact h.fz, h.p0, h.p1, h.l1, ?_⟩
  rcases ho with h0 | ho
  · exact .inl h0
  rcases h.row with h0 | ⟨b, off, e, g1, g2, g3, g4⟩
  · exact .inl h0
  · exact .inr ⟨b, off, e, g1, g2, fun i hi => by rw [hb.cell (p := ⟨b, off + i, none⟩) (ho ⟨b, off, none⟩ e)]; exact g3 i hi, g4⟩
theorem save_below {N r : Nat} {w0 w w' : World} (h : Save r w0 w) (hb : Below N w w') (hN : w0.heap.size ≤ N) : Save r w0 w' :=
  ⟨hb.os.trans h.os, hb.tape.trans h.tape, hb.output.trans h.output, Nat.le_trans h.size hb.size, fun k hk hl => (hb.block k (by omega)).trans (h.block k hk hl)⟩

structure Lb (w0 : World) (r : Nat) (ra : Option Addr) (rl rc : Nat) (zs : List Int) (P : Int) (b : Bx) (v : Nat) (w : World) : Prop where
  e : Ck w v b.cells
  t : Ck w (w0.heap.size + 1) z9
  h : b.Hl w0.heap.size w
  k : ∀ i, b.Lies i → w0.heap.size + 2 ≤ i ∧ i ≠ v
  d : ∃ p, p ≤ P ∧ Rd w r ra rl rc zs p
  s : Save r w0 w
  v0 : w0.heap.size + 2 ≤ v
  v1 : v < w.heap.size
  q : Old ra rl w0.heap.size
  r0 : r < w0.heap.size
  ok : OkP b
  wf : b.Wf

theorem Lb.later {w0 w w1 : World} {r : Nat} {ra : Option Addr} {rl rc : Nat} {zs : List Int} {P : Int} {b : Bx} {v : Nat} (h : Lb w0 r ra rl rc zs P b v w) (hb : Below w.heap.size w w1) : Lb w0 r ra rl rc zs P b v w1 := by
  have := h.v0
  have := h.v1
  obtain ⟨p, p1, hd⟩ := h.d
  exact ⟨h.e.below hb h.v1, h.t.below hb (by omega), h.h.later hb, h.k, ⟨p, p1, rd_later hd hb⟩, h.s.trans (save_of hb), h.v0, Nat.lt_of_lt_of_le h.v1 hb.size, h.q, h.r0, h.ok, h.wf⟩
theorem Lb.read {w0 w w1 : World} {r : Nat} {ra : Option Addr} {rl rc : Nat} {zs : List Int} {P P' p : Int} {b : Bx} {v : Nat} (h : Lb w0 r ra rl rc zs P b v w) (hs : Save r w w1) (hd : Rd w1 r ra rl rc zs p) (hp : p ≤ P') : Lb w0 r ra rl rc zs P' b v w1 := by
  have := h.v0
  have := h.v1
  have := h.r0
  refine ⟨ck_save h.e hs (by omega) h.v1, ck_save h.t hs (by omega) (by omega), ⟨fun x hx => (h.h.each x hx).same hs.size (fun k o hc e => ?_), h.h.apart⟩, h.k, ⟨p, hp, hd⟩, h.s.trans hs, h.v0, Nat.lt_of_lt_of_le h.v1 hs.size, h.q, h.r0, h.ok, h.wf⟩
  have lk : b.Lies k := ⟨x, hx, hc, o, e⟩
  have := (h.k k lk).1
  exact hs.block k (by omega) (h.h.lies lk).2
theorem Lb.off {w0 w : World} {r : Nat} {ra : Option Addr} {rl rc : Nat} {zs : List Int} {P : Int} {b : Bx} {v : Nat} (h : Lb w0 r ra rl rc zs P b v w) : b.Off r w.heap.size := by
  refine off_of h.h.at (fun x hx hn k o e => ?_)
  have hc := (h.h.each x hx).1
  have := (h.k k ⟨x, hx, by omega, o, e⟩).1
  have := h.r0
  omega
/- A call has answered, its book is stored. -/
theorem Lb.turn {w0 w w1 : World} {r : Nat} {ra : Option Addr} {rl rc : Nat} {zs : List Int} {P : Int} {b c : Bx} {v : Nat} (h : Lb w0 r ra rl rc zs P b v w) (hc : c.Hl w0.heap.size w1) (f : Fr b w w1) (l : ∀ i, c.Lies i → b.Lies i ∨ w.heap.size ≤ i) (ok : OkP c) :
    w1.there v 0 9 ∧ Lb w0 r ra rl rc zs P c.trim v (w1.setCells v 0 c.cells.toArray.toList) := by
  have a1 := h.v0
  have a2 := h.v1
  have a3 := h.r0
  have nv : ¬ b.Lies v := fun g => (h.k v g).2 rfl
  have nt : ¬ b.Lies (w0.heap.size + 1) := fun g => by have := (h.k _ g).1; omega
  have e1 : Ck w1 v b.cells := ck_block h.e (f.block v a2 nv)
  have t1 : Ck w1 (w0.heap.size + 1) z9 := ck_block h.t (f.block _ (by omega) nt)
  have hb1 : Below w0.heap.size w w1 := ⟨f.os, f.tape, f.output, f.size, fun k hk => f.block k (by omega) (fun g => by have := (h.k k g).1; omega)⟩
  have lv : ∀ i, c.Lies i → w0.heap.size + 2 ≤ i ∧ i ≠ v := fun i hi => by
    rcases l i hi with g | g
    · exact h.k i g
    · exact ⟨by omega, by omega⟩
  have th : w1.there v 0 9 := there9 e1
  obtain ⟨p, p1, hd⟩ := h.d
  have sv : Save v w1 (w1.setCells v 0 c.cells.toArray.toList) := save_setCells _ _ _ (Save.refl _ _)
  have hb2 : Below w0.heap.size w1 (w1.setCells v 0 c.cells.toArray.toList) := sv.below (by omega) (by have := f.size; omega)
  have hb := hb1.trans (hb2.mono (Nat.le_refl _))
  obtain ⟨ck, oy⟩ := put9s e1 (.int .i64 c.s) (.slice c.p.a c.p.n c.p.c) (.slice c.h0.a c.h0.n c.h0.c) (.slice c.h1.a c.h1.n c.h1.c) (.slice c.h2.a c.h2.n c.h2.c) (.slice c.h3.a c.h3.n c.h3.c) (.slice c.o.a c.o.n c.o.c) (.slice c.i.a c.i.n c.i.c) (.slice c.e.a c.e.n c.e.c)
  refine ⟨th, ck, ck_save t1 sv (by omega) (by have := f.size; omega), Bx.Hl.trim ⟨fun x hx => (hc.each x hx).same sv.size (fun k o hcc e => ?_), hc.apart⟩, fun i hi => lv i (lies_trim hi), ⟨p, p1, rd_below hd hb h.r0 h.q⟩, save_below h.s hb (Nat.le_refl _), a1, by have := f.size; have := sv.size; omega, h.q, h.r0, ok_trim ok, trim_wf ok⟩
  have lk : c.Lies k := ⟨x, hx, hcc, o, e⟩
  exact sv.block k (lv k lk).2 (hc.lies lk).2

/- The answer. -/
def BkQ (w0 : World) (r : Nat) (ra : Option Addr) (rl rc : Nat) (zs : List Int) (P : Int) (e : Ending) (w' : World) : Prop := ∃ b : Bx, e = .returned (.agg b.cells.toArray) ∧ OkP b ∧ b.Wf ∧ b.Hl w0.heap.size w' ∧ (∀ i, b.Lies i → w0.heap.size ≤ i) ∧ (∃ p, p ≤ P ∧ Rd w' r ra rl rc zs p) ∧ Save r w0 w'
theorem Lb.ans {w0 w : World} {r : Nat} {ra : Option Addr} {rl rc : Nat} {zs : List Int} {P : Int} {b : Bx} {v : Nat} (h : Lb w0 r ra rl rc zs P b v w) :
    w.there (w0.heap.size + 1) 0 9 ∧ (w.setCells (w0.heap.size + 1) 0 b.cells.toArray.toList).rangeAt (w0.heap.size + 1) 0 b.cells ∧ BkQ w0 r ra rl rc zs P (.returned (.agg b.cells.toArray)) (w.setCells (w0.heap.size + 1) 0 b.cells.toArray.toList) := by
  have a1 := h.v0
  have a2 := h.v1
  have a3 := h.r0
  have th : w.there (w0.heap.size + 1) 0 9 := there9 h.t
  have sv : Save (w0.heap.size + 1) w (w.setCells (w0.heap.size + 1) 0 b.cells.toArray.toList) := save_setCells _ _ _ (Save.refl _ _)
  have hb : Below w0.heap.size w (w.setCells (w0.heap.size + 1) 0 b.cells.toArray.toList) := sv.below (by omega) (by omega)
  obtain ⟨p, p1, hd⟩ := h.d
  refine ⟨th, World.rangeAt_setCells_same _ _ _ _ th, b, rfl, h.ok, h.wf, ⟨fun x hx => (h.h.each x hx).same sv.size (fun k o hcc e => ?_), h.h.apart⟩, fun i hi => by have := (h.k i hi).1; omega, ⟨p, p1, rd_below hd hb h.r0 h.q⟩, save_below h.s hb (Nat.le_refl _)⟩
  have lk : b.Lies k := ⟨x, hx, hcc, o, e⟩
  exact sv.block k (by have := (h.k k lk).1; omega) (h.h.lies lk).2

theorem open_ok {b : Bx} {s p l : Int} (ok : Plat.okB s p l = true) (h : b.m = openM s p l) : OkP b := by
  obtain ⟨k1, k2, k3, k4, k5, k6⟩ := Plat.okB_of ok
  unfold openM at h
  rw [if_pos ok] at h
  simp only [Bx.m, Bm.mk.injEq, Sx.m, Prod.mk.injEq, nilL] at h
  obtain ⟨h0, ⟨h1, h1'⟩, ⟨h2, h2'⟩, ⟨h3, h3'⟩, ⟨h4, h4'⟩, ⟨h5, h5'⟩, ⟨h6, h6'⟩, ⟨h7, h7'⟩, ⟨h8, h8'⟩⟩ := h
  refine ⟨⟨⟨by omega, by omega, by omega, by omega, by omega, by omega, by omega⟩, fun j hj => ?_, fun u hu => ?_⟩, fun k hk => ?_, fun q hq => ?_⟩
  · have e1 : b.i.f j = 0 := by rw [h7']
    have e2 : b.e.f j = 0 := by rw [h8']
    unfold InU
    rw [e1, e2]
    exact ⟨by omega, by omega, by omega, by omega, fun _ => by omega⟩
  · have e1 : b.o.f u = 0 := by rw [h6']
    unfold OwnU
    rw [e1]
    exact ⟨by omega, by omega, fun g => by omega⟩
  · have e : (b.hd k).n = 0 := by
      obtain rfl | rfl | rfl | rfl : k = 0 ∨ k = 1 ∨ k = 2 ∨ k = 3 := by omega
      · exact h2
      · exact h3
      · exact h4
      · exact h5
    exact ⟨by omega, fun j hj => by omega⟩
  · refine .inl ⟨by rw [h1'], fun u h1 h2 h3 => ?_⟩
    have e1 : b.o.f (q * 8 + u) = 0 := by rw [h6']
    omega

theorem Lb.mono {w0 w : World} {r : Nat} {ra : Option Addr} {rl rc : Nat} {zs : List Int} {P P' : Int} {b : Bx} {v : Nat} (h : Lb w0 r ra rl rc zs P b v w) (hp : P ≤ P') : Lb w0 r ra rl rc zs P' b v w := by
  obtain ⟨p, p1, hd⟩ := h.d
  exact ⟨h.e, h.t, h.h, h.k, ⟨p, by omega, hd⟩, h.s, h.v0, h.v1, h.q, h.r0, h.ok, h.wf⟩
theorem Lb.start {w0 w : World} {r : Nat} {ra : Option Addr} {rl rc : Nat} {zs : List Int} {P p : Int} {b : Bx} (t : TypeId) (ht : Ck w (w0.heap.size + 1) z9) (hh : b.Hl (w0.heap.size + 2) w) (hd : Rd w r ra rl rc zs p) (hp : p ≤ P) (hs : Save r w0 w) (hq : Old ra rl w0.heap.size) (hr : r < w0.heap.size) (hz : w0.heap.size + 2 ≤ w.heap.size) (ok : OkP b) :
    (w.alloc (.cells z9.toArray t)).there w.heap.size 0 9 ∧ Lb w0 r ra rl rc zs P b.trim w.heap.size ((w.alloc (.cells z9.toArray t)).setCells w.heap.size 0 b.cells.toArray.toList) := by
  have hb := below1 w (.cells z9.toArray t)
  have cz : Ck (w.alloc (.cells z9.toArray t)) w.heap.size z9 := ck_lit z9.toArray (heap1_0 w _)
  have th : (w.alloc (.cells z9.toArray t)).there w.heap.size 0 9 := there9 cz
  have sv : Save w.heap.size (w.alloc (.cells z9.toArray t)) ((w.alloc (.cells z9.toArray t)).setCells w.heap.size 0 b.cells.toArray.toList) := save_setCells _ _ _ (Save.refl _ _)
  have zz : w.heap.size < (w.alloc (.cells z9.toArray t)).heap.size := by simp
  have hb2 : Below w.heap.size (w.alloc (.cells z9.toArray t)) ((w.alloc (.cells z9.toArray t)).setCells w.heap.size 0 b.cells.toArray.toList) := sv.below (Nat.le_refl _) (by omega)
  have hB := hb.trans (hb2.mono (Nat.le_refl _))
  obtain ⟨ck, oy⟩ := put9s cz (.int .i64 b.s) (.slice b.p.a b.p.n b.p.c) (.slice b.h0.a b.h0.n b.h0.c) (.slice b.h1.a b.h1.n b.h1.c) (.slice b.h2.a b.h2.n b.h2.c) (.slice b.h3.a b.h3.n b.h3.c) (.slice b.o.a b.o.n b.o.c) (.slice b.i.a b.i.n b.i.c) (.slice b.e.a b.e.n b.e.c)
  refine ⟨th, ck, ht.below hB (by omega), ((hh.mono (by omega)).later hB).trim, fun i hi => ?_, ⟨p, hp, rd_later hd hB⟩, hs.trans (save_of hB), by omega, by have := sv.size; omega, hq, hr, ok_trim ok, trim_wf ok⟩
  have g := hh.lies (lies_trim hi)
  exact ⟨g.1, by omega⟩

set_option maxHeartbeats 16000000 in
theorem lbook_any (r : Nat) (ra : Option Addr) (rl rc : Nat) (zs : List Int) (p : Int) (s q l : Int) (n : Nat) (w : World) (hr : Rd w r ra rl rc zs p) (hp : p ≤ 100000000) (ok : Plat.okB s q l = true) (hn : n ≤ 100) :
    Calls Tryd.prog 47 #[.pointer (some ⟨r, 0, none⟩), .agg #[.int .i64 s, .int .i64 q, .int .i64 l], .int .i64 n] w fun e w' => BkQ w r ra rl rc zs (p + 20 * (n : Int)) e w' := by
  have p0 := hr.p0
  have rlt := hr.lt
  have R2 := rd_later hr (below2 w (.cells #[.int .i64 s, .int .i64 q, .int .i64 l] 62) (.cells z9.toArray 26))
  have T2 := ck_lit z9.toArray (heap2_1 w (.cells #[.int .i64 s, .int .i64 q, .int .i64 l] 62) (.cells z9.toArray 26))
  have B2 := below2 w (.cells #[.int .i64 s, .int .i64 q, .int .i64 l] 62) (.cells z9.toArray 26)
  have z2 : w.heap.size + 2 ≤ ((w.alloc (.cells #[.int .i64 s, .int .i64 q, .int .i64 l] 62)).alloc (.cells z9.toArray 26)).heap.size := by simp
  simp only [z9] at R2 T2 B2 z2
  have HR2 : Hid (Rd _ r ra rl rc zs p) := R2
  have HT2 : Hid (Ck _ (w.heap.size + 1) z9) := T2
  have HB2 : Hid (Below w.heap.size w _) := B2
  clear R2 T2 B2
  go_enter Tryd.func47, Tryd.ntmps47
  go_wp2_with (fail)
  generalize (w.alloc (.cells #[.int .i64 s, .int .i64 q, .int .i64 l] 62)).alloc (.cells #[.int .i64 0, .slice none 0 0, .slice none 0 0, .slice none 0 0, .slice none 0 0, .slice none 0 0, .slice none 0 0, .slice none 0 0, .slice none 0 0] 26) = W2 at HR2 HT2 HB2 z2 ⊢
  refine (sopen_tight s q l W2).mono ?_
  rintro e w3 ⟨b0, rfl, bm, bo, hb, bt⟩
  have z3 := hb.size
  obtain ⟨th, S⟩ := Lb.start (w0 := w) (P := p) 26 (HT2.out.below hb (by omega)) ((bo.hl (bt.cap bo) (Nat.le_refl _)).mono z2) (rd_later HR2.out hb) (Int.le_refl _) ((save_of HB2.out).trans (save_of hb)) hr.old hr.lt (by omega) (open_ok ok bm)
  simp only [z9] at th S
  have HT : Hid (World.there _ w3.heap.size 0 9) := th
  have HS : Hid (Lb _ _ _ _ _ _ _ _ _ _) := S
  clear th S bm bo bt hb HR2 HT2 HB2
  go_wp2_with (refine wpList_store_mid rfl 26 _ _ rfl w3.heap.size 0 b0.cells.toArray rfl rfl HT.out (by kernel_rfl) (cells_one b0) ?_; apply Hid.out)
  generalize World.setCells _ _ _ _ = w4 at HS ⊢
  generalize w3.heap.size = v at HS ⊢
  unfold Hid
  clear HT
  go_wp2_with (fail)
  go_loopw [8] (fun i wr => ∃ (u : Nat) (b : Bx), u ≤ n ∧ i = .int .i64 u ∧ Lb w r ra rl rc zs (p + 20 * (u : Int)) b v wr) (fun i _ => n - (intOf i).toNat)
  case atStart => exact ⟨0, b0.trim, by omega, rfl, by simpa using HS.out⟩
  case round =>
    obtain ⟨u, b, hu, rfl, S⟩ := hrel
    clear HS
    by_cases hlt : (u : Int) < n
    · have HS : Hid (Lb _ _ _ _ _ _ _ _ _ _) := S
      clear S
      go_wp2_with (fail)
      obtain ⟨p5, p5', hd5⟩ := HS.out.d
      refine (pick_on r ra rl rc zs p5 14 _ hd5 (by omega)).mono ?_
      rintro e w5 ⟨x5, rfl, x50, x51, -, rd5, sv5⟩
      have S := HS.out.read sv5 rd5 (P' := p + 20 * (u : Int) + 1) (by omega)
      clear HS hd5 rd5 sv5 x51
      by_cases x0 : x5 = 0
      · subst x0
        have HS : Hid (Lb _ _ _ _ _ _ _ _ _ _) := S
        clear S
        go_wp2_with (fail)
        have HS1 : Hid (Lb _ _ _ _ _ _ _ _ _ _) := HS.out.later (below_drew w5)
        clear HS
        refine wp_region_held_drew (S := fun _ => True) (by kernel_rfl) trivial (fun hS => ?_)
        generalize World.drew w5 = V at HS1 ⊢
        have HS : Hid (Lb _ _ _ _ _ _ _ _ _ _) := HS1.out
        have HR : Hid (World.rangeAt _ v 0 b.cells) := HS1.out.e.range
        clear HS1
        refine tI 1 (v := .pointer (some ⟨r, 0, none⟩)) (d := some 21) rfl rfl (fun w' hw => ?_) hS ?_
        · clear hw; go_simp
        try simp only [Act.put, s1, s2, s3]
        refine wpAnyH_ready (rs := [0, 2]) (by kernel_rfl) (by simp) ?_
        refine AllReadyH.cons rfl (fun K hK => ?_) (AllReadyH.cons rfl (fun K hK => ?_) AllReadyH.nil)
        · refine wp_load_mid 26 _ rfl v 0 rfl b.cells _ HR.out Tryd.underlying26 rfl (by kernel_rfl) ?_
          refine hK.out _ _ trivial (fun hS => ?_)
          clear hK K
          try simp only [Act.put, List.setIfInBounds_toArray]
          refine r1 2 rfl (fun K hK => ?_)
          obtain ⟨p6, p6', hd6⟩ := HS.out.d
          go_simp
          refine (pick_on r ra rl rc zs p6 3 _ hd6 (by omega)).mono ?_
          rintro e w6 ⟨x6, rfl, x60, x61, -, rd6, sv6⟩
          have x62 := x61 (by omega)
          obtain ⟨j6, rfl⟩ := Int.eq_ofNat_of_zero_le x60
          have S := HS.out.read sv6 rd6 (P' := p + 20 * (u : Int) + 2) (by omega)
          clear HS HR hd6 rd6 sv6 x61
          have HS : Hid (Lb _ _ _ _ _ _ _ _ _ _) := S
          have HR : Hid (World.rangeAt _ v 0 b.cells) := S.e.range
          clear S
          go_wp2_with (fail)
          refine hK.out _ _ trivial (fun hS => ?_)
          clear hK K
          try simp only [Act.put, s1, s2, s3]
          refine r1 3 rfl (fun K hK => ?_)
          go_simp
          refine (dcut_any b j6 w.heap.size _ HS.out.h (by have := HS.out.s.size; omega) HS.out.ok HS.out.wf).mono ?_
          rintro e w7 ⟨c, rfl, okc, hh, hf, hl⟩
          obtain ⟨th, S⟩ := HS.out.turn hh hf hl okc
          have HT : Hid (w7.there v 0 9) := th
          have HS2 : Hid (Lb _ _ _ _ _ _ _ _ _ _) := S
          clear HS HR okc hh hf hl th S
          go_wp2_with (fail)
          refine hK.out _ _ trivial (fun hS => ?_)
          clear hK K
          try simp only [Act.put, s1, s2, s3]
          refine r1 4 rfl (fun K hK => ?_)
          refine wp_store_mid 26 _ _ rfl v 0 c.cells.toArray rfl rfl HT.out (by kernel_rfl) (cells_one _) ?_
          refine hK.out _ _ trivial (fun hS => ?_)
          clear hK K
          generalize World.setCells _ _ _ _ = w9 at HS2 ⊢
          refine wpAnyH_done (by kernel_rfl) ?_ _
          clear HT hS
          go_wp2_with (fail)
          go_roundw
          case rel => exact ⟨u + 1, c.trim, by omega, by go_num, HS2.out.mono (by omega)⟩
          case measure => simp [intOf]; omega
        · obtain ⟨p6, p6', hd6⟩ := HS.out.d
          go_simp
          refine (pick_on r ra rl rc zs p6 3 _ hd6 (by omega)).mono ?_
          rintro e w6 ⟨x6, rfl, x60, x61, -, rd6, sv6⟩
          have x62 := x61 (by omega)
          obtain ⟨j6, rfl⟩ := Int.eq_ofNat_of_zero_le x60
          have S := HS.out.read sv6 rd6 (P' := p + 20 * (u : Int) + 2) (by omega)
          clear HS HR hd6 rd6 sv6 x61
          have HS : Hid (Lb _ _ _ _ _ _ _ _ _ _) := S
          have HR : Hid (World.rangeAt _ v 0 b.cells) := S.e.range
          clear S
          go_wp2_with (fail)
          refine hK.out _ _ trivial (fun hS => ?_)
          clear hK K
          try simp only [Act.put, s1, s2, s3]
          refine r1 0 rfl (fun K hK => ?_)
          refine wp_load_mid 26 _ rfl v 0 rfl b.cells _ HR.out Tryd.underlying26 rfl (by kernel_rfl) ?_
          refine hK.out _ _ trivial (fun hS => ?_)
          clear hK K
          try simp only [Act.put, List.setIfInBounds_toArray]
          refine r1 3 rfl (fun K hK => ?_)
          go_simp
          refine (dcut_any b j6 w.heap.size _ HS.out.h (by have := HS.out.s.size; omega) HS.out.ok HS.out.wf).mono ?_
          rintro e w7 ⟨c, rfl, okc, hh, hf, hl⟩
          obtain ⟨th, S⟩ := HS.out.turn hh hf hl okc
          have HT : Hid (w7.there v 0 9) := th
          have HS2 : Hid (Lb _ _ _ _ _ _ _ _ _ _) := S
          clear HS HR okc hh hf hl th S
          go_wp2_with (fail)
          refine hK.out _ _ trivial (fun hS => ?_)
          clear hK K
          try simp only [Act.put, s1, s2, s3]
          refine r1 4 rfl (fun K hK => ?_)
          refine wp_store_mid 26 _ _ rfl v 0 c.cells.toArray rfl rfl HT.out (by kernel_rfl) (cells_one _) ?_
          refine hK.out _ _ trivial (fun hS => ?_)
          clear hK K
          generalize World.setCells _ _ _ _ = w9 at HS2 ⊢
          refine wpAnyH_done (by kernel_rfl) ?_ _
          clear HT hS
          go_wp2_with (fail)
          go_roundw
          case rel => exact ⟨u + 1, c.trim, by omega, by go_num, HS2.out.mono (by omega)⟩
          case measure => simp [intOf]; omega
      · have HR : Hid (World.rangeAt _ v 0 b.cells) := S.e.range
        have HS : Hid (Lb _ _ _ _ _ _ _ _ _ _) := S
        clear S
        go_wp2_with (refine wpList_load_mid rfl 26 _ rfl v 0 rfl b.cells _ HR.out Tryd.underlying26 rfl (by kernel_rfl) ?_)
        obtain ⟨p6, p6', hd6⟩ := HS.out.d
        refine (lop_any r ra rl rc zs p6 b _ hd6 (by omega) HS.out.h.at HS.out.off (by have g1 := HS.out.ok.1.1.2.2.2.2.2.1; have g2 := HS.out.ok.1.1.2.2.2.2.2.2; omega) (fun j hj => ?_)).mono ?_
        · have g := HS.out.ok.1.2.2 j hj
          have := HS.out.ok.1.1.2.1
          exact ⟨g.1, by have := g.2.1; omega⟩
        rintro e w6 ⟨o, rfl, ⟨p7, p7', rd6⟩, sv6⟩
        have S := HS.out.read sv6 rd6 (P' := p + 20 * (u : Int) + 11) (by omega)
        clear HS HR hd6 rd6 sv6
        obtain ⟨k', s', a', b'⟩ := o
        simp only [Ox.cells]
        have u0 := (nine (S.later (below1 w6 (.cells #[.int .i64 k', .int .i64 s', .int .i64 a', .int .i64 b'] 28))).e.range).1
        by_cases hs : (u : Int) < b.s
        · have HS : Hid (Lb _ _ _ _ _ _ _ _ _ _) := S.later (below1 w6 (.cells #[.int .i64 1, .int .i64 (u : Int), .int .i64 0, .int .i64 0] 28))
          have HR : Hid (World.rangeAt _ v 0 b.cells) := HS.out.e.range
          have zw := S.s.size
          clear S
          go_wp2_with (refine wpList_load_mid rfl 26 _ rfl v 0 rfl b.cells _ HR.out Tryd.underlying26 rfl (by kernel_rfl) ?_)
          refine (do_any b w.heap.size ⟨1, (u : Int), 0, 0⟩ _ HS.out.h (by simp; omega) HS.out.ok).mono ?_
          rintro e w8 ⟨c, x, y, rfl, dp, hh, hf, hl⟩
          obtain ⟨th, S⟩ := HS.out.turn hh hf hl (do_ok HS.out.ok dp)
          have HT : Hid (w8.there v 0 9) := th
          have HS2 : Hid (Lb _ _ _ _ _ _ _ _ _ _) := S
          clear HS HR dp hh hf hl th S u0
          go_wp2_with (refine wpList_store_mid rfl 26 _ _ rfl v 0 c.cells.toArray rfl rfl HT.out (by kernel_rfl) (cells_one c) ?_; apply Hid.out)
          generalize World.setCells _ _ _ _ = w9 at HS2 ⊢
          unfold Hid
          clear HT
          go_wp2_with (fail)
          go_roundw
          case rel => exact ⟨u + 1, c.trim, by omega, by go_num, HS2.out.mono (by omega)⟩
          case measure => simp [intOf]; omega
        · have HS : Hid (Lb _ _ _ _ _ _ _ _ _ _) := S.later (below1 w6 (.cells #[.int .i64 k', .int .i64 s', .int .i64 a', .int .i64 b'] 28))
          have HR : Hid (World.rangeAt _ v 0 b.cells) := HS.out.e.range
          have zw := S.s.size
          clear S
          go_wp2_with (refine wpList_load_mid rfl 26 _ rfl v 0 rfl b.cells _ HR.out Tryd.underlying26 rfl (by kernel_rfl) ?_)
          refine (do_any b w.heap.size ⟨k', s', a', b'⟩ _ HS.out.h (by simp; omega) HS.out.ok).mono ?_
          rintro e w8 ⟨c, x, y, rfl, dp, hh, hf, hl⟩
          obtain ⟨th, S⟩ := HS.out.turn hh hf hl (do_ok HS.out.ok dp)
          have HT : Hid (w8.there v 0 9) := th
          have HS2 : Hid (Lb _ _ _ _ _ _ _ _ _ _) := S
          clear HS HR dp hh hf hl th S u0
          go_wp2_with (refine wpList_store_mid rfl 26 _ _ rfl v 0 c.cells.toArray rfl rfl HT.out (by kernel_rfl) (cells_one c) ?_; apply Hid.out)
          generalize World.setCells _ _ _ _ = w9 at HS2 ⊢
          unfold Hid
          clear HT
          go_wp2_with (fail)
          go_roundw
          case rel => exact ⟨u + 1, c.trim, by omega, by go_num, HS2.out.mono (by omega)⟩
          case measure => simp [intOf]; omega
    · obtain rfl : u = n := by omega
      obtain ⟨th, rg, bq⟩ := S.ans
      have HT : Hid (World.there _ (w.heap.size + 1) 0 9) := th
      have HG : Hid (World.rangeAt _ (w.heap.size + 1) 0 b.cells) := rg
      have HQ : Hid (BkQ _ _ _ _ _ _ _ _ _) := bq
      have HR : Hid (World.rangeAt _ v 0 b.cells) := S.e.range
      clear S th rg bq
      go_wp2_with (first | (refine wpList_load_mid rfl 26 _ rfl v 0 rfl b.cells _ HR.out Tryd.underlying26 rfl (by kernel_rfl) ?_) | (refine wpList_store_mid rfl 26 _ _ rfl (w.heap.size + 1) 0 b.cells.toArray rfl rfl HT.out (by kernel_rfl) (cells_one b) ?_))
      exact bodyPost_ret (results_cell_mid rfl _ _ (w.heap.size + 1) 0 _ _ rfl HG.out Tryd.underlying26 rfl (by kernel_rfl)) rfl HQ.out

end Go.Proofs.YtbipolfbkemmpaaDoor.Book

import Derived.Test.YtgfbfgiohmdjmaaGreatM10
import Derived.Test.YtgfbfgiohmdjmaaGreatM6
import Derived.Test.YtgfbfgiohmdjmaaGreatM8

/- A world copied into new memory. Conditions: at most 10,000,000 guests, 1,000,000,000 words a list. -/
namespace Go.Proofs.YtgfbfgiohmdjmaaGreat.Gs
open Go.ChangeShapes Go.WideShapes Go.ChangeAt Go.RowKit
open Aid Lst
open Book (Ck ck_lit Sx)
set_option maxRecDepth 100000
set_option linter.unusedVariables false

theorem Gk.low {w0 w : World} {R n k : Nat} {g : Nat → Gx} {B1 B2 : Nat → Nat} (h : Gk w0 R n k g B1 B2 w) {c : Nat} (hc : c < R) (h0 : w0.heap.size ≤ c) (o : Nat) (vs : List Value) : Gk w0 R n k g B1 B2 (w.setCells c o vs) := by
  have hz := setCells_size c vs o w
  refine ⟨fun j hj => World.rangeAt_setCells_apart (h.row j hj) _ _ _ (.inl (by omega)), fun j hj => World.there_setCells (h.th j hj) _ _ _, fun j hj => ?_, fun j hj => by rw [hz]; exact h.ord j hj, h.inc, below_setCells h.bel h0 _ _, h.lo, by rw [hz]; exact h.lt⟩
  have o1 := h.ord j hj
  exact ⟨fk_setCells_far (by omega) _ _ _ (h.own j hj).1, fk_setCells_far (by omega) _ _ _ (h.own j hj).2⟩

/- The same world, its words at the head of the block b, its guests in the row R, their lists at the heads of blocks of their own. -/
def Wx.of (x : Wx) (b R : Nat) (B1 B2 : Nat → Nat) : Wx := ⟨⟨some ⟨b, 0, none⟩, x.ws.n, x.ws.n, x.ws.f⟩, some ⟨R, 0, none⟩, x.n, x.n, fun j => (x.g j).at (B1 j) (B2 j)⟩
structure Wo (w0 : World) (x : Wx) (b R : Nat) (B1 B2 : Nat → Nat) (w : World) : Prop where
  ws : Fk .u64 x.ws.n w b x.ws.f
  lo : w0.heap.size ≤ b
  br : b < R
  gs : Gk w0 R x.n x.n x.g B1 B2 w
theorem Wo.later {w0 w w1 : World} {x : Wx} {b R : Nat} {B1 B2 : Nat → Nat} (h : Wo w0 x b R B1 B2 w) (hb : Below w.heap.size w w1) : Wo w0 x b R B1 B2 w1 := ⟨h.ws.later hb, h.lo, h.br, h.gs.later hb⟩
theorem Wo.at {w0 w : World} {x : Wx} {b R : Nat} {B1 B2 : Nat → Nat} (h : Wo w0 x b R B1 B2 w) : (x.of b R B1 B2).At w :=
  ⟨h.ws.sl, .inr ⟨R, 0, rfl, fun j hj => by rw [Nat.zero_add]; exact h.gs.row j hj⟩, fun j hj => ⟨(h.gs.own j hj).1.sl, (h.gs.own j hj).2.sl⟩⟩

/- The bounds under which a world is copied. -/
structure Wx.Lim (x : Wx) : Prop where
  ws : x.ws.n ≤ 1000000000
  n : x.n ≤ 10000000
  each : ∀ j, j < x.n → (x.g j).snap.n ≤ 1000000000 ∧ (x.g j).plan.n ≤ 1000000000

set_option maxHeartbeats 4000000 in
theorem toworld_any (x : Wx) (w : World) (h : x.At w) (hl : x.Lim) :
    Calls Tryz.prog 6 #[.agg x.cells.toArray] w fun e w' => ∃ b R B1 B2, e = .returned (.agg (x.of b R B1 B2).cells.toArray) ∧ Wo w x b R B1 B2 w' := by
  have HC : Hid (Tw w w.heap.size x.cells (w.heap.size + 1) (w.heap.size + 1 + 1) [.slice none 0 0, .slice none 0 0] [] _) := Tw.start w x.cells.toArray #[.slice none 0 0, .slice none 0 0] 25 35 35
  have HA : Hid (x.At w) := h
  have HL : Hid x.Lim := hl
  clear h hl
  go_enter Tryz.func6, Tryz.ntmps6
  go_wp2_with (refine tw_load HC.out rfl 22 _ rfl _ rfl _ rfl (by kernel_rfl) ?_)
  generalize ((w.alloc (.cells x.cells.toArray 25)).alloc (.cells #[.slice none 0 0, .slice none 0 0] 35)).alloc (.cells #[.slice none 0 0, .slice none 0 0] 35) = W at HC ⊢
  refine (toUint64_any _ _ _ _ _ (HA.out.ws.later HC.out.b0) HL.out.ws).mono ?_
  rintro e w2 ⟨rfl, hf, hb, hz⟩
  replace HC : Hid _ := HC.out.row hb hf hz
  clear hf hb hz
  go_wp2_with (first
    | refine tw_load HC.out rfl 23 _ rfl _ rfl _ rfl (by kernel_rfl) ?_
    | (refine tw_store HC.out rfl 22 _ _ rfl _ rfl _ rfl (Nat.le_of_ble_eq_true rfl) (by kernel_rfl) rfl ?_
       intro w' h
       simp only [List.set] at h
       replace HC : Hid _ := h
       clear h))
  have K := HC.out.k _ List.mem_cons_self
  have HS : Hid (w.heap.size + 1 + 1 < w'.heap.size) := HC.out.lo
  have HK : Hid _ := K.2.2.2.2
  have HK1 : Hid _ := K.2.1
  have HK2 : Hid _ := K.2.2.1
  have HK3 : Hid _ := K.2.2.2.1
  clear K
  refine (toguests_any x.a x.n x.c x.g w' (HA.out.row.later HC.out.b0) (fun j hj => ⟨(HA.out.each j hj).later HC.out.b0, HL.out.each j hj⟩) HL.out.n).mono ?_
  rintro e w3 ⟨B1, B2, rfl, hg⟩
  replace HC : Hid _ := HC.out.later hg.bel
  have HG : Hid (Gk w w'.heap.size x.n x.n x.g B1 B2 w3) := ⟨hg.row, hg.th, hg.own, hg.ord, hg.inc, HC.out.b0, by have := HS.out; omega, hg.lt⟩
  clear hg
  go_wp2_with (with_reducible refine halt_at (.store 33 (.tmp 11) (.tmp 10)) rfl ?_)
  unfold Hid
  have HC1 : Hid _ := HC.out.put 1 (.slice (some ⟨w'.heap.size, 0, none⟩) x.n x.n)
  have c1 : w3.cell? ⟨w.heap.size + 1 + 1, 1, none⟩ = some (.slice none 0 0) := (HC.out.c 1 _ rfl).1
  have c2 : w3.frozen? ⟨w.heap.size + 1 + 1, 1, none⟩ = false := (HC.out.c 1 _ rfl).2
  have HF := (HC.out.k _ List.mem_cons_self).1
  have HW : Hid (Wo w x W.heap.size w'.heap.size B1 B2 ((w3.setCell ⟨w.heap.size + 1 + 1, 1, none⟩ (.slice (some ⟨w'.heap.size, 0, none⟩) x.n x.n)).setCells (w.heap.size + 1) 0 [.slice (some ⟨W.heap.size, 0, none⟩) x.ws.n x.ws.n, .slice (some ⟨w'.heap.size, 0, none⟩) x.n x.n])) := by
    have a1 := HS.out
    have a2 := HK.out
    have a3 := HK1.out
    exact ⟨fk_setCells_far (Ne.symm HK3.out) _ _ _ (HF.far _ (Ne.symm HK2.out) _), a3, a2, (HG.out.low (c := w.heap.size + 1 + 1) (by omega) (by omega) 1 [.slice (some ⟨w'.heap.size, 0, none⟩) x.n x.n]).low (by omega) (by omega) _ _⟩
  clear HF HS HK HK1 HK2 HK3 HG HL HA
  simp only [List.set] at HC1
  go_wp2_with (first
    | refine wpList_load_mid rfl 35 _ rfl (w.heap.size + 1 + 1) 0 rfl _ _ HC1.out.c.range Tryz.underlying35 rfl (by kernel_rfl) ?_
    | refine wpList_store_mid rfl 35 _ _ rfl (w.heap.size + 1) 0 _ rfl rfl HC1.out.t (by kernel_rfl) (by simp [Value.oneCell']) ?_)
  exact bodyPost_ret (results_cell_mid rfl _ _ (w.heap.size + 1) 0 _ _ rfl (World.rangeAt_setCells_same _ _ _ _ HC1.out.t) Tryz.underlying35 rfl (by kernel_rfl)) rfl ⟨_, _, B1, B2, rfl, HW.out⟩

theorem eqop_at (a b c d : Int) (w : World) : Calls Tryz.prog 78 #[.agg #[.int .i64 a, .int .i64 b, .int .i64 c, .int .i64 d], .agg #[.int .i64 a, .int .i64 b, .int .i64 c, .int .i64 d]] w fun e w' => e = .returned (.bool true) ∧ Below w.heap.size w w' := by
  go_enter Tryz.func78, Tryz.ntmps78
  go_wp2_with (fail)
  go_ret
  exact ⟨rfl, below2 _ _ _⟩

set_option maxHeartbeats 16000000 in
theorem eqguest_at (g : Gx) (s p : Sx) (w : World) (h : g.At w) (h1 : Sl .u64 w s.a g.snap.n s.f) (h2 : Sl .u64 w p.a g.plan.n p.f) (hs : s.n = g.snap.n) (hp : p.n = g.plan.n) (e1 : ∀ j, j < g.snap.n → g.snap.f j = s.f j) (e2 : ∀ j, j < g.plan.n → g.plan.f j = p.f j) (l1 : g.snap.n ≤ 1000000000) (l2 : g.plan.n ≤ 1000000000) :
    Calls Tryz.prog 41 #[.agg g.cells.toArray, .agg ({ g with snap := s, plan := p } : Gx).cells.toArray] w fun e w' => e = .returned (.bool true) ∧ Below w.heap.size w w' := by
  obtain ⟨sa, sn, sc, sf⟩ := s
  obtain ⟨pa, pn, pc, pf⟩ := p
  obtain rfl : sn = g.snap.n := hs
  obtain rfl : pn = g.plan.n := hp
  have R1 : Hid (World.rangeAt _ w.heap.size 0 g.cells) := range_lit g.cells.toArray (heap2_0 w (.cells g.cells.toArray 68) (.cells ({ g with snap := ⟨sa, g.snap.n, sc, sf⟩, plan := ⟨pa, g.plan.n, pc, pf⟩ } : Gx).cells.toArray 68))
  have R2 : Hid (World.rangeAt _ (w.heap.size + 1) 0 ({ g with snap := ⟨sa, g.snap.n, sc, sf⟩, plan := ⟨pa, g.plan.n, pc, pf⟩ } : Gx).cells) := range_lit ({ g with snap := ⟨sa, g.snap.n, sc, sf⟩, plan := ⟨pa, g.plan.n, pc, pf⟩ } : Gx).cells.toArray (heap2_1 w (.cells g.cells.toArray 68) (.cells ({ g with snap := ⟨sa, g.snap.n, sc, sf⟩, plan := ⟨pa, g.plan.n, pc, pf⟩ } : Gx).cells.toArray 68))
  have B : Hid (Below w.heap.size w _) := below2 w (.cells g.cells.toArray 68) (.cells ({ g with snap := ⟨sa, g.snap.n, sc, sf⟩, plan := ⟨pa, g.plan.n, pc, pf⟩ } : Gx).cells.toArray 68)
  have Z : Hid (w.heap.size + 2 ≤ ((w.alloc (.cells g.cells.toArray 68)).alloc (.cells ({ g with snap := ⟨sa, g.snap.n, sc, sf⟩, plan := ⟨pa, g.plan.n, pc, pf⟩ } : Gx).cells.toArray 68)).heap.size) := by show _ ≤ _; simp
  have HA : Hid (g.At w) := h
  have H1 : Hid (Sl .u64 w sa g.snap.n sf) := h1
  have H2 : Hid (Sl .u64 w pa g.plan.n pf) := h2
  have E1 : Hid (∀ j, j < g.snap.n → g.snap.f j = sf j) := e1
  have E2 : Hid (∀ j, j < g.plan.n → g.plan.f j = pf j) := e2
  clear h h1 h2 e1 e2
  go_enter Tryz.func41, Tryz.ntmps41
  go_wp2_with (with_reducible refine halt_at (.fieldAddr 68 (.tmp 2) 0) rfl ?_)
  unfold Hid
  generalize (w.alloc (.cells g.cells.toArray 68)).alloc (.cells ({ g with snap := ⟨sa, g.snap.n, sc, sf⟩, plan := ⟨pa, g.plan.n, pc, pf⟩ } : Gx).cells.toArray 68) = W at R1 R2 B Z ⊢
  go_wp2_with (first
    | refine rg_load R1.out rfl 3 _ rfl _ rfl _ rfl (by kernel_rfl) ?_
    | refine rg_load R1.out rfl 4 _ rfl _ rfl _ rfl (by kernel_rfl) ?_
    | refine rg_load R2.out rfl 3 _ rfl _ rfl _ rfl (by kernel_rfl) ?_
    | refine rg_load R2.out rfl 4 _ rfl _ rfl _ rfl (by kernel_rfl) ?_
    | refine rg_loads R1.out rfl 66 _ rfl _ 4 rfl rfl _ Tryz.underlying66 rfl (by kernel_rfl) ?_
    | refine rg_loads R2.out rfl 66 _ rfl _ 4 rfl rfl _ Tryz.underlying66 rfl (by kernel_rfl) ?_)
  refine (eqop_at _ _ _ _ _).mono ?_
  rintro e w1 ⟨rfl, hb⟩
  have R1 : Hid (World.rangeAt w1 _ 0 g.cells) := range_below hb R1.out (by have := Z.out; omega)
  have R2 : Hid (World.rangeAt w1 _ 0 _) := range_below hb R2.out (by have := Z.out; omega)
  have B1 : Hid (Below w.heap.size w w1) := B.out.trans (hb.mono (by have := Z.out; omega))
  clear hb B Z
  go_wp2_with (first
    | refine rg_load R1.out rfl 3 _ rfl _ rfl _ rfl (by kernel_rfl) ?_
    | refine rg_load R2.out rfl 3 _ rfl _ rfl _ rfl (by kernel_rfl) ?_
    | refine rg_load R1.out rfl 4 _ rfl _ rfl _ rfl (by kernel_rfl) ?_
    | refine rg_load R2.out rfl 4 _ rfl _ rfl _ rfl (by kernel_rfl) ?_
    | refine rg_load R1.out rfl 58 _ rfl _ rfl _ rfl (by kernel_rfl) ?_
    | refine rg_load R2.out rfl 58 _ rfl _ rfl _ rfl (by kernel_rfl) ?_
    | refine rg_load R1.out rfl 22 _ rfl _ rfl _ rfl (by kernel_rfl) ?_
    | refine rg_load R2.out rfl 22 _ rfl _ rfl _ rfl (by kernel_rfl) ?_)
  refine (eqUint64_any _ _ g.snap.n _ _ _ _ _ (HA.out.1.later B1.out) (H1.out.later B1.out) E1.out l1).mono ?_
  rintro e w2 ⟨rfl, q, rfl⟩
  go_wp2_with (first
    | refine rg_load R1.out rfl 3 _ rfl _ rfl _ rfl (by kernel_rfl) ?_
    | refine rg_load R2.out rfl 3 _ rfl _ rfl _ rfl (by kernel_rfl) ?_
    | refine rg_load R1.out rfl 4 _ rfl _ rfl _ rfl (by kernel_rfl) ?_
    | refine rg_load R2.out rfl 4 _ rfl _ rfl _ rfl (by kernel_rfl) ?_
    | refine rg_load R1.out rfl 58 _ rfl _ rfl _ rfl (by kernel_rfl) ?_
    | refine rg_load R2.out rfl 58 _ rfl _ rfl _ rfl (by kernel_rfl) ?_
    | refine rg_load R1.out rfl 22 _ rfl _ rfl _ rfl (by kernel_rfl) ?_
    | refine rg_load R2.out rfl 22 _ rfl _ rfl _ rfl (by kernel_rfl) ?_)
  refine (eqUint64_any _ _ g.plan.n _ _ _ _ _ ((HA.out.2.later B1.out).drewN q) ((H2.out.later B1.out).drewN q) E2.out l2).mono ?_
  rintro e w3 ⟨rfl, q2, rfl⟩
  go_wp2_with (first
    | refine rg_load R1.out rfl 3 _ rfl _ rfl _ rfl (by kernel_rfl) ?_
    | refine rg_load R2.out rfl 3 _ rfl _ rfl _ rfl (by kernel_rfl) ?_
    | refine rg_load R1.out rfl 4 _ rfl _ rfl _ rfl (by kernel_rfl) ?_
    | refine rg_load R2.out rfl 4 _ rfl _ rfl _ rfl (by kernel_rfl) ?_
    | refine rg_load R1.out rfl 58 _ rfl _ rfl _ rfl (by kernel_rfl) ?_
    | refine rg_load R2.out rfl 58 _ rfl _ rfl _ rfl (by kernel_rfl) ?_
    | refine rg_load R1.out rfl 22 _ rfl _ rfl _ rfl (by kernel_rfl) ?_
    | refine rg_load R2.out rfl 22 _ rfl _ rfl _ rfl (by kernel_rfl) ?_)
  go_ret
  have hb := B1.out
  exact ⟨rfl, ⟨hb.os, hb.tape, hb.output, hb.size, hb.block⟩⟩

open Book (Ck ck_lit Sx takeB)
/- Two lists tell of the same words as the two of a guest. -/
structure Alike (w : World) (g : Gx) (s p : Sx) : Prop where
  at_ : g.At w
  hs : Sl .u64 w s.a g.snap.n s.f
  hp : Sl .u64 w p.a g.plan.n p.f
  sn : s.n = g.snap.n
  pn : p.n = g.plan.n
  sf : ∀ j, j < g.snap.n → g.snap.f j = s.f j
  pf : ∀ j, j < g.plan.n → g.plan.f j = p.f j
  l1 : g.snap.n ≤ 1000000000
  l2 : g.plan.n ≤ 1000000000
theorem Alike.later {w w1 : World} {g : Gx} {s p : Sx} (h : Alike w g s p) (hb : Below w.heap.size w w1) : Alike w1 g s p :=
  ⟨h.at_.later hb, h.hs.later hb, h.hp.later hb, h.sn, h.pn, h.sf, h.pf, h.l1, h.l2⟩

structure Eq2 (w0 : World) (b1 b2 o1 o2 : Nat) (c1 c2 : List Value) (w : World) : Prop where
  x : w.rangeAt b1 o1 c1
  y : w.rangeAt b2 o2 c2
  z : Below w0.heap.size w0 w

set_option maxHeartbeats 4000000 in
theorem eqguests_at (a1 a2 : Option Addr) (n c1 c2 : Nat) (g : Nat → Gx) (s p : Nat → Sx) (w : World) (h1 : RowG w a1 n g) (h2 : RowG w a2 n (fun j => { g j with snap := s j, plan := p j })) (hA : ∀ j, j < n → Alike w (g j) (s j) (p j)) (hn : n ≤ 10000000) :
    Calls Tryz.prog 24 #[.slice a1 n c1, .slice a2 n c2] w fun e w' => e = .returned (.bool true) ∧ Below w.heap.size w w' := by
  have HA : Hid (∀ j, j < n → Alike w (g j) (s j) (p j)) := hA
  have H1 : Hid (RowG w a1 n g) := h1
  have H2 : Hid (RowG w a2 n (fun j => { g j with snap := s j, plan := p j })) := h2
  clear hA h1 h2
  go_enter Tryz.func24, Tryz.ntmps24
  go_wp2_with (fail)
  go_loopw [5] (fun i wr => ∃ (k : Nat), k ≤ n ∧ i = .int .i64 k ∧ Below w.heap.size w wr) (fun i _ => n - (intOf i).toNat)
  case atStart => exact ⟨0, by omega, rfl, Below.refl _ _⟩
  case round =>
    obtain ⟨k, hk, rfl, hb⟩ := hrel
    have HB : Hid (Below w.heap.size w wr) := hb
    clear hb
    by_cases hlt : (k : Int) < n
    · rcases H1.out with h1 | ⟨b1, o1, rfl, h1⟩
      · omega
      rcases H2.out with h2 | ⟨b2, o2, rfl, h2⟩
      · omega
      have l1 := World.block_lt_of_cell? w _ (h1 k (by omega) 0 _ rfl)
      have l2 := World.block_lt_of_cell? w _ (h2 k (by omega) 0 _ rfl)
      have HR : Hid (Eq2 w b1 b2 (o1 + k * 26) (o2 + k * 26) (g k).cells ({ g k with snap := s k, plan := p k } : Gx).cells wr) := ⟨range_below HB.out (h1 k (by omega)) l1, range_below HB.out (h2 k (by omega)) l2, HB.out⟩
      have HK : Hid (Alike wr (g k) (s k) (p k)) := (HA.out k (by omega)).later HB.out
      have tk : ¬ (n : Int) ≤ k := by omega
      clear h1 h2 l1 l2
      go_wp2_with (fail)
      refine wp_region_held_drew (S := Eq2 w b1 b2 (o1 + k * 26) (o2 + k * 26) (g k).cells ({ g k with snap := s k, plan := p k } : Gx).cells) (by kernel_rfl) ⟨HR.out.x, HR.out.y, ⟨HR.out.z.os, HR.out.z.tape, HR.out.z.output, HR.out.z.size, HR.out.z.block⟩⟩ (fun hS => ?_)
      have HK1 : Hid (Alike wr.drew (g k) (s k) (p k)) := ⟨HK.out.at_, HK.out.hs, HK.out.hp, HK.out.sn, HK.out.pn, HK.out.sf, HK.out.pf, HK.out.l1, HK.out.l2⟩
      clear HK HR
      generalize wr.drew = v at hS HK1 ⊢
      refine tI 0 (v := .slice (some ⟨b1, o1, none⟩) n c1) (d := some 17) rfl rfl (fun w' hw => ?_) hS ?_
      · clear hw; go_simp
      try simp only [Act.put, s1, s2, s3]
      refine tI 1 (v := .int .i64 k) (d := some 18) rfl rfl (fun w' hw => ?_) hS ?_
      · clear hw; go_simp
      try simp only [Act.put, s1, s2, s3]
      refine tI 2 (v := .pointer (some ⟨b1, o1 + k * 26, none⟩)) (d := some 19) rfl rfl (fun w' hw => ?_) hS ?_
      · clear hw; go_simp
      try simp only [Act.put, s1, s2, s3]
      refine tB 3 (v := .agg (g k).cells.toArray) (d := some 20) rfl rfl (yieldsIf_load_mid (by rfl) 68 _ rfl b1 (o1 + k * 26) rfl (g k).cells _ (fun w' hw => hw.x) Tryz.underlying68 rfl (by kernel_rfl)) hS ?_
      try simp only [Act.put, s1, s2, s3]
      refine tI 4 (v := .slice (some ⟨b2, o2, none⟩) n c2) (d := some 21) rfl rfl (fun w' hw => ?_) hS ?_
      · clear hw; go_simp
      try simp only [Act.put, s1, s2, s3]
      refine tI 5 (v := .int .i64 k) (d := some 22) rfl rfl (fun w' hw => ?_) hS ?_
      · clear hw; go_simp
      try simp only [Act.put, s1, s2, s3]
      refine tI 6 (v := .pointer (some ⟨b2, o2 + k * 26, none⟩)) (d := some 23) rfl rfl (fun w' hw => ?_) hS ?_
      · clear hw; go_simp
      try simp only [Act.put, s1, s2, s3]
      refine tB 7 (v := .agg ({ g k with snap := s k, plan := p k } : Gx).cells.toArray) (d := some 24) rfl rfl (yieldsIf_load_mid (by rfl) 68 _ rfl b2 (o2 + k * 26) rfl ({ g k with snap := s k, plan := p k } : Gx).cells _ (fun w' hw => hw.y) Tryz.underlying68 rfl (by kernel_rfl)) hS ?_
      try simp only [Act.put, s1, s2, s3]
      refine r1 8 rfl (fun K hK => ?_)
      have HS : Hid (Eq2 _ _ _ _ _ _ _ v) := hS
      clear hS
      go_simp
      refine (eqguest_at (g k) (s k) (p k) v HK1.out.at_ HK1.out.hs HK1.out.hp HK1.out.sn HK1.out.pn HK1.out.sf HK1.out.pf HK1.out.l1 HK1.out.l2).mono ?_
      rintro e v1 ⟨rfl, hb⟩
      have l1 := World.block_lt_of_cell? v _ (HS.out.x 0 _ rfl)
      have l2 := World.block_lt_of_cell? v _ (HS.out.y 0 _ rfl)
      refine hK.out _ _ ⟨range_below hb HS.out.x l1, range_below hb HS.out.y l2, HS.out.z.trans (hb.mono HS.out.z.size)⟩ (fun hS => ?_)
      clear hK K HS hb l1 l2
      refine tI 9 (v := .bool false) (d := some 26) rfl rfl (fun w' hw => ?_) hS ?_
      · clear hw; go_simp
      try simp only [Act.put, s1, s2, s3]
      refine wpAnyH_done (by kernel_rfl) ?_ _
      have HB1 : Hid (Below w.heap.size w v1) := hS.z
      clear hS HB HK1
      go_wp2_with (fail)
      go_roundw
      case rel => exact ⟨k + 1, by omega, by go_num, HB1.out⟩
      case measure => simp [intOf]; omega
    · obtain rfl : k = n := by omega
      go_wp2_with (fail)
      go_ret
      exact ⟨rfl, HB.out⟩

open Aid Lst Plat
/- When a world is one. -/
def Wok (x : Wx) : Prop := gd x.ws.n x.ws.f = true ∧ x.n ≤ 6 ∧ ∀ j, j < x.n → Gok (gS x.ws.n x.ws.f) (gP x.ws.n x.ws.f) (gL x.ws.n x.ws.f) (x.g j)
/- Numbers that are words. -/
def Words64 (x : Sx) : Prop := x.n ≤ 1000000000 ∧ ∀ j, j < x.n → 0 ≤ x.f j ∧ x.f j < 18446744073709551616

/- A call with a world in a struct of its own, and a house beside it. -/
structure Lw (w0 : World) (x : Wx) (s p l : Int) (C : Nat) (w : World) : Prop where
  b : w.rangeAt w0.heap.size 0 x.cells
  c : w.rangeAt C 0 (ints [s, p, l])
  z : Below w0.heap.size w0 w
  lb : w0.heap.size < w.heap.size
  lc : C < w.heap.size
theorem Lw.later {w0 w w1 : World} {x : Wx} {s p l : Int} {C : Nat} (h : Lw w0 x s p l C w) (hb : Below w.heap.size w w1) : Lw w0 x s p l C w1 :=
  ⟨range_below hb h.b h.lb, range_below hb h.c h.lc, h.z.trans (hb.mono h.z.size), Nat.lt_of_lt_of_le h.lb hb.size, Nat.lt_of_lt_of_le h.lc hb.size⟩

set_option maxHeartbeats 4000000 in
theorem wok_any (x : Wx) (w : World) (h : x.At w) (hw : Words64 x.ws) :
    Calls Tryz.prog 19 #[.agg x.cells.toArray] w fun e w' => e = .returned (.bool (boolOf (Wok x))) ∧ Below w.heap.size w w' := by
  have R : Hid (World.rangeAt _ w.heap.size 0 x.cells) := range_lit x.cells.toArray (heap1_0 w (.cells x.cells.toArray 35))
  have B : Hid (Below w.heap.size w (w.alloc (.cells x.cells.toArray 35))) := below1 w _
  have Z : Hid (w.heap.size + 1 ≤ (w.alloc (.cells x.cells.toArray 35)).heap.size) := by show _ ≤ _; simp
  have HA : Hid (x.At w) := h
  have HW : Hid (Words64 x.ws) := hw
  clear h hw
  go_enter Tryz.func19, Tryz.ntmps19
  go_wp2_with (with_reducible refine halt_at (.fieldAddr 35 (.tmp 1) 0) rfl ?_)
  unfold Hid
  generalize w.alloc (.cells x.cells.toArray 35) = W at R B Z ⊢
  go_wp2_with (refine rg_load R.out rfl 22 _ rfl _ rfl _ rfl (by kernel_rfl) ?_)
  refine (check_all _ _ _ _ _ (HA.out.ws.later B.out) HW.out.1 HW.out.2).mono ?_
  rintro e w1 ⟨rfl, hb⟩
  have L : Hid (Lw w x (gS x.ws.n x.ws.f) (gP x.ws.n x.ws.f) (gL x.ws.n x.ws.f) w1.heap.size ((w1.alloc (.cells #[.int .i64 0, .int .i64 0, .int .i64 0] 62)).setCells w1.heap.size 0 (ints [gS x.ws.n x.ws.f, gP x.ws.n x.ws.f, gL x.ws.n x.ws.f]))) := by
    have z := Z.out
    have t := there_lit #[.int .i64 0, .int .i64 0, .int .i64 0] (heap1_0 w1 (.cells #[.int .i64 0, .int .i64 0, .int .i64 0] 62))
    have hz := hb.size
    have b2 : Below w1.heap.size w1 ((w1.alloc (.cells #[.int .i64 0, .int .i64 0, .int .i64 0] 62)).setCells w1.heap.size 0 (ints [gS x.ws.n x.ws.f, gP x.ws.n x.ws.f, gL x.ws.n x.ws.f])) := below_setCells (below1 w1 _) (Nat.le_refl _) _ _
    have hz2 := b2.size
    have hz3 := setCells_size w1.heap.size (ints [gS x.ws.n x.ws.f, gP x.ws.n x.ws.f, gL x.ws.n x.ws.f]) 0 (w1.alloc (.cells #[.int .i64 0, .int .i64 0, .int .i64 0] 62))
    have hz4 : (w1.alloc (.cells #[.int .i64 0, .int .i64 0, .int .i64 0] 62)).heap.size = w1.heap.size + 1 := by simp
    exact ⟨range_below b2 (range_below hb R.out (by omega)) (by omega), World.rangeAt_setCells_same _ _ _ _ t, (B.out.trans (hb.mono (by omega))).trans (b2.mono (by omega)), by omega, by omega⟩
  have T : Hid ((w1.alloc (.cells #[.int .i64 0, .int .i64 0, .int .i64 0] 62)).there w1.heap.size 0 3) := there_lit #[.int .i64 0, .int .i64 0, .int .i64 0] (heap1_0 w1 (.cells #[.int .i64 0, .int .i64 0, .int .i64 0] 62))
  clear hb R B Z
  go_wp2_with (with_reducible refine halt_at (.store 62 (.tmp 3) (.tmp 11)) rfl ?_)
  unfold Hid
  refine wpList_store_mid rfl 62 _ _ rfl w1.heap.size 0 (ints [gS x.ws.n x.ws.f, gP x.ws.n x.ws.f, gL x.ws.n x.ws.f]).toArray rfl rfl T.out (by kernel_rfl) (ints_one _) ?_
  rw [show (ints [gS x.ws.n x.ws.f, gP x.ws.n x.ws.f, gL x.ws.n x.ws.f]).toArray.toList = ints [gS x.ws.n x.ws.f, gP x.ws.n x.ws.f, gL x.ws.n x.ws.f] from rfl]
  generalize (w1.alloc (.cells #[.int .i64 0, .int .i64 0, .int .i64 0] 62)).setCells w1.heap.size 0 (ints [gS x.ws.n x.ws.f, gP x.ws.n x.ws.f, gL x.ws.n x.ws.f]) = V at L ⊢
  clear T
  have c1 := at0 L.out.b 1 (v := .slice x.a x.n x.c) rfl
  cases hg : gd x.ws.n x.ws.f
  · have HN : Hid (¬ Wok x) := fun h => by have := h.1; rw [hg] at this; cases this
    clear hg
    go_wp2_with (fail)
    go_ret
    exact ⟨ret_bool (boolOf_f HN.out), L.out.z⟩
  have HG : Hid (gd x.ws.n x.ws.f = true) := hg
  clear hg
  by_cases h6 : (6 : Int) < x.n
  · have HN : Hid (¬ Wok x) := fun h => by have := h.2.1; omega
    go_wp2_with (fail)
    go_ret
    exact ⟨ret_bool (boolOf_f HN.out), L.out.z⟩
  go_wp2_with (fail)
  clear c1
  go_loopw [24] (fun i wr => ∃ (k : Nat), k ≤ x.n ∧ i = .int .i64 k ∧ Lw w x (gS x.ws.n x.ws.f) (gP x.ws.n x.ws.f) (gL x.ws.n x.ws.f) w1.heap.size wr ∧ (∀ j, j < k → Gok (gS x.ws.n x.ws.f) (gP x.ws.n x.ws.f) (gL x.ws.n x.ws.f) (x.g j))) (fun i _ => x.n - (intOf i).toNat)
  case atStart => exact ⟨0, by omega, rfl, L.out, fun j hj => by omega⟩
  case round =>
    obtain ⟨k, hk, rfl, hL, hJ⟩ := hrel
    have HJ : Hid (∀ j, j < k → Gok (gS x.ws.n x.ws.f) (gP x.ws.n x.ws.f) (gL x.ws.n x.ws.f) (x.g j)) := hJ
    clear hJ L
    by_cases hlt : (k : Int) < x.n
    · have hR := HA.out.row
      rcases hR with h1 | ⟨b1, o1, e1, h1⟩
      · omega
      have l1 := World.block_lt_of_cell? w _ (h1 k (by omega) 0 _ rfl)
      have HR : Hid (World.rangeAt wr b1 (o1 + k * 26) (x.g k).cells) := range_below hL.z (h1 k (by omega)) l1
      have L2 : Hid (Lw w x (gS x.ws.n x.ws.f) (gP x.ws.n x.ws.f) (gL x.ws.n x.ws.f) w1.heap.size ((wr.alloc (.cells zG 68)).setCells wr.heap.size 0 (x.g k).cells)) := hL.later (below_setCells (below1 wr _) (Nat.le_refl _) _ _)
      have T : Hid ((wr.alloc (.cells zG 68)).there wr.heap.size 0 26) := there_lit zG (heap1_0 wr (.cells zG 68))
      have HR2 : Hid (World.rangeAt ((wr.alloc (.cells zG 68)).setCells wr.heap.size 0 (x.g k).cells) wr.heap.size 0 (x.g k).cells) := World.rangeAt_setCells_same _ _ _ _ T.out
      clear hL h1 l1
      rw [e1]
      clear e1
      go_wp2_with (first
        | refine wpList_load_mid rfl 68 _ rfl b1 (o1 + k * 26) rfl (x.g k).cells _ HR.out Tryz.underlying68 rfl (by kernel_rfl) ?_
        | with_reducible refine halt_at (.store 68 (.tmp 6) (.tmp 27)) rfl ?_)
      unfold Hid
      refine wpList_store_mid rfl 68 _ _ rfl wr.heap.size 0 (x.g k).cells.toArray rfl rfl T.out (by kernel_rfl) (by simp [Gx.cells, Value.oneCell']) ?_
      rw [show (x.g k).cells.toArray.toList = (x.g k).cells from rfl, show (#[Value.bool false, .int .i64 0, .int .i64 0, .bool false, .int .i64 0, .int .i64 0, .int .i64 0, .int .i64 0, .int .i64 0, .int .i64 0, .int .i64 0, .int .i64 0, .int .i64 0, .int .i64 0, .int .i64 0, .bool false, .int .i64 0, .int .u64 0, .int .u64 0, .int .u64 0, .int .u64 0, .slice none 0 0, .slice none 0 0, .int .i64 0, .int .i64 0, .int .i64 0] : Array Value) = zG from rfl]
      generalize (wr.alloc (.cells zG 68)).setCells wr.heap.size 0 (x.g k).cells = V2 at L2 HR2 ⊢
      clear T HR
      go_wp2_with (first
        | refine wpList_load_mid rfl 68 _ rfl wr.heap.size 0 rfl (x.g k).cells _ HR2.out Tryz.underlying68 rfl (by kernel_rfl) ?_
        | refine wpList_load_mid rfl 62 _ rfl w1.heap.size 0 rfl (ints [gS x.ws.n x.ws.f, gP x.ws.n x.ws.f, gL x.ws.n x.ws.f]) _ L2.out.c Tryz.underlying62 rfl (by kernel_rfl) ?_)
      refine (gok_any (gS x.ws.n x.ws.f) (gP x.ws.n x.ws.f) (gL x.ws.n x.ws.f) (x.g k) V2).mono ?_
      rintro e w2 ⟨rfl, hb⟩
      have L3 : Hid (Lw w x (gS x.ws.n x.ws.f) (gP x.ws.n x.ws.f) (gL x.ws.n x.ws.f) w1.heap.size w2) := L2.out.later hb
      clear hb L2 HR2
      by_cases hG : Gok (gS x.ws.n x.ws.f) (gP x.ws.n x.ws.f) (gL x.ws.n x.ws.f) (x.g k)
      · rw [← boolOf_t hG]
        have HJ2 : Hid (∀ j, j < k + 1 → Gok (gS x.ws.n x.ws.f) (gP x.ws.n x.ws.f) (gL x.ws.n x.ws.f) (x.g j)) := fun j hj => by
          by_cases e : j = k
          · subst e; exact hG
          · exact HJ.out j (by omega)
        clear hG
        go_wp2_with (fail)
        go_roundw
        case rel => exact ⟨k + 1, by omega, by go_num, L3.out, HJ2.out⟩
        case measure => simp [intOf]; omega
      · rw [← boolOf_f hG]
        have HN : Hid (¬ Wok x) := fun h => hG (h.2.2 k (by omega))
        clear hG
        go_wp2_with (fail)
        go_ret
        exact ⟨ret_bool (boolOf_f HN.out), L3.out.z⟩
    · obtain rfl : k = x.n := by omega
      have HY : Hid (Wok x) := ⟨HG.out, by omega, HJ.out⟩
      have HL : Hid (Below w.heap.size w wr) := hL.z
      clear hL
      go_wp2_with (fail)
      go_ret
      exact ⟨ret_bool (boolOf_t HY.out), HL.out⟩

end Go.Proofs.YtgfbfgiohmdjmaaGreat.Gs

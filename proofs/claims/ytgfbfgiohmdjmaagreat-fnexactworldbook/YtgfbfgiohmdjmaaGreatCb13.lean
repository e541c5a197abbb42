/- The book that words stand for, by the program. Conditions: at most 1,000,000,000 words, each of 64 bits. -/
import Derived.Test.YtgfbfgiohmdjmaaGreatCb9
import Derived.Test.YtgfbfgiohmdjmaaGreatM25
import Derived.Test.YtgfbfgiohmdjmaaGreatIOpen2
import Derived.Test.YtgfbfgiohmdjmaaGreatM26
namespace Go.Proofs.YtgfbfgiohmdjmaaGreat.Book
open Go.ChangeShapes Go.WideShapes Go.ChangeAt Go.RowKit
open Aid Lst Words
open Plat (okB okB_of getF W64 layL layL_len layL_get Hs HsQ hs_one lay_var)
set_option maxRecDepth 100000
set_option linter.unusedVariables false

/- Whether words stand for a book; what is answered. -/
def CbP (n : Nat) (f : Nat → Int) (c : Bx) : Prop := ∃ (S P : Nat) (l : Int), Hs n f S P l ∧ RdM f S P c.m ∧ OkP c ∧ stP S f (layF c S P) (3 + S + S + 4 + P + P * 8 + P * 8)
def CbQ (n : Nat) (f : Nat → Int) (c : Bx) (r : Bool) : Prop := (r = true ∧ CbP n f c) ∨ (r = false ∧ c.m = noneM ∧ ∀ d, ¬ CbP n f d)
theorem cbp_m {n : Nat} {f : Nat → Int} {c d : Bx} (h : c.m = d.m) (g : CbP n f c) : CbP n f d := by
  obtain ⟨S, P, l, g1, g2, g3, g4⟩ := g
  exact ⟨S, P, l, g1, h ▸ g2, (ok_m h).1 g3, by rw [← lay_m h]; exact g4⟩
theorem cbp_one {n : Nat} {f : Nat → Int} {c d : Bx} (h : CbP n f c) (g : CbP n f d) : c.m = d.m := by
  obtain ⟨S, P, l, h1, h2, -⟩ := h
  obtain ⟨S', P', l', g1, g2, -⟩ := g
  obtain ⟨rfl, rfl, rfl⟩ := hs_one h1 g1
  exact rdm_one h2 g2
theorem cbq_one {n : Nat} {f : Nat → Int} {c d : Bx} {r q : Bool} (h : CbQ n f c r) (g : CbQ n f d q) : c.m = d.m ∧ r = q := by
  rcases h with ⟨rfl, h⟩ | ⟨rfl, h1, h2⟩ <;> rcases g with ⟨rfl, g⟩ | ⟨rfl, g1, g2⟩
  · exact ⟨cbp_one h g, rfl⟩
  · exact absurd h (g2 c)
  · exact absurd g (h2 d)
  · exact ⟨h1.trans g1.symm, rfl⟩

/- What it rests on: where the answer will lie, the house and its layout, each in a variable. -/
structure Kb (w0 : World) (S P : Nat) (l : Int) (cb lb : Nat) (w : World) : Prop where
  t : Ck w w0.heap.size Z9
  c : w.rangeAt cb 0 (ints [(S : Int), (P : Int), l])
  y : w.rangeAt lb 0 (ints (layL S P))
  b : Below w0.heap.size w0 w
  z : w0.heap.size < cb ∧ w0.heap.size < lb ∧ cb < lb ∧ lb < w.heap.size
theorem Kb.below {w0 w w1 : World} {S P : Nat} {l : Int} {cb lb B : Nat} (h : Kb w0 S P l cb lb w) (hb : Below B w w1) (hB : lb < B) : Kb w0 S P l cb lb w1 :=
  have := h.z
  ⟨h.t.below hb (by omega), range_below hb h.c (by omega), range_below hb h.y (by omega), h.b.trans (hb.mono (by omega)), by have := hb.size; omega⟩
theorem Kb.later {w0 w w1 : World} {S P : Nat} {l : Int} {cb lb : Nat} (h : Kb w0 S P l cb lb w) (hb : Below w.heap.size w w1) : Kb w0 S P l cb lb w1 := h.below hb h.z.2.2.2
theorem Kb.drew {w0 w : World} {S P : Nat} {l : Int} {cb lb : Nat} (h : Kb w0 S P l cb lb w) : Kb w0 S P l cb lb w.drew := ⟨h.t, h.c, h.y, ⟨h.b.os, h.b.tape, h.b.output, h.b.size, h.b.block⟩, h.z⟩

/- An answer is laid where it is read. -/
theorem ans0 {w0 w : World} {c : Bx} {B C : Nat} (ht : Ck w w0.heap.size Z9) (hb : Below w0.heap.size w0 w) (z : w0.heap.size < w.heap.size) (ho : c.Own B C w) (hB : w0.heap.size < B) (hC : C ≤ w.heap.size) :
    ∃ w1 : World, w1 = (((((((((w.setCell ⟨w0.heap.size, 0, none⟩ (.int .i64 c.s)).setCell ⟨w0.heap.size, 1, none⟩ (.slice c.p.a c.p.n c.p.c)).setCell ⟨w0.heap.size, 2, none⟩ (.slice c.h0.a c.h0.n c.h0.c)).setCell ⟨w0.heap.size, 3, none⟩ (.slice c.h1.a c.h1.n c.h1.c)).setCell ⟨w0.heap.size, 4, none⟩ (.slice c.h2.a c.h2.n c.h2.c)).setCell ⟨w0.heap.size, 5, none⟩ (.slice c.h3.a c.h3.n c.h3.c)).setCell ⟨w0.heap.size, 6, none⟩ (.slice c.o.a c.o.n c.o.c)).setCell ⟨w0.heap.size, 7, none⟩ (.slice c.i.a c.i.n c.i.c)).setCell ⟨w0.heap.size, 8, none⟩ (.slice c.e.a c.e.n c.e.c)) ∧ Ck w1 w0.heap.size c.cells ∧ c.Own w0.heap.size w1.heap.size w1 ∧ Below w0.heap.size w0 w1 := by
  obtain ⟨ck, oy⟩ := put9 ht (.int .i64 c.s) (.slice c.p.a c.p.n c.p.c) (.slice c.h0.a c.h0.n c.h0.c) (.slice c.h1.a c.h1.n c.h1.c) (.slice c.h2.a c.h2.n c.h2.c) (.slice c.h3.a c.h3.n c.h3.c) (.slice c.o.a c.o.n c.o.c) (.slice c.i.a c.i.n c.i.c) (.slice c.e.a c.e.n c.e.c)
  have zl := oy.size
  refine ⟨_, rfl, ck, ?_, hb.trans (oy.below (by omega) |>.mono (by omega))⟩
  exact (ho.only oy (.inr (by omega))).mono (by omega) (by omega)

/- A struct of many cells is loaded behind a test that is so. -/
theorem wpList_load_want {Pr : Program} {ops : Array Oper} {rest : List Oper} {op : Oper} {a : Act} {w : World} {Q : Exit → Act → World → Prop} (hw : Region.wanted op (yielded ops a.tmps) = true) (ty : TypeId) (x : Operand) (ho : op.op = .load ty x)
    (b o : Nat) (hx : a.eval x = .pointer (some ⟨b, o, none⟩)) (cs : List Value) (d : TypeDesc) (hc : w.rangeAt b o cs)
    (hu : Pr.underlying ty = some d) (hd : d.isRow = true) (hi : (Pr.info? ty).map (·.size) = some cs.length)
    (h : wpList Pr ops Q rest (a.put op.dst (.agg cs.toArray)) w) : wpList Pr ops Q (op :: rest) a w :=
  BigFrame.wpList_want hw fun _ hK => wp_load_mid ty x ho b o hx cs d hc hu hd hi (hK _ _ h)

set_option maxHeartbeats 16000000 in
theorem cbook_any (a : Option Addr) (n cap : Nat) (f : Nat → Int) (w : World) (h : Sl .u64 w a n f) (hn : n ≤ 1000000000) (hw : W64 f) :
    Calls Tryz.prog 39 #[.slice a n cap] w fun e w' => ∃ (c : Bx) (r : Bool), e = .returned (.tuple #[.agg c.cells.toArray, .bool r]) ∧ CbQ n f c r ∧ c.Own w.heap.size w'.heap.size w' ∧ Below w.heap.size w w' := by
  have HSL : Hid (Sl .u64 w a n f) := h
  have HW : Hid (W64 f) := hw
  have T0 : Hid (Ck (w.alloc (.cells #[.int .i64 0, .slice none 0 0, .slice none 0 0, .slice none 0 0, .slice none 0 0, .slice none 0 0, .slice none 0 0, .slice none 0 0, .slice none 0 0] 30)) w.heap.size Z9) := ck_lit #[.int .i64 0, .slice none 0 0, .slice none 0 0, .slice none 0 0, .slice none 0 0, .slice none 0 0, .slice none 0 0, .slice none 0 0, .slice none 0 0] (heap1_0 w _)
  have B0 : Hid (Below w.heap.size w (w.alloc (.cells #[.int .i64 0, .slice none 0 0, .slice none 0 0, .slice none 0 0, .slice none 0 0, .slice none 0 0, .slice none 0 0, .slice none 0 0, .slice none 0 0] 30))) := below1 _ _
  have z0 : w.heap.size < (w.alloc (.cells #[.int .i64 0, .slice none 0 0, .slice none 0 0, .slice none 0 0, .slice none 0 0, .slice none 0 0, .slice none 0 0, .slice none 0 0, .slice none 0 0] 30)).heap.size := by simp
  clear h hw
  go_enter Tryz.func39, Tryz.ntmps39
  go_wp2_with (fail)
  generalize w.alloc (.cells #[.int .i64 0, .slice none 0 0, .slice none 0 0, .slice none 0 0, .slice none 0 0, .slice none 0 0, .slice none 0 0, .slice none 0 0, .slice none 0 0] 30) = W0 at T0 B0 z0 ⊢
  refine (Plat.house_any a n cap f W0 (HSL.out.later B0.out) hn (fun j _ => HW.out j)).mono ?_
  rintro e W1 ⟨hq, hb⟩
  have T1 : Hid (Ck W1 w.heap.size Z9) := T0.out.below hb z0
  have B1 : Hid (Below w.heap.size w W1) := B0.out.trans (hb.mono B0.out.size)
  have z1 : w.heap.size < W1.heap.size := Nat.lt_of_lt_of_le z0 hb.size
  clear hb T0 B0 z0
  rcases hq with ⟨S, P, l, hs, rfl⟩ | ⟨hno, rfl⟩
  case inr =>
    have NO : Hid (∀ d, ¬ CbP n f d) := fun d ⟨S, P, l, g, _⟩ => hno S P l g
    clear hno
    obtain ⟨w9, e9, ck9, ow9, be9⟩ := ans0 T1.out B1.out z1 (none_own W1.heap.size W1.heap.size _) z1 (Nat.le_refl _)
    simp only [noneB] at e9
    have tk0 := T1.out 0 _ rfl
    have tk1 := T1.out 1 _ rfl
    have tk2 := T1.out 2 _ rfl
    have tk3 := T1.out 3 _ rfl
    have tk4 := T1.out 4 _ rfl
    have tk5 := T1.out 5 _ rfl
    have tk6 := T1.out 6 _ rfl
    have tk7 := T1.out 7 _ rfl
    have tk8 := T1.out 8 _ rfl
    have HE : Hid (w9 = _) := e9
    clear e9
    go_wp2_with (fail)
    rw [← HE.out]
    have bb := below1 w9 (.cells #[.int .i64 0, .int .i64 0, .int .i64 0] 62)
    have lt9 : w.heap.size < w9.heap.size := ck9.lt
    exact bodyPost_ret (Plat.results_cell_tmp_mid rfl _ _ w.heap.size 0 _ _ rfl (ck9.below bb lt9).range Tryz.underlying30 rfl (by kernel_rfl)) rfl ⟨noneB, false, rfl, .inr ⟨rfl, rfl, NO.out⟩, (ow9.later bb).mono (Nat.le_refl _) bb.size, be9.trans (bb.mono be9.size)⟩
  have HHS : Hid (Hs n f S P l) := hs
  obtain ⟨-, -, ok, -, -, -, hsz⟩ := hs
  have OKB : Hid (okB S P l = true) := ok
  obtain ⟨k1, k2, k3, k4, k5, k6⟩ := okB_of ok
  have hN : 3 + S + S + 4 + P + P * 8 + P * 8 ≤ n := by omega
  clear hsz ok
  go_wp2_with (fail)
  have C2 : Hid ((W1.alloc (.cells #[.int .i64 S, .int .i64 P, .int .i64 l] 62)).rangeAt W1.heap.size 0 (ints [(S : Int), (P : Int), l])) := range_lit (ints [(S : Int), (P : Int), l]).toArray (heap1_0 _ _)
  have T2 : Hid (Ck (W1.alloc (.cells #[.int .i64 S, .int .i64 P, .int .i64 l] 62)) w.heap.size Z9) := T1.out.below (below1 _ _) z1
  have B2 : Hid (Below w.heap.size w (W1.alloc (.cells #[.int .i64 S, .int .i64 P, .int .i64 l] 62))) := B1.out.trans ((below1 _ _).mono (by omega))
  have z2 : W1.heap.size < (W1.alloc (.cells #[.int .i64 S, .int .i64 P, .int .i64 l] 62)).heap.size := by simp
  refine (Plat.lay_ok S P l _ OKB.out).mono ?_
  generalize W1.alloc (.cells #[.int .i64 S, .int .i64 P, .int .i64 l] 62) = W2 at C2 T2 B2 z2 ⊢
  rintro e W3 ⟨rfl, hb⟩
  have z3 := hb.size
  obtain ⟨v1, v2, v3, v4⟩ := lay_var (layL S P) (layL_len S P) W3
  have HT : Hid (World.there _ _ _ _) := v1
  have KB : Hid (Kb w S P l W1.heap.size W3.heap.size _) := ⟨(T2.out.below hb (by omega)).below v2 (by omega), range_below v2 (range_below hb C2.out (by omega)) (by omega), v3, (B2.out.trans (hb.mono (by omega))).trans (v2.mono (by omega)), by omega⟩
  clear T1 B1 C2 T2 B2 hb v1 v2 v3 v4
  obtain ⟨cb, hcb⟩ : ∃ cb, cb = W1.heap.size := ⟨_, rfl⟩
  obtain ⟨lb, hlb⟩ : ∃ lb, lb = W3.heap.size := ⟨_, rfl⟩
  go_wp2_with (refine wpList_store_mid rfl 86 _ _ rfl _ _ _ rfl rfl HT.out (by kernel_rfl) (ints_one _) ?_; generalize hW : World.setCells _ _ _ _ = W4; replace KB : Hid (Kb w S P l W1.heap.size W3.heap.size W4) := (by rw [← hW]; exact KB.out); clear hW HT)
  rw [← hcb, ← hlb] at KB ⊢
  clear hcb hlb z1 z2 z3
  obtain ⟨Q, hQ⟩ : ∃ Q : Nat, Q = P * 8 := ⟨_, rfl⟩
  have HQ : Hid (Q = P * 8) := hQ
  have q48 : Q ≤ 48 := by omega
  clear hQ
  have hmk := fun w => run_make_row' (P := Tryz.prog) 27 3 (.int .i64 0) 8 Tryz.underlying27 infoInt rfl .i64 .i64 Q (by omega) (by omega) w
  refine wp_region_held_drew (S := Kb w S P l cb lb) (by kernel_rfl) KB.out.drew (fun hS => ?_)
  simp only [Act.put]
  refine tI 0 (v := .agg #[.int .i64 S, .int .i64 P, .int .i64 l]) (d := some 20) rfl rfl (fun w' hw => ?_) (by assumption) ?_
  · have e0 := hw.c 0 _ rfl; have e1 := hw.c 1 _ rfl; have e2 := hw.c 2 _ rfl; simp only [Nat.zero_add] at e0 e1 e2; clear hw; go_simp
  simp only [Act.put, s1, s2, s3]
  refine tI 2 (v := .pointer (some ⟨lb, 0, none⟩)) (d := some 22) rfl rfl (fun w' hw => ?_) (by assumption) ?_
  · clear hw; go_simp
  simp only [Act.put, s1, s2, s3]
  refine tI 3 (v := .pointer (some ⟨lb, 6, none⟩)) (d := some 23) rfl rfl (fun w' hw => ?_) (by assumption) ?_
  · clear hw; go_simp
  simp only [Act.put, s1, s2, s3]
  refine tI 4 (v := .int .i64 (Q : Int)) (d := some 24) rfl rfl (fun w' hw => ?_) (by assumption) ?_
  · have q := hw.y 6 (.int .i64 (Plat.cell2 S P 8 6)) (by rw [ints_get _ _ (by rw [layL_len]; omega), layL_get _ _ _ (by omega)]); have e : Plat.cell2 S P 8 6 = (Q : Int) := (by rw [HQ.out]; exact (show (P : Int) * 8 = ((P * 8 : Nat) : Int) by omega)); rw [e] at q; simp only [Nat.zero_add] at q; clear hw e; go_simp
  simp only [Act.put, s1, s2, s3]
  generalize World.drew W4 = V0 at hS ⊢
  have HS0 : Hid (Kb w S P l cb lb V0) := hS
  have v0 := hS.z
  have v00 := hS.b.size
  clear hS KB
  refine wpAnyH_ready (rs := [1, 5]) (by kernel_rfl) (by simp) ?_
  refine AllReadyH.cons rfl (fun K hK => ?A) (AllReadyH.cons rfl (fun K hK => ?B) AllReadyH.nil)
  case' A =>
    go_simp
    refine (open_nil S P l V0).mono ?_
    rintro e V1 ⟨b0, rfl, bm, bo, hb, nh⟩
    have HM : Hid (b0.m = openM S P l) := bm
    have NH : Hid (NilH b0) := nh
    have hS1 := HS0.out.later hb
    have o1 : b0.Own V0.heap.size V1.heap.size V1 := bo
    have z1 := hb.size
    have HO1 : Hid (b0.Own V0.heap.size V1.heap.size V1) := o1
    have HS1 : Hid (Kb w S P l cb lb V1) := hS1
    clear bm bo nh hb hS1 o1
    simp only [Bx.cells]
    go_simp
    refine hK.out _ _ HS1.out (fun hS => ?_)
    clear hK K hS
    refine r1 5 rfl (fun K hK => ?_)
    have HS2 : Hid (Kb w S P l cb lb (V1.alloc (.cells (madeCells #[.int .i64 0] Q) 3))) := HS1.out.later (below1 _ _)
    have f2 : Hid (Fk .i64 Q (V1.alloc (.cells (madeCells #[.int .i64 0] Q) 3)) V1.heap.size (fun _ => 0)) := fk_made .i64 V1 Q 3
    have o2 : Hid (b0.Own V0.heap.size V1.heap.size (V1.alloc (.cells (madeCells #[.int .i64 0] Q) 3))) := HO1.out.later (below1 _ _)
    have z2 : V1.heap.size < (V1.alloc (.cells (madeCells #[.int .i64 0] Q) 3)).heap.size := by simp
    go_simp
    refine hK.out _ _ HS2.out (fun hS => ?_)
    clear hK K hmk HO1
    obtain ⟨kl, hkl⟩ : ∃ kl, kl = V1.heap.size := ⟨_, rfl⟩
    have AK : Hid (Away b0 kl) := o2.out.away (Nat.le_of_eq hkl.symm)
    rw [← hkl] at f2 ⊢
    generalize V1.alloc (.cells (madeCells #[.int .i64 0] Q) 3) = V2 at HS2 f2 o2 z2 hS ⊢
    have OW : Hid (b0.Own V0.heap.size V2.heap.size V2) := o2.out.mono (Nat.le_refl _) (by omega)
    have kl0 : V0.heap.size ≤ kl := by omega
    have kl1 : kl < V2.heap.size := by omega
    clear o2 z1 z2 hkl HS1 HS2
    refine tI 6 (v := .agg #[.int .i64 b0.s, .slice b0.p.a b0.p.n b0.p.c, .slice b0.h0.a b0.h0.n b0.h0.c, .slice b0.h1.a b0.h1.n b0.h1.c, .slice b0.h2.a b0.h2.n b0.h2.c, .slice b0.h3.a b0.h3.n b0.h3.c, .slice b0.o.a b0.o.n b0.o.c, .slice b0.i.a b0.i.n b0.i.c, .slice b0.e.a b0.e.n b0.e.c, .int .i64 0, .int .i64 0, .int .i64 0, .int .i64 0, .slice (some ⟨kl, 0, none⟩) Q Q]) (d := some 26) rfl rfl (fun w' hw => ?_) (by assumption) ?_
    · clear hw; go_simp
    simp only [Act.put, s1, s2, s3]
    refine r1 7 rfl (fun K hK => ?_)
    have HS9 : Hid (Kb w S P l cb lb (V2.alloc (.cells #[.int .i64 b0.s, .slice b0.p.a b0.p.n b0.p.c, .slice b0.h0.a b0.h0.n b0.h0.c, .slice b0.h1.a b0.h1.n b0.h1.c, .slice b0.h2.a b0.h2.n b0.h2.c, .slice b0.h3.a b0.h3.n b0.h3.c, .slice b0.o.a b0.o.n b0.o.c, .slice b0.i.a b0.i.n b0.i.c, .slice b0.e.a b0.e.n b0.e.c, .int .i64 0, .int .i64 0, .int .i64 0, .int .i64 0, .slice (some ⟨kl, 0, none⟩) Q Q] 93))) := hS.later (below1 _ _)
    clear hS
    go_simp
    refine hK.out _ _ HS9.out (fun hS => ?_)
    clear hK K
    refine tI 8 (v := .pointer (some ⟨V2.heap.size, 0, none⟩)) (d := some 7) rfl rfl (fun w' hw => ?_) (by assumption) ?_
    · clear hw; go_simp
    simp only [Act.put, s1, s2, s3]
    refine wpAnyH_done (by kernel_rfl) ?_ _
    clear hS
  case' B =>
    have HS1 : Hid (Kb w S P l cb lb (V0.alloc (.cells (madeCells #[.int .i64 0] Q) 3))) := HS0.out.later (below1 _ _)
    have f1 : Hid (Fk .i64 Q (V0.alloc (.cells (madeCells #[.int .i64 0] Q) 3)) V0.heap.size (fun _ => 0)) := fk_made .i64 V0 Q 3
    have z1 : V0.heap.size < (V0.alloc (.cells (madeCells #[.int .i64 0] Q) 3)).heap.size := by simp
    go_simp
    refine hK.out _ _ HS1.out (fun hS => ?_)
    clear hK K hS hmk
    obtain ⟨kl, hkl⟩ : ∃ kl, kl = V0.heap.size := ⟨_, rfl⟩
    rw [← hkl] at f1 ⊢
    have kl0 : V0.heap.size ≤ kl := by omega
    have klx : kl ≤ V0.heap.size := by omega
    clear hkl
    generalize V0.alloc (.cells (madeCells #[.int .i64 0] Q) 3) = V1 at HS1 f1 z1 ⊢
    refine r1 1 rfl (fun K hK => ?_)
    go_simp
    refine (open_nil S P l V1).mono ?_
    rintro e V2 ⟨b0, rfl, bm, bo, hb, nh⟩
    have HM : Hid (b0.m = openM S P l) := bm
    have NH : Hid (NilH b0) := nh
    have HS2 : Hid (Kb w S P l cb lb V2) := HS1.out.later hb
    have f2 : Hid (Fk .i64 Q V2 kl (fun _ => 0)) := f1.out.later hb
    have AK : Hid (Away b0 kl) := fun x hx k o e hp hk => by
      rcases bo.each x hx with h0 | ⟨j, e', g1, g2, g3⟩
      · omega
      · rw [e] at e'; cases e'; omega
    have OW : Hid (b0.Own V0.heap.size V2.heap.size V2) := bo.mono (by omega) (Nat.le_refl _)
    have z2 := hb.size
    have kl1 : kl < V2.heap.size := by omega
    clear bm bo nh hb f1
    simp only [Bx.cells]
    go_simp
    refine hK.out _ _ HS2.out (fun hS => ?_)
    clear hK K z1 z2 klx HS1 HS2
    refine tI 6 (v := .agg #[.int .i64 b0.s, .slice b0.p.a b0.p.n b0.p.c, .slice b0.h0.a b0.h0.n b0.h0.c, .slice b0.h1.a b0.h1.n b0.h1.c, .slice b0.h2.a b0.h2.n b0.h2.c, .slice b0.h3.a b0.h3.n b0.h3.c, .slice b0.o.a b0.o.n b0.o.c, .slice b0.i.a b0.i.n b0.i.c, .slice b0.e.a b0.e.n b0.e.c, .int .i64 0, .int .i64 0, .int .i64 0, .int .i64 0, .slice (some ⟨kl, 0, none⟩) Q Q]) (d := some 26) rfl rfl (fun w' hw => ?_) (by assumption) ?_
    · clear hw; go_simp
    simp only [Act.put, s1, s2, s3]
    refine r1 7 rfl (fun K hK => ?_)
    have HS9 : Hid (Kb w S P l cb lb (V2.alloc (.cells #[.int .i64 b0.s, .slice b0.p.a b0.p.n b0.p.c, .slice b0.h0.a b0.h0.n b0.h0.c, .slice b0.h1.a b0.h1.n b0.h1.c, .slice b0.h2.a b0.h2.n b0.h2.c, .slice b0.h3.a b0.h3.n b0.h3.c, .slice b0.o.a b0.o.n b0.o.c, .slice b0.i.a b0.i.n b0.i.c, .slice b0.e.a b0.e.n b0.e.c, .int .i64 0, .int .i64 0, .int .i64 0, .int .i64 0, .slice (some ⟨kl, 0, none⟩) Q Q] 93))) := hS.later (below1 _ _)
    clear hS
    go_simp
    refine hK.out _ _ HS9.out (fun hS => ?_)
    clear hK K
    refine tI 8 (v := .pointer (some ⟨V2.heap.size, 0, none⟩)) (d := some 7) rfl rfl (fun w' hw => ?_) (by assumption) ?_
    · clear hw; go_simp
    simp only [Act.put, s1, s2, s3]
    refine wpAnyH_done (by kernel_rfl) ?_ _
    clear hS
  all_goals
    obtain rfl := HQ.out
    have HD : Hid (Ck (V2.alloc (.cells #[.int .i64 b0.s, .slice b0.p.a b0.p.n b0.p.c, .slice b0.h0.a b0.h0.n b0.h0.c, .slice b0.h1.a b0.h1.n b0.h1.c, .slice b0.h2.a b0.h2.n b0.h2.c, .slice b0.h3.a b0.h3.n b0.h3.c, .slice b0.o.a b0.o.n b0.o.c, .slice b0.i.a b0.i.n b0.i.c, .slice b0.e.a b0.e.n b0.e.c, .int .i64 0, .int .i64 0, .int .i64 0, .int .i64 0, .slice (some ⟨kl, 0, none⟩) (P * 8) (P * 8)] 93)) V2.heap.size (draftC f S P kl 0 b0)) := ck_lit #[.int .i64 b0.s, .slice b0.p.a b0.p.n b0.p.c, .slice b0.h0.a b0.h0.n b0.h0.c, .slice b0.h1.a b0.h1.n b0.h1.c, .slice b0.h2.a b0.h2.n b0.h2.c, .slice b0.h3.a b0.h3.n b0.h3.c, .slice b0.o.a b0.o.n b0.o.c, .slice b0.i.a b0.i.n b0.i.c, .slice b0.e.a b0.e.n b0.e.c, .int .i64 0, .int .i64 0, .int .i64 0, .int .i64 0, .slice (some ⟨kl, 0, none⟩) (P * 8) (P * 8)] (heap1_0 V2 _)
    have HK : Hid (Fk .i64 (P * 8) (V2.alloc (.cells #[.int .i64 b0.s, .slice b0.p.a b0.p.n b0.p.c, .slice b0.h0.a b0.h0.n b0.h0.c, .slice b0.h1.a b0.h1.n b0.h1.c, .slice b0.h2.a b0.h2.n b0.h2.c, .slice b0.h3.a b0.h3.n b0.h3.c, .slice b0.o.a b0.o.n b0.o.c, .slice b0.i.a b0.i.n b0.i.c, .slice b0.e.a b0.e.n b0.e.c, .int .i64 0, .int .i64 0, .int .i64 0, .int .i64 0, .slice (some ⟨kl, 0, none⟩) (P * 8) (P * 8)] 93)) kl (cutn 0 (wLk f S P))) := by unfold Hid; rw [cutn_zero]; exact f2.out.later (below1 _ _)
    have HO : Hid (b0.Own V0.heap.size V2.heap.size (V2.alloc (.cells #[.int .i64 b0.s, .slice b0.p.a b0.p.n b0.p.c, .slice b0.h0.a b0.h0.n b0.h0.c, .slice b0.h1.a b0.h1.n b0.h1.c, .slice b0.h2.a b0.h2.n b0.h2.c, .slice b0.h3.a b0.h3.n b0.h3.c, .slice b0.o.a b0.o.n b0.o.c, .slice b0.i.a b0.i.n b0.i.c, .slice b0.e.a b0.e.n b0.e.c, .int .i64 0, .int .i64 0, .int .i64 0, .int .i64 0, .slice (some ⟨kl, 0, none⟩) (P * 8) (P * 8)] 93))) := OW.out.later (below1 _ _)
    have AD : Hid (Away b0 V2.heap.size) := OW.out.away (Nat.le_refl _)
    have z3 : V2.heap.size < (V2.alloc (.cells #[.int .i64 b0.s, .slice b0.p.a b0.p.n b0.p.c, .slice b0.h0.a b0.h0.n b0.h0.c, .slice b0.h1.a b0.h1.n b0.h1.c, .slice b0.h2.a b0.h2.n b0.h2.c, .slice b0.h3.a b0.h3.n b0.h3.c, .slice b0.o.a b0.o.n b0.o.c, .slice b0.i.a b0.i.n b0.i.c, .slice b0.e.a b0.e.n b0.e.c, .int .i64 0, .int .i64 0, .int .i64 0, .int .i64 0, .slice (some ⟨kl, 0, none⟩) (P * 8) (P * 8)] 93)).heap.size := by simp
    have M0 : Hid (b0.m = stM f S P 0 0 0 nilL nilL nilL nilL) := by
      unfold Hid
      rw [HM.out]
      unfold openM stM
      rw [if_pos OKB.out, cutn_zero, cutn_zero, cutn_zero, cutn_zero]
      simp [nilL]
    clear f2 OW HM
    go_wp2_with (fail)
    generalize V2.alloc (.cells #[.int .i64 b0.s, .slice b0.p.a b0.p.n b0.p.c, .slice b0.h0.a b0.h0.n b0.h0.c, .slice b0.h1.a b0.h1.n b0.h1.c, .slice b0.h2.a b0.h2.n b0.h2.c, .slice b0.h3.a b0.h3.n b0.h3.c, .slice b0.o.a b0.o.n b0.o.c, .slice b0.i.a b0.i.n b0.i.c, .slice b0.e.a b0.e.n b0.e.c, .int .i64 0, .int .i64 0, .int .i64 0, .int .i64 0, .slice (some ⟨kl, 0, none⟩) (P * 8) (P * 8)] 93) = V3 at HS9 HD HK HO z3 ⊢
    obtain ⟨dk, hdk⟩ : ∃ dk, dk = V2.heap.size := ⟨_, rfl⟩
    rw [← hdk] at HD HO AD z3 kl1 ⊢
    have dk0 : V0.heap.size ≤ dk := by omega
    clear hdk
    refine wp_region_held_drew (S := Kb w S P l cb lb) (by kernel_rfl) HS9.out.drew (fun hS => ?_)
    refine tI 0 (v := .slice a n cap) (d := some 28) rfl rfl (fun w' hw => ?_) (by assumption) ?_
    · clear hw; go_simp
    simp only [Act.put, s1, s2, s3]
    refine tI 1 (v := .pointer (some ⟨dk, 0, none⟩)) (d := some 29) rfl rfl (fun w' hw => ?_) (by assumption) ?_
    · clear hw; go_simp
    simp only [Act.put, s1, s2, s3]
    refine tB 3 (v := .agg (ints (layL S P)).toArray) (d := some 31) rfl rfl (yieldsIf_load_mid (by rfl) 86 _ rfl lb 0 rfl (ints (layL S P)) _ (fun w' hw => hw.y) Tryz.underlying86 rfl (by kernel_rfl)) (by assumption) ?_
    simp only [Act.put, s1, s2, s3]
    have HD4 : Hid (Ck V3.drew dk (draftC f S P kl 0 b0)) := HD.out
    have HK4 : Hid (Fk .i64 (P * 8) V3.drew kl (cutn 0 (wLk f S P))) := HK.out
    have HO4 : Hid (b0.Own V0.heap.size dk V3.drew) := HO.out.drew
    have z4 : dk < V3.drew.heap.size := z3
    clear HD HK HO z3 HS9
    generalize World.drew V3 = V4 at hS HD4 HK4 HO4 z4 ⊢
    refine r1 2 rfl (fun K hK => ?_)
    have HS4 : Hid (Kb w S P l cb lb V4) := hS
    clear hS
    go_simp
    refine (reader_any a n cap dk b0.p b0.o ⟨some ⟨kl, 0, none⟩, P * 8, P * 8, fun _ => 0⟩ V4 (HD4.out 1 _ rfl).1 (HD4.out 6 _ rfl).1 (HD4.out 13 _ rfl).1).mono ?_
    rintro e V5 ⟨l1, l2, l3, l4, rfl, xw, xd, x1, x2, x3, x4, ⟨y1, y2, y3, y4⟩, hb⟩
    have z5 := hb.size
    have R5 : Hid (RdB w a n cap f S P V0.heap.size V4.heap.size V4.heap.size (V4.heap.size + 1) l1 l2 l3 l4 dk kl b0 3 V5) := by
      refine ⟨xw, xd, x1, x2, x3, x4, ?_, ?_, (HO4.out.later hb).mono (Nat.le_refl _) (by omega), ?_, AD.out, AK.out, HS4.out.b.trans (hb.mono HS4.out.b.size), NH.out⟩
      · rw [show 3 - (3 + S + S) = 0 by omega]; exact HD4.out.below hb z4
      · rw [show min (3 - (3 + S + S + 4 + P + P * 8)) (P * 8) = 0 by omega]; exact HK4.out.later hb
      · rw [M0.out]; exact stm_eq (by omega) (by omega) (by omega)
    have RS : Hid (RdS w V0.heap.size V4.heap.size V4.heap.size (V4.heap.size + 1) l1 l2 l3 l4 dk kl) := ⟨by omega, by omega, by omega, y1, y2, y3, y4, dk0, by omega, kl0, by omega, by omega⟩
    have HS5 : Hid (Kb w S P l cb lb V5) := HS4.out.later hb
    clear xw xd x1 x2 x3 x4 y1 y2 y3 y4 hb HD4 HK4 HO4 M0 HS4
    obtain ⟨wb, hwb⟩ : ∃ x, x = V4.heap.size := ⟨_, rfl⟩
    obtain ⟨db, hdb⟩ : ∃ x, x = V4.heap.size + 1 := ⟨_, rfl⟩
    obtain ⟨C5, hC5⟩ : ∃ x, x = V4.heap.size := ⟨_, rfl⟩
    have R5' : Hid (RdB w a n cap f S P V0.heap.size C5 wb db l1 l2 l3 l4 dk kl b0 3 V5) := by unfold Hid; rw [hwb, hdb, hC5]; exact R5.out
    have RS' : Hid (RdS w V0.heap.size C5 wb db l1 l2 l3 l4 dk kl) := by unfold Hid; rw [hwb, hdb, hC5]; exact RS.out
    have c5 : C5 ≤ V5.heap.size := by omega
    have c5d : dk < C5 := by omega
    rw [← hdb, ← hwb]
    clear hwb hdb hC5 R5 RS z5 z4
    go_simp
    refine hK.out _ _ HS5.out (fun hS => ?_)
    clear hK K hS
    refine r1 4 rfl (fun K hK => ?_)
    have VI : Hid (Calls _ _ _ _ _) := reading_any (B := V0.heap.size) (C := C5) (wb := wb) (db := db) (l1 := l1) (l2 := l2) (l3 := l3) (l4 := l4) (dk := dk) (kl := kl) (cap := cap) RS'.out HSL.out HW.out hN (by omega) (by omega) V5 c5 ⟨b0, R5'.out⟩
    go_simp
    refine VI.out.mono ?_
    rintro e V6 ⟨rfl, ⟨b1, rd⟩, ho⟩
    have zv : V0.heap.size ≤ V5.heap.size := by omega
    have HS6 : Hid (Kb w S P l cb lb V6) := HS5.out.below (ho.below zv) (by omega)
    have HD6 : Hid (Ck V6 dk (draftC f S P kl 4 b1)) := by
      have e := rd.d
      unfold draftC at e
      rw [hdC_full f S _ (by omega)] at e
      exact e
    have HK6 : Hid (Fk .i64 (P * 8) V6 kl (wLk f S P)) := rd.k.congr (fun j hj => by unfold cutn; rw [if_pos (by omega)])
    have HO6 : Hid (b1.Own V0.heap.size C5 V6) := rd.o
    have M6 : Hid (b1.m = stM f S P S P (P * 8) nilL nilL nilL nilL) := rd.m.trans (stm_eq (by omega) (by omega) (by omega))
    have NH6 : Hid (NilH b1) := rd.nh
    have AD6 : Hid (Away b1 dk) := rd.ad
    have AK6 : Hid (Away b1 kl) := rd.ak
    have z6 : C5 ≤ V6.heap.size := Nat.le_trans c5 ho.size
    clear rd ho VI R5' RS' HS5 c5 zv AD AK NH
    go_simp
    refine hK.out _ _ HS6.out (fun hS => ?_)
    clear hK K hS
    refine wpAnyH_done (by kernel_rfl) ?_ _
    go_wp2_with (fail)
    refine (finish_any f S P dk kl V0.heap.size C5 b1 V6 HD6.out HK6.out HO6.out M6.out NH6.out AD6.out AK6.out dk0 (by omega) kl0 (by omega) (by omega) z6 (by omega) (by omega)).mono ?_
    rintro e V7 ⟨c, rfl, rm, co, hb⟩
    have HS7 : Kb w S P l cb lb V7 := HS6.out.below hb (by omega)
    have RM : Hid (RdM f S P c.m) := rm
    have z7 : V0.heap.size ≤ V7.heap.size := by have := hb.size; omega
    have HC7 : Hid (c.Own V0.heap.size V7.heap.size V7) := co
    clear rm co hb HS6 HD6 HK6 HO6 M6 NH6 AD6 AK6 z6
    simp only [Bx.cells]
    have b8 := below1 V7 (.cells #[.int .i64 c.s, .slice c.p.a c.p.n c.p.c, .slice c.h0.a c.h0.n c.h0.c, .slice c.h1.a c.h1.n c.h1.c, .slice c.h2.a c.h2.n c.h2.c, .slice c.h3.a c.h3.n c.h3.c, .slice c.o.a c.o.n c.o.c, .slice c.i.a c.i.n c.i.c, .slice c.e.a c.e.n c.e.c] 30)
    have HS8 : Kb w S P l cb lb (V7.alloc (.cells #[.int .i64 c.s, .slice c.p.a c.p.n c.p.c, .slice c.h0.a c.h0.n c.h0.c, .slice c.h1.a c.h1.n c.h1.c, .slice c.h2.a c.h2.n c.h2.c, .slice c.h3.a c.h3.n c.h3.c, .slice c.o.a c.o.n c.o.c, .slice c.i.a c.i.n c.i.c, .slice c.e.a c.e.n c.e.c] 30)) := HS7.later b8
    have HC8 : Hid (c.Own V0.heap.size V7.heap.size (V7.alloc (.cells #[.int .i64 c.s, .slice c.p.a c.p.n c.p.c, .slice c.h0.a c.h0.n c.h0.c, .slice c.h1.a c.h1.n c.h1.c, .slice c.h2.a c.h2.n c.h2.c, .slice c.h3.a c.h3.n c.h3.c, .slice c.o.a c.o.n c.o.c, .slice c.i.a c.i.n c.i.c, .slice c.e.a c.e.n c.e.c] 30))) := HC7.out.later b8
    have BB8 : Hid (Ck (V7.alloc (.cells #[.int .i64 c.s, .slice c.p.a c.p.n c.p.c, .slice c.h0.a c.h0.n c.h0.c, .slice c.h1.a c.h1.n c.h1.c, .slice c.h2.a c.h2.n c.h2.c, .slice c.h3.a c.h3.n c.h3.c, .slice c.o.a c.o.n c.o.c, .slice c.i.a c.i.n c.i.c, .slice c.e.a c.e.n c.e.c] 30)) V7.heap.size c.cells) := ck_lit #[.int .i64 c.s, .slice c.p.a c.p.n c.p.c, .slice c.h0.a c.h0.n c.h0.c, .slice c.h1.a c.h1.n c.h1.c, .slice c.h2.a c.h2.n c.h2.c, .slice c.h3.a c.h3.n c.h3.c, .slice c.o.a c.o.n c.o.c, .slice c.i.a c.i.n c.i.c, .slice c.e.a c.e.n c.e.c] (heap1_0 V7 _)
    have z8 : V7.heap.size < (V7.alloc (.cells #[.int .i64 c.s, .slice c.p.a c.p.n c.p.c, .slice c.h0.a c.h0.n c.h0.c, .slice c.h1.a c.h1.n c.h1.c, .slice c.h2.a c.h2.n c.h2.c, .slice c.h3.a c.h3.n c.h3.c, .slice c.o.a c.o.n c.o.c, .slice c.i.a c.i.n c.i.c, .slice c.e.a c.e.n c.e.c] 30)).heap.size := by simp
    have e0 := HS8.c 0 _ rfl
    have e1 := HS8.c 1 _ rfl
    have e2 := HS8.c 2 _ rfl
    simp only [Nat.zero_add] at e0 e1 e2
    have HHS8 : Hid (Kb w S P l cb lb (V7.alloc (.cells #[.int .i64 c.s, .slice c.p.a c.p.n c.p.c, .slice c.h0.a c.h0.n c.h0.c, .slice c.h1.a c.h1.n c.h1.c, .slice c.h2.a c.h2.n c.h2.c, .slice c.h3.a c.h3.n c.h3.c, .slice c.o.a c.o.n c.o.c, .slice c.i.a c.i.n c.i.c, .slice c.e.a c.e.n c.e.c] 30))) := HS8
    clear HC7 HS7 HS8 b8
    go_wp2_with (fail)
    generalize V7.alloc (.cells #[.int .i64 c.s, .slice c.p.a c.p.n c.p.c, .slice c.h0.a c.h0.n c.h0.c, .slice c.h1.a c.h1.n c.h1.c, .slice c.h2.a c.h2.n c.h2.c, .slice c.h3.a c.h3.n c.h3.c, .slice c.o.a c.o.n c.o.c, .slice c.i.a c.i.n c.i.c, .slice c.e.a c.e.n c.e.c] 30) = V8 at HC8 BB8 z8 HHS8 ⊢
    clear e0 e1 e2
    have tot := rd_total RM.out (by omega) (by omega)
    refine (lay_any S P l c V8 HC8.out.at (by omega) (HC8.out.caps c.o (by simp [Bx.lists]))).mono ?_
    rintro e V9 ⟨lq, hb⟩
    have z9 := hb.size
    have K9 := HHS8.out.later hb
    have HC9 : Hid (c.Own V0.heap.size V7.heap.size V9) := HC8.out.later hb
    have BB9 : Hid (Ck V9 V7.heap.size c.cells) := BB8.out.below hb z8
    have es : c.s = S := by obtain ⟨n0, n1, n2, n3, -, e⟩ := RM.out; exact congrArg (·.s) e
    have ep : c.p.n = P := by obtain ⟨n0, n1, n2, n3, -, e⟩ := RM.out; exact congrArg (fun m => m.p.1) e
    have ES : Hid (c.s = S) := es
    have EP : Hid (c.p.n = P) := ep
    clear hb HC8 BB8 HHS8 es ep
    obtain ⟨w9, e9, ck9, ow9, be9⟩ := ans0 K9.t K9.b (by omega) (none_own V9.heap.size V9.heap.size _) (by omega) (Nat.le_refl _)
    simp only [noneB] at e9
    have HE : Hid (w9 = _) := e9
    have CK9 : Hid (Ck w9 w.heap.size noneB.cells) := ck9
    have OW9 : Hid (noneB.Own w.heap.size w9.heap.size w9) := ow9
    have BE9 : Hid (Below w.heap.size w w9) := be9
    have eqn : ∀ w : World, (binOp BinOp.eql 27 (.slice none 0 0) (.slice none 0 0)).run Tryz.prog w = .ok (.bool true) w := fun _ => by kernel_rfl
    clear e9 ck9 ow9 be9
    rcases lq with ⟨fit, S', P', vk, eS, eP, rfl, vk0, vk1, fv⟩ | ⟨nf, rfl⟩
    case inr =>
      have NO : Hid (∀ d, ¬ CbP n f d) := fun d ⟨S2, P2, l2, g1, g2, g3, g4⟩ => by
        obtain ⟨rfl, rfl, rfl⟩ := hs_one HHS.out g1
        exact nf ⟨OKB.out, (ok_m (rdm_one g2 RM.out)).1 g3, ES.out, by rw [EP.out]⟩
      have tk0 := K9.t 0 _ rfl
      have tk1 := K9.t 1 _ rfl
      have tk2 := K9.t 2 _ rfl
      have tk3 := K9.t 3 _ rfl
      have tk4 := K9.t 4 _ rfl
      have tk5 := K9.t 5 _ rfl
      have tk6 := K9.t 6 _ rfl
      have tk7 := K9.t 7 _ rfl
      have tk8 := K9.t 8 _ rfl
      clear nf K9
      go_wp2_with (fail)
      rw [← HE.out]
      exact bodyPost_ret (Plat.results_cell_tmp_mid rfl _ _ w.heap.size 0 _ _ rfl CK9.out.range Tryz.underlying30 rfl (by kernel_rfl)) rfl ⟨noneB, false, rfl, .inr ⟨rfl, rfl, NO.out⟩, OW9.out, BE9.out⟩
    have eS' : S' = S := by omega
    have eP' : P' = P := by omega
    subst eS' eP'
    obtain ⟨H, hH⟩ : ∃ H : Nat, H = 3 + S' + S' + 4 + P' + P' * 8 + P' * 8 := ⟨_, rfl⟩
    have HH : Hid (H = 3 + S' + S' + 4 + P' + P' * 8 + P' * 8) := hH
    rw [← hH] at fv hN ⊢
    have FV : Hid (Fk .i64 H V9 vk (layF c S' P')) := fv
    have OKC : Hid (OkP c) := fit.2.1
    have eqf : ∀ w : World, (binOp BinOp.eql 27 (.slice (some ⟨vk, 0, none⟩) H H) (.slice none 0 0)).run Tryz.prog w = .ok (.bool false) w := fun _ => by kernel_rfl
    have R9 : Hid (V9.rangeAt lb 0 (ints (layL S' P'))) := K9.y
    have HK9 : Hid (Kb w S' P' l cb lb V9) := K9
    clear fit fv eS eP hH K9
    go_wp2_with (refine wpList_load_want (by rfl) 86 _ rfl lb 0 rfl (ints (layL S' P')) _ R9.out Tryz.underlying86 rfl (by kernel_rfl) ?_)
    refine (stands_any S' P' a n cap H vk f (layF c S' P') V9 (HSL.out.later HK9.out.b) HW.out (by omega) (by omega) hN HH.out FV.out).mono ?_
    rintro e V10 ⟨⟨r, rfl, hr⟩, hb⟩
    have K10 := HK9.out.later hb
    have z10 := hb.size
    have HC10 : Hid (c.Own V0.heap.size V7.heap.size V10) := HC9.out.later hb
    have BB10 : Ck V10 V7.heap.size c.cells := BB9.out.below hb (by omega)
    clear HE CK9 OW9 BE9 HK9 R9 FV HC9 BB9 hb
    cases r
    · have NO : Hid (∀ d, ¬ CbP n f d) := fun d ⟨S2, P2, l2, g1, g2, g3, g4⟩ => by
        obtain ⟨rfl, rfl, rfl⟩ := hs_one HHS.out g1
        have e := rdm_one g2 RM.out
        refine hr.f ?_
        rw [HH.out, ← lay_m e]
        exact g4
      obtain ⟨w9, e9, ck9, ow9, be9⟩ := ans0 K10.t K10.b (by omega) (none_own V10.heap.size V10.heap.size _) (by omega) (Nat.le_refl _)
      simp only [noneB] at e9
      have HE : Hid (w9 = _) := e9
      have tk0 := K10.t 0 _ rfl
      have tk1 := K10.t 1 _ rfl
      have tk2 := K10.t 2 _ rfl
      have tk3 := K10.t 3 _ rfl
      have tk4 := K10.t 4 _ rfl
      have tk5 := K10.t 5 _ rfl
      have tk6 := K10.t 6 _ rfl
      have tk7 := K10.t 7 _ rfl
      have tk8 := K10.t 8 _ rfl
      clear e9 hr K10 BB10
      go_wp2_with (fail)
      rw [← HE.out]
      exact bodyPost_ret (Plat.results_cell_tmp_mid rfl _ _ w.heap.size 0 _ _ rfl ck9.range Tryz.underlying30 rfl (by kernel_rfl)) rfl ⟨noneB, false, rfl, .inr ⟨rfl, rfl, NO.out⟩, ow9, be9⟩
    · have YES : Hid (CbP n f c) := ⟨S', P', l, HHS.out, RM.out, OKC.out, by rw [← HH.out]; exact hr.t⟩
      obtain ⟨w9, e9, ck9, ow9, be9⟩ := ans0 K10.t K10.b (by omega) HC10.out (by omega) (by omega)
      obtain ⟨u0, u1, u2, u3, u4, u5, u6, u7, u8⟩ := nine BB10.range
      have HE : Hid (w9 = _) := e9
      have tk0 := K10.t 0 _ rfl
      have tk1 := K10.t 1 _ rfl
      have tk2 := K10.t 2 _ rfl
      have tk3 := K10.t 3 _ rfl
      have tk4 := K10.t 4 _ rfl
      have tk5 := K10.t 5 _ rfl
      have tk6 := K10.t 6 _ rfl
      have tk7 := K10.t 7 _ rfl
      have tk8 := K10.t 8 _ rfl
      clear e9 hr K10 BB10
      go_wp2_with (fail)
      rw [← HE.out]
      exact bodyPost_ret (Plat.results_cell_tmp_mid rfl _ _ w.heap.size 0 _ _ rfl ck9.range Tryz.underlying30 rfl (by kernel_rfl)) rfl ⟨c, true, rfl, .inl ⟨rfl, YES.out⟩, ow9, be9⟩

end Go.Proofs.YtgfbfgiohmdjmaaGreat.Book

/- Of every world, the true book that the program's WorldBook answers, held against the specification; in new memory of its own. Conditions: none. -/
import Derived.Test.YtgfbfgiohmdjmaaGreatM12
import Derived.Test.YtgfbfgiohmdjmaaGreatM28
import Derived.Test.YtgfbfgiohmdjmaaGreatM29
import Derived.Test.YtgfbfgiohmdjmaaGreatM7
namespace Go.Proofs.YtgfbfgiohmdjmaaGreat.Gs
open Go.ChangeShapes Go.WideShapes Go.ChangeAt Go.RowKit
open Aid Lst Plat
open Book (Ck ck_lit Sx Bx Bm takeB Only Z9 CtQ CtA ctq_total noneM noneB none1 St eq_any mark_any held_any total_m wpList_load_wanted)
open Words (wf64)
set_option maxRecDepth 100000
set_option linter.unusedVariables false

theorem wbq_total {x : Wx} {c : Bx} {r : Bool} (h : WbQ x c r) : c.total ≤ 1000 := by
  rcases h with ⟨_, h⟩ | ⟨_, _, h⟩
  · exact ctq_total h
  · simp only [noneM, none1, Bx.m, Bm.mk.injEq, Sx.m, Prod.mk.injEq] at h
    obtain ⟨_, ⟨h1, _⟩, ⟨h2, _⟩, ⟨h3, _⟩, ⟨h4, _⟩, ⟨h5, _⟩, ⟨h6, _⟩, ⟨h7, _⟩, ⟨h8, _⟩⟩ := h
    simp only [Bx.total]
    omega
theorem st_put {w0 w : World} {rs : List (Nat × List Value)} (h : St w0 rs [] w) (Z : Array Value) (cs : List Value) (t : TypeId) (hn : Z.size = cs.length) : St w0 ((w.heap.size, cs) :: rs) [] ((w.alloc (.cells Z t)).setCells w.heap.size 0 cs) := by
  have hb : Below w.heap.size w ((w.alloc (.cells Z t)).setCells w.heap.size 0 cs) := below_setCells (below1 w _) (Nat.le_refl _) _ _
  have hl := h.later hb
  refine ⟨fun p hp => ?_, by simp, hl.b⟩
  rcases List.mem_cons.1 hp with rfl | hp
  · exact ⟨World.rangeAt_setCells_same _ _ _ _ (there_new w Z t _ hn), by show _ < _; rw [setCells_size]; simp⟩
  · exact hl.r p hp
theorem Good64.w64 {x : Sx} {w : World} (h : Good64 x w) : W64 x.f := fun j => wf64 (h.2.2 j)
theorem wbq_of {x : Wx} {b R : Nat} {B1 B2 : Nat → Nat} {c : Bx} {r : Bool} (h : WbQ (x.of b R B1 B2) c r) : WbQ x c r := h

set_option maxHeartbeats 8000000 in
theorem law_wb (x : Wx) (w : World) (h : x.Good w) : Calls Tryz.prog 3 #[.agg x.cells.toArray] w fun e w' => e = .returned (.bool true) ∧ Below w.heap.size w w' := by
  have L : Hid (St w [(w.heap.size, x.cells)] [] (w.alloc (.cells x.cells.toArray 25))) := ⟨fun p hp => by
    simp at hp
    subst hp
    exact ⟨range_lit x.cells.toArray (heap1_0 w (.cells x.cells.toArray 25)), by simp⟩, by simp, below1 w _⟩
  have HG : Hid (x.Good w) := h
  have HA : Hid (x.At w) := h.at
  have H64 : Hid (W64 x.ws.f) := h.ws.w64
  clear h
  go_enter Tryz.func3, Tryz.ntmps3
  go_wp2_with (with_reducible refine halt_at (.load 25 (.tmp 1)) rfl ?_)
  unfold Hid
  generalize w.alloc (.cells x.cells.toArray 25) = W at L ⊢
  refine wpList_load_mid rfl 25 _ rfl w.heap.size 0 rfl x.cells _ (L.out.r (w.heap.size, x.cells) (by simp)).1 Tryz.underlying25 rfl (by kernel_rfl) ?_
  go_wp2_with (fail)
  refine (szworld_any x 1048576 W ⟨⟨HG.out.ws.1.later L.out.b, HG.out.ws.2⟩, HG.out.row.later L.out.b, fun j hj => ⟨⟨(HG.out.each j hj).snap.1.later L.out.b, (HG.out.each j hj).snap.2⟩, ⟨(HG.out.each j hj).plan.1.later L.out.b, (HG.out.each j hj).plan.2⟩⟩, HG.out.lim⟩ (by omega) (by omega)).mono ?_
  rintro e w1 ⟨⟨r, rfl, hr, -, -⟩, hb⟩
  have L1 : Hid (St w [(w.heap.size, x.cells)] [] w1) := L.out.later hb
  clear hb L
  by_cases r0 : r < 0
  · clear hr
    go_wp2_with (fail)
    go_ret
    exact ⟨rfl, L1.out.b⟩
  have hr1 := hr (by omega)
  have HL : Hid x.Lim := Wx.lim_of hr1 (by omega)
  have HM : Hid (x.ws.n ≤ 1048576 ∧ x.n ≤ 1048576 ∧ ∀ j, j < x.n → (x.g j).snap.n ≤ 1048576 ∧ (x.g j).plan.n ≤ 1048576) := ⟨by omega, by omega, fun j hj => by have := sum_le x.g x.n j hj; omega⟩
  have HW : Hid (Words64 x.ws) := words_of HG.out.ws HL.out.ws
  clear hr hr1 HG
  go_wp2_with (refine wpList_load_mid rfl 25 _ rfl w.heap.size 0 rfl x.cells _ (L1.out.r (w.heap.size, x.cells) (by simp)).1 Tryz.underlying25 rfl (by kernel_rfl) ?_)
  refine (toworld_any x w1 (HA.out.later L1.out.b) HL.out).mono ?_
  rintro e w2 ⟨b0, R0, B10, B20, rfl, hw⟩
  have L2 : Hid (St w [(w.heap.size, x.cells)] [] w2) := L1.out.later hw.gs.bel
  have HO : Hid (Wo w1 x b0 R0 B10 B20 w2) := hw
  clear hw L1
  go_wp2_with (fail)
  refine (swbook_any (x.of b0 R0 B10 B20) w2 HO.out.at HW.out H64.out b0 rfl (by have := HO.out.br; have := HO.out.gs.lt; omega)).mono ?_
  rintro e w3 ⟨s0, q0, rfl, sq, so', hb⟩
  have L3 : Hid (St w [(w.heap.size, x.cells)] [] w3) := L2.out.later hb
  have SQ : Hid (WbQ x s0 q0) := sq
  have SO : Hid (s0.Own w2.heap.size w3.heap.size w3) := so'
  have Z2 : Hid (w.heap.size < w2.heap.size) := (L2.out.r (w.heap.size, x.cells) (by simp)).2
  have ts := wbq_total SQ.out
  have SQ2 : Hid (WbQ x s0 q0) := sq
  have Z3 : Hid (w2.heap.size ≤ w3.heap.size) := hb.size
  clear sq so' hb L2 HO
  have T : Hid (World.there (w3.alloc (.cells #[.int .i64 0, .slice none 0 0, .slice none 0 0, .slice none 0 0, .slice none 0 0, .slice none 0 0, .slice none 0 0, .slice none 0 0, .slice none 0 0] 30)) w3.heap.size 0 9) := there_lit #[.int .i64 0, .slice none 0 0, .slice none 0 0, .slice none 0 0, .slice none 0 0, .slice none 0 0, .slice none 0 0, .slice none 0 0, .slice none 0 0] (heap1_0 w3 (.cells #[.int .i64 0, .slice none 0 0, .slice none 0 0, .slice none 0 0, .slice none 0 0, .slice none 0 0, .slice none 0 0, .slice none 0 0, .slice none 0 0] 30))
  have hbs : Below w3.heap.size w3 ((w3.alloc (.cells #[.int .i64 0, .slice none 0 0, .slice none 0 0, .slice none 0 0, .slice none 0 0, .slice none 0 0, .slice none 0 0, .slice none 0 0, .slice none 0 0] 30)).setCells w3.heap.size 0 s0.cells) := below_setCells (below1 w3 _) (Nat.le_refl _) _ _
  have L3' : Hid (St w ((w3.heap.size, s0.cells) :: [(w.heap.size, x.cells)]) [] ((w3.alloc (.cells #[.int .i64 0, .slice none 0 0, .slice none 0 0, .slice none 0 0, .slice none 0 0, .slice none 0 0, .slice none 0 0, .slice none 0 0, .slice none 0 0] 30)).setCells w3.heap.size 0 s0.cells)) := st_put L3.out #[.int .i64 0, .slice none 0 0, .slice none 0 0, .slice none 0 0, .slice none 0 0, .slice none 0 0, .slice none 0 0, .slice none 0 0, .slice none 0 0] s0.cells 30 rfl
  have ZS : Hid (w3.heap.size < ((w3.alloc (.cells #[.int .i64 0, .slice none 0 0, .slice none 0 0, .slice none 0 0, .slice none 0 0, .slice none 0 0, .slice none 0 0, .slice none 0 0, .slice none 0 0] 30)).setCells w3.heap.size 0 s0.cells).heap.size) := by show _ < _; rw [setCells_size]; simp
  replace SO : Hid _ := SO.out.later hbs
  clear hbs L3
  go_wp2_with (with_reducible refine halt_at (.store 30 (.tmp 4) (.tmp 23)) rfl ?_)
  unfold Hid
  refine wpList_store_mid rfl 30 _ _ rfl w3.heap.size 0 s0.cells.toArray rfl rfl T.out (by kernel_rfl) (bx_one _) ?_
  rw [show s0.cells.toArray.toList = s0.cells from rfl]
  obtain ⟨k4, ek4⟩ : ∃ k, k = w3.heap.size := ⟨_, rfl⟩
  rw [← ek4] at L3' ZS SO Z3 ⊢
  generalize (w3.alloc (.cells #[.int .i64 0, .slice none 0 0, .slice none 0 0, .slice none 0 0, .slice none 0 0, .slice none 0 0, .slice none 0 0, .slice none 0 0, .slice none 0 0] 30)).setCells k4 0 s0.cells = V4 at L3' SO ZS ⊢
  have Z4 : Hid (k4 < V4.heap.size) := ZS.out
  clear T ZS ek4
  go_wp2_with (with_reducible refine on_load ?_; refine wpList_load_mid rfl 25 _ rfl w.heap.size 0 rfl x.cells _ (L3'.out.r (w.heap.size, x.cells) (by simp)).1 Tryz.underlying25 rfl (by kernel_rfl) ?_)
  refine (toworld_any x V4 (HA.out.later L3'.out.b) HL.out).mono ?_
  rintro e w5 ⟨b, R, B1, B2, rfl, hw⟩
  have L5 : Hid (St w [(k4, s0.cells), (w.heap.size, x.cells)] [] w5) := L3'.out.later hw.gs.bel
  replace SO : Hid _ := SO.out.later hw.gs.bel
  have HO : Hid (Wo V4 x b R B1 B2 w5) := hw
  have Z5 : Hid (V4.heap.size ≤ b ∧ b < R) := ⟨hw.lo, hw.br⟩
  have ZR : Hid (R < w5.heap.size) := hw.gs.lt
  have ZB : Hid (∀ j, j < x.n → B2 j < w5.heap.size) := fun j hj => (hw.gs.ord j hj).2.2
  clear hw L3'
  have T : Hid (World.there (w5.alloc (.cells #[.slice none 0 0, .slice none 0 0] 35)) w5.heap.size 0 2) := there_lit #[.slice none 0 0, .slice none 0 0] (heap1_0 w5 (.cells #[.slice none 0 0, .slice none 0 0] 35))
  have hbs : Below w5.heap.size w5 ((w5.alloc (.cells #[.slice none 0 0, .slice none 0 0] 35)).setCells w5.heap.size 0 (x.of b R B1 B2).cells) := below_setCells (below1 w5 _) (Nat.le_refl _) _ _
  have L5' : Hid (St w ((w5.heap.size, (x.of b R B1 B2).cells) :: [(k4, s0.cells), (w.heap.size, x.cells)]) [] ((w5.alloc (.cells #[.slice none 0 0, .slice none 0 0] 35)).setCells w5.heap.size 0 (x.of b R B1 B2).cells)) := st_put L5.out #[.slice none 0 0, .slice none 0 0] (x.of b R B1 B2).cells 35 rfl
  have ZS : Hid (w5.heap.size < ((w5.alloc (.cells #[.slice none 0 0, .slice none 0 0] 35)).setCells w5.heap.size 0 (x.of b R B1 B2).cells).heap.size) := by show _ < _; rw [setCells_size]; simp
  replace SO : Hid _ := SO.out.later hbs
  replace HO : Hid _ := HO.out.later hbs
  clear hbs L5
  go_wp2_with (with_reducible refine halt_at (.store 35 (.tmp 6) (.tmp 26)) rfl ?_)
  unfold Hid
  refine wpList_store_mid rfl 35 _ _ rfl w5.heap.size 0 (x.of b R B1 B2).cells.toArray rfl rfl T.out (by kernel_rfl) (by simp [Wx.cells, Value.oneCell']) ?_
  rw [show (x.of b R B1 B2).cells.toArray.toList = (x.of b R B1 B2).cells from rfl]
  obtain ⟨k6, ek6⟩ : ∃ k, k = w5.heap.size := ⟨_, rfl⟩
  rw [← ek6] at L5' ZS SO HO ZR ZB ⊢
  generalize (w5.alloc (.cells #[.slice none 0 0, .slice none 0 0] 35)).setCells k6 0 (x.of b R B1 B2).cells = V6 at L5' SO HO ZS ⊢
  have Z6 : Hid (k6 < V6.heap.size) := ZS.out
  clear T ZS ek6
  go_wp2_with (with_reducible refine on_load ?_; refine wpList_load_mid rfl 35 _ rfl k6 0 rfl (x.of b R B1 B2).cells _ (L5'.out.r (k6, (x.of b R B1 B2).cells) (by simp)).1 Tryz.underlying35 rfl (by kernel_rfl) ?_)
  refine (wbook_any (x.of b R B1 B2) V6 HO.out.at HW.out H64.out (Nat.le_refl _)).mono ?_
  rintro e w7 ⟨g, q1, rfl, gq, go', hb⟩
  obtain ⟨gm, er⟩ := wbq_one (wbq_of gq) SQ.out
  subst er
  have tg := total_m gm
  have L7 : Hid (St w [(k6, (x.of b R B1 B2).cells), (k4, s0.cells), (w.heap.size, x.cells)] [] w7) := L5'.out.later hb
  replace SO : Hid _ := SO.out.later hb
  replace HO : Hid _ := HO.out.later hb
  have GO : Hid (g.Own V6.heap.size w7.heap.size w7) := go'
  have Z7 : Hid (V6.heap.size ≤ w7.heap.size) := hb.size
  clear gq go' hb L5' SQ
  have T : Hid (World.there (w7.alloc (.cells #[.int .i64 0, .slice none 0 0, .slice none 0 0, .slice none 0 0, .slice none 0 0, .slice none 0 0, .slice none 0 0, .slice none 0 0, .slice none 0 0] 30)) w7.heap.size 0 9) := there_lit #[.int .i64 0, .slice none 0 0, .slice none 0 0, .slice none 0 0, .slice none 0 0, .slice none 0 0, .slice none 0 0, .slice none 0 0, .slice none 0 0] (heap1_0 w7 (.cells #[.int .i64 0, .slice none 0 0, .slice none 0 0, .slice none 0 0, .slice none 0 0, .slice none 0 0, .slice none 0 0, .slice none 0 0, .slice none 0 0] 30))
  have hbs : Below w7.heap.size w7 ((w7.alloc (.cells #[.int .i64 0, .slice none 0 0, .slice none 0 0, .slice none 0 0, .slice none 0 0, .slice none 0 0, .slice none 0 0, .slice none 0 0, .slice none 0 0] 30)).setCells w7.heap.size 0 g.cells) := below_setCells (below1 w7 _) (Nat.le_refl _) _ _
  have L7' : Hid (St w ((w7.heap.size, g.cells) :: [(k6, (x.of b R B1 B2).cells), (k4, s0.cells), (w.heap.size, x.cells)]) [] ((w7.alloc (.cells #[.int .i64 0, .slice none 0 0, .slice none 0 0, .slice none 0 0, .slice none 0 0, .slice none 0 0, .slice none 0 0, .slice none 0 0, .slice none 0 0] 30)).setCells w7.heap.size 0 g.cells)) := st_put L7.out #[.int .i64 0, .slice none 0 0, .slice none 0 0, .slice none 0 0, .slice none 0 0, .slice none 0 0, .slice none 0 0, .slice none 0 0, .slice none 0 0] g.cells 30 rfl
  have ZS : Hid (w7.heap.size < ((w7.alloc (.cells #[.int .i64 0, .slice none 0 0, .slice none 0 0, .slice none 0 0, .slice none 0 0, .slice none 0 0, .slice none 0 0, .slice none 0 0, .slice none 0 0] 30)).setCells w7.heap.size 0 g.cells).heap.size) := by show _ < _; rw [setCells_size]; simp
  replace SO : Hid _ := SO.out.later hbs
  replace HO : Hid _ := HO.out.later hbs
  replace GO : Hid _ := GO.out.later hbs
  clear hbs L7
  go_wp2_with (with_reducible refine halt_at (.store 30 (.tmp 7) (.tmp 30)) rfl ?_)
  unfold Hid
  refine wpList_store_mid rfl 30 _ _ rfl w7.heap.size 0 g.cells.toArray rfl rfl T.out (by kernel_rfl) (bx_one _) ?_
  rw [show g.cells.toArray.toList = g.cells from rfl]
  obtain ⟨k7, ek7⟩ : ∃ k, k = w7.heap.size := ⟨_, rfl⟩
  rw [← ek7] at L7' ZS SO HO GO Z7 ⊢
  generalize (w7.alloc (.cells #[.int .i64 0, .slice none 0 0, .slice none 0 0, .slice none 0 0, .slice none 0 0, .slice none 0 0, .slice none 0 0, .slice none 0 0, .slice none 0 0] 30)).setCells k7 0 g.cells = V8 at L7' SO HO GO ZS ⊢
  have Z8 : Hid (k7 < V8.heap.size) := ZS.out
  clear T ZS ek7
  have nrr : (q1 != q1) = false := by simp
  go_wp2_with (with_reducible refine on_load ?_; first | refine wpList_load_mid rfl 30 _ rfl k7 0 rfl g.cells _ (L7'.out.r (k7, g.cells) (by simp)).1 Tryz.underlying30 rfl (by kernel_rfl) ?_ | refine wpList_load_mid rfl 30 _ rfl k4 0 rfl s0.cells _ (L7'.out.r (k4, s0.cells) (by simp)).1 Tryz.underlying30 rfl (by kernel_rfl) ?_)
  refine (eq_any g s0 V8 GO.out.at SO.out.at gm (by omega)).mono ?_
  rintro e w9 ⟨rfl, hb⟩
  have L9 : Hid (St w [(k7, g.cells), (k6, (x.of b R B1 B2).cells), (k4, s0.cells), (w.heap.size, x.cells)] [] w9) := L7'.out.later hb
  replace SO : Hid _ := SO.out.later hb
  replace HO : Hid _ := HO.out.later hb
  replace GO : Hid _ := GO.out.later hb
  replace Z8 : Hid (k7 < w9.heap.size) := Nat.lt_of_lt_of_le Z8.out hb.size
  clear hb L7'
  go_wp2_with (fail)
  refine wp_region_held_drew (S := St w [(k7, g.cells), (k6, (x.of b R B1 B2).cells), (k4, s0.cells), (w.heap.size, x.cells)] []) (by kernel_rfl) L9.out.drew (fun hS => ?_)
  replace SO : Hid (Bx.Own s0 w2.heap.size k4 w9.drew) := SO.out.later (Below.refl _ _).drew
  replace HO : Hid (Wo V4 x b R B1 B2 w9.drew) := HO.out.later (Below.refl _ _).drew
  replace GO : Hid (Bx.Own g V6.heap.size k7 w9.drew) := GO.out.later (Below.refl _ _).drew
  replace Z8 : Hid (k7 < w9.drew.heap.size) := Z8.out
  clear L9
  generalize w9.drew = v at hS SO HO GO Z8 ⊢
  refine tB 0 (v := .agg (x.of b R B1 B2).cells.toArray) (d := some 41) rfl rfl (yieldsIf_load_mid (by rfl) 35 _ rfl k6 0 rfl (x.of b R B1 B2).cells _ (fun w' hw => (hw.r (k6, (x.of b R B1 B2).cells) (by simp)).1) Tryz.underlying35 rfl (by kernel_rfl)) hS ?_
  try simp only [Act.put, s1, s2, s3]
  refine tB 1 (v := .agg x.cells.toArray) (d := some 42) rfl rfl (yieldsIf_load_mid (by rfl) 25 _ rfl w.heap.size 0 rfl x.cells _ (fun w' hw => (hw.r (w.heap.size, x.cells) (by simp)).1) Tryz.underlying25 rfl (by kernel_rfl)) hS ?_
  try simp only [Act.put, s1, s2, s3]
  refine r1 2 rfl (fun K hK => ?_)
  have HS : Hid (St w [(k7, g.cells), (k6, (x.of b R B1 B2).cells), (k4, s0.cells), (w.heap.size, x.cells)] [] v) := hS
  clear hS
  go_simp
  refine (toworld_any x v (HA.out.later HS.out.b) HL.out).mono ?_
  rintro e w10 ⟨b', R', B1', B2', rfl, hw⟩
  have HP : Hid (Wo v x b' R' B1' B2' w10) := hw
  have HS1 : Hid (St w [(k7, g.cells), (k6, (x.of b R B1 B2).cells), (k4, s0.cells), (w.heap.size, x.cells)] [] w10) := HS.out.later hw.gs.bel
  replace SO : Hid _ := SO.out.later hw.gs.bel
  replace HO : Hid _ := HO.out.later hw.gs.bel
  replace GO : Hid _ := GO.out.later hw.gs.bel
  replace Z8 : Hid (k7 < w10.heap.size) := Nat.lt_of_lt_of_le Z8.out hw.gs.bel.size
  clear HS hw
  refine hK.out _ _ HS1.out (fun hS => ?_)
  clear hK K
  refine r1 3 rfl (fun K hK => ?_)
  clear hS
  go_simp
  refine (eqworld_of x b R b' R' B1 B2 B1' B2' V4 v w10 HO.out HP.out HL.out).mono ?_
  rintro e w11 ⟨rfl, hb⟩
  have HS2 : Hid (St w [(k7, g.cells), (k6, (x.of b R B1 B2).cells), (k4, s0.cells), (w.heap.size, x.cells)] [] w11) := HS1.out.later hb
  replace SO : Hid _ := SO.out.later hb
  replace HO : Hid _ := HO.out.later hb
  replace GO : Hid _ := GO.out.later hb
  replace Z8 : Hid (k7 < w11.heap.size) := Nat.lt_of_lt_of_le Z8.out hb.size
  clear HS1 HP hb
  refine hK.out _ _ HS2.out (fun hS => ?_)
  clear hK K
  refine tI 4 (v := .bool false) (d := some 45) rfl rfl (fun w' hw => ?_) hS ?_
  · clear hw; go_simp
  try simp only [Act.put, s1, s2, s3]
  refine wpAnyH_done (by kernel_rfl) ?_ _
  clear hS
  go_wp2_with (with_reducible refine on_load ?_; refine wpList_load_mid rfl 35 _ rfl k6 0 rfl (x.of b R B1 B2).cells _ (HS2.out.r (k6, (x.of b R B1 B2).cells) (by simp)).1 Tryz.underlying35 rfl (by kernel_rfl) ?_)
  refine (markworld_any x b R k6 B1 B2 V4 w11 HO.out HM.out ZR.out ZB.out (by have := Z6.out; have := Z7.out; have := Z8.out; omega)).mono ?_
  rintro e w13 ⟨⟨mk, rfl, m0⟩, ho⟩
  have L13 : Hid (St w [(k7, g.cells), (k6, (x.of b R B1 B2).cells), (k4, s0.cells), (w.heap.size, x.cells)] [] w13) := HS2.out.onlyN ho (by
    have a1 := Z4.out; have a2 := Z5.out; have a3 := Z6.out; have a4 := Z7.out; have a5 := Z2.out; have a6 := Z3.out; have a7 := ZR.out
    simp only [List.forall_mem_cons, List.not_mem_nil, false_implies, implies_true, and_true]
    exact ⟨.inr (by omega), .inr (by omega), .inl (by omega), .inl (by omega)⟩) (by have a1 := Z4.out; have a2 := Z5.out; have a5 := Z2.out; have a6 := Z3.out; omega)
  replace SO : Hid _ := SO.out.only ho (.inl (by have a1 := Z4.out; have a2 := Z5.out; omega))
  replace GO : Hid _ := GO.out.only ho (.inr (by have := Z6.out; omega))
  replace Z8 : Hid (k7 < w13.heap.size) := Nat.lt_of_lt_of_le Z8.out ho.size
  clear ho HS2 HO
  have nk : ¬ (mk < 0) := by omega
  have nkb : decide (mk < 0) = false := by simpa using nk
  go_wp2_with (with_reducible refine halt_at (.load 30 (.tmp 7)) rfl ?_)
  unfold Hid
  refine wpList_load_wanted (by rfl) 30 _ rfl k7 0 rfl g.cells _ (L13.out.r (k7, g.cells) (by simp)).1 Tryz.underlying30 rfl (by kernel_rfl) ?_
  refine wpList_load_wanted (by rfl) 30 _ rfl k4 0 rfl s0.cells _ (L13.out.r (k4, s0.cells) (by simp)).1 Tryz.underlying30 rfl (by kernel_rfl) ?_
  clear nk nkb
  go_wp2_with (fail)
  refine (eq_any g s0 w13 GO.out.at SO.out.at gm (by omega)).mono ?_
  rintro e w14 ⟨rfl, hb⟩
  have L14 : Hid (St w [(k7, g.cells), (k6, (x.of b R B1 B2).cells), (k4, s0.cells), (w.heap.size, x.cells)] [] w14) := L13.out.later hb
  replace SO : Hid _ := SO.out.later hb
  replace GO : Hid _ := GO.out.later hb
  replace Z8 : Hid (k7 < w14.heap.size) := Nat.lt_of_lt_of_le Z8.out hb.size
  clear hb L13
  go_wp2_with (with_reducible refine on_load ?_; refine wpList_load_mid rfl 30 _ rfl k7 0 rfl g.cells _ (L14.out.r (k7, g.cells) (by simp)).1 Tryz.underlying30 rfl (by kernel_rfl) ?_)
  refine (mark_any g 1 V6.heap.size k7 w14 (by have := Z8.out; omega) GO.out (by omega) (by omega) (by omega)).mono ?_
  rintro e w15 ⟨rfl, gk, on⟩
  have GK : Hid ((g.mkd 1).Own V6.heap.size k7 w15) := gk
  have L15 : Hid (St w [(k7, g.cells), (k6, (x.of b R B1 B2).cells), (k4, s0.cells), (w.heap.size, x.cells)] [] w15) := L14.out.onlyN on (by
    have a1 := Z4.out; have a2 := Z5.out; have a3 := Z6.out; have a4 := Z7.out; have a5 := Z2.out; have a6 := Z3.out; have a7 := ZR.out
    simp only [List.forall_mem_cons, List.not_mem_nil, false_implies, implies_true, and_true]
    exact ⟨.inr (by omega), .inl (by omega), .inl (by omega), .inl (by omega)⟩) (by have a1 := Z4.out; have a2 := Z5.out; have a3 := Z6.out; have a5 := Z2.out; have a6 := Z3.out; have a7 := ZR.out; omega)
  replace SO : Hid _ := SO.out.only on (.inl (by have a1 := Z4.out; have a2 := Z5.out; have a3 := Z6.out; have a7 := ZR.out; omega))
  clear gk on L14 GO
  go_wp2_with (with_reducible refine on_load ?_; refine wpList_load_mid rfl 30 _ rfl k7 0 rfl g.cells _ (L15.out.r (k7, g.cells) (by simp)).1 Tryz.underlying30 rfl (by kernel_rfl) ?_)
  refine (held_any g 1 w15 GK.out.at (by omega) (by omega) (by omega)).mono ?_
  rintro e w16 ⟨rfl, hb⟩
  have L16 : Hid (St w [(k7, g.cells), (k6, (x.of b R B1 B2).cells), (k4, s0.cells), (w.heap.size, x.cells)] [] w16) := L15.out.later hb
  replace SO : Hid _ := SO.out.later hb
  replace GK : Hid _ := GK.out.later hb
  clear hb L15
  have nk : ¬ ((1 : Int) + g.total < 0) := by omega
  go_wp2_with (with_reducible refine on_load ?_; refine wpList_load_mid rfl 25 _ rfl w.heap.size 0 rfl x.cells _ (L16.out.r (w.heap.size, x.cells) (by simp)).1 Tryz.underlying25 rfl (by kernel_rfl) ?_)
  clear nk
  refine (toworld_any x w16 (HA.out.later L16.out.b) HL.out).mono ?_
  rintro e w17 ⟨b2, R2, B12, B22, rfl, hw⟩
  have L17 : Hid (St w [(k7, g.cells), (k6, (x.of b R B1 B2).cells), (k4, s0.cells), (w.heap.size, x.cells)] [] w17) := L16.out.later hw.gs.bel
  replace SO : Hid _ := SO.out.later hw.gs.bel
  replace GK : Hid _ := GK.out.later hw.gs.bel
  have HO : Hid (Wo w16 x b2 R2 B12 B22 w17) := hw
  clear hw L16
  go_wp2_with (fail)
  refine (wbook_any (x.of b2 R2 B12 B22) w17 HO.out.at HW.out H64.out (Nat.le_refl _)).mono ?_
  rintro e w18 ⟨h0, q2, rfl, hq, ho', hb⟩
  obtain ⟨hm, er⟩ := wbq_one (wbq_of hq) SQ2.out
  subst er
  have th := total_m hm
  have L18 : Hid (St w [(k7, g.cells), (k6, (x.of b R B1 B2).cells), (k4, s0.cells), (w.heap.size, x.cells)] [] w18) := L17.out.later hb
  replace SO : Hid _ := SO.out.later hb
  replace GK : Hid _ := GK.out.later hb
  have GO : Hid (h0.Own w17.heap.size w18.heap.size w18) := ho'
  clear hq ho' hb HO L17
  have T : Hid (World.there (w18.alloc (.cells #[.int .i64 0, .slice none 0 0, .slice none 0 0, .slice none 0 0, .slice none 0 0, .slice none 0 0, .slice none 0 0, .slice none 0 0, .slice none 0 0] 30)) w18.heap.size 0 9) := there_lit #[.int .i64 0, .slice none 0 0, .slice none 0 0, .slice none 0 0, .slice none 0 0, .slice none 0 0, .slice none 0 0, .slice none 0 0, .slice none 0 0] (heap1_0 w18 (.cells #[.int .i64 0, .slice none 0 0, .slice none 0 0, .slice none 0 0, .slice none 0 0, .slice none 0 0, .slice none 0 0, .slice none 0 0, .slice none 0 0] 30))
  have hbs : Below w18.heap.size w18 ((w18.alloc (.cells #[.int .i64 0, .slice none 0 0, .slice none 0 0, .slice none 0 0, .slice none 0 0, .slice none 0 0, .slice none 0 0, .slice none 0 0, .slice none 0 0] 30)).setCells w18.heap.size 0 h0.cells) := below_setCells (below1 w18 _) (Nat.le_refl _) _ _
  have L18' : Hid (St w ((w18.heap.size, h0.cells) :: [(k7, g.cells), (k6, (x.of b R B1 B2).cells), (k4, s0.cells), (w.heap.size, x.cells)]) [] ((w18.alloc (.cells #[.int .i64 0, .slice none 0 0, .slice none 0 0, .slice none 0 0, .slice none 0 0, .slice none 0 0, .slice none 0 0, .slice none 0 0, .slice none 0 0] 30)).setCells w18.heap.size 0 h0.cells)) := st_put L18.out #[.int .i64 0, .slice none 0 0, .slice none 0 0, .slice none 0 0, .slice none 0 0, .slice none 0 0, .slice none 0 0, .slice none 0 0, .slice none 0 0] h0.cells 30 rfl
  have ZS : Hid (w18.heap.size < ((w18.alloc (.cells #[.int .i64 0, .slice none 0 0, .slice none 0 0, .slice none 0 0, .slice none 0 0, .slice none 0 0, .slice none 0 0, .slice none 0 0, .slice none 0 0] 30)).setCells w18.heap.size 0 h0.cells).heap.size) := by show _ < _; rw [setCells_size]; simp
  replace SO : Hid _ := SO.out.later hbs
  replace GK : Hid _ := GK.out.later hbs
  replace GO : Hid _ := GO.out.later hbs
  clear hbs L18
  go_wp2_with (with_reducible refine halt_at (.store 30 (.tmp 12) (.tmp 77)) rfl ?_)
  unfold Hid
  refine wpList_store_mid rfl 30 _ _ rfl w18.heap.size 0 h0.cells.toArray rfl rfl T.out (by kernel_rfl) (bx_one _) ?_
  rw [show h0.cells.toArray.toList = h0.cells from rfl]
  obtain ⟨k12, ek12⟩ : ∃ k, k = w18.heap.size := ⟨_, rfl⟩
  rw [← ek12] at L18' ZS SO GK GO ⊢
  generalize (w18.alloc (.cells #[.int .i64 0, .slice none 0 0, .slice none 0 0, .slice none 0 0, .slice none 0 0, .slice none 0 0, .slice none 0 0, .slice none 0 0, .slice none 0 0] 30)).setCells k12 0 h0.cells = V19 at L18' SO GK GO ZS ⊢
  clear T ZS ek12
  have nrr : (q2 != q2) = false := by simp
  go_wp2_with (with_reducible refine on_load ?_; first | refine wpList_load_mid rfl 30 _ rfl k12 0 rfl h0.cells _ (L18'.out.r (k12, h0.cells) (by simp)).1 Tryz.underlying30 rfl (by kernel_rfl) ?_ | refine wpList_load_mid rfl 30 _ rfl k4 0 rfl s0.cells _ (L18'.out.r (k4, s0.cells) (by simp)).1 Tryz.underlying30 rfl (by kernel_rfl) ?_)
  refine (eq_any h0 s0 V19 GO.out.at SO.out.at hm (by omega)).mono ?_
  rintro e w20 ⟨rfl, hb⟩
  have L20 : Hid (St w ((k12, h0.cells) :: [(k7, g.cells), (k6, (x.of b R B1 B2).cells), (k4, s0.cells), (w.heap.size, x.cells)]) [] w20) := L18'.out.later hb
  replace GK : Hid _ := GK.out.later hb
  clear hb L18' SO GO
  go_wp2_with (with_reducible refine on_load ?_; refine wpList_load_mid rfl 30 _ rfl k7 0 rfl g.cells _ (L20.out.r (k7, g.cells) (by simp)).1 Tryz.underlying30 rfl (by kernel_rfl) ?_)
  refine (held_any g 1 w20 GK.out.at (by omega) (by omega) (by omega)).mono ?_
  rintro e w21 ⟨rfl, hb⟩
  have HZ : Hid (Below w.heap.size w w21) := (L20.out.later hb).b
  clear hb L20 GK
  have nk : ¬ ((1 : Int) + g.total < 0) := by omega
  go_wp2_with (fail)
  go_ret
  exact ⟨rfl, HZ.out⟩

end Go.Proofs.YtgfbfgiohmdjmaaGreat.Gs

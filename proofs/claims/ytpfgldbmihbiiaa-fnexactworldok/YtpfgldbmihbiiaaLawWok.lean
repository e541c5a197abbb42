/- Of every world, what the program's WorldOk says, held against the specification. Conditions: none. -/
import Derived.Test.YtpfgldbmihbiiaaSwok
import Derived.Test.YtpfgldbmihbiiaaWsz2
import Derived.Test.YtpfgldbmihbiiaaOf
import Derived.Test.YtpfgldbmihbiiaaCell
namespace Go.Proofs.Ytpfgldbmihbiiaa.Gs
open Go.ChangeShapes Go.WideShapes Go.ChangeAt Go.RowKit
open Go.Proofs.Ytpfgldbmihbiiaa.Aid Go.Proofs.Ytpfgldbmihbiiaa.Lst Go.Proofs.Ytpfgldbmihbiiaa.Plat
open Go.Proofs.Ytpfgldbmihbiiaa.Book (Ck ck_lit Sx takeB)
open Go.Proofs.Ytpfgldbmihbiiaa.Words (wf64)
set_option maxRecDepth 100000
set_option linter.unusedVariables false

theorem sum_le (g : Nat → Gx) : ∀ (k j : Nat), j < k → (g j).snap.n + (g j).plan.n ≤ sumG g k
  | 0, j, h => absurd h (Nat.not_lt_zero j)
  | k + 1, j, h => by
    simp only [sumG]
    by_cases e : j = k
    · subst e; omega
    · have := sum_le g k j (by omega)
      omega
theorem Wx.lim_of {x : Wx} {r : Int} (h : r + x.ws.n + x.n + sumG x.g x.n = 1048576) (h0 : 0 ≤ r) : x.Lim :=
  ⟨by omega, by omega, fun j hj => by have := sum_le x.g x.n j hj; omega⟩

/- What the law rests on: the world that was handed in, in a struct of its own, and a copy of it. -/
structure Lx (w0 : World) (x : Wx) (w : World) : Prop where
  r : w.rangeAt w0.heap.size 0 x.cells
  z : Below w0.heap.size w0 w
  lt : w0.heap.size < w.heap.size
theorem Lx.later {w0 w w1 : World} {x : Wx} (h : Lx w0 x w) (hb : Below w.heap.size w w1) : Lx w0 x w1 :=
  ⟨range_below hb h.r h.lt, h.z.trans (hb.mono h.z.size), Nat.lt_of_lt_of_le h.lt hb.size⟩
structure Lc (w0 : World) (x : Wx) (c : Nat) (cs : List Value) (w : World) : Prop where
  l : Lx w0 x w
  r : w.rangeAt c 0 cs
  lt : c < w.heap.size
theorem Lc.later {w0 w w1 : World} {x : Wx} {c : Nat} {cs : List Value} (h : Lc w0 x c cs w) (hb : Below w.heap.size w w1) : Lc w0 x c cs w1 :=
  ⟨h.l.later hb, range_below hb h.r h.lt, Nat.lt_of_lt_of_le h.lt hb.size⟩
theorem Lc.drew {w0 w : World} {x : Wx} {c : Nat} {cs : List Value} (h : Lc w0 x c cs w) : Lc w0 x c cs w.drew := ⟨⟨h.l.r, ⟨h.l.z.os, h.l.z.tape, h.l.z.output, h.l.z.size, h.l.z.block⟩, h.l.lt⟩, h.r, h.lt⟩

theorem words_of {x : Sx} {w : World} (h : Good64 x w) (hn : x.n ≤ 1000000000) : Words64 x := ⟨hn, fun j _ => wf64 (h.2.2 j)⟩
theorem Gk.bel0 {w0 w1 w : World} {R n k : Nat} {g : Nat → Gx} {B1 B2 : Nat → Nat} (h : Gk w0 R n k g B1 B2 w) : Below w0.heap.size w0 w := h.bel

set_option maxHeartbeats 4000000 in
theorem law_wok (x : Wx) (w : World) (h : x.Good w) : Calls Try.prog 3 #[.agg x.cells.toArray] w fun e w' => e = .returned (.bool true) ∧ Below w.heap.size w w' := by
  have L : Hid (Lx w x (w.alloc (.cells x.cells.toArray 25))) := ⟨range_lit x.cells.toArray (heap1_0 w (.cells x.cells.toArray 25)), below1 w _, by simp⟩
  have HG : Hid (x.Good w) := h
  have HA : Hid (x.At w) := h.at
  obtain ⟨ok, hok⟩ : ∃ ok, ok = boolOf (Wok x) := ⟨_, rfl⟩
  have OK : Hid (ok = boolOf (Wok x)) := hok
  clear h hok
  go_enter Try.func3, Try.ntmps3
  go_wp2_with (with_reducible refine halt_at (.load 25 (.tmp 1)) rfl ?_)
  unfold Hid
  generalize w.alloc (.cells x.cells.toArray 25) = W at L ⊢
  go_wp2_with (refine wpList_load_mid rfl 25 _ rfl w.heap.size 0 rfl x.cells _ L.out.r Try.underlying25 rfl (by kernel_rfl) ?_)
  refine (szworld_any x 1048576 W ⟨⟨HG.out.ws.1.later L.out.z, HG.out.ws.2⟩, HG.out.row.later L.out.z, fun j hj => ⟨⟨(HG.out.each j hj).snap.1.later L.out.z, (HG.out.each j hj).snap.2⟩, ⟨(HG.out.each j hj).plan.1.later L.out.z, (HG.out.each j hj).plan.2⟩⟩, HG.out.lim⟩ (by omega) (by omega)).mono ?_
  rintro e w1 ⟨⟨r, rfl, hr, -, -⟩, hb⟩
  have L1 : Hid (Lx w x w1) := L.out.later hb
  clear hb L
  by_cases r0 : r < 0
  · clear hr
    go_wp2_with (fail)
    go_ret
    exact ⟨rfl, L1.out.z⟩
  have HL : Hid x.Lim := Wx.lim_of (hr (by omega)) (by omega)
  have HW : Hid (Words64 x.ws) := words_of HG.out.ws HL.out.ws
  clear hr HG
  go_wp2_with (refine wpList_load_mid rfl 25 _ rfl w.heap.size 0 rfl x.cells _ L1.out.r Try.underlying25 rfl (by kernel_rfl) ?_)
  refine (toworld_any x w1 (HA.out.later L1.out.z) HL.out).mono ?_
  rintro e w2 ⟨b, R, B1, B2, rfl, hw⟩
  have L2 : Hid (Lx w x w2) := L1.out.later hw.gs.bel
  have HO : Hid (Wo w1 x b R B1 B2 w2) := hw
  clear hw L1
  go_wp2_with (fail)
  refine (swok_any (x.of b R B1 B2) w2 HO.out.at HW.out).mono ?_
  rintro e w3 ⟨rfl, hb⟩
  have L3 : Hid (Lx w x w3) := L2.out.later hb
  clear hb L2 HO
  rw [show Wok (x.of b R B1 B2) = Wok x from rfl, ← OK.out]
  go_wp2_with (refine wpList_load_mid rfl 25 _ rfl w.heap.size 0 rfl x.cells _ L3.out.r Try.underlying25 rfl (by kernel_rfl) ?_)
  refine (toworld_any x w3 (HA.out.later L3.out.z) HL.out).mono ?_
  rintro e w4 ⟨b, R, B1, B2, rfl, hw⟩
  have T : Hid ((w4.alloc (.cells #[.slice none 0 0, .slice none 0 0] 30)).there w4.heap.size 0 2) := there_lit #[.slice none 0 0, .slice none 0 0] (heap1_0 w4 (.cells #[.slice none 0 0, .slice none 0 0] 30))
  have hbs : Below w4.heap.size w4 ((w4.alloc (.cells #[.slice none 0 0, .slice none 0 0] 30)).setCells w4.heap.size 0 (x.of b R B1 B2).cells) := below_setCells (below1 w4 _) (Nat.le_refl _) _ _
  have L4 : Hid (Lc w x w4.heap.size (x.of b R B1 B2).cells ((w4.alloc (.cells #[.slice none 0 0, .slice none 0 0] 30)).setCells w4.heap.size 0 (x.of b R B1 B2).cells)) :=
    ⟨(L3.out.later hw.gs.bel).later hbs, World.rangeAt_setCells_same _ _ _ _ T.out, by rw [setCells_size]; simp⟩
  have HO : Hid (Wo w3 x b R B1 B2 ((w4.alloc (.cells #[.slice none 0 0, .slice none 0 0] 30)).setCells w4.heap.size 0 (x.of b R B1 B2).cells)) := hw.later hbs
  clear hbs hw L3
  go_wp2_with (with_reducible refine halt_at (.store 30 (.tmp 5) (.tmp 16)) rfl ?_)
  unfold Hid
  refine wpList_store_mid rfl 30 _ _ rfl w4.heap.size 0 (x.of b R B1 B2).cells.toArray rfl rfl T.out (by kernel_rfl) (by simp [Wx.cells, Value.oneCell']) ?_
  rw [show (x.of b R B1 B2).cells.toArray.toList = (x.of b R B1 B2).cells from rfl]
  generalize (w4.alloc (.cells #[.slice none 0 0, .slice none 0 0] 30)).setCells w4.heap.size 0 (x.of b R B1 B2).cells = W4 at L4 HO ⊢
  clear T
  generalize w4.heap.size = c at L4 ⊢
  go_wp2_with (refine wpList_load_mid rfl 30 _ rfl c 0 rfl (x.of b R B1 B2).cells _ L4.out.r Try.underlying30 rfl (by kernel_rfl) ?_)
  refine (wok_any (x.of b R B1 B2) W4 HO.out.at HW.out).mono ?_
  rintro e w5 ⟨rfl, hb⟩
  have L5 : Hid (Lc w x c (x.of b R B1 B2).cells w5) := L4.out.later hb
  have HO5 : Hid (Wo w3 x b R B1 B2 w5) := HO.out.later hb
  clear hb L4 HO
  rw [show Wok (x.of b R B1 B2) = Wok x from rfl, ← OK.out]
  have z1 : (ok != ok) = false := by simp
  go_wp2_with (fail)
  refine wp_region_held_drew (S := Lc w x c (x.of b R B1 B2).cells) (by kernel_rfl) L5.out.drew (fun hS => ?_)
  have HO6 : Hid (Wo w3 x b R B1 B2 w5.drew) := HO5.out.later (Below.refl _ _).drew
  clear L5 HO5
  generalize w5.drew = v at hS HO6 ⊢
  refine takeB (i := 0) (v := .agg (x.of b R B1 B2).cells.toArray) (d := some 22) rfl rfl (by kernel_rfl) (by kernel_rfl) (by kernel_rfl) (fun _ _ _ h => h) (yieldsIf_load_mid (by rfl) 30 _ rfl c 0 rfl (x.of b R B1 B2).cells _ (fun w' hw => hw.r) Try.underlying30 rfl (by kernel_rfl)) hS ?_
  try simp only [Act.put, List.setIfInBounds_toArray, List.set_cons_zero, List.set_cons_succ]
  refine takeB (i := 1) (v := .agg x.cells.toArray) (d := some 23) rfl rfl (by kernel_rfl) (by kernel_rfl) (by kernel_rfl) (fun _ _ _ h => h) (yieldsIf_load_mid (by rfl) 25 _ rfl w.heap.size 0 rfl x.cells _ (fun w' hw => hw.l.r) Try.underlying25 rfl (by kernel_rfl)) hS ?_
  try simp only [Act.put, List.setIfInBounds_toArray, List.set_cons_zero, List.set_cons_succ]
  refine wpAnyH_ready (rs := [2]) (by kernel_rfl) (by simp) ?_
  refine AllReadyH.cons rfl (fun K hK => ?_) AllReadyH.nil
  have HS : Hid (Lc w x c (x.of b R B1 B2).cells v) := hS
  clear hS
  go_simp
  refine (toworld_any x v (HA.out.later HS.out.l.z) HL.out).mono ?_
  rintro e w6 ⟨b', R', B1', B2', rfl, hw⟩
  have HO7 : Hid (Wo w3 x b R B1 B2 w6) := HO6.out.later hw.gs.bel
  have HP : Hid (Wo v x b' R' B1' B2' w6) := hw
  have HS7 : Hid (Lc w x c (x.of b R B1 B2).cells w6) := HS.out.later hw.gs.bel
  clear HS HO6 hw
  refine hK.out _ _ HS7.out (fun hS => ?_)
  clear hK K
  refine wpAnyH_ready (rs := [3]) (by kernel_rfl) (by simp) ?_
  refine AllReadyH.cons rfl (fun K hK => ?_) AllReadyH.nil
  clear hS
  go_simp
  refine (eqworld_of x b R b' R' B1 B2 B1' B2' w3 v w6 HO7.out HP.out HL.out).mono ?_
  rintro e w7 ⟨rfl, hb⟩
  have HS8 : Hid (Lc w x c (x.of b R B1 B2).cells w7) := HS7.out.later hb
  clear HS7 HO7 HP hb
  refine hK.out _ _ HS8.out (fun hS => ?_)
  clear hK K
  refine takeB (i := 4) (v := .bool false) (d := some 26) rfl rfl (by kernel_rfl) (by kernel_rfl) (by kernel_rfl) (fun _ _ _ h => h) (Or.inl ⟨by rfl, fun w' hw => ?_⟩) hS ?_
  · clear hw; go_simp
  try simp only [Act.put, List.setIfInBounds_toArray, List.set_cons_zero, List.set_cons_succ]
  refine wpAnyH_done (by kernel_rfl) ?_ _
  clear hS
  go_wp2_with (fail)
  go_ret
  exact ⟨rfl, HS8.out.l.z⟩

end Go.Proofs.Ytpfgldbmihbiiaa.Gs

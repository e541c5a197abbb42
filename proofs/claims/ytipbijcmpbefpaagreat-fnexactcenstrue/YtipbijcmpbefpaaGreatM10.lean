import Derived.Test.YtipbijcmpbefpaaGreatLay2
import Derived.Laws.EntriesVeiled
import Derived.Test.YtipbijcmpbefpaaGreatLay1
import Derived.Test.YtipbijcmpbefpaaGreatM6

/- The visitor that writes the values of a book. -/
namespace Go.Proofs.YtipbijcmpbefpaaGreat.Book
open Go.ChangeShapes Go.WideShapes Go.ChangeAt Go.RowKit
open Go.Proofs.YtipbijcmpbefpaaGreat.Aid Go.Proofs.YtipbijcmpbefpaaGreat.Lst
set_option maxRecDepth 100000
set_option linter.unusedVariables false

theorem wmk_any (x : Sx) (vb : Nat) (w : World) :
    Calls Tryz.prog 92 #[.slice x.a x.n x.c, .pointer (some ⟨vb, 0, none⟩)] w fun e w' => e = .returned (.func (.func 93) #[] #[.pointer (some ⟨w.heap.size, 0, none⟩), .pointer (some ⟨vb, 0, none⟩)]) ∧ w' = w.alloc (.cells #[.slice x.a x.n x.c] 25) := by
  have hmf : ∀ (fn : Fn) (first cap : Array Value) (w : World), (Instr.makeFunc fn first cap).run Tryz.prog w = .ok (.func fn first cap) w := fun _ _ _ _ => rfl
  go_enter Tryz.func92, Tryz.ntmps92
  go_wp2_with (fail)
  go_ret
  exact ⟨rfl, rfl⟩

theorem LB.later {lb : Nat} {x : Sx} {w w1 : World} (h : LB lb x w) (hb : Below w.heap.size w w1) : LB lb x w1 :=
  ⟨(hb.cell (p := ⟨lb, 0, none⟩) (World.block_lt_of_cell? w _ h.b)).trans h.b, h.a.later hb⟩
theorem BB.later {bb : Nat} {b : Bx} {w w1 : World} (h : BB bb b w) (hb : Below w.heap.size w w1) : BB bb b w1 :=
  ⟨range_below hb h.r (by obtain ⟨q, -⟩ := nine h.r; exact World.block_lt_of_cell? w _ q), h.a.later hb⟩

/- What the making of the visitor rests on. -/
structure WS (w0 : World) (b : Bx) (vs : Value) (w : World) : Prop where
  e : BB w0.heap.size b w
  v : w.cell? ⟨w0.heap.size + 1, 0, none⟩ = some vs
  t : ∃ c0 c1 c2 c3 c4 c5 c6 c7, Ck w (w0.heap.size + 1 + 1) [c0, c1, c2, c3, c4, c5, c6, c7]
  b : Below w0.heap.size w0 w
  z : w0.heap.size + 3 ≤ w.heap.size
theorem WS.later {w0 w w1 : World} {b : Bx} {vs : Value} (h : WS w0 b vs w) (hb : Below w.heap.size w w1) : WS w0 b vs w1 :=
  ⟨h.e.later hb, (hb.cell (p := ⟨w0.heap.size + 1, 0, none⟩) (by have := h.z; simp; omega)).trans h.v, by obtain ⟨c0, c1, c2, c3, c4, c5, c6, c7, ht⟩ := h.t; exact ⟨c0, c1, c2, c3, c4, c5, c6, c7, ht.below hb (by have := h.z; omega)⟩, h.b.trans (hb.mono h.b.size), Nat.le_trans h.z hb.size⟩
theorem WS.drew {w0 w : World} {b : Bx} {vs : Value} (h : WS w0 b vs w) : WS w0 b vs w.drew := ⟨⟨h.e.r, h.e.a⟩, h.v, h.t, ⟨h.b.os, h.b.tape, h.b.output, h.b.size, h.b.block⟩, h.z⟩
theorem lb_new (x : Sx) (w : World) (t : TypeId) (h : x.At w) : LB w.heap.size x (w.alloc (.cells #[.slice x.a x.n x.c] t)) :=
  ⟨by have := range_lit #[.slice x.a x.n x.c] (heap1_0 w (.cells #[.slice x.a x.n x.c] t)) 0 _ rfl; exact this, h.later (below1 _ _)⟩
theorem there8 {w : World} {k : Nat} {c0 c1 c2 c3 c4 c5 c6 c7 : Value} (h : Ck w k [c0, c1, c2, c3, c4, c5, c6, c7]) : w.there k 0 8 := fun j hj => by
  have hl : j < [c0, c1, c2, c3, c4, c5, c6, c7].length := hj
  have := h j _ (List.getElem?_eq_getElem hl)
  rw [Nat.zero_add, this.1]
  exact ⟨rfl, this.2⟩
theorem put8 {w : World} {k : Nat} {c0 c1 c2 c3 c4 c5 c6 c7 : Value} (h : Ck w k [c0, c1, c2, c3, c4, c5, c6, c7]) (v0 v1 v2 v3 v4 v5 v6 v7 : Value) : Ck ((((((((w.setCell ⟨k, 0, none⟩ v0).setCell ⟨k, 1, none⟩ v1).setCell ⟨k, 2, none⟩ v2).setCell ⟨k, 3, none⟩ v3).setCell ⟨k, 4, none⟩ v4).setCell ⟨k, 5, none⟩ v5).setCell ⟨k, 6, none⟩ v6).setCell ⟨k, 7, none⟩ v7) k [v0, v1, v2, v3, v4, v5, v6, v7] ∧ Only k (k + 1) w ((((((((w.setCell ⟨k, 0, none⟩ v0).setCell ⟨k, 1, none⟩ v1).setCell ⟨k, 2, none⟩ v2).setCell ⟨k, 3, none⟩ v3).setCell ⟨k, 4, none⟩ v4).setCell ⟨k, 5, none⟩ v5).setCell ⟨k, 6, none⟩ v6).setCell ⟨k, 7, none⟩ v7) :=
  ⟨((((((((h.set 0 v0).set 1 v1).set 2 v2).set 3 v3).set 4 v4).set 5 v5).set 6 v6).set 7 v7),
   (((((((((Only.refl k (k + 1) w).setCell k 0 (Nat.le_refl _) (by omega) v0).setCell k 1 (Nat.le_refl _) (by omega) v1).setCell k 2 (Nat.le_refl _) (by omega) v2).setCell k 3 (Nat.le_refl _) (by omega) v3).setCell k 4 (Nat.le_refl _) (by omega) v4).setCell k 5 (Nat.le_refl _) (by omega) v5).setCell k 6 (Nat.le_refl _) (by omega) v6).setCell k 7 (Nat.le_refl _) (by omega) v7)⟩

set_option maxHeartbeats 8000000 in
theorem writer_any (b : Bx) (lk : Sx) (va : Option Addr) (vn vc : Nat) (w : World) (h : b.At w) (hk : lk.At w) :
    Calls Tryz.prog 41 #[.agg b.cells.toArray, .slice lk.a lk.n lk.c, .slice va vn vc] w fun e w' => ∃ l1 l2 l3, e = .returned (.agg #[Value.nilFunc, .func (.func 94) #[] #[.pointer (some ⟨w.heap.size, 0, none⟩), .pointer (some ⟨w.heap.size + 1, 0, none⟩)], Value.nilFunc, .func (.func 95) #[] #[.pointer (some ⟨w.heap.size, 0, none⟩), .pointer (some ⟨w.heap.size + 1, 0, none⟩)], .func (.func 93) #[] #[.pointer (some ⟨l1, 0, none⟩), .pointer (some ⟨w.heap.size + 1, 0, none⟩)], .func (.func 93) #[] #[.pointer (some ⟨l2, 0, none⟩), .pointer (some ⟨w.heap.size + 1, 0, none⟩)], .func (.func 93) #[] #[.pointer (some ⟨l3, 0, none⟩), .pointer (some ⟨w.heap.size + 1, 0, none⟩)], Value.nilFunc]) ∧ BB w.heap.size b w' ∧ w'.cell? ⟨w.heap.size + 1, 0, none⟩ = some (.slice va vn vc) ∧ LB l1 b.p w' ∧ LB l2 b.o w' ∧ LB l3 lk w' ∧ w.heap.size ≤ l1 ∧ w.heap.size ≤ l2 ∧ w.heap.size ≤ l3 ∧ Below w.heap.size w w' := by
  have hmf : ∀ (fn : Fn) (first cap : Array Value) (w : World), (Instr.makeFunc fn first cap).run Tryz.prog w = .ok (.func fn first cap) w := fun _ _ _ _ => rfl
  have S0 : WS w b (.slice va vn vc) (((w.alloc (.cells #[.int .i64 b.s, .slice b.p.a b.p.n b.p.c, .slice b.h0.a b.h0.n b.h0.c, .slice b.h1.a b.h1.n b.h1.c, .slice b.h2.a b.h2.n b.h2.c, .slice b.h3.a b.h3.n b.h3.c, .slice b.o.a b.o.n b.o.c, .slice b.i.a b.i.n b.i.c, .slice b.e.a b.e.n b.e.c] 28)).alloc (.cells #[.slice va vn vc] 25)).alloc (.cells #[Value.nilFunc, Value.nilFunc, Value.nilFunc, Value.nilFunc, Value.nilFunc, Value.nilFunc, Value.nilFunc, Value.nilFunc] 65)) := ⟨⟨range_lit #[.int .i64 b.s, .slice b.p.a b.p.n b.p.c, .slice b.h0.a b.h0.n b.h0.c, .slice b.h1.a b.h1.n b.h1.c, .slice b.h2.a b.h2.n b.h2.c, .slice b.h3.a b.h3.n b.h3.c, .slice b.o.a b.o.n b.o.c, .slice b.i.a b.i.n b.i.c, .slice b.e.a b.e.n b.e.c] (heap3_0 w _ _ _), h.later (below3 _ _ _ _)⟩, by have := range_lit #[.slice va vn vc] (heap3_1 w (.cells #[.int .i64 b.s, .slice b.p.a b.p.n b.p.c, .slice b.h0.a b.h0.n b.h0.c, .slice b.h1.a b.h1.n b.h1.c, .slice b.h2.a b.h2.n b.h2.c, .slice b.h3.a b.h3.n b.h3.c, .slice b.o.a b.o.n b.o.c, .slice b.i.a b.i.n b.i.c, .slice b.e.a b.e.n b.e.c] 28) (.cells #[.slice va vn vc] 25) (.cells #[Value.nilFunc, Value.nilFunc, Value.nilFunc, Value.nilFunc, Value.nilFunc, Value.nilFunc, Value.nilFunc, Value.nilFunc] 65)) 0 _ rfl; exact this, ⟨_, _, _, _, _, _, _, _, ck_lit #[Value.nilFunc, Value.nilFunc, Value.nilFunc, Value.nilFunc, Value.nilFunc, Value.nilFunc, Value.nilFunc, Value.nilFunc] (heap3_2 w _ _ _)⟩, below3 _ _ _ _, by simp⟩
  have K0 := hk.later (below3 w (.cells #[.int .i64 b.s, .slice b.p.a b.p.n b.p.c, .slice b.h0.a b.h0.n b.h0.c, .slice b.h1.a b.h1.n b.h1.c, .slice b.h2.a b.h2.n b.h2.c, .slice b.h3.a b.h3.n b.h3.c, .slice b.o.a b.o.n b.o.c, .slice b.i.a b.i.n b.i.c, .slice b.e.a b.e.n b.e.c] 28) (.cells #[.slice va vn vc] 25) (.cells #[Value.nilFunc, Value.nilFunc, Value.nilFunc, Value.nilFunc, Value.nilFunc, Value.nilFunc, Value.nilFunc, Value.nilFunc] 65))
  simp only [Bx.cells]
  go_enter Tryz.func41, Tryz.ntmps41
  go_wp2_with (fail)
  have HK : Hid (lk.At _) := K0
  have HK0 : Hid (lk.At w) := hk
  clear K0 hk
  generalize ((w.alloc (.cells #[.int .i64 b.s, .slice b.p.a b.p.n b.p.c, .slice b.h0.a b.h0.n b.h0.c, .slice b.h1.a b.h1.n b.h1.c, .slice b.h2.a b.h2.n b.h2.c, .slice b.h3.a b.h3.n b.h3.c, .slice b.o.a b.o.n b.o.c, .slice b.i.a b.i.n b.i.c, .slice b.e.a b.e.n b.e.c] 28)).alloc (.cells #[.slice va vn vc] 25)).alloc (.cells #[Value.nilFunc, Value.nilFunc, Value.nilFunc, Value.nilFunc, Value.nilFunc, Value.nilFunc, Value.nilFunc, Value.nilFunc] 65) = W at S0 HK ⊢
  have S1 : (fun w' : World => WS w b (.slice va vn vc) w' ∧ lk.At w') W.drew := ⟨S0.drew, HK.out⟩
  clear S0 HK
  refine wp_region_held_drew (S := fun w' : World => WS w b (.slice va vn vc) w' ∧ lk.At w') (by kernel_rfl) S1 (fun hS => ?_)
  clear S1
  refine takeB (i := 0) (v := .func (.func 94) #[] #[.pointer (some ⟨w.heap.size, 0, none⟩), .pointer (some ⟨w.heap.size + 1, 0, none⟩)]) (d := some 9) rfl rfl (by kernel_rfl) (by kernel_rfl) (by kernel_rfl) (fun _ _ _ h => h) (Or.inl ⟨by rfl, fun w' hw => ?_⟩) (by assumption) ?_
  · clear hw; go_simp
  simp only [Act.put, List.setIfInBounds_toArray, List.set_cons_zero, List.set_cons_succ]
  refine takeB (i := 1) (v := .func (.func 95) #[] #[.pointer (some ⟨w.heap.size, 0, none⟩), .pointer (some ⟨w.heap.size + 1, 0, none⟩)]) (d := some 10) rfl rfl (by kernel_rfl) (by kernel_rfl) (by kernel_rfl) (fun _ _ _ h => h) (Or.inl ⟨by rfl, fun w' hw => ?_⟩) (by assumption) ?_
  · clear hw; go_simp
  simp only [Act.put, List.setIfInBounds_toArray, List.set_cons_zero, List.set_cons_succ]
  refine takeB (i := 2) (v := .func (.func 92) #[] #[.pointer (some ⟨w.heap.size + 1, 0, none⟩)]) (d := some 11) rfl rfl (by kernel_rfl) (by kernel_rfl) (by kernel_rfl) (fun _ _ _ h => h) (Or.inl ⟨by rfl, fun w' hw => ?_⟩) (by assumption) ?_
  · clear hw; go_simp
  simp only [Act.put, List.setIfInBounds_toArray, List.set_cons_zero, List.set_cons_succ]
  refine takeB (i := 3) (v := .pointer (some ⟨w.heap.size, 1, none⟩)) (d := some 12) rfl rfl (by kernel_rfl) (by kernel_rfl) (by kernel_rfl) (fun _ _ _ h => h) (Or.inl ⟨by rfl, fun w' hw => ?_⟩) (by assumption) ?_
  · clear hw; go_simp
  simp only [Act.put, List.setIfInBounds_toArray, List.set_cons_zero, List.set_cons_succ]
  refine takeB (i := 4) (v := .slice b.p.a b.p.n b.p.c) (d := some 13) rfl rfl (by kernel_rfl) (by kernel_rfl) (by kernel_rfl) (fun _ _ _ h => h) (Or.inl ⟨by rfl, fun w' hw => ?_⟩) (by assumption) ?_
  · have q := hw.1.e.r 1 _ rfl; simp only [Nat.zero_add] at q; clear hw; go_simp
  simp only [Act.put, List.setIfInBounds_toArray, List.set_cons_zero, List.set_cons_succ]
  refine takeB (i := 6) (v := .func (.func 92) #[] #[.pointer (some ⟨w.heap.size + 1, 0, none⟩)]) (d := some 15) rfl rfl (by kernel_rfl) (by kernel_rfl) (by kernel_rfl) (fun _ _ _ h => h) (Or.inl ⟨by rfl, fun w' hw => ?_⟩) (by assumption) ?_
  · clear hw; go_simp
  simp only [Act.put, List.setIfInBounds_toArray, List.set_cons_zero, List.set_cons_succ]
  refine takeB (i := 7) (v := .pointer (some ⟨w.heap.size, 6, none⟩)) (d := some 16) rfl rfl (by kernel_rfl) (by kernel_rfl) (by kernel_rfl) (fun _ _ _ h => h) (Or.inl ⟨by rfl, fun w' hw => ?_⟩) (by assumption) ?_
  · clear hw; go_simp
  simp only [Act.put, List.setIfInBounds_toArray, List.set_cons_zero, List.set_cons_succ]
  refine takeB (i := 8) (v := .slice b.o.a b.o.n b.o.c) (d := some 17) rfl rfl (by kernel_rfl) (by kernel_rfl) (by kernel_rfl) (fun _ _ _ h => h) (Or.inl ⟨by rfl, fun w' hw => ?_⟩) (by assumption) ?_
  · have q := hw.1.e.r 6 _ rfl; simp only [Nat.zero_add] at q; clear hw; go_simp
  simp only [Act.put, List.setIfInBounds_toArray, List.set_cons_zero, List.set_cons_succ]
  refine takeB (i := 10) (v := .func (.func 92) #[] #[.pointer (some ⟨w.heap.size + 1, 0, none⟩)]) (d := some 19) rfl rfl (by kernel_rfl) (by kernel_rfl) (by kernel_rfl) (fun _ _ _ h => h) (Or.inl ⟨by rfl, fun w' hw => ?_⟩) (by assumption) ?_
  · clear hw; go_simp
  simp only [Act.put, List.setIfInBounds_toArray, List.set_cons_zero, List.set_cons_succ]
  refine takeB (i := 11) (v := .slice lk.a lk.n lk.c) (d := some 20) rfl rfl (by kernel_rfl) (by kernel_rfl) (by kernel_rfl) (fun _ _ _ h => h) (Or.inl ⟨by rfl, fun w' hw => ?_⟩) (by assumption) ?_
  · clear hw; go_simp
  simp only [Act.put, List.setIfInBounds_toArray, List.set_cons_zero, List.set_cons_succ]
  generalize World.drew _ = V at hS ⊢
  refine wpAnyH_ready (rs := [5]) (by kernel_rfl) (by simp) ?_
  refine AllReadyH.cons rfl (fun K hK => ?_) AllReadyH.nil
  have HS : Hid (_ ∧ _) := hS
  clear hS
  go_simp
  refine (wmk_any b.p (w.heap.size + 1) V).mono ?_
  rintro e V1 ⟨rfl, rfl⟩
  have L5 := lb_new b.p V 25 (HS.out.1.e.a b.p (by simp [Bx.lists]))
  have z5 := HS.out.1.z
  have S2 : (fun w' : World => WS w b (.slice va vn vc) w' ∧ lk.At w') (V.alloc (.cells #[.slice b.p.a b.p.n b.p.c] 25)) := ⟨HS.out.1.later (below1 _ _), HS.out.2.later (below1 _ _)⟩
  have LL5 : Hid (LB _ _ _) := L5
  have SS : Hid (_ ∧ _) := S2
  clear L5 HS S2
  go_simp
  refine hK.out _ _ SS.out (fun hS => ?_)
  clear hK K SS
  obtain ⟨l1, e1⟩ : ∃ l, l = V.heap.size := ⟨_, rfl⟩
  rw [← e1] at LL5 z5 ⊢
  clear e1
  generalize V.alloc _ = V1 at LL5 hS ⊢
  refine wpAnyH_ready (rs := [9]) (by kernel_rfl) (by simp) ?_
  refine AllReadyH.cons rfl (fun K hK => ?_) AllReadyH.nil
  have HS : Hid (_ ∧ _) := hS
  clear hS
  go_simp
  refine (wmk_any b.o (w.heap.size + 1) V1).mono ?_
  rintro e V2 ⟨rfl, rfl⟩
  have L9 := lb_new b.o V1 25 (HS.out.1.e.a b.o (by simp [Bx.lists]))
  have z9 := HS.out.1.z
  have S2 : (fun w' : World => WS w b (.slice va vn vc) w' ∧ lk.At w') (V1.alloc (.cells #[.slice b.o.a b.o.n b.o.c] 25)) := ⟨HS.out.1.later (below1 _ _), HS.out.2.later (below1 _ _)⟩
  have LL9 : Hid (LB _ _ _) := L9
  have SS : Hid (_ ∧ _) := S2
  clear L9 HS S2
  go_simp
  refine hK.out _ _ SS.out (fun hS => ?_)
  clear hK K SS
  replace LL5 : Hid (LB l1 b.p _) := LL5.out.later (below1 V1 (.cells #[.slice b.o.a b.o.n b.o.c] 25))
  obtain ⟨l2, e2⟩ : ∃ l, l = V1.heap.size := ⟨_, rfl⟩
  rw [← e2] at LL9 z9 ⊢
  clear e2
  generalize V1.alloc _ = V2 at LL5 LL9 hS ⊢
  refine wpAnyH_ready (rs := [12]) (by kernel_rfl) (by simp) ?_
  refine AllReadyH.cons rfl (fun K hK => ?_) AllReadyH.nil
  have HS : Hid (_ ∧ _) := hS
  clear hS
  go_simp
  refine (wmk_any lk (w.heap.size + 1) V2).mono ?_
  rintro e V3 ⟨rfl, rfl⟩
  have L12 := lb_new lk V2 25 HS.out.2
  have z12 := HS.out.1.z
  have S2 : (fun w' : World => WS w b (.slice va vn vc) w' ∧ lk.At w') (V2.alloc (.cells #[.slice lk.a lk.n lk.c] 25)) := ⟨HS.out.1.later (below1 _ _), HS.out.2.later (below1 _ _)⟩
  have LL12 : Hid (LB _ _ _) := L12
  have SS : Hid (_ ∧ _) := S2
  clear L12 HS S2
  go_simp
  refine hK.out _ _ SS.out (fun hS => ?_)
  clear hK K SS
  replace LL5 : Hid (LB l1 b.p _) := LL5.out.later (below1 V2 (.cells #[.slice lk.a lk.n lk.c] 25))
  replace LL9 : Hid (LB l2 b.o _) := LL9.out.later (below1 V2 (.cells #[.slice lk.a lk.n lk.c] 25))
  obtain ⟨l3, e3⟩ : ∃ l, l = V2.heap.size := ⟨_, rfl⟩
  rw [← e3] at LL12 z12 ⊢
  clear e3
  generalize V2.alloc _ = V3 at LL5 LL9 LL12 hS ⊢
  refine takeB (i := 13) (v := .agg #[Value.nilFunc, .func (.func 94) #[] #[.pointer (some ⟨w.heap.size, 0, none⟩), .pointer (some ⟨w.heap.size + 1, 0, none⟩)], Value.nilFunc, .func (.func 95) #[] #[.pointer (some ⟨w.heap.size, 0, none⟩), .pointer (some ⟨w.heap.size + 1, 0, none⟩)], .func (.func 93) #[] #[.pointer (some ⟨l1, 0, none⟩), .pointer (some ⟨w.heap.size + 1, 0, none⟩)], .func (.func 93) #[] #[.pointer (some ⟨l2, 0, none⟩), .pointer (some ⟨w.heap.size + 1, 0, none⟩)], .func (.func 93) #[] #[.pointer (some ⟨l3, 0, none⟩), .pointer (some ⟨w.heap.size + 1, 0, none⟩)], Value.nilFunc]) (d := some 22) rfl rfl (by kernel_rfl) (by kernel_rfl) (by kernel_rfl) (fun _ _ _ h => h) (Or.inl ⟨by rfl, fun w' hw => ?_⟩) (by assumption) ?_
  · clear hw; go_simp
  simp only [Act.put, List.setIfInBounds_toArray, List.set_cons_zero, List.set_cons_succ]
  obtain ⟨c0, c1, c2, c3, c4, c5, c6, c7, ht⟩ := hS.1.t
  obtain ⟨ck, oy⟩ := put8 ht (Value.nilFunc) (.func (.func 94) #[] #[.pointer (some ⟨w.heap.size, 0, none⟩), .pointer (some ⟨w.heap.size + 1, 0, none⟩)]) (Value.nilFunc) (.func (.func 95) #[] #[.pointer (some ⟨w.heap.size, 0, none⟩), .pointer (some ⟨w.heap.size + 1, 0, none⟩)]) (.func (.func 93) #[] #[.pointer (some ⟨l1, 0, none⟩), .pointer (some ⟨w.heap.size + 1, 0, none⟩)]) (.func (.func 93) #[] #[.pointer (some ⟨l2, 0, none⟩), .pointer (some ⟨w.heap.size + 1, 0, none⟩)]) (.func (.func 93) #[] #[.pointer (some ⟨l3, 0, none⟩), .pointer (some ⟨w.heap.size + 1, 0, none⟩)]) (Value.nilFunc)
  have p0 := ht 0 _ rfl
  have p1 := ht 1 _ rfl
  have p2 := ht 2 _ rfl
  have p3 := ht 3 _ rfl
  have p4 := ht 4 _ rfl
  have p5 := ht 5 _ rfl
  have p6 := ht 6 _ rfl
  have p7 := ht 7 _ rfl
  have HS : Hid (_ ∧ _) := hS
  have CK : Hid (Ck _ _ _) := ck
  have OY : Hid (Only _ _ _ _) := oy
  have TH : Hid (V3.there (w.heap.size + 1 + 1) 0 8) := there8 ht
  clear hS ck oy ht
  refine wpAnyH_ready (rs := [14]) (by kernel_rfl) (by simp) ?_
  refine AllReadyH.cons rfl (fun K hK => ?_) AllReadyH.nil
  go_simp
  clear p0 p1 p2 p3 p4 p5 p6 p7
  have zz := HS.out.1.z
  have zo := OY.out.size
  have B9 : Below w.heap.size w _ := HS.out.1.b.trans (OY.out.below (by omega) |>.mono (by omega))
  have bR : ∀ j v, b.cells[j]? = some v → _ := fun j v hv => (OY.out.cell (o := 0 + j) (by omega) (.inl (by omega))).trans (HS.out.1.e.r j v hv)
  have W9 : WS w b (.slice va vn vc) _ := ⟨⟨bR, h.later B9⟩, (OY.out.cell (by omega) (.inl (by omega))).trans HS.out.1.v, ⟨_, _, _, _, _, _, _, _, CK.out⟩, B9, Nat.le_trans zz zo⟩
  have K9 : lk.At _ := HK0.out.later B9
  have M1 : LB l1 b.p _ := ⟨(OY.out.cell (World.block_lt_of_cell? _ _ LL5.out.b) (.inr (by omega))).trans LL5.out.b, (h b.p (by simp [Bx.lists])).later B9⟩
  have M2 : LB l2 b.o _ := ⟨(OY.out.cell (World.block_lt_of_cell? _ _ LL9.out.b) (.inr (by omega))).trans LL9.out.b, (h b.o (by simp [Bx.lists])).later B9⟩
  have M3 : LB l3 lk _ := ⟨(OY.out.cell (World.block_lt_of_cell? _ _ LL12.out.b) (.inr (by omega))).trans LL12.out.b, K9⟩
  refine hK.out _ _ ⟨W9, K9⟩ (fun hS => ?_)
  clear hK K hS
  have HM1 : Hid (LB l1 b.p _) := M1
  have HM2 : Hid (LB l2 b.o _) := M2
  have HM3 : Hid (LB l3 lk _) := M3
  have HW9 : Hid (WS w b (.slice va vn vc) _) := W9
  clear M1 M2 M3 W9 K9 B9 bR
  refine wpAnyH_done (by kernel_rfl) ?_ _
  go_wp2_with (fail)
  exact bodyPost_ret (results_cell_mid rfl _ _ (w.heap.size + 1 + 1) 0 _ _ rfl CK.out.range Tryz.underlying65 rfl (by kernel_rfl)) rfl ⟨l1, l2, l3, rfl, HW9.out.e, HW9.out.v, HM1.out, HM2.out, HM3.out, by omega, by omega, by omega, HW9.out.b⟩

end Go.Proofs.YtipbijcmpbefpaaGreat.Book

/- The links of a book, by the program. -/
namespace Go.Proofs.YtipbijcmpbefpaaGreat.Book
open Go.ChangeShapes Go.WideShapes Go.ChangeAt Go.RowKit
open Go.Proofs.YtipbijcmpbefpaaGreat.Aid Go.Proofs.YtipbijcmpbefpaaGreat.Lst
set_option maxRecDepth 100000
set_option linter.unusedVariables false

/- The links, so many of a list having been laid; so many lists. -/
def lk1 (x : Sx) (g : Nat → Int) : Nat → Nat → Int
  | 0 => g
  | i + 1 => upd (lk1 x g i) (x.f i).toNat (nx x (i + 1))
def lkK (b : Bx) : Nat → Nat → Int
  | 0 => fun _ => 0
  | k + 1 => lk1 (b.hd k) (lkK b k) (b.hd k).n
theorem lk1_m (a c : Option Addr) (n q q' : Nat) (f g : Nat → Int) : ∀ i, lk1 ⟨a, n, q, f⟩ g i = lk1 ⟨c, n, q', f⟩ g i
  | 0 => rfl
  | i + 1 => by simp only [lk1]; rw [lk1_m a c n q q' f g i]; rfl

set_option maxHeartbeats 8000000 in
theorem links_any (b : Bx) (w : World) (h : b.At w) (n3 : b.o.n ≤ 48) (hd : ∀ k, k < 4 → (b.hd k).n ≤ b.o.n ∧ ∀ i, i < (b.hd k).n → 0 ≤ (b.hd k).f i ∧ (b.hd k).f i < b.o.n) :
    Calls Tryz.prog 42 #[.agg b.cells.toArray] w fun e w' => e = .returned (.slice (some ⟨w.heap.size + 1, 0, none⟩) b.o.n b.o.n) ∧ Fk .i64 b.o.n w' (w.heap.size + 1) (lkK b 4) ∧ Below w.heap.size w w' ∧ w.heap.size + 1 < w'.heap.size := by
  have HD : Hid (∀ k, k < 4 → (b.hd k).n ≤ b.o.n ∧ ∀ i, i < (b.hd k).n → 0 ≤ (b.hd k).f i ∧ (b.hd k).f i < b.o.n) := hd
  clear hd
  obtain ⟨ix0, ix1, ix2, ix3⟩ := ix4 b.h0.a b.h1.a b.h2.a b.h3.a b.h0.n b.h0.c b.h1.n b.h1.c b.h2.n b.h2.c b.h3.n b.h3.c
  have E : Ent w b (w.alloc (.cells #[.int .i64 b.s, .slice b.p.a b.p.n b.p.c, .slice b.h0.a b.h0.n b.h0.c, .slice b.h1.a b.h1.n b.h1.c, .slice b.h2.a b.h2.n b.h2.c, .slice b.h3.a b.h3.n b.h3.c, .slice b.o.a b.o.n b.o.c, .slice b.i.a b.i.n b.i.c, .slice b.e.a b.e.n b.e.c] 28)) := Ent.start h 28
  have hmk := fun w => run_make_row' (P := Tryz.prog) 25 3 (.int .i64 0) 8 Tryz.underlying25 infoInt rfl .i64 .i64 b.o.n (by omega) (by omega) w
  have f0 := fk_made .i64 (w.alloc (.cells #[.int .i64 b.s, .slice b.p.a b.p.n b.p.c, .slice b.h0.a b.h0.n b.h0.c, .slice b.h1.a b.h1.n b.h1.c, .slice b.h2.a b.h2.n b.h2.c, .slice b.h3.a b.h3.n b.h3.c, .slice b.o.a b.o.n b.o.c, .slice b.i.a b.i.n b.i.c, .slice b.e.a b.e.n b.e.c] 28)) b.o.n 3
  have E0 := E.later (below1 _ (.cells (madeCells #[.int .i64 0] b.o.n) 3))
  have z0 : (w.alloc (.cells #[.int .i64 b.s, .slice b.p.a b.p.n b.p.c, .slice b.h0.a b.h0.n b.h0.c, .slice b.h1.a b.h1.n b.h1.c, .slice b.h2.a b.h2.n b.h2.c, .slice b.h3.a b.h3.n b.h3.c, .slice b.o.a b.o.n b.o.c, .slice b.i.a b.i.n b.i.c, .slice b.e.a b.e.n b.e.c] 28)).heap.size = w.heap.size + 1 := by simp
  have y0 : w.heap.size + 1 < ((w.alloc (.cells #[.int .i64 b.s, .slice b.p.a b.p.n b.p.c, .slice b.h0.a b.h0.n b.h0.c, .slice b.h1.a b.h1.n b.h1.c, .slice b.h2.a b.h2.n b.h2.c, .slice b.h3.a b.h3.n b.h3.c, .slice b.o.a b.o.n b.o.c, .slice b.i.a b.i.n b.i.c, .slice b.e.a b.e.n b.e.c] 28)).alloc (.cells (madeCells #[.int .i64 0] b.o.n) 3)).heap.size := by simp
  rw [z0] at f0
  clear z0 E
  simp only [Bx.cells]
  go_enter Tryz.func42, Tryz.ntmps42
  go_wp2_with (fail)
  generalize ((w.alloc (.cells #[.int .i64 b.s, .slice b.p.a b.p.n b.p.c, .slice b.h0.a b.h0.n b.h0.c, .slice b.h1.a b.h1.n b.h1.c, .slice b.h2.a b.h2.n b.h2.c, .slice b.h3.a b.h3.n b.h3.c, .slice b.o.a b.o.n b.o.c, .slice b.i.a b.i.n b.i.c, .slice b.e.a b.e.n b.e.c] 28)).alloc (.cells (madeCells #[.int .i64 0] b.o.n) 3)) = W0 at f0 E0 y0 ⊢
  have F0 : Hid (Fk .i64 b.o.n W0 (w.heap.size + 1) (lkK b 0)) := f0
  clear f0 hmk
  refine wp_loop_rounds 5 ?_
  rw [rounds_succ]
  obtain ⟨u0, u1, u2, u3, u4, u5, u6, u7, u8⟩ := nine E0.r
  go_wp2_with (fail)
  clear u0 u1 u2 u3 u4 u5 u6 u7 u8
  have nk0 : b.h0.n ≤ b.o.n := (HD.out 0 (by omega)).1
  go_loopw [19] (fun i wr => ∃ j : Nat, j ≤ b.h0.n ∧ i = .int .i64 j ∧ Ent w b wr ∧ Fk .i64 b.o.n wr (w.heap.size + 1) (lk1 b.h0 (lkK b 0) j) ∧ w.heap.size + 1 < wr.heap.size) (fun i _ => b.h0.n - (intOf i).toNat)
  case atStart => exact ⟨0, Nat.zero_le _, rfl, E0, F0.out, y0⟩
  case' round =>
  obtain ⟨j, hj, rfl, G, FF, yy⟩ := hrel
  have HF : Hid (Fk .i64 b.o.n wr (w.heap.size + 1) (lk1 b.h0 (lkK b 0) j)) := FF
  clear E0 F0 y0 FF
  by_cases lt : (j : Int) < b.h0.n
  · obtain ⟨k1, o1, ex, hx⟩ := G.a.h0.cells (by omega)
    have c1 := hx j (by omega)
    have EX : Hid (b.h0.a = some ⟨k1, o1, none⟩) := ex
    obtain ⟨v0, v1⟩ := (HD.out 0 (by omega)).2 j (show j < b.h0.n by omega)
    have v0' : 0 ≤ b.h0.f j := v0
    have v1' : b.h0.f j < b.o.n := v1
    obtain ⟨m, hm⟩ := Int.eq_ofNat_of_zero_le v0'
    have HM : Hid (b.h0.f j = m) := hm
    rw [hm] at c1
    have m1 : (m : Int) < b.o.n := by omega
    have mn : m < b.o.n := by omega
    rw [ex]
    clear hx ex v0 v1 v0' v1' hm
    go_wp2_with (fail)
    rw [← EX.out]
    have na := next_any b.h0 (j + 1) wr (G.a b.h0 (by simp [Bx.lists])) (by omega) (fun i hi => by have := (HD.out 0 (by omega)).2 i hi; exact ⟨this.1, by have := this.2; have e : (b.hd 0) = b.h0 := rfl; rw [e] at this; omega⟩)
    push_cast at na
    refine na.mono ?_
    rintro e wr ⟨rfl, rfl⟩
    have cm := HF.out m mn
    clear na c1
    go_wp2_with (fail)
    rw [← EX.out]
    go_roundw
    case rel =>
      refine ⟨j + 1, by omega, by go_num, G.set h _ _ (by omega) _, ?_, by simpa [World.setCell] using yy⟩
      simp only [lk1]
      rw [HM.out]
      exact HF.out.set m _ _ (by simp [upd]) (fun i _ hne => by simp [upd, hne])
    case measure => simp [intOf]; omega
  have ej : j = b.h0.n := by omega
  have nlt : ¬ j < b.h0.n := by omega
  have F1 : Hid (Fk .i64 b.o.n wr (w.heap.size + 1) (lkK b 1)) := by
    unfold Hid
    rw [ej] at HF
    exact HF.out
  have E1 := G
  have y1 := yy
  clear ej HF G lt hj yy
  go_wp2_with (fail)
  clear nlt
  rw [rounds_succ]
  obtain ⟨u0, u1, u2, u3, u4, u5, u6, u7, u8⟩ := nine E1.r
  go_wp2_with (fail)
  clear u0 u1 u2 u3 u4 u5 u6 u7 u8
  have nk1 : b.h1.n ≤ b.o.n := (HD.out 1 (by omega)).1
  go_loopw [19] (fun i wr => ∃ j : Nat, j ≤ b.h1.n ∧ i = .int .i64 j ∧ Ent w b wr ∧ Fk .i64 b.o.n wr (w.heap.size + 1) (lk1 b.h1 (lkK b 1) j) ∧ w.heap.size + 1 < wr.heap.size) (fun i _ => b.h1.n - (intOf i).toNat)
  case atStart => exact ⟨0, Nat.zero_le _, rfl, E1, F1.out, y1⟩
  case' round =>
  obtain ⟨j, hj, rfl, G, FF, yy⟩ := hrel
  have HF : Hid (Fk .i64 b.o.n wr (w.heap.size + 1) (lk1 b.h1 (lkK b 1) j)) := FF
  clear E1 F1 y1 FF
  by_cases lt : (j : Int) < b.h1.n
  · obtain ⟨k1, o1, ex, hx⟩ := G.a.h1.cells (by omega)
    have c1 := hx j (by omega)
    have EX : Hid (b.h1.a = some ⟨k1, o1, none⟩) := ex
    obtain ⟨v0, v1⟩ := (HD.out 1 (by omega)).2 j (show j < b.h1.n by omega)
    have v0' : 0 ≤ b.h1.f j := v0
    have v1' : b.h1.f j < b.o.n := v1
    obtain ⟨m, hm⟩ := Int.eq_ofNat_of_zero_le v0'
    have HM : Hid (b.h1.f j = m) := hm
    rw [hm] at c1
    have m1 : (m : Int) < b.o.n := by omega
    have mn : m < b.o.n := by omega
    rw [ex]
    clear hx ex v0 v1 v0' v1' hm
    go_wp2_with (fail)
    rw [← EX.out]
    have na := next_any b.h1 (j + 1) wr (G.a b.h1 (by simp [Bx.lists])) (by omega) (fun i hi => by have := (HD.out 1 (by omega)).2 i hi; exact ⟨this.1, by have := this.2; have e : (b.hd 1) = b.h1 := rfl; rw [e] at this; omega⟩)
    push_cast at na
    refine na.mono ?_
    rintro e wr ⟨rfl, rfl⟩
    have cm := HF.out m mn
    clear na c1
    go_wp2_with (fail)
    rw [← EX.out]
    go_roundw
    case rel =>
      refine ⟨j + 1, by omega, by go_num, G.set h _ _ (by omega) _, ?_, by simpa [World.setCell] using yy⟩
      simp only [lk1]
      rw [HM.out]
      exact HF.out.set m _ _ (by simp [upd]) (fun i _ hne => by simp [upd, hne])
    case measure => simp [intOf]; omega
  have ej : j = b.h1.n := by omega
  have nlt : ¬ j < b.h1.n := by omega
  have F2 : Hid (Fk .i64 b.o.n wr (w.heap.size + 1) (lkK b 2)) := by
    unfold Hid
    rw [ej] at HF
    exact HF.out
  have E2 := G
  have y2 := yy
  clear ej HF G lt hj yy
  go_wp2_with (fail)
  clear nlt
  rw [rounds_succ]
  obtain ⟨u0, u1, u2, u3, u4, u5, u6, u7, u8⟩ := nine E2.r
  go_wp2_with (fail)
  clear u0 u1 u2 u3 u4 u5 u6 u7 u8
  have nk2 : b.h2.n ≤ b.o.n := (HD.out 2 (by omega)).1
  go_loopw [19] (fun i wr => ∃ j : Nat, j ≤ b.h2.n ∧ i = .int .i64 j ∧ Ent w b wr ∧ Fk .i64 b.o.n wr (w.heap.size + 1) (lk1 b.h2 (lkK b 2) j) ∧ w.heap.size + 1 < wr.heap.size) (fun i _ => b.h2.n - (intOf i).toNat)
  case atStart => exact ⟨0, Nat.zero_le _, rfl, E2, F2.out, y2⟩
  case' round =>
  obtain ⟨j, hj, rfl, G, FF, yy⟩ := hrel
  have HF : Hid (Fk .i64 b.o.n wr (w.heap.size + 1) (lk1 b.h2 (lkK b 2) j)) := FF
  clear E2 F2 y2 FF
  by_cases lt : (j : Int) < b.h2.n
  · obtain ⟨k1, o1, ex, hx⟩ := G.a.h2.cells (by omega)
    have c1 := hx j (by omega)
    have EX : Hid (b.h2.a = some ⟨k1, o1, none⟩) := ex
    obtain ⟨v0, v1⟩ := (HD.out 2 (by omega)).2 j (show j < b.h2.n by omega)
    have v0' : 0 ≤ b.h2.f j := v0
    have v1' : b.h2.f j < b.o.n := v1
    obtain ⟨m, hm⟩ := Int.eq_ofNat_of_zero_le v0'
    have HM : Hid (b.h2.f j = m) := hm
    rw [hm] at c1
    have m1 : (m : Int) < b.o.n := by omega
    have mn : m < b.o.n := by omega
    rw [ex]
    clear hx ex v0 v1 v0' v1' hm
    go_wp2_with (fail)
    rw [← EX.out]
    have na := next_any b.h2 (j + 1) wr (G.a b.h2 (by simp [Bx.lists])) (by omega) (fun i hi => by have := (HD.out 2 (by omega)).2 i hi; exact ⟨this.1, by have := this.2; have e : (b.hd 2) = b.h2 := rfl; rw [e] at this; omega⟩)
    push_cast at na
    refine na.mono ?_
    rintro e wr ⟨rfl, rfl⟩
    have cm := HF.out m mn
    clear na c1
    go_wp2_with (fail)
    rw [← EX.out]
    go_roundw
    case rel =>
      refine ⟨j + 1, by omega, by go_num, G.set h _ _ (by omega) _, ?_, by simpa [World.setCell] using yy⟩
      simp only [lk1]
      rw [HM.out]
      exact HF.out.set m _ _ (by simp [upd]) (fun i _ hne => by simp [upd, hne])
    case measure => simp [intOf]; omega
  have ej : j = b.h2.n := by omega
  have nlt : ¬ j < b.h2.n := by omega
  have F3 : Hid (Fk .i64 b.o.n wr (w.heap.size + 1) (lkK b 3)) := by
    unfold Hid
    rw [ej] at HF
    exact HF.out
  have E3 := G
  have y3 := yy
  clear ej HF G lt hj yy
  go_wp2_with (fail)
  clear nlt
  rw [rounds_succ]
  obtain ⟨u0, u1, u2, u3, u4, u5, u6, u7, u8⟩ := nine E3.r
  go_wp2_with (fail)
  clear u0 u1 u2 u3 u4 u5 u6 u7 u8
  have nk3 : b.h3.n ≤ b.o.n := (HD.out 3 (by omega)).1
  go_loopw [19] (fun i wr => ∃ j : Nat, j ≤ b.h3.n ∧ i = .int .i64 j ∧ Ent w b wr ∧ Fk .i64 b.o.n wr (w.heap.size + 1) (lk1 b.h3 (lkK b 3) j) ∧ w.heap.size + 1 < wr.heap.size) (fun i _ => b.h3.n - (intOf i).toNat)
  case atStart => exact ⟨0, Nat.zero_le _, rfl, E3, F3.out, y3⟩
  case' round =>
  obtain ⟨j, hj, rfl, G, FF, yy⟩ := hrel
  have HF : Hid (Fk .i64 b.o.n wr (w.heap.size + 1) (lk1 b.h3 (lkK b 3) j)) := FF
  clear E3 F3 y3 FF
  by_cases lt : (j : Int) < b.h3.n
  · obtain ⟨k1, o1, ex, hx⟩ := G.a.h3.cells (by omega)
    have c1 := hx j (by omega)
    have EX : Hid (b.h3.a = some ⟨k1, o1, none⟩) := ex
    obtain ⟨v0, v1⟩ := (HD.out 3 (by omega)).2 j (show j < b.h3.n by omega)
    have v0' : 0 ≤ b.h3.f j := v0
    have v1' : b.h3.f j < b.o.n := v1
    obtain ⟨m, hm⟩ := Int.eq_ofNat_of_zero_le v0'
    have HM : Hid (b.h3.f j = m) := hm
    rw [hm] at c1
    have m1 : (m : Int) < b.o.n := by omega
    have mn : m < b.o.n := by omega
    rw [ex]
    clear hx ex v0 v1 v0' v1' hm
    go_wp2_with (fail)
    rw [← EX.out]
    have na := next_any b.h3 (j + 1) wr (G.a b.h3 (by simp [Bx.lists])) (by omega) (fun i hi => by have := (HD.out 3 (by omega)).2 i hi; exact ⟨this.1, by have := this.2; have e : (b.hd 3) = b.h3 := rfl; rw [e] at this; omega⟩)
    push_cast at na
    refine na.mono ?_
    rintro e wr ⟨rfl, rfl⟩
    have cm := HF.out m mn
    clear na c1
    go_wp2_with (fail)
    rw [← EX.out]
    go_roundw
    case rel =>
      refine ⟨j + 1, by omega, by go_num, G.set h _ _ (by omega) _, ?_, by simpa [World.setCell] using yy⟩
      simp only [lk1]
      rw [HM.out]
      exact HF.out.set m _ _ (by simp [upd]) (fun i _ hne => by simp [upd, hne])
    case measure => simp [intOf]; omega
  have ej : j = b.h3.n := by omega
  have nlt : ¬ j < b.h3.n := by omega
  have F4 : Hid (Fk .i64 b.o.n wr (w.heap.size + 1) (lkK b 4)) := by
    unfold Hid
    rw [ej] at HF
    exact HF.out
  have E4 := G
  have y4 := yy
  clear ej HF G lt hj yy
  go_wp2_with (fail)
  clear nlt
  rw [rounds_succ]
  go_wp2_with (fail)
  go_ret
  exact ⟨rfl, F4.out, E4.b, y4⟩

end Go.Proofs.YtipbijcmpbefpaaGreat.Book

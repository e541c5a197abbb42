/- The visitor that writes the values of a book. -/
import Derived.Test.YtipbijcmpbefpaaLay2
import Derived.Laws.EntriesVeiled
namespace Go.Proofs.Ytipbijcmpbefpaa.Book
open Go.ChangeShapes Go.WideShapes Go.ChangeAt Go.RowKit
open Go.Proofs.Ytipbijcmpbefpaa.Aid Go.Proofs.Ytipbijcmpbefpaa.Lst
set_option maxRecDepth 100000
set_option linter.unusedVariables false

theorem wmk_any (x : Sx) (vb : Nat) (w : World) :
    Calls Try.prog 91 #[.slice x.a x.n x.c, .pointer (some ⟨vb, 0, none⟩)] w fun e w' => e = .returned (.func (.func 92) #[] #[.pointer (some ⟨w.heap.size, 0, none⟩), .pointer (some ⟨vb, 0, none⟩)]) ∧ w' = w.alloc (.cells #[.slice x.a x.n x.c] 23) := by
  have hmf : ∀ (fn : Fn) (first cap : Array Value) (w : World), (Instr.makeFunc fn first cap).run Try.prog w = .ok (.func fn first cap) w := fun _ _ _ _ => rfl
  go_enter Try.func91, Try.ntmps91
  go_wp2_with (fail)
  go_ret
  exact ⟨rfl, rfl⟩

theorem LB.later {lb : Nat} {x : Sx} {w w1 : World} (h : LB lb x w) (hb : Below w.heap.size w w1) : LB lb x w1 :=
  ⟨(hb.cell (p := ⟨lb, 0, none⟩) (World.block_lt_of_cell? w _ h.b)).trans h.b, h.a.later hb⟩
theorem BB.later {bb : Nat} {b : Bx} {w w1 : World} (h : BB bb b w) (hb : Below w.heap.size w w1) : BB bb b w1 :=
  ⟨range_below hb h.r (by obtain ⟨q, -⟩ := nine h.r; exact World.block_lt_of_cell? w _ q), h.a.later hb⟩

/- What the making of the visitor rests on. -/
structure WS (w0 : World) (b : Bx) (vs : Value) (w : World) : Prop where
  e : BB w0.heap.size b w
  v : w.cell? ⟨w0.heap.size + 1, 0, none⟩ = some vs
  t : ∃ c0 c1 c2 c3 c4 c5 c6 c7, Ck w (w0.heap.size + 1 + 1) [c0, c1, c2, c3, c4, c5, c6, c7]
  b : Below w0.heap.size w0 w
  z : w0.heap.size + 3 ≤ w.heap.size
theorem WS.later {w0 w w1 : World} {b : Bx} {vs : Value} (h : WS w0 b vs w) (hb : Below w.heap.size w w1) : WS w0 b vs w1 :=
  ⟨h.e.later hb, (hb.cell (p := ⟨w0.heap.size + 1, 0, none⟩) (by have := h.z; simp; omega)).trans h.v, by obtain ⟨c0, c1, c2, c3, c4, c5, c6, c7, ht⟩ := h.t; exact ⟨c0, c1, c2, c3, c4, c5, c6, c7, ht.below hb (by have := h.z; omega)⟩, h.b.trans (hb.mono h.b.size), Nat.le_trans h.z hb.size⟩
theorem WS.drew {w0 w : World} {b : Bx} {vs : Value} (h : WS w0 b vs w) : WS w0 b vs w.drew := ⟨⟨h.e.r, h.e.a⟩, h.v, h.t, ⟨h.b.os, h.b.tape, h.b.output, h.b.size, h.b.block⟩, h.z⟩
theorem lb_new (x : Sx) (w : World) (t : TypeId) (h : x.At w) : LB w.heap.size x (w.alloc (.cells #[.slice x.a x.n x.c] t)) :=
  ⟨by have := range_lit #[.slice x.a x.n x.c] (heap1_0 w (.cells #[.slice x.a x.n x.c] t)) 0 _ rfl; exact this, h.later (below1 _ _)⟩
theorem there8 {w : World} {k : Nat} {c0 c1 c2 c3 c4 c5 c6 c7 : Value} (h : Ck w k [c0, c1, c2, c3, c4, c5, c6, c7]) : w.there k 0 8 := fun j hj => by
  have hl : j < [c0, c1, c2, c3, c4, c5, c6, c7].length := hj
  have := h j _ (List.getElem?_eq_getElem hl)
  rw [Nat.zero_add, this.1]
  exact ⟨rfl, this.2⟩
theorem put8 {w : World} {k : Nat} {c0 c1 c2 c3 c4 c5 c6 c7 : Value} (h : Ck w k [c0, c1, c2, c3, c4, c5, c6, c7]) (v0 v1 v2 v3 v4 v5 v6 v7 : Value) : Ck ((((((((w.setCell ⟨k, 0, none⟩ v0).setCell ⟨k, 1, none⟩ v1).setCell ⟨k, 2, none⟩ v2).setCell ⟨k, 3, none⟩ v3).setCell ⟨k, 4, none⟩ v4).setCell ⟨k, 5, none⟩ v5).setCell ⟨k, 6, none⟩ v6).setCell ⟨k, 7, none⟩ v7) k [v0, v1, v2, v3, v4, v5, v6, v7] ∧ Only k (k + 1) w ((((((((w.setCell ⟨k, 0, none⟩ v0).setCell ⟨k, 1, none⟩ v1).setCell ⟨k, 2, none⟩ v2).setCell ⟨k, 3, none⟩ v3).setCell ⟨k, 4, none⟩ v4).setCell ⟨k, 5, none⟩ v5).setCell ⟨k, 6, none⟩ v6).setCell ⟨k, 7, none⟩ v7) :=
  ⟨((((((((h.set 0 v0).set 1 v1).set 2 v2).set 3 v3).set 4 v4).set 5 v5).set 6 v6).set 7 v7),
   (((((((((Only.refl k (k + 1) w).setCell k 0 (Nat.le_refl _) (by omega) v0).setCell k 1 (Nat.le_refl _) (by omega) v1).setCell k 2 (Nat.le_refl _) (by omega) v2).setCell k 3 (Nat.le_refl _) (by omega) v3).setCell k 4 (Nat.le_refl _) (by omega) v4).setCell k 5 (Nat.le_refl _) (by omega) v5).setCell k 6 (Nat.le_refl _) (by omega) v6).setCell k 7 (Nat.le_refl _) (by omega) v7)⟩

set_option maxHeartbeats 8000000 in
theorem writer_any (b : Bx) (lk : Sx) (va : Option Addr) (vn vc : Nat) (w : World) (h : b.At w) (hk : lk.At w) :
    Calls Try.prog 52 #[.agg b.cells.toArray, .slice lk.a lk.n lk.c, .slice va vn vc] w fun e w' => ∃ l1 l2 l3, e = .returned (.agg #[Value.nilFunc, .func (.func 93) #[] #[.pointer (some ⟨w.heap.size, 0, none⟩), .pointer (some ⟨w.heap.size + 1, 0, none⟩)], Value.nilFunc, .func (.func 94) #[] #[.pointer (some ⟨w.heap.size, 0, none⟩), .pointer (some ⟨w.heap.size + 1, 0, none⟩)], .func (.func 92) #[] #[.pointer (some ⟨l1, 0, none⟩), .pointer (some ⟨w.heap.size + 1, 0, none⟩)], .func (.func 92) #[] #[.pointer (some ⟨l2, 0, none⟩), .pointer (some ⟨w.heap.size + 1, 0, none⟩)], .func (.func 92) #[] #[.pointer (some ⟨l3, 0, none⟩), .pointer (some ⟨w.heap.size + 1, 0, none⟩)], Value.nilFunc]) ∧ BB w.heap.size b w' ∧ w'.cell? ⟨w.heap.size + 1, 0, none⟩ = some (.slice va vn vc) ∧ LB l1 b.p w' ∧ LB l2 b.o w' ∧ LB l3 lk w' ∧ w.heap.size ≤ l1 ∧ w.heap.size ≤ l2 ∧ w.heap.size ≤ l3 ∧ Below w.heap.size w w' := by
  have hmf : ∀ (fn : Fn) (first cap : Array Value) (w : World), (Instr.makeFunc fn first cap).run Try.prog w = .ok (.func fn first cap) w := fun _ _ _ _ => rfl
  have S0 : WS w b (.slice va vn vc) (((w.alloc (.cells #[.int .i64 b.s, .slice b.p.a b.p.n b.p.c, .slice b.h0.a b.h0.n b.h0.c, .slice b.h1.a b.h1.n b.h1.c, .slice b.h2.a b.h2.n b.h2.c, .slice b.h3.a b.h3.n b.h3.c, .slice b.o.a b.o.n b.o.c, .slice b.i.a b.i.n b.i.c, .slice b.e.a b.e.n b.e.c] 26)).alloc (.cells #[.slice va vn vc] 23)).alloc (.cells #[Value.nilFunc, Value.nilFunc, Value.nilFunc, Value.nilFunc, Value.nilFunc, Value.nilFunc, Value.nilFunc, Value.nilFunc] 69)) := ⟨⟨range_lit #[.int .i64 b.s, .slice b.p.a b.p.n b.p.c, .slice b.h0.a b.h0.n b.h0.c, .slice b.h1.a b.h1.n b.h1.c, .slice b.h2.a b.h2.n b.h2.c, .slice b.h3.a b.h3.n b.h3.c, .slice b.o.a b.o.n b.o.c, .slice b.i.a b.i.n b.i.c, .slice b.e.a b.e.n b.e.c] (heap3_0 w _ _ _), h.later (below3 _ _ _ _)⟩, by have := range_lit #[.slice va vn vc] (heap3_1 w (.cells #[.int .i64 b.s, .slice b.p.a b.p.n b.p.c, .slice b.h0.a b.h0.n b.h0.c, .slice b.h1.a b.h1.n b.h1.c, .slice b.h2.a b.h2.n b.h2.c, .slice b.h3.a b.h3.n b.h3.c, .slice b.o.a b.o.n b.o.c, .slice b.i.a b.i.n b.i.c, .slice b.e.a b.e.n b.e.c] 26) (.cells #[.slice va vn vc] 23) (.cells #[Value.nilFunc, Value.nilFunc, Value.nilFunc, Value.nilFunc, Value.nilFunc, Value.nilFunc, Value.nilFunc, Value.nilFunc] 69)) 0 _ rfl; exact this, ⟨_, _, _, _, _, _, _, _, ck_lit #[Value.nilFunc, Value.nilFunc, Value.nilFunc, Value.nilFunc, Value.nilFunc, Value.nilFunc, Value.nilFunc, Value.nilFunc] (heap3_2 w _ _ _)⟩, below3 _ _ _ _, by simp⟩
  have K0 := hk.later (below3 w (.cells #[.int .i64 b.s, .slice b.p.a b.p.n b.p.c, .slice b.h0.a b.h0.n b.h0.c, .slice b.h1.a b.h1.n b.h1.c, .slice b.h2.a b.h2.n b.h2.c, .slice b.h3.a b.h3.n b.h3.c, .slice b.o.a b.o.n b.o.c, .slice b.i.a b.i.n b.i.c, .slice b.e.a b.e.n b.e.c] 26) (.cells #[.slice va vn vc] 23) (.cells #[Value.nilFunc, Value.nilFunc, Value.nilFunc, Value.nilFunc, Value.nilFunc, Value.nilFunc, Value.nilFunc, Value.nilFunc] 69))
  simp only [Bx.cells]
  go_enter Try.func52, Try.ntmps52
  go_wp2_with (fail)
  have HK : Hid (lk.At _) := K0
  have HK0 : Hid (lk.At w) := hk
  clear K0 hk
  generalize ((w.alloc (.cells #[.int .i64 b.s, .slice b.p.a b.p.n b.p.c, .slice b.h0.a b.h0.n b.h0.c, .slice b.h1.a b.h1.n b.h1.c, .slice b.h2.a b.h2.n b.h2.c, .slice b.h3.a b.h3.n b.h3.c, .slice b.o.a b.o.n b.o.c, .slice b.i.a b.i.n b.i.c, .slice b.e.a b.e.n b.e.c] 26)).alloc (.cells #[.slice va vn vc] 23)).alloc (.cells #[Value.nilFunc, Value.nilFunc, Value.nilFunc, Value.nilFunc, Value.nilFunc, Value.nilFunc, Value.nilFunc, Value.nilFunc] 69) = W at S0 HK ⊢
  have S1 : (fun w' : World => WS w b (.slice va vn vc) w' ∧ lk.At w') W.drew := ⟨S0.drew, HK.out⟩
  clear S0 HK
  refine wp_region_held_drew (S := fun w' : World => WS w b (.slice va vn vc) w' ∧ lk.At w') (by kernel_rfl) S1 (fun hS => ?_)
  clear S1
  refine takeB (i := 0) (v := .func (.func 93) #[] #[.pointer (some ⟨w.heap.size, 0, none⟩), .pointer (some ⟨w.heap.size + 1, 0, none⟩)]) (d := some 9) rfl rfl (by kernel_rfl) (by kernel_rfl) (by kernel_rfl) (fun _ _ _ h => h) (Or.inl ⟨by rfl, fun w' hw => ?_⟩) (by assumption) ?_
  · clear hw; go_simp
  simp only [Act.put, List.setIfInBounds_toArray, List.set_cons_zero, List.set_cons_succ]
  refine takeB (i := 1) (v := .func (.func 94) #[] #[.pointer (some ⟨w.heap.size, 0, none⟩), .pointer (some ⟨w.heap.size + 1, 0, none⟩)]) (d := some 10) rfl rfl (by kernel_rfl) (by kernel_rfl) (by kernel_rfl) (fun _ _ _ h => h) (Or.inl ⟨by rfl, fun w' hw => ?_⟩) (by assumption) ?_
  · clear hw; go_simp
  simp only [Act.put, List.setIfInBounds_toArray, List.set_cons_zero, List.set_cons_succ]
  refine takeB (i := 2) (v := .func (.func 91) #[] #[.pointer (some ⟨w.heap.size + 1, 0, none⟩)]) (d := some 11) rfl rfl (by kernel_rfl) (by kernel_rfl) (by kernel_rfl) (fun _ _ _ h => h) (Or.inl ⟨by rfl, fun w' hw => ?_⟩) (by assumption) ?_
  · clear hw; go_simp
  simp only [Act.put, List.setIfInBounds_toArray, List.set_cons_zero, List.set_cons_succ]
  refine takeB (i := 3) (v := .pointer (some ⟨w.heap.size, 1, none⟩)) (d := some 12) rfl rfl (by kernel_rfl) (by kernel_rfl) (by kernel_rfl) (fun _ _ _ h => h) (Or.inl ⟨by rfl, fun w' hw => ?_⟩) (by assumption) ?_
  · clear hw; go_simp
  simp only [Act.put, List.setIfInBounds_toArray, List.set_cons_zero, List.set_cons_succ]
  refine takeB (i := 4) (v := .slice b.p.a b.p.n b.p.c) (d := some 13) rfl rfl (by kernel_rfl) (by kernel_rfl) (by kernel_rfl) (fun _ _ _ h => h) (Or.inl ⟨by rfl, fun w' hw => ?_⟩) (by assumption) ?_
  · have q := hw.1.e.r 1 _ rfl; simp only [Nat.zero_add] at q; clear hw; go_simp
  simp only [Act.put, List.setIfInBounds_toArray, List.set_cons_zero, List.set_cons_succ]
  refine takeB (i := 6) (v := .func (.func 91) #[] #[.pointer (some ⟨w.heap.size + 1, 0, none⟩)]) (d := some 15) rfl rfl (by kernel_rfl) (by kernel_rfl) (by kernel_rfl) (fun _ _ _ h => h) (Or.inl ⟨by rfl, fun w' hw => ?_⟩) (by assumption) ?_
  · clear hw; go_simp
  simp only [Act.put, List.setIfInBounds_toArray, List.set_cons_zero, List.set_cons_succ]
  refine takeB (i := 7) (v := .pointer (some ⟨w.heap.size, 6, none⟩)) (d := some 16) rfl rfl (by kernel_rfl) (by kernel_rfl) (by kernel_rfl) (fun _ _ _ h => h) (Or.inl ⟨by rfl, fun w' hw => ?_⟩) (by assumption) ?_
  · clear hw; go_simp
  simp only [Act.put, List.setIfInBounds_toArray, List.set_cons_zero, List.set_cons_succ]
  refine takeB (i := 8) (v := .slice b.o.a b.o.n b.o.c) (d := some 17) rfl rfl (by kernel_rfl) (by kernel_rfl) (by kernel_rfl) (fun _ _ _ h => h) (Or.inl ⟨by rfl, fun w' hw => ?_⟩) (by assumption) ?_
  · have q := hw.1.e.r 6 _ rfl; simp only [Nat.zero_add] at q; clear hw; go_simp
  simp only [Act.put, List.setIfInBounds_toArray, List.set_cons_zero, List.set_cons_succ]
  refine takeB (i := 10) (v := .func (.func 91) #[] #[.pointer (some ⟨w.heap.size + 1, 0, none⟩)]) (d := some 19) rfl rfl (by kernel_rfl) (by kernel_rfl) (by kernel_rfl) (fun _ _ _ h => h) (Or.inl ⟨by rfl, fun w' hw => ?_⟩) (by assumption) ?_
  · clear hw; go_simp
  simp only [Act.put, List.setIfInBounds_toArray, List.set_cons_zero, List.set_cons_succ]
  refine takeB (i := 11) (v := .slice lk.a lk.n lk.c) (d := some 20) rfl rfl (by kernel_rfl) (by kernel_rfl) (by kernel_rfl) (fun _ _ _ h => h) (Or.inl ⟨by rfl, fun w' hw => ?_⟩) (by assumption) ?_
  · clear hw; go_simp
  simp only [Act.put, List.setIfInBounds_toArray, List.set_cons_zero, List.set_cons_succ]
  generalize World.drew _ = V at hS ⊢
  refine wpAnyH_ready (rs := [5]) (by kernel_rfl) (by simp) ?_
  refine AllReadyH.cons rfl (fun K hK => ?_) AllReadyH.nil
  have HS : Hid (_ ∧ _) := hS
  clear hS
  go_simp
  refine (wmk_any b.p (w.heap.size + 1) V).mono ?_
  rintro e V1 ⟨rfl, rfl⟩
  have L5 := lb_new b.p V 23 (HS.out.1.e.a b.p (by simp [Bx.lists]))
  have z5 := HS.out.1.z
  have S2 : (fun w' : World => WS w b (.slice va vn vc) w' ∧ lk.At w') (V.alloc (.cells #[.slice b.p.a b.p.n b.p.c] 23)) := ⟨HS.out.1.later (below1 _ _), HS.out.2.later (below1 _ _)⟩
  have LL5 : Hid (LB _ _ _) := L5
  have SS : Hid (_ ∧ _) := S2
  clear L5 HS S2
  go_simp
  refine hK.out _ _ SS.out (fun hS => ?_)
  clear hK K SS
  obtain ⟨l1, e1⟩ : ∃ l, l = V.heap.size := ⟨_, rfl⟩
  rw [← e1] at LL5 z5 ⊢
  clear e1
  generalize V.alloc _ = V1 at LL5 hS ⊢
  refine wpAnyH_ready (rs := [9]) (by kernel_rfl) (by simp) ?_
  refine AllReadyH.cons rfl (fun K hK => ?_) AllReadyH.nil
  have HS : Hid (_ ∧ _) := hS
  clear hS
  go_simp
  refine (wmk_any b.o (w.heap.size + 1) V1).mono ?_
  rintro e V2 ⟨rfl, rfl⟩
  have L9 := lb_new b.o V1 23 (HS.out.1.e.a b.o (by simp [Bx.lists]))
  have z9 := HS.out.1.z
  have S2 : (fun w' : World => WS w b (.slice va vn vc) w' ∧ lk.At w') (V1.alloc (.cells #[.slice b.o.a b.o.n b.o.c] 23)) := ⟨HS.out.1.later (below1 _ _), HS.out.2.later (below1 _ _)⟩
  have LL9 : Hid (LB _ _ _) := L9
  have SS : Hid (_ ∧ _) := S2
  clear L9 HS S2
  go_simp
  refine hK.out _ _ SS.out (fun hS => ?_)
  clear hK K SS
  replace LL5 : Hid (LB l1 b.p _) := LL5.out.later (below1 V1 (.cells #[.slice b.o.a b.o.n b.o.c] 23))
  obtain ⟨l2, e2⟩ : ∃ l, l = V1.heap.size := ⟨_, rfl⟩
  rw [← e2] at LL9 z9 ⊢
  clear e2
  generalize V1.alloc _ = V2 at LL5 LL9 hS ⊢
  refine wpAnyH_ready (rs := [12]) (by kernel_rfl) (by simp) ?_
  refine AllReadyH.cons rfl (fun K hK => ?_) AllReadyH.nil
  have HS : Hid (_ ∧ _) := hS
  clear hS
  go_simp
  refine (wmk_any lk (w.heap.size + 1) V2).mono ?_
  rintro e V3 ⟨rfl, rfl⟩
  have L12 := lb_new lk V2 23 HS.out.2
  have z12 := HS.out.1.z
  have S2 : (fun w' : World => WS w b (.slice va vn vc) w' ∧ lk.At w') (V2.alloc (.cells #[.slice lk.a lk.n lk.c] 23)) := ⟨HS.out.1.later (below1 _ _), HS.out.2.later (below1 _ _)⟩
  have LL12 : Hid (LB _ _ _) := L12
  have SS : Hid (_ ∧ _) := S2
  clear L12 HS S2
  go_simp
  refine hK.out _ _ SS.out (fun hS => ?_)
  clear hK K SS
  replace LL5 : Hid (LB l1 b.p _) := LL5.out.later (below1 V2 (.cells #[.slice lk.a lk.n lk.c] 23))
  replace LL9 : Hid (LB l2 b.o _) := LL9.out.later (below1 V2 (.cells #[.slice lk.a lk.n lk.c] 23))
  obtain ⟨l3, e3⟩ : ∃ l, l = V2.heap.size := ⟨_, rfl⟩
  rw [← e3] at LL12 z12 ⊢
  clear e3
  generalize V2.alloc _ = V3 at LL5 LL9 LL12 hS ⊢
  refine takeB (i := 13) (v := .agg #[Value.nilFunc, .func (.func 93) #[] #[.pointer (some ⟨w.heap.size, 0, none⟩), .pointer (some ⟨w.heap.size + 1, 0, none⟩)], Value.nilFunc, .func (.func 94) #[] #[.pointer (some ⟨w.heap.size, 0, none⟩), .pointer (some ⟨w.heap.size + 1, 0, none⟩)], .func (.func 92) #[] #[.pointer (some ⟨l1, 0, none⟩), .pointer (some ⟨w.heap.size + 1, 0, none⟩)], .func (.func 92) #[] #[.pointer (some ⟨l2, 0, none⟩), .pointer (some ⟨w.heap.size + 1, 0, none⟩)], .func (.func 92) #[] #[.pointer (some ⟨l3, 0, none⟩), .pointer (some ⟨w.heap.size + 1, 0, none⟩)], Value.nilFunc]) (d := some 22) rfl rfl (by kernel_rfl) (by kernel_rfl) (by kernel_rfl) (fun _ _ _ h => h) (Or.inl ⟨by rfl, fun w' hw => ?_⟩) (by assumption) ?_
  · clear hw; go_simp
  simp only [Act.put, List.setIfInBounds_toArray, List.set_cons_zero, List.set_cons_succ]
  obtain ⟨c0, c1, c2, c3, c4, c5, c6, c7, ht⟩ := hS.1.t
  obtain ⟨ck, oy⟩ := put8 ht (Value.nilFunc) (.func (.func 93) #[] #[.pointer (some ⟨w.heap.size, 0, none⟩), .pointer (some ⟨w.heap.size + 1, 0, none⟩)]) (Value.nilFunc) (.func (.func 94) #[] #[.pointer (some ⟨w.heap.size, 0, none⟩), .pointer (some ⟨w.heap.size + 1, 0, none⟩)]) (.func (.func 92) #[] #[.pointer (some ⟨l1, 0, none⟩), .pointer (some ⟨w.heap.size + 1, 0, none⟩)]) (.func (.func 92) #[] #[.pointer (some ⟨l2, 0, none⟩), .pointer (some ⟨w.heap.size + 1, 0, none⟩)]) (.func (.func 92) #[] #[.pointer (some ⟨l3, 0, none⟩), .pointer (some ⟨w.heap.size + 1, 0, none⟩)]) (Value.nilFunc)
  have p0 := ht 0 _ rfl
  have p1 := ht 1 _ rfl
  have p2 := ht 2 _ rfl
  have p3 := ht 3 _ rfl
  have p4 := ht 4 _ rfl
  have p5 := ht 5 _ rfl
  have p6 := ht 6 _ rfl
  have p7 := ht 7 _ rfl
  have HS : Hid (_ ∧ _) := hS
  have CK : Hid (Ck _ _ _) := ck
  have OY : Hid (Only _ _ _ _) := oy
  have TH : Hid (V3.there (w.heap.size + 1 + 1) 0 8) := there8 ht
  clear hS ck oy ht
  refine wpAnyH_ready (rs := [14]) (by kernel_rfl) (by simp) ?_
  refine AllReadyH.cons rfl (fun K hK => ?_) AllReadyH.nil
  go_simp
  clear p0 p1 p2 p3 p4 p5 p6 p7
  have zz := HS.out.1.z
  have zo := OY.out.size
  have B9 : Below w.heap.size w _ := HS.out.1.b.trans (OY.out.below (by omega) |>.mono (by omega))
  have bR : ∀ j v, b.cells[j]? = some v → _ := fun j v hv => (OY.out.cell (o := 0 + j) (by omega) (.inl (by omega))).trans (HS.out.1.e.r j v hv)
  have W9 : WS w b (.slice va vn vc) _ := ⟨⟨bR, h.later B9⟩, (OY.out.cell (by omega) (.inl (by omega))).trans HS.out.1.v, ⟨_, _, _, _, _, _, _, _, CK.out⟩, B9, Nat.le_trans zz zo⟩
  have K9 : lk.At _ := HK0.out.later B9
  have M1 : LB l1 b.p _ := ⟨(OY.out.cell (World.block_lt_of_cell? _ _ LL5.out.b) (.inr (by omega))).trans LL5.out.b, (h b.p (by simp [Bx.lists])).later B9⟩
  have M2 : LB l2 b.o _ := ⟨(OY.out.cell (World.block_lt_of_cell? _ _ LL9.out.b) (.inr (by omega))).trans LL9.out.b, (h b.o (by simp [Bx.lists])).later B9⟩
  have M3 : LB l3 lk _ := ⟨(OY.out.cell (World.block_lt_of_cell? _ _ LL12.out.b) (.inr (by omega))).trans LL12.out.b, K9⟩
  refine hK.out _ _ ⟨W9, K9⟩ (fun hS => ?_)
  clear hK K hS
  have HM1 : Hid (LB l1 b.p _) := M1
  have HM2 : Hid (LB l2 b.o _) := M2
  have HM3 : Hid (LB l3 lk _) := M3
  have HW9 : Hid (WS w b (.slice va vn vc) _) := W9
  clear M1 M2 M3 W9 K9 B9 bR
  refine wpAnyH_done (by kernel_rfl) ?_ _
  go_wp2_with (fail)
  exact bodyPost_ret (results_cell_mid rfl _ _ (w.heap.size + 1 + 1) 0 _ _ rfl CK.out.range Try.underlying69 rfl (by kernel_rfl)) rfl ⟨l1, l2, l3, rfl, HW9.out.e, HW9.out.v, HM1.out, HM2.out, HM3.out, by omega, by omega, by omega, HW9.out.b⟩

end Go.Proofs.Ytipbijcmpbefpaa.Book

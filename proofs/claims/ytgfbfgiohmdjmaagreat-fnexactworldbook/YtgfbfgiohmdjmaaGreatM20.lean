import Derived.Test.YtgfbfgiohmdjmaaGreatLay2
import Derived.Laws.EntriesVeiled
import Derived.Test.YtgfbfgiohmdjmaaGreatM19
import Derived.Test.YtgfbfgiohmdjmaaGreatM17

/- The visitor that writes the values of a book. -/
namespace Go.Proofs.YtgfbfgiohmdjmaaGreat.Book
open Go.ChangeShapes Go.WideShapes Go.ChangeAt Go.RowKit
open Aid Lst
set_option maxRecDepth 100000
set_option linter.unusedVariables false

theorem wmk_any (x : Sx) (vb : Nat) (w : World) :
    Calls Tryz.prog 133 #[.slice x.a x.n x.c, .pointer (some ⟨vb, 0, none⟩)] w fun e w' => e = .returned (.func (.func 134) #[] #[.pointer (some ⟨w.heap.size, 0, none⟩), .pointer (some ⟨vb, 0, none⟩)]) ∧ w' = w.alloc (.cells #[.slice x.a x.n x.c] 27) := by
  have hmf : ∀ (fn : Fn) (first cap : Array Value) (w : World), (Instr.makeFunc fn first cap).run Tryz.prog w = .ok (.func fn first cap) w := fun _ _ _ _ => rfl
  go_enter Tryz.func133, Tryz.ntmps133
  go_wp2_with (fail)
  go_ret
  exact ⟨rfl, rfl⟩

theorem LB.later {lb : Nat} {x : Sx} {w w1 : World} (h : LB lb x w) (hb : Below w.heap.size w w1) : LB lb x w1 :=
  ⟨(hb.cell (p := ⟨lb, 0, none⟩) (World.block_lt_of_cell? w _ h.b)).trans h.b, h.a.later hb⟩
theorem BB.later {bb : Nat} {b : Bx} {w w1 : World} (h : BB bb b w) (hb : Below w.heap.size w w1) : BB bb b w1 :=
  ⟨range_below hb h.r (by obtain ⟨q, -⟩ := nine h.r; exact World.block_lt_of_cell? w _ q), h.a.later hb⟩

/- What the making of the visitor rests on. -/
structure WS (w0 : World) (b : Bx) (vs : Value) (w : World) : Prop where
  e : BB w0.heap.size b w
  v : w.cell? ⟨w0.heap.size + 1, 0, none⟩ = some vs
  t : ∃ c0 c1 c2 c3 c4 c5 c6 c7, Ck w (w0.heap.size + 1 + 1) [c0, c1, c2, c3, c4, c5, c6, c7]
  b : Below w0.heap.size w0 w
  z : w0.heap.size + 3 ≤ w.heap.size
theorem WS.later {w0 w w1 : World} {b : Bx} {vs : Value} (h : WS w0 b vs w) (hb : Below w.heap.size w w1) : WS w0 b vs w1 :=
  ⟨h.e.later hb, (hb.cell (p := ⟨w0.heap.size + 1, 0, none⟩) (by have := h.z; simp; omega)).trans h.v, by obtain ⟨c0, c1, c2, c3, c4, c5, c6, c7, ht⟩ := h.t; exact ⟨c0, c1, c2, c3, c4, c5, c6, c7, ht.below hb (by have := h.z; omega)⟩, h.b.trans (hb.mono h.b.size), Nat.le_trans h.z hb.size⟩
theorem WS.drew {w0 w : World} {b : Bx} {vs : Value} (h : WS w0 b vs w) : WS w0 b vs w.drew := ⟨⟨h.e.r, h.e.a⟩, h.v, h.t, ⟨h.b.os, h.b.tape, h.b.output, h.b.size, h.b.block⟩, h.z⟩
theorem lb_new (x : Sx) (w : World) (t : TypeId) (h : x.At w) : LB w.heap.size x (w.alloc (.cells #[.slice x.a x.n x.c] t)) :=
  ⟨by have := range_lit #[.slice x.a x.n x.c] (heap1_0 w (.cells #[.slice x.a x.n x.c] t)) 0 _ rfl; exact this, h.later (below1 _ _)⟩
theorem there8 {w : World} {k : Nat} {c0 c1 c2 c3 c4 c5 c6 c7 : Value} (h : Ck w k [c0, c1, c2, c3, c4, c5, c6, c7]) : w.there k 0 8 := fun j hj => by
  have hl : j < [c0, c1, c2, c3, c4, c5, c6, c7].length := hj
  have := h j _ (List.getElem?_eq_getElem hl)
  rw [Nat.zero_add, this.1]
  exact ⟨rfl, this.2⟩
theorem put8 {w : World} {k : Nat} {c0 c1 c2 c3 c4 c5 c6 c7 : Value} (h : Ck w k [c0, c1, c2, c3, c4, c5, c6, c7]) (v0 v1 v2 v3 v4 v5 v6 v7 : Value) : Ck ((((((((w.setCell ⟨k, 0, none⟩ v0).setCell ⟨k, 1, none⟩ v1).setCell ⟨k, 2, none⟩ v2).setCell ⟨k, 3, none⟩ v3).setCell ⟨k, 4, none⟩ v4).setCell ⟨k, 5, none⟩ v5).setCell ⟨k, 6, none⟩ v6).setCell ⟨k, 7, none⟩ v7) k [v0, v1, v2, v3, v4, v5, v6, v7] ∧ Only k (k + 1) w ((((((((w.setCell ⟨k, 0, none⟩ v0).setCell ⟨k, 1, none⟩ v1).setCell ⟨k, 2, none⟩ v2).setCell ⟨k, 3, none⟩ v3).setCell ⟨k, 4, none⟩ v4).setCell ⟨k, 5, none⟩ v5).setCell ⟨k, 6, none⟩ v6).setCell ⟨k, 7, none⟩ v7) :=
  ⟨((((((((h.set 0 v0).set 1 v1).set 2 v2).set 3 v3).set 4 v4).set 5 v5).set 6 v6).set 7 v7),
   (((((((((Only.refl k (k + 1) w).setCell k 0 (Nat.le_refl _) (by omega) v0).setCell k 1 (Nat.le_refl _) (by omega) v1).setCell k 2 (Nat.le_refl _) (by omega) v2).setCell k 3 (Nat.le_refl _) (by omega) v3).setCell k 4 (Nat.le_refl _) (by omega) v4).setCell k 5 (Nat.le_refl _) (by omega) v5).setCell k 6 (Nat.le_refl _) (by omega) v6).setCell k 7 (Nat.le_refl _) (by omega) v7)⟩

set_option maxHeartbeats 8000000 in
theorem writer_any (b : Bx) (lk : Sx) (va : Option Addr) (vn vc : Nat) (w : World) (h : b.At w) (hk : lk.At w) :
    Calls Tryz.prog 107 #[.agg b.cells.toArray, .slice lk.a lk.n lk.c, .slice va vn vc] w fun e w' => ∃ l1 l2 l3, e = .returned (.agg #[Value.nilFunc, .func (.func 135) #[] #[.pointer (some ⟨w.heap.size, 0, none⟩), .pointer (some ⟨w.heap.size + 1, 0, none⟩)], Value.nilFunc, .func (.func 136) #[] #[.pointer (some ⟨w.heap.size, 0, none⟩), .pointer (some ⟨w.heap.size + 1, 0, none⟩)], .func (.func 134) #[] #[.pointer (some ⟨l1, 0, none⟩), .pointer (some ⟨w.heap.size + 1, 0, none⟩)], .func (.func 134) #[] #[.pointer (some ⟨l2, 0, none⟩), .pointer (some ⟨w.heap.size + 1, 0, none⟩)], .func (.func 134) #[] #[.pointer (some ⟨l3, 0, none⟩), .pointer (some ⟨w.heap.size + 1, 0, none⟩)], Value.nilFunc]) ∧ BB w.heap.size b w' ∧ w'.cell? ⟨w.heap.size + 1, 0, none⟩ = some (.slice va vn vc) ∧ LB l1 b.p w' ∧ LB l2 b.o w' ∧ LB l3 lk w' ∧ w.heap.size ≤ l1 ∧ w.heap.size ≤ l2 ∧ w.heap.size ≤ l3 ∧ Below w.heap.size w w' := by
  have hmf : ∀ (fn : Fn) (first cap : Array Value) (w : World), (Instr.makeFunc fn first cap).run Tryz.prog w = .ok (.func fn first cap) w := fun _ _ _ _ => rfl
  have S0 : WS w b (.slice va vn vc) (((w.alloc (.cells #[.int .i64 b.s, .slice b.p.a b.p.n b.p.c, .slice b.h0.a b.h0.n b.h0.c, .slice b.h1.a b.h1.n b.h1.c, .slice b.h2.a b.h2.n b.h2.c, .slice b.h3.a b.h3.n b.h3.c, .slice b.o.a b.o.n b.o.c, .slice b.i.a b.i.n b.i.c, .slice b.e.a b.e.n b.e.c] 30)).alloc (.cells #[.slice va vn vc] 27)).alloc (.cells #[Value.nilFunc, Value.nilFunc, Value.nilFunc, Value.nilFunc, Value.nilFunc, Value.nilFunc, Value.nilFunc, Value.nilFunc] 96)) := ⟨⟨range_lit #[.int .i64 b.s, .slice b.p.a b.p.n b.p.c, .slice b.h0.a b.h0.n b.h0.c, .slice b.h1.a b.h1.n b.h1.c, .slice b.h2.a b.h2.n b.h2.c, .slice b.h3.a b.h3.n b.h3.c, .slice b.o.a b.o.n b.o.c, .slice b.i.a b.i.n b.i.c, .slice b.e.a b.e.n b.e.c] (heap3_0 w _ _ _), h.later (below3 _ _ _ _)⟩, by have := range_lit #[.slice va vn vc] (heap3_1 w (.cells #[.int .i64 b.s, .slice b.p.a b.p.n b.p.c, .slice b.h0.a b.h0.n b.h0.c, .slice b.h1.a b.h1.n b.h1.c, .slice b.h2.a b.h2.n b.h2.c, .slice b.h3.a b.h3.n b.h3.c, .slice b.o.a b.o.n b.o.c, .slice b.i.a b.i.n b.i.c, .slice b.e.a b.e.n b.e.c] 30) (.cells #[.slice va vn vc] 27) (.cells #[Value.nilFunc, Value.nilFunc, Value.nilFunc, Value.nilFunc, Value.nilFunc, Value.nilFunc, Value.nilFunc, Value.nilFunc] 96)) 0 _ rfl; exact this, ⟨_, _, _, _, _, _, _, _, ck_lit #[Value.nilFunc, Value.nilFunc, Value.nilFunc, Value.nilFunc, Value.nilFunc, Value.nilFunc, Value.nilFunc, Value.nilFunc] (heap3_2 w _ _ _)⟩, below3 _ _ _ _, by simp⟩
  have K0 := hk.later (below3 w (.cells #[.int .i64 b.s, .slice b.p.a b.p.n b.p.c, .slice b.h0.a b.h0.n b.h0.c, .slice b.h1.a b.h1.n b.h1.c, .slice b.h2.a b.h2.n b.h2.c, .slice b.h3.a b.h3.n b.h3.c, .slice b.o.a b.o.n b.o.c, .slice b.i.a b.i.n b.i.c, .slice b.e.a b.e.n b.e.c] 30) (.cells #[.slice va vn vc] 27) (.cells #[Value.nilFunc, Value.nilFunc, Value.nilFunc, Value.nilFunc, Value.nilFunc, Value.nilFunc, Value.nilFunc, Value.nilFunc] 96))
  simp only [Bx.cells]
  go_enter Tryz.func107, Tryz.ntmps107
  go_wp2_with (fail)
  have HK : Hid (lk.At _) := K0
  have HK0 : Hid (lk.At w) := hk
  clear K0 hk
  generalize ((w.alloc (.cells #[.int .i64 b.s, .slice b.p.a b.p.n b.p.c, .slice b.h0.a b.h0.n b.h0.c, .slice b.h1.a b.h1.n b.h1.c, .slice b.h2.a b.h2.n b.h2.c, .slice b.h3.a b.h3.n b.h3.c, .slice b.o.a b.o.n b.o.c, .slice b.i.a b.i.n b.i.c, .slice b.e.a b.e.n b.e.c] 30)).alloc (.cells #[.slice va vn vc] 27)).alloc (.cells #[Value.nilFunc, Value.nilFunc, Value.nilFunc, Value.nilFunc, Value.nilFunc, Value.nilFunc, Value.nilFunc, Value.nilFunc] 96) = W at S0 HK ⊢
  have S1 : (fun w' : World => WS w b (.slice va vn vc) w' ∧ lk.At w') W.drew := ⟨S0.drew, HK.out⟩
  clear S0 HK
  refine wp_region_held_drew (S := fun w' : World => WS w b (.slice va vn vc) w' ∧ lk.At w') (by kernel_rfl) S1 (fun hS => ?_)
  clear S1
  refine tI 0 (v := .func (.func 135) #[] #[.pointer (some ⟨w.heap.size, 0, none⟩), .pointer (some ⟨w.heap.size + 1, 0, none⟩)]) (d := some 9) rfl rfl (fun w' hw => ?_) (by assumption) ?_
  · clear hw; go_simp
  simp only [Act.put, s1, s2, s3]
  refine tI 1 (v := .func (.func 136) #[] #[.pointer (some ⟨w.heap.size, 0, none⟩), .pointer (some ⟨w.heap.size + 1, 0, none⟩)]) (d := some 10) rfl rfl (fun w' hw => ?_) (by assumption) ?_
  · clear hw; go_simp
  simp only [Act.put, s1, s2, s3]
  refine tI 2 (v := .func (.func 133) #[] #[.pointer (some ⟨w.heap.size + 1, 0, none⟩)]) (d := some 11) rfl rfl (fun w' hw => ?_) (by assumption) ?_
  · clear hw; go_simp
  simp only [Act.put, s1, s2, s3]
  refine tI 3 (v := .pointer (some ⟨w.heap.size, 1, none⟩)) (d := some 12) rfl rfl (fun w' hw => ?_) (by assumption) ?_
  · clear hw; go_simp
  simp only [Act.put, s1, s2, s3]
  refine tI 4 (v := .slice b.p.a b.p.n b.p.c) (d := some 13) rfl rfl (fun w' hw => ?_) (by assumption) ?_
  · have q := hw.1.e.r 1 _ rfl; simp only [Nat.zero_add] at q; clear hw; go_simp
  simp only [Act.put, s1, s2, s3]
  refine tI 6 (v := .func (.func 133) #[] #[.pointer (some ⟨w.heap.size + 1, 0, none⟩)]) (d := some 15) rfl rfl (fun w' hw => ?_) (by assumption) ?_
  · clear hw; go_simp
  simp only [Act.put, s1, s2, s3]
  refine tI 7 (v := .pointer (some ⟨w.heap.size, 6, none⟩)) (d := some 16) rfl rfl (fun w' hw => ?_) (by assumption) ?_
  · clear hw; go_simp
  simp only [Act.put, s1, s2, s3]
  refine tI 8 (v := .slice b.o.a b.o.n b.o.c) (d := some 17) rfl rfl (fun w' hw => ?_) (by assumption) ?_
  · have q := hw.1.e.r 6 _ rfl; simp only [Nat.zero_add] at q; clear hw; go_simp
  simp only [Act.put, s1, s2, s3]
  refine tI 10 (v := .func (.func 133) #[] #[.pointer (some ⟨w.heap.size + 1, 0, none⟩)]) (d := some 19) rfl rfl (fun w' hw => ?_) (by assumption) ?_
  · clear hw; go_simp
  simp only [Act.put, s1, s2, s3]
  refine tI 11 (v := .slice lk.a lk.n lk.c) (d := some 20) rfl rfl (fun w' hw => ?_) (by assumption) ?_
  · clear hw; go_simp
  simp only [Act.put, s1, s2, s3]
  generalize World.drew _ = V at hS ⊢
  refine r1 5 rfl (fun K hK => ?_)
  have HS : Hid (_ ∧ _) := hS
  clear hS
  go_simp
  refine (wmk_any b.p (w.heap.size + 1) V).mono ?_
  rintro e V1 ⟨rfl, rfl⟩
  have L5 := lb_new b.p V 27 (HS.out.1.e.a b.p (by simp [Bx.lists]))
  have z5 := HS.out.1.z
  have S2 : (fun w' : World => WS w b (.slice va vn vc) w' ∧ lk.At w') (V.alloc (.cells #[.slice b.p.a b.p.n b.p.c] 27)) := ⟨HS.out.1.later (below1 _ _), HS.out.2.later (below1 _ _)⟩
  have LL5 : Hid (LB _ _ _) := L5
  have SS : Hid (_ ∧ _) := S2
  clear L5 HS S2
  go_simp
  refine hK.out _ _ SS.out (fun hS => ?_)
  clear hK K SS
  obtain ⟨l1, e1⟩ : ∃ l, l = V.heap.size := ⟨_, rfl⟩
  rw [← e1] at LL5 z5 ⊢
  clear e1
  generalize V.alloc _ = V1 at LL5 hS ⊢
  refine r1 9 rfl (fun K hK => ?_)
  have HS : Hid (_ ∧ _) := hS
  clear hS
  go_simp
  refine (wmk_any b.o (w.heap.size + 1) V1).mono ?_
  rintro e V2 ⟨rfl, rfl⟩
  have L9 := lb_new b.o V1 27 (HS.out.1.e.a b.o (by simp [Bx.lists]))
  have z9 := HS.out.1.z
  have S2 : (fun w' : World => WS w b (.slice va vn vc) w' ∧ lk.At w') (V1.alloc (.cells #[.slice b.o.a b.o.n b.o.c] 27)) := ⟨HS.out.1.later (below1 _ _), HS.out.2.later (below1 _ _)⟩
  have LL9 : Hid (LB _ _ _) := L9
  have SS : Hid (_ ∧ _) := S2
  clear L9 HS S2
  go_simp
  refine hK.out _ _ SS.out (fun hS => ?_)
  clear hK K SS
  replace LL5 : Hid (LB l1 b.p _) := LL5.out.later (below1 V1 (.cells #[.slice b.o.a b.o.n b.o.c] 27))
  obtain ⟨l2, e2⟩ : ∃ l, l = V1.heap.size := ⟨_, rfl⟩
  rw [← e2] at LL9 z9 ⊢
  clear e2
  generalize V1.alloc _ = V2 at LL5 LL9 hS ⊢
  refine r1 12 rfl (fun K hK => ?_)
  have HS : Hid (_ ∧ _) := hS
  clear hS
  go_simp
  refine (wmk_any lk (w.heap.size + 1) V2).mono ?_
  rintro e V3 ⟨rfl, rfl⟩
  have L12 := lb_new lk V2 27 HS.out.2
  have z12 := HS.out.1.z
  have S2 : (fun w' : World => WS w b (.slice va vn vc) w' ∧ lk.At w') (V2.alloc (.cells #[.slice lk.a lk.n lk.c] 27)) := ⟨HS.out.1.later (below1 _ _), HS.out.2.later (below1 _ _)⟩
  have LL12 : Hid (LB _ _ _) := L12
  have SS : Hid (_ ∧ _) := S2
  clear L12 HS S2
  go_simp
  refine hK.out _ _ SS.out (fun hS => ?_)
  clear hK K SS
  replace LL5 : Hid (LB l1 b.p _) := LL5.out.later (below1 V2 (.cells #[.slice lk.a lk.n lk.c] 27))
  replace LL9 : Hid (LB l2 b.o _) := LL9.out.later (below1 V2 (.cells #[.slice lk.a lk.n lk.c] 27))
  obtain ⟨l3, e3⟩ : ∃ l, l = V2.heap.size := ⟨_, rfl⟩
  rw [← e3] at LL12 z12 ⊢
  clear e3
  generalize V2.alloc _ = V3 at LL5 LL9 LL12 hS ⊢
  refine tI 13 (v := .agg #[Value.nilFunc, .func (.func 135) #[] #[.pointer (some ⟨w.heap.size, 0, none⟩), .pointer (some ⟨w.heap.size + 1, 0, none⟩)], Value.nilFunc, .func (.func 136) #[] #[.pointer (some ⟨w.heap.size, 0, none⟩), .pointer (some ⟨w.heap.size + 1, 0, none⟩)], .func (.func 134) #[] #[.pointer (some ⟨l1, 0, none⟩), .pointer (some ⟨w.heap.size + 1, 0, none⟩)], .func (.func 134) #[] #[.pointer (some ⟨l2, 0, none⟩), .pointer (some ⟨w.heap.size + 1, 0, none⟩)], .func (.func 134) #[] #[.pointer (some ⟨l3, 0, none⟩), .pointer (some ⟨w.heap.size + 1, 0, none⟩)], Value.nilFunc]) (d := some 22) rfl rfl (fun w' hw => ?_) (by assumption) ?_
  · clear hw; go_simp
  simp only [Act.put, s1, s2, s3]
  obtain ⟨c0, c1, c2, c3, c4, c5, c6, c7, ht⟩ := hS.1.t
  obtain ⟨ck, oy⟩ := put8 ht (Value.nilFunc) (.func (.func 135) #[] #[.pointer (some ⟨w.heap.size, 0, none⟩), .pointer (some ⟨w.heap.size + 1, 0, none⟩)]) (Value.nilFunc) (.func (.func 136) #[] #[.pointer (some ⟨w.heap.size, 0, none⟩), .pointer (some ⟨w.heap.size + 1, 0, none⟩)]) (.func (.func 134) #[] #[.pointer (some ⟨l1, 0, none⟩), .pointer (some ⟨w.heap.size + 1, 0, none⟩)]) (.func (.func 134) #[] #[.pointer (some ⟨l2, 0, none⟩), .pointer (some ⟨w.heap.size + 1, 0, none⟩)]) (.func (.func 134) #[] #[.pointer (some ⟨l3, 0, none⟩), .pointer (some ⟨w.heap.size + 1, 0, none⟩)]) (Value.nilFunc)
  have p0 := ht 0 _ rfl
  have p1 := ht 1 _ rfl
  have p2 := ht 2 _ rfl
  have p3 := ht 3 _ rfl
  have p4 := ht 4 _ rfl
  have p5 := ht 5 _ rfl
  have p6 := ht 6 _ rfl
  have p7 := ht 7 _ rfl
  have HS : Hid (_ ∧ _) := hS
  have CK : Hid (Ck _ _ _) := ck
  have OY : Hid (Only _ _ _ _) := oy
  have TH : Hid (V3.there (w.heap.size + 1 + 1) 0 8) := there8 ht
  clear hS ck oy ht
  refine r1 14 rfl (fun K hK => ?_)
  go_simp
  clear p0 p1 p2 p3 p4 p5 p6 p7
  have zz := HS.out.1.z
  have zo := OY.out.size
  have B9 : Below w.heap.size w _ := HS.out.1.b.trans (OY.out.below (by omega) |>.mono (by omega))
  have bR : ∀ j v, b.cells[j]? = some v → _ := fun j v hv => (OY.out.cell (o := 0 + j) (by omega) (.inl (by omega))).trans (HS.out.1.e.r j v hv)
  have W9 : WS w b (.slice va vn vc) _ := ⟨⟨bR, h.later B9⟩, (OY.out.cell (by omega) (.inl (by omega))).trans HS.out.1.v, ⟨_, _, _, _, _, _, _, _, CK.out⟩, B9, Nat.le_trans zz zo⟩
  have K9 : lk.At _ := HK0.out.later B9
  have M1 : LB l1 b.p _ := ⟨(OY.out.cell (World.block_lt_of_cell? _ _ LL5.out.b) (.inr (by omega))).trans LL5.out.b, (h b.p (by simp [Bx.lists])).later B9⟩
  have M2 : LB l2 b.o _ := ⟨(OY.out.cell (World.block_lt_of_cell? _ _ LL9.out.b) (.inr (by omega))).trans LL9.out.b, (h b.o (by simp [Bx.lists])).later B9⟩
  have M3 : LB l3 lk _ := ⟨(OY.out.cell (World.block_lt_of_cell? _ _ LL12.out.b) (.inr (by omega))).trans LL12.out.b, K9⟩
  refine hK.out _ _ ⟨W9, K9⟩ (fun hS => ?_)
  clear hK K hS
  have HM1 : Hid (LB l1 b.p _) := M1
  have HM2 : Hid (LB l2 b.o _) := M2
  have HM3 : Hid (LB l3 lk _) := M3
  have HW9 : Hid (WS w b (.slice va vn vc) _) := W9
  clear M1 M2 M3 W9 K9 B9 bR
  refine wpAnyH_done (by kernel_rfl) ?_ _
  go_wp2_with (fail)
  exact bodyPost_ret (results_cell_mid rfl _ _ (w.heap.size + 1 + 1) 0 _ _ rfl CK.out.range Tryz.underlying96 rfl (by kernel_rfl)) rfl ⟨l1, l2, l3, rfl, HW9.out.e, HW9.out.v, HM1.out, HM2.out, HM3.out, by omega, by omega, by omega, HW9.out.b⟩

/- The links, so many of a list having been laid; so many lists. -/
def lk1 (x : Sx) (g : Nat → Int) : Nat → Nat → Int
  | 0 => g
  | i + 1 => upd (lk1 x g i) (x.f i).toNat (nx x (i + 1))
def lkK (b : Bx) : Nat → Nat → Int
  | 0 => fun _ => 0
  | k + 1 => lk1 (b.hd k) (lkK b k) (b.hd k).n
theorem lk1_m (a c : Option Addr) (n q q' : Nat) (f g : Nat → Int) : ∀ i, lk1 ⟨a, n, q, f⟩ g i = lk1 ⟨c, n, q', f⟩ g i
  | 0 => rfl
  | i + 1 => by simp only [lk1]; rw [lk1_m a c n q q' f g i]; rfl

set_option maxHeartbeats 8000000 in
theorem links_any (b : Bx) (w : World) (h : b.At w) (n3 : b.o.n ≤ 48) (hd : ∀ k, k < 4 → (b.hd k).n ≤ b.o.n ∧ ∀ i, i < (b.hd k).n → 0 ≤ (b.hd k).f i ∧ (b.hd k).f i < b.o.n) :
    Calls Tryz.prog 108 #[.agg b.cells.toArray] w fun e w' => e = .returned (.slice (some ⟨w.heap.size + 1, 0, none⟩) b.o.n b.o.n) ∧ Fk .i64 b.o.n w' (w.heap.size + 1) (lkK b 4) ∧ Below w.heap.size w w' ∧ w.heap.size + 1 < w'.heap.size := by
  have HD : Hid (∀ k, k < 4 → (b.hd k).n ≤ b.o.n ∧ ∀ i, i < (b.hd k).n → 0 ≤ (b.hd k).f i ∧ (b.hd k).f i < b.o.n) := hd
  clear hd
  obtain ⟨ix0, ix1, ix2, ix3⟩ := ix4 b.h0.a b.h1.a b.h2.a b.h3.a b.h0.n b.h0.c b.h1.n b.h1.c b.h2.n b.h2.c b.h3.n b.h3.c
  have E : Ent w b (w.alloc (.cells #[.int .i64 b.s, .slice b.p.a b.p.n b.p.c, .slice b.h0.a b.h0.n b.h0.c, .slice b.h1.a b.h1.n b.h1.c, .slice b.h2.a b.h2.n b.h2.c, .slice b.h3.a b.h3.n b.h3.c, .slice b.o.a b.o.n b.o.c, .slice b.i.a b.i.n b.i.c, .slice b.e.a b.e.n b.e.c] 30)) := Ent.start h 30
  have hmk := fun w => run_make_row' (P := Tryz.prog) 27 3 (.int .i64 0) 8 Tryz.underlying27 infoInt rfl .i64 .i64 b.o.n (by omega) (by omega) w
  have f0 := fk_made .i64 (w.alloc (.cells #[.int .i64 b.s, .slice b.p.a b.p.n b.p.c, .slice b.h0.a b.h0.n b.h0.c, .slice b.h1.a b.h1.n b.h1.c, .slice b.h2.a b.h2.n b.h2.c, .slice b.h3.a b.h3.n b.h3.c, .slice b.o.a b.o.n b.o.c, .slice b.i.a b.i.n b.i.c, .slice b.e.a b.e.n b.e.c] 30)) b.o.n 3
  have E0 := E.later (below1 _ (.cells (madeCells #[.int .i64 0] b.o.n) 3))
  have z0 : (w.alloc (.cells #[.int .i64 b.s, .slice b.p.a b.p.n b.p.c, .slice b.h0.a b.h0.n b.h0.c, .slice b.h1.a b.h1.n b.h1.c, .slice b.h2.a b.h2.n b.h2.c, .slice b.h3.a b.h3.n b.h3.c, .slice b.o.a b.o.n b.o.c, .slice b.i.a b.i.n b.i.c, .slice b.e.a b.e.n b.e.c] 30)).heap.size = w.heap.size + 1 := by simp
  have y0 : w.heap.size + 1 < ((w.alloc (.cells #[.int .i64 b.s, .slice b.p.a b.p.n b.p.c, .slice b.h0.a b.h0.n b.h0.c, .slice b.h1.a b.h1.n b.h1.c, .slice b.h2.a b.h2.n b.h2.c, .slice b.h3.a b.h3.n b.h3.c, .slice b.o.a b.o.n b.o.c, .slice b.i.a b.i.n b.i.c, .slice b.e.a b.e.n b.e.c] 30)).alloc (.cells (madeCells #[.int .i64 0] b.o.n) 3)).heap.size := by simp
  rw [z0] at f0
  clear z0 E
  simp only [Bx.cells]
  go_enter Tryz.func108, Tryz.ntmps108
  go_wp2_with (fail)
  generalize ((w.alloc (.cells #[.int .i64 b.s, .slice b.p.a b.p.n b.p.c, .slice b.h0.a b.h0.n b.h0.c, .slice b.h1.a b.h1.n b.h1.c, .slice b.h2.a b.h2.n b.h2.c, .slice b.h3.a b.h3.n b.h3.c, .slice b.o.a b.o.n b.o.c, .slice b.i.a b.i.n b.i.c, .slice b.e.a b.e.n b.e.c] 30)).alloc (.cells (madeCells #[.int .i64 0] b.o.n) 3)) = W0 at f0 E0 y0 ⊢
  have F0 : Hid (Fk .i64 b.o.n W0 (w.heap.size + 1) (lkK b 0)) := f0
  clear f0 hmk
  refine wp_loop_rounds 5 ?_
  rw [rounds_succ]
  obtain ⟨u0, u1, u2, u3, u4, u5, u6, u7, u8⟩ := nine E0.r
  go_wp2_with (fail)
  clear u0 u1 u2 u3 u4 u5 u6 u7 u8
  have nk0 : b.h0.n ≤ b.o.n := (HD.out 0 (by omega)).1
  go_loopw [19] (fun i wr => ∃ j : Nat, j ≤ b.h0.n ∧ i = .int .i64 j ∧ Ent w b wr ∧ Fk .i64 b.o.n wr (w.heap.size + 1) (lk1 b.h0 (lkK b 0) j) ∧ w.heap.size + 1 < wr.heap.size) (fun i _ => b.h0.n - (intOf i).toNat)
  case atStart => exact ⟨0, Nat.zero_le _, rfl, E0, F0.out, y0⟩
  case' round =>
  obtain ⟨j, hj, rfl, G, FF, yy⟩ := hrel
  have HF : Hid (Fk .i64 b.o.n wr (w.heap.size + 1) (lk1 b.h0 (lkK b 0) j)) := FF
  clear E0 F0 y0 FF
  by_cases lt : (j : Int) < b.h0.n
  · obtain ⟨k1, o1, ex, hx⟩ := G.a.h0.cells (by omega)
    have c1 := hx j (by omega)
    have EX : Hid (b.h0.a = some ⟨k1, o1, none⟩) := ex
    obtain ⟨v0, v1⟩ := (HD.out 0 (by omega)).2 j (show j < b.h0.n by omega)
    have v0' : 0 ≤ b.h0.f j := v0
    have v1' : b.h0.f j < b.o.n := v1
    obtain ⟨m, hm⟩ := Int.eq_ofNat_of_zero_le v0'
    have HM : Hid (b.h0.f j = m) := hm
    rw [hm] at c1
    have m1 : (m : Int) < b.o.n := by omega
    have mn : m < b.o.n := by omega
    rw [ex]
    clear hx ex v0 v1 v0' v1' hm
    go_wp2_with (fail)
    rw [← EX.out]
    have na := next_any b.h0 (j + 1) wr (G.a b.h0 (by simp [Bx.lists])) (by omega) (fun i hi => by have := (HD.out 0 (by omega)).2 i hi; exact ⟨this.1, by have := this.2; have e : (b.hd 0) = b.h0 := rfl; rw [e] at this; omega⟩)
    push_cast at na
    refine na.mono ?_
    rintro e wr ⟨rfl, rfl⟩
    have cm := HF.out m mn
    clear na c1
    go_wp2_with (fail)
    rw [← EX.out]
    go_roundw
    case rel =>
      refine ⟨j + 1, by omega, by go_num, G.set h _ _ (by omega) _, ?_, by simpa [World.setCell] using yy⟩
      simp only [lk1]
      rw [HM.out]
      exact HF.out.set m _ _ (by simp [upd]) (fun i _ hne => by simp [upd, hne])
    case measure => simp [intOf]; omega
  have ej : j = b.h0.n := by omega
  have nlt : ¬ j < b.h0.n := by omega
  have F1 : Hid (Fk .i64 b.o.n wr (w.heap.size + 1) (lkK b 1)) := by
    unfold Hid
    rw [ej] at HF
    exact HF.out
  have E1 := G
  have y1 := yy
  clear ej HF G lt hj yy
  go_wp2_with (fail)
  clear nlt
  rw [rounds_succ]
  obtain ⟨u0, u1, u2, u3, u4, u5, u6, u7, u8⟩ := nine E1.r
  go_wp2_with (fail)
  clear u0 u1 u2 u3 u4 u5 u6 u7 u8
  have nk1 : b.h1.n ≤ b.o.n := (HD.out 1 (by omega)).1
  go_loopw [19] (fun i wr => ∃ j : Nat, j ≤ b.h1.n ∧ i = .int .i64 j ∧ Ent w b wr ∧ Fk .i64 b.o.n wr (w.heap.size + 1) (lk1 b.h1 (lkK b 1) j) ∧ w.heap.size + 1 < wr.heap.size) (fun i _ => b.h1.n - (intOf i).toNat)
  case atStart => exact ⟨0, Nat.zero_le _, rfl, E1, F1.out, y1⟩
  case' round =>
  obtain ⟨j, hj, rfl, G, FF, yy⟩ := hrel
  have HF : Hid (Fk .i64 b.o.n wr (w.heap.size + 1) (lk1 b.h1 (lkK b 1) j)) := FF
  clear E1 F1 y1 FF
  by_cases lt : (j : Int) < b.h1.n
  · obtain ⟨k1, o1, ex, hx⟩ := G.a.h1.cells (by omega)
    have c1 := hx j (by omega)
    have EX : Hid (b.h1.a = some ⟨k1, o1, none⟩) := ex
    obtain ⟨v0, v1⟩ := (HD.out 1 (by omega)).2 j (show j < b.h1.n by omega)
    have v0' : 0 ≤ b.h1.f j := v0
    have v1' : b.h1.f j < b.o.n := v1
    obtain ⟨m, hm⟩ := Int.eq_ofNat_of_zero_le v0'
    have HM : Hid (b.h1.f j = m) := hm
    rw [hm] at c1
    have m1 : (m : Int) < b.o.n := by omega
    have mn : m < b.o.n := by omega
    rw [ex]
    clear hx ex v0 v1 v0' v1' hm
    go_wp2_with (fail)
    rw [← EX.out]
    have na := next_any b.h1 (j + 1) wr (G.a b.h1 (by simp [Bx.lists])) (by omega) (fun i hi => by have := (HD.out 1 (by omega)).2 i hi; exact ⟨this.1, by have := this.2; have e : (b.hd 1) = b.h1 := rfl; rw [e] at this; omega⟩)
    push_cast at na
    refine na.mono ?_
    rintro e wr ⟨rfl, rfl⟩
    have cm := HF.out m mn
    clear na c1
    go_wp2_with (fail)
    rw [← EX.out]
    go_roundw
    case rel =>
      refine ⟨j + 1, by omega, by go_num, G.set h _ _ (by omega) _, ?_, by simpa [World.setCell] using yy⟩
      simp only [lk1]
      rw [HM.out]
      exact HF.out.set m _ _ (by simp [upd]) (fun i _ hne => by simp [upd, hne])
    case measure => simp [intOf]; omega
  have ej : j = b.h1.n := by omega
  have nlt : ¬ j < b.h1.n := by omega
  have F2 : Hid (Fk .i64 b.o.n wr (w.heap.size + 1) (lkK b 2)) := by
    unfold Hid
    rw [ej] at HF
    exact HF.out
  have E2 := G
  have y2 := yy
  clear ej HF G lt hj yy
  go_wp2_with (fail)
  clear nlt
  rw [rounds_succ]
  obtain ⟨u0, u1, u2, u3, u4, u5, u6, u7, u8⟩ := nine E2.r
  go_wp2_with (fail)
  clear u0 u1 u2 u3 u4 u5 u6 u7 u8
  have nk2 : b.h2.n ≤ b.o.n := (HD.out 2 (by omega)).1
  go_loopw [19] (fun i wr => ∃ j : Nat, j ≤ b.h2.n ∧ i = .int .i64 j ∧ Ent w b wr ∧ Fk .i64 b.o.n wr (w.heap.size + 1) (lk1 b.h2 (lkK b 2) j) ∧ w.heap.size + 1 < wr.heap.size) (fun i _ => b.h2.n - (intOf i).toNat)
  case atStart => exact ⟨0, Nat.zero_le _, rfl, E2, F2.out, y2⟩
  case' round =>
  obtain ⟨j, hj, rfl, G, FF, yy⟩ := hrel
  have HF : Hid (Fk .i64 b.o.n wr (w.heap.size + 1) (lk1 b.h2 (lkK b 2) j)) := FF
  clear E2 F2 y2 FF
  by_cases lt : (j : Int) < b.h2.n
  · obtain ⟨k1, o1, ex, hx⟩ := G.a.h2.cells (by omega)
    have c1 := hx j (by omega)
    have EX : Hid (b.h2.a = some ⟨k1, o1, none⟩) := ex
    obtain ⟨v0, v1⟩ := (HD.out 2 (by omega)).2 j (show j < b.h2.n by omega)
    have v0' : 0 ≤ b.h2.f j := v0
    have v1' : b.h2.f j < b.o.n := v1
    obtain ⟨m, hm⟩ := Int.eq_ofNat_of_zero_le v0'
    have HM : Hid (b.h2.f j = m) := hm
    rw [hm] at c1
    have m1 : (m : Int) < b.o.n := by omega
    have mn : m < b.o.n := by omega
    rw [ex]
    clear hx ex v0 v1 v0' v1' hm
    go_wp2_with (fail)
    rw [← EX.out]
    have na := next_any b.h2 (j + 1) wr (G.a b.h2 (by simp [Bx.lists])) (by omega) (fun i hi => by have := (HD.out 2 (by omega)).2 i hi; exact ⟨this.1, by have := this.2; have e : (b.hd 2) = b.h2 := rfl; rw [e] at this; omega⟩)
    push_cast at na
    refine na.mono ?_
    rintro e wr ⟨rfl, rfl⟩
    have cm := HF.out m mn
    clear na c1
    go_wp2_with (fail)
    rw [← EX.out]
    go_roundw
    case rel =>
      refine ⟨j + 1, by omega, by go_num, G.set h _ _ (by omega) _, ?_, by simpa [World.setCell] using yy⟩
      simp only [lk1]
      rw [HM.out]
      exact HF.out.set m _ _ (by simp [upd]) (fun i _ hne => by simp [upd, hne])
    case measure => simp [intOf]; omega
  have ej : j = b.h2.n := by omega
  have nlt : ¬ j < b.h2.n := by omega
  have F3 : Hid (Fk .i64 b.o.n wr (w.heap.size + 1) (lkK b 3)) := by
    unfold Hid
    rw [ej] at HF
    exact HF.out
  have E3 := G
  have y3 := yy
  clear ej HF G lt hj yy
  go_wp2_with (fail)
  clear nlt
  rw [rounds_succ]
  obtain ⟨u0, u1, u2, u3, u4, u5, u6, u7, u8⟩ := nine E3.r
  go_wp2_with (fail)
  clear u0 u1 u2 u3 u4 u5 u6 u7 u8
  have nk3 : b.h3.n ≤ b.o.n := (HD.out 3 (by omega)).1
  go_loopw [19] (fun i wr => ∃ j : Nat, j ≤ b.h3.n ∧ i = .int .i64 j ∧ Ent w b wr ∧ Fk .i64 b.o.n wr (w.heap.size + 1) (lk1 b.h3 (lkK b 3) j) ∧ w.heap.size + 1 < wr.heap.size) (fun i _ => b.h3.n - (intOf i).toNat)
  case atStart => exact ⟨0, Nat.zero_le _, rfl, E3, F3.out, y3⟩
  case' round =>
  obtain ⟨j, hj, rfl, G, FF, yy⟩ := hrel
  have HF : Hid (Fk .i64 b.o.n wr (w.heap.size + 1) (lk1 b.h3 (lkK b 3) j)) := FF
  clear E3 F3 y3 FF
  by_cases lt : (j : Int) < b.h3.n
  · obtain ⟨k1, o1, ex, hx⟩ := G.a.h3.cells (by omega)
    have c1 := hx j (by omega)
    have EX : Hid (b.h3.a = some ⟨k1, o1, none⟩) := ex
    obtain ⟨v0, v1⟩ := (HD.out 3 (by omega)).2 j (show j < b.h3.n by omega)
    have v0' : 0 ≤ b.h3.f j := v0
    have v1' : b.h3.f j < b.o.n := v1
    obtain ⟨m, hm⟩ := Int.eq_ofNat_of_zero_le v0'
    have HM : Hid (b.h3.f j = m) := hm
    rw [hm] at c1
    have m1 : (m : Int) < b.o.n := by omega
    have mn : m < b.o.n := by omega
    rw [ex]
    clear hx ex v0 v1 v0' v1' hm
    go_wp2_with (fail)
    rw [← EX.out]
    have na := next_any b.h3 (j + 1) wr (G.a b.h3 (by simp [Bx.lists])) (by omega) (fun i hi => by have := (HD.out 3 (by omega)).2 i hi; exact ⟨this.1, by have := this.2; have e : (b.hd 3) = b.h3 := rfl; rw [e] at this; omega⟩)
    push_cast at na
    refine na.mono ?_
    rintro e wr ⟨rfl, rfl⟩
    have cm := HF.out m mn
    clear na c1
    go_wp2_with (fail)
    rw [← EX.out]
    go_roundw
    case rel =>
      refine ⟨j + 1, by omega, by go_num, G.set h _ _ (by omega) _, ?_, by simpa [World.setCell] using yy⟩
      simp only [lk1]
      rw [HM.out]
      exact HF.out.set m _ _ (by simp [upd]) (fun i _ hne => by simp [upd, hne])
    case measure => simp [intOf]; omega
  have ej : j = b.h3.n := by omega
  have nlt : ¬ j < b.h3.n := by omega
  have F4 : Hid (Fk .i64 b.o.n wr (w.heap.size + 1) (lkK b 4)) := by
    unfold Hid
    rw [ej] at HF
    exact HF.out
  have E4 := G
  have y4 := yy
  clear ej HF G lt hj yy
  go_wp2_with (fail)
  clear nlt
  rw [rounds_succ]
  go_wp2_with (fail)
  go_ret
  exact ⟨rfl, F4.out, E4.b, y4⟩

/- The value of each word ahead of the desks. -/
def layF (b : Bx) (s p : Nat) (j : Nat) : Int :=
  if j < 3 then 0 else if j < 3 + s then b.i.f (j - 3) + b.e.f (j - 3) * 4 else if j < 3 + s + s then 0 else if j < 3 + s + s + 4 then nx (b.hd (j - (3 + s + s))) 0 else
  if j < 3 + s + s + 4 + p then b.p.f (j - (3 + s + s + 4)) else if j < 3 + s + s + 4 + p + p * 8 then b.o.f (j - (3 + s + s + 4 + p)) else lkK b 4 (j - (3 + s + s + 4 + p + p * 8))
def cutv (b : Bx) (s p T : Nat) (j : Nat) : Int := if j < T then layF b s p j else 0
theorem cut_up {b : Bx} {s p T : Nat} {v : Int} (h : layF b s p T = v) : upd (cutv b s p T) T v = cutv b s p (T + 1) := by
  funext j
  unfold upd cutv
  by_cases e : j = T
  · subst e; rw [if_pos rfl, if_pos (by omega), h]
  · rw [if_neg e]
    by_cases g : j < T
    · rw [if_pos g, if_pos (by omega)]
    · rw [if_neg g, if_neg (by omega)]
theorem cut_beats {b : Bx} {s p : Nat} : cutv b s p (3 + s) = cutv b s p (3 + s + s) := by
  funext j
  unfold cutv
  by_cases g : j < 3 + s
  · rw [if_pos g, if_pos (by omega)]
  · rw [if_neg g]
    split
    · unfold layF
      rw [if_neg (by omega), if_neg g, if_pos (by assumption)]
    · rfl
theorem cut_zero {b : Bx} {s p : Nat} : cutv b s p 3 = fun _ => 0 := by
  funext j
  unfold cutv
  split
  · unfold layF; rw [if_pos (by assumption)]
  · rfl
theorem lay_reg {b : Bx} {s p n : Nat} (h : n < s) : layF b s p (3 + n) = b.i.f n + b.e.f n * 4 := by
  unfold layF; rw [if_neg (by omega), if_pos (by omega), show 3 + n - 3 = n by omega]
theorem lay_head {b : Bx} {s p n : Nat} (h : n < 4) : layF b s p (3 + s + s + n) = nx (b.hd n) 0 := by
  unfold layF; rw [if_neg (by omega), if_neg (by omega), if_neg (by omega), if_pos (by omega), show 3 + s + s + n - (3 + s + s) = n by omega]
theorem lay_page {b : Bx} {s p n : Nat} (h : n < p) : layF b s p (3 + s + s + 4 + n) = b.p.f n := by
  unfold layF; rw [if_neg (by omega), if_neg (by omega), if_neg (by omega), if_neg (by omega), if_pos (by omega), show 3 + s + s + 4 + n - (3 + s + s + 4) = n by omega]
theorem lay_tag {b : Bx} {s p n : Nat} (h : n < p * 8) : layF b s p (3 + s + s + 4 + p + n) = b.o.f n := by
  unfold layF; rw [if_neg (by omega), if_neg (by omega), if_neg (by omega), if_neg (by omega), if_neg (by omega), if_pos (by omega), show 3 + s + s + 4 + p + n - (3 + s + s + 4 + p) = n by omega]
theorem lay_link {b : Bx} {s p n : Nat} : layF b s p (3 + s + s + 4 + p + p * 8 + n) = lkK b 4 n := by
  unfold layF; rw [if_neg (by omega), if_neg (by omega), if_neg (by omega), if_neg (by omega), if_neg (by omega), if_neg (by omega), show 3 + s + s + 4 + p + p * 8 + n - (3 + s + s + 4 + p + p * 8) = n by omega]

theorem Sx.At.only {x : Sx} {w w1 : World} {vk : Nat} (h : x.At w) (ho : Only vk (vk + 1) w w1) (aw : ∀ k o, x.a = some ⟨k, o, none⟩ → 0 < x.n → k ≠ vk) : x.At w1 := by
  rcases h with h | ⟨k, o, e, h⟩
  · exact .inl h
  · exact .inr ⟨k, o, e, fun j hj => by
      have hc := h j hj
      have := aw k o e (by omega)
      rw [ho.cell (k := k) (o := o + j) (World.block_lt_of_cell? w _ hc) (by omega)]; exact hc⟩
theorem BB.only {bb vk : Nat} {b : Bx} {w w1 : World} (h : BB bb b w) (ho : Only vk (vk + 1) w w1) (aw : Away b vk) (hb : bb ≠ vk) : BB bb b w1 :=
  ⟨fun j v hv => by have hc := h.r j v hv; rw [ho.cell (k := bb) (o := 0 + j) (World.block_lt_of_cell? w _ hc) (by omega)]; exact hc, fun x hx => (h.a x hx).only ho (aw x hx)⟩
theorem LB.only {lb vk : Nat} {x : Sx} {w w1 : World} (h : LB lb x w) (ho : Only vk (vk + 1) w w1) (aw : ∀ k o, x.a = some ⟨k, o, none⟩ → 0 < x.n → k ≠ vk) (hb : lb ≠ vk) : LB lb x w1 :=
  ⟨by have hc := h.b; rw [ho.cell (k := lb) (o := 0) (World.block_lt_of_cell? w _ hc) (by omega)]; exact hc, h.a.only ho aw⟩

/- What holds while values are laid, all below T having been. -/
structure Lays (b : Bx) (lk : Sx) (s p bb vb vk l1 l2 l3 : Nat) (T : Nat) (w : World) : Prop where
  v : VB vb vk (3 + s + s + 4 + p + p * 8 + p * 8) (cutv b s p T) w
  e : BB bb b w
  x1 : LB l1 b.p w
  x2 : LB l2 b.o w
  x3 : LB l3 lk w
theorem Lays.later {b : Bx} {lk : Sx} {s p bb vb vk l1 l2 l3 T : Nat} {w w1 : World} (h : Lays b lk s p bb vb vk l1 l2 l3 T w) (hb : Below w.heap.size w w1) : Lays b lk s p bb vb vk l1 l2 l3 T w1 :=
  ⟨h.v.later hb, h.e.later hb, h.x1.later hb, h.x2.later hb, h.x3.later hb⟩
/- Where nothing lies in the values' own row. -/
structure Aways (b : Bx) (lk : Sx) (bb vb vk l1 l2 l3 : Nat) : Prop where
  a : Away b vk
  k : ∀ k o, lk.a = some ⟨k, o, none⟩ → 0 < lk.n → k ≠ vk
  bb : bb ≠ vk
  vb : vb ≠ vk
  l1 : l1 ≠ vk
  l2 : l2 ≠ vk
  l3 : l3 ≠ vk
theorem Lays.up {b : Bx} {lk : Sx} {s p bb vb vk l1 l2 l3 T : Nat} {w w1 : World} (h : Lays b lk s p bb vb vk l1 l2 l3 T w) (aw : Aways b lk bb vb vk l1 l2 l3) (ho : Only vk (vk + 1) w w1) {v : Int} (hv : layF b s p T = v) (hf : Fk .i64 (3 + s + s + 4 + p + p * 8 + p * 8) w1 vk (upd (cutv b s p T) T v)) : Lays b lk s p bb vb vk l1 l2 l3 (T + 1) w1 :=
  ⟨⟨by have hc := h.v.b; rw [ho.cell (k := vb) (o := 0) (World.block_lt_of_cell? w _ hc) (by have := aw.vb; omega)]; exact hc, by rw [← cut_up hv]; exact hf⟩, h.e.only ho aw.a aw.bb, h.x1.only ho (aw.a b.p (by simp [Bx.lists])) aw.l1, h.x2.only ho (aw.a b.o (by simp [Bx.lists])) aw.l2, h.x3.only ho aw.k aw.l3⟩

theorem sees_reg {b : Bx} {lk : Sx} {s p bb vb vk l1 l2 l3 : Nat} (ok : OkP b) (es : b.s = s) (ep : b.p.n = p) (aw : Aways b lk bb vb vk l1 l2 l3) :
    Sees (Lays b lk s p bb vb vk l1 l2 l3) vk (vk + 1) 135 #[.pointer (some ⟨bb, 0, none⟩), .pointer (some ⟨vb, 0, none⟩)] 3 s := fun n w hn _ hi => by
  have li := ok.1.1.2.2.1
  have le := ok.1.1.2.2.2.1
  have l4 := ok.1.1.2.1
  obtain ⟨i0, i1, p0, p1, -⟩ := ok.1.2.1 n (by omega)
  have := ok.nums
  exact (wreg_any bb vb vk _ n (3 + n) b _ w hi.e hi.v (by omega) (by omega) (by omega) (by omega) (by omega) (by omega) aw.bb aw.vb aw.a i0 i1 p0 p1).mono fun e w' ⟨he, hf, ho⟩ => ⟨he, hi.up aw ho (lay_reg hn) hf, ho⟩
theorem hd_small {b : Bx} (ok : OkP b) (k : Nat) (hk : k < 4) : (b.hd k).n ≤ b.o.n ∧ ∀ i, i < (b.hd k).n → 0 ≤ (b.hd k).f i ∧ (b.hd k).f i < b.o.n :=
  ⟨(ok.2.1 k hk).1, fun i hi => ⟨((ok.2.1 k hk).2 i hi).1, ((ok.2.1 k hk).2 i hi).2.1⟩⟩
theorem sees_head {b : Bx} {lk : Sx} {s p bb vb vk l1 l2 l3 : Nat} (ok : OkP b) (es : b.s = s) (ep : b.p.n = p) (aw : Aways b lk bb vb vk l1 l2 l3) :
    Sees (Lays b lk s p bb vb vk l1 l2 l3) vk (vk + 1) 136 #[.pointer (some ⟨bb, 0, none⟩), .pointer (some ⟨vb, 0, none⟩)] (3 + s + s) 4 := fun n w hn _ hi => by
  have l4 := ok.1.1.2.1
  have := ok.nums
  obtain ⟨h1, h2⟩ := hd_small ok n hn
  exact (whead_any bb vb vk _ n (3 + s + s + n) b _ w hi.e hi.v hn (by omega) (fun i hi => ⟨(h2 i hi).1, by have := (h2 i hi).2; omega⟩) (by omega) (by omega) aw.bb aw.vb aw.a).mono fun e w' ⟨he, hf, ho⟩ => ⟨he, hi.up aw ho (lay_head hn) hf, ho⟩
theorem sees_page {b : Bx} {lk : Sx} {s p bb vb vk l1 l2 l3 : Nat} (ok : OkP b) (es : b.s = s) (ep : b.p.n = p) (aw : Aways b lk bb vb vk l1 l2 l3) :
    Sees (Lays b lk s p bb vb vk l1 l2 l3) vk (vk + 1) 134 #[.pointer (some ⟨l1, 0, none⟩), .pointer (some ⟨vb, 0, none⟩)] (3 + s + s + 4) p := fun n w hn _ hi => by
  have l4 := ok.1.1.2.1
  have := ok.nums
  exact (wcopy_any l1 vb vk _ n (3 + s + s + 4 + n) b.p _ w hi.x1 hi.v (by omega) (by omega) (by omega) (by omega) aw.l1 aw.vb (fun k o e => aw.a b.p (by simp [Bx.lists]) k o e (by omega))).mono fun e w' ⟨he, hf, ho⟩ => ⟨he, hi.up aw ho (lay_page hn) hf, ho⟩
theorem sees_tag {b : Bx} {lk : Sx} {s p bb vb vk l1 l2 l3 : Nat} (ok : OkP b) (es : b.s = s) (ep : b.p.n = p) (aw : Aways b lk bb vb vk l1 l2 l3) :
    Sees (Lays b lk s p bb vb vk l1 l2 l3) vk (vk + 1) 134 #[.pointer (some ⟨l2, 0, none⟩), .pointer (some ⟨vb, 0, none⟩)] (3 + s + s + 4 + p) (p * 8) := fun n w hn _ hi => by
  have l4 := ok.1.1.2.1
  have := ok.nums
  exact (wcopy_any l2 vb vk _ n (3 + s + s + 4 + p + n) b.o _ w hi.x2 hi.v (by omega) (by omega) (by omega) (by omega) aw.l2 aw.vb (fun k o e => aw.a b.o (by simp [Bx.lists]) k o e (by omega))).mono fun e w' ⟨he, hf, ho⟩ => ⟨he, hi.up aw ho (lay_tag hn) hf, ho⟩
theorem sees_link {b : Bx} {lk : Sx} {s p bb vb vk l1 l2 l3 : Nat} (ok : OkP b) (es : b.s = s) (ep : b.p.n = p) (aw : Aways b lk bb vb vk l1 l2 l3) (hl : lk.n = b.o.n) (hf : lk.f = lkK b 4) :
    Sees (Lays b lk s p bb vb vk l1 l2 l3) vk (vk + 1) 134 #[.pointer (some ⟨l3, 0, none⟩), .pointer (some ⟨vb, 0, none⟩)] (3 + s + s + 4 + p + p * 8) (p * 8) := fun n w hn _ hi => by
  have l4 := ok.1.1.2.1
  have := ok.nums
  exact (wcopy_any l3 vb vk _ n (3 + s + s + 4 + p + p * 8 + n) lk _ w hi.x3 hi.v (by omega) (by omega) (by omega) (by omega) aw.l3 aw.vb (fun k o e => aw.k k o e (by omega))).mono fun e w' ⟨he, hg, ho⟩ => ⟨he, hi.up aw ho (by rw [hf]; exact lay_link) hg, ho⟩

end Go.Proofs.YtgfbfgiohmdjmaaGreat.Book

/- Of every two books, whether they are the same, held against the specification. Conditions: none. -/
import Derived.Test.YtoloaghjgheomaaLaw
import Derived.Test.YtoloaghjgheomaaSame
namespace Go.Proofs.Ytoloaghjgheomaa.Book
open Go.ChangeShapes Go.WideShapes Go.ChangeAt Go.RowKit
open Go.Proofs.Ytoloaghjgheomaa.Aid Go.Proofs.Ytoloaghjgheomaa.Lst

set_option maxRecDepth 100000 in
set_option maxHeartbeats 8000000 in
theorem law_same (b0 b1 : Bx) (w : World) (g0 : b0.Good w) (g1 : b1.Good w) :
    Calls Try.prog 6 #[.agg b0.cells.toArray, .agg b1.cells.toArray] w fun e w' => e = .returned (.bool true) ∧ Below w.heap.size w w' := by
  have n0 := g0.short
  have n1 := g1.short
  have T0 : St w [(w.heap.size + 1, b1.cells), (w.heap.size, b0.cells)] [b0, b1] ((w.alloc (.cells #[.int .i64 b0.s, .slice b0.p.a b0.p.n b0.p.c, .slice b0.h0.a b0.h0.n b0.h0.c, .slice b0.h1.a b0.h1.n b0.h1.c, .slice b0.h2.a b0.h2.n b0.h2.c, .slice b0.h3.a b0.h3.n b0.h3.c, .slice b0.o.a b0.o.n b0.o.c, .slice b0.i.a b0.i.n b0.i.c, .slice b0.e.a b0.e.n b0.e.c] 40)).alloc (.cells #[.int .i64 b1.s, .slice b1.p.a b1.p.n b1.p.c, .slice b1.h0.a b1.h0.n b1.h0.c, .slice b1.h1.a b1.h1.n b1.h1.c, .slice b1.h2.a b1.h2.n b1.h2.c, .slice b1.h3.a b1.h3.n b1.h3.c, .slice b1.o.a b1.o.n b1.o.c, .slice b1.i.a b1.i.n b1.i.c, .slice b1.e.a b1.e.n b1.e.c] 40)) := by
    have h := ((St.start (bs := [b0, b1]) (by simp; exact ⟨g0.at, g1.at⟩)).row #[.int .i64 b0.s, .slice b0.p.a b0.p.n b0.p.c, .slice b0.h0.a b0.h0.n b0.h0.c, .slice b0.h1.a b0.h1.n b0.h1.c, .slice b0.h2.a b0.h2.n b0.h2.c, .slice b0.h3.a b0.h3.n b0.h3.c, .slice b0.o.a b0.o.n b0.o.c, .slice b0.i.a b0.i.n b0.i.c, .slice b0.e.a b0.e.n b0.e.c] 40).row #[.int .i64 b1.s, .slice b1.p.a b1.p.n b1.p.c, .slice b1.h0.a b1.h0.n b1.h0.c, .slice b1.h1.a b1.h1.n b1.h1.c, .slice b1.h2.a b1.h2.n b1.h2.c, .slice b1.h3.a b1.h3.n b1.h3.c, .slice b1.o.a b1.o.n b1.o.c, .slice b1.i.a b1.i.n b1.i.c, .slice b1.e.a b1.e.n b1.e.c] 40
    rw [show (w.alloc (.cells #[.int .i64 b0.s, .slice b0.p.a b0.p.n b0.p.c, .slice b0.h0.a b0.h0.n b0.h0.c, .slice b0.h1.a b0.h1.n b0.h1.c, .slice b0.h2.a b0.h2.n b0.h2.c, .slice b0.h3.a b0.h3.n b0.h3.c, .slice b0.o.a b0.o.n b0.o.c, .slice b0.i.a b0.i.n b0.i.c, .slice b0.e.a b0.e.n b0.e.c] 40)).heap.size = w.heap.size + 1 by simp] at h
    exact h
  simp only [Bx.cells]
  go_enter Try.func6, Try.ntmps6
  go_wp2_with (fail)
  generalize ((w.alloc (.cells #[.int .i64 b0.s, .slice b0.p.a b0.p.n b0.p.c, .slice b0.h0.a b0.h0.n b0.h0.c, .slice b0.h1.a b0.h1.n b0.h1.c, .slice b0.h2.a b0.h2.n b0.h2.c, .slice b0.h3.a b0.h3.n b0.h3.c, .slice b0.o.a b0.o.n b0.o.c, .slice b0.i.a b0.i.n b0.i.c, .slice b0.e.a b0.e.n b0.e.c] 40)).alloc (.cells #[.int .i64 b1.s, .slice b1.p.a b1.p.n b1.p.c, .slice b1.h0.a b1.h0.n b1.h0.c, .slice b1.h1.a b1.h1.n b1.h1.c, .slice b1.h2.a b1.h2.n b1.h2.c, .slice b1.h3.a b1.h3.n b1.h3.c, .slice b1.o.a b1.o.n b1.o.c, .slice b1.i.a b1.i.n b1.i.c, .slice b1.e.a b1.e.n b1.e.c] 40)) = W0 at T0 ⊢
  refine (sz_any b0 1048576 W0 n0 (by omega) (by omega)).mono ?_
  rintro e W1 ⟨⟨l1, rfl, t1, t2, t3⟩, hb⟩
  have T1 := T0.later hb
  clear hb T0
  by_cases h1 : l1 < 0
  · go_wp2_with (fail)
    go_ret
    exact ⟨rfl, T1.b⟩
  replace t1 := t1 (by omega)
  obtain ⟨u0, u1, u2, u3, u4, u5, u6, u7, u8⟩ := nine (T1.r (w.heap.size + 1, b1.cells) (by simp)).1
  go_wp2_with (fail)
  clear u0 u1 u2 u3 u4 u5 u6 u7 u8
  refine (sz_any b1 l1 W1 n1 (by omega) (by omega)).mono ?_
  rintro e W2 ⟨⟨l2, rfl, t4, t5, t6⟩, hb⟩
  have T2 := T1.later hb
  clear hb T1
  by_cases h2 : l2 < 0
  · go_wp2_with (fail)
    go_ret
    exact ⟨rfl, T2.b⟩
  replace t4 := t4 (by omega)
  have m0 : b0.total ≤ 1000000000 := by omega
  have m1 : b1.total ≤ 1000000000 := by omega
  clear t1 t2 t3 t4 t5 t6 n0 n1
  go_wp2_with (fail)
  refine wp_region_held_drew (S := St w [(w.heap.size + 1, b1.cells), (w.heap.size, b0.cells)] [b0, b1]) (by kernel_rfl) T2.drew (fun hS => ?_)
  refine takeB (i := 0) (v := .agg #[.int .i64 b0.s, .slice b0.p.a b0.p.n b0.p.c, .slice b0.h0.a b0.h0.n b0.h0.c, .slice b0.h1.a b0.h1.n b0.h1.c, .slice b0.h2.a b0.h2.n b0.h2.c, .slice b0.h3.a b0.h3.n b0.h3.c, .slice b0.o.a b0.o.n b0.o.c, .slice b0.i.a b0.i.n b0.i.c, .slice b0.e.a b0.e.n b0.e.c]) (d := some 20) rfl rfl (by kernel_rfl) (by kernel_rfl) (by kernel_rfl) (fun _ _ _ h => h) (Or.inl ⟨by rfl, fun w' hw => ?_⟩) (by assumption) ?_
  · obtain ⟨u0, u1, u2, u3, u4, u5, u6, u7, u8⟩ := nine (hw.r (w.heap.size, b0.cells) (by simp)).1; go_simp
  simp only [Act.put, List.setIfInBounds_toArray, List.set_cons_zero, List.set_cons_succ]
  refine takeB (i := 2) (v := .agg #[.int .i64 b1.s, .slice b1.p.a b1.p.n b1.p.c, .slice b1.h0.a b1.h0.n b1.h0.c, .slice b1.h1.a b1.h1.n b1.h1.c, .slice b1.h2.a b1.h2.n b1.h2.c, .slice b1.h3.a b1.h3.n b1.h3.c, .slice b1.o.a b1.o.n b1.o.c, .slice b1.i.a b1.i.n b1.i.c, .slice b1.e.a b1.e.n b1.e.c]) (d := some 22) rfl rfl (by kernel_rfl) (by kernel_rfl) (by kernel_rfl) (fun _ _ _ h => h) (Or.inl ⟨by rfl, fun w' hw => ?_⟩) (by assumption) ?_
  · obtain ⟨u0, u1, u2, u3, u4, u5, u6, u7, u8⟩ := nine (hw.r (w.heap.size + 1, b1.cells) (by simp)).1; go_simp
  simp only [Act.put, List.setIfInBounds_toArray, List.set_cons_zero, List.set_cons_succ]
  clear T2
  generalize W2.drew = W2 at hS ⊢
  refine wpAnyH_ready (rs := [1]) (by kernel_rfl) (by simp) ?_
  refine AllReadyH.cons rfl (fun K hK => ?_) AllReadyH.nil
  go_simp
  refine (to_any b0 W2 (hS.a b0 (by simp)) m0).mono ?_
  rintro e W3 ⟨c0, rfl, k0, o0, hb3⟩
  go_wp2_with (fail)
  refine hK.out _ _ (hS.later hb3) (fun hS => ?_)
  clear hK K
  refine wpAnyH_ready (rs := [3]) (by kernel_rfl) (by simp) ?_
  refine AllReadyH.cons rfl (fun K hK => ?_) AllReadyH.nil
  go_simp
  refine (to_any b1 W3 (hS.a b1 (by simp)) m1).mono ?_
  rintro e W4 ⟨c1, rfl, k1, o1, hb4⟩
  go_wp2_with (fail)
  refine hK.out _ _ (hS.later hb4) (fun hS => ?_)
  clear hK K
  have p0 := (o0.later hb4).at
  have p1 := o1.at
  have z0 := total_m k0
  have z1 := total_m k1
  refine wpAnyH_ready (rs := [4]) (by kernel_rfl) (by simp) ?_
  refine AllReadyH.cons rfl (fun K hK => ?_) AllReadyH.nil
  go_simp
  refine (ssame_any c0 c1 W4 p0 p1 (by omega) (by omega)).mono ?_
  rintro e W5 ⟨rfl, hb5⟩
  rw [k0, k1]
  generalize hr : sameM b0.m b1.m = r
  go_wp2_with (fail)
  refine hK.out _ _ (hS.later hb5) (fun hS => ?_)
  clear hK K
  refine takeB (i := 5) (v := .bool r) (d := some 6) rfl rfl (by kernel_rfl) (by kernel_rfl) (by kernel_rfl) (fun _ _ _ h => h) (Or.inl ⟨by rfl, fun w' hw => ?_⟩) (by assumption) ?_
  · go_simp
  simp only [Act.put, List.setIfInBounds_toArray, List.set_cons_zero, List.set_cons_succ]
  refine wpAnyH_done (by kernel_rfl) ?_ _
  clear o0 o1 p0 p1 z0 z1 k0 k1 hb3 hb4 hb5
  have HR : Hid (sameM b0.m b1.m = r) := hr
  clear hr
  obtain ⟨u0, u1, u2, u3, u4, u5, u6, u7, u8⟩ := nine (hS.r (w.heap.size, b0.cells) (by simp)).1
  go_wp2_with (fail)
  clear u0 u1 u2 u3 u4 u5 u6 u7 u8
  refine (to_any b0 _ (hS.a b0 (by simp)) m0).mono ?_
  rintro e W6 ⟨d0, rfl, k0, o0, hb6⟩
  replace hS := hS.later hb6
  obtain ⟨u0, u1, u2, u3, u4, u5, u6, u7, u8⟩ := nine (hS.r (w.heap.size + 1, b1.cells) (by simp)).1
  have lt1 := (hS.r (w.heap.size + 1, b1.cells) (by simp)).2
  simp only [Bx.cells]
  go_wp2_with (fail)
  have T6 := (hS.book o0.at).row #[.int .i64 d0.s, .slice d0.p.a d0.p.n d0.p.c, .slice d0.h0.a d0.h0.n d0.h0.c, .slice d0.h1.a d0.h1.n d0.h1.c, .slice d0.h2.a d0.h2.n d0.h2.c, .slice d0.h3.a d0.h3.n d0.h3.c, .slice d0.o.a d0.o.n d0.o.c, .slice d0.i.a d0.i.n d0.i.c, .slice d0.e.a d0.e.n d0.e.c] 26
  generalize W6.alloc (.cells #[.int .i64 d0.s, .slice d0.p.a d0.p.n d0.p.c, .slice d0.h0.a d0.h0.n d0.h0.c, .slice d0.h1.a d0.h1.n d0.h1.c, .slice d0.h2.a d0.h2.n d0.h2.c, .slice d0.h3.a d0.h3.n d0.h3.c, .slice d0.o.a d0.o.n d0.o.c, .slice d0.i.a d0.i.n d0.i.c, .slice d0.e.a d0.e.n d0.e.c] 26) = V6 at T6 ⊢
  clear hS o0 hb6 u0 u1 u2 u3 u4 u5 u6 u7 u8 lt1
  refine (to_any b1 V6 (T6.a b1 (by simp)) m1).mono ?_
  rintro e W7 ⟨d1, rfl, k1, o1, hb7⟩
  replace T6 := T6.later hb7
  obtain ⟨u0, u1, u2, u3, u4, u5, u6, u7, u8⟩ := nine (T6.r (W6.heap.size, d0.cells) (by exact List.mem_cons_self)).1
  have lt1 := (T6.r (W6.heap.size, d0.cells) (by exact List.mem_cons_self)).2
  simp only [Bx.cells]
  go_wp2_with (fail)
  have T7 := (T6.book o1.at).row #[.int .i64 d1.s, .slice d1.p.a d1.p.n d1.p.c, .slice d1.h0.a d1.h0.n d1.h0.c, .slice d1.h1.a d1.h1.n d1.h1.c, .slice d1.h2.a d1.h2.n d1.h2.c, .slice d1.h3.a d1.h3.n d1.h3.c, .slice d1.o.a d1.o.n d1.o.c, .slice d1.i.a d1.i.n d1.i.c, .slice d1.e.a d1.e.n d1.e.c] 26
  generalize W7.alloc (.cells #[.int .i64 d1.s, .slice d1.p.a d1.p.n d1.p.c, .slice d1.h0.a d1.h0.n d1.h0.c, .slice d1.h1.a d1.h1.n d1.h1.c, .slice d1.h2.a d1.h2.n d1.h2.c, .slice d1.h3.a d1.h3.n d1.h3.c, .slice d1.o.a d1.o.n d1.o.c, .slice d1.i.a d1.i.n d1.i.c, .slice d1.e.a d1.e.n d1.e.c] 26) = V7 at T7 ⊢
  clear T6 o1 hb7 u0 u1 u2 u3 u4 u5 u6 u7 u8 lt1
  have z0 := total_m k0
  have z1 := total_m k1
  refine (same_any d0 d1 V7 (T7.a d0 (by simp)) (T7.a d1 (by simp)) (by omega) (by omega)).mono ?_
  rintro e W8 ⟨rfl, hb8⟩
  rw [k0, k1, HR.out]
  replace T7 := T7.later hb8
  clear hb8
  cases r
  all_goals
    go_wp2_with (fail)
    refine wp_region_held_drew (S := St w ((W7.heap.size, d1.cells) :: (W6.heap.size, d0.cells) :: [(w.heap.size + 1, b1.cells), (w.heap.size, b0.cells)]) (d1 :: d0 :: [b0, b1])) (by kernel_rfl) T7.drew (fun hS => ?_)
    refine takeB (i := 0) (v := .agg #[.int .i64 d0.s, .slice d0.p.a d0.p.n d0.p.c, .slice d0.h0.a d0.h0.n d0.h0.c, .slice d0.h1.a d0.h1.n d0.h1.c, .slice d0.h2.a d0.h2.n d0.h2.c, .slice d0.h3.a d0.h3.n d0.h3.c, .slice d0.o.a d0.o.n d0.o.c, .slice d0.i.a d0.i.n d0.i.c, .slice d0.e.a d0.e.n d0.e.c]) (d := some 35) rfl rfl (by kernel_rfl) (by kernel_rfl) (by kernel_rfl) (fun _ _ _ h => h) (Or.inl ⟨by rfl, fun w' hw => ?_⟩) (by assumption) ?_
    · obtain ⟨u0, u1, u2, u3, u4, u5, u6, u7, u8⟩ := nine (hw.r (W6.heap.size, d0.cells) (by simp)).1; go_simp
    simp only [Act.put, List.setIfInBounds_toArray, List.set_cons_zero, List.set_cons_succ]
    refine takeB (i := 1) (v := .agg #[.int .i64 b0.s, .slice b0.p.a b0.p.n b0.p.c, .slice b0.h0.a b0.h0.n b0.h0.c, .slice b0.h1.a b0.h1.n b0.h1.c, .slice b0.h2.a b0.h2.n b0.h2.c, .slice b0.h3.a b0.h3.n b0.h3.c, .slice b0.o.a b0.o.n b0.o.c, .slice b0.i.a b0.i.n b0.i.c, .slice b0.e.a b0.e.n b0.e.c]) (d := some 36) rfl rfl (by kernel_rfl) (by kernel_rfl) (by kernel_rfl) (fun _ _ _ h => h) (Or.inl ⟨by rfl, fun w' hw => ?_⟩) (by assumption) ?_
    · obtain ⟨u0, u1, u2, u3, u4, u5, u6, u7, u8⟩ := nine (hw.r (w.heap.size, b0.cells) (by simp)).1; go_simp
    simp only [Act.put, List.setIfInBounds_toArray, List.set_cons_zero, List.set_cons_succ]
    generalize World.drew _ = V at hS ⊢
    refine wpAnyH_ready (rs := [2]) (by kernel_rfl) (by simp) ?_
    refine AllReadyH.cons rfl (fun K hK => ?_) AllReadyH.nil
    go_simp
    refine (to_any b0 V (hS.a b0 (by simp)) m0).mono ?_
    rintro e Y1 ⟨fd0, rfl, qd0, pd0, hy⟩
    go_wp2_with (fail)
    refine hK.out _ _ (hS.later hy) (fun hS => ?_)
    clear hK K
    refine wpAnyH_ready (rs := [3]) (by kernel_rfl) (by simp) ?_
    refine AllReadyH.cons rfl (fun K hK => ?_) AllReadyH.nil
    go_simp
    refine (eq_any d0 fd0 Y1 (hS.a d0 (by simp)) pd0.at (k0.trans qd0.symm) (by omega)).mono ?_
    rintro e Y2 ⟨rfl, hy⟩
    go_wp2_with (fail)
    refine hK.out _ _ (hS.later hy) (fun hS => ?_)
    clear hK K
    refine takeB (i := 4) (v := .bool false) (d := some 39) rfl rfl (by kernel_rfl) (by kernel_rfl) (by kernel_rfl) (fun _ _ _ h => h) (Or.inl ⟨by rfl, fun w' hw => ?_⟩) (by assumption) ?_
    · go_simp
    simp only [Act.put, List.setIfInBounds_toArray, List.set_cons_zero, List.set_cons_succ]
    refine wpAnyH_done (by kernel_rfl) ?_ _
    clear pd0 hy
    go_wp2_with (fail)
    refine wp_region_held_drew (S := St w ((W7.heap.size, d1.cells) :: (W6.heap.size, d0.cells) :: [(w.heap.size + 1, b1.cells), (w.heap.size, b0.cells)]) (d1 :: d0 :: [b0, b1])) (by kernel_rfl) hS.drew (fun hS => ?_)
    refine takeB (i := 0) (v := .agg #[.int .i64 d1.s, .slice d1.p.a d1.p.n d1.p.c, .slice d1.h0.a d1.h0.n d1.h0.c, .slice d1.h1.a d1.h1.n d1.h1.c, .slice d1.h2.a d1.h2.n d1.h2.c, .slice d1.h3.a d1.h3.n d1.h3.c, .slice d1.o.a d1.o.n d1.o.c, .slice d1.i.a d1.i.n d1.i.c, .slice d1.e.a d1.e.n d1.e.c]) (d := some 40) rfl rfl (by kernel_rfl) (by kernel_rfl) (by kernel_rfl) (fun _ _ _ h => h) (Or.inl ⟨by rfl, fun w' hw => ?_⟩) (by assumption) ?_
    · obtain ⟨u0, u1, u2, u3, u4, u5, u6, u7, u8⟩ := nine (hw.r (W7.heap.size, d1.cells) (by simp)).1; go_simp
    simp only [Act.put, List.setIfInBounds_toArray, List.set_cons_zero, List.set_cons_succ]
    refine takeB (i := 1) (v := .agg #[.int .i64 b1.s, .slice b1.p.a b1.p.n b1.p.c, .slice b1.h0.a b1.h0.n b1.h0.c, .slice b1.h1.a b1.h1.n b1.h1.c, .slice b1.h2.a b1.h2.n b1.h2.c, .slice b1.h3.a b1.h3.n b1.h3.c, .slice b1.o.a b1.o.n b1.o.c, .slice b1.i.a b1.i.n b1.i.c, .slice b1.e.a b1.e.n b1.e.c]) (d := some 41) rfl rfl (by kernel_rfl) (by kernel_rfl) (by kernel_rfl) (fun _ _ _ h => h) (Or.inl ⟨by rfl, fun w' hw => ?_⟩) (by assumption) ?_
    · obtain ⟨u0, u1, u2, u3, u4, u5, u6, u7, u8⟩ := nine (hw.r (w.heap.size + 1, b1.cells) (by simp)).1; go_simp
    simp only [Act.put, List.setIfInBounds_toArray, List.set_cons_zero, List.set_cons_succ]
    generalize World.drew _ = V at hS ⊢
    refine wpAnyH_ready (rs := [2]) (by kernel_rfl) (by simp) ?_
    refine AllReadyH.cons rfl (fun K hK => ?_) AllReadyH.nil
    go_simp
    refine (to_any b1 V (hS.a b1 (by simp)) m1).mono ?_
    rintro e Y1 ⟨fd1, rfl, qd1, pd1, hy⟩
    go_wp2_with (fail)
    refine hK.out _ _ (hS.later hy) (fun hS => ?_)
    clear hK K
    refine wpAnyH_ready (rs := [3]) (by kernel_rfl) (by simp) ?_
    refine AllReadyH.cons rfl (fun K hK => ?_) AllReadyH.nil
    go_simp
    refine (eq_any d1 fd1 Y1 (hS.a d1 (by simp)) pd1.at (k1.trans qd1.symm) (by omega)).mono ?_
    rintro e Y2 ⟨rfl, hy⟩
    go_wp2_with (fail)
    refine hK.out _ _ (hS.later hy) (fun hS => ?_)
    clear hK K
    refine takeB (i := 4) (v := .bool false) (d := some 44) rfl rfl (by kernel_rfl) (by kernel_rfl) (by kernel_rfl) (fun _ _ _ h => h) (Or.inl ⟨by rfl, fun w' hw => ?_⟩) (by assumption) ?_
    · go_simp
    simp only [Act.put, List.setIfInBounds_toArray, List.set_cons_zero, List.set_cons_succ]
    refine wpAnyH_done (by kernel_rfl) ?_ _
    clear pd1 hy
    go_wp2_with (fail)
    go_ret
    exact ⟨rfl, hS.b⟩

end Go.Proofs.Ytoloaghjgheomaa.Book

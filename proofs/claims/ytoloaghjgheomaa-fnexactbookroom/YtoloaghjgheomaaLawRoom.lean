/- Of every book and unit, the size of the room there, held against the specification. Conditions: none. -/
import Derived.Test.YtoloaghjgheomaaLaw
import Derived.Test.YtoloaghjgheomaaRoom
namespace Go.Proofs.Ytoloaghjgheomaa.Book
open Go.ChangeShapes Go.WideShapes Go.ChangeAt Go.RowKit
open Go.Proofs.Ytoloaghjgheomaa.Aid Go.Proofs.Ytoloaghjgheomaa.Lst

set_option maxRecDepth 100000 in
set_option maxHeartbeats 8000000 in
theorem law_room (b0 : Bx) (a1 : Int) (w : World) (g0 : b0.Good w) :
    Calls Try.prog 8 #[.agg b0.cells.toArray, .int .i64 a1] w fun e w' => e = .returned (.bool true) ∧ Below w.heap.size w w' := by
  have n0 := g0.short
  have HWf : Hid b0.Wf := g0.wf
  have T0 : St w [(w.heap.size, b0.cells)] [b0] (w.alloc (.cells #[.int .i64 b0.s, .slice b0.p.a b0.p.n b0.p.c, .slice b0.h0.a b0.h0.n b0.h0.c, .slice b0.h1.a b0.h1.n b0.h1.c, .slice b0.h2.a b0.h2.n b0.h2.c, .slice b0.h3.a b0.h3.n b0.h3.c, .slice b0.o.a b0.o.n b0.o.c, .slice b0.i.a b0.i.n b0.i.c, .slice b0.e.a b0.e.n b0.e.c] 40)) := (St.start (bs := [b0]) (by simp; exact g0.at)).row #[.int .i64 b0.s, .slice b0.p.a b0.p.n b0.p.c, .slice b0.h0.a b0.h0.n b0.h0.c, .slice b0.h1.a b0.h1.n b0.h1.c, .slice b0.h2.a b0.h2.n b0.h2.c, .slice b0.h3.a b0.h3.n b0.h3.c, .slice b0.o.a b0.o.n b0.o.c, .slice b0.i.a b0.i.n b0.i.c, .slice b0.e.a b0.e.n b0.e.c] 40
  simp only [Bx.cells]
  go_enter Try.func8, Try.ntmps8
  go_wp2_with (fail)
  generalize (w.alloc (.cells #[.int .i64 b0.s, .slice b0.p.a b0.p.n b0.p.c, .slice b0.h0.a b0.h0.n b0.h0.c, .slice b0.h1.a b0.h1.n b0.h1.c, .slice b0.h2.a b0.h2.n b0.h2.c, .slice b0.h3.a b0.h3.n b0.h3.c, .slice b0.o.a b0.o.n b0.o.c, .slice b0.i.a b0.i.n b0.i.c, .slice b0.e.a b0.e.n b0.e.c] 40)) = W0 at T0 ⊢
  refine (sz_any b0 1048576 W0 n0 (by omega) (by omega)).mono ?_
  rintro e W1 ⟨⟨l1, rfl, t1, t2, t3⟩, hb⟩
  have T1 := T0.later hb
  clear hb T0
  by_cases h1 : l1 < 0
  · go_wp2_with (fail)
    go_ret
    exact ⟨rfl, T1.b⟩
  replace t1 := t1 (by omega)
  have m0 : b0.total ≤ 1000000000 := by omega
  clear t1 t2 t3 n0
  obtain ⟨u0, u1, u2, u3, u4, u5, u6, u7, u8⟩ := nine (T1.r (w.heap.size, b0.cells) (by simp)).1
  go_wp2_with (fail)
  clear u0 u1 u2 u3 u4 u5 u6 u7 u8
  refine (to_any b0 _ (T1.a b0 (by simp)) m0).mono ?_
  rintro e W2 ⟨c0, rfl, k0, o0, hb⟩
  have T2 := T1.later hb
  have z0 := total_m k0
  clear hb T1
  simp only [Bx.cells]
  go_wp2_with (fail)
  refine (sroom_any c0 a1 W2 o0.at (by omega) ((wf_m k0).2 HWf.out)).mono ?_
  rintro e W3 ⟨⟨r, rfl, hr⟩, hb⟩
  have T3 := T2.later hb
  have HR : Hid (RoomQ b0 a1 r) := (roomq_m k0 a1 r).1 hr
  clear hb T2 o0 z0 k0 hr
  obtain ⟨u0, u1, u2, u3, u4, u5, u6, u7, u8⟩ := nine (T3.r (w.heap.size, b0.cells) (by simp)).1
  go_wp2_with (fail)
  clear u0 u1 u2 u3 u4 u5 u6 u7 u8
  refine (to_any b0 _ (T3.a b0 (by simp)) m0).mono ?_
  rintro e W4 ⟨d0, rfl, k0, o0, hb⟩
  have T4 := ((T3.later hb).book o0.at).row #[.int .i64 d0.s, .slice d0.p.a d0.p.n d0.p.c, .slice d0.h0.a d0.h0.n d0.h0.c, .slice d0.h1.a d0.h1.n d0.h1.c, .slice d0.h2.a d0.h2.n d0.h2.c, .slice d0.h3.a d0.h3.n d0.h3.c, .slice d0.o.a d0.o.n d0.o.c, .slice d0.i.a d0.i.n d0.i.c, .slice d0.e.a d0.e.n d0.e.c] 26
  have z0 := total_m k0
  have cp := o0.cap
  clear hb T3 o0
  simp only [Bx.cells]
  go_wp2_with (fail)
  generalize W4.alloc (.cells #[.int .i64 d0.s, .slice d0.p.a d0.p.n d0.p.c, .slice d0.h0.a d0.h0.n d0.h0.c, .slice d0.h1.a d0.h1.n d0.h1.c, .slice d0.h2.a d0.h2.n d0.h2.c, .slice d0.h3.a d0.h3.n d0.h3.c, .slice d0.o.a d0.o.n d0.o.c, .slice d0.i.a d0.i.n d0.i.c, .slice d0.e.a d0.e.n d0.e.c] 26) = V4 at T4 ⊢
  refine (room_any d0 a1 V4 (T4.a d0 (by simp)) (by omega) cp).mono ?_
  rintro e W5 ⟨⟨r2, rfl, hr2⟩, hb⟩
  have T5 := T4.later hb
  have er : r2 = r := roomq_one ((roomq_m k0 a1 r2).1 hr2) HR.out
  subst er
  clear hb T4 hr2 HR cp
  go_wp2_with (fail)
  refine wp_region_held_drew (S := St w ((W4.heap.size, d0.cells) :: [(w.heap.size, b0.cells)]) (d0 :: [b0])) (by kernel_rfl) T5.drew (fun hS => ?_)
  refine takeB (i := 0) (v := .agg #[.int .i64 d0.s, .slice d0.p.a d0.p.n d0.p.c, .slice d0.h0.a d0.h0.n d0.h0.c, .slice d0.h1.a d0.h1.n d0.h1.c, .slice d0.h2.a d0.h2.n d0.h2.c, .slice d0.h3.a d0.h3.n d0.h3.c, .slice d0.o.a d0.o.n d0.o.c, .slice d0.i.a d0.i.n d0.i.c, .slice d0.e.a d0.e.n d0.e.c]) (d := some 26) rfl rfl (by kernel_rfl) (by kernel_rfl) (by kernel_rfl) (fun _ _ _ h => h) (Or.inl ⟨by rfl, fun w' hw => ?_⟩) (by assumption) ?_
  · obtain ⟨u0, u1, u2, u3, u4, u5, u6, u7, u8⟩ := nine (hw.r (W4.heap.size, d0.cells) (by simp)).1; go_simp
  simp only [Act.put, List.setIfInBounds_toArray, List.set_cons_zero, List.set_cons_succ]
  refine takeB (i := 1) (v := .agg #[.int .i64 b0.s, .slice b0.p.a b0.p.n b0.p.c, .slice b0.h0.a b0.h0.n b0.h0.c, .slice b0.h1.a b0.h1.n b0.h1.c, .slice b0.h2.a b0.h2.n b0.h2.c, .slice b0.h3.a b0.h3.n b0.h3.c, .slice b0.o.a b0.o.n b0.o.c, .slice b0.i.a b0.i.n b0.i.c, .slice b0.e.a b0.e.n b0.e.c]) (d := some 27) rfl rfl (by kernel_rfl) (by kernel_rfl) (by kernel_rfl) (fun _ _ _ h => h) (Or.inl ⟨by rfl, fun w' hw => ?_⟩) (by assumption) ?_
  · obtain ⟨u0, u1, u2, u3, u4, u5, u6, u7, u8⟩ := nine (hw.r (w.heap.size, b0.cells) (by simp)).1; go_simp
  simp only [Act.put, List.setIfInBounds_toArray, List.set_cons_zero, List.set_cons_succ]
  generalize World.drew _ = V at hS ⊢
  refine wpAnyH_ready (rs := [2]) (by kernel_rfl) (by simp) ?_
  refine AllReadyH.cons rfl (fun K hK => ?_) AllReadyH.nil
  go_simp
  refine (to_any b0 V (hS.a b0 (by simp)) m0).mono ?_
  rintro e Y1 ⟨ff, rfl, qf, pf, hy⟩
  go_wp2_with (fail)
  refine hK.out _ _ (hS.later hy) (fun hS => ?_)
  clear hK K
  refine wpAnyH_ready (rs := [3]) (by kernel_rfl) (by simp) ?_
  refine AllReadyH.cons rfl (fun K hK => ?_) AllReadyH.nil
  go_simp
  refine (eq_any d0 ff Y1 (hS.a d0 (by simp)) pf.at (k0.trans qf.symm) (by omega)).mono ?_
  rintro e Y2 ⟨rfl, hy⟩
  go_wp2_with (fail)
  refine hK.out _ _ (hS.later hy) (fun hS => ?_)
  clear hK K
  refine takeB (i := 4) (v := .bool false) (d := some 30) rfl rfl (by kernel_rfl) (by kernel_rfl) (by kernel_rfl) (fun _ _ _ h => h) (Or.inl ⟨by rfl, fun w' hw => ?_⟩) (by assumption) ?_
  · go_simp
  simp only [Act.put, List.setIfInBounds_toArray, List.set_cons_zero, List.set_cons_succ]
  refine wpAnyH_done (by kernel_rfl) ?_ _
  clear pf hy
  go_wp2_with (fail)
  go_ret
  exact ⟨rfl, hS.b⟩

end Go.Proofs.Ytoloaghjgheomaa.Book

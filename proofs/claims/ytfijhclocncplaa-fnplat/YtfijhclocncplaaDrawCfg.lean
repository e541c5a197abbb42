/- Reading a code: a house, bent or not. Conditions: the code is a slice of bytes that can be read. -/
import Derived.Test.YtfijhclocncplaaOpen
import Derived.Test.YtfijhclocncplaaAid
namespace Go.Proofs.Ytfijhclocncplaa.Draw
open Go.ChangeShapes Go.WideShapes Go.ChangeAt Go.RowKit
open Go.Proofs.Ytfijhclocncplaa.Aid

theorem save_below {r : Nat} {w w' : World} (h : Save r w w') {B : Nat} (hr : B ≤ r) (hB : B ≤ w.heap.size) : Below B w w' := h.below hr hB

theorem three_get (w : World) (t : TypeId) (x y z : Int) : ∀ i, i < 3 → (w.alloc (.cells #[.int .i64 x, .int .i64 y, .int .i64 z] t)).cell? ⟨w.heap.size, i, none⟩ = some (.int .i64 (([x, y, z] : List Int).getD i 0)) := fun i hi => by
  match i, hi with
  | 0, _ => go_simp
  | 1, _ => go_simp
  | 2, _ => go_simp

theorem there_save {r : Nat} {w w' : World} (h : Save r w w') {b o n : Nat} (ht : w.there b o n) (hb : b ≠ r) (hs : b < w.heap.size) : w'.there b o n := fun j hj => by
  have := ht j hj
  rw [h.cell (q := ⟨b, o + j, none⟩) hb hs, show w'.frozen? ⟨b, o + j, none⟩ = w.frozen? ⟨b, o + j, none⟩ from World.frozen?_of_block (w := w) (h.block b hb hs)]; exact this
theorem range_save {r : Nat} {w w' : World} (h : Save r w w') {b o : Nat} {cs : List Value} (ht : w.rangeAt b o cs) (hb : b ≠ r) (hs : b < w.heap.size) : w'.rangeAt b o cs := fun j v hv => by
  rw [h.cell (q := ⟨b, o + j, none⟩) hb hs]; exact ht j v hv
theorem three_cell {w : World} {b : Nat} {x y z : Int} (r : w.rangeAt b 0 (ints [x, y, z])) : w.cell? ⟨b, 0, none⟩ = some (.int .i64 x) ∧ w.cell? ⟨b, 1, none⟩ = some (.int .i64 y) ∧ w.cell? ⟨b, 2, none⟩ = some (.int .i64 z) := ⟨r 0 _ rfl, r 1 _ rfl, r 2 _ rfl⟩

theorem three_done {w w2 : World} {b B : Nat} (t : w2.there b 0 3) (h : Below B w w2) (hb : B ≤ b) (x y z : Int) :
    (((w2.setCell ⟨b, 0, none⟩ (.int .i64 x)).setCell ⟨b, 1, none⟩ (.int .i64 y)).setCell ⟨b, 2, none⟩ (.int .i64 z)).rangeAt b 0 (ints [x, y, z]) ∧
    Below B w (((w2.setCell ⟨b, 0, none⟩ (.int .i64 x)).setCell ⟨b, 1, none⟩ (.int .i64 y)).setCell ⟨b, 2, none⟩ (.int .i64 z)) :=
  ⟨World.rangeAt_setCells_same w2 b 0 (ints [x, y, z]) t, ((h.setCell hb _).setCell hb _).setCell hb _⟩

set_option maxHeartbeats 4000000 in
theorem bent_any (r : Nat) (a : Option Addr) (len cap : Nat) (zs : List Int) (p : Int) (w : World) (h : Rd w r a len cap zs p) (hp : p < 100000000000) :
    Calls Try.prog 52 #[.pointer (some ⟨r, 0, none⟩)] w fun e w' => ∃ s q l : Int, e = .returned (.agg #[.int .i64 s, .int .i64 q, .int .i64 l]) ∧ Below r w w' := by
  have p0 := h.p0
  go_enter Try.func52, Try.ntmps52
  go_wp2_with (fail)
  have hlt := h.lt
  have h1 := h.data_ne (.cells #[.int .i64 0, .int .i64 0, .int .i64 0] 24)
  have r1 := range_lit (ints [0, 0, 0]).toArray (heap1_0 w (.cells #[.int .i64 0, .int .i64 0, .int .i64 0] 24))
  have t1 := there_lit (ints [0, 0, 0]).toArray (heap1_0 w (.cells #[.int .i64 0, .int .i64 0, .int .i64 0] 24))
  have B1 := (Below.refl r w).alloc (by omega) (.cells #[.int .i64 0, .int .i64 0, .int .i64 0] 24)
  have z1 : (w.alloc (.cells #[.int .i64 0, .int .i64 0, .int .i64 0] 24)).heap.size = w.heap.size + 1 := by simp
  refine (pick_on r a len cap zs p 4 _ h1 (by omega)).mono ?_
  generalize w.alloc (.cells #[.int .i64 0, .int .i64 0, .int .i64 0] 24) = W at *
  rintro e w2 ⟨x, rfl, x0, x1, -, h2, s2⟩
  have x1' := x1 (by omega)
  go_wp2_with (fail)
  refine (pick_on r a len cap zs (p + 1) 6 _ h2 (by omega)).mono ?_
  rintro e w3 ⟨y, rfl, y0, y1, -, h3, s3⟩
  have y1' := y1 (by omega)
  go_wp2_with (fail)
  refine (pick_on r a len cap zs (p + 1 + 1) 20 _ h3 (by omega)).mono ?_
  rintro e w4 ⟨z, rfl, z0, z1', -, h4, s4⟩
  have z1'' := z1' (by omega)
  have S4 := (s2.trans s3).trans s4
  have t4 : w4.there w.heap.size 0 3 := fun j hj => by
    have := t1 j hj
    rw [S4.cell (q := ⟨w.heap.size, 0 + j, none⟩) (by simp; omega) (by simp; omega), World.frozen?_of_block (w := W) (S4.block w.heap.size (by omega) (by omega))]; exact this
  have B4 : Below r w w4 := B1.trans (S4.below (Nat.le_refl _) (by omega))
  have hz4 := S4.size
  clear x1 y1 z1' h1 h2 h3 s2 s3 s4 S4 t1 r1 B1
  go_wp2_with (fail)
  have h5 := h4.data_ne (.cells #[.int .i64 (1 + x), .int .i64 (1 + y), .int .i64 (1 + z)] 24)
  have t5 := World.there_alloc t4 (.cells #[.int .i64 (1 + x), .int .i64 (1 + y), .int .i64 (1 + z)] 24)
  have r5 := range_lit (ints [1 + x, 1 + y, 1 + z]).toArray (heap1_0 w4 (.cells #[.int .i64 (1 + x), .int .i64 (1 + y), .int .i64 (1 + z)] 24))
  have u5 := there_lit (ints [1 + x, 1 + y, 1 + z]).toArray (heap1_0 w4 (.cells #[.int .i64 (1 + x), .int .i64 (1 + y), .int .i64 (1 + z)] 24))
  have B5 := B4.alloc (by omega) (.cells #[.int .i64 (1 + x), .int .i64 (1 + y), .int .i64 (1 + z)] 24)
  have hz5 : (w4.alloc (.cells #[.int .i64 (1 + x), .int .i64 (1 + y), .int .i64 (1 + z)] 24)).heap.size = w4.heap.size + 1 := by simp
  refine (pick_on r a len cap zs _ 9 _ h5 (by omega)).mono ?_
  generalize w4.alloc (.cells #[.int .i64 (1 + x), .int .i64 (1 + y), .int .i64 (1 + z)] 24) = V at *
  rintro e w6 ⟨k, rfl, k0, k1, -, h6, s6⟩
  have t6 : w6.there w.heap.size 0 3 := fun j hj => by
    have := t5 j hj
    rw [s6.cell (q := ⟨w.heap.size, 0 + j, none⟩) (by simp; omega) (by simp; omega), World.frozen?_of_block (w := V) (s6.block w.heap.size (by omega) (by omega))]; exact this
  have u6 : w6.there w4.heap.size 0 3 := fun j hj => by
    have := u5 j hj
    rw [s6.cell (q := ⟨w4.heap.size, 0 + j, none⟩) (by simp; omega) (by simp; omega), World.frozen?_of_block (w := V) (s6.block w4.heap.size (by omega) (by omega))]; exact this
  have r6 : w6.rangeAt w4.heap.size 0 (ints [1 + x, 1 + y, 1 + z]) := fun j v hv => by
    rw [s6.cell (q := ⟨w4.heap.size, 0 + j, none⟩) (by simp; omega) (by simp; omega)]; exact r5 j v hv
  have B6 : Below r w w6 := B5.trans (s6.below (Nat.le_refl _) (by omega))
  have hz6 := s6.size
  clear k1 h5 h4 s6 t5 u5 r5 B5 t4 B4
  by_cases e0 : k = 0
  · subst e0
    go_wp2_with (fail)
    have h7 := h6.data_ne (.cells #[.int .i64 (-1), .int .i64 0, .int .i64 5] 3)
    have b7 := below1 w6 (.cells #[.int .i64 (-1), .int .i64 0, .int .i64 5] 3)
    have hz7 : (w6.alloc (.cells #[.int .i64 (-1), .int .i64 0, .int .i64 5] 3)).heap.size = w6.heap.size + 1 := by simp
    have g3 := three_get w6 3 (-1) 0 5
    refine (num_any r a len cap zs _ _ h7 (by omega) w6.heap.size 3 3 [-1, 0, 5] (by omega) (by omega) (by omega) g3).mono ?_
    have t7 := there_below b7 t6 (by omega)
    have u7 := there_below b7 u6 (by omega)
    have r7 := range_below b7 r6 (by omega)
    have B7 := B6.trans (b7.mono (by omega))
    clear g3 b7 t6 u6 r6 B6 h7
    generalize w6.alloc (.cells #[.int .i64 (-1), .int .i64 0, .int .i64 5] 3) = U at *
    rintro e w8 ⟨j, hj, rfl, h8, s8⟩
    generalize ([-1, 0, 5] : List Int).getD j 0 = v
    have t8 : w8.there w.heap.size 0 3 := there_save s8 t7 (by omega) (by omega)
    have u8 : w8.there w4.heap.size 0 3 := there_save s8 u7 (by omega) (by omega)
    have r8 : w8.rangeAt w4.heap.size 0 (ints [1 + x, 1 + y, 1 + z]) := range_save s8 r7 (by omega) (by omega)
    have B8 : Below r w w8 := B7.trans (s8.below (Nat.le_refl _) (by omega))
    clear t7 u7 r7 B7 h8 s8 h6
    obtain ⟨q0, q1, q2⟩ := three_cell r8
    obtain ⟨p0', hp0⟩ := Option.isSome_iff_exists.1 (t8 0 (by decide)).1
    obtain ⟨p1', hp1⟩ := Option.isSome_iff_exists.1 (t8 1 (by decide)).1
    obtain ⟨p2', hp2⟩ := Option.isSome_iff_exists.1 (t8 2 (by decide)).1
    have f0 := (t8 0 (by decide)).2
    have f1 := (t8 1 (by decide)).2
    have f2 := (t8 2 (by decide)).2
    have g0 := (u8 0 (by decide)).2
    have g1 := (u8 1 (by decide)).2
    have g2 := (u8 2 (by decide)).2
    simp at f0 f1 f2 g0 g1 g2 hp0 hp1 hp2
    go_wp2_with (fail)
    obtain ⟨hr, hB⟩ := three_done (World.there_setCells t8 w4.heap.size 0 [.int .i64 v]) (show Below r w (w8.setCells w4.heap.size 0 [.int .i64 v]) from B8.setCell (by simp; omega) _) (by omega) v (1 + y) (1 + z)
    exact bodyPost_ret (results_cell_mid rfl _ _ w.heap.size 0 _ _ rfl hr Try.underlying24 rfl (by kernel_rfl)) rfl ⟨_, _, _, rfl, hB⟩
  by_cases e1 : k = 1
  · subst e1
    go_wp2_with (fail)
    have h7 := h6.data_ne (.cells #[.int .i64 (-1), .int .i64 0, .int .i64 7] 3)
    have b7 := below1 w6 (.cells #[.int .i64 (-1), .int .i64 0, .int .i64 7] 3)
    have hz7 : (w6.alloc (.cells #[.int .i64 (-1), .int .i64 0, .int .i64 7] 3)).heap.size = w6.heap.size + 1 := by simp
    have g3 := three_get w6 3 (-1) 0 7
    refine (num_any r a len cap zs _ _ h7 (by omega) w6.heap.size 3 3 [-1, 0, 7] (by omega) (by omega) (by omega) g3).mono ?_
    have t7 := there_below b7 t6 (by omega)
    have u7 := there_below b7 u6 (by omega)
    have r7 := range_below b7 r6 (by omega)
    have B7 := B6.trans (b7.mono (by omega))
    clear g3 b7 t6 u6 r6 B6 h7
    generalize w6.alloc (.cells #[.int .i64 (-1), .int .i64 0, .int .i64 7] 3) = U at *
    rintro e w8 ⟨j, hj, rfl, h8, s8⟩
    generalize ([-1, 0, 7] : List Int).getD j 0 = v
    have t8 : w8.there w.heap.size 0 3 := there_save s8 t7 (by omega) (by omega)
    have u8 : w8.there w4.heap.size 0 3 := there_save s8 u7 (by omega) (by omega)
    have r8 : w8.rangeAt w4.heap.size 0 (ints [1 + x, 1 + y, 1 + z]) := range_save s8 r7 (by omega) (by omega)
    have B8 : Below r w w8 := B7.trans (s8.below (Nat.le_refl _) (by omega))
    clear t7 u7 r7 B7 h8 s8 h6
    obtain ⟨q0, q1, q2⟩ := three_cell r8
    obtain ⟨p0', hp0⟩ := Option.isSome_iff_exists.1 (t8 0 (by decide)).1
    obtain ⟨p1', hp1⟩ := Option.isSome_iff_exists.1 (t8 1 (by decide)).1
    obtain ⟨p2', hp2⟩ := Option.isSome_iff_exists.1 (t8 2 (by decide)).1
    have f0 := (t8 0 (by decide)).2
    have f1 := (t8 1 (by decide)).2
    have f2 := (t8 2 (by decide)).2
    have g0 := (u8 0 (by decide)).2
    have g1 := (u8 1 (by decide)).2
    have g2 := (u8 2 (by decide)).2
    simp at f0 f1 f2 g0 g1 g2 hp0 hp1 hp2
    go_wp2_with (fail)
    obtain ⟨hr, hB⟩ := three_done (World.there_setCells t8 w4.heap.size 1 [.int .i64 v]) (show Below r w (w8.setCells w4.heap.size 1 [.int .i64 v]) from B8.setCell (by simp; omega) _) (by omega) (1 + x) v (1 + z)
    exact bodyPost_ret (results_cell_mid rfl _ _ w.heap.size 0 _ _ rfl hr Try.underlying24 rfl (by kernel_rfl)) rfl ⟨_, _, _, rfl, hB⟩
  by_cases e2 : k = 2
  · subst e2
    go_wp2_with (fail)
    have h7 := h6.data_ne (.cells #[.int .i64 (-1), .int .i64 0, .int .i64 21] 3)
    have b7 := below1 w6 (.cells #[.int .i64 (-1), .int .i64 0, .int .i64 21] 3)
    have hz7 : (w6.alloc (.cells #[.int .i64 (-1), .int .i64 0, .int .i64 21] 3)).heap.size = w6.heap.size + 1 := by simp
    have g3 := three_get w6 3 (-1) 0 21
    refine (num_any r a len cap zs _ _ h7 (by omega) w6.heap.size 3 3 [-1, 0, 21] (by omega) (by omega) (by omega) g3).mono ?_
    have t7 := there_below b7 t6 (by omega)
    have u7 := there_below b7 u6 (by omega)
    have r7 := range_below b7 r6 (by omega)
    have B7 := B6.trans (b7.mono (by omega))
    clear g3 b7 t6 u6 r6 B6 h7
    generalize w6.alloc (.cells #[.int .i64 (-1), .int .i64 0, .int .i64 21] 3) = U at *
    rintro e w8 ⟨j, hj, rfl, h8, s8⟩
    generalize ([-1, 0, 21] : List Int).getD j 0 = v
    have t8 : w8.there w.heap.size 0 3 := there_save s8 t7 (by omega) (by omega)
    have u8 : w8.there w4.heap.size 0 3 := there_save s8 u7 (by omega) (by omega)
    have r8 : w8.rangeAt w4.heap.size 0 (ints [1 + x, 1 + y, 1 + z]) := range_save s8 r7 (by omega) (by omega)
    have B8 : Below r w w8 := B7.trans (s8.below (Nat.le_refl _) (by omega))
    clear t7 u7 r7 B7 h8 s8 h6
    obtain ⟨q0, q1, q2⟩ := three_cell r8
    obtain ⟨p0', hp0⟩ := Option.isSome_iff_exists.1 (t8 0 (by decide)).1
    obtain ⟨p1', hp1⟩ := Option.isSome_iff_exists.1 (t8 1 (by decide)).1
    obtain ⟨p2', hp2⟩ := Option.isSome_iff_exists.1 (t8 2 (by decide)).1
    have f0 := (t8 0 (by decide)).2
    have f1 := (t8 1 (by decide)).2
    have f2 := (t8 2 (by decide)).2
    have g0 := (u8 0 (by decide)).2
    have g1 := (u8 1 (by decide)).2
    have g2 := (u8 2 (by decide)).2
    simp at f0 f1 f2 g0 g1 g2 hp0 hp1 hp2
    go_wp2_with (fail)
    obtain ⟨hr, hB⟩ := three_done (World.there_setCells t8 w4.heap.size 2 [.int .i64 v]) (show Below r w (w8.setCells w4.heap.size 2 [.int .i64 v]) from B8.setCell (by simp; omega) _) (by omega) (1 + x) (1 + y) v
    exact bodyPost_ret (results_cell_mid rfl _ _ w.heap.size 0 _ _ rfl hr Try.underlying24 rfl (by kernel_rfl)) rfl ⟨_, _, _, rfl, hB⟩
  · have d0 : (k == 0) = false := by simpa using e0
    have d1 : (k == 1) = false := by simpa using e1
    have d2 : (k == 2) = false := by simpa using e2
    clear e0 e1 e2
    obtain ⟨q0, q1, q2⟩ := three_cell r6
    obtain ⟨p0', hp0⟩ := Option.isSome_iff_exists.1 (t6 0 (by decide)).1
    obtain ⟨p1', hp1⟩ := Option.isSome_iff_exists.1 (t6 1 (by decide)).1
    obtain ⟨p2', hp2⟩ := Option.isSome_iff_exists.1 (t6 2 (by decide)).1
    have f0 := (t6 0 (by decide)).2
    have f1 := (t6 1 (by decide)).2
    have f2 := (t6 2 (by decide)).2
    have g0 := (u6 0 (by decide)).2
    have g1 := (u6 1 (by decide)).2
    have g2 := (u6 2 (by decide)).2
    simp at f0 f1 f2 g0 g1 g2 hp0 hp1 hp2
    go_wp2_with (fail)
    obtain ⟨hr, hB⟩ := three_done t6 B6 (by omega) (1 + x) (1 + y) (1 + z)
    exact bodyPost_ret (results_cell_mid rfl _ _ w.heap.size 0 _ _ rfl hr Try.underlying24 rfl (by kernel_rfl)) rfl ⟨_, _, _, rfl, hB⟩

set_option maxHeartbeats 1000000 in
theorem drawCfg_any (a : Option Addr) (len cap : Nat) (zs : List Int) (w : World) (h : Row w a len cap zs) :
    Calls Try.prog 10 #[.slice a len cap] w fun e w' => ∃ s q l : Int, e = .returned (.agg #[.int .i64 s, .int .i64 q, .int .i64 l]) ∧ Below w.heap.size w w' := by
  go_enter Try.func10, Try.ntmps10
  go_wp2_with (fail)
  have h1 := h.below (below1 w (.cells #[.int .i64 0, .int .i64 0, .int .i64 0] 24))
  have t1 := there_lit (ints [0, 0, 0]).toArray (heap1_0 w (.cells #[.int .i64 0, .int .i64 0, .int .i64 0] 24))
  have B1 := below1 w (.cells #[.int .i64 0, .int .i64 0, .int .i64 0] 24)
  have z1 : w.heap.size + 1 ≤ (w.alloc (.cells #[.int .i64 0, .int .i64 0, .int .i64 0] 24)).heap.size := by simp
  refine (open_any a len cap zs _ h1).mono ?_
  generalize w.alloc (.cells #[.int .i64 0, .int .i64 0, .int .i64 0] 24) = W at *
  rintro e w2 ⟨rfl, ⟨n, c, hr⟩, hb⟩
  have hlt := hr.lt
  go_wp2_with (fail)
  refine (bent_any W.heap.size a n c zs 0 w2 hr (by omega)).mono ?_
  rintro e w3 ⟨s, q, l, rfl, hb3⟩
  have b3 := hb.trans hb3
  have t3 : w3.there w.heap.size 0 3 := there_below b3 t1 (by omega)
  have B3 := B1.trans (b3.mono (by omega))
  obtain ⟨p0', hp0⟩ := Option.isSome_iff_exists.1 (t3 0 (by decide)).1
  obtain ⟨p1', hp1⟩ := Option.isSome_iff_exists.1 (t3 1 (by decide)).1
  obtain ⟨p2', hp2⟩ := Option.isSome_iff_exists.1 (t3 2 (by decide)).1
  have f0 := (t3 0 (by decide)).2
  have f1 := (t3 1 (by decide)).2
  have f2 := (t3 2 (by decide)).2
  simp at f0 f1 f2 hp0 hp1 hp2
  clear b3 hb hb3 t1 B1 h1
  go_wp2_with (fail)
  obtain ⟨hr, hB⟩ := three_done t3 B3 (Nat.le_refl _) s q l
  exact bodyPost_ret (results_cell_mid rfl _ _ w.heap.size 0 _ _ rfl hr Try.underlying24 rfl (by kernel_rfl)) rfl ⟨s, q, l, rfl, hB⟩

end Go.Proofs.Ytfijhclocncplaa.Draw

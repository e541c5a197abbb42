/- Of which house some words are, by the program. Conditions: at most 1,000,000,000 words, each of 64 bits. -/
import Derived.Test.YtgfbfgiohmdjmaaGreatM3
import Derived.Test.YtgfbfgiohmdjmaaGreatM8
import Derived.Laws.ResultCell
namespace Go.Proofs.YtgfbfgiohmdjmaaGreat.Plat
open Go.ChangeShapes Go.WideShapes Go.ChangeAt Go.RowKit
open Words Aid Lst

def cS (x : Int) : Int := lo32 x % 8
def cP (x : Int) : Int := lo32 x / 8 % 8
def cL (x : Int) : Int := lo32 x / 64

theorem cfgOf_any (x : Int) (w : World) (h0 : 0 ≤ x) (h1 : x < 18446744073709551616) :
    Calls Tryz.prog 97 #[.int .u64 x] w fun e w' => e = .returned (.agg #[.int .i64 (cS x), .int .i64 (cP x), .int .i64 (cL x)]) ∧ Below w.heap.size w w' := by
  have l0 := lo32_lo x
  have l1 := lo32_hi x
  have a7 := and7 (lo32 x) l0 l1
  have b7 := and7 (lo32 x / 8) (by omega) (by omega)
  go_enter Tryz.func97, Tryz.ntmps97
  go_wp2_with (go_at_call 101; refine (val_any x _ h0 h1).mono ?_; rintro e w' ⟨rfl, rfl⟩)
  exact bodyPost_ret (v := .agg #[.int .i64 (cS x), .int .i64 (cP x), .int .i64 (cL x)]) (by simp [results, Tryz.results97, go_sem, cS, cP, cL]) rfl ⟨rfl, below1 _ _⟩

/- Whether the first of n words says that they are a house's. -/
def good (n : Nat) (x : Int) : Bool := decide (0 < n ∧ x / 4294967296 = 201115 ∧ (n : Int) = size (cS x) (cP x) (cL x))

theorem two_cell {w : World} {b : Nat} {x y z : Int} (r : w.rangeAt b 0 (ints [x, y, z])) : w.cell? ⟨b, 0, none⟩ = some (.int .i64 x) ∧ w.cell? ⟨b, 1, none⟩ = some (.int .i64 y) ∧ w.cell? ⟨b, 2, none⟩ = some (.int .i64 z) := ⟨r 0 _ rfl, r 1 _ rfl, r 2 _ rfl⟩

theorem results_cell_tmp_mid {P : Program} {fn : Func} {q u : Tmp} {ty : TypeId} (h : fn.results = #[.cell q ty, .tmp u]) (tmps : Array Value) (w : World) (b o : Nat) (cs : List Value) (d : TypeDesc)
    (hp : tmps.getD q undef = .pointer (some ⟨b, o, none⟩)) (hc : w.rangeAt b o cs) (hu : P.underlying ty = some d) (hd : d.isRow = true) (hi : (P.info? ty).map (·.size) = some cs.length) :
    (results fn tmps).run P w = .ok (.tuple #[.agg cs.toArray, tmps.getD u undef]) w := by
  rw [results_cell_tmp h, hp]
  simp [asAddr, run_loadVar_mid w b o ty cs d hc hu hd hi]

/- A struct of three ints is stored. -/
theorem chk_done {w w2 : World} {b B : Nat} (t : w2.there b 0 3) (h : Below B w w2) (hb : B ≤ b) (x y z : Int) :
    (((w2.setCell ⟨b, 0, none⟩ (.int .i64 x)).setCell ⟨b, 1, none⟩ (.int .i64 y)).setCell ⟨b, 2, none⟩ (.int .i64 z)).rangeAt b 0 (ints [x, y, z]) ∧
    Below B w (((w2.setCell ⟨b, 0, none⟩ (.int .i64 x)).setCell ⟨b, 1, none⟩ (.int .i64 y)).setCell ⟨b, 2, none⟩ (.int .i64 z)) :=
  ⟨World.rangeAt_setCells_same w2 b 0 (ints [x, y, z]) t, ((h.setCell hb _).setCell hb _).setCell hb _⟩

set_option maxHeartbeats 1000000 in
theorem named_none (a : Option Addr) (cap : Nat) (w : World) :
    Calls Tryz.prog 60 #[.slice a 0 cap] w fun e w' => e = .returned (.tuple #[.agg #[.int .i64 0, .int .i64 0, .int .i64 0], .bool false]) ∧ Below w.heap.size w w' := by
  go_enter Tryz.func60, Tryz.ntmps60
  go_wp2_with (fail)
  refine (seek_out a 0 cap 0 _ (fun _ => rfl) (by omega)).mono ?_
  rintro e w1 ⟨rfl, hb1⟩
  have hz1 := hb1.size
  simp at hz1
  have r1 : w1.rangeAt w.heap.size 0 (ints [0, 0, 0]) := range_below hb1 (range_lit (ints [0, 0, 0]).toArray (heap1_0 _ _)) (by simp)
  have t1 : w1.there w.heap.size 0 3 := there_below hb1 (there_lit (ints [0, 0, 0]).toArray (heap1_0 _ _)) (by simp)
  have B1 : Below w.heap.size w w1 := (below1 _ _).trans (hb1.mono (by simp))
  clear hb1
  go_wp2_with (fail)
  refine (cfgOf_any 0 w1 (by omega) (by omega)).mono ?_
  rintro e w2 ⟨rfl, hb2⟩
  have hz2 := hb2.size
  have r2 := range_below hb2 r1 (by omega)
  have t2 := there_below hb2 t1 (by omega)
  have B2 := B1.trans (hb2.mono (by omega))
  clear hb2 r1 t1 B1
  obtain ⟨q0, q1, q2⟩ := two_cell r2
  have u0 := (t2 0 (by omega)).2
  have u1 := (t2 1 (by omega)).2
  have u2 := (t2 2 (by omega)).2
  simp at u0 u1 u2
  have hlt : w.heap.size < w2.heap.size := by omega
  clear r2
  go_wp2_with (fail)
  obtain ⟨hr, hB⟩ := chk_done t2 B2 (Nat.le_refl _) 0 0 0
  exact bodyPost_ret (results_cell_tmp_mid rfl _ _ w.heap.size 0 _ _ rfl (World.rangeAt_alloc hr _) Tryz.underlying62 rfl (by kernel_rfl)) rfl ⟨rfl, hB.alloc (by simp [World.setCell]; omega) _⟩

set_option maxHeartbeats 1000000 in
theorem named_stamp (b0 off n cap : Nat) (x : Int) (w : World) (hn0 : 0 < n) (hn : n ≤ 1000000000) (hc : w.cell? ⟨b0, off, none⟩ = some (.int .u64 x)) (h0 : 0 ≤ x) (h1 : x < 18446744073709551616) (hst : (x / 4294967296 != 201115) = true) :
    Calls Tryz.prog 60 #[.slice (some ⟨b0, off, none⟩) n cap] w fun e w' => e = .returned (.tuple #[.agg #[.int .i64 0, .int .i64 0, .int .i64 0], .bool false]) ∧ Below w.heap.size w w' := by
  go_enter Tryz.func60, Tryz.ntmps60
  go_wp2_with (fail)
  refine (seek_in b0 off n cap 0 x _ hn0 (by rw [Nat.add_zero, World.cell?_alloc_lt _ _ _ (World.block_lt_of_cell? w _ hc)]; exact hc) hn).mono ?_
  rintro e w1 ⟨rfl, hb1⟩
  have hz1 := hb1.size
  simp at hz1
  have r1 : w1.rangeAt w.heap.size 0 (ints [0, 0, 0]) := range_below hb1 (range_lit (ints [0, 0, 0]).toArray (heap1_0 _ _)) (by simp)
  have t1 : w1.there w.heap.size 0 3 := there_below hb1 (there_lit (ints [0, 0, 0]).toArray (heap1_0 _ _)) (by simp)
  have B1 : Below w.heap.size w w1 := (below1 _ _).trans (hb1.mono (by simp))
  clear hb1
  go_wp2_with (fail)
  refine (cfgOf_any x w1 h0 h1).mono ?_
  rintro e w2 ⟨rfl, hb2⟩
  have hz2 := hb2.size
  have r2 := range_below hb2 r1 (by omega)
  have t2 := there_below hb2 t1 (by omega)
  have B2 := B1.trans (hb2.mono (by omega))
  clear hb2 r1 t1 B1
  obtain ⟨q0, q1, q2⟩ := two_cell r2
  have u0 := (t2 0 (by omega)).2
  have u1 := (t2 1 (by omega)).2
  have u2 := (t2 2 (by omega)).2
  simp at u0 u1 u2
  have hlt : w.heap.size < w2.heap.size := by omega
  clear r2
  go_wp2_with (go_at_call 75; refine (st_any x _ h0 h1).mono ?_; rintro e w' ⟨rfl, rfl⟩)
  obtain ⟨hr, hB⟩ := chk_done t2 B2 (Nat.le_refl _) 0 0 0
  exact bodyPost_ret (results_cell_tmp_mid rfl _ _ w.heap.size 0 _ _ rfl (World.rangeAt_alloc hr _) Tryz.underlying62 rfl (by kernel_rfl)) rfl ⟨rfl, hB.alloc (by simp [World.setCell]; omega) _⟩

set_option maxHeartbeats 1000000 in
theorem named_bad (b0 off n cap : Nat) (x : Int) (w : World) (hn0 : 0 < n) (hn : n ≤ 1000000000) (hc : w.cell? ⟨b0, off, none⟩ = some (.int .u64 x)) (h0 : 0 ≤ x) (h1 : x < 18446744073709551616) (hst : (x / 4294967296 != 201115) = false) (hok : okB (cS x) (cP x) (cL x) = false) :
    Calls Tryz.prog 60 #[.slice (some ⟨b0, off, none⟩) n cap] w fun e w' => e = .returned (.tuple #[.agg #[.int .i64 0, .int .i64 0, .int .i64 0], .bool false]) ∧ Below w.heap.size w w' := by
  go_enter Tryz.func60, Tryz.ntmps60
  go_wp2_with (fail)
  refine (seek_in b0 off n cap 0 x _ hn0 (by rw [Nat.add_zero, World.cell?_alloc_lt _ _ _ (World.block_lt_of_cell? w _ hc)]; exact hc) hn).mono ?_
  rintro e w1 ⟨rfl, hb1⟩
  have hz1 := hb1.size
  simp at hz1
  have r1 : w1.rangeAt w.heap.size 0 (ints [0, 0, 0]) := range_below hb1 (range_lit (ints [0, 0, 0]).toArray (heap1_0 _ _)) (by simp)
  have t1 : w1.there w.heap.size 0 3 := there_below hb1 (there_lit (ints [0, 0, 0]).toArray (heap1_0 _ _)) (by simp)
  have B1 : Below w.heap.size w w1 := (below1 _ _).trans (hb1.mono (by simp))
  clear hb1
  go_wp2_with (fail)
  refine (cfgOf_any x w1 h0 h1).mono ?_
  rintro e w2 ⟨rfl, hb2⟩
  have hz2 := hb2.size
  have r2 := range_below hb2 r1 (by omega)
  have t2 := there_below hb2 t1 (by omega)
  have B2 := B1.trans (hb2.mono (by omega))
  clear hb2 r1 t1 B1
  obtain ⟨q0, q1, q2⟩ := two_cell r2
  have u0 := (t2 0 (by omega)).2
  have u1 := (t2 1 (by omega)).2
  have u2 := (t2 2 (by omega)).2
  simp at u0 u1 u2
  have hlt : w.heap.size < w2.heap.size := by omega
  clear r2
  go_wp2_with (go_at_call 75; refine (st_any x _ h0 h1).mono ?_; rintro e w' ⟨rfl, rfl⟩)
  have r3 : (w2.alloc (.cells #[.int .i64 (cS x), .int .i64 (cP x), .int .i64 (cL x)] 62)).rangeAt w2.heap.size 0 (ints [cS x, cP x, cL x]) := range_lit (ints [cS x, cP x, cL x]).toArray (heap1_0 _ _)
  have t3 := World.there_alloc t2 (.cells #[.int .i64 (cS x), .int .i64 (cP x), .int .i64 (cL x)] 62)
  have B3 := B2.alloc (by omega) (.cells #[.int .i64 (cS x), .int .i64 (cP x), .int .i64 (cL x)] 62)
  have hz3 : (w2.alloc (.cells #[.int .i64 (cS x), .int .i64 (cP x), .int .i64 (cL x)] 62)).heap.size = w2.heap.size + 1 := by simp
  refine (ok_any (cS x) (cP x) (cL x) _).mono ?_
  generalize w2.alloc (.cells #[.int .i64 (cS x), .int .i64 (cP x), .int .i64 (cL x)] 62) = w3 at r3 t3 B3 hz3 ⊢
  rintro e w4 ⟨rfl, hb4⟩
  rw [hok]
  have hz4 := hb4.size
  have r4 := range_below hb4 r3 (by omega)
  have t4 := there_below hb4 t3 (by omega)
  have B4 := B3.trans (hb4.mono (by omega))
  clear hb4 r3 t3 B3 t2 B2 q0 q1 q2 u0 u1 u2
  obtain ⟨q0, q1, q2⟩ := two_cell r4
  obtain ⟨p0, hp0⟩ := Option.isSome_iff_exists.1 (t4 0 (by omega)).1
  obtain ⟨p1, hp1⟩ := Option.isSome_iff_exists.1 (t4 1 (by omega)).1
  obtain ⟨p2, hp2⟩ := Option.isSome_iff_exists.1 (t4 2 (by omega)).1
  have u0 := (t4 0 (by omega)).2
  have u1 := (t4 1 (by omega)).2
  have u2 := (t4 2 (by omega)).2
  simp at u0 u1 u2 hp0 hp1 hp2
  clear r4 hz3
  go_wp2_with (fail)
  obtain ⟨hr, hB⟩ := chk_done t4 B4 (Nat.le_refl _) 0 0 0
  exact bodyPost_ret (results_cell_tmp_mid rfl _ _ w.heap.size 0 _ _ rfl hr Tryz.underlying62 rfl (by kernel_rfl)) rfl ⟨rfl, hB⟩

set_option maxHeartbeats 1000000 in
theorem named_ok (b0 off n cap : Nat) (x : Int) (w : World) (hn0 : 0 < n) (hn : n ≤ 1000000000) (hc : w.cell? ⟨b0, off, none⟩ = some (.int .u64 x)) (h0 : 0 ≤ x) (h1 : x < 18446744073709551616) (hst : (x / 4294967296 != 201115) = false) (hok : okB (cS x) (cP x) (cL x) = true) :
    Calls Tryz.prog 60 #[.slice (some ⟨b0, off, none⟩) n cap] w fun e w' => e = .returned (.tuple #[.agg #[.int .i64 (cS x), .int .i64 (cP x), .int .i64 (cL x)], .bool true]) ∧ Below w.heap.size w w' := by
  go_enter Tryz.func60, Tryz.ntmps60
  go_wp2_with (fail)
  refine (seek_in b0 off n cap 0 x _ hn0 (by rw [Nat.add_zero, World.cell?_alloc_lt _ _ _ (World.block_lt_of_cell? w _ hc)]; exact hc) hn).mono ?_
  rintro e w1 ⟨rfl, hb1⟩
  have hz1 := hb1.size
  simp at hz1
  have r1 : w1.rangeAt w.heap.size 0 (ints [0, 0, 0]) := range_below hb1 (range_lit (ints [0, 0, 0]).toArray (heap1_0 _ _)) (by simp)
  have t1 : w1.there w.heap.size 0 3 := there_below hb1 (there_lit (ints [0, 0, 0]).toArray (heap1_0 _ _)) (by simp)
  have B1 : Below w.heap.size w w1 := (below1 _ _).trans (hb1.mono (by simp))
  clear hb1
  go_wp2_with (fail)
  refine (cfgOf_any x w1 h0 h1).mono ?_
  rintro e w2 ⟨rfl, hb2⟩
  have hz2 := hb2.size
  have r2 := range_below hb2 r1 (by omega)
  have t2 := there_below hb2 t1 (by omega)
  have B2 := B1.trans (hb2.mono (by omega))
  clear hb2 r1 t1 B1
  obtain ⟨q0, q1, q2⟩ := two_cell r2
  have u0 := (t2 0 (by omega)).2
  have u1 := (t2 1 (by omega)).2
  have u2 := (t2 2 (by omega)).2
  simp at u0 u1 u2
  have hlt : w.heap.size < w2.heap.size := by omega
  clear r2
  go_wp2_with (go_at_call 75; refine (st_any x _ h0 h1).mono ?_; rintro e w' ⟨rfl, rfl⟩)
  have r3 : (w2.alloc (.cells #[.int .i64 (cS x), .int .i64 (cP x), .int .i64 (cL x)] 62)).rangeAt w2.heap.size 0 (ints [cS x, cP x, cL x]) := range_lit (ints [cS x, cP x, cL x]).toArray (heap1_0 _ _)
  have t3 := World.there_alloc t2 (.cells #[.int .i64 (cS x), .int .i64 (cP x), .int .i64 (cL x)] 62)
  have B3 := B2.alloc (by omega) (.cells #[.int .i64 (cS x), .int .i64 (cP x), .int .i64 (cL x)] 62)
  have hz3 : (w2.alloc (.cells #[.int .i64 (cS x), .int .i64 (cP x), .int .i64 (cL x)] 62)).heap.size = w2.heap.size + 1 := by simp
  refine (ok_any (cS x) (cP x) (cL x) _).mono ?_
  generalize w2.alloc (.cells #[.int .i64 (cS x), .int .i64 (cP x), .int .i64 (cL x)] 62) = w3 at r3 t3 B3 hz3 ⊢
  rintro e w4 ⟨rfl, hb4⟩
  rw [hok]
  have hz4 := hb4.size
  have r4 := range_below hb4 r3 (by omega)
  have t4 := there_below hb4 t3 (by omega)
  have B4 := B3.trans (hb4.mono (by omega))
  clear hb4 r3 t3 B3 t2 B2 q0 q1 q2 u0 u1 u2
  obtain ⟨q0, q1, q2⟩ := two_cell r4
  obtain ⟨p0, hp0⟩ := Option.isSome_iff_exists.1 (t4 0 (by omega)).1
  obtain ⟨p1, hp1⟩ := Option.isSome_iff_exists.1 (t4 1 (by omega)).1
  obtain ⟨p2, hp2⟩ := Option.isSome_iff_exists.1 (t4 2 (by omega)).1
  have u0 := (t4 0 (by omega)).2
  have u1 := (t4 1 (by omega)).2
  have u2 := (t4 2 (by omega)).2
  simp at u0 u1 u2 hp0 hp1 hp2
  clear r4 hz3
  go_wp2_with (fail)
  obtain ⟨hr, hB⟩ := chk_done t4 B4 (Nat.le_refl _) (cS x) (cP x) (cL x)
  exact bodyPost_ret (results_cell_tmp_mid rfl _ _ w.heap.size 0 _ _ rfl hr Tryz.underlying62 rfl (by kernel_rfl)) rfl ⟨rfl, hB⟩

/- Whether the first of n words names a house. -/
def kn (n : Nat) (f : Nat → Int) : Bool := decide (0 < n ∧ f 0 / 4294967296 = 201115 ∧ okB (cS (f 0)) (cP (f 0)) (cL (f 0)) = true)
def kS (n : Nat) (f : Nat → Int) : Int := if kn n f = true then cS (f 0) else 0
def kP (n : Nat) (f : Nat → Int) : Int := if kn n f = true then cP (f 0) else 0
def kL (n : Nat) (f : Nat → Int) : Int := if kn n f = true then cL (f 0) else 0
theorem kn_f {n : Nat} {f : Nat → Int} (h : ¬ (0 < n ∧ f 0 / 4294967296 = 201115 ∧ okB (cS (f 0)) (cP (f 0)) (cL (f 0)) = true)) : kn n f = false := decide_eq_false h
theorem kn_t {n : Nat} {f : Nat → Int} (h : 0 < n ∧ f 0 / 4294967296 = 201115 ∧ okB (cS (f 0)) (cP (f 0)) (cL (f 0)) = true) : kn n f = true := decide_eq_true h
theorem kn_of {n : Nat} {f : Nat → Int} (h : kn n f = true) : 0 < n ∧ f 0 / 4294967296 = 201115 ∧ okB (cS (f 0)) (cP (f 0)) (cL (f 0)) = true := of_decide_eq_true h
theorem knk_f {n : Nat} {f : Nat → Int} (h : kn n f = false) : Ending.returned (.tuple #[.agg #[.int .i64 0, .int .i64 0, .int .i64 0], .bool false]) = .returned (.tuple #[.agg #[.int .i64 (kS n f), .int .i64 (kP n f), .int .i64 (kL n f)], .bool (kn n f)]) := by
  unfold kS kP kL; rw [h]; rfl
theorem knk_t {n : Nat} {f : Nat → Int} (h : kn n f = true) : Ending.returned (.tuple #[.agg #[.int .i64 (cS (f 0)), .int .i64 (cP (f 0)), .int .i64 (cL (f 0))], .bool true]) = .returned (.tuple #[.agg #[.int .i64 (kS n f), .int .i64 (kP n f), .int .i64 (kL n f)], .bool (kn n f)]) := by
  unfold kS kP kL; rw [h]; rfl

theorem named_all (a : Option Addr) (n cap : Nat) (f : Nat → Int) (w : World) (h : Sl .u64 w a n f) (hn : n ≤ 1000000000) (h0 : ∀ j, j < n → 0 ≤ f j ∧ f j < 18446744073709551616) :
    Calls Tryz.prog 60 #[.slice a n cap] w fun e w' => e = .returned (.tuple #[.agg #[.int .i64 (kS n f), .int .i64 (kP n f), .int .i64 (kL n f)], .bool (kn n f)]) ∧ Below w.heap.size w w' := by
  by_cases hz : n = 0
  · subst hz
    exact (named_none a cap w).mono fun e w' ⟨he, hw⟩ => ⟨he.trans (knk_f (kn_f (by omega))), hw⟩
  · rcases h with h | ⟨b, off, rfl, h⟩
    · exact absurd h hz
    · have hc := h 0 (by omega)
      rw [Nat.add_zero] at hc
      obtain ⟨x0, x1⟩ := h0 0 (by omega)
      by_cases hst : f 0 / 4294967296 = 201115
      · by_cases hok : okB (cS (f 0)) (cP (f 0)) (cL (f 0)) = true
        · exact (named_ok b off n cap (f 0) w (by omega) hn hc x0 x1 (by simp [hst]) hok).mono fun e w' ⟨he, hw⟩ => ⟨he.trans (knk_t (kn_t ⟨by omega, hst, hok⟩)), hw⟩
        · exact (named_bad b off n cap (f 0) w (by omega) hn hc x0 x1 (by simp [hst]) (by simpa using hok)).mono fun e w' ⟨he, hw⟩ => ⟨he.trans (knk_f (kn_f (fun h => hok h.2.2))), hw⟩
      · exact (named_stamp b off n cap (f 0) w (by omega) hn hc x0 x1 (by simpa using hst)).mono fun e w' ⟨he, hw⟩ => ⟨he.trans (knk_f (kn_f (fun h => hst h.2.1))), hw⟩

set_option maxHeartbeats 1000000 in
theorem check_no (a : Option Addr) (n cap : Nat) (f : Nat → Int) (w : World) (h : Sl .u64 w a n f) (hn : n ≤ 1000000000) (h0 : ∀ j, j < n → 0 ≤ f j ∧ f j < 18446744073709551616) (hk : kn n f = false) :
    Calls Tryz.prog 37 #[.slice a n cap] w fun e w' => e = .returned (.tuple #[.agg #[.int .i64 0, .int .i64 0, .int .i64 0], .bool false]) ∧ Below w.heap.size w w' := by
  have hsl := h.later (below1 w (.cells #[.int .i64 0, .int .i64 0, .int .i64 0] 62))
  clear h
  go_enter Tryz.func37, Tryz.ntmps37
  go_wp2_with (fail)
  refine (named_all a n cap f _ hsl hn h0).mono ?_
  rintro e w1 ⟨rfl, hb1⟩
  have k0 : kS n f = 0 := by unfold kS; rw [hk]; rfl
  have k1 : kP n f = 0 := by unfold kP; rw [hk]; rfl
  have k2 : kL n f = 0 := by unfold kL; rw [hk]; rfl
  rw [hk, k0, k1, k2]
  have hz1 := hb1.size
  simp at hz1
  have r1 : w1.rangeAt w.heap.size 0 (ints [0, 0, 0]) := range_below hb1 (range_lit (ints [0, 0, 0]).toArray (heap1_0 _ _)) (by simp)
  have t1 : w1.there w.heap.size 0 3 := there_below hb1 (there_lit (ints [0, 0, 0]).toArray (heap1_0 _ _)) (by simp)
  have B1 : Below w.heap.size w w1 := (below1 _ _).trans (hb1.mono (by simp))
  clear hb1 hsl
  obtain ⟨q0, q1, q2⟩ := two_cell r1
  have u0 := (t1 0 (by omega)).2
  have u1 := (t1 1 (by omega)).2
  have u2 := (t1 2 (by omega)).2
  simp at u0 u1 u2
  have hlt : w.heap.size < w1.heap.size := by omega
  clear r1
  go_wp2_with (fail)
  obtain ⟨hr, hB⟩ := chk_done t1 B1 (Nat.le_refl _) 0 0 0
  exact bodyPost_ret (results_cell_tmp_mid rfl _ _ w.heap.size 0 _ _ rfl (World.rangeAt_alloc hr _) Tryz.underlying62 rfl (by kernel_rfl)) rfl ⟨rfl, hB.alloc (by simp [World.setCell]; omega) _⟩

set_option maxHeartbeats 1000000 in
theorem check_size (a : Option Addr) (n cap : Nat) (f : Nat → Int) (w : World) (h : Sl .u64 w a n f) (hn : n ≤ 1000000000) (h0 : ∀ j, j < n → 0 ≤ f j ∧ f j < 18446744073709551616) (hk : kn n f = true) (hsz : ((n : Int) != size (cS (f 0)) (cP (f 0)) (cL (f 0))) = true) :
    Calls Tryz.prog 37 #[.slice a n cap] w fun e w' => e = .returned (.tuple #[.agg #[.int .i64 0, .int .i64 0, .int .i64 0], .bool false]) ∧ Below w.heap.size w w' := by
  have hsl := h.later (below1 w (.cells #[.int .i64 0, .int .i64 0, .int .i64 0] 62))
  clear h
  go_enter Tryz.func37, Tryz.ntmps37
  go_wp2_with (fail)
  refine (named_all a n cap f _ hsl hn h0).mono ?_
  rintro e w1 ⟨rfl, hb1⟩
  have k0 : kS n f = cS (f 0) := by unfold kS; rw [hk]; rfl
  have k1 : kP n f = cP (f 0) := by unfold kP; rw [hk]; rfl
  have k2 : kL n f = cL (f 0) := by unfold kL; rw [hk]; rfl
  rw [hk, k0, k1, k2]
  have hz1 := hb1.size
  simp at hz1
  have r1 : w1.rangeAt w.heap.size 0 (ints [0, 0, 0]) := range_below hb1 (range_lit (ints [0, 0, 0]).toArray (heap1_0 _ _)) (by simp)
  have t1 : w1.there w.heap.size 0 3 := there_below hb1 (there_lit (ints [0, 0, 0]).toArray (heap1_0 _ _)) (by simp)
  have B1 : Below w.heap.size w w1 := (below1 _ _).trans (hb1.mono (by simp))
  clear hb1 hsl
  obtain ⟨q0, q1, q2⟩ := two_cell r1
  have u0 := (t1 0 (by omega)).2
  have u1 := (t1 1 (by omega)).2
  have u2 := (t1 2 (by omega)).2
  simp at u0 u1 u2
  have hlt : w.heap.size < w1.heap.size := by omega
  clear r1
  go_wp2_with (fail)
  have r3 : (w1.alloc (.cells #[.int .i64 (cS (f 0)), .int .i64 (cP (f 0)), .int .i64 (cL (f 0))] 62)).rangeAt w1.heap.size 0 (ints [cS (f 0), cP (f 0), cL (f 0)]) := range_lit (ints [cS (f 0), cP (f 0), cL (f 0)]).toArray (heap1_0 _ _)
  have t3 := World.there_alloc t1 (.cells #[.int .i64 (cS (f 0)), .int .i64 (cP (f 0)), .int .i64 (cL (f 0))] 62)
  have B3 := B1.alloc (by omega) (.cells #[.int .i64 (cS (f 0)), .int .i64 (cP (f 0)), .int .i64 (cL (f 0))] 62)
  have hz3 : (w1.alloc (.cells #[.int .i64 (cS (f 0)), .int .i64 (cP (f 0)), .int .i64 (cL (f 0))] 62)).heap.size = w1.heap.size + 1 := by simp
  refine (size_any (cS (f 0)) (cP (f 0)) (cL (f 0)) _).mono ?_
  generalize w1.alloc (.cells #[.int .i64 (cS (f 0)), .int .i64 (cP (f 0)), .int .i64 (cL (f 0))] 62) = w3 at r3 t3 B3 hz3 ⊢
  rintro e w4 ⟨rfl, hb4⟩
  have hz4 := hb4.size
  have r4 := range_below hb4 r3 (by omega)
  have t4 := there_below hb4 t3 (by omega)
  have B4 := B3.trans (hb4.mono (by omega))
  clear hb4 r3 t3 B3 t1 B1 q0 q1 q2 u0 u1 u2
  obtain ⟨q0, q1, q2⟩ := two_cell r4
  obtain ⟨p0, hp0⟩ := Option.isSome_iff_exists.1 (t4 0 (by omega)).1
  obtain ⟨p1, hp1⟩ := Option.isSome_iff_exists.1 (t4 1 (by omega)).1
  obtain ⟨p2, hp2⟩ := Option.isSome_iff_exists.1 (t4 2 (by omega)).1
  have u0 := (t4 0 (by omega)).2
  have u1 := (t4 1 (by omega)).2
  have u2 := (t4 2 (by omega)).2
  simp at u0 u1 u2 hp0 hp1 hp2
  clear r4 hz3
  go_wp2_with (fail)
  obtain ⟨hr, hB⟩ := chk_done t4 B4 (Nat.le_refl _) 0 0 0
  exact bodyPost_ret (results_cell_tmp_mid rfl _ _ w.heap.size 0 _ _ rfl hr Tryz.underlying62 rfl (by kernel_rfl)) rfl ⟨rfl, hB⟩

set_option maxHeartbeats 1000000 in
theorem check_ok (a : Option Addr) (n cap : Nat) (f : Nat → Int) (w : World) (h : Sl .u64 w a n f) (hn : n ≤ 1000000000) (h0 : ∀ j, j < n → 0 ≤ f j ∧ f j < 18446744073709551616) (hk : kn n f = true) (hsz : ((n : Int) != size (cS (f 0)) (cP (f 0)) (cL (f 0))) = false) :
    Calls Tryz.prog 37 #[.slice a n cap] w fun e w' => e = .returned (.tuple #[.agg #[.int .i64 (cS (f 0)), .int .i64 (cP (f 0)), .int .i64 (cL (f 0))], .bool true]) ∧ Below w.heap.size w w' := by
  have hsl := h.later (below1 w (.cells #[.int .i64 0, .int .i64 0, .int .i64 0] 62))
  clear h
  go_enter Tryz.func37, Tryz.ntmps37
  go_wp2_with (fail)
  refine (named_all a n cap f _ hsl hn h0).mono ?_
  rintro e w1 ⟨rfl, hb1⟩
  have k0 : kS n f = cS (f 0) := by unfold kS; rw [hk]; rfl
  have k1 : kP n f = cP (f 0) := by unfold kP; rw [hk]; rfl
  have k2 : kL n f = cL (f 0) := by unfold kL; rw [hk]; rfl
  rw [hk, k0, k1, k2]
  have hz1 := hb1.size
  simp at hz1
  have r1 : w1.rangeAt w.heap.size 0 (ints [0, 0, 0]) := range_below hb1 (range_lit (ints [0, 0, 0]).toArray (heap1_0 _ _)) (by simp)
  have t1 : w1.there w.heap.size 0 3 := there_below hb1 (there_lit (ints [0, 0, 0]).toArray (heap1_0 _ _)) (by simp)
  have B1 : Below w.heap.size w w1 := (below1 _ _).trans (hb1.mono (by simp))
  clear hb1 hsl
  obtain ⟨q0, q1, q2⟩ := two_cell r1
  have u0 := (t1 0 (by omega)).2
  have u1 := (t1 1 (by omega)).2
  have u2 := (t1 2 (by omega)).2
  simp at u0 u1 u2
  have hlt : w.heap.size < w1.heap.size := by omega
  clear r1
  go_wp2_with (fail)
  have r3 : (w1.alloc (.cells #[.int .i64 (cS (f 0)), .int .i64 (cP (f 0)), .int .i64 (cL (f 0))] 62)).rangeAt w1.heap.size 0 (ints [cS (f 0), cP (f 0), cL (f 0)]) := range_lit (ints [cS (f 0), cP (f 0), cL (f 0)]).toArray (heap1_0 _ _)
  have t3 := World.there_alloc t1 (.cells #[.int .i64 (cS (f 0)), .int .i64 (cP (f 0)), .int .i64 (cL (f 0))] 62)
  have B3 := B1.alloc (by omega) (.cells #[.int .i64 (cS (f 0)), .int .i64 (cP (f 0)), .int .i64 (cL (f 0))] 62)
  have hz3 : (w1.alloc (.cells #[.int .i64 (cS (f 0)), .int .i64 (cP (f 0)), .int .i64 (cL (f 0))] 62)).heap.size = w1.heap.size + 1 := by simp
  refine (size_any (cS (f 0)) (cP (f 0)) (cL (f 0)) _).mono ?_
  generalize w1.alloc (.cells #[.int .i64 (cS (f 0)), .int .i64 (cP (f 0)), .int .i64 (cL (f 0))] 62) = w3 at r3 t3 B3 hz3 ⊢
  rintro e w4 ⟨rfl, hb4⟩
  have hz4 := hb4.size
  have r4 := range_below hb4 r3 (by omega)
  have t4 := there_below hb4 t3 (by omega)
  have B4 := B3.trans (hb4.mono (by omega))
  clear hb4 r3 t3 B3 t1 B1 q0 q1 q2 u0 u1 u2
  obtain ⟨q0, q1, q2⟩ := two_cell r4
  obtain ⟨p0, hp0⟩ := Option.isSome_iff_exists.1 (t4 0 (by omega)).1
  obtain ⟨p1, hp1⟩ := Option.isSome_iff_exists.1 (t4 1 (by omega)).1
  obtain ⟨p2, hp2⟩ := Option.isSome_iff_exists.1 (t4 2 (by omega)).1
  have u0 := (t4 0 (by omega)).2
  have u1 := (t4 1 (by omega)).2
  have u2 := (t4 2 (by omega)).2
  simp at u0 u1 u2 hp0 hp1 hp2
  clear r4 hz3
  go_wp2_with (fail)
  obtain ⟨hr, hB⟩ := chk_done t4 B4 (Nat.le_refl _) (cS (f 0)) (cP (f 0)) (cL (f 0))
  exact bodyPost_ret (results_cell_tmp_mid rfl _ _ w.heap.size 0 _ _ rfl hr Tryz.underlying62 rfl (by kernel_rfl)) rfl ⟨rfl, hB⟩

end Go.Proofs.YtgfbfgiohmdjmaaGreat.Plat

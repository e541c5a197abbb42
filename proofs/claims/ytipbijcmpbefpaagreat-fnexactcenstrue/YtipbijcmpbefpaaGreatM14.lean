import Derived.Test.YtipbijcmpbefpaaGreatM9
import Derived.Test.YtipbijcmpbefpaaGreatM13
import Derived.Laws.ResultCell
import Derived.Test.YtipbijcmpbefpaaGreatM1
import Derived.Deep.RegionHeld3

/- Of which house some words are, by the program. Conditions: at most 1,000,000,000 words, each of 64 bits. -/
namespace Go.Proofs.YtipbijcmpbefpaaGreat.Plat
open Go.ChangeShapes Go.WideShapes Go.ChangeAt Go.RowKit
open Go.Proofs.YtipbijcmpbefpaaGreat.Words Go.Proofs.YtipbijcmpbefpaaGreat.Aid Go.Proofs.YtipbijcmpbefpaaGreat.Lst

def cS (x : Int) : Int := lo32 x % 8
def cP (x : Int) : Int := lo32 x / 8 % 8
def cL (x : Int) : Int := lo32 x / 64

theorem cfgOf_any (x : Int) (w : World) (h0 : 0 ≤ x) (h1 : x < 18446744073709551616) :
    Calls Tryz.prog 123 #[.int .u64 x] w fun e w' => e = .returned (.agg #[.int .i64 (cS x), .int .i64 (cP x), .int .i64 (cL x)]) ∧ Below w.heap.size w w' := by
  have l0 := lo32_lo x
  have l1 := lo32_hi x
  have a7 := and7 (lo32 x) l0 l1
  have b7 := and7 (lo32 x / 8) (by omega) (by omega)
  go_enter Tryz.func123, Tryz.ntmps123
  go_wp2_with (go_at_call 22; refine (val_any x _ h0 h1).mono ?_; rintro e w' ⟨rfl, rfl⟩)
  exact bodyPost_ret (v := .agg #[.int .i64 (cS x), .int .i64 (cP x), .int .i64 (cL x)]) (by simp [results, Tryz.results123, go_sem, cS, cP, cL]) rfl ⟨rfl, below1 _ _⟩

/- Whether the first of n words says that they are a house's. -/
def good (n : Nat) (x : Int) : Bool := decide (0 < n ∧ x / 4294967296 = 201115 ∧ (n : Int) = size (cS x) (cP x) (cL x))

theorem two_cell {w : World} {b : Nat} {x y z : Int} (r : w.rangeAt b 0 (ints [x, y, z])) : w.cell? ⟨b, 0, none⟩ = some (.int .i64 x) ∧ w.cell? ⟨b, 1, none⟩ = some (.int .i64 y) ∧ w.cell? ⟨b, 2, none⟩ = some (.int .i64 z) := ⟨r 0 _ rfl, r 1 _ rfl, r 2 _ rfl⟩

theorem results_cell_tmp_mid {P : Program} {fn : Func} {q u : Tmp} {ty : TypeId} (h : fn.results = #[.cell q ty, .tmp u]) (tmps : Array Value) (w : World) (b o : Nat) (cs : List Value) (d : TypeDesc)
    (hp : tmps.getD q undef = .pointer (some ⟨b, o, none⟩)) (hc : w.rangeAt b o cs) (hu : P.underlying ty = some d) (hd : d.isRow = true) (hi : (P.info? ty).map (·.size) = some cs.length) :
    (results fn tmps).run P w = .ok (.tuple #[.agg cs.toArray, tmps.getD u undef]) w := by
  rw [results_cell_tmp h, hp]
  simp [asAddr, run_loadVar_mid w b o ty cs d hc hu hd hi]

/- A struct of three ints is stored. -/
theorem chk_done {w w2 : World} {b B : Nat} (t : w2.there b 0 3) (h : Below B w w2) (hb : B ≤ b) (x y z : Int) :
    (((w2.setCell ⟨b, 0, none⟩ (.int .i64 x)).setCell ⟨b, 1, none⟩ (.int .i64 y)).setCell ⟨b, 2, none⟩ (.int .i64 z)).rangeAt b 0 (ints [x, y, z]) ∧
    Below B w (((w2.setCell ⟨b, 0, none⟩ (.int .i64 x)).setCell ⟨b, 1, none⟩ (.int .i64 y)).setCell ⟨b, 2, none⟩ (.int .i64 z)) :=
  ⟨World.rangeAt_setCells_same w2 b 0 (ints [x, y, z]) t, ((h.setCell hb _).setCell hb _).setCell hb _⟩

set_option maxHeartbeats 1000000 in
theorem named_none (a : Option Addr) (cap : Nat) (w : World) :
    Calls Tryz.prog 63 #[.slice a 0 cap] w fun e w' => e = .returned (.tuple #[.agg #[.int .i64 0, .int .i64 0, .int .i64 0], .bool false]) ∧ Below w.heap.size w w' := by
  go_enter Tryz.func63, Tryz.ntmps63
  go_wp2_with (fail)
  refine (seek_out a 0 cap 0 _ (fun _ => rfl) (by omega)).mono ?_
  rintro e w1 ⟨rfl, hb1⟩
  have hz1 := hb1.size
  simp at hz1
  have r1 : w1.rangeAt w.heap.size 0 (ints [0, 0, 0]) := range_below hb1 (range_lit (ints [0, 0, 0]).toArray (heap1_0 _ _)) (by simp)
  have t1 : w1.there w.heap.size 0 3 := there_below hb1 (there_lit (ints [0, 0, 0]).toArray (heap1_0 _ _)) (by simp)
  have B1 : Below w.heap.size w w1 := (below1 _ _).trans (hb1.mono (by simp))
  clear hb1
  go_wp2_with (fail)
  refine (cfgOf_any 0 w1 (by omega) (by omega)).mono ?_
  rintro e w2 ⟨rfl, hb2⟩
  have hz2 := hb2.size
  have r2 := range_below hb2 r1 (by omega)
  have t2 := there_below hb2 t1 (by omega)
  have B2 := B1.trans (hb2.mono (by omega))
  clear hb2 r1 t1 B1
  obtain ⟨q0, q1, q2⟩ := two_cell r2
  have u0 := (t2 0 (by omega)).2
  have u1 := (t2 1 (by omega)).2
  have u2 := (t2 2 (by omega)).2
  simp at u0 u1 u2
  have hlt : w.heap.size < w2.heap.size := by omega
  clear r2
  go_wp2_with (fail)
  obtain ⟨hr, hB⟩ := chk_done t2 B2 (Nat.le_refl _) 0 0 0
  exact bodyPost_ret (results_cell_tmp_mid rfl _ _ w.heap.size 0 _ _ rfl (World.rangeAt_alloc hr _) Tryz.underlying24 rfl (by kernel_rfl)) rfl ⟨rfl, hB.alloc (by simp [World.setCell]; omega) _⟩

set_option maxHeartbeats 1000000 in
theorem named_stamp (b0 off n cap : Nat) (x : Int) (w : World) (hn0 : 0 < n) (hn : n ≤ 1000000000) (hc : w.cell? ⟨b0, off, none⟩ = some (.int .u64 x)) (h0 : 0 ≤ x) (h1 : x < 18446744073709551616) (hst : (x / 4294967296 != 201115) = true) :
    Calls Tryz.prog 63 #[.slice (some ⟨b0, off, none⟩) n cap] w fun e w' => e = .returned (.tuple #[.agg #[.int .i64 0, .int .i64 0, .int .i64 0], .bool false]) ∧ Below w.heap.size w w' := by
  go_enter Tryz.func63, Tryz.ntmps63
  go_wp2_with (fail)
  refine (seek_in b0 off n cap 0 x _ hn0 (by rw [Nat.add_zero, World.cell?_alloc_lt _ _ _ (World.block_lt_of_cell? w _ hc)]; exact hc) hn).mono ?_
  rintro e w1 ⟨rfl, hb1⟩
  have hz1 := hb1.size
  simp at hz1
  have r1 : w1.rangeAt w.heap.size 0 (ints [0, 0, 0]) := range_below hb1 (range_lit (ints [0, 0, 0]).toArray (heap1_0 _ _)) (by simp)
  have t1 : w1.there w.heap.size 0 3 := there_below hb1 (there_lit (ints [0, 0, 0]).toArray (heap1_0 _ _)) (by simp)
  have B1 : Below w.heap.size w w1 := (below1 _ _).trans (hb1.mono (by simp))
  clear hb1
  go_wp2_with (fail)
  refine (cfgOf_any x w1 h0 h1).mono ?_
  rintro e w2 ⟨rfl, hb2⟩
  have hz2 := hb2.size
  have r2 := range_below hb2 r1 (by omega)
  have t2 := there_below hb2 t1 (by omega)
  have B2 := B1.trans (hb2.mono (by omega))
  clear hb2 r1 t1 B1
  obtain ⟨q0, q1, q2⟩ := two_cell r2
  have u0 := (t2 0 (by omega)).2
  have u1 := (t2 1 (by omega)).2
  have u2 := (t2 2 (by omega)).2
  simp at u0 u1 u2
  have hlt : w.heap.size < w2.heap.size := by omega
  clear r2
  go_wp2_with (go_at_call 26; refine (st_any x _ h0 h1).mono ?_; rintro e w' ⟨rfl, rfl⟩)
  obtain ⟨hr, hB⟩ := chk_done t2 B2 (Nat.le_refl _) 0 0 0
  exact bodyPost_ret (results_cell_tmp_mid rfl _ _ w.heap.size 0 _ _ rfl (World.rangeAt_alloc hr _) Tryz.underlying24 rfl (by kernel_rfl)) rfl ⟨rfl, hB.alloc (by simp [World.setCell]; omega) _⟩

set_option maxHeartbeats 1000000 in
theorem named_bad (b0 off n cap : Nat) (x : Int) (w : World) (hn0 : 0 < n) (hn : n ≤ 1000000000) (hc : w.cell? ⟨b0, off, none⟩ = some (.int .u64 x)) (h0 : 0 ≤ x) (h1 : x < 18446744073709551616) (hst : (x / 4294967296 != 201115) = false) (hok : okB (cS x) (cP x) (cL x) = false) :
    Calls Tryz.prog 63 #[.slice (some ⟨b0, off, none⟩) n cap] w fun e w' => e = .returned (.tuple #[.agg #[.int .i64 0, .int .i64 0, .int .i64 0], .bool false]) ∧ Below w.heap.size w w' := by
  go_enter Tryz.func63, Tryz.ntmps63
  go_wp2_with (fail)
  refine (seek_in b0 off n cap 0 x _ hn0 (by rw [Nat.add_zero, World.cell?_alloc_lt _ _ _ (World.block_lt_of_cell? w _ hc)]; exact hc) hn).mono ?_
  rintro e w1 ⟨rfl, hb1⟩
  have hz1 := hb1.size
  simp at hz1
  have r1 : w1.rangeAt w.heap.size 0 (ints [0, 0, 0]) := range_below hb1 (range_lit (ints [0, 0, 0]).toArray (heap1_0 _ _)) (by simp)
  have t1 : w1.there w.heap.size 0 3 := there_below hb1 (there_lit (ints [0, 0, 0]).toArray (heap1_0 _ _)) (by simp)
  have B1 : Below w.heap.size w w1 := (below1 _ _).trans (hb1.mono (by simp))
  clear hb1
  go_wp2_with (fail)
  refine (cfgOf_any x w1 h0 h1).mono ?_
  rintro e w2 ⟨rfl, hb2⟩
  have hz2 := hb2.size
  have r2 := range_below hb2 r1 (by omega)
  have t2 := there_below hb2 t1 (by omega)
  have B2 := B1.trans (hb2.mono (by omega))
  clear hb2 r1 t1 B1
  obtain ⟨q0, q1, q2⟩ := two_cell r2
  have u0 := (t2 0 (by omega)).2
  have u1 := (t2 1 (by omega)).2
  have u2 := (t2 2 (by omega)).2
  simp at u0 u1 u2
  have hlt : w.heap.size < w2.heap.size := by omega
  clear r2
  go_wp2_with (go_at_call 26; refine (st_any x _ h0 h1).mono ?_; rintro e w' ⟨rfl, rfl⟩)
  have r3 : (w2.alloc (.cells #[.int .i64 (cS x), .int .i64 (cP x), .int .i64 (cL x)] 24)).rangeAt w2.heap.size 0 (ints [cS x, cP x, cL x]) := range_lit (ints [cS x, cP x, cL x]).toArray (heap1_0 _ _)
  have t3 := World.there_alloc t2 (.cells #[.int .i64 (cS x), .int .i64 (cP x), .int .i64 (cL x)] 24)
  have B3 := B2.alloc (by omega) (.cells #[.int .i64 (cS x), .int .i64 (cP x), .int .i64 (cL x)] 24)
  have hz3 : (w2.alloc (.cells #[.int .i64 (cS x), .int .i64 (cP x), .int .i64 (cL x)] 24)).heap.size = w2.heap.size + 1 := by simp
  refine (ok_any (cS x) (cP x) (cL x) _).mono ?_
  generalize w2.alloc (.cells #[.int .i64 (cS x), .int .i64 (cP x), .int .i64 (cL x)] 24) = w3 at r3 t3 B3 hz3 ⊢
  rintro e w4 ⟨rfl, hb4⟩
  rw [hok]
  have hz4 := hb4.size
  have r4 := range_below hb4 r3 (by omega)
  have t4 := there_below hb4 t3 (by omega)
  have B4 := B3.trans (hb4.mono (by omega))
  clear hb4 r3 t3 B3 t2 B2 q0 q1 q2 u0 u1 u2
  obtain ⟨q0, q1, q2⟩ := two_cell r4
  obtain ⟨p0, hp0⟩ := Option.isSome_iff_exists.1 (t4 0 (by omega)).1
  obtain ⟨p1, hp1⟩ := Option.isSome_iff_exists.1 (t4 1 (by omega)).1
  obtain ⟨p2, hp2⟩ := Option.isSome_iff_exists.1 (t4 2 (by omega)).1
  have u0 := (t4 0 (by omega)).2
  have u1 := (t4 1 (by omega)).2
  have u2 := (t4 2 (by omega)).2
  simp at u0 u1 u2 hp0 hp1 hp2
  clear r4 hz3
  go_wp2_with (fail)
  obtain ⟨hr, hB⟩ := chk_done t4 B4 (Nat.le_refl _) 0 0 0
  exact bodyPost_ret (results_cell_tmp_mid rfl _ _ w.heap.size 0 _ _ rfl hr Tryz.underlying24 rfl (by kernel_rfl)) rfl ⟨rfl, hB⟩

set_option maxHeartbeats 1000000 in
theorem named_ok (b0 off n cap : Nat) (x : Int) (w : World) (hn0 : 0 < n) (hn : n ≤ 1000000000) (hc : w.cell? ⟨b0, off, none⟩ = some (.int .u64 x)) (h0 : 0 ≤ x) (h1 : x < 18446744073709551616) (hst : (x / 4294967296 != 201115) = false) (hok : okB (cS x) (cP x) (cL x) = true) :
    Calls Tryz.prog 63 #[.slice (some ⟨b0, off, none⟩) n cap] w fun e w' => e = .returned (.tuple #[.agg #[.int .i64 (cS x), .int .i64 (cP x), .int .i64 (cL x)], .bool true]) ∧ Below w.heap.size w w' := by
  go_enter Tryz.func63, Tryz.ntmps63
  go_wp2_with (fail)
  refine (seek_in b0 off n cap 0 x _ hn0 (by rw [Nat.add_zero, World.cell?_alloc_lt _ _ _ (World.block_lt_of_cell? w _ hc)]; exact hc) hn).mono ?_
  rintro e w1 ⟨rfl, hb1⟩
  have hz1 := hb1.size
  simp at hz1
  have r1 : w1.rangeAt w.heap.size 0 (ints [0, 0, 0]) := range_below hb1 (range_lit (ints [0, 0, 0]).toArray (heap1_0 _ _)) (by simp)
  have t1 : w1.there w.heap.size 0 3 := there_below hb1 (there_lit (ints [0, 0, 0]).toArray (heap1_0 _ _)) (by simp)
  have B1 : Below w.heap.size w w1 := (below1 _ _).trans (hb1.mono (by simp))
  clear hb1
  go_wp2_with (fail)
  refine (cfgOf_any x w1 h0 h1).mono ?_
  rintro e w2 ⟨rfl, hb2⟩
  have hz2 := hb2.size
  have r2 := range_below hb2 r1 (by omega)
  have t2 := there_below hb2 t1 (by omega)
  have B2 := B1.trans (hb2.mono (by omega))
  clear hb2 r1 t1 B1
  obtain ⟨q0, q1, q2⟩ := two_cell r2
  have u0 := (t2 0 (by omega)).2
  have u1 := (t2 1 (by omega)).2
  have u2 := (t2 2 (by omega)).2
  simp at u0 u1 u2
  have hlt : w.heap.size < w2.heap.size := by omega
  clear r2
  go_wp2_with (go_at_call 26; refine (st_any x _ h0 h1).mono ?_; rintro e w' ⟨rfl, rfl⟩)
  have r3 : (w2.alloc (.cells #[.int .i64 (cS x), .int .i64 (cP x), .int .i64 (cL x)] 24)).rangeAt w2.heap.size 0 (ints [cS x, cP x, cL x]) := range_lit (ints [cS x, cP x, cL x]).toArray (heap1_0 _ _)
  have t3 := World.there_alloc t2 (.cells #[.int .i64 (cS x), .int .i64 (cP x), .int .i64 (cL x)] 24)
  have B3 := B2.alloc (by omega) (.cells #[.int .i64 (cS x), .int .i64 (cP x), .int .i64 (cL x)] 24)
  have hz3 : (w2.alloc (.cells #[.int .i64 (cS x), .int .i64 (cP x), .int .i64 (cL x)] 24)).heap.size = w2.heap.size + 1 := by simp
  refine (ok_any (cS x) (cP x) (cL x) _).mono ?_
  generalize w2.alloc (.cells #[.int .i64 (cS x), .int .i64 (cP x), .int .i64 (cL x)] 24) = w3 at r3 t3 B3 hz3 ⊢
  rintro e w4 ⟨rfl, hb4⟩
  rw [hok]
  have hz4 := hb4.size
  have r4 := range_below hb4 r3 (by omega)
  have t4 := there_below hb4 t3 (by omega)
  have B4 := B3.trans (hb4.mono (by omega))
  clear hb4 r3 t3 B3 t2 B2 q0 q1 q2 u0 u1 u2
  obtain ⟨q0, q1, q2⟩ := two_cell r4
  obtain ⟨p0, hp0⟩ := Option.isSome_iff_exists.1 (t4 0 (by omega)).1
  obtain ⟨p1, hp1⟩ := Option.isSome_iff_exists.1 (t4 1 (by omega)).1
  obtain ⟨p2, hp2⟩ := Option.isSome_iff_exists.1 (t4 2 (by omega)).1
  have u0 := (t4 0 (by omega)).2
  have u1 := (t4 1 (by omega)).2
  have u2 := (t4 2 (by omega)).2
  simp at u0 u1 u2 hp0 hp1 hp2
  clear r4 hz3
  go_wp2_with (fail)
  obtain ⟨hr, hB⟩ := chk_done t4 B4 (Nat.le_refl _) (cS x) (cP x) (cL x)
  exact bodyPost_ret (results_cell_tmp_mid rfl _ _ w.heap.size 0 _ _ rfl hr Tryz.underlying24 rfl (by kernel_rfl)) rfl ⟨rfl, hB⟩

/- Whether the first of n words names a house. -/
def kn (n : Nat) (f : Nat → Int) : Bool := decide (0 < n ∧ f 0 / 4294967296 = 201115 ∧ okB (cS (f 0)) (cP (f 0)) (cL (f 0)) = true)
def kS (n : Nat) (f : Nat → Int) : Int := if kn n f = true then cS (f 0) else 0
def kP (n : Nat) (f : Nat → Int) : Int := if kn n f = true then cP (f 0) else 0
def kL (n : Nat) (f : Nat → Int) : Int := if kn n f = true then cL (f 0) else 0
theorem kn_f {n : Nat} {f : Nat → Int} (h : ¬ (0 < n ∧ f 0 / 4294967296 = 201115 ∧ okB (cS (f 0)) (cP (f 0)) (cL (f 0)) = true)) : kn n f = false := decide_eq_false h
theorem kn_t {n : Nat} {f : Nat → Int} (h : 0 < n ∧ f 0 / 4294967296 = 201115 ∧ okB (cS (f 0)) (cP (f 0)) (cL (f 0)) = true) : kn n f = true := decide_eq_true h
theorem kn_of {n : Nat} {f : Nat → Int} (h : kn n f = true) : 0 < n ∧ f 0 / 4294967296 = 201115 ∧ okB (cS (f 0)) (cP (f 0)) (cL (f 0)) = true := of_decide_eq_true h
theorem knk_f {n : Nat} {f : Nat → Int} (h : kn n f = false) : Ending.returned (.tuple #[.agg #[.int .i64 0, .int .i64 0, .int .i64 0], .bool false]) = .returned (.tuple #[.agg #[.int .i64 (kS n f), .int .i64 (kP n f), .int .i64 (kL n f)], .bool (kn n f)]) := by
  unfold kS kP kL; rw [h]; rfl
theorem knk_t {n : Nat} {f : Nat → Int} (h : kn n f = true) : Ending.returned (.tuple #[.agg #[.int .i64 (cS (f 0)), .int .i64 (cP (f 0)), .int .i64 (cL (f 0))], .bool true]) = .returned (.tuple #[.agg #[.int .i64 (kS n f), .int .i64 (kP n f), .int .i64 (kL n f)], .bool (kn n f)]) := by
  unfold kS kP kL; rw [h]; rfl

theorem named_all (a : Option Addr) (n cap : Nat) (f : Nat → Int) (w : World) (h : Sl .u64 w a n f) (hn : n ≤ 1000000000) (h0 : ∀ j, j < n → 0 ≤ f j ∧ f j < 18446744073709551616) :
    Calls Tryz.prog 63 #[.slice a n cap] w fun e w' => e = .returned (.tuple #[.agg #[.int .i64 (kS n f), .int .i64 (kP n f), .int .i64 (kL n f)], .bool (kn n f)]) ∧ Below w.heap.size w w' := by
  by_cases hz : n = 0
  · subst hz
    exact (named_none a cap w).mono fun e w' ⟨he, hw⟩ => ⟨he.trans (knk_f (kn_f (by omega))), hw⟩
  · rcases h with h | ⟨b, off, rfl, h⟩
    · exact absurd h hz
    · have hc := h 0 (by omega)
      rw [Nat.add_zero] at hc
      obtain ⟨x0, x1⟩ := h0 0 (by omega)
      by_cases hst : f 0 / 4294967296 = 201115
      · by_cases hok : okB (cS (f 0)) (cP (f 0)) (cL (f 0)) = true
        · exact (named_ok b off n cap (f 0) w (by omega) hn hc x0 x1 (by simp [hst]) hok).mono fun e w' ⟨he, hw⟩ => ⟨he.trans (knk_t (kn_t ⟨by omega, hst, hok⟩)), hw⟩
        · exact (named_bad b off n cap (f 0) w (by omega) hn hc x0 x1 (by simp [hst]) (by simpa using hok)).mono fun e w' ⟨he, hw⟩ => ⟨he.trans (knk_f (kn_f (fun h => hok h.2.2))), hw⟩
      · exact (named_stamp b off n cap (f 0) w (by omega) hn hc x0 x1 (by simpa using hst)).mono fun e w' ⟨he, hw⟩ => ⟨he.trans (knk_f (kn_f (fun h => hst h.2.1))), hw⟩

set_option maxHeartbeats 1000000 in
theorem check_no (a : Option Addr) (n cap : Nat) (f : Nat → Int) (w : World) (h : Sl .u64 w a n f) (hn : n ≤ 1000000000) (h0 : ∀ j, j < n → 0 ≤ f j ∧ f j < 18446744073709551616) (hk : kn n f = false) :
    Calls Tryz.prog 16 #[.slice a n cap] w fun e w' => e = .returned (.tuple #[.agg #[.int .i64 0, .int .i64 0, .int .i64 0], .bool false]) ∧ Below w.heap.size w w' := by
  have hsl := h.later (below1 w (.cells #[.int .i64 0, .int .i64 0, .int .i64 0] 24))
  clear h
  go_enter Tryz.func16, Tryz.ntmps16
  go_wp2_with (fail)
  refine (named_all a n cap f _ hsl hn h0).mono ?_
  rintro e w1 ⟨rfl, hb1⟩
  have k0 : kS n f = 0 := by unfold kS; rw [hk]; rfl
  have k1 : kP n f = 0 := by unfold kP; rw [hk]; rfl
  have k2 : kL n f = 0 := by unfold kL; rw [hk]; rfl
  rw [hk, k0, k1, k2]
  have hz1 := hb1.size
  simp at hz1
  have r1 : w1.rangeAt w.heap.size 0 (ints [0, 0, 0]) := range_below hb1 (range_lit (ints [0, 0, 0]).toArray (heap1_0 _ _)) (by simp)
  have t1 : w1.there w.heap.size 0 3 := there_below hb1 (there_lit (ints [0, 0, 0]).toArray (heap1_0 _ _)) (by simp)
  have B1 : Below w.heap.size w w1 := (below1 _ _).trans (hb1.mono (by simp))
  clear hb1 hsl
  obtain ⟨q0, q1, q2⟩ := two_cell r1
  have u0 := (t1 0 (by omega)).2
  have u1 := (t1 1 (by omega)).2
  have u2 := (t1 2 (by omega)).2
  simp at u0 u1 u2
  have hlt : w.heap.size < w1.heap.size := by omega
  clear r1
  go_wp2_with (fail)
  obtain ⟨hr, hB⟩ := chk_done t1 B1 (Nat.le_refl _) 0 0 0
  exact bodyPost_ret (results_cell_tmp_mid rfl _ _ w.heap.size 0 _ _ rfl (World.rangeAt_alloc hr _) Tryz.underlying24 rfl (by kernel_rfl)) rfl ⟨rfl, hB.alloc (by simp [World.setCell]; omega) _⟩

set_option maxHeartbeats 1000000 in
theorem check_size (a : Option Addr) (n cap : Nat) (f : Nat → Int) (w : World) (h : Sl .u64 w a n f) (hn : n ≤ 1000000000) (h0 : ∀ j, j < n → 0 ≤ f j ∧ f j < 18446744073709551616) (hk : kn n f = true) (hsz : ((n : Int) != size (cS (f 0)) (cP (f 0)) (cL (f 0))) = true) :
    Calls Tryz.prog 16 #[.slice a n cap] w fun e w' => e = .returned (.tuple #[.agg #[.int .i64 0, .int .i64 0, .int .i64 0], .bool false]) ∧ Below w.heap.size w w' := by
  have hsl := h.later (below1 w (.cells #[.int .i64 0, .int .i64 0, .int .i64 0] 24))
  clear h
  go_enter Tryz.func16, Tryz.ntmps16
  go_wp2_with (fail)
  refine (named_all a n cap f _ hsl hn h0).mono ?_
  rintro e w1 ⟨rfl, hb1⟩
  have k0 : kS n f = cS (f 0) := by unfold kS; rw [hk]; rfl
  have k1 : kP n f = cP (f 0) := by unfold kP; rw [hk]; rfl
  have k2 : kL n f = cL (f 0) := by unfold kL; rw [hk]; rfl
  rw [hk, k0, k1, k2]
  have hz1 := hb1.size
  simp at hz1
  have r1 : w1.rangeAt w.heap.size 0 (ints [0, 0, 0]) := range_below hb1 (range_lit (ints [0, 0, 0]).toArray (heap1_0 _ _)) (by simp)
  have t1 : w1.there w.heap.size 0 3 := there_below hb1 (there_lit (ints [0, 0, 0]).toArray (heap1_0 _ _)) (by simp)
  have B1 : Below w.heap.size w w1 := (below1 _ _).trans (hb1.mono (by simp))
  clear hb1 hsl
  obtain ⟨q0, q1, q2⟩ := two_cell r1
  have u0 := (t1 0 (by omega)).2
  have u1 := (t1 1 (by omega)).2
  have u2 := (t1 2 (by omega)).2
  simp at u0 u1 u2
  have hlt : w.heap.size < w1.heap.size := by omega
  clear r1
  go_wp2_with (fail)
  have r3 : (w1.alloc (.cells #[.int .i64 (cS (f 0)), .int .i64 (cP (f 0)), .int .i64 (cL (f 0))] 24)).rangeAt w1.heap.size 0 (ints [cS (f 0), cP (f 0), cL (f 0)]) := range_lit (ints [cS (f 0), cP (f 0), cL (f 0)]).toArray (heap1_0 _ _)
  have t3 := World.there_alloc t1 (.cells #[.int .i64 (cS (f 0)), .int .i64 (cP (f 0)), .int .i64 (cL (f 0))] 24)
  have B3 := B1.alloc (by omega) (.cells #[.int .i64 (cS (f 0)), .int .i64 (cP (f 0)), .int .i64 (cL (f 0))] 24)
  have hz3 : (w1.alloc (.cells #[.int .i64 (cS (f 0)), .int .i64 (cP (f 0)), .int .i64 (cL (f 0))] 24)).heap.size = w1.heap.size + 1 := by simp
  refine (size_any (cS (f 0)) (cP (f 0)) (cL (f 0)) _).mono ?_
  generalize w1.alloc (.cells #[.int .i64 (cS (f 0)), .int .i64 (cP (f 0)), .int .i64 (cL (f 0))] 24) = w3 at r3 t3 B3 hz3 ⊢
  rintro e w4 ⟨rfl, hb4⟩
  have hz4 := hb4.size
  have r4 := range_below hb4 r3 (by omega)
  have t4 := there_below hb4 t3 (by omega)
  have B4 := B3.trans (hb4.mono (by omega))
  clear hb4 r3 t3 B3 t1 B1 q0 q1 q2 u0 u1 u2
  obtain ⟨q0, q1, q2⟩ := two_cell r4
  obtain ⟨p0, hp0⟩ := Option.isSome_iff_exists.1 (t4 0 (by omega)).1
  obtain ⟨p1, hp1⟩ := Option.isSome_iff_exists.1 (t4 1 (by omega)).1
  obtain ⟨p2, hp2⟩ := Option.isSome_iff_exists.1 (t4 2 (by omega)).1
  have u0 := (t4 0 (by omega)).2
  have u1 := (t4 1 (by omega)).2
  have u2 := (t4 2 (by omega)).2
  simp at u0 u1 u2 hp0 hp1 hp2
  clear r4 hz3
  go_wp2_with (fail)
  obtain ⟨hr, hB⟩ := chk_done t4 B4 (Nat.le_refl _) 0 0 0
  exact bodyPost_ret (results_cell_tmp_mid rfl _ _ w.heap.size 0 _ _ rfl hr Tryz.underlying24 rfl (by kernel_rfl)) rfl ⟨rfl, hB⟩

set_option maxHeartbeats 1000000 in
theorem check_ok (a : Option Addr) (n cap : Nat) (f : Nat → Int) (w : World) (h : Sl .u64 w a n f) (hn : n ≤ 1000000000) (h0 : ∀ j, j < n → 0 ≤ f j ∧ f j < 18446744073709551616) (hk : kn n f = true) (hsz : ((n : Int) != size (cS (f 0)) (cP (f 0)) (cL (f 0))) = false) :
    Calls Tryz.prog 16 #[.slice a n cap] w fun e w' => e = .returned (.tuple #[.agg #[.int .i64 (cS (f 0)), .int .i64 (cP (f 0)), .int .i64 (cL (f 0))], .bool true]) ∧ Below w.heap.size w w' := by
  have hsl := h.later (below1 w (.cells #[.int .i64 0, .int .i64 0, .int .i64 0] 24))
  clear h
  go_enter Tryz.func16, Tryz.ntmps16
  go_wp2_with (fail)
  refine (named_all a n cap f _ hsl hn h0).mono ?_
  rintro e w1 ⟨rfl, hb1⟩
  have k0 : kS n f = cS (f 0) := by unfold kS; rw [hk]; rfl
  have k1 : kP n f = cP (f 0) := by unfold kP; rw [hk]; rfl
  have k2 : kL n f = cL (f 0) := by unfold kL; rw [hk]; rfl
  rw [hk, k0, k1, k2]
  have hz1 := hb1.size
  simp at hz1
  have r1 : w1.rangeAt w.heap.size 0 (ints [0, 0, 0]) := range_below hb1 (range_lit (ints [0, 0, 0]).toArray (heap1_0 _ _)) (by simp)
  have t1 : w1.there w.heap.size 0 3 := there_below hb1 (there_lit (ints [0, 0, 0]).toArray (heap1_0 _ _)) (by simp)
  have B1 : Below w.heap.size w w1 := (below1 _ _).trans (hb1.mono (by simp))
  clear hb1 hsl
  obtain ⟨q0, q1, q2⟩ := two_cell r1
  have u0 := (t1 0 (by omega)).2
  have u1 := (t1 1 (by omega)).2
  have u2 := (t1 2 (by omega)).2
  simp at u0 u1 u2
  have hlt : w.heap.size < w1.heap.size := by omega
  clear r1
  go_wp2_with (fail)
  have r3 : (w1.alloc (.cells #[.int .i64 (cS (f 0)), .int .i64 (cP (f 0)), .int .i64 (cL (f 0))] 24)).rangeAt w1.heap.size 0 (ints [cS (f 0), cP (f 0), cL (f 0)]) := range_lit (ints [cS (f 0), cP (f 0), cL (f 0)]).toArray (heap1_0 _ _)
  have t3 := World.there_alloc t1 (.cells #[.int .i64 (cS (f 0)), .int .i64 (cP (f 0)), .int .i64 (cL (f 0))] 24)
  have B3 := B1.alloc (by omega) (.cells #[.int .i64 (cS (f 0)), .int .i64 (cP (f 0)), .int .i64 (cL (f 0))] 24)
  have hz3 : (w1.alloc (.cells #[.int .i64 (cS (f 0)), .int .i64 (cP (f 0)), .int .i64 (cL (f 0))] 24)).heap.size = w1.heap.size + 1 := by simp
  refine (size_any (cS (f 0)) (cP (f 0)) (cL (f 0)) _).mono ?_
  generalize w1.alloc (.cells #[.int .i64 (cS (f 0)), .int .i64 (cP (f 0)), .int .i64 (cL (f 0))] 24) = w3 at r3 t3 B3 hz3 ⊢
  rintro e w4 ⟨rfl, hb4⟩
  have hz4 := hb4.size
  have r4 := range_below hb4 r3 (by omega)
  have t4 := there_below hb4 t3 (by omega)
  have B4 := B3.trans (hb4.mono (by omega))
  clear hb4 r3 t3 B3 t1 B1 q0 q1 q2 u0 u1 u2
  obtain ⟨q0, q1, q2⟩ := two_cell r4
  obtain ⟨p0, hp0⟩ := Option.isSome_iff_exists.1 (t4 0 (by omega)).1
  obtain ⟨p1, hp1⟩ := Option.isSome_iff_exists.1 (t4 1 (by omega)).1
  obtain ⟨p2, hp2⟩ := Option.isSome_iff_exists.1 (t4 2 (by omega)).1
  have u0 := (t4 0 (by omega)).2
  have u1 := (t4 1 (by omega)).2
  have u2 := (t4 2 (by omega)).2
  simp at u0 u1 u2 hp0 hp1 hp2
  clear r4 hz3
  go_wp2_with (fail)
  obtain ⟨hr, hB⟩ := chk_done t4 B4 (Nat.le_refl _) (cS (f 0)) (cP (f 0)) (cL (f 0))
  exact bodyPost_ret (results_cell_tmp_mid rfl _ _ w.heap.size 0 _ _ rfl hr Tryz.underlying24 rfl (by kernel_rfl)) rfl ⟨rfl, hB⟩

end Go.Proofs.YtipbijcmpbefpaaGreat.Plat

/- The words of an empty house, as the program and the specification make them. Conditions: none. -/
namespace Go.Proofs.YtipbijcmpbefpaaGreat.Plat
open Go.ChangeShapes Go.WideShapes Go.ChangeAt Go.RowKit
open Go.Proofs.YtipbijcmpbefpaaGreat.Words Go.Proofs.YtipbijcmpbefpaaGreat.Aid Go.Proofs.YtipbijcmpbefpaaGreat.Lst

def magic (s p l : Int) : Int := pack (s + 8 * p + 64 * l) 201115

theorem first_ok (s p l : Int) (w : World) (h : 1 ≤ s ∧ s ≤ 4 ∧ 1 ≤ p ∧ p ≤ 6 ∧ 1 ≤ l ∧ l ≤ 20) :
    Calls Tryz.prog 50 #[.agg #[.int .i64 s, .int .i64 p, .int .i64 l]] w fun e w' => e = .returned (.int .u64 (magic s p l)) ∧ Below w.heap.size w w' := by
  have o1 : bits .or .i64 s (p * 8) = s + p * 8 := bits_join_low 3 (by decide) s _ (by omega) (by omega) (by omega) (by omega) (by omega)
  have o2 : bits .or .i64 (s + p * 8) (l * 64) = s + p * 8 + l * 64 := bits_join_low 6 (by decide) _ _ (by omega) (by omega) (by omega) (by omega) (by omega)
  go_enter Tryz.func50, Tryz.ntmps50
  go_wp2_with (go_at_call 25; refine (pack_any _ _ _).mono ?_; rintro e w' ⟨rfl, rfl⟩)
  go_ret
  refine ⟨ret_int ?_, below1 _ _⟩
  unfold magic; congr 1; omega

theorem smagic_ok (s p l : Int) (w : World) (h : 1 ≤ s ∧ s ≤ 4 ∧ 1 ≤ p ∧ p ≤ 6 ∧ 1 ≤ l ∧ l ≤ 20) :
    Calls Tryz.prog 112 #[.agg #[.int .i64 s, .int .i64 p, .int .i64 l]] w fun e w' => e = .returned (.int .u64 (magic s p l)) ∧ Below w.heap.size w w' := by
  go_enter Tryz.func112, Tryz.ntmps112
  go_wp2_with (go_at_call 56; refine (spack_any _ _ _).mono ?_; rintro e w' ⟨rfl, rfl⟩)
  go_ret
  exact ⟨ret_int (by unfold magic; rfl), below1 _ _⟩

def szN (s p : Int) : Nat := (7 + s * 23 + p * 17).toNat
def fmtF (s p l : Int) (j : Nat) : Int := if j = 0 then magic s p l else if j = 2 then 4294967296 else 0

theorem size_szN {s p l : Int} (h : okB s p l = true) : size s p l = (szN s p : Int) := by
  have := okB_of h
  unfold size szN; rw [if_pos h]; omega
theorem szN_eq {s p l : Int} (h : okB s p l = true) : (7 + s * 23 + p * 17 : Int) = (szN s p : Int) := by
  have := okB_of h
  unfold szN; omega
theorem szN_bd {s p l : Int} (h : okB s p l = true) : 47 ≤ szN s p ∧ szN s p ≤ 201 := by
  have := okB_of h
  unfold szN; omega

theorem fmt_fk {w : World} {b n : Nat} {s p l : Int} (hf : Fk .u64 n w b (fun _ => 0)) : Fk .u64 n ((w.setCell ⟨b, 0, none⟩ (.int .u64 (magic s p l))).setCell ⟨b, 2, none⟩ (.int .u64 4294967296)) b (fmtF s p l) := by
  refine (hf.set 0 (magic s p l) (fun j => if j = 0 then magic s p l else 0) (by simp) (fun j _ h => by simp [h])).set 2 4294967296 _ rfl (fun j _ h => ?_)
  unfold fmtF; by_cases e : j = 0
  · rw [if_pos e, if_pos e]
  · rw [if_neg e, if_neg e, if_neg h]

theorem pack01 : pack (doorV 0 0 0) 1 = 4294967296 := by decide
theorem spack01 : pack 0 1 = 4294967296 := by decide

theorem fmt_bad (s p l : Int) (w : World) (h : okB s p l = false) :
    Calls Tryz.prog 11 #[.agg #[.int .i64 s, .int .i64 p, .int .i64 l]] w fun e w' => e = .returned (.slice none 0 0) ∧ Below w.heap.size w w' := by
  go_enter Tryz.func11, Tryz.ntmps11
  go_wp2_with (go_at_call 39; refine (ok_any s p l _).mono ?_; rintro e w1 ⟨rfl, hb⟩; rw [h])
  go_ret
  exact ⟨rfl, (below1 _ _).trans (hb.mono (by simp))⟩

theorem sfmt_bad (s p l : Int) (w : World) (h : okB s p l = false) :
    Calls Tryz.prog 110 #[.agg #[.int .i64 s, .int .i64 p, .int .i64 l]] w fun e w' => e = .returned (.slice none 0 0) ∧ Below w.heap.size w w' := by
  go_enter Tryz.func110, Tryz.ntmps110
  go_wp2_with (go_at_call 104; refine (sok_any s p l _).mono ?_; rintro e w1 ⟨rfl, hb⟩; rw [h])
  go_ret
  exact ⟨rfl, (below1 _ _).trans (hb.mono (by simp))⟩

set_option maxHeartbeats 1000000 in
theorem fmt_ok (s p l : Int) (w : World) (h : okB s p l = true) :
    Calls Tryz.prog 11 #[.agg #[.int .i64 s, .int .i64 p, .int .i64 l]] w fun e w' => ∃ b, w.heap.size ≤ b ∧ b < w'.heap.size ∧ e = .returned (.slice (some ⟨b, 0, none⟩) (szN s p) (szN s p)) ∧ Fk .u64 (szN s p) w' b (fmtF s p l) ∧ Below w.heap.size w w' := by
  have hk := okB_of h
  have hN := szN_bd h
  have hmk := fun w => run_make_row' (P := Tryz.prog) 34 44 (.int .u64 0) 8 Tryz.underlying34 infoUint64 rfl .i64 .i64 (szN s p) (by omega) (by omega) w
  go_enter Tryz.func11, Tryz.ntmps11
  go_wp2_with (fail)
  refine (ok_any s p l _).mono ?_
  rintro e w1 ⟨rfl, hb1⟩
  rw [h]
  have r1 : w1.rangeAt w.heap.size 0 (ints [s, p, l]) := range_below hb1 (range_lit (ints [s, p, l]).toArray (heap1_0 _ _)) (by simp)
  have hz1 := hb1.size
  simp at hz1
  have q0 : w1.cell? ⟨w.heap.size, 0, none⟩ = some (.int .i64 s) := r1 0 _ rfl
  have q1 : w1.cell? ⟨w.heap.size, 1, none⟩ = some (.int .i64 p) := r1 1 _ rfl
  have q2 : w1.cell? ⟨w.heap.size, 2, none⟩ = some (.int .i64 l) := r1 2 _ rfl
  go_wp2_with (fail)
  refine (size_any s p l _).mono ?_
  rintro e w2 ⟨rfl, hb2⟩
  rw [size_szN h]
  have hz2 := hb2.size
  have r2 : w2.rangeAt w.heap.size 0 (ints [s, p, l]) := range_below hb2 r1 (by omega)
  have hlt : w.heap.size < w2.heap.size := by omega
  have hB : Below w.heap.size w w2 := ((below1 _ _).trans (hb1.mono (by simp))).trans (hb2.mono (by omega))
  clear q0 q1 q2 r1 hb1 hb2
  have q0 : w2.cell? ⟨w.heap.size, 0, none⟩ = some (.int .i64 s) := r2 0 _ rfl
  have q1 : w2.cell? ⟨w.heap.size, 1, none⟩ = some (.int .i64 p) := r2 1 _ rfl
  have q2 : w2.cell? ⟨w.heap.size, 2, none⟩ = some (.int .i64 l) := r2 2 _ rfl
  clear r2
  go_wp2_with (fail)
  have f0 := fk_made .u64 w2 (szN s p) 44
  have hb0 := below1 w2 (.cells (madeCells #[.int .u64 0] (szN s p)) 44)
  have hz0 : (w2.alloc (.cells (madeCells #[.int .u64 0] (szN s p)) 44)).heap.size = w2.heap.size + 1 := by simp
  generalize w2.alloc (.cells (madeCells #[.int .u64 0] (szN s p)) 44) = w3 at f0 hb0 hz0 ⊢
  refine (first_ok s p l _ hk).mono ?_
  rintro e w4 ⟨rfl, hb4⟩
  have f4 := f0.later hb4
  have g0 := f4 0 (by omega)
  have g2 := f4 2 (by omega)
  have hz4 := hb4.size
  clear hmk q0 q1 q2
  go_wp2_with (go_at_call 51; refine (door_any _ _ _ _ _).mono ?_; rintro e w' ⟨rfl, rfl⟩; rw [pack01])
  go_ret
  refine ⟨w2.heap.size, by omega, by simp [World.setCell]; omega, rfl, fmt_fk f4, ?_⟩
  exact (((hB.trans (hb0.mono (by omega))).trans (hb4.mono (by omega))).setCell (by simp; omega) _).setCell (by simp; omega) _

set_option maxHeartbeats 1000000 in
theorem sfmt_ok (s p l : Int) (w : World) (h : okB s p l = true) :
    Calls Tryz.prog 110 #[.agg #[.int .i64 s, .int .i64 p, .int .i64 l]] w fun e w' => ∃ b, w.heap.size ≤ b ∧ b < w'.heap.size ∧ e = .returned (.slice (some ⟨b, 0, none⟩) (szN s p) (szN s p)) ∧ Fk .u64 (szN s p) w' b (fmtF s p l) ∧ Below w.heap.size w w' := by
  have hk := okB_of h
  have hN := szN_bd h
  have hmk := fun w => run_make_row' (P := Tryz.prog) 34 44 (.int .u64 0) 8 Tryz.underlying34 infoUint64 rfl .i64 .i64 (szN s p) (by omega) (by omega) w
  go_enter Tryz.func110, Tryz.ntmps110
  go_wp2_with (fail)
  refine (sok_any s p l _).mono ?_
  rintro e w1 ⟨rfl, hb1⟩
  rw [h]
  have r1 : w1.rangeAt w.heap.size 0 (ints [s, p, l]) := range_below hb1 (range_lit (ints [s, p, l]).toArray (heap1_0 _ _)) (by simp)
  have hz1 := hb1.size
  simp at hz1
  have q0 : w1.cell? ⟨w.heap.size, 0, none⟩ = some (.int .i64 s) := r1 0 _ rfl
  have q1 : w1.cell? ⟨w.heap.size, 1, none⟩ = some (.int .i64 p) := r1 1 _ rfl
  have q2 : w1.cell? ⟨w.heap.size, 2, none⟩ = some (.int .i64 l) := r1 2 _ rfl
  go_wp2_with (fail)
  refine (sl2Size_ok s p l _ hk).mono ?_
  rintro e w2 ⟨rfl, hb2⟩
  rw [szN_eq h]
  have hz2 := hb2.size
  have r2 : w2.rangeAt w.heap.size 0 (ints [s, p, l]) := range_below hb2 r1 (by omega)
  have hlt : w.heap.size < w2.heap.size := by omega
  have hB : Below w.heap.size w w2 := ((below1 _ _).trans (hb1.mono (by simp))).trans (hb2.mono (by omega))
  clear q0 q1 q2 r1 hb1 hb2
  have q0 : w2.cell? ⟨w.heap.size, 0, none⟩ = some (.int .i64 s) := r2 0 _ rfl
  have q1 : w2.cell? ⟨w.heap.size, 1, none⟩ = some (.int .i64 p) := r2 1 _ rfl
  have q2 : w2.cell? ⟨w.heap.size, 2, none⟩ = some (.int .i64 l) := r2 2 _ rfl
  clear r2
  go_wp2_with (fail)
  have f0 := fk_made .u64 w2 (szN s p) 44
  have hb0 := below1 w2 (.cells (madeCells #[.int .u64 0] (szN s p)) 44)
  have hz0 : (w2.alloc (.cells (madeCells #[.int .u64 0] (szN s p)) 44)).heap.size = w2.heap.size + 1 := by simp
  generalize w2.alloc (.cells (madeCells #[.int .u64 0] (szN s p)) 44) = w3 at f0 hb0 hz0 ⊢
  refine (smagic_ok s p l _ hk).mono ?_
  rintro e w4 ⟨rfl, hb4⟩
  have f4 := f0.later hb4
  have g0 := f4 0 (by omega)
  have g2 := f4 2 (by omega)
  have hz4 := hb4.size
  clear hmk q0 q1 q2
  go_wp2_with (go_at_call 56; refine (spack_any _ _ _).mono ?_; rintro e w' ⟨rfl, rfl⟩; rw [spack01])
  go_ret
  refine ⟨w2.heap.size, by omega, by simp [World.setCell]; omega, rfl, fmt_fk f4, ?_⟩
  exact (((hB.trans (hb0.mono (by omega))).trans (hb4.mono (by omega))).setCell (by simp; omega) _).setCell (by simp; omega) _

end Go.Proofs.YtipbijcmpbefpaaGreat.Plat

/- Of which house some words are, by the specification. Conditions: at most 1,000,000,000 words, each of 64 bits. -/
namespace Go.Proofs.YtipbijcmpbefpaaGreat.Plat
open Go.ChangeShapes Go.WideShapes Go.ChangeAt Go.RowKit
open Go.Proofs.YtipbijcmpbefpaaGreat.Words Go.Proofs.YtipbijcmpbefpaaGreat.Aid Go.Proofs.YtipbijcmpbefpaaGreat.Lst

theorem scheck_none (a : Option Addr) (cap : Nat) (w : World) :
    Calls Tryz.prog 72 #[.slice a 0 cap] w fun e w' => e = .returned (.tuple #[.agg #[.int .i64 0, .int .i64 0, .int .i64 0], .bool false]) ∧ Below w.heap.size w w' := by
  go_enter Tryz.func72, Tryz.ntmps72
  go_wp2_with (fail)
  exact bodyPost_ret (v := .tuple #[.agg #[.int .i64 0, .int .i64 0, .int .i64 0], .bool false]) (by simp [results, Tryz.results72, go_sem]) rfl ⟨rfl, below1 _ _⟩

theorem takeH {P : Program} {md : Region.Mode} {ops : Array Oper} {Q : Exit → Act → World → Prop} {S : World → Prop} {i : Nat} {oi : Oper} {v : Value} {d : Option Tmp} {fuel : Nat} {listed : Array Bool} {a : Act} {w : World} (hi : ops[i]? = some oi) (hd : oi.dst = d)
    (hs : Region.noSelect ops = true) (hf : Region.free md ops listed i = true) (hr : (Region.ready md ops listed).contains i = true)
    (hQ : ∀ c a w, Q (.panic c) (a.put d v) w → Q (.panic c) a w) (hy : YieldsIf P ops S oi v a) (hS : S w)
    (h : wpAnyH P md ops Q S fuel (listed.setIfInBounds i true) (a.put d v) w) : wpAnyH P md ops Q S (fuel + 1) listed a w := by
  subst hd
  exact wpAnyH_take hi hs hf hr hQ hy hS h

/- What the reading of a house rests on: two structs of the call's own, and the word. -/
structure CS (w0 : World) (b0 off : Nat) (x s p l : Int) (w : World) : Prop where
  r : w.rangeAt (w0.heap.size + 1) 0 (ints [s, p, l])
  t : w.there w0.heap.size 0 3
  c : w.cell? ⟨b0, off, none⟩ = some (.int .u64 x)
  b : Below w0.heap.size w0 w
  z : w0.heap.size + 2 ≤ w.heap.size

theorem CS.drew {w0 : World} {b0 off : Nat} {x s p l : Int} {w : World} (h : CS w0 b0 off x s p l w) : CS w0 b0 off x s p l w.drew := ⟨h.r, h.t, h.c, h.b.drew, h.z⟩
theorem CS.later {w0 : World} {b0 off : Nat} {x s p l : Int} {w w1 : World} (h : CS w0 b0 off x s p l w) (hb : Below w.heap.size w w1) : CS w0 b0 off x s p l w1 :=
  ⟨range_below hb h.r (by have := h.z; omega), there_below hb h.t (by have := h.z; omega), (hb.cell (p := ⟨b0, off, none⟩) (World.block_lt_of_cell? w _ h.c)).trans h.c, h.b.trans (hb.mono (by have := h.z; omega)), Nat.le_trans h.z hb.size⟩
theorem CS.start (w : World) (b0 off : Nat) (x s p l : Int) (t : TypeId) (hc : w.cell? ⟨b0, off, none⟩ = some (.int .u64 x)) : CS w b0 off x s p l ((w.alloc (.cells #[.int .i64 0, .int .i64 0, .int .i64 0] t)).alloc (.cells #[.int .i64 s, .int .i64 p, .int .i64 l] t)) :=
  ⟨range_lit (ints [s, p, l]).toArray (heap2_1 w _ _), there_lit (ints [0, 0, 0]).toArray (heap2_0 w _ _), ((below2 w _ _).cell (p := ⟨b0, off, none⟩) (World.block_lt_of_cell? w _ hc)).trans hc, below2 w _ _, by simp⟩

set_option maxHeartbeats 4000000 in
theorem scheck_bad (b0 off n cap : Nat) (x s p l : Int) (w : World) (hn0 : 0 < n) (hc : w.cell? ⟨b0, off, none⟩ = some (.int .u64 x)) (h0 : 0 ≤ x) (h1 : x < 18446744073709551616) (hs : lo32 x % 8 = s) (hp : lo32 x / 8 % 8 = p) (hl : lo32 x / 64 = l) (hok : okB s p l = false) :
    Calls Tryz.prog 72 #[.slice (some ⟨b0, off, none⟩) n cap] w fun e w' => e = .returned (.tuple #[.agg #[.int .i64 0, .int .i64 0, .int .i64 0], .bool false]) ∧ Below w.heap.size w w' := by
  have hnb : ((n : Int) == 0) = false := by simp; omega
  have hni : (0 : Int) < n := by omega
  have hbl := World.block_lt_of_cell? w _ hc
  simp at hbl
  have l0 := lo32_lo x
  have l1 := lo32_hi x
  go_enter Tryz.func72, Tryz.ntmps72
  go_wp2_with (go_at_call 62; refine (sval_any x _ h0 h1).mono ?_; rintro e w' ⟨rfl, rfl⟩)
  have hS := CS.start w b0 off x s p l 24 hc
  generalize (w.alloc (.cells #[.int .i64 0, .int .i64 0, .int .i64 0] 24)).alloc (.cells #[.int .i64 s, .int .i64 p, .int .i64 l] 24) = W at *
  clear hs hp hl l0 l1 hnb
  refine wp_region_held_drew (S := CS w b0 off x s p l) (by kernel_rfl) hS.drew (fun hS => ?_)
  refine takeH (i := 0) (v := .agg #[.int .i64 s, .int .i64 p, .int .i64 l]) (d := some 22) rfl rfl (by kernel_rfl) (by kernel_rfl) (by kernel_rfl) (fun _ _ _ h => h) (Or.inl ⟨by rfl, fun w' hw => ?_⟩) (by assumption) ?_
  · obtain ⟨e0, e1, e2⟩ := two_cell hw.r; go_simp
  simp only [Act.put, List.setIfInBounds_toArray, List.set_cons_zero, List.set_cons_succ]
  refine wpAnyH_ready (rs := [1]) (by kernel_rfl) (by simp) ?_
  refine AllReadyH.cons rfl (fun K hK => ?_) AllReadyH.nil
  go_simp
  refine (sok_any s p l _).mono ?_
  rintro e w1 ⟨rfl, hb1⟩
  rw [hok]
  go_wp2_with (fail)
  refine hK.out _ _ (hS.later hb1) (fun hS => ?_)
  clear hK K
  refine takeH (i := 2) (v := .bool true) (d := some 24) rfl rfl (by kernel_rfl) (by kernel_rfl) (by kernel_rfl) (fun _ _ _ h => h) (Or.inl ⟨by rfl, fun w' hw => ?_⟩) (by assumption) ?_
  · go_simp
  simp only [Act.put, List.setIfInBounds_toArray, List.set_cons_zero, List.set_cons_succ]
  refine takeH (i := 3) (v := .bool true) (d := some 25) rfl rfl (by kernel_rfl) (by kernel_rfl) (by kernel_rfl) (fun _ _ _ h => h) (Or.inl ⟨by rfl, fun w' hw => ?_⟩) (by assumption) ?_
  · go_simp
  simp only [Act.put, List.setIfInBounds_toArray, List.set_cons_zero, List.set_cons_succ]
  refine takeH (i := 4) (v := undef) (d := some 26) rfl rfl (by kernel_rfl) (by kernel_rfl) (by kernel_rfl) (fun _ _ _ h => h) (Or.inr ⟨by rfl, rfl⟩) (by assumption) ?_
  simp only [Act.put, List.setIfInBounds_toArray, List.set_cons_zero, List.set_cons_succ]
  refine takeH (i := 5) (v := undef) (d := some 27) rfl rfl (by kernel_rfl) (by kernel_rfl) (by kernel_rfl) (fun _ _ _ h => h) (Or.inr ⟨by rfl, rfl⟩) (by assumption) ?_
  simp only [Act.put, List.setIfInBounds_toArray, List.set_cons_zero, List.set_cons_succ]
  refine takeH (i := 6) (v := undef) (d := some 28) rfl rfl (by kernel_rfl) (by kernel_rfl) (by kernel_rfl) (fun _ _ _ h => h) (Or.inr ⟨by rfl, rfl⟩) (by assumption) ?_
  simp only [Act.put, List.setIfInBounds_toArray, List.set_cons_zero, List.set_cons_succ]
  refine takeH (i := 7) (v := undef) (d := some 29) rfl rfl (by kernel_rfl) (by kernel_rfl) (by kernel_rfl) (fun _ _ _ h => h) (Or.inr ⟨by rfl, rfl⟩) (by assumption) ?_
  simp only [Act.put, List.setIfInBounds_toArray, List.set_cons_zero, List.set_cons_succ]
  refine takeH (i := 8) (v := undef) (d := some 30) rfl rfl (by kernel_rfl) (by kernel_rfl) (by kernel_rfl) (fun _ _ _ h => h) (Or.inr ⟨by rfl, rfl⟩) (by assumption) ?_
  simp only [Act.put, List.setIfInBounds_toArray, List.set_cons_zero, List.set_cons_succ]
  refine takeH (i := 9) (v := undef) (d := some 31) rfl rfl (by kernel_rfl) (by kernel_rfl) (by kernel_rfl) (fun _ _ _ h => h) (Or.inr ⟨by rfl, rfl⟩) (by assumption) ?_
  simp only [Act.put, List.setIfInBounds_toArray, List.set_cons_zero, List.set_cons_succ]
  refine takeH (i := 10) (v := .bool true) (d := some 32) rfl rfl (by kernel_rfl) (by kernel_rfl) (by kernel_rfl) (fun _ _ _ h => h) (Or.inl ⟨by rfl, fun w' hw => ?_⟩) (by assumption) ?_
  · go_simp
  simp only [Act.put, List.setIfInBounds_toArray, List.set_cons_zero, List.set_cons_succ]
  refine takeH (i := 11) (v := .bool true) (d := some 33) rfl rfl (by kernel_rfl) (by kernel_rfl) (by kernel_rfl) (fun _ _ _ h => h) (Or.inl ⟨by rfl, fun w' hw => ?_⟩) (by assumption) ?_
  · go_simp
  simp only [Act.put, List.setIfInBounds_toArray, List.set_cons_zero, List.set_cons_succ]
  refine takeH (i := 12) (v := undef) (d := some 34) rfl rfl (by kernel_rfl) (by kernel_rfl) (by kernel_rfl) (fun _ _ _ h => h) (Or.inr ⟨by rfl, rfl⟩) (by assumption) ?_
  simp only [Act.put, List.setIfInBounds_toArray, List.set_cons_zero, List.set_cons_succ]
  refine takeH (i := 13) (v := undef) (d := some 35) rfl rfl (by kernel_rfl) (by kernel_rfl) (by kernel_rfl) (fun _ _ _ h => h) (Or.inr ⟨by rfl, rfl⟩) (by assumption) ?_
  simp only [Act.put, List.setIfInBounds_toArray, List.set_cons_zero, List.set_cons_succ]
  refine takeH (i := 14) (v := undef) (d := some 36) rfl rfl (by kernel_rfl) (by kernel_rfl) (by kernel_rfl) (fun _ _ _ h => h) (Or.inr ⟨by rfl, rfl⟩) (by assumption) ?_
  simp only [Act.put, List.setIfInBounds_toArray, List.set_cons_zero, List.set_cons_succ]
  refine takeH (i := 15) (v := undef) (d := some 37) rfl rfl (by kernel_rfl) (by kernel_rfl) (by kernel_rfl) (fun _ _ _ h => h) (Or.inr ⟨by rfl, rfl⟩) (by assumption) ?_
  simp only [Act.put, List.setIfInBounds_toArray, List.set_cons_zero, List.set_cons_succ]
  refine takeH (i := 16) (v := undef) (d := some 38) rfl rfl (by kernel_rfl) (by kernel_rfl) (by kernel_rfl) (fun _ _ _ h => h) (Or.inr ⟨by rfl, rfl⟩) (by assumption) ?_
  simp only [Act.put, List.setIfInBounds_toArray, List.set_cons_zero, List.set_cons_succ]
  refine takeH (i := 17) (v := .bool true) (d := some 39) rfl rfl (by kernel_rfl) (by kernel_rfl) (by kernel_rfl) (fun _ _ _ h => h) (Or.inl ⟨by rfl, fun w' hw => ?_⟩) (by assumption) ?_
  · go_simp
  simp only [Act.put, List.setIfInBounds_toArray, List.set_cons_zero, List.set_cons_succ]
  refine wpAnyH_done (by kernel_rfl) ?_ _
  obtain ⟨q0, q1, q2⟩ := two_cell hS.r
  obtain ⟨p0, hp0⟩ := Option.isSome_iff_exists.1 (hS.t 0 (by decide)).1
  obtain ⟨p1, hp1⟩ := Option.isSome_iff_exists.1 (hS.t 1 (by decide)).1
  obtain ⟨p2, hp2⟩ := Option.isSome_iff_exists.1 (hS.t 2 (by decide)).1
  have u0 := (hS.t 0 (by decide)).2
  have u1 := (hS.t 1 (by decide)).2
  have u2 := (hS.t 2 (by decide)).2
  simp at u0 u1 u2 hp0 hp1 hp2
  go_wp2_with (fail)
  obtain ⟨hr, hB⟩ := chk_done hS.t hS.b (Nat.le_refl _) 0 0 0
  exact bodyPost_ret (results_cell_tmp_mid rfl _ _ w.heap.size 0 _ _ rfl hr Tryz.underlying24 rfl (by kernel_rfl)) rfl ⟨rfl, hB⟩

set_option maxHeartbeats 4000000 in
theorem scheck_stamp (b0 off n cap : Nat) (x s p l : Int) (w : World) (hn0 : 0 < n) (hc : w.cell? ⟨b0, off, none⟩ = some (.int .u64 x)) (h0 : 0 ≤ x) (h1 : x < 18446744073709551616) (hs : lo32 x % 8 = s) (hp : lo32 x / 8 % 8 = p) (hl : lo32 x / 64 = l) (hok : okB s p l = true) (hst : (x != magic s p l) = true) :
    Calls Tryz.prog 72 #[.slice (some ⟨b0, off, none⟩) n cap] w fun e w' => e = .returned (.tuple #[.agg #[.int .i64 0, .int .i64 0, .int .i64 0], .bool false]) ∧ Below w.heap.size w w' := by
  have hnb : ((n : Int) == 0) = false := by simp; omega
  have hni : (0 : Int) < n := by omega
  have hbl := World.block_lt_of_cell? w _ hc
  simp at hbl
  have l0 := lo32_lo x
  have l1 := lo32_hi x
  go_enter Tryz.func72, Tryz.ntmps72
  go_wp2_with (go_at_call 62; refine (sval_any x _ h0 h1).mono ?_; rintro e w' ⟨rfl, rfl⟩)
  have hS := CS.start w b0 off x s p l 24 hc
  generalize (w.alloc (.cells #[.int .i64 0, .int .i64 0, .int .i64 0] 24)).alloc (.cells #[.int .i64 s, .int .i64 p, .int .i64 l] 24) = W at *
  clear hs hp hl l0 l1 hnb
  refine wp_region_held_drew (S := CS w b0 off x s p l) (by kernel_rfl) hS.drew (fun hS => ?_)
  refine takeH (i := 0) (v := .agg #[.int .i64 s, .int .i64 p, .int .i64 l]) (d := some 22) rfl rfl (by kernel_rfl) (by kernel_rfl) (by kernel_rfl) (fun _ _ _ h => h) (Or.inl ⟨by rfl, fun w' hw => ?_⟩) (by assumption) ?_
  · obtain ⟨e0, e1, e2⟩ := two_cell hw.r; go_simp
  simp only [Act.put, List.setIfInBounds_toArray, List.set_cons_zero, List.set_cons_succ]
  refine wpAnyH_ready (rs := [1]) (by kernel_rfl) (by simp) ?_
  refine AllReadyH.cons rfl (fun K hK => ?_) AllReadyH.nil
  go_simp
  refine (sok_any s p l _).mono ?_
  rintro e w1 ⟨rfl, hb1⟩
  rw [hok]
  go_wp2_with (fail)
  refine hK.out _ _ (hS.later hb1) (fun hS => ?_)
  clear hK K
  refine takeH (i := 2) (v := .bool false) (d := some 24) rfl rfl (by kernel_rfl) (by kernel_rfl) (by kernel_rfl) (fun _ _ _ h => h) (Or.inl ⟨by rfl, fun w' hw => ?_⟩) (by assumption) ?_
  · go_simp
  simp only [Act.put, List.setIfInBounds_toArray, List.set_cons_zero, List.set_cons_succ]
  refine takeH (i := 3) (v := .bool false) (d := some 25) rfl rfl (by kernel_rfl) (by kernel_rfl) (by kernel_rfl) (fun _ _ _ h => h) (Or.inl ⟨by rfl, fun w' hw => ?_⟩) (by assumption) ?_
  · go_simp
  simp only [Act.put, List.setIfInBounds_toArray, List.set_cons_zero, List.set_cons_succ]
  refine takeH (i := 4) (v := .slice (some ⟨b0, off, none⟩) n cap) (d := some 26) rfl rfl (by kernel_rfl) (by kernel_rfl) (by kernel_rfl) (fun _ _ _ h => h) (Or.inl ⟨by rfl, fun w' hw => ?_⟩) (by assumption) ?_
  · go_simp
  simp only [Act.put, List.setIfInBounds_toArray, List.set_cons_zero, List.set_cons_succ]
  refine takeH (i := 5) (v := .pointer (some ⟨b0, off, none⟩)) (d := some 27) rfl rfl (by kernel_rfl) (by kernel_rfl) (by kernel_rfl) (fun _ _ _ h => h) (Or.inl ⟨by rfl, fun w' hw => ?_⟩) (by assumption) ?_
  · go_simp
  simp only [Act.put, List.setIfInBounds_toArray, List.set_cons_zero, List.set_cons_succ]
  refine takeH (i := 6) (v := .int .u64 x) (d := some 28) rfl rfl (by kernel_rfl) (by kernel_rfl) (by kernel_rfl) (fun _ _ _ h => h) (Or.inl ⟨by rfl, fun w' hw => ?_⟩) (by assumption) ?_
  · have e0 := hw.c; go_simp
  simp only [Act.put, List.setIfInBounds_toArray, List.set_cons_zero, List.set_cons_succ]
  refine takeH (i := 7) (v := .agg #[.int .i64 s, .int .i64 p, .int .i64 l]) (d := some 29) rfl rfl (by kernel_rfl) (by kernel_rfl) (by kernel_rfl) (fun _ _ _ h => h) (Or.inl ⟨by rfl, fun w' hw => ?_⟩) (by assumption) ?_
  · obtain ⟨e0, e1, e2⟩ := two_cell hw.r; go_simp
  simp only [Act.put, List.setIfInBounds_toArray, List.set_cons_zero, List.set_cons_succ]
  refine wpAnyH_ready (rs := [8]) (by kernel_rfl) (by simp) ?_
  refine AllReadyH.cons rfl (fun K hK => ?_) AllReadyH.nil
  go_simp
  refine (smagic_ok s p l _ (okB_of hok)).mono ?_
  rintro e w2 ⟨rfl, hb2⟩
  go_wp2_with (fail)
  refine hK.out _ _ (hS.later hb2) (fun hS => ?_)
  clear hK K
  refine takeH (i := 9) (v := .bool true) (d := some 31) rfl rfl (by kernel_rfl) (by kernel_rfl) (by kernel_rfl) (fun _ _ _ h => h) (Or.inl ⟨by rfl, fun w' hw => ?_⟩) (by assumption) ?_
  · go_simp
  simp only [Act.put, List.setIfInBounds_toArray, List.set_cons_zero, List.set_cons_succ]
  refine takeH (i := 10) (v := .bool true) (d := some 32) rfl rfl (by kernel_rfl) (by kernel_rfl) (by kernel_rfl) (fun _ _ _ h => h) (Or.inl ⟨by rfl, fun w' hw => ?_⟩) (by assumption) ?_
  · go_simp
  simp only [Act.put, List.setIfInBounds_toArray, List.set_cons_zero, List.set_cons_succ]
  refine takeH (i := 11) (v := .bool true) (d := some 33) rfl rfl (by kernel_rfl) (by kernel_rfl) (by kernel_rfl) (fun _ _ _ h => h) (Or.inl ⟨by rfl, fun w' hw => ?_⟩) (by assumption) ?_
  · go_simp
  simp only [Act.put, List.setIfInBounds_toArray, List.set_cons_zero, List.set_cons_succ]
  refine takeH (i := 12) (v := undef) (d := some 34) rfl rfl (by kernel_rfl) (by kernel_rfl) (by kernel_rfl) (fun _ _ _ h => h) (Or.inr ⟨by rfl, rfl⟩) (by assumption) ?_
  simp only [Act.put, List.setIfInBounds_toArray, List.set_cons_zero, List.set_cons_succ]
  refine takeH (i := 13) (v := undef) (d := some 35) rfl rfl (by kernel_rfl) (by kernel_rfl) (by kernel_rfl) (fun _ _ _ h => h) (Or.inr ⟨by rfl, rfl⟩) (by assumption) ?_
  simp only [Act.put, List.setIfInBounds_toArray, List.set_cons_zero, List.set_cons_succ]
  refine takeH (i := 14) (v := undef) (d := some 36) rfl rfl (by kernel_rfl) (by kernel_rfl) (by kernel_rfl) (fun _ _ _ h => h) (Or.inr ⟨by rfl, rfl⟩) (by assumption) ?_
  simp only [Act.put, List.setIfInBounds_toArray, List.set_cons_zero, List.set_cons_succ]
  refine takeH (i := 15) (v := undef) (d := some 37) rfl rfl (by kernel_rfl) (by kernel_rfl) (by kernel_rfl) (fun _ _ _ h => h) (Or.inr ⟨by rfl, rfl⟩) (by assumption) ?_
  simp only [Act.put, List.setIfInBounds_toArray, List.set_cons_zero, List.set_cons_succ]
  refine takeH (i := 16) (v := undef) (d := some 38) rfl rfl (by kernel_rfl) (by kernel_rfl) (by kernel_rfl) (fun _ _ _ h => h) (Or.inr ⟨by rfl, rfl⟩) (by assumption) ?_
  simp only [Act.put, List.setIfInBounds_toArray, List.set_cons_zero, List.set_cons_succ]
  refine takeH (i := 17) (v := .bool true) (d := some 39) rfl rfl (by kernel_rfl) (by kernel_rfl) (by kernel_rfl) (fun _ _ _ h => h) (Or.inl ⟨by rfl, fun w' hw => ?_⟩) (by assumption) ?_
  · go_simp
  simp only [Act.put, List.setIfInBounds_toArray, List.set_cons_zero, List.set_cons_succ]
  refine wpAnyH_done (by kernel_rfl) ?_ _
  obtain ⟨q0, q1, q2⟩ := two_cell hS.r
  obtain ⟨p0, hp0⟩ := Option.isSome_iff_exists.1 (hS.t 0 (by decide)).1
  obtain ⟨p1, hp1⟩ := Option.isSome_iff_exists.1 (hS.t 1 (by decide)).1
  obtain ⟨p2, hp2⟩ := Option.isSome_iff_exists.1 (hS.t 2 (by decide)).1
  have u0 := (hS.t 0 (by decide)).2
  have u1 := (hS.t 1 (by decide)).2
  have u2 := (hS.t 2 (by decide)).2
  simp at u0 u1 u2 hp0 hp1 hp2
  go_wp2_with (fail)
  obtain ⟨hr, hB⟩ := chk_done hS.t hS.b (Nat.le_refl _) 0 0 0
  exact bodyPost_ret (results_cell_tmp_mid rfl _ _ w.heap.size 0 _ _ rfl hr Tryz.underlying24 rfl (by kernel_rfl)) rfl ⟨rfl, hB⟩

set_option maxHeartbeats 4000000 in
theorem scheck_size (b0 off n cap : Nat) (x s p l : Int) (w : World) (hn0 : 0 < n) (hc : w.cell? ⟨b0, off, none⟩ = some (.int .u64 x)) (h0 : 0 ≤ x) (h1 : x < 18446744073709551616) (hs : lo32 x % 8 = s) (hp : lo32 x / 8 % 8 = p) (hl : lo32 x / 64 = l) (hok : okB s p l = true) (hst : (x != magic s p l) = false) (hsz : ((n : Int) != 7 + s * 23 + p * 17) = true) :
    Calls Tryz.prog 72 #[.slice (some ⟨b0, off, none⟩) n cap] w fun e w' => e = .returned (.tuple #[.agg #[.int .i64 0, .int .i64 0, .int .i64 0], .bool false]) ∧ Below w.heap.size w w' := by
  have hnb : ((n : Int) == 0) = false := by simp; omega
  have hni : (0 : Int) < n := by omega
  have hbl := World.block_lt_of_cell? w _ hc
  simp at hbl
  have l0 := lo32_lo x
  have l1 := lo32_hi x
  go_enter Tryz.func72, Tryz.ntmps72
  go_wp2_with (go_at_call 62; refine (sval_any x _ h0 h1).mono ?_; rintro e w' ⟨rfl, rfl⟩)
  have hS := CS.start w b0 off x s p l 24 hc
  generalize (w.alloc (.cells #[.int .i64 0, .int .i64 0, .int .i64 0] 24)).alloc (.cells #[.int .i64 s, .int .i64 p, .int .i64 l] 24) = W at *
  clear hs hp hl l0 l1 hnb
  refine wp_region_held_drew (S := CS w b0 off x s p l) (by kernel_rfl) hS.drew (fun hS => ?_)
  refine takeH (i := 0) (v := .agg #[.int .i64 s, .int .i64 p, .int .i64 l]) (d := some 22) rfl rfl (by kernel_rfl) (by kernel_rfl) (by kernel_rfl) (fun _ _ _ h => h) (Or.inl ⟨by rfl, fun w' hw => ?_⟩) (by assumption) ?_
  · obtain ⟨e0, e1, e2⟩ := two_cell hw.r; go_simp
  simp only [Act.put, List.setIfInBounds_toArray, List.set_cons_zero, List.set_cons_succ]
  refine wpAnyH_ready (rs := [1]) (by kernel_rfl) (by simp) ?_
  refine AllReadyH.cons rfl (fun K hK => ?_) AllReadyH.nil
  go_simp
  refine (sok_any s p l _).mono ?_
  rintro e w1 ⟨rfl, hb1⟩
  rw [hok]
  go_wp2_with (fail)
  refine hK.out _ _ (hS.later hb1) (fun hS => ?_)
  clear hK K
  refine takeH (i := 2) (v := .bool false) (d := some 24) rfl rfl (by kernel_rfl) (by kernel_rfl) (by kernel_rfl) (fun _ _ _ h => h) (Or.inl ⟨by rfl, fun w' hw => ?_⟩) (by assumption) ?_
  · go_simp
  simp only [Act.put, List.setIfInBounds_toArray, List.set_cons_zero, List.set_cons_succ]
  refine takeH (i := 3) (v := .bool false) (d := some 25) rfl rfl (by kernel_rfl) (by kernel_rfl) (by kernel_rfl) (fun _ _ _ h => h) (Or.inl ⟨by rfl, fun w' hw => ?_⟩) (by assumption) ?_
  · go_simp
  simp only [Act.put, List.setIfInBounds_toArray, List.set_cons_zero, List.set_cons_succ]
  refine takeH (i := 4) (v := .slice (some ⟨b0, off, none⟩) n cap) (d := some 26) rfl rfl (by kernel_rfl) (by kernel_rfl) (by kernel_rfl) (fun _ _ _ h => h) (Or.inl ⟨by rfl, fun w' hw => ?_⟩) (by assumption) ?_
  · go_simp
  simp only [Act.put, List.setIfInBounds_toArray, List.set_cons_zero, List.set_cons_succ]
  refine takeH (i := 5) (v := .pointer (some ⟨b0, off, none⟩)) (d := some 27) rfl rfl (by kernel_rfl) (by kernel_rfl) (by kernel_rfl) (fun _ _ _ h => h) (Or.inl ⟨by rfl, fun w' hw => ?_⟩) (by assumption) ?_
  · go_simp
  simp only [Act.put, List.setIfInBounds_toArray, List.set_cons_zero, List.set_cons_succ]
  refine takeH (i := 6) (v := .int .u64 x) (d := some 28) rfl rfl (by kernel_rfl) (by kernel_rfl) (by kernel_rfl) (fun _ _ _ h => h) (Or.inl ⟨by rfl, fun w' hw => ?_⟩) (by assumption) ?_
  · have e0 := hw.c; go_simp
  simp only [Act.put, List.setIfInBounds_toArray, List.set_cons_zero, List.set_cons_succ]
  refine takeH (i := 7) (v := .agg #[.int .i64 s, .int .i64 p, .int .i64 l]) (d := some 29) rfl rfl (by kernel_rfl) (by kernel_rfl) (by kernel_rfl) (fun _ _ _ h => h) (Or.inl ⟨by rfl, fun w' hw => ?_⟩) (by assumption) ?_
  · obtain ⟨e0, e1, e2⟩ := two_cell hw.r; go_simp
  simp only [Act.put, List.setIfInBounds_toArray, List.set_cons_zero, List.set_cons_succ]
  refine wpAnyH_ready (rs := [8]) (by kernel_rfl) (by simp) ?_
  refine AllReadyH.cons rfl (fun K hK => ?_) AllReadyH.nil
  go_simp
  refine (smagic_ok s p l _ (okB_of hok)).mono ?_
  rintro e w2 ⟨rfl, hb2⟩
  go_wp2_with (fail)
  refine hK.out _ _ (hS.later hb2) (fun hS => ?_)
  clear hK K
  refine takeH (i := 9) (v := .bool false) (d := some 31) rfl rfl (by kernel_rfl) (by kernel_rfl) (by kernel_rfl) (fun _ _ _ h => h) (Or.inl ⟨by rfl, fun w' hw => ?_⟩) (by assumption) ?_
  · go_simp
  simp only [Act.put, List.setIfInBounds_toArray, List.set_cons_zero, List.set_cons_succ]
  refine takeH (i := 10) (v := .bool false) (d := some 32) rfl rfl (by kernel_rfl) (by kernel_rfl) (by kernel_rfl) (fun _ _ _ h => h) (Or.inl ⟨by rfl, fun w' hw => ?_⟩) (by assumption) ?_
  · go_simp
  simp only [Act.put, List.setIfInBounds_toArray, List.set_cons_zero, List.set_cons_succ]
  refine takeH (i := 11) (v := .bool false) (d := some 33) rfl rfl (by kernel_rfl) (by kernel_rfl) (by kernel_rfl) (fun _ _ _ h => h) (Or.inl ⟨by rfl, fun w' hw => ?_⟩) (by assumption) ?_
  · go_simp
  simp only [Act.put, List.setIfInBounds_toArray, List.set_cons_zero, List.set_cons_succ]
  refine takeH (i := 12) (v := .slice (some ⟨b0, off, none⟩) n cap) (d := some 34) rfl rfl (by kernel_rfl) (by kernel_rfl) (by kernel_rfl) (fun _ _ _ h => h) (Or.inl ⟨by rfl, fun w' hw => ?_⟩) (by assumption) ?_
  · go_simp
  simp only [Act.put, List.setIfInBounds_toArray, List.set_cons_zero, List.set_cons_succ]
  refine takeH (i := 13) (v := .int .i64 n) (d := some 35) rfl rfl (by kernel_rfl) (by kernel_rfl) (by kernel_rfl) (fun _ _ _ h => h) (Or.inl ⟨by rfl, fun w' hw => ?_⟩) (by assumption) ?_
  · go_simp
  simp only [Act.put, List.setIfInBounds_toArray, List.set_cons_zero, List.set_cons_succ]
  refine takeH (i := 14) (v := .agg #[.int .i64 s, .int .i64 p, .int .i64 l]) (d := some 36) rfl rfl (by kernel_rfl) (by kernel_rfl) (by kernel_rfl) (fun _ _ _ h => h) (Or.inl ⟨by rfl, fun w' hw => ?_⟩) (by assumption) ?_
  · obtain ⟨e0, e1, e2⟩ := two_cell hw.r; go_simp
  simp only [Act.put, List.setIfInBounds_toArray, List.set_cons_zero, List.set_cons_succ]
  refine wpAnyH_ready (rs := [15]) (by kernel_rfl) (by simp) ?_
  refine AllReadyH.cons rfl (fun K hK => ?_) AllReadyH.nil
  go_simp
  refine (sl2Size_ok s p l _ (okB_of hok)).mono ?_
  rintro e w3 ⟨rfl, hb3⟩
  go_wp2_with (fail)
  refine hK.out _ _ (hS.later hb3) (fun hS => ?_)
  clear hK K
  refine takeH (i := 16) (v := .bool true) (d := some 38) rfl rfl (by kernel_rfl) (by kernel_rfl) (by kernel_rfl) (fun _ _ _ h => h) (Or.inl ⟨by rfl, fun w' hw => ?_⟩) (by assumption) ?_
  · go_simp
  simp only [Act.put, List.setIfInBounds_toArray, List.set_cons_zero, List.set_cons_succ]
  refine takeH (i := 17) (v := .bool true) (d := some 39) rfl rfl (by kernel_rfl) (by kernel_rfl) (by kernel_rfl) (fun _ _ _ h => h) (Or.inl ⟨by rfl, fun w' hw => ?_⟩) (by assumption) ?_
  · go_simp
  simp only [Act.put, List.setIfInBounds_toArray, List.set_cons_zero, List.set_cons_succ]
  refine wpAnyH_done (by kernel_rfl) ?_ _
  obtain ⟨q0, q1, q2⟩ := two_cell hS.r
  obtain ⟨p0, hp0⟩ := Option.isSome_iff_exists.1 (hS.t 0 (by decide)).1
  obtain ⟨p1, hp1⟩ := Option.isSome_iff_exists.1 (hS.t 1 (by decide)).1
  obtain ⟨p2, hp2⟩ := Option.isSome_iff_exists.1 (hS.t 2 (by decide)).1
  have u0 := (hS.t 0 (by decide)).2
  have u1 := (hS.t 1 (by decide)).2
  have u2 := (hS.t 2 (by decide)).2
  simp at u0 u1 u2 hp0 hp1 hp2
  go_wp2_with (fail)
  obtain ⟨hr, hB⟩ := chk_done hS.t hS.b (Nat.le_refl _) 0 0 0
  exact bodyPost_ret (results_cell_tmp_mid rfl _ _ w.heap.size 0 _ _ rfl hr Tryz.underlying24 rfl (by kernel_rfl)) rfl ⟨rfl, hB⟩

set_option maxHeartbeats 4000000 in
theorem scheck_ok (b0 off n cap : Nat) (x s p l : Int) (w : World) (hn0 : 0 < n) (hc : w.cell? ⟨b0, off, none⟩ = some (.int .u64 x)) (h0 : 0 ≤ x) (h1 : x < 18446744073709551616) (hs : lo32 x % 8 = s) (hp : lo32 x / 8 % 8 = p) (hl : lo32 x / 64 = l) (hok : okB s p l = true) (hst : (x != magic s p l) = false) (hsz : ((n : Int) != 7 + s * 23 + p * 17) = false) :
    Calls Tryz.prog 72 #[.slice (some ⟨b0, off, none⟩) n cap] w fun e w' => e = .returned (.tuple #[.agg #[.int .i64 s, .int .i64 p, .int .i64 l], .bool true]) ∧ Below w.heap.size w w' := by
  have hnb : ((n : Int) == 0) = false := by simp; omega
  have hni : (0 : Int) < n := by omega
  have hbl := World.block_lt_of_cell? w _ hc
  simp at hbl
  have l0 := lo32_lo x
  have l1 := lo32_hi x
  go_enter Tryz.func72, Tryz.ntmps72
  go_wp2_with (go_at_call 62; refine (sval_any x _ h0 h1).mono ?_; rintro e w' ⟨rfl, rfl⟩)
  have hS := CS.start w b0 off x s p l 24 hc
  generalize (w.alloc (.cells #[.int .i64 0, .int .i64 0, .int .i64 0] 24)).alloc (.cells #[.int .i64 s, .int .i64 p, .int .i64 l] 24) = W at *
  clear hs hp hl l0 l1 hnb
  refine wp_region_held_drew (S := CS w b0 off x s p l) (by kernel_rfl) hS.drew (fun hS => ?_)
  refine takeH (i := 0) (v := .agg #[.int .i64 s, .int .i64 p, .int .i64 l]) (d := some 22) rfl rfl (by kernel_rfl) (by kernel_rfl) (by kernel_rfl) (fun _ _ _ h => h) (Or.inl ⟨by rfl, fun w' hw => ?_⟩) (by assumption) ?_
  · obtain ⟨e0, e1, e2⟩ := two_cell hw.r; go_simp
  simp only [Act.put, List.setIfInBounds_toArray, List.set_cons_zero, List.set_cons_succ]
  refine wpAnyH_ready (rs := [1]) (by kernel_rfl) (by simp) ?_
  refine AllReadyH.cons rfl (fun K hK => ?_) AllReadyH.nil
  go_simp
  refine (sok_any s p l _).mono ?_
  rintro e w1 ⟨rfl, hb1⟩
  rw [hok]
  go_wp2_with (fail)
  refine hK.out _ _ (hS.later hb1) (fun hS => ?_)
  clear hK K
  refine takeH (i := 2) (v := .bool false) (d := some 24) rfl rfl (by kernel_rfl) (by kernel_rfl) (by kernel_rfl) (fun _ _ _ h => h) (Or.inl ⟨by rfl, fun w' hw => ?_⟩) (by assumption) ?_
  · go_simp
  simp only [Act.put, List.setIfInBounds_toArray, List.set_cons_zero, List.set_cons_succ]
  refine takeH (i := 3) (v := .bool false) (d := some 25) rfl rfl (by kernel_rfl) (by kernel_rfl) (by kernel_rfl) (fun _ _ _ h => h) (Or.inl ⟨by rfl, fun w' hw => ?_⟩) (by assumption) ?_
  · go_simp
  simp only [Act.put, List.setIfInBounds_toArray, List.set_cons_zero, List.set_cons_succ]
  refine takeH (i := 4) (v := .slice (some ⟨b0, off, none⟩) n cap) (d := some 26) rfl rfl (by kernel_rfl) (by kernel_rfl) (by kernel_rfl) (fun _ _ _ h => h) (Or.inl ⟨by rfl, fun w' hw => ?_⟩) (by assumption) ?_
  · go_simp
  simp only [Act.put, List.setIfInBounds_toArray, List.set_cons_zero, List.set_cons_succ]
  refine takeH (i := 5) (v := .pointer (some ⟨b0, off, none⟩)) (d := some 27) rfl rfl (by kernel_rfl) (by kernel_rfl) (by kernel_rfl) (fun _ _ _ h => h) (Or.inl ⟨by rfl, fun w' hw => ?_⟩) (by assumption) ?_
  · go_simp
  simp only [Act.put, List.setIfInBounds_toArray, List.set_cons_zero, List.set_cons_succ]
  refine takeH (i := 6) (v := .int .u64 x) (d := some 28) rfl rfl (by kernel_rfl) (by kernel_rfl) (by kernel_rfl) (fun _ _ _ h => h) (Or.inl ⟨by rfl, fun w' hw => ?_⟩) (by assumption) ?_
  · have e0 := hw.c; go_simp
  simp only [Act.put, List.setIfInBounds_toArray, List.set_cons_zero, List.set_cons_succ]
  refine takeH (i := 7) (v := .agg #[.int .i64 s, .int .i64 p, .int .i64 l]) (d := some 29) rfl rfl (by kernel_rfl) (by kernel_rfl) (by kernel_rfl) (fun _ _ _ h => h) (Or.inl ⟨by rfl, fun w' hw => ?_⟩) (by assumption) ?_
  · obtain ⟨e0, e1, e2⟩ := two_cell hw.r; go_simp
  simp only [Act.put, List.setIfInBounds_toArray, List.set_cons_zero, List.set_cons_succ]
  refine wpAnyH_ready (rs := [8]) (by kernel_rfl) (by simp) ?_
  refine AllReadyH.cons rfl (fun K hK => ?_) AllReadyH.nil
  go_simp
  refine (smagic_ok s p l _ (okB_of hok)).mono ?_
  rintro e w2 ⟨rfl, hb2⟩
  go_wp2_with (fail)
  refine hK.out _ _ (hS.later hb2) (fun hS => ?_)
  clear hK K
  refine takeH (i := 9) (v := .bool false) (d := some 31) rfl rfl (by kernel_rfl) (by kernel_rfl) (by kernel_rfl) (fun _ _ _ h => h) (Or.inl ⟨by rfl, fun w' hw => ?_⟩) (by assumption) ?_
  · go_simp
  simp only [Act.put, List.setIfInBounds_toArray, List.set_cons_zero, List.set_cons_succ]
  refine takeH (i := 10) (v := .bool false) (d := some 32) rfl rfl (by kernel_rfl) (by kernel_rfl) (by kernel_rfl) (fun _ _ _ h => h) (Or.inl ⟨by rfl, fun w' hw => ?_⟩) (by assumption) ?_
  · go_simp
  simp only [Act.put, List.setIfInBounds_toArray, List.set_cons_zero, List.set_cons_succ]
  refine takeH (i := 11) (v := .bool false) (d := some 33) rfl rfl (by kernel_rfl) (by kernel_rfl) (by kernel_rfl) (fun _ _ _ h => h) (Or.inl ⟨by rfl, fun w' hw => ?_⟩) (by assumption) ?_
  · go_simp
  simp only [Act.put, List.setIfInBounds_toArray, List.set_cons_zero, List.set_cons_succ]
  refine takeH (i := 12) (v := .slice (some ⟨b0, off, none⟩) n cap) (d := some 34) rfl rfl (by kernel_rfl) (by kernel_rfl) (by kernel_rfl) (fun _ _ _ h => h) (Or.inl ⟨by rfl, fun w' hw => ?_⟩) (by assumption) ?_
  · go_simp
  simp only [Act.put, List.setIfInBounds_toArray, List.set_cons_zero, List.set_cons_succ]
  refine takeH (i := 13) (v := .int .i64 n) (d := some 35) rfl rfl (by kernel_rfl) (by kernel_rfl) (by kernel_rfl) (fun _ _ _ h => h) (Or.inl ⟨by rfl, fun w' hw => ?_⟩) (by assumption) ?_
  · go_simp
  simp only [Act.put, List.setIfInBounds_toArray, List.set_cons_zero, List.set_cons_succ]
  refine takeH (i := 14) (v := .agg #[.int .i64 s, .int .i64 p, .int .i64 l]) (d := some 36) rfl rfl (by kernel_rfl) (by kernel_rfl) (by kernel_rfl) (fun _ _ _ h => h) (Or.inl ⟨by rfl, fun w' hw => ?_⟩) (by assumption) ?_
  · obtain ⟨e0, e1, e2⟩ := two_cell hw.r; go_simp
  simp only [Act.put, List.setIfInBounds_toArray, List.set_cons_zero, List.set_cons_succ]
  refine wpAnyH_ready (rs := [15]) (by kernel_rfl) (by simp) ?_
  refine AllReadyH.cons rfl (fun K hK => ?_) AllReadyH.nil
  go_simp
  refine (sl2Size_ok s p l _ (okB_of hok)).mono ?_
  rintro e w3 ⟨rfl, hb3⟩
  go_wp2_with (fail)
  refine hK.out _ _ (hS.later hb3) (fun hS => ?_)
  clear hK K
  refine takeH (i := 16) (v := .bool false) (d := some 38) rfl rfl (by kernel_rfl) (by kernel_rfl) (by kernel_rfl) (fun _ _ _ h => h) (Or.inl ⟨by rfl, fun w' hw => ?_⟩) (by assumption) ?_
  · go_simp
  simp only [Act.put, List.setIfInBounds_toArray, List.set_cons_zero, List.set_cons_succ]
  refine takeH (i := 17) (v := .bool false) (d := some 39) rfl rfl (by kernel_rfl) (by kernel_rfl) (by kernel_rfl) (fun _ _ _ h => h) (Or.inl ⟨by rfl, fun w' hw => ?_⟩) (by assumption) ?_
  · go_simp
  simp only [Act.put, List.setIfInBounds_toArray, List.set_cons_zero, List.set_cons_succ]
  refine wpAnyH_done (by kernel_rfl) ?_ _
  obtain ⟨q0, q1, q2⟩ := two_cell hS.r
  obtain ⟨p0, hp0⟩ := Option.isSome_iff_exists.1 (hS.t 0 (by decide)).1
  obtain ⟨p1, hp1⟩ := Option.isSome_iff_exists.1 (hS.t 1 (by decide)).1
  obtain ⟨p2, hp2⟩ := Option.isSome_iff_exists.1 (hS.t 2 (by decide)).1
  have u0 := (hS.t 0 (by decide)).2
  have u1 := (hS.t 1 (by decide)).2
  have u2 := (hS.t 2 (by decide)).2
  simp at u0 u1 u2 hp0 hp1 hp2
  go_wp2_with (fail)
  obtain ⟨hr, hB⟩ := chk_done hS.t hS.b (Nat.le_refl _) s p l
  exact bodyPost_ret (results_cell_tmp_mid rfl _ _ w.heap.size 0 _ _ rfl hr Tryz.underlying24 rfl (by kernel_rfl)) rfl ⟨rfl, hB⟩

end Go.Proofs.YtipbijcmpbefpaaGreat.Plat

/- Of which house some words are: one answer for the program and the specification. Conditions: at most 1,000,000,000 words, each of 64 bits. -/
namespace Go.Proofs.YtipbijcmpbefpaaGreat.Plat
open Go.ChangeShapes Go.WideShapes Go.ChangeAt Go.RowKit
open Go.Proofs.YtipbijcmpbefpaaGreat.Words Go.Proofs.YtipbijcmpbefpaaGreat.Aid Go.Proofs.YtipbijcmpbefpaaGreat.Lst

def gd (n : Nat) (f : Nat → Int) : Bool := good n (f 0)
def gS (n : Nat) (f : Nat → Int) : Int := if gd n f = true then cS (f 0) else 0
def gP (n : Nat) (f : Nat → Int) : Int := if gd n f = true then cP (f 0) else 0
def gL (n : Nat) (f : Nat → Int) : Int := if gd n f = true then cL (f 0) else 0

theorem gd_f {n : Nat} {f : Nat → Int} (h : ¬ (0 < n ∧ f 0 / 4294967296 = 201115 ∧ (n : Int) = size (cS (f 0)) (cP (f 0)) (cL (f 0)))) : gd n f = false := decide_eq_false h
theorem gd_t {n : Nat} {f : Nat → Int} (h : 0 < n ∧ f 0 / 4294967296 = 201115 ∧ (n : Int) = size (cS (f 0)) (cP (f 0)) (cL (f 0))) : gd n f = true := decide_eq_true h

theorem chk_f {n : Nat} {f : Nat → Int} (h : gd n f = false) : Ending.returned (.tuple #[.agg #[.int .i64 0, .int .i64 0, .int .i64 0], .bool false]) = .returned (.tuple #[.agg #[.int .i64 (gS n f), .int .i64 (gP n f), .int .i64 (gL n f)], .bool (gd n f)]) := by
  unfold gS gP gL; rw [h]; rfl
theorem chk_t {n : Nat} {f : Nat → Int} (h : gd n f = true) : Ending.returned (.tuple #[.agg #[.int .i64 (cS (f 0)), .int .i64 (cP (f 0)), .int .i64 (cL (f 0))], .bool true]) = .returned (.tuple #[.agg #[.int .i64 (gS n f), .int .i64 (gP n f), .int .i64 (gL n f)], .bool (gd n f)]) := by
  unfold gS gP gL; rw [h]; rfl

theorem check_all (a : Option Addr) (n cap : Nat) (f : Nat → Int) (w : World) (h : Sl .u64 w a n f) (hn : n ≤ 1000000000) (h0 : ∀ j, j < n → 0 ≤ f j ∧ f j < 18446744073709551616) :
    Calls Tryz.prog 16 #[.slice a n cap] w fun e w' => e = .returned (.tuple #[.agg #[.int .i64 (gS n f), .int .i64 (gP n f), .int .i64 (gL n f)], .bool (gd n f)]) ∧ Below w.heap.size w w' := by
  by_cases hk : kn n f = true
  · obtain ⟨k1, k2, k3⟩ := kn_of hk
    by_cases hsz : (n : Int) = size (cS (f 0)) (cP (f 0)) (cL (f 0))
    · exact (check_ok a n cap f w h hn h0 hk (by simp [hsz])).mono fun e w' ⟨he, hw⟩ => ⟨he.trans (chk_t (gd_t ⟨k1, k2, hsz⟩)), hw⟩
    · exact (check_size a n cap f w h hn h0 hk (by simpa using hsz)).mono fun e w' ⟨he, hw⟩ => ⟨he.trans (chk_f (gd_f (fun h => hsz h.2.2))), hw⟩
  · refine (check_no a n cap f w h hn h0 (by simpa using hk)).mono fun e w' ⟨he, hw⟩ => ⟨he.trans (chk_f (gd_f (fun h => hk (kn_t ⟨h.1, h.2.1, ?_⟩)))), hw⟩
    have h3 := h.2.2
    unfold size at h3
    split at h3
    · assumption
    · omega

theorem check_none (a : Option Addr) (cap : Nat) (w : World) :
    Calls Tryz.prog 16 #[.slice a 0 cap] w fun e w' => e = .returned (.tuple #[.agg #[.int .i64 0, .int .i64 0, .int .i64 0], .bool false]) ∧ Below w.heap.size w w' :=
  check_no a 0 cap (fun _ => 0) w (.inl rfl) (by omega) (fun j hj => by omega) (kn_f (by omega))

theorem magic_of {x : Int} : magic (cS x) (cP x) (cL x) = 201115 * 4294967296 + lo32 x := by
  have l0 := lo32_lo x
  have l1 := lo32_hi x
  have e : cS x + 8 * cP x + 64 * cL x = lo32 x := by unfold cS cP cL; omega
  unfold magic pack; rw [e]
  have e1 : fit 201115 4294967295 = 201115 := by decide
  have e2 : fit (lo32 x) 4294967295 = lo32 x := by unfold fit; rw [if_neg (by omega), if_neg (by omega)]
  rw [e1, e2]

theorem scheck_all (a : Option Addr) (n cap : Nat) (f : Nat → Int) (w : World) (h : Sl .u64 w a n f) (h0 : ∀ j, j < n → 0 ≤ f j ∧ f j < 18446744073709551616) :
    Calls Tryz.prog 72 #[.slice a n cap] w fun e w' => e = .returned (.tuple #[.agg #[.int .i64 (gS n f), .int .i64 (gP n f), .int .i64 (gL n f)], .bool (gd n f)]) ∧ Below w.heap.size w w' := by
  by_cases hz : n = 0
  · subst hz
    exact (scheck_none a cap w).mono fun e w' ⟨he, hw⟩ => ⟨he.trans (chk_f (gd_f (by omega))), hw⟩
  · rcases h with h | ⟨b, off, rfl, h⟩
    · exact absurd h hz
    · have hc := h 0 (by omega)
      rw [Nat.add_zero] at hc
      obtain ⟨x0, x1⟩ := h0 0 (by omega)
      have hm := magic_of (x := f 0)
      have hx : f 0 = f 0 / 4294967296 * 4294967296 + lo32 (f 0) := by unfold lo32; omega
      by_cases hok : okB (cS (f 0)) (cP (f 0)) (cL (f 0)) = true
      · have hsize : size (cS (f 0)) (cP (f 0)) (cL (f 0)) = 7 + cS (f 0) * 23 + cP (f 0) * 17 := by unfold size; rw [if_pos hok]
        by_cases hst : f 0 / 4294967296 = 201115
        · have hst' : (f 0 != magic (cS (f 0)) (cP (f 0)) (cL (f 0))) = false := by rw [hm]; simp; omega
          by_cases hsz : (n : Int) = size (cS (f 0)) (cP (f 0)) (cL (f 0))
          · exact (scheck_ok b off n cap (f 0) (cS (f 0)) (cP (f 0)) (cL (f 0)) w (by omega) hc x0 x1 rfl rfl rfl hok hst' (by rw [hsize] at hsz; simpa using hsz)).mono fun e w' ⟨he, hw⟩ => ⟨he.trans (chk_t (gd_t ⟨by omega, hst, hsz⟩)), hw⟩
          · exact (scheck_size b off n cap (f 0) (cS (f 0)) (cP (f 0)) (cL (f 0)) w (by omega) hc x0 x1 rfl rfl rfl hok hst' (by rw [hsize] at hsz; simpa using hsz)).mono fun e w' ⟨he, hw⟩ => ⟨he.trans (chk_f (gd_f (fun h => hsz h.2.2))), hw⟩
        · exact (scheck_stamp b off n cap (f 0) (cS (f 0)) (cP (f 0)) (cL (f 0)) w (by omega) hc x0 x1 rfl rfl rfl hok (by rw [hm]; simp; omega)).mono fun e w' ⟨he, hw⟩ => ⟨he.trans (chk_f (gd_f (fun h => hst h.2.1))), hw⟩
      · have hok' : okB (cS (f 0)) (cP (f 0)) (cL (f 0)) = false := by simpa using hok
        have hsize : size (cS (f 0)) (cP (f 0)) (cL (f 0)) = 0 := by unfold size; rw [if_neg hok]
        exact (scheck_bad b off n cap (f 0) (cS (f 0)) (cP (f 0)) (cL (f 0)) w (by omega) hc x0 x1 rfl rfl rfl hok').mono fun e w' ⟨he, hw⟩ => ⟨he.trans (chk_f (gd_f (fun h => by rw [hsize] at h; omega))), hw⟩

end Go.Proofs.YtipbijcmpbefpaaGreat.Plat

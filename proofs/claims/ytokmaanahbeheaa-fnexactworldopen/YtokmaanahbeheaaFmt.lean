/- The words of an empty house, as the program and the specification make them. Conditions: none. -/
import Derived.Test.YtokmaanahbeheaaPlat2
import Derived.Test.YtokmaanahbeheaaDoor
import Derived.Test.YtokmaanahbeheaaLst
namespace Go.Proofs.Ytokmaanahbeheaa.Plat
open Go.ChangeShapes Go.WideShapes Go.ChangeAt Go.RowKit
open Go.Proofs.Ytokmaanahbeheaa.Words Go.Proofs.Ytokmaanahbeheaa.Aid Go.Proofs.Ytokmaanahbeheaa.Lst

def magic (s p l : Int) : Int := pack (s + 8 * p + 64 * l) 201115

theorem first_ok (s p l : Int) (w : World) (h : 1 ≤ s ∧ s ≤ 4 ∧ 1 ≤ p ∧ p ≤ 6 ∧ 1 ≤ l ∧ l ≤ 20) :
    Calls Try.prog 37 #[.agg #[.int .i64 s, .int .i64 p, .int .i64 l]] w fun e w' => e = .returned (.int .u64 (magic s p l)) ∧ Below w.heap.size w w' := by
  have o1 : bits .or .i64 s (p * 8) = s + p * 8 := bits_join_low 3 (by decide) s _ (by omega) (by omega) (by omega) (by omega) (by omega)
  have o2 : bits .or .i64 (s + p * 8) (l * 64) = s + p * 8 + l * 64 := bits_join_low 6 (by decide) _ _ (by omega) (by omega) (by omega) (by omega) (by omega)
  go_enter Try.func37, Try.ntmps37
  go_wp2_with (go_at_call 51; refine (pack_any _ _ _).mono ?_; rintro e w' ⟨rfl, rfl⟩)
  go_ret
  refine ⟨ret_int ?_, below1 _ _⟩
  unfold magic; congr 1; omega

theorem smagic_ok (s p l : Int) (w : World) (h : 1 ≤ s ∧ s ≤ 4 ∧ 1 ≤ p ∧ p ≤ 6 ∧ 1 ≤ l ∧ l ≤ 20) :
    Calls Try.prog 33 #[.agg #[.int .i64 s, .int .i64 p, .int .i64 l]] w fun e w' => e = .returned (.int .u64 (magic s p l)) ∧ Below w.heap.size w w' := by
  go_enter Try.func33, Try.ntmps33
  go_wp2_with (go_at_call 34; refine (spack_any _ _ _).mono ?_; rintro e w' ⟨rfl, rfl⟩)
  go_ret
  exact ⟨ret_int (by unfold magic; rfl), below1 _ _⟩

def szN (s p : Int) : Nat := (7 + s * 23 + p * 17).toNat
def fmtF (s p l : Int) (j : Nat) : Int := if j = 0 then magic s p l else if j = 2 then 4294967296 else 0

theorem size_szN {s p l : Int} (h : okB s p l = true) : size s p l = (szN s p : Int) := by
  have := okB_of h
  unfold size szN; rw [if_pos h]; omega
theorem szN_eq {s p l : Int} (h : okB s p l = true) : (7 + s * 23 + p * 17 : Int) = (szN s p : Int) := by
  have := okB_of h
  unfold szN; omega
theorem szN_bd {s p l : Int} (h : okB s p l = true) : 47 ≤ szN s p ∧ szN s p ≤ 201 := by
  have := okB_of h
  unfold szN; omega

theorem fmt_fk {w : World} {b n : Nat} {s p l : Int} (hf : Fk .u64 n w b (fun _ => 0)) : Fk .u64 n ((w.setCell ⟨b, 0, none⟩ (.int .u64 (magic s p l))).setCell ⟨b, 2, none⟩ (.int .u64 4294967296)) b (fmtF s p l) := by
  refine (hf.set 0 (magic s p l) (fun j => if j = 0 then magic s p l else 0) (by simp) (fun j _ h => by simp [h])).set 2 4294967296 _ rfl (fun j _ h => ?_)
  unfold fmtF; by_cases e : j = 0
  · rw [if_pos e, if_pos e]
  · rw [if_neg e, if_neg e, if_neg h]

theorem pack01 : pack (doorV 0 0 0) 1 = 4294967296 := by decide
theorem spack01 : pack 0 1 = 4294967296 := by decide

theorem fmt_bad (s p l : Int) (w : World) (h : okB s p l = false) :
    Calls Try.prog 16 #[.agg #[.int .i64 s, .int .i64 p, .int .i64 l]] w fun e w' => e = .returned (.slice none 0 0) ∧ Below w.heap.size w w' := by
  go_enter Try.func16, Try.ntmps16
  go_wp2_with (go_at_call 35; refine (ok_any s p l _).mono ?_; rintro e w1 ⟨rfl, hb⟩; rw [h])
  go_ret
  exact ⟨rfl, (below1 _ _).trans (hb.mono (by simp))⟩

theorem sfmt_bad (s p l : Int) (w : World) (h : okB s p l = false) :
    Calls Try.prog 15 #[.agg #[.int .i64 s, .int .i64 p, .int .i64 l]] w fun e w' => e = .returned (.slice none 0 0) ∧ Below w.heap.size w w' := by
  go_enter Try.func15, Try.ntmps15
  go_wp2_with (go_at_call 31; refine (sok_any s p l _).mono ?_; rintro e w1 ⟨rfl, hb⟩; rw [h])
  go_ret
  exact ⟨rfl, (below1 _ _).trans (hb.mono (by simp))⟩

set_option maxHeartbeats 1000000 in
theorem fmt_ok (s p l : Int) (w : World) (h : okB s p l = true) :
    Calls Try.prog 16 #[.agg #[.int .i64 s, .int .i64 p, .int .i64 l]] w fun e w' => ∃ b, w.heap.size ≤ b ∧ b < w'.heap.size ∧ e = .returned (.slice (some ⟨b, 0, none⟩) (szN s p) (szN s p)) ∧ Fk .u64 (szN s p) w' b (fmtF s p l) ∧ Below w.heap.size w w' := by
  have hk := okB_of h
  have hN := szN_bd h
  have hmk := fun w => run_make_row' (P := Try.prog) 24 52 (.int .u64 0) 8 Try.underlying24 infoUint64 rfl .i64 .i64 (szN s p) (by omega) (by omega) w
  go_enter Try.func16, Try.ntmps16
  go_wp2_with (fail)
  refine (ok_any s p l _).mono ?_
  rintro e w1 ⟨rfl, hb1⟩
  rw [h]
  have r1 : w1.rangeAt w.heap.size 0 (ints [s, p, l]) := range_below hb1 (range_lit (ints [s, p, l]).toArray (heap1_0 _ _)) (by simp)
  have hz1 := hb1.size
  simp at hz1
  have q0 : w1.cell? ⟨w.heap.size, 0, none⟩ = some (.int .i64 s) := r1 0 _ rfl
  have q1 : w1.cell? ⟨w.heap.size, 1, none⟩ = some (.int .i64 p) := r1 1 _ rfl
  have q2 : w1.cell? ⟨w.heap.size, 2, none⟩ = some (.int .i64 l) := r1 2 _ rfl
  go_wp2_with (fail)
  refine (size_any s p l _).mono ?_
  rintro e w2 ⟨rfl, hb2⟩
  rw [size_szN h]
  have hz2 := hb2.size
  have r2 : w2.rangeAt w.heap.size 0 (ints [s, p, l]) := range_below hb2 r1 (by omega)
  have hlt : w.heap.size < w2.heap.size := by omega
  have hB : Below w.heap.size w w2 := ((below1 _ _).trans (hb1.mono (by simp))).trans (hb2.mono (by omega))
  clear q0 q1 q2 r1 hb1 hb2
  have q0 : w2.cell? ⟨w.heap.size, 0, none⟩ = some (.int .i64 s) := r2 0 _ rfl
  have q1 : w2.cell? ⟨w.heap.size, 1, none⟩ = some (.int .i64 p) := r2 1 _ rfl
  have q2 : w2.cell? ⟨w.heap.size, 2, none⟩ = some (.int .i64 l) := r2 2 _ rfl
  clear r2
  go_wp2_with (fail)
  have f0 := fk_made .u64 w2 (szN s p) 52
  have hb0 := below1 w2 (.cells (madeCells #[.int .u64 0] (szN s p)) 52)
  have hz0 : (w2.alloc (.cells (madeCells #[.int .u64 0] (szN s p)) 52)).heap.size = w2.heap.size + 1 := by simp
  generalize w2.alloc (.cells (madeCells #[.int .u64 0] (szN s p)) 52) = w3 at f0 hb0 hz0 ⊢
  refine (first_ok s p l _ hk).mono ?_
  rintro e w4 ⟨rfl, hb4⟩
  have f4 := f0.later hb4
  have g0 := f4 0 (by omega)
  have g2 := f4 2 (by omega)
  have hz4 := hb4.size
  clear hmk q0 q1 q2
  go_wp2_with (go_at_call 38; refine (door_any _ _ _ _ _).mono ?_; rintro e w' ⟨rfl, rfl⟩; rw [pack01])
  go_ret
  refine ⟨w2.heap.size, by omega, by simp [World.setCell]; omega, rfl, fmt_fk f4, ?_⟩
  exact (((hB.trans (hb0.mono (by omega))).trans (hb4.mono (by omega))).setCell (by simp; omega) _).setCell (by simp; omega) _

set_option maxHeartbeats 1000000 in
theorem sfmt_ok (s p l : Int) (w : World) (h : okB s p l = true) :
    Calls Try.prog 15 #[.agg #[.int .i64 s, .int .i64 p, .int .i64 l]] w fun e w' => ∃ b, w.heap.size ≤ b ∧ b < w'.heap.size ∧ e = .returned (.slice (some ⟨b, 0, none⟩) (szN s p) (szN s p)) ∧ Fk .u64 (szN s p) w' b (fmtF s p l) ∧ Below w.heap.size w w' := by
  have hk := okB_of h
  have hN := szN_bd h
  have hmk := fun w => run_make_row' (P := Try.prog) 24 52 (.int .u64 0) 8 Try.underlying24 infoUint64 rfl .i64 .i64 (szN s p) (by omega) (by omega) w
  go_enter Try.func15, Try.ntmps15
  go_wp2_with (fail)
  refine (sok_any s p l _).mono ?_
  rintro e w1 ⟨rfl, hb1⟩
  rw [h]
  have r1 : w1.rangeAt w.heap.size 0 (ints [s, p, l]) := range_below hb1 (range_lit (ints [s, p, l]).toArray (heap1_0 _ _)) (by simp)
  have hz1 := hb1.size
  simp at hz1
  have q0 : w1.cell? ⟨w.heap.size, 0, none⟩ = some (.int .i64 s) := r1 0 _ rfl
  have q1 : w1.cell? ⟨w.heap.size, 1, none⟩ = some (.int .i64 p) := r1 1 _ rfl
  have q2 : w1.cell? ⟨w.heap.size, 2, none⟩ = some (.int .i64 l) := r1 2 _ rfl
  go_wp2_with (fail)
  refine (sl2Size_ok s p l _ hk).mono ?_
  rintro e w2 ⟨rfl, hb2⟩
  rw [szN_eq h]
  have hz2 := hb2.size
  have r2 : w2.rangeAt w.heap.size 0 (ints [s, p, l]) := range_below hb2 r1 (by omega)
  have hlt : w.heap.size < w2.heap.size := by omega
  have hB : Below w.heap.size w w2 := ((below1 _ _).trans (hb1.mono (by simp))).trans (hb2.mono (by omega))
  clear q0 q1 q2 r1 hb1 hb2
  have q0 : w2.cell? ⟨w.heap.size, 0, none⟩ = some (.int .i64 s) := r2 0 _ rfl
  have q1 : w2.cell? ⟨w.heap.size, 1, none⟩ = some (.int .i64 p) := r2 1 _ rfl
  have q2 : w2.cell? ⟨w.heap.size, 2, none⟩ = some (.int .i64 l) := r2 2 _ rfl
  clear r2
  go_wp2_with (fail)
  have f0 := fk_made .u64 w2 (szN s p) 52
  have hb0 := below1 w2 (.cells (madeCells #[.int .u64 0] (szN s p)) 52)
  have hz0 : (w2.alloc (.cells (madeCells #[.int .u64 0] (szN s p)) 52)).heap.size = w2.heap.size + 1 := by simp
  generalize w2.alloc (.cells (madeCells #[.int .u64 0] (szN s p)) 52) = w3 at f0 hb0 hz0 ⊢
  refine (smagic_ok s p l _ hk).mono ?_
  rintro e w4 ⟨rfl, hb4⟩
  have f4 := f0.later hb4
  have g0 := f4 0 (by omega)
  have g2 := f4 2 (by omega)
  have hz4 := hb4.size
  clear hmk q0 q1 q2
  go_wp2_with (go_at_call 34; refine (spack_any _ _ _).mono ?_; rintro e w' ⟨rfl, rfl⟩; rw [spack01])
  go_ret
  refine ⟨w2.heap.size, by omega, by simp [World.setCell]; omega, rfl, fmt_fk f4, ?_⟩
  exact (((hB.trans (hb0.mono (by omega))).trans (hb4.mono (by omega))).setCell (by simp; omega) _).setCell (by simp; omega) _

end Go.Proofs.Ytokmaanahbeheaa.Plat

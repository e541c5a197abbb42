/- A guest that is not in: GuestNew of both, held against each other. -/
import Derived.Test.YtpfgldbmihbiiaaLst
import Derived.Deep.MidRow
namespace Go.Proofs.Ytpfgldbmihbiiaa.Gst
open Go.ChangeShapes Go.WideShapes Go.ChangeAt Go.RowKit
open Go.Proofs.Ytpfgldbmihbiiaa.Aid Go.Proofs.Ytpfgldbmihbiiaa.Lst
set_option maxRecDepth 100000
set_option linter.unusedVariables false

def newB (s : Int) : Bool := decide (0 ≤ s) && decide (s ≤ 3)
def newS (s : Int) : Int := if newB s then s else 0
def gst (u : Bool) (s : Int) : Array Value := #[.bool u, .int .i64 s, .int .i64 0, .bool false, .int .i64 0, .int .i64 0, .int .i64 0, .int .i64 0, .int .i64 0, .int .i64 0, .int .i64 0, .int .i64 0, .int .i64 0, .int .i64 0, .int .i64 0, .bool false, .int .i64 0, .int .u64 0, .int .u64 0, .int .u64 0, .int .u64 0, .slice none 0 0, .slice none 0 0, .int .i64 0, .int .i64 0, .int .i64 0]

theorem within_any (n a b : Int) (w : World) : Calls Try.prog 51 #[.int .i64 n, .int .i64 a, .int .i64 b] w fun e w' => e = .returned (.bool (decide (a ≤ n) && decide (n ≤ b))) ∧ w' = w := by
  by_cases h1 : a ≤ n
  all_goals
    by_cases h2 : n ≤ b
    all_goals
      go_enter Try.func51, Try.ntmps51
      go_wp2_with (fail)
      go_ret
      first
        | exact ⟨by simp [h1, h2], rfl⟩
        | (constructor <;> simp_all)

def z0 : Array Value := #[.bool false, .int .i64 0, .int .i64 0, .bool false, .int .i64 0, .int .i64 0, .int .i64 0, .int .i64 0, .int .i64 0, .int .i64 0, .int .i64 0, .int .i64 0, .int .i64 0, .int .i64 0, .int .i64 0, .bool false, .int .i64 0, .int .u64 0, .int .u64 0, .int .u64 0, .int .u64 0, .slice none 0 0, .slice none 0 0, .int .i64 0, .int .i64 0, .int .i64 0]
theorem gst_one (u : Bool) (s : Int) : (gst u s).all (·.oneCell') = true := by simp [gst, Value.oneCell']
theorem gst_size (u : Bool) (s : Int) : (gst u s).size = 26 := rfl
theorem z0_gst : z0 = gst false 0 := rfl

theorem eqop_any (w : World) : Calls Try.prog 45 #[.agg #[.int .i64 0, .int .i64 0, .int .i64 0, .int .i64 0], .agg #[.int .i64 0, .int .i64 0, .int .i64 0, .int .i64 0]] w fun e w' => e = .returned (.bool true) ∧ Below w.heap.size w w' := by
  go_enter Try.func45, Try.ntmps45
  go_wp2_with (fail)
  go_ret
  exact ⟨rfl, below2 _ _ _⟩

set_option maxHeartbeats 8000000 in
theorem eqnew_any (u : Bool) (s : Int) (w : World) : Calls Try.prog 43 #[.agg (gst u s), .agg (gst u s)] w fun e w' => e = .returned (.bool true) ∧ Below w.heap.size w w' := by
  have r1 := range_lit (gst u s) (heap2_0 w (.cells (gst u s) 53) (.cells (gst u s) 53))
  have r2 := range_lit (gst u s) (heap2_1 w (.cells (gst u s) 53) (.cells (gst u s) 53))
  have hb := below2 w (.cells (gst u s) 53) (.cells (gst u s) 53)
  have hz : w.heap.size + 2 ≤ ((w.alloc (.cells (gst u s) 53)).alloc (.cells (gst u s) 53)).heap.size := by simp
  generalize hW : (w.alloc (.cells (gst u s) 53)).alloc (.cells (gst u s) 53) = W at r1 r2 hb hz
  have HW : Hid (_ = W) := hW
  clear hW
  simp only [gst] at HW r1 r2 ⊢
  go_enter Try.func43, Try.ntmps43
  go_wp2_with (fail)
  rw [HW.out]
  refine (eqop_any W).mono ?_
  rintro e w1 ⟨rfl, hb1⟩
  replace r1 := range_below hb1 r1 (by omega)
  replace r2 := range_below hb1 r2 (by omega)
  replace hb := hb.trans (hb1.mono (by omega))
  have hz1 := hb1.size
  clear hb1 HW
  have x8 := r1 8 _ rfl
  have y8 := r2 8 _ rfl
  have x9 := r1 9 _ rfl
  have y9 := r2 9 _ rfl
  have x10 := r1 10 _ rfl
  have y10 := r2 10 _ rfl
  have x11 := r1 11 _ rfl
  have y11 := r2 11 _ rfl
  have x12 := r1 12 _ rfl
  have y12 := r2 12 _ rfl
  have x13 := r1 13 _ rfl
  have y13 := r2 13 _ rfl
  have x14 := r1 14 _ rfl
  have y14 := r2 14 _ rfl
  have x15 := r1 15 _ rfl
  have y15 := r2 15 _ rfl
  have x16 := r1 16 _ rfl
  have y16 := r2 16 _ rfl
  have x17 := r1 17 _ rfl
  have y17 := r2 17 _ rfl
  have x18 := r1 18 _ rfl
  have y18 := r2 18 _ rfl
  have x19 := r1 19 _ rfl
  have y19 := r2 19 _ rfl
  have x20 := r1 20 _ rfl
  have y20 := r2 20 _ rfl
  have x21 := r1 21 _ rfl
  have y21 := r2 21 _ rfl
  have x22 := r1 22 _ rfl
  have y22 := r2 22 _ rfl
  have x23 := r1 23 _ rfl
  have y23 := r2 23 _ rfl
  have x24 := r1 24 _ rfl
  have y24 := r2 24 _ rfl
  have x25 := r1 25 _ rfl
  have y25 := r2 25 _ rfl
  simp only [Nat.zero_add] at x8 y8 x9 y9 x10 y10 x11 y11 x12 y12 x13 y13 x14 y14 x15 y15 x16 y16 x17 y17 x18 y18 x19 y19 x20 y20 x21 y21 x22 y22 x23 y23 x24 y24 x25 y25
  clear r1 r2
  go_wp2_with (fail)
  refine (eqUint64_any none none 0 0 0 (fun _ => 0) (fun _ => 0) _ (.inl rfl) (.inl rfl) (fun _ _ => rfl) (by omega)).mono ?_
  rintro e w2 ⟨rfl, q, rfl⟩
  go_wp2_with (fail)
  refine (eqUint64_any none none 0 0 0 (fun _ => 0) (fun _ => 0) _ (.inl rfl) (.inl rfl) (fun _ _ => rfl) (by omega)).mono ?_
  rintro e w3 ⟨rfl, q2, rfl⟩
  go_wp2_with (fail)
  go_ret
  exact ⟨rfl, ⟨hb.os, hb.tape, hb.output, hb.size, hb.block⟩⟩

end Go.Proofs.Ytpfgldbmihbiiaa.Gst

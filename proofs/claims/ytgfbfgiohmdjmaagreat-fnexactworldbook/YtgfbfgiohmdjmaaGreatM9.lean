import Derived.Test.YtgfbfgiohmdjmaaGreatM2
import Derived.Test.YtgfbfgiohmdjmaaGreatM3
import Derived.Test.YtgfbfgiohmdjmaaGreatM1

/- The words of a house, further: doors, the register, changes, made and read by the program; doors and changes made by the specification. -/
namespace Go.Proofs.YtgfbfgiohmdjmaaGreat.Words
open Go.ChangeShapes Go.WideShapes Go.ChangeAt Go.RowKit

def doorV (st sl ep : Int) : Int := fit st 2 + fit sl 7 * 4 + fit ep 4095 * 32
def regV (st ep : Int) : Int := fit st 2 + fit ep 4095 * 4
def entryV (a v : Int) : Int := fit a 4095 * 1048576 + fit v 1048575

theorem sdoor_any (st sl ep s : Int) (w : World) :
    Calls Tryz.prog 58 #[.int .i64 st, .int .i64 sl, .int .i64 ep, .int .i64 s] w fun e w' => e = .returned (.int .u64 (pack (doorV st sl ep) s)) ∧ w' = w := by
  have a1 := fit_lo st 2 (by omega)
  have a2 := fit_hi st 2 (by omega)
  have b1 := fit_lo sl 7 (by omega)
  have b2 := fit_hi sl 7 (by omega)
  have c1 := fit_lo ep 4095 (by omega)
  have c2 := fit_hi ep 4095 (by omega)
  go_enter Tryz.func58, Tryz.ntmps58
  go_wp2_with (first | (go_at_call 95; refine (low_any _ _ _).mono ?_; rintro e w' ⟨rfl, rfl⟩) | (go_at_call 79; refine (spack_any _ _ _).mono ?_; rintro e w' ⟨rfl, rfl⟩))
  all_goals go_ret
  exact ⟨ret_int (by simp only [doorV, Int.mul_comm]), rfl⟩

theorem door_any (st sl ep s : Int) (w : World) :
    Calls Tryz.prog 77 #[.int .i64 st, .int .i64 sl, .int .i64 ep, .int .i64 s] w fun e w' => e = .returned (.int .u64 (pack (doorV st sl ep) s)) ∧ w' = w := by
  have a1 := fit_lo st 2 (by omega)
  have a2 := fit_hi st 2 (by omega)
  have b1 := fit_lo sl 7 (by omega)
  have b2 := fit_hi sl 7 (by omega)
  have c1 := fit_lo ep 4095 (by omega)
  have c2 := fit_hi ep 4095 (by omega)
  go_enter Tryz.func77, Tryz.ntmps77
  go_wp2_with (first | (go_at_call 116; refine (fit_any _ _ _ (by omega)).mono ?_; rintro e w' ⟨rfl, rfl⟩) | (go_at_call 117; refine (make_any _ _ _).mono ?_; rintro e w' ⟨rfl, rfl⟩))
  all_goals go_ret
  refine ⟨ret_int ?_, rfl⟩
  rw [or_low2 _ _ a1 a2 b1 (by omega), or_low5 _ _ (by omega) (by omega) c1 c2, doorV]

theorem dstate_any (n : Int) (w : World) (h0 : 0 ≤ n) (h1 : n < 18446744073709551616) :
    Calls Tryz.prog 112 #[.agg #[.int .u64 n]] w fun e w' => e = .returned (.int .i64 (lo32 n % 4)) ∧ w' = w.alloc (.cells #[.int .u64 n] 127) := by
  have l0 := lo32_lo n
  have l1 := lo32_hi n
  go_enter Tryz.func112, Tryz.ntmps112
  go_wp2_with (go_at_call 125; refine (value_any _ _ h0 h1).mono ?_; rintro e w' ⟨rfl, rfl⟩)
  all_goals go_ret
  exact ⟨ret_int (and3 _ (lo32_lo n) (lo32_hi n)), rfl⟩

theorem dslot_any (n : Int) (w : World) (h0 : 0 ≤ n) (h1 : n < 18446744073709551616) :
    Calls Tryz.prog 111 #[.agg #[.int .u64 n]] w fun e w' => e = .returned (.int .i64 (lo32 n / 4 % 8)) ∧ w' = w.alloc (.cells #[.int .u64 n] 127) := by
  have l0 := lo32_lo n
  have l1 := lo32_hi n
  go_enter Tryz.func111, Tryz.ntmps111
  go_wp2_with (go_at_call 125; refine (value_any _ _ h0 h1).mono ?_; rintro e w' ⟨rfl, rfl⟩)
  all_goals go_ret
  exact ⟨ret_int (and7 _ (by omega) (by omega)), rfl⟩

theorem rstate_any (n : Int) (w : World) (h0 : 0 ≤ n) (h1 : n < 18446744073709551616) :
    Calls Tryz.prog 126 #[.agg #[.int .u64 n]] w fun e w' => e = .returned (.int .i64 (lo32 n % 4)) ∧ w' = w.alloc (.cells #[.int .u64 n] 133) := by
  have l0 := lo32_lo n
  have l1 := lo32_hi n
  go_enter Tryz.func126, Tryz.ntmps126
  go_wp2_with (go_at_call 125; refine (value_any _ _ h0 h1).mono ?_; rintro e w' ⟨rfl, rfl⟩)
  all_goals go_ret
  exact ⟨ret_int (and3 _ (lo32_lo n) (lo32_hi n)), rfl⟩

theorem repoch_any (n : Int) (w : World) (h0 : 0 ≤ n) (h1 : n < 18446744073709551616) :
    Calls Tryz.prog 127 #[.agg #[.int .u64 n]] w fun e w' => e = .returned (.int .i64 (lo32 n / 4)) ∧ w' = w.alloc (.cells #[.int .u64 n] 133) := by
  have l0 := lo32_lo n
  have l1 := lo32_hi n
  go_enter Tryz.func127, Tryz.ntmps127
  go_wp2_with (go_at_call 125; refine (value_any _ _ h0 h1).mono ?_; rintro e w' ⟨rfl, rfl⟩)
  all_goals go_ret
  exact ⟨rfl, rfl⟩

theorem eaddr_any (n : Int) (w : World) (h0 : 0 ≤ n) (h1 : n < 18446744073709551616) :
    Calls Tryz.prog 138 #[.agg #[.int .u64 n]] w fun e w' => e = .returned (.int .i64 (lo32 n / 1048576)) ∧ w' = w.alloc (.cells #[.int .u64 n] 135) := by
  have l0 := lo32_lo n
  have l1 := lo32_hi n
  go_enter Tryz.func138, Tryz.ntmps138
  go_wp2_with (go_at_call 125; refine (value_any _ _ h0 h1).mono ?_; rintro e w' ⟨rfl, rfl⟩)
  all_goals go_ret
  exact ⟨rfl, rfl⟩

theorem eval_any (n : Int) (w : World) (h0 : 0 ≤ n) (h1 : n < 18446744073709551616) :
    Calls Tryz.prog 139 #[.agg #[.int .u64 n]] w fun e w' => e = .returned (.int .i64 (lo32 n % 1048576)) ∧ w' = w.alloc (.cells #[.int .u64 n] 135) := by
  have l0 := lo32_lo n
  have l1 := lo32_hi n
  go_enter Tryz.func139, Tryz.ntmps139
  go_wp2_with (go_at_call 125; refine (value_any _ _ h0 h1).mono ?_; rintro e w' ⟨rfl, rfl⟩)
  all_goals go_ret
  exact ⟨ret_int (and20 _ (by omega) (by omega)), rfl⟩

theorem sval_any (n : Int) (w : World) (h0 : 0 ≤ n) (h1 : n < 18446744073709551616) :
    Calls Tryz.prog 42 #[.int .u64 n] w fun e w' => e = .returned (.int .i64 (lo32 n)) ∧ w' = w := by
  go_enter Tryz.func42, Tryz.ntmps42
  go_wp2
  all_goals go_ret
  exact ⟨rfl, rfl⟩

theorem sst_any (n : Int) (w : World) (h0 : 0 ≤ n) (h1 : n < 18446744073709551616) :
    Calls Tryz.prog 56 #[.int .u64 n] w fun e w' => e = .returned (.int .i64 (n / 4294967296)) ∧ w' = w := by
  go_enter Tryz.func56, Tryz.ntmps56
  go_wp2
  all_goals go_ret
  exact ⟨rfl, rfl⟩

theorem sdoorOf_any (n : Int) (w : World) (h0 : 0 ≤ n) (h1 : n < 18446744073709551616) :
    Calls Tryz.prog 54 #[.int .u64 n] w fun e w' => e = .returned (.tuple #[.int .i64 (lo32 n % 4), .int .i64 (lo32 n / 4 % 8), .int .i64 (lo32 n / 32)]) ∧ w' = w := by
  have l0 := lo32_lo n
  have l1 := lo32_hi n
  go_enter Tryz.func54, Tryz.ntmps54
  go_wp2_with (go_at_call 42; refine (sval_any _ _ h0 h1).mono ?_; rintro e w' ⟨rfl, rfl⟩)
  all_goals go_ret3
  exact ⟨rfl, rfl⟩

theorem sregOf_any (n : Int) (w : World) (h0 : 0 ≤ n) (h1 : n < 18446744073709551616) :
    Calls Tryz.prog 82 #[.int .u64 n] w fun e w' => e = .returned (.tuple #[.int .i64 (lo32 n % 4), .int .i64 (lo32 n / 4)]) ∧ w' = w := by
  have l0 := lo32_lo n
  have l1 := lo32_hi n
  go_enter Tryz.func82, Tryz.ntmps82
  go_wp2_with (go_at_call 42; refine (sval_any _ _ h0 h1).mono ?_; rintro e w' ⟨rfl, rfl⟩)
  all_goals go_ret2
  exact ⟨rfl, rfl⟩

theorem sentryOf_any (n : Int) (w : World) (h0 : 0 ≤ n) (h1 : n < 18446744073709551616) :
    Calls Tryz.prog 94 #[.int .u64 n] w fun e w' => e = .returned (.tuple #[.int .i64 (lo32 n / 1048576), .int .i64 (lo32 n % 1048576)]) ∧ w' = w := by
  have l0 := lo32_lo n
  have l1 := lo32_hi n
  go_enter Tryz.func94, Tryz.ntmps94
  go_wp2_with (go_at_call 42; refine (sval_any _ _ h0 h1).mono ?_; rintro e w' ⟨rfl, rfl⟩)
  all_goals go_ret2
  exact ⟨rfl, rfl⟩
end Go.Proofs.YtgfbfgiohmdjmaaGreat.Words
/- The words of an empty house, as the program and the specification make them. Conditions: none. -/
namespace Go.Proofs.YtgfbfgiohmdjmaaGreat.Plat
open Go.ChangeShapes Go.WideShapes Go.ChangeAt Go.RowKit
open Words Aid Lst

def magic (s p l : Int) : Int := pack (s + 8 * p + 64 * l) 201115

theorem smagic_ok (s p l : Int) (w : World) (h : 1 ≤ s ∧ s ≤ 4 ∧ 1 ≤ p ∧ p ≤ 6 ∧ 1 ≤ l ∧ l ≤ 20) :
    Calls Tryz.prog 44 #[.agg #[.int .i64 s, .int .i64 p, .int .i64 l]] w fun e w' => e = .returned (.int .u64 (magic s p l)) ∧ Below w.heap.size w w' := by
  go_enter Tryz.func44, Tryz.ntmps44
  go_wp2_with (go_at_call 79; refine (spack_any _ _ _).mono ?_; rintro e w' ⟨rfl, rfl⟩)
  go_ret
  exact ⟨ret_int (by unfold magic; rfl), below1 _ _⟩

def szN (s p : Int) : Nat := (7 + s * 23 + p * 17).toNat
def fmtF (s p l : Int) (j : Nat) : Int := if j = 0 then magic s p l else if j = 2 then 4294967296 else 0

theorem size_szN {s p l : Int} (h : okB s p l = true) : size s p l = (szN s p : Int) := by
  have := okB_of h
  unfold size szN; rw [if_pos h]; omega
theorem szN_eq {s p l : Int} (h : okB s p l = true) : (7 + s * 23 + p * 17 : Int) = (szN s p : Int) := by
  have := okB_of h
  unfold szN; omega
theorem szN_bd {s p l : Int} (h : okB s p l = true) : 47 ≤ szN s p ∧ szN s p ≤ 201 := by
  have := okB_of h
  unfold szN; omega

theorem fmt_fk {w : World} {b n : Nat} {s p l : Int} (hf : Fk .u64 n w b (fun _ => 0)) : Fk .u64 n ((w.setCell ⟨b, 0, none⟩ (.int .u64 (magic s p l))).setCell ⟨b, 2, none⟩ (.int .u64 4294967296)) b (fmtF s p l) := by
  refine (hf.set 0 (magic s p l) (fun j => if j = 0 then magic s p l else 0) (by simp) (fun j _ h => by simp [h])).set 2 4294967296 _ rfl (fun j _ h => ?_)
  unfold fmtF; by_cases e : j = 0
  · rw [if_pos e, if_pos e]
  · rw [if_neg e, if_neg e, if_neg h]

theorem pack01 : pack (doorV 0 0 0) 1 = 4294967296 := by decide
theorem spack01 : pack 0 1 = 4294967296 := by decide

end Go.Proofs.YtgfbfgiohmdjmaaGreat.Plat

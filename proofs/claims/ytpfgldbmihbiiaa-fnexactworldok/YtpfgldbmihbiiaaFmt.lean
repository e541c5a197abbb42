/- The words of an empty house, as the program and the specification make them. Conditions: none. -/
import Derived.Test.YtpfgldbmihbiiaaPlat2
import Derived.Test.YtpfgldbmihbiiaaDoor
import Derived.Test.YtpfgldbmihbiiaaLst
namespace Go.Proofs.Ytpfgldbmihbiiaa.Plat
open Go.ChangeShapes Go.WideShapes Go.ChangeAt Go.RowKit
open Go.Proofs.Ytpfgldbmihbiiaa.Words Go.Proofs.Ytpfgldbmihbiiaa.Aid Go.Proofs.Ytpfgldbmihbiiaa.Lst

def magic (s p l : Int) : Int := pack (s + 8 * p + 64 * l) 201115

theorem smagic_ok (s p l : Int) (w : World) (h : 1 ≤ s ∧ s ≤ 4 ∧ 1 ≤ p ∧ p ≤ 6 ∧ 1 ≤ l ∧ l ≤ 20) :
    Calls Try.prog 32 #[.agg #[.int .i64 s, .int .i64 p, .int .i64 l]] w fun e w' => e = .returned (.int .u64 (magic s p l)) ∧ Below w.heap.size w w' := by
  go_enter Try.func32, Try.ntmps32
  go_wp2_with (go_at_call 46; refine (spack_any _ _ _).mono ?_; rintro e w' ⟨rfl, rfl⟩)
  go_ret
  exact ⟨ret_int (by unfold magic; rfl), below1 _ _⟩

def szN (s p : Int) : Nat := (7 + s * 23 + p * 17).toNat
def fmtF (s p l : Int) (j : Nat) : Int := if j = 0 then magic s p l else if j = 2 then 4294967296 else 0

theorem size_szN {s p l : Int} (h : okB s p l = true) : size s p l = (szN s p : Int) := by
  have := okB_of h
  unfold size szN; rw [if_pos h]; omega
theorem szN_eq {s p l : Int} (h : okB s p l = true) : (7 + s * 23 + p * 17 : Int) = (szN s p : Int) := by
  have := okB_of h
  unfold szN; omega
theorem szN_bd {s p l : Int} (h : okB s p l = true) : 47 ≤ szN s p ∧ szN s p ≤ 201 := by
  have := okB_of h
  unfold szN; omega

theorem fmt_fk {w : World} {b n : Nat} {s p l : Int} (hf : Fk .u64 n w b (fun _ => 0)) : Fk .u64 n ((w.setCell ⟨b, 0, none⟩ (.int .u64 (magic s p l))).setCell ⟨b, 2, none⟩ (.int .u64 4294967296)) b (fmtF s p l) := by
  refine (hf.set 0 (magic s p l) (fun j => if j = 0 then magic s p l else 0) (by simp) (fun j _ h => by simp [h])).set 2 4294967296 _ rfl (fun j _ h => ?_)
  unfold fmtF; by_cases e : j = 0
  · rw [if_pos e, if_pos e]
  · rw [if_neg e, if_neg e, if_neg h]

theorem pack01 : pack (doorV 0 0 0) 1 = 4294967296 := by decide
theorem spack01 : pack 0 1 = 4294967296 := by decide

end Go.Proofs.Ytpfgldbmihbiiaa.Plat

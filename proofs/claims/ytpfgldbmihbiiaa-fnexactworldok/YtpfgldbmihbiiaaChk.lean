/- Of which house some words are: one answer for the program and the specification. Conditions: at most 1,000,000,000 words, each of 64 bits. -/
import Derived.Test.YtpfgldbmihbiiaaSCheck
namespace Go.Proofs.Ytpfgldbmihbiiaa.Plat
open Go.ChangeShapes Go.WideShapes Go.ChangeAt Go.RowKit
open Go.Proofs.Ytpfgldbmihbiiaa.Words Go.Proofs.Ytpfgldbmihbiiaa.Aid Go.Proofs.Ytpfgldbmihbiiaa.Lst

def gd (n : Nat) (f : Nat → Int) : Bool := good n (f 0)
def gS (n : Nat) (f : Nat → Int) : Int := if gd n f = true then cS (f 0) else 0
def gP (n : Nat) (f : Nat → Int) : Int := if gd n f = true then cP (f 0) else 0
def gL (n : Nat) (f : Nat → Int) : Int := if gd n f = true then cL (f 0) else 0

theorem gd_f {n : Nat} {f : Nat → Int} (h : ¬ (0 < n ∧ f 0 / 4294967296 = 201115 ∧ (n : Int) = size (cS (f 0)) (cP (f 0)) (cL (f 0)))) : gd n f = false := decide_eq_false h
theorem gd_t {n : Nat} {f : Nat → Int} (h : 0 < n ∧ f 0 / 4294967296 = 201115 ∧ (n : Int) = size (cS (f 0)) (cP (f 0)) (cL (f 0))) : gd n f = true := decide_eq_true h

theorem chk_f {n : Nat} {f : Nat → Int} (h : gd n f = false) : Ending.returned (.tuple #[.agg #[.int .i64 0, .int .i64 0, .int .i64 0], .bool false]) = .returned (.tuple #[.agg #[.int .i64 (gS n f), .int .i64 (gP n f), .int .i64 (gL n f)], .bool (gd n f)]) := by
  unfold gS gP gL; rw [h]; rfl
theorem chk_t {n : Nat} {f : Nat → Int} (h : gd n f = true) : Ending.returned (.tuple #[.agg #[.int .i64 (cS (f 0)), .int .i64 (cP (f 0)), .int .i64 (cL (f 0))], .bool true]) = .returned (.tuple #[.agg #[.int .i64 (gS n f), .int .i64 (gP n f), .int .i64 (gL n f)], .bool (gd n f)]) := by
  unfold gS gP gL; rw [h]; rfl

theorem check_all (a : Option Addr) (n cap : Nat) (f : Nat → Int) (w : World) (h : Sl .u64 w a n f) (hn : n ≤ 1000000000) (h0 : ∀ j, j < n → 0 ≤ f j ∧ f j < 18446744073709551616) :
    Calls Try.prog 23 #[.slice a n cap] w fun e w' => e = .returned (.tuple #[.agg #[.int .i64 (gS n f), .int .i64 (gP n f), .int .i64 (gL n f)], .bool (gd n f)]) ∧ Below w.heap.size w w' := by
  by_cases hk : kn n f = true
  · obtain ⟨k1, k2, k3⟩ := kn_of hk
    by_cases hsz : (n : Int) = size (cS (f 0)) (cP (f 0)) (cL (f 0))
    · exact (check_ok a n cap f w h hn h0 hk (by simp [hsz])).mono fun e w' ⟨he, hw⟩ => ⟨he.trans (chk_t (gd_t ⟨k1, k2, hsz⟩)), hw⟩
    · exact (check_size a n cap f w h hn h0 hk (by simpa using hsz)).mono fun e w' ⟨he, hw⟩ => ⟨he.trans (chk_f (gd_f (fun h => hsz h.2.2))), hw⟩
  · refine (check_no a n cap f w h hn h0 (by simpa using hk)).mono fun e w' ⟨he, hw⟩ => ⟨he.trans (chk_f (gd_f (fun h => hk (kn_t ⟨h.1, h.2.1, ?_⟩)))), hw⟩
    have h3 := h.2.2
    unfold size at h3
    split at h3
    · assumption
    · omega

theorem check_none (a : Option Addr) (cap : Nat) (w : World) :
    Calls Try.prog 23 #[.slice a 0 cap] w fun e w' => e = .returned (.tuple #[.agg #[.int .i64 0, .int .i64 0, .int .i64 0], .bool false]) ∧ Below w.heap.size w w' :=
  check_no a 0 cap (fun _ => 0) w (.inl rfl) (by omega) (fun j hj => by omega) (kn_f (by omega))

theorem magic_of {x : Int} : magic (cS x) (cP x) (cL x) = 201115 * 4294967296 + lo32 x := by
  have l0 := lo32_lo x
  have l1 := lo32_hi x
  have e : cS x + 8 * cP x + 64 * cL x = lo32 x := by unfold cS cP cL; omega
  unfold magic pack; rw [e]
  have e1 : fit 201115 4294967295 = 201115 := by decide
  have e2 : fit (lo32 x) 4294967295 = lo32 x := by unfold fit; rw [if_neg (by omega), if_neg (by omega)]
  rw [e1, e2]

theorem scheck_all (a : Option Addr) (n cap : Nat) (f : Nat → Int) (w : World) (h : Sl .u64 w a n f) (h0 : ∀ j, j < n → 0 ≤ f j ∧ f j < 18446744073709551616) :
    Calls Try.prog 19 #[.slice a n cap] w fun e w' => e = .returned (.tuple #[.agg #[.int .i64 (gS n f), .int .i64 (gP n f), .int .i64 (gL n f)], .bool (gd n f)]) ∧ Below w.heap.size w w' := by
  by_cases hz : n = 0
  · subst hz
    exact (scheck_none a cap w).mono fun e w' ⟨he, hw⟩ => ⟨he.trans (chk_f (gd_f (by omega))), hw⟩
  · rcases h with h | ⟨b, off, rfl, h⟩
    · exact absurd h hz
    · have hc := h 0 (by omega)
      rw [Nat.add_zero] at hc
      obtain ⟨x0, x1⟩ := h0 0 (by omega)
      have hm := magic_of (x := f 0)
      have hx : f 0 = f 0 / 4294967296 * 4294967296 + lo32 (f 0) := by unfold lo32; omega
      by_cases hok : okB (cS (f 0)) (cP (f 0)) (cL (f 0)) = true
      · have hsize : size (cS (f 0)) (cP (f 0)) (cL (f 0)) = 7 + cS (f 0) * 23 + cP (f 0) * 17 := by unfold size; rw [if_pos hok]
        by_cases hst : f 0 / 4294967296 = 201115
        · have hst' : (f 0 != magic (cS (f 0)) (cP (f 0)) (cL (f 0))) = false := by rw [hm]; simp; omega
          by_cases hsz : (n : Int) = size (cS (f 0)) (cP (f 0)) (cL (f 0))
          · exact (scheck_ok b off n cap (f 0) (cS (f 0)) (cP (f 0)) (cL (f 0)) w (by omega) hc x0 x1 rfl rfl rfl hok hst' (by rw [hsize] at hsz; simpa using hsz)).mono fun e w' ⟨he, hw⟩ => ⟨he.trans (chk_t (gd_t ⟨by omega, hst, hsz⟩)), hw⟩
          · exact (scheck_size b off n cap (f 0) (cS (f 0)) (cP (f 0)) (cL (f 0)) w (by omega) hc x0 x1 rfl rfl rfl hok hst' (by rw [hsize] at hsz; simpa using hsz)).mono fun e w' ⟨he, hw⟩ => ⟨he.trans (chk_f (gd_f (fun h => hsz h.2.2))), hw⟩
        · exact (scheck_stamp b off n cap (f 0) (cS (f 0)) (cP (f 0)) (cL (f 0)) w (by omega) hc x0 x1 rfl rfl rfl hok (by rw [hm]; simp; omega)).mono fun e w' ⟨he, hw⟩ => ⟨he.trans (chk_f (gd_f (fun h => hst h.2.1))), hw⟩
      · have hok' : okB (cS (f 0)) (cP (f 0)) (cL (f 0)) = false := by simpa using hok
        have hsize : size (cS (f 0)) (cP (f 0)) (cL (f 0)) = 0 := by unfold size; rw [if_neg hok]
        exact (scheck_bad b off n cap (f 0) (cS (f 0)) (cP (f 0)) (cL (f 0)) w (by omega) hc x0 x1 rfl rfl rfl hok').mono fun e w' ⟨he, hw⟩ => ⟨he.trans (chk_f (gd_f (fun h => by rw [hsize] at h; omega))), hw⟩

end Go.Proofs.Ytpfgldbmihbiiaa.Plat

/- Reading a code: a word of 64 bits, a door, a change. Conditions: the code is a slice of bytes that can be read. -/
import Derived.Test.YtfeoihpjlgigkaaOpen
namespace Go.Proofs.Ytfeoihpjlgigkaa.Draw
open Go.ChangeShapes Go.WideShapes Go.ChangeAt Go.RowKit

theorem wrap_u64_lo (n : Int) : 0 ≤ IntKind.u64.wrap n := by simp [IntKind.wrap, IntKind.bits, IntKind.signed]; omega
theorem wrap_u64_hi (n : Int) : IntKind.u64.wrap n < 18446744073709551616 := by simp [IntKind.wrap, IntKind.bits, IntKind.signed]; omega

theorem results_tmp4 {fn : Func} {t u v x : Tmp} (h : fn.results = #[.tmp t, .tmp u, .tmp v, .tmp x]) (tmps : Array Value) (P : Program) (w : World) :
    (results fn tmps).run P w = .ok (.tuple #[tmps.getD t undef, tmps.getD u undef, tmps.getD v undef, tmps.getD x undef]) w := by
  simp [results, h]

set_option maxHeartbeats 1000000 in
theorem word_any (r : Nat) (a : Option Addr) (len cap : Nat) (zs : List Int) (p : Int) (w : World) (h : Rd w r a len cap zs p) (hp : p < 100000000000) :
    Calls Try.prog 35 #[.pointer (some ⟨r, 0, none⟩)] w fun e w' => ∃ x : Int, e = .returned (.int .u64 x) ∧ 0 ≤ x ∧ x < 18446744073709551616 ∧ Rd w' r a len cap zs (p + 8) ∧ Save r w w' := by
  go_enter Try.func35, Try.ntmps35
  go_wp2_with (fail)
  go_loopw [3, 4] (fun x i wr => ∃ (k : Nat) (v : Int), k ≤ 8 ∧ i = .int .i64 k ∧ x = .int .u64 v ∧ 0 ≤ v ∧ v < 18446744073709551616 ∧ Rd wr r a len cap zs (p + k) ∧ Save r w wr) (fun _ i _ => 8 - (intOf i).toNat)
  case atStart => exact ⟨0, 0, by omega, rfl, rfl, by omega, by omega, by simpa using h, Save.refl _ _⟩
  case round =>
    obtain ⟨k, v, hk, rfl, rfl, v0, v1, hr, hs⟩ := hrel
    by_cases hlt : (k : Int) < 8
    · go_wp2_with (fail)
      refine (pick_on r a len cap zs (p + k) 256 _ hr (by omega)).mono ?_
      rintro e w1 ⟨q, rfl, q0, q1, -, hr1, hs1⟩
      have q1' := q1 (by omega)
      clear q1
      go_wp2_with (fail)
      go_roundw
      case rel =>
        refine ⟨k + 1, _, by omega, by go_num, rfl, wrap_u64_lo _, wrap_u64_hi _, ?_, hs.trans hs1⟩
        have e1 : p + ((k + 1 : Nat) : Int) = p + k + 1 := by omega
        rw [e1]; exact hr1
      case measure => simp [intOf]; omega
    · go_wp2_with (fail)
      go_ret
      have e8 : k = 8 := by omega
      subst e8
      exact ⟨v, rfl, v0, v1, hr, hs⟩

set_option maxHeartbeats 400000 in
theorem drawVal_any (a : Option Addr) (len cap : Nat) (zs : List Int) (w : World) (h : Row w a len cap zs) :
    Calls Try.prog 20 #[.slice a len cap] w fun e w' => ∃ x : Int, e = .returned (.int .u64 x) ∧ 0 ≤ x ∧ x < 18446744073709551616 ∧ Below w.heap.size w w' := by
  go_enter Try.func20, Try.ntmps20
  go_wp2_with (fail)
  refine (open_any a len cap zs w h).mono ?_
  rintro e w1 ⟨rfl, ⟨n, c, hr⟩, hb⟩
  go_wp2_with (fail)
  refine (word_any _ a n c zs 0 w1 hr (by omega)).mono ?_
  rintro e w2 ⟨x, rfl, x0, x1, hr2, hs2⟩
  go_wp2_with (fail)
  go_ret
  exact ⟨x, rfl, x0, x1, hb.trans (hs2.below (Nat.le_refl _) hb.size)⟩

set_option maxHeartbeats 400000 in
theorem drawDoor_any (a : Option Addr) (len cap : Nat) (zs : List Int) (w : World) (h : Row w a len cap zs) :
    Calls Try.prog 6 #[.slice a len cap] w fun e w' => ∃ st sl ep no : Int, e = .returned (.tuple #[.int .i64 st, .int .i64 sl, .int .i64 ep, .int .i64 no]) ∧ (-1 ≤ st ∧ st ≤ 258) ∧ (-1 ≤ sl ∧ sl ≤ 263) ∧ (-1 ≤ ep ∧ ep ≤ 4351) ∧ (-1 ≤ no ∧ no ≤ 4294967551) ∧ Below w.heap.size w w' := by
  go_enter Try.func6, Try.ntmps6
  go_wp2_with (fail)
  refine (open_any a len cap zs w h).mono ?_
  rintro e w1 ⟨rfl, ⟨n, c, hr⟩, hb⟩
  go_wp2_with (fail)
  refine (l1num_any _ a n c zs 0 2 w1 hr (by omega) (by omega) (by omega)).mono ?_
  rintro e w2 ⟨st, rfl, a0, a1, hr2, hs2⟩
  go_wp2_with (fail)
  refine (l1num_any _ a n c zs (0 + 2) 7 w2 hr2 (by omega) (by omega) (by omega)).mono ?_
  rintro e w3 ⟨sl, rfl, b0, b1, hr3, hs3⟩
  go_wp2_with (fail)
  refine (l1num_any _ a n c zs (0 + 2 + 2) 4095 w3 hr3 (by omega) (by omega) (by omega)).mono ?_
  rintro e w4 ⟨ep, rfl, c0, c1, hr4, hs4⟩
  go_wp2_with (fail)
  refine (l1num_any _ a n c zs (0 + 2 + 2 + 2) 4294967295 w4 hr4 (by omega) (by omega) (by omega)).mono ?_
  rintro e w5 ⟨no, rfl, d0, d1, hr5, hs5⟩
  go_wp2_with (fail)
  refine bodyPost_ret (results_tmp4 rfl _ _ _) rfl ?_
  exact ⟨st, sl, ep, no, rfl, by omega, by omega, by omega, by omega, hb.trans ((((hs2.trans hs3).trans hs4).trans hs5).below (Nat.le_refl _) hb.size)⟩

set_option maxHeartbeats 400000 in
theorem drawEntry_any (a : Option Addr) (len cap : Nat) (zs : List Int) (w : World) (h : Row w a len cap zs) :
    Calls Try.prog 7 #[.slice a len cap] w fun e w' => ∃ ad v s : Int, e = .returned (.tuple #[.int .i64 ad, .int .i64 v, .int .i64 s]) ∧ (-1 ≤ ad ∧ ad ≤ 4351) ∧ (-1 ≤ v ∧ v ≤ 1048831) ∧ (-1 ≤ s ∧ s ≤ 4294967551) ∧ Below w.heap.size w w' := by
  go_enter Try.func7, Try.ntmps7
  go_wp2_with (fail)
  refine (open_any a len cap zs w h).mono ?_
  rintro e w1 ⟨rfl, ⟨n, c, hr⟩, hb⟩
  go_wp2_with (fail)
  refine (l1num_any _ a n c zs 0 4095 w1 hr (by omega) (by omega) (by omega)).mono ?_
  rintro e w2 ⟨ad, rfl, a0, a1, hr2, hs2⟩
  go_wp2_with (fail)
  refine (l1num_any _ a n c zs (0 + 2) 1048575 w2 hr2 (by omega) (by omega) (by omega)).mono ?_
  rintro e w3 ⟨v, rfl, b0, b1, hr3, hs3⟩
  go_wp2_with (fail)
  refine (l1num_any _ a n c zs (0 + 2 + 2) 4294967295 w3 hr3 (by omega) (by omega) (by omega)).mono ?_
  rintro e w4 ⟨s, rfl, c0, c1, hr4, hs4⟩
  go_wp2_with (fail)
  go_ret3
  exact ⟨ad, v, s, rfl, by omega, by omega, by omega, hb.trans (((hs2.trans hs3).trans hs4).below (Nat.le_refl _) hb.size)⟩
end Go.Proofs.Ytfeoihpjlgigkaa.Draw

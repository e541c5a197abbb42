/- The words of a house: what was packed is read back, as numbers; no program text is walked here. -/
import Derived.Test.YtfeoihpjlgigkaaOf
import Derived.Deep.DeepCutAuto
namespace Go.Proofs.Ytfeoihpjlgigkaa.Words
open Go.ChangeShapes Go.WideShapes Go.ChangeAt Go.RowKit

theorem fit_id (n m : Int) (h0 : 0 ≤ n) (h1 : n ≤ m) : fit n m = n := by unfold fit; split <;> (try split) <;> omega
theorem pack_val (v s : Int) : lo32 (pack v s) = fit v 4294967295 := by
  have := fit_lo v 4294967295 (by omega); have := fit_hi v 4294967295 (by omega); unfold lo32 pack; omega
theorem pack_st (v s : Int) : pack v s / 4294967296 = fit s 4294967295 := by
  have := fit_lo v 4294967295 (by omega); have := fit_hi v 4294967295 (by omega); unfold pack; omega
theorem doorV_bd (st sl ep : Int) : 0 ≤ doorV st sl ep ∧ doorV st sl ep ≤ 131070 := by
  have := fit_lo st 2 (by omega); have := fit_hi st 2 (by omega); have := fit_lo sl 7 (by omega); have := fit_hi sl 7 (by omega); have := fit_lo ep 4095 (by omega); have := fit_hi ep 4095 (by omega); unfold doorV; omega
theorem regV_bd (st ep : Int) : 0 ≤ regV st ep ∧ regV st ep ≤ 16382 := by
  have := fit_lo st 2 (by omega); have := fit_hi st 2 (by omega); have := fit_lo ep 4095 (by omega); have := fit_hi ep 4095 (by omega); unfold regV; omega
theorem entryV_bd (a v : Int) : 0 ≤ entryV a v ∧ entryV a v ≤ 4294967295 := by
  have := fit_lo a 4095 (by omega); have := fit_hi a 4095 (by omega); have := fit_lo v 1048575 (by omega); have := fit_hi v 1048575 (by omega); unfold entryV; omega
theorem door_val (st sl ep s : Int) : lo32 (pack (doorV st sl ep) s) = doorV st sl ep := by
  have := doorV_bd st sl ep; rw [pack_val, fit_id _ _ (by omega) (by omega)]
theorem reg_val (st ep s : Int) : lo32 (pack (regV st ep) s) = regV st ep := by
  have := regV_bd st ep; rw [pack_val, fit_id _ _ (by omega) (by omega)]
theorem entry_val (a v s : Int) : lo32 (pack (entryV a v) s) = entryV a v := by
  have := entryV_bd a v; rw [pack_val, fit_id _ _ (by omega) (by omega)]
theorem doorV_state (st sl ep : Int) : doorV st sl ep % 4 = fit st 2 ∧ doorV st sl ep / 4 % 8 = fit sl 7 ∧ doorV st sl ep / 32 = fit ep 4095 := by
  have := fit_lo st 2 (by omega); have := fit_hi st 2 (by omega); have := fit_lo sl 7 (by omega); have := fit_hi sl 7 (by omega); have := fit_lo ep 4095 (by omega); have := fit_hi ep 4095 (by omega); unfold doorV; omega
theorem regV_state (st ep : Int) : regV st ep % 4 = fit st 2 ∧ regV st ep / 4 = fit ep 4095 := by
  have := fit_lo st 2 (by omega); have := fit_hi st 2 (by omega); have := fit_lo ep 4095 (by omega); have := fit_hi ep 4095 (by omega); unfold regV; omega
theorem entryV_addr (a v : Int) : entryV a v / 1048576 = fit a 4095 ∧ entryV a v % 1048576 = fit v 1048575 := by
  have := fit_lo a 4095 (by omega); have := fit_hi a 4095 (by omega); have := fit_lo v 1048575 (by omega); have := fit_hi v 1048575 (by omega); unfold entryV; omega

theorem pack_of (u : Int) (h0 : 0 ≤ u) (h1 : u < 18446744073709551616) : pack (lo32 u) (u / 4294967296) = u := by
  have := lo32_lo u; have := lo32_hi u
  unfold pack
  rw [fit_id (lo32 u) _ (by omega) (by omega), fit_id (u / 4294967296) _ (by omega) (by omega)]
  unfold lo32; omega
theorem entry_of (u : Int) (h0 : 0 ≤ u) (h1 : u < 18446744073709551616) : pack (entryV (lo32 u / 1048576) (lo32 u % 1048576)) (u / 4294967296) = u := by
  have := lo32_lo u; have := lo32_hi u
  have e : entryV (lo32 u / 1048576) (lo32 u % 1048576) = lo32 u := by
    unfold entryV
    rw [fit_id (lo32 u / 1048576) _ (by omega) (by omega), fit_id (lo32 u % 1048576) _ (by omega) (by omega)]
    omega
  rw [e, pack_of u h0 h1]

theorem doorOf_door (st sl ep s : Int) (w : World) :
    Calls Try.prog 17 #[.int .u64 (pack (doorV st sl ep) s)] w fun e w' => e = .returned (.tuple #[.int .i64 (fit st 2), .int .i64 (fit sl 7), .int .i64 (fit ep 4095)]) ∧ Grown w w' ∧ Below w.heap.size w w' := by
  have h := doorV_state st sl ep
  refine (doorOf_any _ w (pack_lo _ _) (pack_hi _ _)).mono fun e w' ⟨he, hg⟩ => ⟨?_, hg⟩
  rw [he, door_val, h.1, h.2.1, h.2.2]
theorem regOf_reg (st ep s : Int) (w : World) :
    Calls Try.prog 18 #[.int .u64 (pack (regV st ep) s)] w fun e w' => e = .returned (.tuple #[.int .i64 (fit st 2), .int .i64 (fit ep 4095)]) ∧ Grown w w' ∧ Below w.heap.size w w' := by
  have h := regV_state st ep
  refine (regOf_any _ w (pack_lo _ _) (pack_hi _ _)).mono fun e w' ⟨he, hg⟩ => ⟨?_, hg⟩
  rw [he, reg_val, h.1, h.2]
theorem entryOf_entry (a v s : Int) (w : World) :
    Calls Try.prog 19 #[.int .u64 (pack (entryV a v) s)] w fun e w' => e = .returned (.tuple #[.int .i64 (fit a 4095), .int .i64 (fit v 1048575)]) ∧ Grown w w' ∧ Below w.heap.size w w' := by
  have h := entryV_addr a v
  refine (entryOf_any _ w (pack_lo _ _) (pack_hi _ _)).mono fun e w' ⟨he, hg⟩ => ⟨?_, hg⟩
  rw [he, entry_val, h.1, h.2]
theorem val_pack (v s : Int) (w : World) :
    Calls Try.prog 15 #[.int .u64 (pack v s)] w fun e w' => e = .returned (.int .i64 (fit v 4294967295)) ∧ w' = w := by
  refine (val_any _ w (pack_lo _ _) (pack_hi _ _)).mono fun e w' ⟨he, hg⟩ => ⟨?_, hg⟩
  rw [he, pack_val]
theorem st_pack (v s : Int) (w : World) :
    Calls Try.prog 16 #[.int .u64 (pack v s)] w fun e w' => e = .returned (.int .i64 (fit s 4294967295)) ∧ w' = w := by
  refine (st_any _ w (pack_lo _ _) (pack_hi _ _)).mono fun e w' ⟨he, hg⟩ => ⟨?_, hg⟩
  rw [he, pack_st]
end Go.Proofs.Ytfeoihpjlgigkaa.Words

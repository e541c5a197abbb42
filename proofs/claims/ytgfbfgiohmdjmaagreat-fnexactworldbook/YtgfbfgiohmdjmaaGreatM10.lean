import Derived.Test.YtgfbfgiohmdjmaaGreatSCheck
import Derived.Test.YtgfbfgiohmdjmaaGreatM4
import Derived.OpenShut
import Derived.Lib.SmallJoins
import Derived.Deep.Slices
import Derived.Test.YtgfbfgiohmdjmaaGreatM3

/- Of which house some words are: one answer for the program and the specification. Conditions: at most 1,000,000,000 words, each of 64 bits. -/
namespace Go.Proofs.YtgfbfgiohmdjmaaGreat.Plat
open Go.ChangeShapes Go.WideShapes Go.ChangeAt Go.RowKit
open Words Aid Lst

def gd (n : Nat) (f : Nat → Int) : Bool := good n (f 0)
def gS (n : Nat) (f : Nat → Int) : Int := if gd n f = true then cS (f 0) else 0
def gP (n : Nat) (f : Nat → Int) : Int := if gd n f = true then cP (f 0) else 0
def gL (n : Nat) (f : Nat → Int) : Int := if gd n f = true then cL (f 0) else 0

theorem gd_f {n : Nat} {f : Nat → Int} (h : ¬ (0 < n ∧ f 0 / 4294967296 = 201115 ∧ (n : Int) = size (cS (f 0)) (cP (f 0)) (cL (f 0)))) : gd n f = false := decide_eq_false h
theorem gd_t {n : Nat} {f : Nat → Int} (h : 0 < n ∧ f 0 / 4294967296 = 201115 ∧ (n : Int) = size (cS (f 0)) (cP (f 0)) (cL (f 0))) : gd n f = true := decide_eq_true h

theorem chk_f {n : Nat} {f : Nat → Int} (h : gd n f = false) : Ending.returned (.tuple #[.agg #[.int .i64 0, .int .i64 0, .int .i64 0], .bool false]) = .returned (.tuple #[.agg #[.int .i64 (gS n f), .int .i64 (gP n f), .int .i64 (gL n f)], .bool (gd n f)]) := by
  unfold gS gP gL; rw [h]; rfl
theorem chk_t {n : Nat} {f : Nat → Int} (h : gd n f = true) : Ending.returned (.tuple #[.agg #[.int .i64 (cS (f 0)), .int .i64 (cP (f 0)), .int .i64 (cL (f 0))], .bool true]) = .returned (.tuple #[.agg #[.int .i64 (gS n f), .int .i64 (gP n f), .int .i64 (gL n f)], .bool (gd n f)]) := by
  unfold gS gP gL; rw [h]; rfl

theorem check_all (a : Option Addr) (n cap : Nat) (f : Nat → Int) (w : World) (h : Sl .u64 w a n f) (hn : n ≤ 1000000000) (h0 : ∀ j, j < n → 0 ≤ f j ∧ f j < 18446744073709551616) :
    Calls Tryz.prog 37 #[.slice a n cap] w fun e w' => e = .returned (.tuple #[.agg #[.int .i64 (gS n f), .int .i64 (gP n f), .int .i64 (gL n f)], .bool (gd n f)]) ∧ Below w.heap.size w w' := by
  by_cases hk : kn n f = true
  · obtain ⟨k1, k2, k3⟩ := kn_of hk
    by_cases hsz : (n : Int) = size (cS (f 0)) (cP (f 0)) (cL (f 0))
    · exact (check_ok a n cap f w h hn h0 hk (by simp [hsz])).mono fun e w' ⟨he, hw⟩ => ⟨he.trans (chk_t (gd_t ⟨k1, k2, hsz⟩)), hw⟩
    · exact (check_size a n cap f w h hn h0 hk (by simpa using hsz)).mono fun e w' ⟨he, hw⟩ => ⟨he.trans (chk_f (gd_f (fun h => hsz h.2.2))), hw⟩
  · refine (check_no a n cap f w h hn h0 (by simpa using hk)).mono fun e w' ⟨he, hw⟩ => ⟨he.trans (chk_f (gd_f (fun h => hk (kn_t ⟨h.1, h.2.1, ?_⟩)))), hw⟩
    have h3 := h.2.2
    unfold size at h3
    split at h3
    · assumption
    · omega

theorem check_none (a : Option Addr) (cap : Nat) (w : World) :
    Calls Tryz.prog 37 #[.slice a 0 cap] w fun e w' => e = .returned (.tuple #[.agg #[.int .i64 0, .int .i64 0, .int .i64 0], .bool false]) ∧ Below w.heap.size w w' :=
  check_no a 0 cap (fun _ => 0) w (.inl rfl) (by omega) (fun j hj => by omega) (kn_f (by omega))

theorem magic_of {x : Int} : magic (cS x) (cP x) (cL x) = 201115 * 4294967296 + lo32 x := by
  have l0 := lo32_lo x
  have l1 := lo32_hi x
  have e : cS x + 8 * cP x + 64 * cL x = lo32 x := by unfold cS cP cL; omega
  unfold magic pack; rw [e]
  have e1 : fit 201115 4294967295 = 201115 := by decide
  have e2 : fit (lo32 x) 4294967295 = lo32 x := by unfold fit; rw [if_neg (by omega), if_neg (by omega)]
  rw [e1, e2]

theorem scheck_all (a : Option Addr) (n cap : Nat) (f : Nat → Int) (w : World) (h : Sl .u64 w a n f) (h0 : ∀ j, j < n → 0 ≤ f j ∧ f j < 18446744073709551616) :
    Calls Tryz.prog 32 #[.slice a n cap] w fun e w' => e = .returned (.tuple #[.agg #[.int .i64 (gS n f), .int .i64 (gP n f), .int .i64 (gL n f)], .bool (gd n f)]) ∧ Below w.heap.size w w' := by
  by_cases hz : n = 0
  · subst hz
    exact (scheck_none a cap w).mono fun e w' ⟨he, hw⟩ => ⟨he.trans (chk_f (gd_f (by omega))), hw⟩
  · rcases h with h | ⟨b, off, rfl, h⟩
    · exact absurd h hz
    · have hc := h 0 (by omega)
      rw [Nat.add_zero] at hc
      obtain ⟨x0, x1⟩ := h0 0 (by omega)
      have hm := magic_of (x := f 0)
      have hx : f 0 = f 0 / 4294967296 * 4294967296 + lo32 (f 0) := by unfold lo32; omega
      by_cases hok : okB (cS (f 0)) (cP (f 0)) (cL (f 0)) = true
      · have hsize : size (cS (f 0)) (cP (f 0)) (cL (f 0)) = 7 + cS (f 0) * 23 + cP (f 0) * 17 := by unfold size; rw [if_pos hok]
        by_cases hst : f 0 / 4294967296 = 201115
        · have hst' : (f 0 != magic (cS (f 0)) (cP (f 0)) (cL (f 0))) = false := by rw [hm]; simp; omega
          by_cases hsz : (n : Int) = size (cS (f 0)) (cP (f 0)) (cL (f 0))
          · exact (scheck_ok b off n cap (f 0) (cS (f 0)) (cP (f 0)) (cL (f 0)) w (by omega) hc x0 x1 rfl rfl rfl hok hst' (by rw [hsize] at hsz; simpa using hsz)).mono fun e w' ⟨he, hw⟩ => ⟨he.trans (chk_t (gd_t ⟨by omega, hst, hsz⟩)), hw⟩
          · exact (scheck_size b off n cap (f 0) (cS (f 0)) (cP (f 0)) (cL (f 0)) w (by omega) hc x0 x1 rfl rfl rfl hok hst' (by rw [hsize] at hsz; simpa using hsz)).mono fun e w' ⟨he, hw⟩ => ⟨he.trans (chk_f (gd_f (fun h => hsz h.2.2))), hw⟩
        · exact (scheck_stamp b off n cap (f 0) (cS (f 0)) (cP (f 0)) (cL (f 0)) w (by omega) hc x0 x1 rfl rfl rfl hok (by rw [hm]; simp; omega)).mono fun e w' ⟨he, hw⟩ => ⟨he.trans (chk_f (gd_f (fun h => hst h.2.1))), hw⟩
      · have hok' : okB (cS (f 0)) (cP (f 0)) (cL (f 0)) = false := by simpa using hok
        have hsize : size (cS (f 0)) (cP (f 0)) (cL (f 0)) = 0 := by unfold size; rw [if_neg hok]
        exact (scheck_bad b off n cap (f 0) (cS (f 0)) (cP (f 0)) (cL (f 0)) w (by omega) hc x0 x1 rfl rfl rfl hok').mono fun e w' ⟨he, hw⟩ => ⟨he.trans (chk_f (gd_f (fun h => by rw [hsize] at h; omega))), hw⟩

end Go.Proofs.YtgfbfgiohmdjmaaGreat.Plat
/- A guest copied into new memory. Conditions: at most 1,000,000,000 words a list. -/
namespace Go.Proofs.YtgfbfgiohmdjmaaGreat.Gs
open Go.ChangeShapes Go.WideShapes Go.ChangeAt Go.RowKit
open Aid Lst
open Book (Ck ck_lit Sx)
set_option maxRecDepth 100000
set_option linter.unusedVariables false

/- The same guest, its lists at the heads of two blocks. -/
def Gx.at (g : Gx) (b1 b2 : Nat) : Gx := { g with snap := ⟨some ⟨b1, 0, none⟩, g.snap.n, g.snap.n, g.snap.f⟩, plan := ⟨some ⟨b2, 0, none⟩, g.plan.n, g.plan.n, g.plan.f⟩ }
def zG : Array Value := #[.bool false, .int .i64 0, .int .i64 0, .bool false, .int .i64 0, .int .i64 0, .int .i64 0, .int .i64 0, .int .i64 0, .int .i64 0, .int .i64 0, .int .i64 0, .int .i64 0, .int .i64 0, .int .i64 0, .bool false, .int .i64 0, .int .u64 0, .int .u64 0, .int .u64 0, .int .u64 0, .slice none 0 0, .slice none 0 0, .int .i64 0, .int .i64 0, .int .i64 0]

set_option maxHeartbeats 1000000 in
theorem toop_any (a b c d : Int) (w : World) : Calls Tryz.prog 59 #[.agg #[.int .i64 a, .int .i64 b, .int .i64 c, .int .i64 d]] w fun e w' => e = .returned (.agg #[.int .i64 a, .int .i64 b, .int .i64 c, .int .i64 d]) ∧ Below w.heap.size w w' := by
  have HC : Hid (Tw w _ _ _ _ _ _ _) := Tw.start w #[.int .i64 a, .int .i64 b, .int .i64 c, .int .i64 d] #[.int .i64 0, .int .i64 0, .int .i64 0, .int .i64 0] 57 66 66
  go_enter Tryz.func59, Tryz.ntmps59
  go_wp2_with (first
    | refine tw_load HC.out rfl 3 _ rfl _ rfl _ rfl (by kernel_rfl) ?_
    | (refine tw_store HC.out rfl 3 _ _ rfl _ rfl _ rfl (Nat.le_of_ble_eq_true rfl) (by kernel_rfl) rfl ?_
       intro w' h
       simp only [List.set] at h
       replace HC : Hid _ := h
       clear h)
    | refine wpList_load_mid rfl 66 _ rfl (w.heap.size + 1 + 1) 0 rfl _ _ HC.out.c.range Tryz.underlying66 rfl (by kernel_rfl) ?_
    | refine wpList_store_mid rfl 66 _ _ rfl (w.heap.size + 1) 0 _ rfl rfl HC.out.t (by kernel_rfl) (by simp [Value.oneCell']) ?_)
  exact bodyPost_ret (results_cell_mid rfl _ _ (w.heap.size + 1) 0 _ _ rfl (World.rangeAt_setCells_same _ _ _ _ HC.out.t) Tryz.underlying66 rfl (by kernel_rfl)) rfl ⟨rfl, below_setCells HC.out.b0 HC.out.gr _ _⟩

set_option maxHeartbeats 16000000 in
theorem toguest_any (g : Gx) (w : World) (h : g.At w) (hs : g.snap.n ≤ 1000000000) (hp : g.plan.n ≤ 1000000000) :
    Calls Tryz.prog 36 #[.agg g.cells.toArray] w fun e w' => ∃ b1 b2, e = .returned (.agg (g.at b1 b2).cells.toArray) ∧ w.heap.size ≤ b1 ∧ b1 < b2 ∧ b2 < w'.heap.size ∧ Fk .u64 g.snap.n w' b1 g.snap.f ∧ Fk .u64 g.plan.n w' b2 g.plan.f ∧ Below w.heap.size w w' := by
  have HC : Hid (Tw w w.heap.size g.cells (w.heap.size + 1) (w.heap.size + 1 + 1) [.bool false, .int .i64 0, .int .i64 0, .bool false, .int .i64 0, .int .i64 0, .int .i64 0, .int .i64 0, .int .i64 0, .int .i64 0, .int .i64 0, .int .i64 0, .int .i64 0, .int .i64 0, .int .i64 0, .bool false, .int .i64 0, .int .u64 0, .int .u64 0, .int .u64 0, .int .u64 0, .slice none 0 0, .slice none 0 0, .int .i64 0, .int .i64 0, .int .i64 0] [] _) := Tw.start w g.cells.toArray zG 60 68 68
  have HA : Hid (g.At w) := h
  clear h
  go_enter Tryz.func36, Tryz.ntmps36
  go_wp2_with (first
    | refine tw_load HC.out rfl 3 _ rfl _ rfl _ rfl (by kernel_rfl) ?_
    | refine tw_load HC.out rfl 4 _ rfl _ rfl _ rfl (by kernel_rfl) ?_
    | refine tw_load HC.out rfl 58 _ rfl _ rfl _ rfl (by kernel_rfl) ?_
    | refine tw_load HC.out rfl 22 _ rfl _ rfl _ rfl (by kernel_rfl) ?_
    | refine tw_loads HC.out rfl 57 _ rfl _ 4 rfl rfl _ Tryz.underlying57 rfl (by kernel_rfl) ?_
    | (refine tw_stores HC.out rfl 66 _ _ rfl _ rfl _ rfl (Nat.le_of_ble_eq_true rfl) (by kernel_rfl) rfl ?_
       intro w' h
       simp only [setL, List.set, Nat.reduceAdd] at h
       replace HC : Hid _ := h
       clear h)
    | (refine tw_store HC.out rfl 3 _ _ rfl _ rfl _ rfl (Nat.le_of_ble_eq_true rfl) (by kernel_rfl) rfl ?_
       intro w' h
       simp only [List.set] at h
       replace HC : Hid _ := h
       clear h)
    | (refine tw_store HC.out rfl 4 _ _ rfl _ rfl _ rfl (Nat.le_of_ble_eq_true rfl) (by kernel_rfl) rfl ?_
       intro w' h
       simp only [List.set] at h
       replace HC : Hid _ := h
       clear h)
    | (refine tw_store HC.out rfl 58 _ _ rfl _ rfl _ rfl (Nat.le_of_ble_eq_true rfl) (by kernel_rfl) rfl ?_
       intro w' h
       simp only [List.set] at h
       replace HC : Hid _ := h
       clear h)
    | (refine tw_store HC.out rfl 22 _ _ rfl _ rfl _ rfl (Nat.le_of_ble_eq_true rfl) (by kernel_rfl) rfl ?_
       intro w' h
       simp only [List.set] at h
       replace HC : Hid _ := h
       clear h)
    | refine wpList_load_mid rfl 68 _ rfl (w.heap.size + 1 + 1) 0 rfl _ _ HC.out.c.range Tryz.underlying68 rfl (by kernel_rfl) ?_
    | refine wpList_store_mid rfl 68 _ _ rfl (w.heap.size + 1) 0 _ rfl rfl HC.out.t (by kernel_rfl) (by simp [Value.oneCell']) ?_)
  refine (toop_any _ _ _ _ _).mono ?_
  rintro e w1 ⟨rfl, hb⟩
  replace HC : Hid _ := HC.out.later hb
  clear hb
  go_wp2_with (first
    | refine tw_load HC.out rfl 3 _ rfl _ rfl _ rfl (by kernel_rfl) ?_
    | refine tw_load HC.out rfl 4 _ rfl _ rfl _ rfl (by kernel_rfl) ?_
    | refine tw_load HC.out rfl 58 _ rfl _ rfl _ rfl (by kernel_rfl) ?_
    | refine tw_load HC.out rfl 22 _ rfl _ rfl _ rfl (by kernel_rfl) ?_
    | refine tw_loads HC.out rfl 57 _ rfl _ 4 rfl rfl _ Tryz.underlying57 rfl (by kernel_rfl) ?_
    | (refine tw_stores HC.out rfl 66 _ _ rfl _ rfl _ rfl (Nat.le_of_ble_eq_true rfl) (by kernel_rfl) rfl ?_
       intro w' h
       simp only [setL, List.set, Nat.reduceAdd] at h
       replace HC : Hid _ := h
       clear h)
    | (refine tw_store HC.out rfl 3 _ _ rfl _ rfl _ rfl (Nat.le_of_ble_eq_true rfl) (by kernel_rfl) rfl ?_
       intro w' h
       simp only [List.set] at h
       replace HC : Hid _ := h
       clear h)
    | (refine tw_store HC.out rfl 4 _ _ rfl _ rfl _ rfl (Nat.le_of_ble_eq_true rfl) (by kernel_rfl) rfl ?_
       intro w' h
       simp only [List.set] at h
       replace HC : Hid _ := h
       clear h)
    | (refine tw_store HC.out rfl 58 _ _ rfl _ rfl _ rfl (Nat.le_of_ble_eq_true rfl) (by kernel_rfl) rfl ?_
       intro w' h
       simp only [List.set] at h
       replace HC : Hid _ := h
       clear h)
    | (refine tw_store HC.out rfl 22 _ _ rfl _ rfl _ rfl (Nat.le_of_ble_eq_true rfl) (by kernel_rfl) rfl ?_
       intro w' h
       simp only [List.set] at h
       replace HC : Hid _ := h
       clear h)
    | refine wpList_load_mid rfl 68 _ rfl (w.heap.size + 1 + 1) 0 rfl _ _ HC.out.c.range Tryz.underlying68 rfl (by kernel_rfl) ?_
    | refine wpList_store_mid rfl 68 _ _ rfl (w.heap.size + 1) 0 _ rfl rfl HC.out.t (by kernel_rfl) (by simp [Value.oneCell']) ?_)
  refine (toUint64_any _ _ _ _ _ (HA.out.1.later HC.out.b0) hs).mono ?_
  rintro e w2 ⟨rfl, hf, hb, hz⟩
  replace HC : Hid _ := HC.out.row hb hf hz
  clear hf hb hz
  go_wp2_with (first
    | refine tw_load HC.out rfl 3 _ rfl _ rfl _ rfl (by kernel_rfl) ?_
    | refine tw_load HC.out rfl 4 _ rfl _ rfl _ rfl (by kernel_rfl) ?_
    | refine tw_load HC.out rfl 58 _ rfl _ rfl _ rfl (by kernel_rfl) ?_
    | refine tw_load HC.out rfl 22 _ rfl _ rfl _ rfl (by kernel_rfl) ?_
    | refine tw_loads HC.out rfl 57 _ rfl _ 4 rfl rfl _ Tryz.underlying57 rfl (by kernel_rfl) ?_
    | (refine tw_stores HC.out rfl 66 _ _ rfl _ rfl _ rfl (Nat.le_of_ble_eq_true rfl) (by kernel_rfl) rfl ?_
       intro w' h
       simp only [setL, List.set, Nat.reduceAdd] at h
       replace HC : Hid _ := h
       clear h)
    | (refine tw_store HC.out rfl 3 _ _ rfl _ rfl _ rfl (Nat.le_of_ble_eq_true rfl) (by kernel_rfl) rfl ?_
       intro w' h
       simp only [List.set] at h
       replace HC : Hid _ := h
       clear h)
    | (refine tw_store HC.out rfl 4 _ _ rfl _ rfl _ rfl (Nat.le_of_ble_eq_true rfl) (by kernel_rfl) rfl ?_
       intro w' h
       simp only [List.set] at h
       replace HC : Hid _ := h
       clear h)
    | (refine tw_store HC.out rfl 58 _ _ rfl _ rfl _ rfl (Nat.le_of_ble_eq_true rfl) (by kernel_rfl) rfl ?_
       intro w' h
       simp only [List.set] at h
       replace HC : Hid _ := h
       clear h)
    | (refine tw_store HC.out rfl 22 _ _ rfl _ rfl _ rfl (Nat.le_of_ble_eq_true rfl) (by kernel_rfl) rfl ?_
       intro w' h
       simp only [List.set] at h
       replace HC : Hid _ := h
       clear h)
    | refine wpList_load_mid rfl 68 _ rfl (w.heap.size + 1 + 1) 0 rfl _ _ HC.out.c.range Tryz.underlying68 rfl (by kernel_rfl) ?_
    | refine wpList_store_mid rfl 68 _ _ rfl (w.heap.size + 1) 0 _ rfl rfl HC.out.t (by kernel_rfl) (by simp [Value.oneCell']) ?_)
  have HL : Hid _ := (HC.out.k _ List.mem_cons_self).2.2.2.2
  refine (toUint64_any _ _ _ _ _ (HA.out.2.later HC.out.b0) hp).mono ?_
  rintro e w3 ⟨rfl, hf, hb, hz⟩
  replace HC : Hid _ := HC.out.row hb hf hz
  clear hf hb hz
  go_wp2_with (first
    | refine tw_load HC.out rfl 3 _ rfl _ rfl _ rfl (by kernel_rfl) ?_
    | refine tw_load HC.out rfl 4 _ rfl _ rfl _ rfl (by kernel_rfl) ?_
    | refine tw_load HC.out rfl 58 _ rfl _ rfl _ rfl (by kernel_rfl) ?_
    | refine tw_load HC.out rfl 22 _ rfl _ rfl _ rfl (by kernel_rfl) ?_
    | refine tw_loads HC.out rfl 57 _ rfl _ 4 rfl rfl _ Tryz.underlying57 rfl (by kernel_rfl) ?_
    | (refine tw_stores HC.out rfl 66 _ _ rfl _ rfl _ rfl (Nat.le_of_ble_eq_true rfl) (by kernel_rfl) rfl ?_
       intro w' h
       simp only [setL, List.set, Nat.reduceAdd] at h
       replace HC : Hid _ := h
       clear h)
    | (refine tw_store HC.out rfl 3 _ _ rfl _ rfl _ rfl (Nat.le_of_ble_eq_true rfl) (by kernel_rfl) rfl ?_
       intro w' h
       simp only [List.set] at h
       replace HC : Hid _ := h
       clear h)
    | (refine tw_store HC.out rfl 4 _ _ rfl _ rfl _ rfl (Nat.le_of_ble_eq_true rfl) (by kernel_rfl) rfl ?_
       intro w' h
       simp only [List.set] at h
       replace HC : Hid _ := h
       clear h)
    | (refine tw_store HC.out rfl 58 _ _ rfl _ rfl _ rfl (Nat.le_of_ble_eq_true rfl) (by kernel_rfl) rfl ?_
       intro w' h
       simp only [List.set] at h
       replace HC : Hid _ := h
       clear h)
    | (refine tw_store HC.out rfl 22 _ _ rfl _ rfl _ rfl (Nat.le_of_ble_eq_true rfl) (by kernel_rfl) rfl ?_
       intro w' h
       simp only [List.set] at h
       replace HC : Hid _ := h
       clear h)
    | refine wpList_load_mid rfl 68 _ rfl (w.heap.size + 1 + 1) 0 rfl _ _ HC.out.c.range Tryz.underlying68 rfl (by kernel_rfl) ?_
    | refine wpList_store_mid rfl 68 _ _ rfl (w.heap.size + 1) 0 _ rfl rfl HC.out.t (by kernel_rfl) (by simp [Value.oneCell']) ?_)
  have K1 := HC.out.k _ (List.mem_cons_of_mem _ List.mem_cons_self)
  have K2 := HC.out.k _ List.mem_cons_self
  exact bodyPost_ret (results_cell_mid rfl _ _ (w.heap.size + 1) 0 _ _ rfl (World.rangeAt_setCells_same _ _ _ _ HC.out.t) Tryz.underlying68 rfl (by kernel_rfl)) rfl
    ⟨_, _, rfl, K1.2.1, HL.out, by rw [setCells_size]; exact K2.2.2.2.2, fk_setCells_far K1.2.2.2.1.symm _ _ _ K1.1, fk_setCells_far K2.2.2.2.1.symm _ _ _ K2.1, below_setCells HC.out.b0 HC.out.gr _ _⟩

open Aid Lst Plat
open Book (Sx)
/- A list of words, as it was handed in. -/
def Good64 (x : Sx) (w : World) : Prop := Sl .u64 w x.a x.n x.f ∧ x.n ≤ maxLen ∧ ∀ j, (Lit.int .u64 (x.f j)).wf = true
structure Gx.Good (g : Gx) (w : World) : Prop where
  snap : Good64 g.snap w
  plan : Good64 g.plan w
theorem Gx.Good.at {g : Gx} {w : World} (h : g.Good w) : g.At w := ⟨h.snap.1, h.plan.1⟩

theorem open_words {H : Type} {enc : TypeId × Value → H} {w : World} {n : Nat} {v : Value} {y : DataW H × List MemPlace} (h : DataW.trod enc Tryz.prog w 0 (fun _ => true) true n 22 [v] = some y) : ∃ x : Sx, v = .slice x.a x.n x.c ∧ Good64 x w := by
  rcases open_ints Tryz.underlying22 Tryz.underlying58 (by kernel_rfl) h with ⟨hcs, _⟩ | ⟨x, l, c, zs, hcs, _, hl, hm, hz, _, hcell, hwz⟩
  · simp at hcs
    obtain ⟨g1, g2, g3⟩ := sl_of (k := .u64) (w := w) (a := none) (len := 0) (cap := 0) (zs := []) (.inl ⟨rfl, rfl, rfl, rfl⟩)
    exact ⟨⟨none, 0, 0, fun j => ([] : List Int).getD j 0⟩, hcs, g1, g2, g3⟩
  · simp at hcs
    obtain ⟨g1, g2, g3⟩ := sl_of (k := .u64) (w := w) (a := some x) (len := l) (cap := c) (zs := zs) (.inr ⟨x, rfl, hl, hm, by simpa using hz, hcell, hwz⟩)
    exact ⟨⟨some x, l, c, fun j => zs.getD j 0⟩, hcs, g1, g2, g3⟩

theorem list26 {α : Type} {cs : List α} (h : cs.length = 26) : ∃ c0 c1 c2 c3 c4 c5 c6 c7 c8 c9 c10 c11 c12 c13 c14 c15 c16 c17 c18 c19 c20 c21 c22 c23 c24 c25, cs = [c0, c1, c2, c3, c4, c5, c6, c7, c8, c9, c10, c11, c12, c13, c14, c15, c16, c17, c18, c19, c20, c21, c22, c23, c24, c25] := by
  match cs, h with
  | [c0, c1, c2, c3, c4, c5, c6, c7, c8, c9, c10, c11, c12, c13, c14, c15, c16, c17, c18, c19, c20, c21, c22, c23, c24, c25], _ => exact ⟨c0, c1, c2, c3, c4, c5, c6, c7, c8, c9, c10, c11, c12, c13, c14, c15, c16, c17, c18, c19, c20, c21, c22, c23, c24, c25, rfl⟩

set_option maxHeartbeats 4000000 in
theorem open_guest {H : Type} {enc : TypeId × Value → H} {w : World} {fuel : Nat} {cs : List Value} {y : DataW H × List MemPlace} (hl : cs.length = 26) (h : DataW.trod enc Tryz.prog w 0 (fun _ => true) true fuel 60 cs = some y) :
    ∃ g : Gx, cs = g.cells ∧ g.Good w := by
  obtain ⟨c0, c1, c2, c3, c4, c5, c6, c7, c8, c9, c10, c11, c12, c13, c14, c15, c16, c17, c18, c19, c20, c21, c22, c23, c24, c25, rfl⟩ := list26 hl
  obtain ⟨xs, n, _, _, _, hlen, hfl⟩ := DataW.trod_struct Tryz.underlying60 h
  have k1 : Tryz.prog.cellsOf 3 = 1 := by kernel_rfl
  have k2 : Tryz.prog.cellsOf 58 = 1 := by kernel_rfl
  have k3 : Tryz.prog.cellsOf 4 = 1 := by kernel_rfl
  have k4 : Tryz.prog.cellsOf 22 = 1 := by kernel_rfl
  have k5 : Tryz.prog.cellsOf 57 = 4 := by kernel_rfl
  match xs, hlen with
  | [y0, y1, y2, y3, y4, y5, y6, y7, y8, y9, y10, y11, y12, y13, y14, y15, y16, y17, y18, y19, y20, y21, y22], _ =>
    have g0 := hfl 0 _ rfl
    have g1 := hfl 1 _ rfl
    have g2 := hfl 2 _ rfl
    have g3 := hfl 3 _ rfl
    have g4 := hfl 4 _ rfl
    have g5 := hfl 5 _ rfl
    have g6 := hfl 6 _ rfl
    have g7 := hfl 7 _ rfl
    have g8 := hfl 8 _ rfl
    have g9 := hfl 9 _ rfl
    have g10 := hfl 10 _ rfl
    have g11 := hfl 11 _ rfl
    have g12 := hfl 12 _ rfl
    have g13 := hfl 13 _ rfl
    have g14 := hfl 14 _ rfl
    have g15 := hfl 15 _ rfl
    have g16 := hfl 16 _ rfl
    have g17 := hfl 17 _ rfl
    have g18 := hfl 18 _ rfl
    have g19 := hfl 19 _ rfl
    have g20 := hfl 20 _ rfl
    have g21 := hfl 21 _ rfl
    have g22 := hfl 22 _ rfl
    simp [k1, k2, k3, k4, k5] at g0 g1 g2 g3 g4 g5 g6 g7 g8 g9 g10 g11 g12 g13 g14 g15 g16 g17 g18 g19 g20 g21 g22
    obtain ⟨x0, e0, -⟩ := DataW.trod_bool Tryz.underlying4 g0
    obtain ⟨x1, e1, -, u1⟩ := DataW.trod_int Tryz.underlying3 g1
    obtain ⟨x2, e2, -, u2⟩ := DataW.trod_int Tryz.underlying3 g2
    obtain ⟨x3, e3, -⟩ := DataW.trod_bool Tryz.underlying4 g3
    obtain ⟨ys, m, _, _, _, hlen2, hfl2⟩ := DataW.trod_struct Tryz.underlying57 g4
    match ys, hlen2 with
    | [z0, z1, z2, z3], _ =>
    have o0 := hfl2 0 _ rfl
    have o1 := hfl2 1 _ rfl
    have o2 := hfl2 2 _ rfl
    have o3 := hfl2 3 _ rfl
    simp [k1] at o0 o1 o2 o3
    obtain ⟨p0, f0, -, -⟩ := DataW.trod_int Tryz.underlying3 o0
    obtain ⟨p1, f1, -, -⟩ := DataW.trod_int Tryz.underlying3 o1
    obtain ⟨p2, f2, -, -⟩ := DataW.trod_int Tryz.underlying3 o2
    obtain ⟨p3, f3, -, -⟩ := DataW.trod_int Tryz.underlying3 o3
    simp at f0 f1 f2 f3
    obtain ⟨x5, e5, -, u5⟩ := DataW.trod_int Tryz.underlying3 g5
    obtain ⟨x6, e6, -, u6⟩ := DataW.trod_int Tryz.underlying3 g6
    obtain ⟨x7, e7, -, u7⟩ := DataW.trod_int Tryz.underlying3 g7
    obtain ⟨x8, e8, -, u8⟩ := DataW.trod_int Tryz.underlying3 g8
    obtain ⟨x9, e9, -, u9⟩ := DataW.trod_int Tryz.underlying3 g9
    obtain ⟨x10, e10, -, u10⟩ := DataW.trod_int Tryz.underlying3 g10
    obtain ⟨x11, e11, -, u11⟩ := DataW.trod_int Tryz.underlying3 g11
    obtain ⟨x12, e12, -⟩ := DataW.trod_bool Tryz.underlying4 g12
    obtain ⟨x13, e13, -, u13⟩ := DataW.trod_int Tryz.underlying3 g13
    obtain ⟨x14, e14, -, u14⟩ := DataW.trod_int Tryz.underlying58 g14
    obtain ⟨x15, e15, -, u15⟩ := DataW.trod_int Tryz.underlying58 g15
    obtain ⟨x16, e16, -, u16⟩ := DataW.trod_int Tryz.underlying58 g16
    obtain ⟨x17, e17, -, u17⟩ := DataW.trod_int Tryz.underlying58 g17
    obtain ⟨x18, e18, s18⟩ := open_words g18
    obtain ⟨x19, e19, s19⟩ := open_words g19
    obtain ⟨x20, e20, -, u20⟩ := DataW.trod_int Tryz.underlying3 g20
    obtain ⟨x21, e21, -, u21⟩ := DataW.trod_int Tryz.underlying3 g21
    obtain ⟨x22, e22, -, u22⟩ := DataW.trod_int Tryz.underlying3 g22
    simp at e0 e1 e2 e3 e5 e6 e7 e8 e9 e10 e11 e12 e13 e14 e15 e16 e17 e20 e21 e22
    subst e0 e1 e2 e3 e5 e6 e7 e8 e9 e10 e11 e12 e13 e14 e15 e16 e17 e18 e19 e20 e21 e22 f0 f1 f2 f3
    exact ⟨⟨x0, x1, x2, x3, p0, p1, p2, p3, x5, x6, x7, x8, x9, x10, x11, x12, x13, x14, x15, x16, x17, x18, x19, x20, x21, x22⟩, rfl, ⟨s18, s19⟩⟩

/- A world: its words; where its guests lie, how many they are, and each. -/
structure Wx where
  ws : Sx
  a : Option Addr
  n : Nat
  c : Nat
  g : Nat → Gx

def Wx.cells (x : Wx) : List Value := [.slice x.ws.a x.ws.n x.ws.c, .slice x.a x.n x.c]
/- Guests in a row, 26 cells each. -/
def RowG (w : World) (a : Option Addr) (n : Nat) (g : Nat → Gx) : Prop := n = 0 ∨ ∃ b off, a = some ⟨b, off, none⟩ ∧ ∀ j, j < n → w.rangeAt b (off + j * 26) (g j).cells
structure Wx.At (x : Wx) (w : World) : Prop where
  ws : Sl .u64 w x.ws.a x.ws.n x.ws.f
  row : RowG w x.a x.n x.g
  each : ∀ j, j < x.n → (x.g j).At w
structure Wx.Good (x : Wx) (w : World) : Prop where
  ws : Good64 x.ws w
  row : RowG w x.a x.n x.g
  each : ∀ j, j < x.n → (x.g j).Good w
  lim : x.n ≤ maxLen
theorem Wx.Good.at {x : Wx} {w : World} (h : x.Good w) : x.At w := ⟨h.ws.1, h.row, fun j hj => (h.each j hj).at⟩

theorem RowG.later {w w1 : World} {a : Option Addr} {n : Nat} {g : Nat → Gx} (h : RowG w a n g) (hb : Below w.heap.size w w1) : RowG w1 a n g := by
  rcases h with h | ⟨b, off, e, h⟩
  · exact .inl h
  · refine .inr ⟨b, off, e, fun j hj => range_below hb (h j hj) ?_⟩
    exact World.block_lt_of_cell? w _ (h j hj 0 _ rfl)
theorem Wx.At.later {x : Wx} {w w1 : World} (h : x.At w) (hb : Below w.heap.size w w1) : x.At w1 := ⟨h.ws.later hb, h.row.later hb, fun j hj => (h.each j hj).later hb⟩

theorem open_world {H : Type} {enc : TypeId × Value → H} {w : World} {r : Reach} {b0 : Nat} {v : Value} {d : DataW H} {p : List MemPlace} (hv : Value.okWide Tryz.prog w r b0 25 v) (h : DataW.Trod enc Tryz.prog w 0 (fun _ => true) true 25 v d p) :
    ∃ x : Wx, v = .agg x.cells.toArray ∧ x.Good w := by
  obtain ⟨cs, rfl, hsz⟩ := okWide_struct Tryz.underlying25 hv
  have h2 : cs.size = 2 := hsz.trans (by kernel_rfl)
  obtain ⟨c0, c1, rfl⟩ : ∃ c0 c1, cs = #[c0, c1] := by
    obtain ⟨l⟩ := cs
    match l, h2 with
    | [c0, c1], _ => exact ⟨c0, c1, rfl⟩
  obtain ⟨fuel, hf⟩ := h
  obtain ⟨xs, n, _, _, _, hlen, hfl⟩ := DataW.trod_struct Tryz.underlying25 hf
  match xs, hlen with
  | [y0, y1], _ =>
    have k1 : Tryz.prog.cellsOf 22 = 1 := by kernel_rfl
    have k2 : Tryz.prog.cellsOf 23 = 1 := by kernel_rfl
    have k3 : Tryz.prog.cellsOf 60 = 26 := by kernel_rfl
    have g0 := hfl 0 _ rfl
    have g1 := hfl 1 _ rfl
    simp [Value.cells, k1, k2] at g0 g1
    obtain ⟨ws, rfl, hw⟩ := open_words g0
    haveI : Inhabited Gx := ⟨⟨false, 0, 0, false, 0, 0, 0, 0, 0, 0, 0, 0, 0, 0, 0, false, 0, 0, 0, 0, 0, ⟨none, 0, 0, fun _ => 0⟩, ⟨none, 0, 0, fun _ => 0⟩, 0, 0, 0⟩⟩
    rcases Go.Deep.open_slice Tryz.underlying23 g1 with ⟨hcs, _⟩ | ⟨a, len, cap, m, fu, D, Pl, hcs, -, hl, hm, hmm, -, hx⟩
    · simp at hcs
      subst hcs
      exact ⟨⟨ws, none, 0, 0, fun _ => default⟩, rfl, ⟨hw, .inl rfl, fun j hj => absurd hj (Nat.not_lt_zero j), Nat.zero_le _⟩⟩
    · simp at hcs hmm
      subst hcs hmm
      rw [k3] at hx
      obtain ⟨g, hg⟩ := Go.Deep.choose_lt (α := Gx) (p := fun i g => (∀ j v, g.cells[j]? = some v → w.cell? ((a.add (i * 26)).add j) = some v) ∧ g.Good w) (fun i hi => by
        obtain ⟨cs', h1, h2⟩ := hx i hi
        obtain ⟨_, hlen', hcell⟩ := World.cells?_some h1
        obtain ⟨g, rfl, gg⟩ := open_guest hlen' h2
        refine ⟨g, fun j v hj => ?_, gg⟩
        have hj26 : j < 26 := by
          rcases Nat.lt_or_ge j 26 with h | h
          · exact h
          · rw [List.getElem?_eq_none (by rw [Gx.len]; exact h)] at hj; cases hj
        rw [hcell j hj26]
        exact hj)
      refine ⟨⟨ws, some a, len, m, g⟩, rfl, ⟨hw, ?_, fun j hj => (hg j (Nat.lt_of_lt_of_le (show j < len from hj) hl)).2, by simp only; omega⟩⟩
      by_cases h0 : len = 0
      · exact .inl h0
      · have c := (hg 0 (by omega)).1 0 _ rfl
        obtain ⟨b, off, spot⟩ := a
        have hs : spot = none := by simpa [Addr.add] using World.cell?_spot c
        subst hs
        refine .inr ⟨b, off, rfl, fun j hj i u hu => ?_⟩
        have q := (hg j (Nat.lt_of_lt_of_le (show j < len from hj) hl)).1 i u hu
        rw [Addr.add_mid, Addr.add_mid] at q
        exact q

/- The first k of n guests are copied into the row R. -/
structure Gk (w0 : World) (R n k : Nat) (g : Nat → Gx) (B1 B2 : Nat → Nat) (w : World) : Prop where
  row : ∀ j, j < k → w.rangeAt R (j * 26) ((g j).at (B1 j) (B2 j)).cells
  th : ∀ j, j < n → w.there R (j * 26) 26
  own : ∀ j, j < k → Fk .u64 (g j).snap.n w (B1 j) (g j).snap.f ∧ Fk .u64 (g j).plan.n w (B2 j) (g j).plan.f
  ord : ∀ j, j < k → R < B1 j ∧ B1 j < B2 j ∧ B2 j < w.heap.size
  inc : ∀ i j, i < j → j < k → B2 i < B1 j
  bel : Below w0.heap.size w0 w
  lo : w0.heap.size ≤ R
  lt : R < w.heap.size

theorem Gk.later {w0 w w1 : World} {R n k : Nat} {g : Nat → Gx} {B1 B2 : Nat → Nat} (h : Gk w0 R n k g B1 B2 w) (hb : Below w.heap.size w w1) : Gk w0 R n k g B1 B2 w1 :=
  ⟨fun j hj => range_below hb (h.row j hj) h.lt, fun j hj => there_below hb (h.th j hj) h.lt, fun j hj => ⟨(h.own j hj).1.later hb, (h.own j hj).2.later hb⟩, fun j hj => ⟨(h.ord j hj).1, (h.ord j hj).2.1, Nat.lt_of_lt_of_le (h.ord j hj).2.2 hb.size⟩, h.inc, h.bel.trans (hb.mono h.bel.size), h.lo, Nat.lt_of_lt_of_le h.lt hb.size⟩

theorem Gk.put {w0 w w1 : World} {R n k : Nat} {g : Nat → Gx} {B1 B2 : Nat → Nat} (h : Gk w0 R n k g B1 B2 w) (hk : k < n) (hb : Below w.heap.size w w1) {b1 b2 : Nat} (h1 : w.heap.size ≤ b1) (h2 : b1 < b2) (h3 : b2 < w1.heap.size)
    (f1 : Fk .u64 (g k).snap.n w1 b1 (g k).snap.f) (f2 : Fk .u64 (g k).plan.n w1 b2 (g k).plan.f) :
    Gk w0 R n (k + 1) g (fun j => if j = k then b1 else B1 j) (fun j => if j = k then b2 else B2 j) (w1.setCells R (k * 26) ((g k).at b1 b2).cells) := by
  have H := h.later hb
  have hz := setCells_size R ((g k).at b1 b2).cells (k * 26) w1
  have hl := h.lt
  refine ⟨fun j hj => ?_, fun j hj => World.there_setCells (H.th j hj) _ _ _, fun j hj => ?_, fun j hj => ?_, fun i j hij hj => ?_, below_setCells H.bel H.lo _ _, H.lo, by rw [hz]; exact H.lt⟩
  · by_cases e : j = k
    · subst e
      simp only [if_true]
      exact World.rangeAt_setCells_same _ _ _ _ (H.th j hk)
    · have hjk : j < k := by omega
      simp only [if_neg e]
      refine World.rangeAt_setCells_apart (H.row j hjk) _ _ _ (.inr (.inl ?_))
      rw [Gx.len]; omega
  · by_cases e : j = k
    · subst e
      simp only [if_true]
      exact ⟨fk_setCells_far (by omega) _ _ _ f1, fk_setCells_far (by omega) _ _ _ f2⟩
    · have hjk : j < k := by omega
      simp only [if_neg e]
      have o := h.ord j hjk
      exact ⟨fk_setCells_far (by omega) _ _ _ (H.own j hjk).1, fk_setCells_far (by omega) _ _ _ (H.own j hjk).2⟩
  · rw [hz]
    by_cases e : j = k
    · simp only [e, if_true]; omega
    · simp only [if_neg e]; exact H.ord j (by omega)
  · have ei : ¬ i = k := by omega
    simp only [if_neg ei]
    by_cases e : j = k
    · simp only [e, if_true]
      have := (h.ord i (by omega)).2.2
      omega
    · simp only [if_neg e]; exact h.inc i j hij (by omega)

def zGuest : Array Value := zG
theorem infoGuest : (Tryz.prog.info? 68).map (fun i => (i.zero, i.size, i.bytes)) = some (some (.agg zG), 26, 240) := by kernel_rfl

set_option maxHeartbeats 800000 in
theorem toguests_any (a : Option Addr) (n c : Nat) (g : Nat → Gx) (w : World) (h : RowG w a n g) (hg : ∀ j, j < n → (g j).At w ∧ (g j).snap.n ≤ 1000000000 ∧ (g j).plan.n ≤ 1000000000) (hn : n ≤ 10000000) :
    Calls Tryz.prog 18 #[.slice a n c] w fun e w' => ∃ B1 B2, e = .returned (.slice (some ⟨w.heap.size, 0, none⟩) n n) ∧ Gk w w.heap.size n n g B1 B2 w' := by
  have hmk := fun w => run_make_rows (P := Tryz.prog) 33 68 zG 26 240 Tryz.underlying33 infoGuest .i64 .i64 n (by omega) (by omega) w
  have f0 : Gk w w.heap.size n 0 g (fun _ => 0) (fun _ => 0) (w.alloc (.cells (madeCells zG (n * 26)) 68)) :=
    ⟨fun j hj => by omega, fun j hj => there_made w zG 26 n _ j hj, fun j hj => by omega, fun j hj => by omega, fun i j _ hj => by omega, below1 w _, Nat.le_refl _, by simp⟩
  have HG : Hid (∀ j, j < n → (g j).At w ∧ (g j).snap.n ≤ 1000000000 ∧ (g j).plan.n ≤ 1000000000) := hg
  have HR : Hid (RowG w a n g) := h
  clear hg h
  go_enter Tryz.func18, Tryz.ntmps18
  go_wp2_with (fail)
  generalize w.alloc (.cells (madeCells zG (n * 26)) 68) = W at f0 ⊢
  clear hmk
  go_loopw [4] (fun i wr => ∃ (k : Nat) (B1 B2 : Nat → Nat), k ≤ n ∧ i = .int .i64 k ∧ Gk w w.heap.size n k g B1 B2 wr) (fun i _ => n - (intOf i).toNat)
  case atStart => exact ⟨0, _, _, by omega, rfl, f0⟩
  case round =>
    obtain ⟨k, B1, B2, hk, rfl, hf⟩ := hrel
    clear f0
    by_cases hlt : (k : Int) < n
    · rcases HR.out with h | ⟨b, off, rfl, h⟩
      · omega
      have rg := range_below hf.bel (h k (by omega)) (World.block_lt_of_cell? w _ (h k (by omega) 0 _ rfl))
      have HR1 : Hid (World.rangeAt wr b (off + k * 26) (g k).cells) := rg
      have HF : Hid (Gk w w.heap.size n k g B1 B2 wr) := hf
      clear h rg hf
      go_wp2_with (refine wpList_load_mid rfl 60 _ rfl b (off + k * 26) rfl (g k).cells _ HR1.out Tryz.underlying60 rfl (by kernel_rfl) ?_)
      refine (toguest_any (g k) wr ((HG.out k (by omega)).1.later HF.out.bel) (HG.out k (by omega)).2.1 (HG.out k (by omega)).2.2).mono ?_
      rintro e w1 ⟨b1, b2, rfl, o1, o2, o3, f1, f2, hb⟩
      have HF1 : Hid (Gk w w.heap.size n (k + 1) g (fun j => if j = k then b1 else B1 j) (fun j => if j = k then b2 else B2 j) (w1.setCells w.heap.size (k * 26) ((g k).at b1 b2).cells)) := HF.out.put (by omega) hb o1 o2 o3 f1 f2
      have HT : Hid (w1.there w.heap.size (k * 26) 26) := (HF.out.later hb).th k (by omega)
      clear o1 o2 o3 f1 f2 hb HR1 HF
      go_wp2_with (with_reducible refine halt_at (.store 68 (.tmp 21) (.tmp 20)) rfl ?_)
      unfold Hid
      refine wpList_store_mid rfl 68 _ _ rfl w.heap.size (k * 26) ((g k).at b1 b2).cells.toArray ?hx rfl HT.out (by kernel_rfl) (by simp [Gx.cells, Value.oneCell']) ?_
      case hx => rfl
      go_wp2_with (fail)
      go_roundw
      case rel => exact ⟨k + 1, _, _, by omega, by go_num, HF1.out⟩
      case measure => simp [intOf]; omega
    · obtain rfl : k = n := by omega
      have HF : Hid (Gk w w.heap.size k k g B1 B2 wr) := hf
      clear hf
      go_wp2_with (fail)
      go_ret
      exact ⟨rfl, B1, B2, HF.out⟩

end Go.Proofs.YtgfbfgiohmdjmaaGreat.Gs

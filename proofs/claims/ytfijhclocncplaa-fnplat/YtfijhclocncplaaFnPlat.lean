/- Whatever code is handed in (a slice of bytes): the house that is drawn of it is read back out of its own words, has as many words as it says, and each of its words lies at just one address of those that are told; there are none, if it is not ok. Conditions: none. -/
import Derived.Test.YtfijhclocncplaaRows
import Derived.Test.YtfijhclocncplaaDraw
import Derived.Test.YtfijhclocncplaaOpen
import Derived.Test.YtfijhclocncplaaCell
import Derived.Test.YtfijhclocncplaaAid
import Derived.Test.YtfijhclocncplaaDrawCfg
import Derived.Test.YtfijhclocncplaaPlat
import Derived.Test.YtfijhclocncplaaPlat2
import Derived.Test.YtfijhclocncplaaDoor
import Derived.Test.YtfijhclocncplaaSpec
import Derived.Test.YtfijhclocncplaaLst
import Derived.Test.YtfijhclocncplaaFmt
import Derived.Test.YtfijhclocncplaaSeek
import Derived.Test.YtfijhclocncplaaCheck
import Derived.Test.YtfijhclocncplaaSCheck
import Derived.Test.YtfijhclocncplaaChk
import Derived.Test.YtfijhclocncplaaCount
import Derived.Test.YtfijhclocncplaaHouse
import Derived.WalkKit
import Derived.ProofKit
import Derived.OpenShut
import Derived.ShutString
import Derived.ChangeOld
import Derived.Below
import Derived.Lib.SmallJoins
namespace Go.Proofs.Ytfijhclocncplaa.fnPlat
open Go.ChangeShapes Go.WideShapes Go.ChangeAt Go.RowKit
open Go.Proofs.Ytfijhclocncplaa.Aid
open Go.Proofs.Ytfijhclocncplaa.Draw
open Go.Proofs.Ytfijhclocncplaa.Lst
open Go.Proofs.Ytfijhclocncplaa.Plat
open Go.Proofs.Ytfijhclocncplaa.Words
open Go.ChangeMaps (open_string shut_string)
set_option linter.unusedVariables false

theorem own : ownKnob Try.prog.godebug = none := by kernel_rfl
theorem laidOut : laidOutB Try.prog = true := by kernel_rfl

def IsRow (k : IntKind) (w : World) (a : Option Addr) (len cap : Nat) (zs : List Int) : Prop :=
  (a = none ∧ len = 0 ∧ cap = 0 ∧ zs = []) ∨
  ∃ x, a = some x ∧ len ≤ cap ∧ cap ≤ maxLen ∧ zs.length = cap ∧ (∀ i, i < zs.length → w.cell? (x.add i) = some (.int k (zs.getD i 0))) ∧ ∀ n ∈ zs, (Lit.int k n).wf = true

set_option maxRecDepth 100000 in
set_option maxHeartbeats 4000000 in
theorem walk (a0 : Option Addr) (len0 cap0 : Nat) (z0 : List Int) (w : World) (w0 : IsRow .u8 w a0 len0 cap0 z0) :
    Calls Try.prog 3 #[.slice a0 len0 cap0] w fun e w' => e = .returned (.bool true) ∧ Below w.heap.size w w' := by
  have r0 := row_of w0
  clear w0
  have m0 := r0.1
  unfold maxLen at m0
  by_cases h0 : (1048576 : Int) < len0
  · go_enter Try.func3, Try.ntmps3
    go_wp2_with (fail)
    go_ret
    exact ⟨rfl, Below.refl _ _⟩
  go_enter Try.func3, Try.ntmps3
  go_wp2_with (fail)
  refine (drawCfg_any a0 len0 cap0 z0 w r0).mono ?_
  rintro e u1 ⟨s, p, l, rfl, B1⟩
  clear r0
  go_wp2_with (fail)
  have hb0 := below1 u1 (.cells #[.int .i64 s, .int .i64 p, .int .i64 l] 24)
  have rr := range_lit (ints [s, p, l]).toArray (heap1_0 u1 (.cells #[.int .i64 s, .int .i64 p, .int .i64 l] 24))
  have zz : u1.heap.size + 1 ≤ (u1.alloc (.cells #[.int .i64 s, .int .i64 p, .int .i64 l] 24)).heap.size := by simp
  have z1 := B1.size
  have B2 := B1.trans (hb0.mono (by omega))
  generalize u1.alloc (.cells #[.int .i64 s, .int .i64 p, .int .i64 l] 24) = u2 at *
  have hcb : w.heap.size ≤ u1.heap.size := z1
  generalize u1.heap.size = cb at *
  clear hb0 B1 z1
  cases hok : okB s p l
  case false =>
    refine (fmt_bad s p l _ hok).mono ?_
    rintro e u3 ⟨rfl, hb3⟩
    have r3 := range_below hb3 rr (by omega)
    have z3 := hb3.size
    have B3 := B2.trans (hb3.mono (by omega))
    clear hb3 rr B2
    go_wp2_with (fail)
    refine (check_none none 0 u3).mono ?_
    rintro e u4 ⟨rfl, hb4⟩
    have r4 := range_below hb4 r3 (by omega)
    have z4 := hb4.size
    have B4 := B3.trans (hb4.mono (by omega))
    clear hb4 r3 B3
    obtain ⟨q0, q1, q2⟩ := three_cell r4
    go_wp2_with (fail)
    have hb5 := below1 u4 (.cells #[.int .i64 0, .int .i64 0, .int .i64 0] 24)
    have z5 : u4.heap.size + 1 ≤ (u4.alloc (.cells #[.int .i64 0, .int .i64 0, .int .i64 0] 24)).heap.size := by simp
    have r5 := range_below hb5 r4 (by omega)
    have B5 := B4.trans (hb5.mono (by omega))
    clear q0 q1 q2 r4 B4 hb5
    generalize u4.alloc (.cells #[.int .i64 0, .int .i64 0, .int .i64 0] 24) = u5 at *
    have hsz : size s p l = 0 := by unfold size; rw [hok]; rfl
    refine wp_region_held_drew (S := fun w' => w'.rangeAt cb 0 (ints [s, p, l])) (by kernel_rfl) r5 (fun hS => ?_)
    refine takeH' (i := 0) (v := .bool false) (d := some 26) rfl rfl (by kernel_rfl) (by kernel_rfl) (by kernel_rfl) (fun _ _ _ h => h) (Or.inl ⟨by rfl, fun w' hw => ?_⟩) (by assumption) ?_
    · go_simp
    simp only [Act.put, List.setIfInBounds_toArray, List.set_cons_zero, List.set_cons_succ]
    refine takeH' (i := 1) (v := .agg #[.int .i64 s, .int .i64 p, .int .i64 l]) (d := some 27) rfl rfl (by kernel_rfl) (by kernel_rfl) (by kernel_rfl) (fun _ _ _ h => h) (Or.inl ⟨by rfl, fun w' hw => ?_⟩) (by assumption) ?_
    · obtain ⟨e0, e1, e2⟩ := three_cell hw; go_simp
    simp only [Act.put, List.setIfInBounds_toArray, List.set_cons_zero, List.set_cons_succ]
    refine wpAnyH_ready (rs := [2]) (by kernel_rfl) (by simp) ?_
    refine AllReadyH.cons rfl (fun K hK => ?_) AllReadyH.nil
    go_simp
    refine (sok_any s p l _).mono ?_
    rintro e u6 ⟨rfl, hb6⟩
    rw [hok]
    have r6 := range_below hb6 (show u5.drew.rangeAt cb 0 (ints [s, p, l]) from r5) (by simp only [World.drew]; omega)
    have z6 : u5.heap.size ≤ u6.heap.size := hb6.size
    have B6 : Below w.heap.size w u6 := B5.drew.trans (hb6.mono (by simp only [World.drew]; omega))
    clear hb6 r5 B5
    go_wp2_with (fail)
    refine hK.out _ _ r6 (fun hS => ?_)
    clear hK K
    refine takeH' (i := 3) (v := .bool false) (d := some 29) rfl rfl (by kernel_rfl) (by kernel_rfl) (by kernel_rfl) (fun _ _ _ h => h) (Or.inl ⟨by rfl, fun w' hw => ?_⟩) (by assumption) ?_
    · go_simp
    simp only [Act.put, List.setIfInBounds_toArray, List.set_cons_zero, List.set_cons_succ]
    refine takeH' (i := 4) (v := .bool false) (d := some 30) rfl rfl (by kernel_rfl) (by kernel_rfl) (by kernel_rfl) (fun _ _ _ h => h) (Or.inl ⟨by rfl, fun w' hw => ?_⟩) (by assumption) ?_
    · go_simp
    simp only [Act.put, List.setIfInBounds_toArray, List.set_cons_zero, List.set_cons_succ]
    refine takeH' (i := 5) (v := .bool false) (d := some 31) rfl rfl (by kernel_rfl) (by kernel_rfl) (by kernel_rfl) (fun _ _ _ h => h) (Or.inl ⟨by rfl, fun w' hw => ?_⟩) (by assumption) ?_
    · go_simp
    simp only [Act.put, List.setIfInBounds_toArray, List.set_cons_zero, List.set_cons_succ]
    refine takeH' (i := 6) (v := .bool false) (d := some 32) rfl rfl (by kernel_rfl) (by kernel_rfl) (by kernel_rfl) (fun _ _ _ h => h) (Or.inl ⟨by rfl, fun w' hw => ?_⟩) (by assumption) ?_
    · go_simp
    simp only [Act.put, List.setIfInBounds_toArray, List.set_cons_zero, List.set_cons_succ]
    refine takeH' (i := 7) (v := undef) (d := some 33) rfl rfl (by kernel_rfl) (by kernel_rfl) (by kernel_rfl) (fun _ _ _ h => h) (Or.inr ⟨by rfl, rfl⟩) (by assumption) ?_
    simp only [Act.put, List.setIfInBounds_toArray, List.set_cons_zero, List.set_cons_succ]
    refine takeH' (i := 8) (v := undef) (d := some 34) rfl rfl (by kernel_rfl) (by kernel_rfl) (by kernel_rfl) (fun _ _ _ h => h) (Or.inr ⟨by rfl, rfl⟩) (by assumption) ?_
    simp only [Act.put, List.setIfInBounds_toArray, List.set_cons_zero, List.set_cons_succ]
    refine takeH' (i := 9) (v := undef) (d := some 35) rfl rfl (by kernel_rfl) (by kernel_rfl) (by kernel_rfl) (fun _ _ _ h => h) (Or.inr ⟨by rfl, rfl⟩) (by assumption) ?_
    simp only [Act.put, List.setIfInBounds_toArray, List.set_cons_zero, List.set_cons_succ]
    refine takeH' (i := 10) (v := .bool false) (d := some 36) rfl rfl (by kernel_rfl) (by kernel_rfl) (by kernel_rfl) (fun _ _ _ h => h) (Or.inl ⟨by rfl, fun w' hw => ?_⟩) (by assumption) ?_
    · go_simp
    simp only [Act.put, List.setIfInBounds_toArray, List.set_cons_zero, List.set_cons_succ]
    refine takeH' (i := 11) (v := .bool false) (d := some 37) rfl rfl (by kernel_rfl) (by kernel_rfl) (by kernel_rfl) (fun _ _ _ h => h) (Or.inl ⟨by rfl, fun w' hw => ?_⟩) (by assumption) ?_
    · go_simp
    simp only [Act.put, List.setIfInBounds_toArray, List.set_cons_zero, List.set_cons_succ]
    refine takeH' (i := 12) (v := .bool false) (d := some 38) rfl rfl (by kernel_rfl) (by kernel_rfl) (by kernel_rfl) (fun _ _ _ h => h) (Or.inl ⟨by rfl, fun w' hw => ?_⟩) (by assumption) ?_
    · go_simp
    simp only [Act.put, List.setIfInBounds_toArray, List.set_cons_zero, List.set_cons_succ]
    refine takeH' (i := 13) (v := .slice none 0 0) (d := some 39) rfl rfl (by kernel_rfl) (by kernel_rfl) (by kernel_rfl) (fun _ _ _ h => h) (Or.inl ⟨by rfl, fun w' hw => ?_⟩) (by assumption) ?_
    · go_simp
    simp only [Act.put, List.setIfInBounds_toArray, List.set_cons_zero, List.set_cons_succ]
    refine takeH' (i := 14) (v := .int .i64 0) (d := some 40) rfl rfl (by kernel_rfl) (by kernel_rfl) (by kernel_rfl) (fun _ _ _ h => h) (Or.inl ⟨by rfl, fun w' hw => ?_⟩) (by assumption) ?_
    · go_simp
    simp only [Act.put, List.setIfInBounds_toArray, List.set_cons_zero, List.set_cons_succ]
    refine takeH' (i := 15) (v := .agg #[.int .i64 s, .int .i64 p, .int .i64 l]) (d := some 41) rfl rfl (by kernel_rfl) (by kernel_rfl) (by kernel_rfl) (fun _ _ _ h => h) (Or.inl ⟨by rfl, fun w' hw => ?_⟩) (by assumption) ?_
    · obtain ⟨e0, e1, e2⟩ := three_cell hw; go_simp
    simp only [Act.put, List.setIfInBounds_toArray, List.set_cons_zero, List.set_cons_succ]
    refine wpAnyH_ready (rs := [16]) (by kernel_rfl) (by simp) ?_
    refine AllReadyH.cons rfl (fun K hK => ?_) AllReadyH.nil
    go_simp
    refine (size_any s p l _).mono ?_
    rintro e u7 ⟨rfl, hb7⟩
    rw [hsz]
    have r7 := range_below hb7 r6 (by omega)
    have z7 := hb7.size
    have B7 := B6.trans (hb7.mono (by omega))
    clear hb7 r6 B6
    go_wp2_with (fail)
    refine hK.out _ _ r7 (fun hS => ?_)
    clear hK K
    refine takeH' (i := 17) (v := .bool false) (d := some 43) rfl rfl (by kernel_rfl) (by kernel_rfl) (by kernel_rfl) (fun _ _ _ h => h) (Or.inl ⟨by rfl, fun w' hw => ?_⟩) (by assumption) ?_
    · go_simp
    simp only [Act.put, List.setIfInBounds_toArray, List.set_cons_zero, List.set_cons_succ]
    refine takeH' (i := 18) (v := .bool false) (d := some 44) rfl rfl (by kernel_rfl) (by kernel_rfl) (by kernel_rfl) (fun _ _ _ h => h) (Or.inl ⟨by rfl, fun w' hw => ?_⟩) (by assumption) ?_
    · go_simp
    simp only [Act.put, List.setIfInBounds_toArray, List.set_cons_zero, List.set_cons_succ]
    refine takeH' (i := 19) (v := .bool false) (d := some 45) rfl rfl (by kernel_rfl) (by kernel_rfl) (by kernel_rfl) (fun _ _ _ h => h) (Or.inl ⟨by rfl, fun w' hw => ?_⟩) (by assumption) ?_
    · go_simp
    simp only [Act.put, List.setIfInBounds_toArray, List.set_cons_zero, List.set_cons_succ]
    refine takeH' (i := 20) (v := .agg #[.int .i64 s, .int .i64 p, .int .i64 l]) (d := some 46) rfl rfl (by kernel_rfl) (by kernel_rfl) (by kernel_rfl) (fun _ _ _ h => h) (Or.inl ⟨by rfl, fun w' hw => ?_⟩) (by assumption) ?_
    · obtain ⟨e0, e1, e2⟩ := three_cell hw; go_simp
    simp only [Act.put, List.setIfInBounds_toArray, List.set_cons_zero, List.set_cons_succ]
    refine takeH' (i := 22) (v := .agg #[.int .i64 s, .int .i64 p, .int .i64 l]) (d := some 48) rfl rfl (by kernel_rfl) (by kernel_rfl) (by kernel_rfl) (fun _ _ _ h => h) (Or.inl ⟨by rfl, fun w' hw => ?_⟩) (by assumption) ?_
    · obtain ⟨e0, e1, e2⟩ := three_cell hw; go_simp
    simp only [Act.put, List.setIfInBounds_toArray, List.set_cons_zero, List.set_cons_succ]
    refine wpAnyH_ready (rs := [21]) (by kernel_rfl) (by simp) ?_
    refine AllReadyH.cons rfl (fun K hK => ?_) AllReadyH.nil
    go_simp
    refine (size_any s p l _).mono ?_
    rintro e u8 ⟨rfl, hb8⟩
    rw [hsz]
    have r8 := range_below hb8 r7 (by omega)
    have z8 := hb8.size
    have B8 := B7.trans (hb8.mono (by omega))
    clear hb8 r7 B7
    go_wp2_with (fail)
    refine hK.out _ _ r8 (fun hS => ?_)
    clear hK K
    refine wpAnyH_ready (rs := [23]) (by kernel_rfl) (by simp) ?_
    refine AllReadyH.cons rfl (fun K hK => ?_) AllReadyH.nil
    go_simp
    refine (ssize_any s p l _).mono ?_
    rintro e u9 ⟨rfl, hb9⟩
    rw [hsz]
    have r9 := range_below hb9 r8 (by omega)
    have z9 := hb9.size
    have B9 := B8.trans (hb9.mono (by omega))
    clear hb9 r8 B8
    go_wp2_with (fail)
    refine hK.out _ _ r9 (fun hS => ?_)
    clear hK K
    refine takeH' (i := 24) (v := .bool false) (d := some 50) rfl rfl (by kernel_rfl) (by kernel_rfl) (by kernel_rfl) (fun _ _ _ h => h) (Or.inl ⟨by rfl, fun w' hw => ?_⟩) (by assumption) ?_
    · go_simp
    simp only [Act.put, List.setIfInBounds_toArray, List.set_cons_zero, List.set_cons_succ]
    refine takeH' (i := 25) (v := .bool false) (d := some 51) rfl rfl (by kernel_rfl) (by kernel_rfl) (by kernel_rfl) (fun _ _ _ h => h) (Or.inl ⟨by rfl, fun w' hw => ?_⟩) (by assumption) ?_
    · go_simp
    simp only [Act.put, List.setIfInBounds_toArray, List.set_cons_zero, List.set_cons_succ]
    refine wpAnyH_done (by kernel_rfl) ?_ _
    obtain ⟨q0, q1, q2⟩ := three_cell r9
    go_wp2_with (fail)
    refine (reg_any s p l 0 _).mono ?_
    rintro e u10 ⟨rfl, hb10⟩
    rw [addr_bad hok]
    have r10 := range_below hb10 r9 (by omega)
    have z10 := hb10.size
    have B10 := B9.trans (hb10.mono (by omega))
    clear q0 q1 q2
    obtain ⟨q0, q1, q2⟩ := three_cell r10
    go_wp2_with (fail)
    refine (desk_any s p l 0 _).mono ?_
    rintro e u11 ⟨rfl, hb11⟩
    rw [addr_bad hok]
    go_wp2_with (fail)
    go_ret
    exact ⟨rfl, B10.trans (hb11.mono (by omega))⟩
  case true =>
    have hk := okB_of hok
    obtain ⟨S, rfl⟩ := Int.eq_ofNat_of_zero_le (show 0 ≤ s by omega)
    obtain ⟨P, rfl⟩ := Int.eq_ofNat_of_zero_le (show 0 ≤ p by omega)
    have HN : Hid (szN (S : Int) (P : Int) = 7 + S * 23 + P * 17) := by show _ = _; unfold szN; omega
    have hgd := fmt_gd hok
    have hsz := size_szN hok
    have hmk := fun w => run_make_row' (P := Try.prog) 33 3 (.int .i64 0) 8 Try.underlying33 infoInt rfl .i64 .i64 (szN (S : Int) (P : Int)) (by have := HN.out; omega) (by have := HN.out; omega) w
    refine (fmt_ok (S : Int) (P : Int) l _ hok).mono ?_
    rintro e u3 ⟨b, b0, b1, rfl, f3, hb3⟩
    have r3 := range_below hb3 rr (by omega)
    have z3 := hb3.size
    have B3 := B2.trans (hb3.mono (by omega))
    clear hb3 rr B2
    go_wp2_with (fail)
    refine (check_all _ (szN (S : Int) (P : Int)) (szN (S : Int) (P : Int)) (fmtF (S : Int) (P : Int) l) u3 f3.sl (by have := HN.out; omega) (fun j _ => fmt_bd hk j)).mono ?_
    rintro e u4 ⟨rfl, hb4⟩
    rw [hgd.1, hgd.2.1, hgd.2.2.1, hgd.2.2.2]
    have r4 := range_below hb4 r3 (by omega)
    have z4 := hb4.size
    have B4 := B3.trans (hb4.mono (by omega))
    clear hb4 r3 B3 f3 hgd
    obtain ⟨q0, q1, q2⟩ := three_cell r4
    generalize hNN : szN (S : Int) (P : Int) = N at *
    clear hNN
    go_wp2_with (fail)
    have hb5 := below1 u4 (.cells #[.int .i64 (S : Int), .int .i64 (P : Int), .int .i64 l] 24)
    have d5 := range_lit (ints [(S : Int), (P : Int), l]).toArray (heap1_0 u4 (.cells #[.int .i64 (S : Int), .int .i64 (P : Int), .int .i64 l] 24))
    have z5 : u4.heap.size + 1 ≤ (u4.alloc (.cells #[.int .i64 (S : Int), .int .i64 (P : Int), .int .i64 l] 24)).heap.size := by simp
    have r5 := range_below hb5 r4 (by omega)
    have B5 := B4.trans (hb5.mono (by omega))
    clear q0 q1 q2 r4 B4 hb5
    generalize u4.alloc (.cells #[.int .i64 (S : Int), .int .i64 (P : Int), .int .i64 l] 24) = u5 at *
    have zd : u4.heap.size < u5.heap.size := z5
    generalize u4.heap.size = db at *
    refine wp_region_held_drew (S := fun w' => w'.rangeAt cb 0 (ints [(S : Int), (P : Int), l]) ∧ w'.rangeAt db 0 (ints [(S : Int), (P : Int), l])) (by kernel_rfl) ⟨r5, d5⟩ (fun hS => ?_)
    refine takeH' (i := 0) (v := .bool true) (d := some 26) rfl rfl (by kernel_rfl) (by kernel_rfl) (by kernel_rfl) (fun _ _ _ h => h) (Or.inl ⟨by rfl, fun w' hw => ?_⟩) (by assumption) ?_
    · go_simp
    simp only [Act.put, List.setIfInBounds_toArray, List.set_cons_zero, List.set_cons_succ]
    refine takeH' (i := 1) (v := .agg #[.int .i64 (S : Int), .int .i64 (P : Int), .int .i64 l]) (d := some 27) rfl rfl (by kernel_rfl) (by kernel_rfl) (by kernel_rfl) (fun _ _ _ h => h) (Or.inl ⟨by rfl, fun w' hw => ?_⟩) (by assumption) ?_
    · obtain ⟨e0, e1, e2⟩ := three_cell hw.1; go_simp
    simp only [Act.put, List.setIfInBounds_toArray, List.set_cons_zero, List.set_cons_succ]
    refine wpAnyH_ready (rs := [2]) (by kernel_rfl) (by simp) ?_
    refine AllReadyH.cons rfl (fun K hK => ?_) AllReadyH.nil
    go_simp
    refine (sok_any (S : Int) (P : Int) l _).mono ?_
    rintro e u6 ⟨rfl, hb6⟩
    rw [hok]
    have r6 := range_below hb6 (show u5.drew.rangeAt cb 0 (ints [(S : Int), (P : Int), l]) from r5) (by simp only [World.drew]; omega)
    have d6 := range_below hb6 (show u5.drew.rangeAt db 0 (ints [(S : Int), (P : Int), l]) from d5) (by simp only [World.drew]; omega)
    have z6 : u5.heap.size ≤ u6.heap.size := hb6.size
    have B6 : Below w.heap.size w u6 := B5.drew.trans (hb6.mono (by simp only [World.drew]; omega))
    clear hb6 r5 d5 B5
    go_wp2_with (fail)
    refine hK.out _ _ ⟨r6, d6⟩ (fun hS => ?_)
    clear hK K
    refine takeH' (i := 3) (v := .bool false) (d := some 29) rfl rfl (by kernel_rfl) (by kernel_rfl) (by kernel_rfl) (fun _ _ _ h => h) (Or.inl ⟨by rfl, fun w' hw => ?_⟩) (by assumption) ?_
    · go_simp
    simp only [Act.put, List.setIfInBounds_toArray, List.set_cons_zero, List.set_cons_succ]
    refine takeH' (i := 4) (v := .bool false) (d := some 30) rfl rfl (by kernel_rfl) (by kernel_rfl) (by kernel_rfl) (fun _ _ _ h => h) (Or.inl ⟨by rfl, fun w' hw => ?_⟩) (by assumption) ?_
    · go_simp
    simp only [Act.put, List.setIfInBounds_toArray, List.set_cons_zero, List.set_cons_succ]
    refine takeH' (i := 5) (v := .bool true) (d := some 31) rfl rfl (by kernel_rfl) (by kernel_rfl) (by kernel_rfl) (fun _ _ _ h => h) (Or.inl ⟨by rfl, fun w' hw => ?_⟩) (by assumption) ?_
    · go_simp
    simp only [Act.put, List.setIfInBounds_toArray, List.set_cons_zero, List.set_cons_succ]
    refine takeH' (i := 6) (v := .bool true) (d := some 32) rfl rfl (by kernel_rfl) (by kernel_rfl) (by kernel_rfl) (fun _ _ _ h => h) (Or.inl ⟨by rfl, fun w' hw => ?_⟩) (by assumption) ?_
    · go_simp
    simp only [Act.put, List.setIfInBounds_toArray, List.set_cons_zero, List.set_cons_succ]
    refine takeH' (i := 7) (v := .agg #[.int .i64 (S : Int), .int .i64 (P : Int), .int .i64 l]) (d := some 33) rfl rfl (by kernel_rfl) (by kernel_rfl) (by kernel_rfl) (fun _ _ _ h => h) (Or.inl ⟨by rfl, fun w' hw => ?_⟩) (by assumption) ?_
    · obtain ⟨e0, e1, e2⟩ := three_cell hw.2; go_simp
    simp only [Act.put, List.setIfInBounds_toArray, List.set_cons_zero, List.set_cons_succ]
    refine takeH' (i := 8) (v := .agg #[.int .i64 (S : Int), .int .i64 (P : Int), .int .i64 l]) (d := some 34) rfl rfl (by kernel_rfl) (by kernel_rfl) (by kernel_rfl) (fun _ _ _ h => h) (Or.inl ⟨by rfl, fun w' hw => ?_⟩) (by assumption) ?_
    · obtain ⟨e0, e1, e2⟩ := three_cell hw.1; go_simp
    simp only [Act.put, List.setIfInBounds_toArray, List.set_cons_zero, List.set_cons_succ]
    refine takeH' (i := 9) (v := .bool false) (d := some 35) rfl rfl (by kernel_rfl) (by kernel_rfl) (by kernel_rfl) (fun _ _ _ h => h) (Or.inl ⟨by rfl, fun w' hw => ?_⟩) (by assumption) ?_
    · go_simp
    simp only [Act.put, List.setIfInBounds_toArray, List.set_cons_zero, List.set_cons_succ]
    refine takeH' (i := 10) (v := .bool false) (d := some 36) rfl rfl (by kernel_rfl) (by kernel_rfl) (by kernel_rfl) (fun _ _ _ h => h) (Or.inl ⟨by rfl, fun w' hw => ?_⟩) (by assumption) ?_
    · go_simp
    simp only [Act.put, List.setIfInBounds_toArray, List.set_cons_zero, List.set_cons_succ]
    refine takeH' (i := 11) (v := .bool false) (d := some 37) rfl rfl (by kernel_rfl) (by kernel_rfl) (by kernel_rfl) (fun _ _ _ h => h) (Or.inl ⟨by rfl, fun w' hw => ?_⟩) (by assumption) ?_
    · go_simp
    simp only [Act.put, List.setIfInBounds_toArray, List.set_cons_zero, List.set_cons_succ]
    refine takeH' (i := 12) (v := .bool false) (d := some 38) rfl rfl (by kernel_rfl) (by kernel_rfl) (by kernel_rfl) (fun _ _ _ h => h) (Or.inl ⟨by rfl, fun w' hw => ?_⟩) (by assumption) ?_
    · go_simp
    simp only [Act.put, List.setIfInBounds_toArray, List.set_cons_zero, List.set_cons_succ]
    refine takeH' (i := 13) (v := .slice (some ⟨b, 0, none⟩) N N) (d := some 39) rfl rfl (by kernel_rfl) (by kernel_rfl) (by kernel_rfl) (fun _ _ _ h => h) (Or.inl ⟨by rfl, fun w' hw => ?_⟩) (by assumption) ?_
    · go_simp
    simp only [Act.put, List.setIfInBounds_toArray, List.set_cons_zero, List.set_cons_succ]
    refine takeH' (i := 14) (v := .int .i64 N) (d := some 40) rfl rfl (by kernel_rfl) (by kernel_rfl) (by kernel_rfl) (fun _ _ _ h => h) (Or.inl ⟨by rfl, fun w' hw => ?_⟩) (by assumption) ?_
    · go_simp
    simp only [Act.put, List.setIfInBounds_toArray, List.set_cons_zero, List.set_cons_succ]
    refine takeH' (i := 15) (v := .agg #[.int .i64 (S : Int), .int .i64 (P : Int), .int .i64 l]) (d := some 41) rfl rfl (by kernel_rfl) (by kernel_rfl) (by kernel_rfl) (fun _ _ _ h => h) (Or.inl ⟨by rfl, fun w' hw => ?_⟩) (by assumption) ?_
    · obtain ⟨e0, e1, e2⟩ := three_cell hw.1; go_simp
    simp only [Act.put, List.setIfInBounds_toArray, List.set_cons_zero, List.set_cons_succ]
    refine wpAnyH_ready (rs := [16]) (by kernel_rfl) (by simp) ?_
    refine AllReadyH.cons rfl (fun K hK => ?_) AllReadyH.nil
    go_simp
    refine (size_any (S : Int) (P : Int) l _).mono ?_
    rintro e u7 ⟨rfl, hb7⟩
    rw [hsz]
    have r7 := range_below hb7 r6 (by omega)
    have d7 := range_below hb7 d6 (by omega)
    have z7 := hb7.size
    have B7 := B6.trans (hb7.mono (by omega))
    clear hb7 r6 d6 B6
    go_wp2_with (fail)
    refine hK.out _ _ ⟨r7, d7⟩ (fun hS => ?_)
    clear hK K
    refine takeH' (i := 17) (v := .bool false) (d := some 43) rfl rfl (by kernel_rfl) (by kernel_rfl) (by kernel_rfl) (fun _ _ _ h => h) (Or.inl ⟨by rfl, fun w' hw => ?_⟩) (by assumption) ?_
    · go_simp
    simp only [Act.put, List.setIfInBounds_toArray, List.set_cons_zero, List.set_cons_succ]
    refine takeH' (i := 18) (v := .bool false) (d := some 44) rfl rfl (by kernel_rfl) (by kernel_rfl) (by kernel_rfl) (fun _ _ _ h => h) (Or.inl ⟨by rfl, fun w' hw => ?_⟩) (by assumption) ?_
    · go_simp
    simp only [Act.put, List.setIfInBounds_toArray, List.set_cons_zero, List.set_cons_succ]
    refine takeH' (i := 19) (v := .bool false) (d := some 45) rfl rfl (by kernel_rfl) (by kernel_rfl) (by kernel_rfl) (fun _ _ _ h => h) (Or.inl ⟨by rfl, fun w' hw => ?_⟩) (by assumption) ?_
    · go_simp
    simp only [Act.put, List.setIfInBounds_toArray, List.set_cons_zero, List.set_cons_succ]
    refine takeH' (i := 20) (v := .agg #[.int .i64 (S : Int), .int .i64 (P : Int), .int .i64 l]) (d := some 46) rfl rfl (by kernel_rfl) (by kernel_rfl) (by kernel_rfl) (fun _ _ _ h => h) (Or.inl ⟨by rfl, fun w' hw => ?_⟩) (by assumption) ?_
    · obtain ⟨e0, e1, e2⟩ := three_cell hw.1; go_simp
    simp only [Act.put, List.setIfInBounds_toArray, List.set_cons_zero, List.set_cons_succ]
    refine takeH' (i := 22) (v := .agg #[.int .i64 (S : Int), .int .i64 (P : Int), .int .i64 l]) (d := some 48) rfl rfl (by kernel_rfl) (by kernel_rfl) (by kernel_rfl) (fun _ _ _ h => h) (Or.inl ⟨by rfl, fun w' hw => ?_⟩) (by assumption) ?_
    · obtain ⟨e0, e1, e2⟩ := three_cell hw.1; go_simp
    simp only [Act.put, List.setIfInBounds_toArray, List.set_cons_zero, List.set_cons_succ]
    refine wpAnyH_ready (rs := [21]) (by kernel_rfl) (by simp) ?_
    refine AllReadyH.cons rfl (fun K hK => ?_) AllReadyH.nil
    go_simp
    refine (size_any (S : Int) (P : Int) l _).mono ?_
    rintro e u8 ⟨rfl, hb8⟩
    rw [hsz]
    have r8 := range_below hb8 r7 (by omega)
    have d8 := range_below hb8 d7 (by omega)
    have z8 := hb8.size
    have B8 := B7.trans (hb8.mono (by omega))
    clear hb8 r7 d7 B7
    go_wp2_with (fail)
    refine hK.out _ _ ⟨r8, d8⟩ (fun hS => ?_)
    clear hK K
    refine wpAnyH_ready (rs := [23]) (by kernel_rfl) (by simp) ?_
    refine AllReadyH.cons rfl (fun K hK => ?_) AllReadyH.nil
    go_simp
    refine (ssize_any (S : Int) (P : Int) l _).mono ?_
    rintro e u9 ⟨rfl, hb9⟩
    rw [hsz]
    have r9 := range_below hb9 r8 (by omega)
    have d9 := range_below hb9 d8 (by omega)
    have z9 := hb9.size
    have B9 := B8.trans (hb9.mono (by omega))
    clear hb9 r8 d8 B8
    go_wp2_with (fail)
    refine hK.out _ _ ⟨r9, d9⟩ (fun hS => ?_)
    clear hK K
    refine takeH' (i := 24) (v := .bool false) (d := some 50) rfl rfl (by kernel_rfl) (by kernel_rfl) (by kernel_rfl) (fun _ _ _ h => h) (Or.inl ⟨by rfl, fun w' hw => ?_⟩) (by assumption) ?_
    · go_simp
    simp only [Act.put, List.setIfInBounds_toArray, List.set_cons_zero, List.set_cons_succ]
    refine takeH' (i := 25) (v := .bool false) (d := some 51) rfl rfl (by kernel_rfl) (by kernel_rfl) (by kernel_rfl) (fun _ _ _ h => h) (Or.inl ⟨by rfl, fun w' hw => ?_⟩) (by assumption) ?_
    · go_simp
    simp only [Act.put, List.setIfInBounds_toArray, List.set_cons_zero, List.set_cons_succ]
    refine wpAnyH_done (by kernel_rfl) ?_ _
    have hN0 : (0 : Int) < N := by have := HN.out; omega
    have hN1 : (1 : Int) < N := by have := HN.out; omega
    have hN2 : (2 : Int) < N := by have := HN.out; omega
    have mg0 := made_get (.int .i64 0) N 0 (by omega)
    have mg1 := made_get (.int .i64 0) N 1 (by omega)
    have mg2 := made_get (.int .i64 0) N 2 (by omega)
    have hlt9 : cb < u9.heap.size := by omega
    obtain ⟨q0, q1, q2⟩ := three_cell r9
    go_wp2_with (fail)
    have hP0 : PS w cb u9.heap.size N (S : Int) (P : Int) l (cnt S P 0 0 0 0 0 0 0) (u9.alloc (.cells ((((madeCells #[.int .i64 0] N).setIfInBounds 0 (.int .i64 1)).setIfInBounds 1 (.int .i64 1)).setIfInBounds 2 (.int .i64 1)) 3)) :=
      ⟨range_below (below1 u9 _) r9 hlt9, (fk_start u9 N 3 (by omega)).congr (fun a _ => cnt_start S P a), B9.trans ((below1 u9 _).mono (by omega)), by simp; omega, by simp, by omega, hcb, by omega⟩
    generalize u9.alloc (.cells ((((madeCells #[.int .i64 0] N).setIfInBounds 0 (.int .i64 1)).setIfInBounds 1 (.int .i64 1)).setIfInBounds 2 (.int .i64 1)) 3) = W0 at *
    generalize u9.heap.size = nb at *
    have hNb : (N : Int) ≤ 1000 := by have := HN.out; omega
    clear hmk q0 q1 q2 r9 d9 B9 hsz hN0 hN1 hN2 hS mg0 mg1 mg2
    go_loopw [8] (fun t wr => ∃ k : Nat, k ≤ S ∧ t = .int .i64 k ∧ PS w cb nb N (S : Int) (P : Int) l (cnt S P k k 0 0 0 0 (k * 21)) wr) (fun t _ => S - (intOf t).toNat)
    case atStart => exact ⟨0, by omega, rfl, hP0⟩
    case round =>
      obtain ⟨k, hk1, rfl, hP⟩ := hrel
      clear hP0
      have hc0 : wr.cell? ⟨cb, 0, none⟩ = some (.int .i64 (S : Int)) := (three_cell hP.r).1
      have hc1 : wr.cell? ⟨cb, 1, none⟩ = some (.int .i64 (P : Int)) := (three_cell hP.r).2.1
      have hc2 : wr.cell? ⟨cb, 2, none⟩ = some (.int .i64 l) := (three_cell hP.r).2.2
      by_cases hlt : (k : Int) < (S : Int)
      · go_wp2_with (fail)
        clear hc0 hc1 hc2
        obtain ⟨A, hA, HA⟩ : ∃ A : Nat, addr (S : Int) (P : Int) l (S : Int) 1 3 (k : Int) = (A : Int) ∧ Hid (A = 3 + k) := ⟨3 + k, by rw [addr_in hok ⟨by omega, by omega⟩]; omega, rfl⟩
        have hAN : (A : Int) < N := by have := HA.out; have := HN.out; omega
        have hA0 : (0 : Int) ≤ (A : Int) := by omega
        have hcn := cnt_bd S P k k 0 0 0 0 (k * 21) A
        refine wp_region_held_drew (S := fun w' => w'.rangeAt cb 0 (ints [(S : Int), (P : Int), l])) (by kernel_rfl) hP.r (fun hS => ?_)
        refine takeH' (i := 0) (v := .slice (some ⟨nb, 0, none⟩) N N) (d := some 77) rfl rfl (by kernel_rfl) (by kernel_rfl) (by kernel_rfl) (fun _ _ _ h => h) (Or.inl ⟨by rfl, fun w' hw => ?_⟩) (by assumption) ?_
        · go_simp
        simp only [Act.put, List.setIfInBounds_toArray, List.set_cons_zero, List.set_cons_succ]
        refine takeH' (i := 1) (v := .agg #[.int .i64 (S : Int), .int .i64 (P : Int), .int .i64 l]) (d := some 78) rfl rfl (by kernel_rfl) (by kernel_rfl) (by kernel_rfl) (fun _ _ _ h => h) (Or.inl ⟨by rfl, fun w' hw => ?_⟩) (by assumption) ?_
        · obtain ⟨e0, e1, e2⟩ := three_cell hw; go_simp
        simp only [Act.put, List.setIfInBounds_toArray, List.set_cons_zero, List.set_cons_succ]
        refine takeH' (i := 2) (v := .int .i64 (k : Int)) (d := some 79) rfl rfl (by kernel_rfl) (by kernel_rfl) (by kernel_rfl) (fun _ _ _ h => h) (Or.inl ⟨by rfl, fun w' hw => ?_⟩) (by assumption) ?_
        · go_simp
        simp only [Act.put, List.setIfInBounds_toArray, List.set_cons_zero, List.set_cons_succ]
        refine takeH' (i := 4) (v := .slice (some ⟨nb, 0, none⟩) N N) (d := some 81) rfl rfl (by kernel_rfl) (by kernel_rfl) (by kernel_rfl) (fun _ _ _ h => h) (Or.inl ⟨by rfl, fun w' hw => ?_⟩) (by assumption) ?_
        · go_simp
        simp only [Act.put, List.setIfInBounds_toArray, List.set_cons_zero, List.set_cons_succ]
        refine takeH' (i := 5) (v := .agg #[.int .i64 (S : Int), .int .i64 (P : Int), .int .i64 l]) (d := some 82) rfl rfl (by kernel_rfl) (by kernel_rfl) (by kernel_rfl) (fun _ _ _ h => h) (Or.inl ⟨by rfl, fun w' hw => ?_⟩) (by assumption) ?_
        · obtain ⟨e0, e1, e2⟩ := three_cell hw; go_simp
        simp only [Act.put, List.setIfInBounds_toArray, List.set_cons_zero, List.set_cons_succ]
        refine takeH' (i := 6) (v := .int .i64 (k : Int)) (d := some 83) rfl rfl (by kernel_rfl) (by kernel_rfl) (by kernel_rfl) (fun _ _ _ h => h) (Or.inl ⟨by rfl, fun w' hw => ?_⟩) (by assumption) ?_
        · go_simp
        simp only [Act.put, List.setIfInBounds_toArray, List.set_cons_zero, List.set_cons_succ]
        refine wpAnyH_ready (rs := [3]) (by kernel_rfl) (by simp) ?_
        refine AllReadyH.cons rfl (fun K hK => ?_) AllReadyH.nil
        go_simp
        refine (reg_any (S : Int) (P : Int) l (k : Int) _).mono ?_
        rintro e v1 ⟨rfl, hb1⟩
        rw [hA]
        have hQ1 := (hP.drew).later hb1
        clear hb1
        go_wp2_with (fail)
        refine hK.out _ _ hQ1.r (fun hS => ?_)
        clear hK K
        refine wpAnyH_ready (rs := [7]) (by kernel_rfl) (by simp) ?_
        refine AllReadyH.cons rfl (fun K hK => ?_) AllReadyH.nil
        go_simp
        refine (reg_any (S : Int) (P : Int) l (k : Int) _).mono ?_
        rintro e v2 ⟨rfl, hb2⟩
        rw [hA]
        have hQ2 := (hQ1).later hb2
        clear hb2
        go_wp2_with (fail)
        refine hK.out _ _ hQ2.r (fun hS => ?_)
        clear hK K
        have c9 := hQ2.c A (by omega)
        refine takeH' (i := 8) (v := .pointer (some ⟨nb, A, none⟩)) (d := some 85) rfl rfl (by kernel_rfl) (by kernel_rfl) (by kernel_rfl) (fun _ _ _ h => h) (Or.inl ⟨by rfl, fun w' hw => ?_⟩) (by assumption) ?_
        · go_simp
        simp only [Act.put, List.setIfInBounds_toArray, List.set_cons_zero, List.set_cons_succ]
        refine wpAnyH_ready (rs := [9]) (by kernel_rfl) (by simp) ?_
        refine AllReadyH.cons rfl (fun K hK => ?_) AllReadyH.nil
        go_simp
        refine hK.out _ _ hQ2.r (fun hS => ?_)
        clear hK K
        refine takeH' (i := 10) (v := .int .i64 (cnt S P k k 0 0 0 0 (k * 21) A + 1)) (d := some 87) rfl rfl (by kernel_rfl) (by kernel_rfl) (by kernel_rfl) (fun _ _ _ h => h) (Or.inl ⟨by rfl, fun w' hw => ?_⟩) (by assumption) ?_
        · go_simp <;> (rw [IntKind.wrap_i64]; omega)
        simp only [Act.put, List.setIfInBounds_toArray, List.set_cons_zero, List.set_cons_succ]
        refine takeH' (i := 11) (v := .pointer (some ⟨nb, A, none⟩)) (d := some 88) rfl rfl (by kernel_rfl) (by kernel_rfl) (by kernel_rfl) (fun _ _ _ h => h) (Or.inl ⟨by rfl, fun w' hw => ?_⟩) (by assumption) ?_
        · go_simp
        simp only [Act.put, List.setIfInBounds_toArray, List.set_cons_zero, List.set_cons_succ]
        refine wpAnyH_ready (rs := [12]) (by kernel_rfl) (by simp) ?_
        refine AllReadyH.cons rfl (fun K hK => ?_) AllReadyH.nil
        go_simp
        have hP1 := hQ2.bump A (cnt S P (k + 1) k 0 0 0 0 (k * 21)) (by rw [HA.out]; exact (fun a => cnt_r S P k k 0 0 0 0 (k * 21) a))
        refine hK.out _ _ hP1.r (fun hS => ?_)
        clear hK K
        refine wpAnyH_done (by kernel_rfl) ?_ _
        clear hQ1 hQ2 c9 hcn hAN hA hA0 HA hS
        go_wp2_with (fail)
        obtain ⟨A, hA, HA⟩ : ∃ A : Nat, addr (S : Int) (P : Int) l (S : Int) 1 (3 + (S : Int)) (k : Int) = (A : Int) ∧ Hid (A = 3 + S + k) := ⟨3 + S + k, by rw [addr_in hok ⟨by omega, by omega⟩]; omega, rfl⟩
        have hAN : (A : Int) < N := by have := HA.out; have := HN.out; omega
        have hA0 : (0 : Int) ≤ (A : Int) := by omega
        have hcn := cnt_bd S P (k + 1) k 0 0 0 0 (k * 21) A
        refine wp_region_held_drew (S := fun w' => w'.rangeAt cb 0 (ints [(S : Int), (P : Int), l])) (by kernel_rfl) hP1.r (fun hS => ?_)
        refine takeH' (i := 0) (v := .slice (some ⟨nb, 0, none⟩) N N) (d := some 89) rfl rfl (by kernel_rfl) (by kernel_rfl) (by kernel_rfl) (fun _ _ _ h => h) (Or.inl ⟨by rfl, fun w' hw => ?_⟩) (by assumption) ?_
        · go_simp
        simp only [Act.put, List.setIfInBounds_toArray, List.set_cons_zero, List.set_cons_succ]
        refine takeH' (i := 1) (v := .agg #[.int .i64 (S : Int), .int .i64 (P : Int), .int .i64 l]) (d := some 90) rfl rfl (by kernel_rfl) (by kernel_rfl) (by kernel_rfl) (fun _ _ _ h => h) (Or.inl ⟨by rfl, fun w' hw => ?_⟩) (by assumption) ?_
        · obtain ⟨e0, e1, e2⟩ := three_cell hw; go_simp
        simp only [Act.put, List.setIfInBounds_toArray, List.set_cons_zero, List.set_cons_succ]
        refine takeH' (i := 2) (v := .int .i64 (k : Int)) (d := some 91) rfl rfl (by kernel_rfl) (by kernel_rfl) (by kernel_rfl) (fun _ _ _ h => h) (Or.inl ⟨by rfl, fun w' hw => ?_⟩) (by assumption) ?_
        · go_simp
        simp only [Act.put, List.setIfInBounds_toArray, List.set_cons_zero, List.set_cons_succ]
        refine takeH' (i := 4) (v := .slice (some ⟨nb, 0, none⟩) N N) (d := some 93) rfl rfl (by kernel_rfl) (by kernel_rfl) (by kernel_rfl) (fun _ _ _ h => h) (Or.inl ⟨by rfl, fun w' hw => ?_⟩) (by assumption) ?_
        · go_simp
        simp only [Act.put, List.setIfInBounds_toArray, List.set_cons_zero, List.set_cons_succ]
        refine takeH' (i := 5) (v := .agg #[.int .i64 (S : Int), .int .i64 (P : Int), .int .i64 l]) (d := some 94) rfl rfl (by kernel_rfl) (by kernel_rfl) (by kernel_rfl) (fun _ _ _ h => h) (Or.inl ⟨by rfl, fun w' hw => ?_⟩) (by assumption) ?_
        · obtain ⟨e0, e1, e2⟩ := three_cell hw; go_simp
        simp only [Act.put, List.setIfInBounds_toArray, List.set_cons_zero, List.set_cons_succ]
        refine takeH' (i := 6) (v := .int .i64 (k : Int)) (d := some 95) rfl rfl (by kernel_rfl) (by kernel_rfl) (by kernel_rfl) (fun _ _ _ h => h) (Or.inl ⟨by rfl, fun w' hw => ?_⟩) (by assumption) ?_
        · go_simp
        simp only [Act.put, List.setIfInBounds_toArray, List.set_cons_zero, List.set_cons_succ]
        refine wpAnyH_ready (rs := [3]) (by kernel_rfl) (by simp) ?_
        refine AllReadyH.cons rfl (fun K hK => ?_) AllReadyH.nil
        go_simp
        refine (beat_any (S : Int) (P : Int) l (k : Int) _).mono ?_
        rintro e v1 ⟨rfl, hb1⟩
        rw [hA]
        have hQ1 := (hP1.drew).later hb1
        clear hb1
        go_wp2_with (fail)
        refine hK.out _ _ hQ1.r (fun hS => ?_)
        clear hK K
        refine wpAnyH_ready (rs := [7]) (by kernel_rfl) (by simp) ?_
        refine AllReadyH.cons rfl (fun K hK => ?_) AllReadyH.nil
        go_simp
        refine (beat_any (S : Int) (P : Int) l (k : Int) _).mono ?_
        rintro e v2 ⟨rfl, hb2⟩
        rw [hA]
        have hQ2 := (hQ1).later hb2
        clear hb2
        go_wp2_with (fail)
        refine hK.out _ _ hQ2.r (fun hS => ?_)
        clear hK K
        have c9 := hQ2.c A (by omega)
        refine takeH' (i := 8) (v := .pointer (some ⟨nb, A, none⟩)) (d := some 97) rfl rfl (by kernel_rfl) (by kernel_rfl) (by kernel_rfl) (fun _ _ _ h => h) (Or.inl ⟨by rfl, fun w' hw => ?_⟩) (by assumption) ?_
        · go_simp
        simp only [Act.put, List.setIfInBounds_toArray, List.set_cons_zero, List.set_cons_succ]
        refine wpAnyH_ready (rs := [9]) (by kernel_rfl) (by simp) ?_
        refine AllReadyH.cons rfl (fun K hK => ?_) AllReadyH.nil
        go_simp
        refine hK.out _ _ hQ2.r (fun hS => ?_)
        clear hK K
        refine takeH' (i := 10) (v := .int .i64 (cnt S P (k + 1) k 0 0 0 0 (k * 21) A + 1)) (d := some 99) rfl rfl (by kernel_rfl) (by kernel_rfl) (by kernel_rfl) (fun _ _ _ h => h) (Or.inl ⟨by rfl, fun w' hw => ?_⟩) (by assumption) ?_
        · go_simp <;> (rw [IntKind.wrap_i64]; omega)
        simp only [Act.put, List.setIfInBounds_toArray, List.set_cons_zero, List.set_cons_succ]
        refine takeH' (i := 11) (v := .pointer (some ⟨nb, A, none⟩)) (d := some 100) rfl rfl (by kernel_rfl) (by kernel_rfl) (by kernel_rfl) (fun _ _ _ h => h) (Or.inl ⟨by rfl, fun w' hw => ?_⟩) (by assumption) ?_
        · go_simp
        simp only [Act.put, List.setIfInBounds_toArray, List.set_cons_zero, List.set_cons_succ]
        refine wpAnyH_ready (rs := [12]) (by kernel_rfl) (by simp) ?_
        refine AllReadyH.cons rfl (fun K hK => ?_) AllReadyH.nil
        go_simp
        have hP2 := hQ2.bump A (cnt S P (k + 1) (k + 1) 0 0 0 0 (k * 21)) (by rw [HA.out]; exact (fun a => cnt_b S P (k + 1) k 0 0 0 0 (k * 21) a))
        refine hK.out _ _ hP2.r (fun hS => ?_)
        clear hK K
        refine wpAnyH_done (by kernel_rfl) ?_ _
        clear hQ1 hQ2 c9 hcn hAN hA hA0 HA hS
        go_wp2_with (fail)
        go_loopw [9] (fun t wr => ∃ j : Nat, j ≤ 21 ∧ t = .int .i64 j ∧ PS w cb nb N (S : Int) (P : Int) l (cnt S P (k + 1) (k + 1) 0 0 0 0 (k * 21 + j)) wr) (fun t _ => 21 - (intOf t).toNat)
        case atStart => exact ⟨0, by omega, rfl, hP2⟩
        case round =>
          obtain ⟨j, hj1, rfl, hP3⟩ := hrel
          clear hP hP1 hP2
          by_cases hj : (j : Int) ≤ 20
          · go_wp2_with (fail)
            obtain ⟨A, hA, HA⟩ : ∃ A : Nat, addr (S : Int) (P : Int) l (S : Int) 21 (3 + (S : Int) + (S : Int) + 4 + (P : Int) + (P : Int) * 8 + (P : Int) * 8) (k : Int) = (A : Int) ∧ Hid (A = 3 + S + S + 4 + P + P * 8 + P * 8 + k * 21) := ⟨3 + S + S + 4 + P + P * 8 + P * 8 + k * 21, by rw [addr_in hok ⟨by omega, by omega⟩]; omega, rfl⟩
            obtain ⟨A', hA', HA'⟩ : ∃ A' : Nat, (A : Int) + (j : Int) = (A' : Int) ∧ Hid (A' = A + j) := ⟨A + j, by omega, rfl⟩
            have hAN : (A' : Int) < N := by have := HA.out; have := HA'.out; have := HN.out; omega
            have hA0 : (0 : Int) ≤ (A' : Int) := by omega
            have hcn := cnt_bd S P (k + 1) (k + 1) 0 0 0 0 (k * 21 + j) A'
            refine wp_region_held_drew (S := fun w' => w'.rangeAt cb 0 (ints [(S : Int), (P : Int), l])) (by kernel_rfl) hP3.r (fun hS => ?_)
            refine takeH' (i := 0) (v := .slice (some ⟨nb, 0, none⟩) N N) (d := some 105) rfl rfl (by kernel_rfl) (by kernel_rfl) (by kernel_rfl) (fun _ _ _ h => h) (Or.inl ⟨by rfl, fun w' hw => ?_⟩) (by assumption) ?_
            · go_simp
            simp only [Act.put, List.setIfInBounds_toArray, List.set_cons_zero, List.set_cons_succ]
            refine takeH' (i := 1) (v := .agg #[.int .i64 (S : Int), .int .i64 (P : Int), .int .i64 l]) (d := some 106) rfl rfl (by kernel_rfl) (by kernel_rfl) (by kernel_rfl) (fun _ _ _ h => h) (Or.inl ⟨by rfl, fun w' hw => ?_⟩) (by assumption) ?_
            · obtain ⟨e0, e1, e2⟩ := three_cell hw; go_simp
            simp only [Act.put, List.setIfInBounds_toArray, List.set_cons_zero, List.set_cons_succ]
            refine takeH' (i := 2) (v := .int .i64 (k : Int)) (d := some 107) rfl rfl (by kernel_rfl) (by kernel_rfl) (by kernel_rfl) (fun _ _ _ h => h) (Or.inl ⟨by rfl, fun w' hw => ?_⟩) (by assumption) ?_
            · go_simp
            simp only [Act.put, List.setIfInBounds_toArray, List.set_cons_zero, List.set_cons_succ]
            refine takeH' (i := 4) (v := .int .i64 (j : Int)) (d := some 109) rfl rfl (by kernel_rfl) (by kernel_rfl) (by kernel_rfl) (fun _ _ _ h => h) (Or.inl ⟨by rfl, fun w' hw => ?_⟩) (by assumption) ?_
            · go_simp
            simp only [Act.put, List.setIfInBounds_toArray, List.set_cons_zero, List.set_cons_succ]
            refine takeH' (i := 6) (v := .slice (some ⟨nb, 0, none⟩) N N) (d := some 111) rfl rfl (by kernel_rfl) (by kernel_rfl) (by kernel_rfl) (fun _ _ _ h => h) (Or.inl ⟨by rfl, fun w' hw => ?_⟩) (by assumption) ?_
            · go_simp
            simp only [Act.put, List.setIfInBounds_toArray, List.set_cons_zero, List.set_cons_succ]
            refine takeH' (i := 7) (v := .agg #[.int .i64 (S : Int), .int .i64 (P : Int), .int .i64 l]) (d := some 112) rfl rfl (by kernel_rfl) (by kernel_rfl) (by kernel_rfl) (fun _ _ _ h => h) (Or.inl ⟨by rfl, fun w' hw => ?_⟩) (by assumption) ?_
            · obtain ⟨e0, e1, e2⟩ := three_cell hw; go_simp
            simp only [Act.put, List.setIfInBounds_toArray, List.set_cons_zero, List.set_cons_succ]
            refine takeH' (i := 8) (v := .int .i64 (k : Int)) (d := some 113) rfl rfl (by kernel_rfl) (by kernel_rfl) (by kernel_rfl) (fun _ _ _ h => h) (Or.inl ⟨by rfl, fun w' hw => ?_⟩) (by assumption) ?_
            · go_simp
            simp only [Act.put, List.setIfInBounds_toArray, List.set_cons_zero, List.set_cons_succ]
            refine takeH' (i := 10) (v := .int .i64 (j : Int)) (d := some 115) rfl rfl (by kernel_rfl) (by kernel_rfl) (by kernel_rfl) (fun _ _ _ h => h) (Or.inl ⟨by rfl, fun w' hw => ?_⟩) (by assumption) ?_
            · go_simp
            simp only [Act.put, List.setIfInBounds_toArray, List.set_cons_zero, List.set_cons_succ]
            refine wpAnyH_ready (rs := [3]) (by kernel_rfl) (by simp) ?_
            refine AllReadyH.cons rfl (fun K hK => ?_) AllReadyH.nil
            go_simp
            refine (desk_any (S : Int) (P : Int) l (k : Int) _).mono ?_
            rintro e v1 ⟨rfl, hb1⟩
            rw [hA]
            have hQ1 := (hP3.drew).later hb1
            clear hb1
            go_wp2_with (fail)
            refine hK.out _ _ hQ1.r (fun hS => ?_)
            clear hK K
            refine takeH' (i := 5) (v := .int .i64 (A' : Int)) (d := some 110) rfl rfl (by kernel_rfl) (by kernel_rfl) (by kernel_rfl) (fun _ _ _ h => h) (Or.inl ⟨by rfl, fun w' hw => ?_⟩) (by assumption) ?_
            · go_simp <;> (rw [IntKind.wrap_i64]; omega)
            simp only [Act.put, List.setIfInBounds_toArray, List.set_cons_zero, List.set_cons_succ]
            refine wpAnyH_ready (rs := [9]) (by kernel_rfl) (by simp) ?_
            refine AllReadyH.cons rfl (fun K hK => ?_) AllReadyH.nil
            go_simp
            refine (desk_any (S : Int) (P : Int) l (k : Int) _).mono ?_
            rintro e v2 ⟨rfl, hb2⟩
            rw [hA]
            have hQ2 := (hQ1).later hb2
            clear hb2
            go_wp2_with (fail)
            refine hK.out _ _ hQ2.r (fun hS => ?_)
            clear hK K
            have c9 := hQ2.c A' (by omega)
            refine takeH' (i := 11) (v := .int .i64 (A' : Int)) (d := some 116) rfl rfl (by kernel_rfl) (by kernel_rfl) (by kernel_rfl) (fun _ _ _ h => h) (Or.inl ⟨by rfl, fun w' hw => ?_⟩) (by assumption) ?_
            · go_simp <;> (rw [IntKind.wrap_i64]; omega)
            simp only [Act.put, List.setIfInBounds_toArray, List.set_cons_zero, List.set_cons_succ]
            refine takeH' (i := 12) (v := .pointer (some ⟨nb, A', none⟩)) (d := some 117) rfl rfl (by kernel_rfl) (by kernel_rfl) (by kernel_rfl) (fun _ _ _ h => h) (Or.inl ⟨by rfl, fun w' hw => ?_⟩) (by assumption) ?_
            · go_simp
            simp only [Act.put, List.setIfInBounds_toArray, List.set_cons_zero, List.set_cons_succ]
            refine wpAnyH_ready (rs := [13]) (by kernel_rfl) (by simp) ?_
            refine AllReadyH.cons rfl (fun K hK => ?_) AllReadyH.nil
            go_simp
            refine hK.out _ _ hQ2.r (fun hS => ?_)
            clear hK K
            refine takeH' (i := 14) (v := .int .i64 (cnt S P (k + 1) (k + 1) 0 0 0 0 (k * 21 + j) A' + 1)) (d := some 119) rfl rfl (by kernel_rfl) (by kernel_rfl) (by kernel_rfl) (fun _ _ _ h => h) (Or.inl ⟨by rfl, fun w' hw => ?_⟩) (by assumption) ?_
            · go_simp <;> (rw [IntKind.wrap_i64]; omega)
            simp only [Act.put, List.setIfInBounds_toArray, List.set_cons_zero, List.set_cons_succ]
            refine takeH' (i := 15) (v := .pointer (some ⟨nb, A', none⟩)) (d := some 120) rfl rfl (by kernel_rfl) (by kernel_rfl) (by kernel_rfl) (fun _ _ _ h => h) (Or.inl ⟨by rfl, fun w' hw => ?_⟩) (by assumption) ?_
            · go_simp
            simp only [Act.put, List.setIfInBounds_toArray, List.set_cons_zero, List.set_cons_succ]
            refine wpAnyH_ready (rs := [16]) (by kernel_rfl) (by simp) ?_
            refine AllReadyH.cons rfl (fun K hK => ?_) AllReadyH.nil
            go_simp
            have hP4 := hQ2.bump A' (cnt S P (k + 1) (k + 1) 0 0 0 0 (k * 21 + (j + 1))) (by rw [HA'.out, HA.out]; exact (fun a => by rw [Nat.add_assoc]; exact cnt_d S P (k + 1) (k + 1) 0 0 0 0 (k * 21 + j) a))
            refine hK.out _ _ hP4.r (fun hS => ?_)
            clear hK K
            refine wpAnyH_done (by kernel_rfl) ?_ _
            clear hQ1 hQ2 c9 hcn hAN hA hA0 HA hA' HA' hS
            go_wp2_with (fail)
            go_roundw
            case rel => exact ⟨j + 1, by omega, by go_num, hP4⟩
            case measure => simp [intOf]; omega
          · have ej : j = 21 := by omega
            subst ej
            go_wp2_with (fail)
            go_roundw
            case rel => exact ⟨k + 1, by omega, by go_num, by rw [Nat.succ_mul]; exact hP3⟩
            case measure => simp [intOf]; omega
      · have ek : k = S := by omega
        have hPa : PS w cb nb N (S : Int) (P : Int) l (cnt S P S S 0 0 0 0 (S * 21)) wr := by rw [ek] at hP; exact hP
        clear ek hP hk1
        go_wp2_with (fail)
        clear hc0 hc1 hc2
        go_loopw [10] (fun t wr => ∃ k : Nat, k ≤ 4 ∧ t = .int .i64 k ∧ PS w cb nb N (S : Int) (P : Int) l (cnt S P S S k 0 0 0 (S * 21)) wr) (fun t _ => 4 - (intOf t).toNat)
        case atStart => exact ⟨0, by omega, rfl, hPa⟩
        case round =>
          obtain ⟨k, hk1, rfl, hP⟩ := hrel
          clear hPa
          have hc0 : wr.cell? ⟨cb, 0, none⟩ = some (.int .i64 (S : Int)) := (three_cell hP.r).1
          have hc1 : wr.cell? ⟨cb, 1, none⟩ = some (.int .i64 (P : Int)) := (three_cell hP.r).2.1
          have hc2 : wr.cell? ⟨cb, 2, none⟩ = some (.int .i64 l) := (three_cell hP.r).2.2
          by_cases hlt : (k : Int) < 4
          · go_wp2_with (fail)
            clear hc0 hc1 hc2
            obtain ⟨A, hA, HA⟩ : ∃ A : Nat, addr (S : Int) (P : Int) l 4 1 (3 + (S : Int) + (S : Int)) (k : Int) = (A : Int) ∧ Hid (A = 3 + S + S + k) := ⟨3 + S + S + k, by rw [addr_in hok ⟨by omega, by omega⟩]; omega, rfl⟩
            have hAN : (A : Int) < N := by have := HA.out; have := HN.out; omega
            have hA0 : (0 : Int) ≤ (A : Int) := by omega
            have hcn := cnt_bd S P S S k 0 0 0 (S * 21) A
            refine wp_region_held_drew (S := fun w' => w'.rangeAt cb 0 (ints [(S : Int), (P : Int), l])) (by kernel_rfl) hP.r (fun hS => ?_)
            refine takeH' (i := 0) (v := .slice (some ⟨nb, 0, none⟩) N N) (d := some 125) rfl rfl (by kernel_rfl) (by kernel_rfl) (by kernel_rfl) (fun _ _ _ h => h) (Or.inl ⟨by rfl, fun w' hw => ?_⟩) (by assumption) ?_
            · go_simp
            simp only [Act.put, List.setIfInBounds_toArray, List.set_cons_zero, List.set_cons_succ]
            refine takeH' (i := 1) (v := .agg #[.int .i64 (S : Int), .int .i64 (P : Int), .int .i64 l]) (d := some 126) rfl rfl (by kernel_rfl) (by kernel_rfl) (by kernel_rfl) (fun _ _ _ h => h) (Or.inl ⟨by rfl, fun w' hw => ?_⟩) (by assumption) ?_
            · obtain ⟨e0, e1, e2⟩ := three_cell hw; go_simp
            simp only [Act.put, List.setIfInBounds_toArray, List.set_cons_zero, List.set_cons_succ]
            refine takeH' (i := 2) (v := .int .i64 (k : Int)) (d := some 127) rfl rfl (by kernel_rfl) (by kernel_rfl) (by kernel_rfl) (fun _ _ _ h => h) (Or.inl ⟨by rfl, fun w' hw => ?_⟩) (by assumption) ?_
            · go_simp
            simp only [Act.put, List.setIfInBounds_toArray, List.set_cons_zero, List.set_cons_succ]
            refine takeH' (i := 4) (v := .slice (some ⟨nb, 0, none⟩) N N) (d := some 129) rfl rfl (by kernel_rfl) (by kernel_rfl) (by kernel_rfl) (fun _ _ _ h => h) (Or.inl ⟨by rfl, fun w' hw => ?_⟩) (by assumption) ?_
            · go_simp
            simp only [Act.put, List.setIfInBounds_toArray, List.set_cons_zero, List.set_cons_succ]
            refine takeH' (i := 5) (v := .agg #[.int .i64 (S : Int), .int .i64 (P : Int), .int .i64 l]) (d := some 130) rfl rfl (by kernel_rfl) (by kernel_rfl) (by kernel_rfl) (fun _ _ _ h => h) (Or.inl ⟨by rfl, fun w' hw => ?_⟩) (by assumption) ?_
            · obtain ⟨e0, e1, e2⟩ := three_cell hw; go_simp
            simp only [Act.put, List.setIfInBounds_toArray, List.set_cons_zero, List.set_cons_succ]
            refine takeH' (i := 6) (v := .int .i64 (k : Int)) (d := some 131) rfl rfl (by kernel_rfl) (by kernel_rfl) (by kernel_rfl) (fun _ _ _ h => h) (Or.inl ⟨by rfl, fun w' hw => ?_⟩) (by assumption) ?_
            · go_simp
            simp only [Act.put, List.setIfInBounds_toArray, List.set_cons_zero, List.set_cons_succ]
            refine wpAnyH_ready (rs := [3]) (by kernel_rfl) (by simp) ?_
            refine AllReadyH.cons rfl (fun K hK => ?_) AllReadyH.nil
            go_simp
            refine (head_any (S : Int) (P : Int) l (k : Int) _).mono ?_
            rintro e v1 ⟨rfl, hb1⟩
            rw [hA]
            have hQ1 := (hP.drew).later hb1
            clear hb1
            go_wp2_with (fail)
            refine hK.out _ _ hQ1.r (fun hS => ?_)
            clear hK K
            refine wpAnyH_ready (rs := [7]) (by kernel_rfl) (by simp) ?_
            refine AllReadyH.cons rfl (fun K hK => ?_) AllReadyH.nil
            go_simp
            refine (head_any (S : Int) (P : Int) l (k : Int) _).mono ?_
            rintro e v2 ⟨rfl, hb2⟩
            rw [hA]
            have hQ2 := (hQ1).later hb2
            clear hb2
            go_wp2_with (fail)
            refine hK.out _ _ hQ2.r (fun hS => ?_)
            clear hK K
            have c9 := hQ2.c A (by omega)
            refine takeH' (i := 8) (v := .pointer (some ⟨nb, A, none⟩)) (d := some 133) rfl rfl (by kernel_rfl) (by kernel_rfl) (by kernel_rfl) (fun _ _ _ h => h) (Or.inl ⟨by rfl, fun w' hw => ?_⟩) (by assumption) ?_
            · go_simp
            simp only [Act.put, List.setIfInBounds_toArray, List.set_cons_zero, List.set_cons_succ]
            refine wpAnyH_ready (rs := [9]) (by kernel_rfl) (by simp) ?_
            refine AllReadyH.cons rfl (fun K hK => ?_) AllReadyH.nil
            go_simp
            refine hK.out _ _ hQ2.r (fun hS => ?_)
            clear hK K
            refine takeH' (i := 10) (v := .int .i64 (cnt S P S S k 0 0 0 (S * 21) A + 1)) (d := some 135) rfl rfl (by kernel_rfl) (by kernel_rfl) (by kernel_rfl) (fun _ _ _ h => h) (Or.inl ⟨by rfl, fun w' hw => ?_⟩) (by assumption) ?_
            · go_simp <;> (rw [IntKind.wrap_i64]; omega)
            simp only [Act.put, List.setIfInBounds_toArray, List.set_cons_zero, List.set_cons_succ]
            refine takeH' (i := 11) (v := .pointer (some ⟨nb, A, none⟩)) (d := some 136) rfl rfl (by kernel_rfl) (by kernel_rfl) (by kernel_rfl) (fun _ _ _ h => h) (Or.inl ⟨by rfl, fun w' hw => ?_⟩) (by assumption) ?_
            · go_simp
            simp only [Act.put, List.setIfInBounds_toArray, List.set_cons_zero, List.set_cons_succ]
            refine wpAnyH_ready (rs := [12]) (by kernel_rfl) (by simp) ?_
            refine AllReadyH.cons rfl (fun K hK => ?_) AllReadyH.nil
            go_simp
            have hP1 := hQ2.bump A (cnt S P S S (k + 1) 0 0 0 (S * 21)) (by rw [HA.out]; exact (fun a => cnt_h S P S S k 0 0 0 (S * 21) a))
            refine hK.out _ _ hP1.r (fun hS => ?_)
            clear hK K
            refine wpAnyH_done (by kernel_rfl) ?_ _
            clear hQ1 hQ2 c9 hcn hAN hA hA0 HA hS
            go_wp2_with (fail)
            go_roundw
            case rel => exact ⟨k + 1, by omega, by go_num, hP1⟩
            case measure => simp [intOf]; omega
          · have ek : k = 4 := by omega
            have hPb : PS w cb nb N (S : Int) (P : Int) l (cnt S P S S 4 0 0 0 (S * 21)) wr := by rw [ek] at hP; exact hP
            clear ek hP hk1
            go_wp2_with (fail)
            clear hc0 hc1 hc2 hlt
            go_loopw [11] (fun t wr => ∃ k : Nat, k ≤ P ∧ t = .int .i64 k ∧ PS w cb nb N (S : Int) (P : Int) l (cnt S P S S 4 k 0 0 (S * 21)) wr) (fun t _ => P - (intOf t).toNat)
            case atStart => exact ⟨0, by omega, rfl, hPb⟩
            case round =>
              obtain ⟨k, hk1, rfl, hP⟩ := hrel
              clear hPb
              have hc0 : wr.cell? ⟨cb, 0, none⟩ = some (.int .i64 (S : Int)) := (three_cell hP.r).1
              have hc1 : wr.cell? ⟨cb, 1, none⟩ = some (.int .i64 (P : Int)) := (three_cell hP.r).2.1
              have hc2 : wr.cell? ⟨cb, 2, none⟩ = some (.int .i64 l) := (three_cell hP.r).2.2
              by_cases hlt : (k : Int) < (P : Int)
              · go_wp2_with (fail)
                clear hc0 hc1 hc2
                obtain ⟨A, hA, HA⟩ : ∃ A : Nat, addr (S : Int) (P : Int) l (P : Int) 1 (3 + (S : Int) + (S : Int) + 4) (k : Int) = (A : Int) ∧ Hid (A = 3 + S + S + 4 + k) := ⟨3 + S + S + 4 + k, by rw [addr_in hok ⟨by omega, by omega⟩]; omega, rfl⟩
                have hAN : (A : Int) < N := by have := HA.out; have := HN.out; omega
                have hA0 : (0 : Int) ≤ (A : Int) := by omega
                have hcn := cnt_bd S P S S 4 k 0 0 (S * 21) A
                refine wp_region_held_drew (S := fun w' => w'.rangeAt cb 0 (ints [(S : Int), (P : Int), l])) (by kernel_rfl) hP.r (fun hS => ?_)
                refine takeH' (i := 0) (v := .slice (some ⟨nb, 0, none⟩) N N) (d := some 143) rfl rfl (by kernel_rfl) (by kernel_rfl) (by kernel_rfl) (fun _ _ _ h => h) (Or.inl ⟨by rfl, fun w' hw => ?_⟩) (by assumption) ?_
                · go_simp
                simp only [Act.put, List.setIfInBounds_toArray, List.set_cons_zero, List.set_cons_succ]
                refine takeH' (i := 1) (v := .agg #[.int .i64 (S : Int), .int .i64 (P : Int), .int .i64 l]) (d := some 144) rfl rfl (by kernel_rfl) (by kernel_rfl) (by kernel_rfl) (fun _ _ _ h => h) (Or.inl ⟨by rfl, fun w' hw => ?_⟩) (by assumption) ?_
                · obtain ⟨e0, e1, e2⟩ := three_cell hw; go_simp
                simp only [Act.put, List.setIfInBounds_toArray, List.set_cons_zero, List.set_cons_succ]
                refine takeH' (i := 2) (v := .int .i64 (k : Int)) (d := some 145) rfl rfl (by kernel_rfl) (by kernel_rfl) (by kernel_rfl) (fun _ _ _ h => h) (Or.inl ⟨by rfl, fun w' hw => ?_⟩) (by assumption) ?_
                · go_simp
                simp only [Act.put, List.setIfInBounds_toArray, List.set_cons_zero, List.set_cons_succ]
                refine takeH' (i := 4) (v := .slice (some ⟨nb, 0, none⟩) N N) (d := some 147) rfl rfl (by kernel_rfl) (by kernel_rfl) (by kernel_rfl) (fun _ _ _ h => h) (Or.inl ⟨by rfl, fun w' hw => ?_⟩) (by assumption) ?_
                · go_simp
                simp only [Act.put, List.setIfInBounds_toArray, List.set_cons_zero, List.set_cons_succ]
                refine takeH' (i := 5) (v := .agg #[.int .i64 (S : Int), .int .i64 (P : Int), .int .i64 l]) (d := some 148) rfl rfl (by kernel_rfl) (by kernel_rfl) (by kernel_rfl) (fun _ _ _ h => h) (Or.inl ⟨by rfl, fun w' hw => ?_⟩) (by assumption) ?_
                · obtain ⟨e0, e1, e2⟩ := three_cell hw; go_simp
                simp only [Act.put, List.setIfInBounds_toArray, List.set_cons_zero, List.set_cons_succ]
                refine takeH' (i := 6) (v := .int .i64 (k : Int)) (d := some 149) rfl rfl (by kernel_rfl) (by kernel_rfl) (by kernel_rfl) (fun _ _ _ h => h) (Or.inl ⟨by rfl, fun w' hw => ?_⟩) (by assumption) ?_
                · go_simp
                simp only [Act.put, List.setIfInBounds_toArray, List.set_cons_zero, List.set_cons_succ]
                refine wpAnyH_ready (rs := [3]) (by kernel_rfl) (by simp) ?_
                refine AllReadyH.cons rfl (fun K hK => ?_) AllReadyH.nil
                go_simp
                refine (page_any (S : Int) (P : Int) l (k : Int) _).mono ?_
                rintro e v1 ⟨rfl, hb1⟩
                rw [hA]
                have hQ1 := (hP.drew).later hb1
                clear hb1
                go_wp2_with (fail)
                refine hK.out _ _ hQ1.r (fun hS => ?_)
                clear hK K
                refine wpAnyH_ready (rs := [7]) (by kernel_rfl) (by simp) ?_
                refine AllReadyH.cons rfl (fun K hK => ?_) AllReadyH.nil
                go_simp
                refine (page_any (S : Int) (P : Int) l (k : Int) _).mono ?_
                rintro e v2 ⟨rfl, hb2⟩
                rw [hA]
                have hQ2 := (hQ1).later hb2
                clear hb2
                go_wp2_with (fail)
                refine hK.out _ _ hQ2.r (fun hS => ?_)
                clear hK K
                have c9 := hQ2.c A (by omega)
                refine takeH' (i := 8) (v := .pointer (some ⟨nb, A, none⟩)) (d := some 151) rfl rfl (by kernel_rfl) (by kernel_rfl) (by kernel_rfl) (fun _ _ _ h => h) (Or.inl ⟨by rfl, fun w' hw => ?_⟩) (by assumption) ?_
                · go_simp
                simp only [Act.put, List.setIfInBounds_toArray, List.set_cons_zero, List.set_cons_succ]
                refine wpAnyH_ready (rs := [9]) (by kernel_rfl) (by simp) ?_
                refine AllReadyH.cons rfl (fun K hK => ?_) AllReadyH.nil
                go_simp
                refine hK.out _ _ hQ2.r (fun hS => ?_)
                clear hK K
                refine takeH' (i := 10) (v := .int .i64 (cnt S P S S 4 k 0 0 (S * 21) A + 1)) (d := some 153) rfl rfl (by kernel_rfl) (by kernel_rfl) (by kernel_rfl) (fun _ _ _ h => h) (Or.inl ⟨by rfl, fun w' hw => ?_⟩) (by assumption) ?_
                · go_simp <;> (rw [IntKind.wrap_i64]; omega)
                simp only [Act.put, List.setIfInBounds_toArray, List.set_cons_zero, List.set_cons_succ]
                refine takeH' (i := 11) (v := .pointer (some ⟨nb, A, none⟩)) (d := some 154) rfl rfl (by kernel_rfl) (by kernel_rfl) (by kernel_rfl) (fun _ _ _ h => h) (Or.inl ⟨by rfl, fun w' hw => ?_⟩) (by assumption) ?_
                · go_simp
                simp only [Act.put, List.setIfInBounds_toArray, List.set_cons_zero, List.set_cons_succ]
                refine wpAnyH_ready (rs := [12]) (by kernel_rfl) (by simp) ?_
                refine AllReadyH.cons rfl (fun K hK => ?_) AllReadyH.nil
                go_simp
                have hP1 := hQ2.bump A (cnt S P S S 4 (k + 1) 0 0 (S * 21)) (by rw [HA.out]; exact (fun a => cnt_g S P S S 4 k 0 0 (S * 21) a))
                refine hK.out _ _ hP1.r (fun hS => ?_)
                clear hK K
                refine wpAnyH_done (by kernel_rfl) ?_ _
                clear hQ1 hQ2 c9 hcn hAN hA hA0 HA hS
                go_wp2_with (fail)
                go_roundw
                case rel => exact ⟨k + 1, by omega, by go_num, hP1⟩
                case measure => simp [intOf]; omega
              · have ek : k = P := by omega
                have hPc : PS w cb nb N (S : Int) (P : Int) l (cnt S P S S 4 P 0 0 (S * 21)) wr := by rw [ek] at hP; exact hP
                clear ek hP hk1
                go_wp2_with (fail)
                clear hc0 hc1 hc2 hlt
                go_loopw [12] (fun t wr => ∃ k : Nat, k ≤ P * 8 ∧ t = .int .i64 k ∧ PS w cb nb N (S : Int) (P : Int) l (cnt S P S S 4 P k k (S * 21)) wr) (fun t _ => P * 8 - (intOf t).toNat)
                case atStart => exact ⟨0, by omega, rfl, hPc⟩
                case round =>
                  obtain ⟨k, hk1, rfl, hP⟩ := hrel
                  clear hPc
                  have hc0 : wr.cell? ⟨cb, 0, none⟩ = some (.int .i64 (S : Int)) := (three_cell hP.r).1
                  have hc1 : wr.cell? ⟨cb, 1, none⟩ = some (.int .i64 (P : Int)) := (three_cell hP.r).2.1
                  have hc2 : wr.cell? ⟨cb, 2, none⟩ = some (.int .i64 l) := (three_cell hP.r).2.2
                  by_cases hlt : (k : Int) < (P : Int) * 8
                  · go_wp2_with (fail)
                    clear hc0 hc1 hc2
                    obtain ⟨A, hA, HA⟩ : ∃ A : Nat, addr (S : Int) (P : Int) l ((P : Int) * 8) 1 (3 + (S : Int) + (S : Int) + 4 + (P : Int)) (k : Int) = (A : Int) ∧ Hid (A = 3 + S + S + 4 + P + k) := ⟨3 + S + S + 4 + P + k, by rw [addr_in hok ⟨by omega, by omega⟩]; omega, rfl⟩
                    have hAN : (A : Int) < N := by have := HA.out; have := HN.out; omega
                    have hA0 : (0 : Int) ≤ (A : Int) := by omega
                    have hcn := cnt_bd S P S S 4 P k k (S * 21) A
                    refine wp_region_held_drew (S := fun w' => w'.rangeAt cb 0 (ints [(S : Int), (P : Int), l])) (by kernel_rfl) hP.r (fun hS => ?_)
                    refine takeH' (i := 0) (v := .slice (some ⟨nb, 0, none⟩) N N) (d := some 162) rfl rfl (by kernel_rfl) (by kernel_rfl) (by kernel_rfl) (fun _ _ _ h => h) (Or.inl ⟨by rfl, fun w' hw => ?_⟩) (by assumption) ?_
                    · go_simp
                    simp only [Act.put, List.setIfInBounds_toArray, List.set_cons_zero, List.set_cons_succ]
                    refine takeH' (i := 1) (v := .agg #[.int .i64 (S : Int), .int .i64 (P : Int), .int .i64 l]) (d := some 163) rfl rfl (by kernel_rfl) (by kernel_rfl) (by kernel_rfl) (fun _ _ _ h => h) (Or.inl ⟨by rfl, fun w' hw => ?_⟩) (by assumption) ?_
                    · obtain ⟨e0, e1, e2⟩ := three_cell hw; go_simp
                    simp only [Act.put, List.setIfInBounds_toArray, List.set_cons_zero, List.set_cons_succ]
                    refine takeH' (i := 2) (v := .int .i64 (k : Int)) (d := some 164) rfl rfl (by kernel_rfl) (by kernel_rfl) (by kernel_rfl) (fun _ _ _ h => h) (Or.inl ⟨by rfl, fun w' hw => ?_⟩) (by assumption) ?_
                    · go_simp
                    simp only [Act.put, List.setIfInBounds_toArray, List.set_cons_zero, List.set_cons_succ]
                    refine takeH' (i := 4) (v := .slice (some ⟨nb, 0, none⟩) N N) (d := some 166) rfl rfl (by kernel_rfl) (by kernel_rfl) (by kernel_rfl) (fun _ _ _ h => h) (Or.inl ⟨by rfl, fun w' hw => ?_⟩) (by assumption) ?_
                    · go_simp
                    simp only [Act.put, List.setIfInBounds_toArray, List.set_cons_zero, List.set_cons_succ]
                    refine takeH' (i := 5) (v := .agg #[.int .i64 (S : Int), .int .i64 (P : Int), .int .i64 l]) (d := some 167) rfl rfl (by kernel_rfl) (by kernel_rfl) (by kernel_rfl) (fun _ _ _ h => h) (Or.inl ⟨by rfl, fun w' hw => ?_⟩) (by assumption) ?_
                    · obtain ⟨e0, e1, e2⟩ := three_cell hw; go_simp
                    simp only [Act.put, List.setIfInBounds_toArray, List.set_cons_zero, List.set_cons_succ]
                    refine takeH' (i := 6) (v := .int .i64 (k : Int)) (d := some 168) rfl rfl (by kernel_rfl) (by kernel_rfl) (by kernel_rfl) (fun _ _ _ h => h) (Or.inl ⟨by rfl, fun w' hw => ?_⟩) (by assumption) ?_
                    · go_simp
                    simp only [Act.put, List.setIfInBounds_toArray, List.set_cons_zero, List.set_cons_succ]
                    refine wpAnyH_ready (rs := [3]) (by kernel_rfl) (by simp) ?_
                    refine AllReadyH.cons rfl (fun K hK => ?_) AllReadyH.nil
                    go_simp
                    refine (tag_any (S : Int) (P : Int) l (k : Int) _).mono ?_
                    rintro e v1 ⟨rfl, hb1⟩
                    rw [hA]
                    have hQ1 := (hP.drew).later hb1
                    clear hb1
                    go_wp2_with (fail)
                    refine hK.out _ _ hQ1.r (fun hS => ?_)
                    clear hK K
                    refine wpAnyH_ready (rs := [7]) (by kernel_rfl) (by simp) ?_
                    refine AllReadyH.cons rfl (fun K hK => ?_) AllReadyH.nil
                    go_simp
                    refine (tag_any (S : Int) (P : Int) l (k : Int) _).mono ?_
                    rintro e v2 ⟨rfl, hb2⟩
                    rw [hA]
                    have hQ2 := (hQ1).later hb2
                    clear hb2
                    go_wp2_with (fail)
                    refine hK.out _ _ hQ2.r (fun hS => ?_)
                    clear hK K
                    have c9 := hQ2.c A (by omega)
                    refine takeH' (i := 8) (v := .pointer (some ⟨nb, A, none⟩)) (d := some 170) rfl rfl (by kernel_rfl) (by kernel_rfl) (by kernel_rfl) (fun _ _ _ h => h) (Or.inl ⟨by rfl, fun w' hw => ?_⟩) (by assumption) ?_
                    · go_simp
                    simp only [Act.put, List.setIfInBounds_toArray, List.set_cons_zero, List.set_cons_succ]
                    refine wpAnyH_ready (rs := [9]) (by kernel_rfl) (by simp) ?_
                    refine AllReadyH.cons rfl (fun K hK => ?_) AllReadyH.nil
                    go_simp
                    refine hK.out _ _ hQ2.r (fun hS => ?_)
                    clear hK K
                    refine takeH' (i := 10) (v := .int .i64 (cnt S P S S 4 P k k (S * 21) A + 1)) (d := some 172) rfl rfl (by kernel_rfl) (by kernel_rfl) (by kernel_rfl) (fun _ _ _ h => h) (Or.inl ⟨by rfl, fun w' hw => ?_⟩) (by assumption) ?_
                    · go_simp <;> (rw [IntKind.wrap_i64]; omega)
                    simp only [Act.put, List.setIfInBounds_toArray, List.set_cons_zero, List.set_cons_succ]
                    refine takeH' (i := 11) (v := .pointer (some ⟨nb, A, none⟩)) (d := some 173) rfl rfl (by kernel_rfl) (by kernel_rfl) (by kernel_rfl) (fun _ _ _ h => h) (Or.inl ⟨by rfl, fun w' hw => ?_⟩) (by assumption) ?_
                    · go_simp
                    simp only [Act.put, List.setIfInBounds_toArray, List.set_cons_zero, List.set_cons_succ]
                    refine wpAnyH_ready (rs := [12]) (by kernel_rfl) (by simp) ?_
                    refine AllReadyH.cons rfl (fun K hK => ?_) AllReadyH.nil
                    go_simp
                    have hP1 := hQ2.bump A (cnt S P S S 4 P (k + 1) k (S * 21)) (by rw [HA.out]; exact (fun a => cnt_t S P S S 4 P k k (S * 21) a))
                    refine hK.out _ _ hP1.r (fun hS => ?_)
                    clear hK K
                    refine wpAnyH_done (by kernel_rfl) ?_ _
                    clear hQ1 hQ2 c9 hcn hAN hA hA0 HA hS
                    go_wp2_with (fail)
                    obtain ⟨A, hA, HA⟩ : ∃ A : Nat, addr (S : Int) (P : Int) l ((P : Int) * 8) 1 (3 + (S : Int) + (S : Int) + 4 + (P : Int) + (P : Int) * 8) (k : Int) = (A : Int) ∧ Hid (A = 3 + S + S + 4 + P + P * 8 + k) := ⟨3 + S + S + 4 + P + P * 8 + k, by rw [addr_in hok ⟨by omega, by omega⟩]; omega, rfl⟩
                    have hAN : (A : Int) < N := by have := HA.out; have := HN.out; omega
                    have hA0 : (0 : Int) ≤ (A : Int) := by omega
                    have hcn := cnt_bd S P S S 4 P (k + 1) k (S * 21) A
                    refine wp_region_held_drew (S := fun w' => w'.rangeAt cb 0 (ints [(S : Int), (P : Int), l])) (by kernel_rfl) hP1.r (fun hS => ?_)
                    refine takeH' (i := 0) (v := .slice (some ⟨nb, 0, none⟩) N N) (d := some 174) rfl rfl (by kernel_rfl) (by kernel_rfl) (by kernel_rfl) (fun _ _ _ h => h) (Or.inl ⟨by rfl, fun w' hw => ?_⟩) (by assumption) ?_
                    · go_simp
                    simp only [Act.put, List.setIfInBounds_toArray, List.set_cons_zero, List.set_cons_succ]
                    refine takeH' (i := 1) (v := .agg #[.int .i64 (S : Int), .int .i64 (P : Int), .int .i64 l]) (d := some 175) rfl rfl (by kernel_rfl) (by kernel_rfl) (by kernel_rfl) (fun _ _ _ h => h) (Or.inl ⟨by rfl, fun w' hw => ?_⟩) (by assumption) ?_
                    · obtain ⟨e0, e1, e2⟩ := three_cell hw; go_simp
                    simp only [Act.put, List.setIfInBounds_toArray, List.set_cons_zero, List.set_cons_succ]
                    refine takeH' (i := 2) (v := .int .i64 (k : Int)) (d := some 176) rfl rfl (by kernel_rfl) (by kernel_rfl) (by kernel_rfl) (fun _ _ _ h => h) (Or.inl ⟨by rfl, fun w' hw => ?_⟩) (by assumption) ?_
                    · go_simp
                    simp only [Act.put, List.setIfInBounds_toArray, List.set_cons_zero, List.set_cons_succ]
                    refine takeH' (i := 4) (v := .slice (some ⟨nb, 0, none⟩) N N) (d := some 178) rfl rfl (by kernel_rfl) (by kernel_rfl) (by kernel_rfl) (fun _ _ _ h => h) (Or.inl ⟨by rfl, fun w' hw => ?_⟩) (by assumption) ?_
                    · go_simp
                    simp only [Act.put, List.setIfInBounds_toArray, List.set_cons_zero, List.set_cons_succ]
                    refine takeH' (i := 5) (v := .agg #[.int .i64 (S : Int), .int .i64 (P : Int), .int .i64 l]) (d := some 179) rfl rfl (by kernel_rfl) (by kernel_rfl) (by kernel_rfl) (fun _ _ _ h => h) (Or.inl ⟨by rfl, fun w' hw => ?_⟩) (by assumption) ?_
                    · obtain ⟨e0, e1, e2⟩ := three_cell hw; go_simp
                    simp only [Act.put, List.setIfInBounds_toArray, List.set_cons_zero, List.set_cons_succ]
                    refine takeH' (i := 6) (v := .int .i64 (k : Int)) (d := some 180) rfl rfl (by kernel_rfl) (by kernel_rfl) (by kernel_rfl) (fun _ _ _ h => h) (Or.inl ⟨by rfl, fun w' hw => ?_⟩) (by assumption) ?_
                    · go_simp
                    simp only [Act.put, List.setIfInBounds_toArray, List.set_cons_zero, List.set_cons_succ]
                    refine wpAnyH_ready (rs := [3]) (by kernel_rfl) (by simp) ?_
                    refine AllReadyH.cons rfl (fun K hK => ?_) AllReadyH.nil
                    go_simp
                    refine (link_any (S : Int) (P : Int) l (k : Int) _).mono ?_
                    rintro e v1 ⟨rfl, hb1⟩
                    rw [hA]
                    have hQ1 := (hP1.drew).later hb1
                    clear hb1
                    go_wp2_with (fail)
                    refine hK.out _ _ hQ1.r (fun hS => ?_)
                    clear hK K
                    refine wpAnyH_ready (rs := [7]) (by kernel_rfl) (by simp) ?_
                    refine AllReadyH.cons rfl (fun K hK => ?_) AllReadyH.nil
                    go_simp
                    refine (link_any (S : Int) (P : Int) l (k : Int) _).mono ?_
                    rintro e v2 ⟨rfl, hb2⟩
                    rw [hA]
                    have hQ2 := (hQ1).later hb2
                    clear hb2
                    go_wp2_with (fail)
                    refine hK.out _ _ hQ2.r (fun hS => ?_)
                    clear hK K
                    have c9 := hQ2.c A (by omega)
                    refine takeH' (i := 8) (v := .pointer (some ⟨nb, A, none⟩)) (d := some 182) rfl rfl (by kernel_rfl) (by kernel_rfl) (by kernel_rfl) (fun _ _ _ h => h) (Or.inl ⟨by rfl, fun w' hw => ?_⟩) (by assumption) ?_
                    · go_simp
                    simp only [Act.put, List.setIfInBounds_toArray, List.set_cons_zero, List.set_cons_succ]
                    refine wpAnyH_ready (rs := [9]) (by kernel_rfl) (by simp) ?_
                    refine AllReadyH.cons rfl (fun K hK => ?_) AllReadyH.nil
                    go_simp
                    refine hK.out _ _ hQ2.r (fun hS => ?_)
                    clear hK K
                    refine takeH' (i := 10) (v := .int .i64 (cnt S P S S 4 P (k + 1) k (S * 21) A + 1)) (d := some 184) rfl rfl (by kernel_rfl) (by kernel_rfl) (by kernel_rfl) (fun _ _ _ h => h) (Or.inl ⟨by rfl, fun w' hw => ?_⟩) (by assumption) ?_
                    · go_simp <;> (rw [IntKind.wrap_i64]; omega)
                    simp only [Act.put, List.setIfInBounds_toArray, List.set_cons_zero, List.set_cons_succ]
                    refine takeH' (i := 11) (v := .pointer (some ⟨nb, A, none⟩)) (d := some 185) rfl rfl (by kernel_rfl) (by kernel_rfl) (by kernel_rfl) (fun _ _ _ h => h) (Or.inl ⟨by rfl, fun w' hw => ?_⟩) (by assumption) ?_
                    · go_simp
                    simp only [Act.put, List.setIfInBounds_toArray, List.set_cons_zero, List.set_cons_succ]
                    refine wpAnyH_ready (rs := [12]) (by kernel_rfl) (by simp) ?_
                    refine AllReadyH.cons rfl (fun K hK => ?_) AllReadyH.nil
                    go_simp
                    have hP2 := hQ2.bump A (cnt S P S S 4 P (k + 1) (k + 1) (S * 21)) (by rw [HA.out]; exact (fun a => cnt_k S P S S 4 P (k + 1) k (S * 21) a))
                    refine hK.out _ _ hP2.r (fun hS => ?_)
                    clear hK K
                    refine wpAnyH_done (by kernel_rfl) ?_ _
                    clear hQ1 hQ2 c9 hcn hAN hA hA0 HA hS
                    go_wp2_with (fail)
                    go_roundw
                    case rel => exact ⟨k + 1, by omega, by go_num, hP2⟩
                    case measure => simp [intOf]; omega
                  · have ek : k = P * 8 := by omega
                    have hPd : PS w cb nb N (S : Int) (P : Int) l (fun _ => 1) wr := by
                      rw [ek] at hP; exact hP.congr (fun a ha => (cnt_full S P a (by have := HN.out; omega)).symm)
                    clear ek hP hk1
                    go_wp2_with (fail)
                    clear hc0 hc1 hc2 hlt
                    go_loop [13] (fun t => ∃ k : Nat, k ≤ N ∧ t = .int .i64 k) (fun t => N - (intOf t).toNat)
                    case atStart => exact ⟨0, by omega, rfl⟩
                    case round =>
                      obtain ⟨k, hk1, rfl⟩ := hrel
                      by_cases hlt : (k : Int) < N
                      · have c9 := (hPd.c k (by omega)).1
                        go_wp2_with (fail)
                        go_round
                        case rel => exact ⟨k + 1, by omega, by go_num⟩
                        case measure => simp [intOf]; omega
                      · obtain ⟨hc0, hc1, hc2⟩ := three_cell hPd.r
                        go_wp2_with (fail)
                        refine (tag_any (S : Int) (P : Int) l ((P : Int) * 8) _).mono ?_
                        rintro e v1 ⟨rfl, hb1⟩
                        rw [addr_out (.inr (by omega))]
                        have hPe := hPd.later hb1
                        clear hb1 hPd hc0 hc1 hc2
                        obtain ⟨hc0, hc1, hc2⟩ := three_cell hPe.r
                        go_wp2_with (fail)
                        refine (reg_any (S : Int) (P : Int) l (-1) _).mono ?_
                        rintro e v2 ⟨rfl, hb2⟩
                        rw [addr_out (.inl (by omega))]
                        have hPf := hPe.later hb2
                        go_wp2_with (fail)
                        go_ret
                        exact ⟨rfl, hPf.b⟩

set_option maxRecDepth 100000 in
theorem lifted (os : Os) (started : os.Started) (H : Type) (enc : TypeId × Value → H) :
    ReturnsInHanded {} Try.checked os 3 .any (Rows.fnPlatSpec.pre6 enc Try.prog Try.f3 Rows.fnPlatRow.domain false) (Rows.fnPlatSpec.post enc Try.prog Try.f3 false true false false) := by
  refine returnsInHanded_of_change (C := Try.checked) own started (by kernel_rfl) Try.func3
    (ChangeSpec.witness6 (enc := enc) (C := Try.checked) false ⟨#[], #[.slice none 0 0], []⟩ 8 (by kernel_rfl) (by kernel_rfl) (by kernel_rfl) (by kernel_rfl)) ?_
  intro W base args ds gs before hval0 hW hcnd _
  have hval : ∀ (j : Nat) t v, Try.f3.params[j]? = some t → args[j]? = some v → Value.okWide Try.prog W .any base t v := hval0
  have hW' := hW
  obtain ⟨p, q, hA0, hV, rfl, hfz, hnd⟩ := hW
  have hA : DataW.TrodAll enc Try.prog W 0 (fun _ => true) true Try.f3.params.toList args.toList ds p := hA0
  rw [Try.params3] at hA hval
  obtain ⟨v0, vs0, d0, ds0, p0, q0, hargs, rfl, rfl, h0, r0⟩ := trodAll_cons hA
  obtain ⟨rfl, rfl, rfl⟩ := trodAll_nil r0
  obtain rfl : args = #[v0] := by cases args; simp_all
  obtain ⟨rfl, rfl⟩ := trodVars_none hV
  obtain ⟨a0, len0, cap0, rfl⟩ := okWide_slice Try.underlying22 (hval 0 22 v0 rfl rfl)
  have k0 := h0
  have lt0 : ∀ x ∈ p0, x.block < W.heap.size := by obtain ⟨m, hm⟩ := k0; exact DataW.trod_lt m _ _ _ hm
  obtain ⟨z0, w0⟩ : ∃ zs, IsRow .u8 W a0 len0 cap0 zs := by
    obtain ⟨fuel, hf⟩ := h0
    rcases open_ints Try.underlying22 Try.underlying5 (by kernel_rfl) hf with ⟨hcs, _⟩ | ⟨x, l, c, zs, hcs, _, hl, hm, hz, _, hcell, hwz⟩
    · simp [Value.cells] at hcs
      obtain ⟨rfl, rfl, rfl⟩ := hcs
      exact ⟨[], .inl ⟨rfl, rfl, rfl, rfl⟩⟩
    · simp [Value.cells] at hcs
      obtain ⟨rfl, rfl, rfl⟩ := hcs
      exact ⟨zs, .inr ⟨_, rfl, hl, hm, by simpa using hz, hcell, hwz⟩⟩
  clear hA0 hval0
  refine (walk a0 len0 cap0 z0 W w0).mono fun e W' ⟨he, bel⟩ => ?_
  subst he
  exact ⟨_, rfl, _, _, _, [], _, [], hW', trodAll_mk1 (shut_bool Try.underlying4 _), (trodAll_cons_mk (Below.trod laidOut (by kernel_rfl) (of_decide_eq_true (by kernel_rfl)) k0 bel lt0) trodAll_mk0), rfl, bel.frame _, fun h => by cases h⟩

theorem over : Rows.fnPlatRow.holds Try.pinned (OpenSpec.ofChange Rows.fnPlatSpec) :=
  OpenClaim.holds_of_wide 3 Try.f3 rfl rfl rfl rfl rfl rfl rfl ⟨rfl, rfl, rfl, rfl, rfl⟩ rfl rfl rfl rfl rfl (by kernel_rfl) Try.func3 (by kernel_rfl)
    (of_decide_eq_true (by kernel_rfl)) (by unfold Func.isWrapper; first | (rw [if_pos (by decide +kernel)]; kernel_rfl) | (rw [if_neg (by decide +kernel)]; exact ⟨rfl, rfl⟩))
    (fun os started H enc _ => lifted os started H enc)

end Go.Proofs.Ytfijhclocncplaa.fnPlat
namespace Go.Proofs.Ytfijhclocncplaa
theorem fnPlat_holds : Rows.FnPlatSaid := fnPlat.over
#print axioms fnPlat_holds
end Go.Proofs.Ytfijhclocncplaa

import Derived.Test.YtbeamigbcfkjjaaGreatDoorM26
import Derived.Test.YtbeamigbcfkjjaaGreatDoorM28
import Derived.Test.YtbeamigbcfkjjaaGreatDoorCpy2
import Derived.Test.YtbeamigbcfkjjaaGreatDoorM24
import Derived.Test.YtbeamigbcfkjjaaGreatDoorCpy3
import Derived.Test.YtbeamigbcfkjjaaGreatDoorM11
import Derived.Test.YtbeamigbcfkjjaaGreatDoorM12
import Derived.Test.YtbeamigbcfkjjaaGreatDoorM8

/- A call of a book of one's own, by the specification. -/
namespace Go.Proofs.YtbeamigbcfkjjaaGreatDoor.Book
open Go.ChangeShapes Go.WideShapes Go.ChangeAt Go.RowKit
open Go.Proofs.YtbeamigbcfkjjaaGreatDoor.Aid Go.Proofs.YtbeamigbcfkjjaaGreatDoor.Lst
set_option maxRecDepth 100000
set_option linter.unusedVariables false

def SV (w : World) (b : Bx) (B : Nat) (o : Ox) (t : Nat) (w' : World) : Prop := ∃ v, Dq w b B o (b.ine t 1 v) w'
theorem SV.c8 {w w' : World} {b : Bx} {B : Nat} {o : Ox} {t ke oe : Nat} (h : SV w b B o t w') (e : b.e.a = some ⟨ke, oe, none⟩) : w'.cell? ⟨w.heap.size, 8, none⟩ = some (.slice (some ⟨ke, oe, none⟩) b.e.n b.e.c) := by
  obtain ⟨v, D⟩ := h
  have q := (D.e 8 _ rfl).1
  simp only [Bx.ine, Sx.put, e] at q
  exact q
theorem SV.c1 {w w' : World} {b : Bx} {B : Nat} {o : Ox} {t : Nat} (h : SV w b B o t w') : w'.cell? ⟨w.heap.size + 1, 1, none⟩ = some (.int .i64 o.s) := by
  obtain ⟨v, D⟩ := h
  exact (D.p 1 _ rfl).1
theorem ine_same (b : Bx) (t : Nat) (v : Int) : b.ine t v (b.e.f t) = b.seti t v := by
  have : b.e.put t (b.e.f t) = b.e := by
    have e : upd b.e.f t (b.e.f t) = b.e.f := by
      funext j; simp only [upd]; split
      · rename_i e; rw [e]
      · rfl
    simp only [Sx.put, e]
  simp only [Bx.ine, Bx.seti, this]
theorem ine_put (b : Bx) (t : Nat) (v x y : Int) : (b.ine t v x).e.put t y = b.e.put t y := by
  simp only [Bx.ine, Sx.put]
  congr 1
  funext j
  simp only [upd]
  split <;> rfl
def S10 (w : World) (c : Bx) (t ke oe : Nat) (v : Int) (w' : World) : Prop := w'.rangeAt w.heap.size 0 c.cells ∧ w'.cell? ⟨w.heap.size + 1, 1, none⟩ = some (.int .i64 t) ∧ w'.cell? ⟨ke, oe + t, none⟩ = some (.int .i64 v)
theorem S10.r {w w' : World} {c : Bx} {t ke oe : Nat} {v : Int} (h : S10 w c t ke oe v w') : w'.rangeAt w.heap.size 0 c.cells := h.1
theorem S10.p {w w' : World} {c : Bx} {t ke oe : Nat} {v : Int} (h : S10 w c t ke oe v w') : w'.cell? ⟨w.heap.size + 1, 1, none⟩ = some (.int .i64 t) := h.2.1
theorem S10.v {w w' : World} {c : Bx} {t ke oe : Nat} {v : Int} (h : S10 w c t ke oe v w') : w'.cell? ⟨ke, oe + t, none⟩ = some (.int .i64 v) := h.2.2
theorem below_drew (w : World) : Below w.heap.size w w.drew := ⟨rfl, rfl, rfl, Nat.le_refl _, fun _ _ => rfl⟩

set_option maxHeartbeats 16000000 in
theorem do5_any (b : Bx) (B : Nat) (o : Ox) (w : World) (h : b.Hl B w) (hB : B ≤ w.heap.size) (hok : OkP b) (t : Nat) (hs : o.s = t) (ht : (t : Int) < b.s) (hk : o.k = 1) (hi : b.i.f t = 0) (he : b.e.f t ≠ 4095) :
    Calls Tryz.prog 20 #[.agg b.cells.toArray, .agg o.cells.toArray] w fun e w' => Ans3 b B w (DoP b o) e w' := by
  have l1 := hok.1.1.2.1
  have l0 := hok.1.1.1
  have l2 := hok.1.1.2.2.1
  have l6 := hok.1.1.2.2.2.1
  have S := Dq.start h o 29 45
  obtain ⟨ki, oi, ei, hci⟩ := S.h.at.i.cells (by omega)
  obtain ⟨ke, oe, ee, hce⟩ := S.h.at.e.cells (by omega)
  have ci := hci t (by omega)
  have ce := hce t (by omega)
  have t1 : (t : Int) < b.i.n := by omega
  have t2 : (t : Int) < b.e.n := by omega
  have EI : Hid (b.i.a = some ⟨ki, oi, none⟩) := ei
  have EE : Hid (b.e.a = some ⟨ke, oe, none⟩) := ee
  have HS : Hid (Dq w b B o b _) := S
  obtain ⟨ok, os, oa, ob⟩ := o
  simp only at hs hk
  subst hs
  clear S hci hce
  simp only [Bx.cells, Ox.cells, z9, ei, ee] at ci ce HS ⊢
  clear ei ee
  subst hk
  rw [hi] at ci
  have HI : Hid (b.i.f t = 0) := hi
  have e0 : 0 ≤ b.e.f t := (hok.1.2.1 t (by omega)).2.2.1
  have e1 : b.e.f t ≤ 4095 := (hok.1.2.1 t (by omega)).2.2.2.1
  obtain ⟨y0, y1, y2⟩ := HS.out.fre (x := b.i) (by simp [Bx.lists]) EI.out (j := t) (by omega)
  have S1 := HS.out.write (b' := b.seti t 1) 6 b.i rfl ki oi t EI.out (by omega) 1 rfl rfl (fun i hi => lies_same (b := b) (c := b.seti t 1) rfl hi)
  have HS1 : Hid (Dq w b B ⟨1, t, oa, ob⟩ (b.seti t 1) _) := S1
  clear hi S1
  go_enter Tryz.func20, Tryz.ntmps20
  go_wp2_with (fail)
  generalize World.setCell _ ⟨ki, oi + t, none⟩ (.int .i64 1) = W at HS1 ⊢
  clear y1 y2 ci ce
  have D1 : Dq w b B ⟨1, t, oa, ob⟩ (b.ine t 1 (b.e.f t)) W.drew := by rw [ine_same]; exact HS1.out.later (below_drew W)
  have HD1 : Hid (Dq w b B ⟨1, t, oa, ob⟩ (b.ine t 1 (b.e.f t)) W.drew) := D1
  refine wp_region_held_drew (S := SV w b B ⟨1, t, oa, ob⟩ t) (by kernel_rfl) ⟨_, D1⟩ (fun hS => ?_)
  clear D1
  generalize World.drew W = V at hS HD1 ⊢
  refine takeB (i := 0) (v := .pointer (some ⟨w.heap.size, 8, none⟩)) (d := some 42) rfl rfl (by kernel_rfl) (by kernel_rfl) (by kernel_rfl) (fun _ _ _ h => h) (Or.inl ⟨by rfl, fun w' hw => ?_⟩) hS ?_
  · clear hw; go_simp
  simp only [Act.put, List.setIfInBounds_toArray, List.set_cons_zero, List.set_cons_succ]
  refine takeB (i := 1) (v := .slice (some ⟨ke, oe, none⟩) b.e.n b.e.c) (d := some 43) rfl rfl (by kernel_rfl) (by kernel_rfl) (by kernel_rfl) (fun _ _ _ h => h) (Or.inl ⟨by rfl, fun w' hw => ?_⟩) hS ?_
  · have q := hw.c8 EE.out; clear hw; go_simp
  simp only [Act.put, List.setIfInBounds_toArray, List.set_cons_zero, List.set_cons_succ]
  refine takeB (i := 2) (v := .pointer (some ⟨w.heap.size + 1, 1, none⟩)) (d := some 44) rfl rfl (by kernel_rfl) (by kernel_rfl) (by kernel_rfl) (fun _ _ _ h => h) (Or.inl ⟨by rfl, fun w' hw => ?_⟩) hS ?_
  · clear hw; go_simp
  simp only [Act.put, List.setIfInBounds_toArray, List.set_cons_zero, List.set_cons_succ]
  refine takeB (i := 3) (v := .int .i64 t) (d := some 45) rfl rfl (by kernel_rfl) (by kernel_rfl) (by kernel_rfl) (fun _ _ _ h => h) (Or.inl ⟨by rfl, fun w' hw => ?_⟩) hS ?_
  · have q := hw.c1; simp only at q; clear hw; go_simp
  simp only [Act.put, List.setIfInBounds_toArray, List.set_cons_zero, List.set_cons_succ]
  refine takeB (i := 4) (v := .pointer (some ⟨w.heap.size, 8, none⟩)) (d := some 46) rfl rfl (by kernel_rfl) (by kernel_rfl) (by kernel_rfl) (fun _ _ _ h => h) (Or.inl ⟨by rfl, fun w' hw => ?_⟩) hS ?_
  · clear hw; go_simp
  simp only [Act.put, List.setIfInBounds_toArray, List.set_cons_zero, List.set_cons_succ]
  refine takeB (i := 5) (v := .slice (some ⟨ke, oe, none⟩) b.e.n b.e.c) (d := some 47) rfl rfl (by kernel_rfl) (by kernel_rfl) (by kernel_rfl) (fun _ _ _ h => h) (Or.inl ⟨by rfl, fun w' hw => ?_⟩) hS ?_
  · have q := hw.c8 EE.out; clear hw; go_simp
  simp only [Act.put, List.setIfInBounds_toArray, List.set_cons_zero, List.set_cons_succ]
  refine takeB (i := 6) (v := .pointer (some ⟨w.heap.size + 1, 1, none⟩)) (d := some 48) rfl rfl (by kernel_rfl) (by kernel_rfl) (by kernel_rfl) (fun _ _ _ h => h) (Or.inl ⟨by rfl, fun w' hw => ?_⟩) hS ?_
  · clear hw; go_simp
  simp only [Act.put, List.setIfInBounds_toArray, List.set_cons_zero, List.set_cons_succ]
  refine takeB (i := 7) (v := .int .i64 t) (d := some 49) rfl rfl (by kernel_rfl) (by kernel_rfl) (by kernel_rfl) (fun _ _ _ h => h) (Or.inl ⟨by rfl, fun w' hw => ?_⟩) hS ?_
  · have q := hw.c1; simp only at q; clear hw; go_simp
  simp only [Act.put, List.setIfInBounds_toArray, List.set_cons_zero, List.set_cons_succ]
  refine takeB (i := 8) (v := .pointer (some ⟨ke, oe + t, none⟩)) (d := some 50) rfl rfl (by kernel_rfl) (by kernel_rfl) (by kernel_rfl) (fun _ _ _ h => h) (Or.inl ⟨by rfl, fun w' hw => ?_⟩) hS ?_
  · clear hw; go_simp
  simp only [Act.put, List.setIfInBounds_toArray, List.set_cons_zero, List.set_cons_succ]
  refine wpAnyH_ready (rs := [9]) (by kernel_rfl) (by simp) ?_
  refine AllReadyH.cons rfl (fun K hK => ?_) AllReadyH.nil
  have q := at_cell HD1.out.h.at.e (k := ke) (o := oe) (j := t) EE.out (by show t < b.e.n; omega)
  have q' : ((b.ine t 1 (b.e.f t)).e.f t) = b.e.f t := by rw [ine_same]; rfl
  rw [q'] at q
  clear q' hS
  go_simp
  refine hK.out _ _ ⟨_, HD1.out⟩ (fun hS => ?_)
  clear hK K q
  try simp only [Act.put, List.setIfInBounds_toArray, List.set_cons_zero, List.set_cons_succ]
  refine takeB (i := 10) (v := .int .i64 (b.e.f t + 1)) (d := some 52) rfl rfl (by kernel_rfl) (by kernel_rfl) (by kernel_rfl) (fun _ _ _ h => h) (Or.inl ⟨by rfl, fun w' hw => ?_⟩) hS ?_
  · clear hw; have w1 : IntKind.i64.wrap (b.e.f t + 1) = b.e.f t + 1 := (by rw [IntKind.wrap_i64]; omega); go_simp
  simp only [Act.put, List.setIfInBounds_toArray, List.set_cons_zero, List.set_cons_succ]
  refine takeB (i := 11) (v := .pointer (some ⟨ke, oe + t, none⟩)) (d := some 53) rfl rfl (by kernel_rfl) (by kernel_rfl) (by kernel_rfl) (fun _ _ _ h => h) (Or.inl ⟨by rfl, fun w' hw => ?_⟩) hS ?_
  · clear hw; go_simp
  simp only [Act.put, List.setIfInBounds_toArray, List.set_cons_zero, List.set_cons_succ]
  refine wpAnyH_ready (rs := [12]) (by kernel_rfl) (by simp) ?_
  refine AllReadyH.cons rfl (fun K hK => ?_) AllReadyH.nil
  obtain ⟨y0, y1, y2⟩ := HD1.out.fre (x := (b.ine t 1 (b.e.f t)).e) (by simp [Bx.lists]) EE.out (j := t) (by show t < b.e.n; omega)
  have D2 := HD1.out.write (b' := b.ine t 1 (b.e.f t + 1)) 7 (b.ine t 1 (b.e.f t)).e rfl ke oe t EE.out (by show t < b.e.n; omega) (b.e.f t + 1) (by rw [ine_put]; rfl) rfl (fun i hi => lies_same (b := b.ine t 1 (b.e.f t)) (c := b.ine t 1 (b.e.f t + 1)) rfl hi)
  have HD2 : Hid (Dq w b B ⟨1, t, oa, ob⟩ (b.ine t 1 (b.e.f t + 1)) _) := D2
  clear hS D2
  go_simp
  refine hK.out _ _ ⟨_, HD2.out⟩ (fun hS => ?_)
  clear hK K hS
  refine wpAnyH_done (by kernel_rfl) ?_ _
  generalize World.setCell _ ⟨ke, oe + t, none⟩ (.int .i64 (b.e.f t + 1)) = V2 at HD2 ⊢
  clear y1 y2 HD1
  go_wp2_with (fail)
  obtain ⟨c, hc⟩ : ∃ c, c = b.ine t 1 (b.e.f t + 1) := ⟨_, rfl⟩
  rw [← hc] at HD2
  have cea : c.e.a = some ⟨ke, oe, none⟩ := by rw [hc]; exact EE.out
  have cen : c.e.n = b.e.n := by rw [hc]; rfl
  have cec : c.e.c = b.e.c := by rw [hc]; rfl
  have cef : c.e.f t = b.e.f t + 1 := by rw [hc]; simp only [Bx.ine, Sx.put, upd, if_true]
  have HC : Hid (c = b.ine t 1 (b.e.f t + 1)) := hc
  have D3 := HD2.out.later (below_drew V2)
  have HA : Hid (Ret2 w b B c (V2.drew.setCells (w.heap.size + 2) 0 c.cells.toArray.toList)) := D3.mid.anss
  have HT : Hid (V2.drew.there (w.heap.size + 2) 0 9) := D3.mid.theret
  have ft : ∀ w' : World, c.Hl B w' → w'.cell? ⟨ke, oe + t, none⟩ = some (.int .i64 (b.e.f t + 1)) := fun w' hh => by
    have := at_cell hh.at.e (k := ke) (o := oe) (j := t) cea (by rw [cen]; omega)
    rwa [cef] at this
  have S0 : S10 w c t ke oe (b.e.f t + 1) V2.drew := ⟨D3.e.range, (D3.p 1 _ rfl).1, ft _ D3.h⟩
  have HS3 : Hid (S10 w c t ke oe (b.e.f t + 1) (V2.drew.setCells (w.heap.size + 2) 0 c.cells.toArray.toList)) := ⟨World.rangeAt_setCells_apart D3.e.range _ _ _ (.inl (by omega)), World.rangeAt_setCells_apart D3.p.range (w.heap.size + 2) 0 c.cells.toArray.toList (.inl (by omega)) 1 _ rfl, ft _ HA.out.h⟩
  have HE8 : Hid (∀ w' : World, S10 w c t ke oe (b.e.f t + 1) w' → w'.cell? ⟨w.heap.size, 8, none⟩ = some (.slice (some ⟨ke, oe, none⟩) b.e.n b.e.c)) := fun w' hw => by
    have q := hw.1 8 _ rfl
    rw [cea, cen, cec] at q
    exact q
  refine wp_region_held_drew (S := S10 w c t ke oe (b.e.f t + 1)) (by kernel_rfl) S0 (fun hS => ?_)
  clear S0 D3 ft HD2 HS1 HS cea cen cec cef hc
  generalize World.drew V2 = V3 at hS HA HT HS3 ⊢
  refine takeB (i := 0) (v := .agg c.cells.toArray) (d := some 54) rfl rfl (by kernel_rfl) (by kernel_rfl) (by kernel_rfl) (fun _ _ _ h => h) ?_ hS ?_
  · exact yieldsIf_load_mid (by rfl) 29 _ rfl w.heap.size 0 rfl c.cells _ (fun w' hw => S10.r hw) Tryz.underlying29 rfl (by kernel_rfl)
  simp only [Act.put, List.setIfInBounds_toArray, List.set_cons_zero, List.set_cons_succ]
  refine takeB (i := 1) (v := .pointer (some ⟨w.heap.size, 8, none⟩)) (d := some 55) rfl rfl (by kernel_rfl) (by kernel_rfl) (by kernel_rfl) (fun _ _ _ h => h) (Or.inl ⟨by rfl, fun w' hw => ?_⟩) hS ?_
  · clear hw; go_simp
  simp only [Act.put, List.setIfInBounds_toArray, List.set_cons_zero, List.set_cons_succ]
  refine takeB (i := 2) (v := .slice (some ⟨ke, oe, none⟩) b.e.n b.e.c) (d := some 56) rfl rfl (by kernel_rfl) (by kernel_rfl) (by kernel_rfl) (fun _ _ _ h => h) (Or.inl ⟨by rfl, fun w' hw => ?_⟩) hS ?_
  · have q := HE8.out _ hw; clear hw; go_simp
  simp only [Act.put, List.setIfInBounds_toArray, List.set_cons_zero, List.set_cons_succ]
  refine takeB (i := 3) (v := .pointer (some ⟨w.heap.size + 1, 1, none⟩)) (d := some 57) rfl rfl (by kernel_rfl) (by kernel_rfl) (by kernel_rfl) (fun _ _ _ h => h) (Or.inl ⟨by rfl, fun w' hw => ?_⟩) hS ?_
  · clear hw; go_simp
  simp only [Act.put, List.setIfInBounds_toArray, List.set_cons_zero, List.set_cons_succ]
  refine takeB (i := 4) (v := .int .i64 t) (d := some 58) rfl rfl (by kernel_rfl) (by kernel_rfl) (by kernel_rfl) (fun _ _ _ h => h) (Or.inl ⟨by rfl, fun w' hw => ?_⟩) hS ?_
  · have q := S10.p hw; clear hw; go_simp
  simp only [Act.put, List.setIfInBounds_toArray, List.set_cons_zero, List.set_cons_succ]
  refine takeB (i := 5) (v := .pointer (some ⟨ke, oe + t, none⟩)) (d := some 59) rfl rfl (by kernel_rfl) (by kernel_rfl) (by kernel_rfl) (fun _ _ _ h => h) (Or.inl ⟨by rfl, fun w' hw => ?_⟩) hS ?_
  · clear hw; go_simp
  simp only [Act.put, List.setIfInBounds_toArray, List.set_cons_zero, List.set_cons_succ]
  refine takeB (i := 6) (v := .int .i64 (b.e.f t + 1)) (d := some 60) rfl rfl (by kernel_rfl) (by kernel_rfl) (by kernel_rfl) (fun _ _ _ h => h) (Or.inl ⟨by rfl, fun w' hw => ?_⟩) hS ?_
  · have q := S10.v hw; clear hw; go_simp
  simp only [Act.put, List.setIfInBounds_toArray, List.set_cons_zero, List.set_cons_succ]
  refine wpAnyH_ready (rs := [7]) (by kernel_rfl) (by simp) ?_
  refine AllReadyH.cons rfl (fun K hK => ?_) AllReadyH.nil
  clear hS
  refine wp_store_mid 29 _ _ rfl (w.heap.size + 2) 0 c.cells.toArray rfl rfl HT.out (by kernel_rfl) (cells_one _) ?_
  refine hK.out _ _ HS3.out (fun hS => ?_)
  clear hK K
  generalize World.setCells _ _ _ _ = V4 at hS HA ⊢
  try simp only [Act.put, List.setIfInBounds_toArray]
  refine takeB (i := 8) (v := .int .i64 0) (d := some 5) rfl rfl (by kernel_rfl) (by kernel_rfl) (by kernel_rfl) (fun _ _ _ h => h) (Or.inl ⟨by rfl, fun w' hw => ?_⟩) hS ?_
  · clear hw; go_simp
  refine takeB (i := 9) (v := .int .i64 (b.e.f t + 1)) (d := some 6) rfl rfl (by kernel_rfl) (by kernel_rfl) (by kernel_rfl) (fun _ _ _ h => h) (Or.inl ⟨by rfl, fun w' hw => ?_⟩) hS ?_
  · clear hw; go_simp
  clear hS
  refine wpAnyH_done (by kernel_rfl) ?_ _
  go_wp2_with (fail)
  exact bodyPost_ret (results_cell_two rfl _ _ (w.heap.size + 2) 0 _ _ rfl HA.out.c Tryz.underlying29 rfl (by kernel_rfl)) rfl (HA.out.ans3 (.inr ⟨t, rfl, ht, .inl ⟨rfl, .inr (.inr ⟨HI.out, he, HC.out, rfl, rfl⟩)⟩⟩))

theorem do_any (b : Bx) (B : Nat) (o : Ox) (w : World) (h : b.Hl B w) (hB : B ≤ w.heap.size) (hok : OkP b) :
    Calls Tryz.prog 20 #[.agg b.cells.toArray, .agg o.cells.toArray] w fun e w' => Ans3 b B w (DoP b o) e w' := by
  by_cases hs : o.s < 0 ∨ b.s ≤ o.s
  · exact do0_any b B o w h hB hok hs
  obtain ⟨t, ht⟩ : ∃ t : Nat, o.s = t := ⟨o.s.toNat, by omega⟩
  have tl : (t : Int) < b.s := by omega
  by_cases hk : o.k = 1
  · by_cases hi : b.i.f t = 0
    · by_cases he : b.e.f t = 4095
      · exact do2_any b B o w h hB hok t ht tl hk hi he
      · exact do5_any b B o w h hB hok t ht tl hk hi he
    · exact do1_any b B o w h hB hok t ht tl hk hi
  · by_cases hi : b.i.f t = 0
    · exact do3_any b B o w h hB hok t ht tl hk hi
    · exact do4_any b B o w h hB hok t ht tl hk hi

end Go.Proofs.YtbeamigbcfkjjaaGreatDoor.Book

/- The specification's BookDo. -/
namespace Go.Proofs.YtbeamigbcfkjjaaGreatDoor.Dra
open Go.ChangeShapes Go.WideShapes Go.ChangeAt Go.RowKit
open Go.Proofs.YtbeamigbcfkjjaaGreatDoor.Aid Go.Proofs.YtbeamigbcfkjjaaGreatDoor.Lst Go.Proofs.YtbeamigbcfkjjaaGreatDoor.Book Go.Proofs.YtbeamigbcfkjjaaGreatDoor.Rin
set_option maxRecDepth 100000
set_option linter.unusedVariables false
def SbQ (b : Bx) (o : Ox) (d : Bx) (x y : Int) : Prop := (¬ OkP b ∧ d.m = noneM ∧ x = 13 ∧ y = 0) ∨ (OkP b ∧ ∃ d0 : Bx, d0.m = b.m ∧ DoP d0 o d x y)
theorem none_hl (B : Nat) (w : World) : noneB.Hl B w := by
  refine ⟨?_, ?_⟩
  · simp only [noneB, Bx.lists, List.forall_mem_cons, List.not_mem_nil, false_implies, implies_true, and_true]
    exact ⟨⟨Nat.le_refl _, .inl rfl⟩, ⟨Nat.le_refl _, .inl rfl⟩, ⟨Nat.le_refl _, .inl rfl⟩, ⟨Nat.le_refl _, .inl rfl⟩, ⟨Nat.le_refl _, .inl rfl⟩, ⟨Nat.le_refl _, .inl rfl⟩, ⟨Nat.le_refl _, .inl rfl⟩, ⟨Nat.le_refl _, .inl rfl⟩⟩
  · simp only [noneB, Bx.lists, List.pairwise_cons, List.forall_mem_cons, List.not_mem_nil, false_implies, implies_true, and_true, List.Pairwise.nil]
    refine ⟨⟨?_, ?_, ?_, ?_, ?_, ?_, ?_⟩, ⟨?_, ?_, ?_, ?_, ?_, ?_⟩, ⟨?_, ?_, ?_, ?_, ?_⟩, ⟨?_, ?_, ?_, ?_⟩, ⟨?_, ?_, ?_⟩, ⟨?_, ?_⟩, ?_⟩
    all_goals exact .inl rfl
theorem hl_mono {b : Bx} {B A : Nat} {w : World} (h : b.Hl B w) (hA : A ≤ B) : b.Hl A w := ⟨fun x hx => by
  obtain ⟨h1, h2 | ⟨k, o, e, g1, g2⟩⟩ := h.each x hx
  · exact ⟨h1, .inl h2⟩
  · exact ⟨h1, .inr ⟨k, o, e, by omega, g2⟩⟩, h.apart⟩
structure Pb (b : Bx) (o : Ox) (w w1 : World) : Prop where
  b : w1.rangeAt w.heap.size 0 b.cells
  o : w1.rangeAt (w.heap.size + 1) 0 o.cells
theorem Pq.pb {b : Bx} {o : Ox} {w w1 : World} (h : Pq b o w w1) : Pb b o w w1 := ⟨h.b, h.o⟩
theorem met_all {b : Bx} {o : Ox} {c d : Bx} {x y x' y' : Int} (h1 : BdQ b o c x y) (h2 : SbQ b o d x' y') : c.trim.m = d.trim.m ∧ x = x' ∧ y = y' := by
  rcases h1 with ⟨n, e, rfl, rfl⟩ | ⟨k, c0, cf, V, m, e0, hq, rfl, hf⟩
  · rcases h2 with ⟨_, e', rfl, rfl⟩ | ⟨k, _⟩
    · have q : c.m = d.m := e.trans e'.symm
      have : c.trim.m = d.trim.m := by
        simp only [Bx.m, Bm.mk.injEq, Sx.m, Prod.mk.injEq] at q
        obtain ⟨a0, ⟨a1, a2⟩, ⟨a3, a4⟩, ⟨a5, a6⟩, ⟨a7, a8⟩, ⟨a9, a10⟩, ⟨a11, a12⟩, ⟨a13, a14⟩, ⟨a15, a16⟩⟩ := q
        simp only [Bx.trim, Sx.trim, Bx.m, Sx.m, a0, a1, a2, a3, a4, a5, a6, a7, a8, a9, a10, a11, a12, a13, a14, a15, a16]
      exact ⟨this, rfl, rfl⟩
    · exact absurd k n
  · rcases h2 with ⟨n, _⟩ | ⟨_, d0, e1, hd⟩
    · exact absurd k n
    · obtain ⟨hp, ex, ey⟩ := do_met (Pair.of e0 e1) hq hd
      exact ⟨fin_met hp hf, ex, ey⟩

end Go.Proofs.YtbeamigbcfkjjaaGreatDoor.Dra

/- Somebody is cut off: BookCut of both. -/
namespace Go.Proofs.YtbeamigbcfkjjaaGreatDoor.Book
open Go.ChangeShapes Go.WideShapes Go.ChangeAt Go.RowKit
open Go.Proofs.YtbeamigbcfkjjaaGreatDoor.Aid Go.Proofs.YtbeamigbcfkjjaaGreatDoor.Lst
set_option maxRecDepth 100000
set_option linter.unusedVariables false

/- Who is in, behind a cutting off. -/
def cutF (f : Nat → Int) (t : Int) : Nat → Int := fun j => if (j : Int) = t ∧ f j = 1 then 2 else f j
def cutM (m : Bm) (t : Int) : Bm := ⟨m.s, m.p, m.h0, m.h1, m.h2, m.h3, m.o, (m.i.1, if 0 ≤ t ∧ t < m.s then cutF m.i.2 t else m.i.2), m.e⟩
def CutQ (b : Bx) (t : Int) (m : Bm) : Prop := (OkP b ∧ m = cutM b.m t) ∨ (¬ OkP b ∧ m = noneM)
theorem cutq_one {b : Bx} {t : Int} {m m' : Bm} (h : CutQ b t m) (g : CutQ b t m') : m = m' := by
  rcases h with ⟨h, rfl⟩ | ⟨h, rfl⟩ <;> rcases g with ⟨g, rfl⟩ | ⟨g, rfl⟩
  · rfl
  · exact absurd h g
  · exact absurd g h
  · rfl
theorem cutq_m {b c : Bx} (h : b.m = c.m) (t : Int) (m : Bm) : CutQ b t m ↔ CutQ c t m := by
  unfold CutQ
  rw [ok_m h, h]
theorem cut_hit {c b : Bx} {j : Nat} (hm : c.m = b.m) (h0 : (j : Int) < b.s) (h1 : c.i.f j = 1) : (c.seti j 2).m = cutM b.m j := by
  have e : c.i.f = b.i.f := congrArg (fun m => m.i.2) hm
  rw [← hm]
  unfold cutM Bx.seti Bx.m Sx.m Sx.put
  have hs : b.s = c.s := congrArg (·.s) hm.symm
  simp only [Bm.mk.injEq, true_and, and_true, Prod.mk.injEq]
  rw [if_pos ⟨by omega, by omega⟩]
  funext i
  unfold upd cutF
  by_cases hi : i = j
  · subst hi; rw [if_pos rfl, if_pos ⟨rfl, h1⟩]
  · rw [if_neg hi, if_neg (fun q => hi (by have := q.1; omega))]
theorem cut_miss {c b : Bx} {t : Int} (hm : c.m = b.m) (h : ¬ ((0 ≤ t ∧ t < b.s) ∧ c.i.f t.toNat = 1)) : c.m = cutM b.m t := by
  have e : c.i.f = b.i.f := congrArg (fun m => m.i.2) hm
  rw [hm]
  unfold cutM
  by_cases g : 0 ≤ t ∧ t < b.m.s
  · rw [if_pos g]
    have : cutF b.m.i.2 t = b.m.i.2 := by
      funext i
      unfold cutF
      rw [if_neg]
      rintro ⟨q1, q2⟩
      refine h ⟨g, ?_⟩
      rw [e, ← q1, Int.toNat_natCast]
      exact q2
    rw [this]
  · rw [if_neg g]

set_option maxHeartbeats 40000000 in
theorem cut_any (b : Bx) (t : Int) (w : World) (h : b.At w) (hn : b.total ≤ 1000000000) (hcap : b.o.n ≤ b.o.c) :
    Calls Tryz.prog 44 #[.agg b.cells.toArray, .int .i64 t] w fun e w' => ∃ c : Bx, e = .returned (.agg c.cells.toArray) ∧ CutQ b t c.m ∧ c.Own w.heap.size w'.heap.size w' ∧ Below w.heap.size w w' := by
  have S0 : CO w b ((w.alloc (.cells #[.int .i64 b.s, .slice b.p.a b.p.n b.p.c, .slice b.h0.a b.h0.n b.h0.c, .slice b.h1.a b.h1.n b.h1.c, .slice b.h2.a b.h2.n b.h2.c, .slice b.h3.a b.h3.n b.h3.c, .slice b.o.a b.o.n b.o.c, .slice b.i.a b.i.n b.i.c, .slice b.e.a b.e.n b.e.c] 29)).alloc (.cells #[.int .i64 0, .slice none 0 0, .slice none 0 0, .slice none 0 0, .slice none 0 0, .slice none 0 0, .slice none 0 0, .slice none 0 0, .slice none 0 0] 29)) := ⟨(Ent.start h 29).later (below1 _ _), ck_lit #[.int .i64 0, .slice none 0 0, .slice none 0 0, .slice none 0 0, .slice none 0 0, .slice none 0 0, .slice none 0 0, .slice none 0 0, .slice none 0 0] (heap2_1 w _ _), by simp⟩
  simp only [Bx.cells]
  go_enter Tryz.func44, Tryz.ntmps44
  go_wp2_with (fail)
  generalize (w.alloc (.cells #[.int .i64 b.s, .slice b.p.a b.p.n b.p.c, .slice b.h0.a b.h0.n b.h0.c, .slice b.h1.a b.h1.n b.h1.c, .slice b.h2.a b.h2.n b.h2.c, .slice b.h3.a b.h3.n b.h3.c, .slice b.o.a b.o.n b.o.c, .slice b.i.a b.i.n b.i.c, .slice b.e.a b.e.n b.e.c] 29)).alloc (.cells #[.int .i64 0, .slice none 0 0, .slice none 0 0, .slice none 0 0, .slice none 0 0, .slice none 0 0, .slice none 0 0, .slice none 0 0, .slice none 0 0] 29) = W at S0 ⊢
  refine (ok_any b W S0.e.a hn hcap).mono ?_
  rintro e w1 ⟨⟨r, rfl, hr⟩, hb⟩
  have hc := S0.later hb
  clear hb S0
  cases r
  · obtain ⟨w9, e9, ck9, ow9, be9⟩ := ans hc.t hc.z hc.e.b (none_own w1.heap.size w1.heap.size w1) hc.z (Nat.le_refl _)
    simp only [noneB] at e9
    have tk0 := hc.t 0 _ rfl
    have tk1 := hc.t 1 _ rfl
    have tk2 := hc.t 2 _ rfl
    have tk3 := hc.t 3 _ rfl
    have tk4 := hc.t 4 _ rfl
    have tk5 := hc.t 5 _ rfl
    have tk6 := hc.t 6 _ rfl
    have tk7 := hc.t 7 _ rfl
    have tk8 := hc.t 8 _ rfl
    have NO : Hid (¬ OkP b) := hr.f
    have HC : Hid (CO w b w1) := hc
    have HE : Hid (w9 = _) := e9
    clear hc hr e9
    go_wp2_with (fail)
    rw [← HE.out]
    exact bodyPost_ret (results_cell_mid rfl _ _ (w.heap.size + 1) 0 _ _ rfl ck9.range Tryz.underlying29 rfl (by kernel_rfl)) rfl ⟨noneB, rfl, .inr ⟨NO.out, rfl⟩, ow9, be9⟩
  have OK : Hid (OkP b) := hr.t
  have l1 := OK.out.1.1.1
  have l2 := OK.out.1.1.2.1
  have l3 := OK.out.1.1.2.2.1
  obtain ⟨u0, u1, u2, u3, u4, u5, u6, u7, u8⟩ := nine hc.e.r
  have HC : Hid (CO w b w1) := hc
  clear hr hc
  go_wp2_with (fail)
  clear u0 u1 u2 u3 u4 u5 u6 u7 u8
  refine (copy_any b w1 HC.out.e.a hn h.nil).mono ?_
  rintro e w2 ⟨c, rfl, cm, co, hb⟩
  have es : c.s = b.s := congrArg (·.s) cm
  have ei : c.i.n = b.i.n := congrArg (fun m => m.i.1) cm
  have hc := HC.out.later hb
  have z1 := HC.out.z
  have z2 := hb.size
  obtain ⟨k, hk, hk1, hk2, hf⟩ : ∃ k, c.i.a = some ⟨k, 0, none⟩ ∧ w1.heap.size ≤ k ∧ k < w2.heap.size ∧ Fk .i64 c.i.n w2 k c.i.f := by
    rcases co.each c.i (by simp [Bx.lists]) with h0 | h0
    · omega
    · exact h0
  have ES : Hid (c.s = b.s) := es
  have EI : Hid (c.i.n = b.i.n) := ei
  have HK : Hid (c.i.a = some ⟨k, 0, none⟩) := hk
  clear HC hb es ei hk
  simp only [Bx.cells]
  have hc3 := hc.later (below1 w2 (.cells #[.int .i64 c.s, .slice c.p.a c.p.n c.p.c, .slice c.h0.a c.h0.n c.h0.c, .slice c.h1.a c.h1.n c.h1.c, .slice c.h2.a c.h2.n c.h2.c, .slice c.h3.a c.h3.n c.h3.c, .slice c.o.a c.o.n c.o.c, .slice c.i.a c.i.n c.i.c, .slice c.e.a c.e.n c.e.c] 29))
  have co3 := co.later (below1 w2 (.cells #[.int .i64 c.s, .slice c.p.a c.p.n c.p.c, .slice c.h0.a c.h0.n c.h0.c, .slice c.h1.a c.h1.n c.h1.c, .slice c.h2.a c.h2.n c.h2.c, .slice c.h3.a c.h3.n c.h3.c, .slice c.o.a c.o.n c.o.c, .slice c.i.a c.i.n c.i.c, .slice c.e.a c.e.n c.e.c] 29))
  have E3 : Ent w2 c (w2.alloc (.cells #[.int .i64 c.s, .slice c.p.a c.p.n c.p.c, .slice c.h0.a c.h0.n c.h0.c, .slice c.h1.a c.h1.n c.h1.c, .slice c.h2.a c.h2.n c.h2.c, .slice c.h3.a c.h3.n c.h3.c, .slice c.o.a c.o.n c.o.c, .slice c.i.a c.i.n c.i.c, .slice c.e.a c.e.n c.e.c] 29)) := Ent.start co.at 29
  have z3 : w2.heap.size < (w2.alloc (.cells #[.int .i64 c.s, .slice c.p.a c.p.n c.p.c, .slice c.h0.a c.h0.n c.h0.c, .slice c.h1.a c.h1.n c.h1.c, .slice c.h2.a c.h2.n c.h2.c, .slice c.h3.a c.h3.n c.h3.c, .slice c.o.a c.o.n c.o.c, .slice c.i.a c.i.n c.i.c, .slice c.e.a c.e.n c.e.c] 29)).heap.size := by simp
  have hf3 := hf.later (below1 w2 (.cells #[.int .i64 c.s, .slice c.p.a c.p.n c.p.c, .slice c.h0.a c.h0.n c.h0.c, .slice c.h1.a c.h1.n c.h1.c, .slice c.h2.a c.h2.n c.h2.c, .slice c.h3.a c.h3.n c.h3.c, .slice c.o.a c.o.n c.o.c, .slice c.i.a c.i.n c.i.c, .slice c.e.a c.e.n c.e.c] 29))
  have HC : Hid (CO w b _) := hc3
  have HO : Hid (c.Own _ _ _) := co3
  have HE : Hid (Ent w2 c _) := E3
  have HF : Hid (Fk _ _ _ _ _) := hf3
  clear hc hc3 co co3 E3 hf hf3
  go_wp2_with (fail)
  generalize w2.alloc (.cells #[.int .i64 c.s, .slice c.p.a c.p.n c.p.c, .slice c.h0.a c.h0.n c.h0.c, .slice c.h1.a c.h1.n c.h1.c, .slice c.h2.a c.h2.n c.h2.c, .slice c.h3.a c.h3.n c.h3.c, .slice c.o.a c.o.n c.o.c, .slice c.i.a c.i.n c.i.c, .slice c.e.a c.e.n c.e.c] 29) = W3 at HC HO HE HF z3 ⊢
  refine (isin_any c t W3 HE.out.a (by have := ES.out; have := EI.out; omega)).mono ?_
  rintro e w4 ⟨⟨r, rfl, hr⟩, hb⟩
  have hc := HC.out.later hb
  have co := HO.out.later hb
  have E := HE.out.later hb
  have hf := HF.out.later hb
  have z4 := hb.size
  clear HC HO HE HF hb
  cases r
  · obtain ⟨w9, e9, ck9, ow9, be9⟩ := ans hc.t hc.z hc.e.b co (by omega) (by omega)
    have NO : Hid (¬ ((0 ≤ t ∧ t < b.s) ∧ c.i.f t.toNat = 1)) := fun g => hr.f ⟨⟨g.1.1, by rw [ES.out]; exact g.1.2⟩, by rw [g.2]; decide⟩
    have tk0 := hc.t 0 _ rfl
    have tk1 := hc.t 1 _ rfl
    have tk2 := hc.t 2 _ rfl
    have tk3 := hc.t 3 _ rfl
    have tk4 := hc.t 4 _ rfl
    have tk5 := hc.t 5 _ rfl
    have tk6 := hc.t 6 _ rfl
    have tk7 := hc.t 7 _ rfl
    have tk8 := hc.t 8 _ rfl
    obtain ⟨u0, u1, u2, u3, u4, u5, u6, u7, u8⟩ := nine E.r
    have HE : Hid (w9 = _) := e9
    clear hc co E hf hr e9
    go_wp2_with (fail)
    rw [← HE.out]
    exact bodyPost_ret (results_cell_mid rfl _ _ (w.heap.size + 1) 0 _ _ rfl ck9.range Tryz.underlying29 rfl (by kernel_rfl)) rfl ⟨c, rfl, .inl ⟨OK.out, cut_miss cm NO.out⟩, ow9, be9⟩
  · obtain ⟨⟨ht0, ht1⟩, hne⟩ := hr.t
    obtain ⟨j, rfl⟩ := Int.eq_ofNat_of_zero_le ht0
    simp only [Int.toNat_natCast] at hne
    have hj : j < c.i.n := by have := ES.out; have := EI.out; omega
    have c1 := hf j hj
    by_cases one : c.i.f j = 1
    · have ow := co.write (b' := c.seti j 2) 6 c.i rfl k j HK.out hj 2 rfl
      have oo : Only k (k + 1) w4 (w4.setCell ⟨k, j, none⟩ (.int .i64 2)) := (Only.refl _ _ _).setCell k j (Nat.le_refl _) (by omega) _
      have hc5 := hc.only h oo (by omega)
      obtain ⟨w9, e9, ck9, ow9, be9⟩ := ans hc5.t hc5.z hc5.e.b ow (by omega) (by have := oo.size; omega)
      simp only [Bx.seti, Sx.put, HK.out] at e9
      have tk0 := hc5.t 0 _ rfl
      have tk1 := hc5.t 1 _ rfl
      have tk2 := hc5.t 2 _ rfl
      have tk3 := hc5.t 3 _ rfl
      have tk4 := hc5.t 4 _ rfl
      have tk5 := hc5.t 5 _ rfl
      have tk6 := hc5.t 6 _ rfl
      have tk7 := hc5.t 7 _ rfl
      have tk8 := hc5.t 8 _ rfl
      obtain ⟨u0, u1, u2, u3, u4, u5, u6, u7, u8⟩ := nine E.r
      have CM : Hid ((c.seti j 2).m = cutM b.m j) := cut_hit cm (by rw [← ES.out]; exact ht1) one
      have HE : Hid (w9 = _) := e9
      have kne : k ≠ w2.heap.size := by omega
      have kne2 : k ≠ w.heap.size + 1 := by omega
      have hjI : (j : Int) < c.i.n := by omega
      rw [one] at c1
      rw [HK.out] at u7
      clear hc co E hf hr e9 ow oo hc5 hne one
      go_wp2_with (fail)
      rw [← HE.out]
      exact bodyPost_ret (results_cell_mid rfl _ _ (w.heap.size + 1) 0 _ _ rfl ck9.range Tryz.underlying29 rfl (by kernel_rfl)) rfl ⟨c.seti j 2, by simp [Bx.cells, Bx.seti, Sx.put, HK.out], .inl ⟨OK.out, CM.out⟩, ow9, be9⟩
    · obtain ⟨w9, e9, ck9, ow9, be9⟩ := ans hc.t hc.z hc.e.b co (by omega) (by omega)
      simp only [HK.out] at e9
      have NO : Hid (¬ ((0 ≤ (j : Int) ∧ (j : Int) < b.s) ∧ c.i.f (j : Int).toNat = 1)) := fun g => one (by simpa using g.2)
      have tk0 := hc.t 0 _ rfl
      have tk1 := hc.t 1 _ rfl
      have tk2 := hc.t 2 _ rfl
      have tk3 := hc.t 3 _ rfl
      have tk4 := hc.t 4 _ rfl
      have tk5 := hc.t 5 _ rfl
      have tk6 := hc.t 6 _ rfl
      have tk7 := hc.t 7 _ rfl
      have tk8 := hc.t 8 _ rfl
      obtain ⟨u0, u1, u2, u3, u4, u5, u6, u7, u8⟩ := nine E.r
      have HE : Hid (w9 = _) := e9
      have oneb : (c.i.f j == 1) = false := by simpa using one
      have hjI : (j : Int) < c.i.n := by omega
      rw [HK.out] at u7
      clear hc co E hf hr e9 hne
      go_wp2_with (fail)
      rw [← HE.out]
      exact bodyPost_ret (results_cell_mid rfl _ _ (w.heap.size + 1) 0 _ _ rfl ck9.range Tryz.underlying29 rfl (by kernel_rfl)) rfl ⟨c, by simp [Bx.cells, HK.out], .inl ⟨OK.out, cut_miss cm NO.out⟩, ow9, be9⟩

end Go.Proofs.YtbeamigbcfkjjaaGreatDoor.Book

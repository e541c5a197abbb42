/- A call of a book of one's own, by the specification. -/
import Derived.Test.YtlhfkackchcncaaKw8
namespace Go.Proofs.Ytlhfkackchcncaa.Book
open Go.ChangeShapes Go.WideShapes Go.ChangeAt Go.RowKit
open Go.Proofs.Ytlhfkackchcncaa.Aid Go.Proofs.Ytlhfkackchcncaa.Lst
set_option maxRecDepth 100000
set_option linter.unusedVariables false

def SV (w : World) (b : Bx) (B : Nat) (o : Ox) (t : Nat) (w' : World) : Prop := ∃ v, Dq w b B o (b.ine t 1 v) w'
theorem SV.c8 {w w' : World} {b : Bx} {B : Nat} {o : Ox} {t ke oe : Nat} (h : SV w b B o t w') (e : b.e.a = some ⟨ke, oe, none⟩) : w'.cell? ⟨w.heap.size, 8, none⟩ = some (.slice (some ⟨ke, oe, none⟩) b.e.n b.e.c) := by
  obtain ⟨v, D⟩ := h
  have q := (D.e 8 _ rfl).1
  simp only [Bx.ine, Sx.put, e] at q
  exact q
theorem SV.c1 {w w' : World} {b : Bx} {B : Nat} {o : Ox} {t : Nat} (h : SV w b B o t w') : w'.cell? ⟨w.heap.size + 1, 1, none⟩ = some (.int .i64 o.s) := by
  obtain ⟨v, D⟩ := h
  exact (D.p 1 _ rfl).1
theorem ine_same (b : Bx) (t : Nat) (v : Int) : b.ine t v (b.e.f t) = b.seti t v := by
  have : b.e.put t (b.e.f t) = b.e := by
    have e : upd b.e.f t (b.e.f t) = b.e.f := by
      funext j; simp only [upd]; split
      · rename_i e; rw [e]
      · rfl
    simp only [Sx.put, e]
  simp only [Bx.ine, Bx.seti, this]
theorem ine_put (b : Bx) (t : Nat) (v x y : Int) : (b.ine t v x).e.put t y = b.e.put t y := by
  simp only [Bx.ine, Sx.put]
  congr 1
  funext j
  simp only [upd]
  split <;> rfl
def S10 (w : World) (c : Bx) (t ke oe : Nat) (v : Int) (w' : World) : Prop := w'.rangeAt w.heap.size 0 c.cells ∧ w'.cell? ⟨w.heap.size + 1, 1, none⟩ = some (.int .i64 t) ∧ w'.cell? ⟨ke, oe + t, none⟩ = some (.int .i64 v)
theorem S10.r {w w' : World} {c : Bx} {t ke oe : Nat} {v : Int} (h : S10 w c t ke oe v w') : w'.rangeAt w.heap.size 0 c.cells := h.1
theorem S10.p {w w' : World} {c : Bx} {t ke oe : Nat} {v : Int} (h : S10 w c t ke oe v w') : w'.cell? ⟨w.heap.size + 1, 1, none⟩ = some (.int .i64 t) := h.2.1
theorem S10.v {w w' : World} {c : Bx} {t ke oe : Nat} {v : Int} (h : S10 w c t ke oe v w') : w'.cell? ⟨ke, oe + t, none⟩ = some (.int .i64 v) := h.2.2
theorem below_drew (w : World) : Below w.heap.size w w.drew := ⟨rfl, rfl, rfl, Nat.le_refl _, fun _ _ => rfl⟩

set_option maxHeartbeats 16000000 in
theorem do5_any (b : Bx) (B : Nat) (o : Ox) (w : World) (h : b.Hl B w) (hB : B ≤ w.heap.size) (hok : OkP b) (t : Nat) (hs : o.s = t) (ht : (t : Int) < b.s) (hk : o.k = 1) (hi : b.i.f t = 0) (he : b.e.f t ≠ 4095) :
    Calls Try.prog 39 #[.agg b.cells.toArray, .agg o.cells.toArray] w fun e w' => Ans3 b B w (DoP b o) e w' := by
  have l1 := hok.1.1.2.1
  have l0 := hok.1.1.1
  have l2 := hok.1.1.2.2.1
  have l6 := hok.1.1.2.2.2.1
  have S := Dq.start h o 26 53
  obtain ⟨ki, oi, ei, hci⟩ := S.h.at.i.cells (by omega)
  obtain ⟨ke, oe, ee, hce⟩ := S.h.at.e.cells (by omega)
  have ci := hci t (by omega)
  have ce := hce t (by omega)
  have t1 : (t : Int) < b.i.n := by omega
  have t2 : (t : Int) < b.e.n := by omega
  have EI : Hid (b.i.a = some ⟨ki, oi, none⟩) := ei
  have EE : Hid (b.e.a = some ⟨ke, oe, none⟩) := ee
  have HS : Hid (Dq w b B o b _) := S
  obtain ⟨ok, os, oa, ob⟩ := o
  simp only at hs hk
  subst hs
  clear S hci hce
  simp only [Bx.cells, Ox.cells, z9, ei, ee] at ci ce HS ⊢
  clear ei ee
  subst hk
  rw [hi] at ci
  have HI : Hid (b.i.f t = 0) := hi
  have e0 : 0 ≤ b.e.f t := (hok.1.2.1 t (by omega)).2.2.1
  have e1 : b.e.f t ≤ 4095 := (hok.1.2.1 t (by omega)).2.2.2.1
  obtain ⟨y0, y1, y2⟩ := HS.out.fre (x := b.i) (by simp [Bx.lists]) EI.out (j := t) (by omega)
  have S1 := HS.out.write (b' := b.seti t 1) 6 b.i rfl ki oi t EI.out (by omega) 1 rfl rfl (fun i hi => lies_same (b := b) (c := b.seti t 1) rfl hi)
  have HS1 : Hid (Dq w b B ⟨1, t, oa, ob⟩ (b.seti t 1) _) := S1
  clear hi S1
  go_enter Try.func39, Try.ntmps39
  go_wp2_with (fail)
  generalize World.setCell _ ⟨ki, oi + t, none⟩ (.int .i64 1) = W at HS1 ⊢
  clear y1 y2 ci ce
  have D1 : Dq w b B ⟨1, t, oa, ob⟩ (b.ine t 1 (b.e.f t)) W.drew := by rw [ine_same]; exact HS1.out.later (below_drew W)
  have HD1 : Hid (Dq w b B ⟨1, t, oa, ob⟩ (b.ine t 1 (b.e.f t)) W.drew) := D1
  refine wp_region_held_drew (S := SV w b B ⟨1, t, oa, ob⟩ t) (by kernel_rfl) ⟨_, D1⟩ (fun hS => ?_)
  clear D1
  generalize World.drew W = V at hS HD1 ⊢
  refine takeB (i := 0) (v := .pointer (some ⟨w.heap.size, 8, none⟩)) (d := some 42) rfl rfl (by kernel_rfl) (by kernel_rfl) (by kernel_rfl) (fun _ _ _ h => h) (Or.inl ⟨by rfl, fun w' hw => ?_⟩) hS ?_
  · clear hw; go_simp
  simp only [Act.put, List.setIfInBounds_toArray, List.set_cons_zero, List.set_cons_succ]
  refine takeB (i := 1) (v := .slice (some ⟨ke, oe, none⟩) b.e.n b.e.c) (d := some 43) rfl rfl (by kernel_rfl) (by kernel_rfl) (by kernel_rfl) (fun _ _ _ h => h) (Or.inl ⟨by rfl, fun w' hw => ?_⟩) hS ?_
  · have q := hw.c8 EE.out; clear hw; go_simp
  simp only [Act.put, List.setIfInBounds_toArray, List.set_cons_zero, List.set_cons_succ]
  refine takeB (i := 2) (v := .pointer (some ⟨w.heap.size + 1, 1, none⟩)) (d := some 44) rfl rfl (by kernel_rfl) (by kernel_rfl) (by kernel_rfl) (fun _ _ _ h => h) (Or.inl ⟨by rfl, fun w' hw => ?_⟩) hS ?_
  · clear hw; go_simp
  simp only [Act.put, List.setIfInBounds_toArray, List.set_cons_zero, List.set_cons_succ]
  refine takeB (i := 3) (v := .int .i64 t) (d := some 45) rfl rfl (by kernel_rfl) (by kernel_rfl) (by kernel_rfl) (fun _ _ _ h => h) (Or.inl ⟨by rfl, fun w' hw => ?_⟩) hS ?_
  · have q := hw.c1; simp only at q; clear hw; go_simp
  simp only [Act.put, List.setIfInBounds_toArray, List.set_cons_zero, List.set_cons_succ]
  refine takeB (i := 4) (v := .pointer (some ⟨w.heap.size, 8, none⟩)) (d := some 46) rfl rfl (by kernel_rfl) (by kernel_rfl) (by kernel_rfl) (fun _ _ _ h => h) (Or.inl ⟨by rfl, fun w' hw => ?_⟩) hS ?_
  · clear hw; go_simp
  simp only [Act.put, List.setIfInBounds_toArray, List.set_cons_zero, List.set_cons_succ]
  refine takeB (i := 5) (v := .slice (some ⟨ke, oe, none⟩) b.e.n b.e.c) (d := some 47) rfl rfl (by kernel_rfl) (by kernel_rfl) (by kernel_rfl) (fun _ _ _ h => h) (Or.inl ⟨by rfl, fun w' hw => ?_⟩) hS ?_
  · have q := hw.c8 EE.out; clear hw; go_simp
  simp only [Act.put, List.setIfInBounds_toArray, List.set_cons_zero, List.set_cons_succ]
  refine takeB (i := 6) (v := .pointer (some ⟨w.heap.size + 1, 1, none⟩)) (d := some 48) rfl rfl (by kernel_rfl) (by kernel_rfl) (by kernel_rfl) (fun _ _ _ h => h) (Or.inl ⟨by rfl, fun w' hw => ?_⟩) hS ?_
  · clear hw; go_simp
  simp only [Act.put, List.setIfInBounds_toArray, List.set_cons_zero, List.set_cons_succ]
  refine takeB (i := 7) (v := .int .i64 t) (d := some 49) rfl rfl (by kernel_rfl) (by kernel_rfl) (by kernel_rfl) (fun _ _ _ h => h) (Or.inl ⟨by rfl, fun w' hw => ?_⟩) hS ?_
  · have q := hw.c1; simp only at q; clear hw; go_simp
  simp only [Act.put, List.setIfInBounds_toArray, List.set_cons_zero, List.set_cons_succ]
  refine takeB (i := 8) (v := .pointer (some ⟨ke, oe + t, none⟩)) (d := some 50) rfl rfl (by kernel_rfl) (by kernel_rfl) (by kernel_rfl) (fun _ _ _ h => h) (Or.inl ⟨by rfl, fun w' hw => ?_⟩) hS ?_
  · clear hw; go_simp
  simp only [Act.put, List.setIfInBounds_toArray, List.set_cons_zero, List.set_cons_succ]
  refine wpAnyH_ready (rs := [9]) (by kernel_rfl) (by simp) ?_
  refine AllReadyH.cons rfl (fun K hK => ?_) AllReadyH.nil
  have q := at_cell HD1.out.h.at.e (k := ke) (o := oe) (j := t) EE.out (by show t < b.e.n; omega)
  have q' : ((b.ine t 1 (b.e.f t)).e.f t) = b.e.f t := by rw [ine_same]; rfl
  rw [q'] at q
  clear q' hS
  go_simp
  refine hK.out _ _ ⟨_, HD1.out⟩ (fun hS => ?_)
  clear hK K q
  try simp only [Act.put, List.setIfInBounds_toArray, List.set_cons_zero, List.set_cons_succ]
  refine takeB (i := 10) (v := .int .i64 (b.e.f t + 1)) (d := some 52) rfl rfl (by kernel_rfl) (by kernel_rfl) (by kernel_rfl) (fun _ _ _ h => h) (Or.inl ⟨by rfl, fun w' hw => ?_⟩) hS ?_
  · clear hw; have w1 : IntKind.i64.wrap (b.e.f t + 1) = b.e.f t + 1 := (by rw [IntKind.wrap_i64]; omega); go_simp
  simp only [Act.put, List.setIfInBounds_toArray, List.set_cons_zero, List.set_cons_succ]
  refine takeB (i := 11) (v := .pointer (some ⟨ke, oe + t, none⟩)) (d := some 53) rfl rfl (by kernel_rfl) (by kernel_rfl) (by kernel_rfl) (fun _ _ _ h => h) (Or.inl ⟨by rfl, fun w' hw => ?_⟩) hS ?_
  · clear hw; go_simp
  simp only [Act.put, List.setIfInBounds_toArray, List.set_cons_zero, List.set_cons_succ]
  refine wpAnyH_ready (rs := [12]) (by kernel_rfl) (by simp) ?_
  refine AllReadyH.cons rfl (fun K hK => ?_) AllReadyH.nil
  obtain ⟨y0, y1, y2⟩ := HD1.out.fre (x := (b.ine t 1 (b.e.f t)).e) (by simp [Bx.lists]) EE.out (j := t) (by show t < b.e.n; omega)
  have D2 := HD1.out.write (b' := b.ine t 1 (b.e.f t + 1)) 7 (b.ine t 1 (b.e.f t)).e rfl ke oe t EE.out (by show t < b.e.n; omega) (b.e.f t + 1) (by rw [ine_put]; rfl) rfl (fun i hi => lies_same (b := b.ine t 1 (b.e.f t)) (c := b.ine t 1 (b.e.f t + 1)) rfl hi)
  have HD2 : Hid (Dq w b B ⟨1, t, oa, ob⟩ (b.ine t 1 (b.e.f t + 1)) _) := D2
  clear hS D2
  go_simp
  refine hK.out _ _ ⟨_, HD2.out⟩ (fun hS => ?_)
  clear hK K hS
  refine wpAnyH_done (by kernel_rfl) ?_ _
  generalize World.setCell _ ⟨ke, oe + t, none⟩ (.int .i64 (b.e.f t + 1)) = V2 at HD2 ⊢
  clear y1 y2 HD1
  go_wp2_with (fail)
  obtain ⟨c, hc⟩ : ∃ c, c = b.ine t 1 (b.e.f t + 1) := ⟨_, rfl⟩
  rw [← hc] at HD2
  have cea : c.e.a = some ⟨ke, oe, none⟩ := by rw [hc]; exact EE.out
  have cen : c.e.n = b.e.n := by rw [hc]; rfl
  have cec : c.e.c = b.e.c := by rw [hc]; rfl
  have cef : c.e.f t = b.e.f t + 1 := by rw [hc]; simp only [Bx.ine, Sx.put, upd, if_true]
  have HC : Hid (c = b.ine t 1 (b.e.f t + 1)) := hc
  have D3 := HD2.out.later (below_drew V2)
  have HA : Hid (Ret2 w b B c (V2.drew.setCells (w.heap.size + 2) 0 c.cells.toArray.toList)) := D3.mid.anss
  have HT : Hid (V2.drew.there (w.heap.size + 2) 0 9) := D3.mid.theret
  have ft : ∀ w' : World, c.Hl B w' → w'.cell? ⟨ke, oe + t, none⟩ = some (.int .i64 (b.e.f t + 1)) := fun w' hh => by
    have := at_cell hh.at.e (k := ke) (o := oe) (j := t) cea (by rw [cen]; omega)
    rwa [cef] at this
  have S0 : S10 w c t ke oe (b.e.f t + 1) V2.drew := ⟨D3.e.range, (D3.p 1 _ rfl).1, ft _ D3.h⟩
  have HS3 : Hid (S10 w c t ke oe (b.e.f t + 1) (V2.drew.setCells (w.heap.size + 2) 0 c.cells.toArray.toList)) := ⟨World.rangeAt_setCells_apart D3.e.range _ _ _ (.inl (by omega)), World.rangeAt_setCells_apart D3.p.range (w.heap.size + 2) 0 c.cells.toArray.toList (.inl (by omega)) 1 _ rfl, ft _ HA.out.h⟩
  have HE8 : Hid (∀ w' : World, S10 w c t ke oe (b.e.f t + 1) w' → w'.cell? ⟨w.heap.size, 8, none⟩ = some (.slice (some ⟨ke, oe, none⟩) b.e.n b.e.c)) := fun w' hw => by
    have q := hw.1 8 _ rfl
    rw [cea, cen, cec] at q
    exact q
  refine wp_region_held_drew (S := S10 w c t ke oe (b.e.f t + 1)) (by kernel_rfl) S0 (fun hS => ?_)
  clear S0 D3 ft HD2 HS1 HS cea cen cec cef hc
  generalize World.drew V2 = V3 at hS HA HT HS3 ⊢
  refine takeB (i := 0) (v := .agg c.cells.toArray) (d := some 54) rfl rfl (by kernel_rfl) (by kernel_rfl) (by kernel_rfl) (fun _ _ _ h => h) ?_ hS ?_
  · exact yieldsIf_load_mid (by rfl) 26 _ rfl w.heap.size 0 rfl c.cells _ (fun w' hw => S10.r hw) Try.underlying26 rfl (by kernel_rfl)
  simp only [Act.put, List.setIfInBounds_toArray, List.set_cons_zero, List.set_cons_succ]
  refine takeB (i := 1) (v := .pointer (some ⟨w.heap.size, 8, none⟩)) (d := some 55) rfl rfl (by kernel_rfl) (by kernel_rfl) (by kernel_rfl) (fun _ _ _ h => h) (Or.inl ⟨by rfl, fun w' hw => ?_⟩) hS ?_
  · clear hw; go_simp
  simp only [Act.put, List.setIfInBounds_toArray, List.set_cons_zero, List.set_cons_succ]
  refine takeB (i := 2) (v := .slice (some ⟨ke, oe, none⟩) b.e.n b.e.c) (d := some 56) rfl rfl (by kernel_rfl) (by kernel_rfl) (by kernel_rfl) (fun _ _ _ h => h) (Or.inl ⟨by rfl, fun w' hw => ?_⟩) hS ?_
  · have q := HE8.out _ hw; clear hw; go_simp
  simp only [Act.put, List.setIfInBounds_toArray, List.set_cons_zero, List.set_cons_succ]
  refine takeB (i := 3) (v := .pointer (some ⟨w.heap.size + 1, 1, none⟩)) (d := some 57) rfl rfl (by kernel_rfl) (by kernel_rfl) (by kernel_rfl) (fun _ _ _ h => h) (Or.inl ⟨by rfl, fun w' hw => ?_⟩) hS ?_
  · clear hw; go_simp
  simp only [Act.put, List.setIfInBounds_toArray, List.set_cons_zero, List.set_cons_succ]
  refine takeB (i := 4) (v := .int .i64 t) (d := some 58) rfl rfl (by kernel_rfl) (by kernel_rfl) (by kernel_rfl) (fun _ _ _ h => h) (Or.inl ⟨by rfl, fun w' hw => ?_⟩) hS ?_
  · have q := S10.p hw; clear hw; go_simp
  simp only [Act.put, List.setIfInBounds_toArray, List.set_cons_zero, List.set_cons_succ]
  refine takeB (i := 5) (v := .pointer (some ⟨ke, oe + t, none⟩)) (d := some 59) rfl rfl (by kernel_rfl) (by kernel_rfl) (by kernel_rfl) (fun _ _ _ h => h) (Or.inl ⟨by rfl, fun w' hw => ?_⟩) hS ?_
  · clear hw; go_simp
  simp only [Act.put, List.setIfInBounds_toArray, List.set_cons_zero, List.set_cons_succ]
  refine takeB (i := 6) (v := .int .i64 (b.e.f t + 1)) (d := some 60) rfl rfl (by kernel_rfl) (by kernel_rfl) (by kernel_rfl) (fun _ _ _ h => h) (Or.inl ⟨by rfl, fun w' hw => ?_⟩) hS ?_
  · have q := S10.v hw; clear hw; go_simp
  simp only [Act.put, List.setIfInBounds_toArray, List.set_cons_zero, List.set_cons_succ]
  refine wpAnyH_ready (rs := [7]) (by kernel_rfl) (by simp) ?_
  refine AllReadyH.cons rfl (fun K hK => ?_) AllReadyH.nil
  clear hS
  refine wp_store_mid 26 _ _ rfl (w.heap.size + 2) 0 c.cells.toArray rfl rfl HT.out (by kernel_rfl) (cells_one _) ?_
  refine hK.out _ _ HS3.out (fun hS => ?_)
  clear hK K
  generalize World.setCells _ _ _ _ = V4 at hS HA ⊢
  try simp only [Act.put, List.setIfInBounds_toArray]
  refine takeB (i := 8) (v := .int .i64 0) (d := some 5) rfl rfl (by kernel_rfl) (by kernel_rfl) (by kernel_rfl) (fun _ _ _ h => h) (Or.inl ⟨by rfl, fun w' hw => ?_⟩) hS ?_
  · clear hw; go_simp
  refine takeB (i := 9) (v := .int .i64 (b.e.f t + 1)) (d := some 6) rfl rfl (by kernel_rfl) (by kernel_rfl) (by kernel_rfl) (fun _ _ _ h => h) (Or.inl ⟨by rfl, fun w' hw => ?_⟩) hS ?_
  · clear hw; go_simp
  clear hS
  refine wpAnyH_done (by kernel_rfl) ?_ _
  go_wp2_with (fail)
  exact bodyPost_ret (results_cell_two rfl _ _ (w.heap.size + 2) 0 _ _ rfl HA.out.c Try.underlying26 rfl (by kernel_rfl)) rfl (HA.out.ans3 (.inr ⟨t, rfl, ht, .inl ⟨rfl, .inr (.inr ⟨HI.out, he, HC.out, rfl, rfl⟩)⟩⟩))

theorem do_any (b : Bx) (B : Nat) (o : Ox) (w : World) (h : b.Hl B w) (hB : B ≤ w.heap.size) (hok : OkP b) :
    Calls Try.prog 39 #[.agg b.cells.toArray, .agg o.cells.toArray] w fun e w' => Ans3 b B w (DoP b o) e w' := by
  by_cases hs : o.s < 0 ∨ b.s ≤ o.s
  · exact do0_any b B o w h hB hok hs
  obtain ⟨t, ht⟩ : ∃ t : Nat, o.s = t := ⟨o.s.toNat, by omega⟩
  have tl : (t : Int) < b.s := by omega
  by_cases hk : o.k = 1
  · by_cases hi : b.i.f t = 0
    · by_cases he : b.e.f t = 4095
      · exact do2_any b B o w h hB hok t ht tl hk hi he
      · exact do5_any b B o w h hB hok t ht tl hk hi he
    · exact do1_any b B o w h hB hok t ht tl hk hi
  · by_cases hi : b.i.f t = 0
    · exact do3_any b B o w h hB hok t ht tl hk hi
    · exact do4_any b B o w h hB hok t ht tl hk hi

end Go.Proofs.Ytlhfkackchcncaa.Book

import Derived.Test.YtbipolfbkemmpaaDoorM40
import Derived.Test.YtbipolfbkemmpaaDoorM42
import Derived.Test.YtbipolfbkemmpaaDoorM32
import Derived.Test.YtbipolfbkemmpaaDoorM35

/- A call of a book of one's own, by the specification. -/
namespace Go.Proofs.YtbipolfbkemmpaaDoor.Book
open Go.ChangeShapes Go.WideShapes Go.ChangeAt Go.RowKit
open Aid Lst
set_option maxRecDepth 100000
set_option linter.unusedVariables false

def SV (w : World) (b : Bx) (B : Nat) (o : Ox) (t : Nat) (w' : World) : Prop := ∃ v, Dq w b B o (b.ine t 1 v) w'
theorem SV.c8 {w w' : World} {b : Bx} {B : Nat} {o : Ox} {t ke oe : Nat} (h : SV w b B o t w') (e : b.e.a = some ⟨ke, oe, none⟩) : w'.cell? ⟨w.heap.size, 8, none⟩ = some (.slice (some ⟨ke, oe, none⟩) b.e.n b.e.c) := by
  obtain ⟨v, D⟩ := h
  have q := (D.e 8 _ rfl).1
  simp only [Bx.ine, Sx.put, e] at q
  exact q
theorem SV.c1 {w w' : World} {b : Bx} {B : Nat} {o : Ox} {t : Nat} (h : SV w b B o t w') : w'.cell? ⟨w.heap.size + 1, 1, none⟩ = some (.int .i64 o.s) := by
  obtain ⟨v, D⟩ := h
  exact (D.p 1 _ rfl).1
theorem ine_same (b : Bx) (t : Nat) (v : Int) : b.ine t v (b.e.f t) = b.seti t v := by
  have : b.e.put t (b.e.f t) = b.e := by
    have e : upd b.e.f t (b.e.f t) = b.e.f := by
      funext j; simp only [upd]; split
      · rename_i e; rw [e]
      · rfl
    simp only [Sx.put, e]
  simp only [Bx.ine, Bx.seti, this]
theorem ine_put (b : Bx) (t : Nat) (v x y : Int) : (b.ine t v x).e.put t y = b.e.put t y := by
  simp only [Bx.ine, Sx.put]
  congr 1
  funext j
  simp only [upd]
  split <;> rfl
def S10 (w : World) (c : Bx) (t ke oe : Nat) (v : Int) (w' : World) : Prop := w'.rangeAt w.heap.size 0 c.cells ∧ w'.cell? ⟨w.heap.size + 1, 1, none⟩ = some (.int .i64 t) ∧ w'.cell? ⟨ke, oe + t, none⟩ = some (.int .i64 v)
theorem S10.r {w w' : World} {c : Bx} {t ke oe : Nat} {v : Int} (h : S10 w c t ke oe v w') : w'.rangeAt w.heap.size 0 c.cells := h.1
theorem S10.p {w w' : World} {c : Bx} {t ke oe : Nat} {v : Int} (h : S10 w c t ke oe v w') : w'.cell? ⟨w.heap.size + 1, 1, none⟩ = some (.int .i64 t) := h.2.1
theorem S10.v {w w' : World} {c : Bx} {t ke oe : Nat} {v : Int} (h : S10 w c t ke oe v w') : w'.cell? ⟨ke, oe + t, none⟩ = some (.int .i64 v) := h.2.2
theorem below_drew (w : World) : Below w.heap.size w w.drew := ⟨rfl, rfl, rfl, Nat.le_refl _, fun _ _ => rfl⟩

set_option maxHeartbeats 16000000 in
theorem do5_any (b : Bx) (B : Nat) (o : Ox) (w : World) (h : b.Hl B w) (hB : B ≤ w.heap.size) (hok : OkP b) (t : Nat) (hs : o.s = t) (ht : (t : Int) < b.s) (hk : o.k = 1) (hi : b.i.f t = 0) (he : b.e.f t ≠ 4095) :
    Calls Tryd.prog 31 #[.agg b.cells.toArray, .agg o.cells.toArray] w fun e w' => Ans3 b B w (DoP b o) e w' := by
  have l1 := hok.1.1.2.1
  have l0 := hok.1.1.1
  have l2 := hok.1.1.2.2.1
  have l6 := hok.1.1.2.2.2.1
  have S := Dq.start h o 26 28
  obtain ⟨ki, oi, ei, hci⟩ := S.h.at.i.cells (by omega)
  obtain ⟨ke, oe, ee, hce⟩ := S.h.at.e.cells (by omega)
  have ci := hci t (by omega)
  have ce := hce t (by omega)
  have t1 : (t : Int) < b.i.n := by omega
  have t2 : (t : Int) < b.e.n := by omega
  have EI : Hid (b.i.a = some ⟨ki, oi, none⟩) := ei
  have EE : Hid (b.e.a = some ⟨ke, oe, none⟩) := ee
  have HS : Hid (Dq w b B o b _) := S
  obtain ⟨ok, os, oa, ob⟩ := o
  simp only at hs hk
  subst hs
  clear S hci hce
  simp only [Bx.cells, Ox.cells, z9, ei, ee] at ci ce HS ⊢
  clear ei ee
  subst hk
  rw [hi] at ci
  have HI : Hid (b.i.f t = 0) := hi
  have e0 : 0 ≤ b.e.f t := (hok.1.2.1 t (by omega)).2.2.1
  have e1 : b.e.f t ≤ 4095 := (hok.1.2.1 t (by omega)).2.2.2.1
  obtain ⟨y0, y1, y2⟩ := HS.out.fre (x := b.i) (by simp [Bx.lists]) EI.out (j := t) (by omega)
  have S1 := HS.out.write (b' := b.seti t 1) 6 b.i rfl ki oi t EI.out (by omega) 1 rfl rfl (fun i hi => lies_same (b := b) (c := b.seti t 1) rfl hi)
  have HS1 : Hid (Dq w b B ⟨1, t, oa, ob⟩ (b.seti t 1) _) := S1
  clear hi S1
  go_enter Tryd.func31, Tryd.ntmps31
  go_wp2_with (fail)
  generalize World.setCell _ ⟨ki, oi + t, none⟩ (.int .i64 1) = W at HS1 ⊢
  clear y1 y2 ci ce
  have D1 : Dq w b B ⟨1, t, oa, ob⟩ (b.ine t 1 (b.e.f t)) W.drew := by rw [ine_same]; exact HS1.out.later (below_drew W)
  have HD1 : Hid (Dq w b B ⟨1, t, oa, ob⟩ (b.ine t 1 (b.e.f t)) W.drew) := D1
  refine wp_region_held_drew (S := SV w b B ⟨1, t, oa, ob⟩ t) (by kernel_rfl) ⟨_, D1⟩ (fun hS => ?_)
  clear D1
  generalize World.drew W = V at hS HD1 ⊢
  refine tI 0 (v := .pointer (some ⟨w.heap.size, 8, none⟩)) (d := some 42) rfl rfl (fun w' hw => ?_) hS ?_
  · clear hw; go_simp
  simp only [Act.put, s1, s2, s3]
  refine tI 1 (v := .slice (some ⟨ke, oe, none⟩) b.e.n b.e.c) (d := some 43) rfl rfl (fun w' hw => ?_) hS ?_
  · have q := hw.c8 EE.out; clear hw; go_simp
  simp only [Act.put, s1, s2, s3]
  refine tI 2 (v := .pointer (some ⟨w.heap.size + 1, 1, none⟩)) (d := some 44) rfl rfl (fun w' hw => ?_) hS ?_
  · clear hw; go_simp
  simp only [Act.put, s1, s2, s3]
  refine tI 3 (v := .int .i64 t) (d := some 45) rfl rfl (fun w' hw => ?_) hS ?_
  · have q := hw.c1; simp only at q; clear hw; go_simp
  simp only [Act.put, s1, s2, s3]
  refine tI 4 (v := .pointer (some ⟨w.heap.size, 8, none⟩)) (d := some 46) rfl rfl (fun w' hw => ?_) hS ?_
  · clear hw; go_simp
  simp only [Act.put, s1, s2, s3]
  refine tI 5 (v := .slice (some ⟨ke, oe, none⟩) b.e.n b.e.c) (d := some 47) rfl rfl (fun w' hw => ?_) hS ?_
  · have q := hw.c8 EE.out; clear hw; go_simp
  simp only [Act.put, s1, s2, s3]
  refine tI 6 (v := .pointer (some ⟨w.heap.size + 1, 1, none⟩)) (d := some 48) rfl rfl (fun w' hw => ?_) hS ?_
  · clear hw; go_simp
  simp only [Act.put, s1, s2, s3]
  refine tI 7 (v := .int .i64 t) (d := some 49) rfl rfl (fun w' hw => ?_) hS ?_
  · have q := hw.c1; simp only at q; clear hw; go_simp
  simp only [Act.put, s1, s2, s3]
  refine tI 8 (v := .pointer (some ⟨ke, oe + t, none⟩)) (d := some 50) rfl rfl (fun w' hw => ?_) hS ?_
  · clear hw; go_simp
  simp only [Act.put, s1, s2, s3]
  refine r1 9 rfl (fun K hK => ?_)
  have q := at_cell HD1.out.h.at.e (k := ke) (o := oe) (j := t) EE.out (by show t < b.e.n; omega)
  have q' : ((b.ine t 1 (b.e.f t)).e.f t) = b.e.f t := by rw [ine_same]; rfl
  rw [q'] at q
  clear q' hS
  go_simp
  refine hK.out _ _ ⟨_, HD1.out⟩ (fun hS => ?_)
  clear hK K q
  try simp only [Act.put, s1, s2, s3]
  refine tI 10 (v := .int .i64 (b.e.f t + 1)) (d := some 52) rfl rfl (fun w' hw => ?_) hS ?_
  · clear hw; have w1 : IntKind.i64.wrap (b.e.f t + 1) = b.e.f t + 1 := (by rw [IntKind.wrap_i64]; omega); go_simp
  simp only [Act.put, s1, s2, s3]
  refine tI 11 (v := .pointer (some ⟨ke, oe + t, none⟩)) (d := some 53) rfl rfl (fun w' hw => ?_) hS ?_
  · clear hw; go_simp
  simp only [Act.put, s1, s2, s3]
  refine r1 12 rfl (fun K hK => ?_)
  obtain ⟨y0, y1, y2⟩ := HD1.out.fre (x := (b.ine t 1 (b.e.f t)).e) (by simp [Bx.lists]) EE.out (j := t) (by show t < b.e.n; omega)
  have D2 := HD1.out.write (b' := b.ine t 1 (b.e.f t + 1)) 7 (b.ine t 1 (b.e.f t)).e rfl ke oe t EE.out (by show t < b.e.n; omega) (b.e.f t + 1) (by rw [ine_put]; rfl) rfl (fun i hi => lies_same (b := b.ine t 1 (b.e.f t)) (c := b.ine t 1 (b.e.f t + 1)) rfl hi)
  have HD2 : Hid (Dq w b B ⟨1, t, oa, ob⟩ (b.ine t 1 (b.e.f t + 1)) _) := D2
  clear hS D2
  go_simp
  refine hK.out _ _ ⟨_, HD2.out⟩ (fun hS => ?_)
  clear hK K hS
  refine wpAnyH_done (by kernel_rfl) ?_ _
  generalize World.setCell _ ⟨ke, oe + t, none⟩ (.int .i64 (b.e.f t + 1)) = V2 at HD2 ⊢
  clear y1 y2 HD1
  go_wp2_with (fail)
  obtain ⟨c, hc⟩ : ∃ c, c = b.ine t 1 (b.e.f t + 1) := ⟨_, rfl⟩
  rw [← hc] at HD2
  have cea : c.e.a = some ⟨ke, oe, none⟩ := by rw [hc]; exact EE.out
  have cen : c.e.n = b.e.n := by rw [hc]; rfl
  have cec : c.e.c = b.e.c := by rw [hc]; rfl
  have cef : c.e.f t = b.e.f t + 1 := by rw [hc]; simp only [Bx.ine, Sx.put, upd, if_true]
  have HC : Hid (c = b.ine t 1 (b.e.f t + 1)) := hc
  have D3 := HD2.out.later (below_drew V2)
  have HA : Hid (Ret2 w b B c (V2.drew.setCells (w.heap.size + 2) 0 c.cells.toArray.toList)) := D3.mid.anss
  have HT : Hid (V2.drew.there (w.heap.size + 2) 0 9) := D3.mid.theret
  have ft : ∀ w' : World, c.Hl B w' → w'.cell? ⟨ke, oe + t, none⟩ = some (.int .i64 (b.e.f t + 1)) := fun w' hh => by
    have := at_cell hh.at.e (k := ke) (o := oe) (j := t) cea (by rw [cen]; omega)
    rwa [cef] at this
  have S0 : S10 w c t ke oe (b.e.f t + 1) V2.drew := ⟨D3.e.range, (D3.p 1 _ rfl).1, ft _ D3.h⟩
  have HS3 : Hid (S10 w c t ke oe (b.e.f t + 1) (V2.drew.setCells (w.heap.size + 2) 0 c.cells.toArray.toList)) := ⟨World.rangeAt_setCells_apart D3.e.range _ _ _ (.inl (by omega)), World.rangeAt_setCells_apart D3.p.range (w.heap.size + 2) 0 c.cells.toArray.toList (.inl (by omega)) 1 _ rfl, ft _ HA.out.h⟩
  have HE8 : Hid (∀ w' : World, S10 w c t ke oe (b.e.f t + 1) w' → w'.cell? ⟨w.heap.size, 8, none⟩ = some (.slice (some ⟨ke, oe, none⟩) b.e.n b.e.c)) := fun w' hw => by
    have q := hw.1 8 _ rfl
    rw [cea, cen, cec] at q
    exact q
  refine wp_region_held_drew (S := S10 w c t ke oe (b.e.f t + 1)) (by kernel_rfl) S0 (fun hS => ?_)
  clear S0 D3 ft HD2 HS1 HS cea cen cec cef hc
  generalize World.drew V2 = V3 at hS HA HT HS3 ⊢
  refine tB 0 (v := .agg c.cells.toArray) (d := some 54) rfl rfl ?_ hS ?_
  · exact yieldsIf_load_mid (by rfl) 26 _ rfl w.heap.size 0 rfl c.cells _ (fun w' hw => S10.r hw) Tryd.underlying26 rfl (by kernel_rfl)
  simp only [Act.put, s1, s2, s3]
  refine tI 1 (v := .pointer (some ⟨w.heap.size, 8, none⟩)) (d := some 55) rfl rfl (fun w' hw => ?_) hS ?_
  · clear hw; go_simp
  simp only [Act.put, s1, s2, s3]
  refine tI 2 (v := .slice (some ⟨ke, oe, none⟩) b.e.n b.e.c) (d := some 56) rfl rfl (fun w' hw => ?_) hS ?_
  · have q := HE8.out _ hw; clear hw; go_simp
  simp only [Act.put, s1, s2, s3]
  refine tI 3 (v := .pointer (some ⟨w.heap.size + 1, 1, none⟩)) (d := some 57) rfl rfl (fun w' hw => ?_) hS ?_
  · clear hw; go_simp
  simp only [Act.put, s1, s2, s3]
  refine tI 4 (v := .int .i64 t) (d := some 58) rfl rfl (fun w' hw => ?_) hS ?_
  · have q := S10.p hw; clear hw; go_simp
  simp only [Act.put, s1, s2, s3]
  refine tI 5 (v := .pointer (some ⟨ke, oe + t, none⟩)) (d := some 59) rfl rfl (fun w' hw => ?_) hS ?_
  · clear hw; go_simp
  simp only [Act.put, s1, s2, s3]
  refine tI 6 (v := .int .i64 (b.e.f t + 1)) (d := some 60) rfl rfl (fun w' hw => ?_) hS ?_
  · have q := S10.v hw; clear hw; go_simp
  simp only [Act.put, s1, s2, s3]
  refine r1 7 rfl (fun K hK => ?_)
  clear hS
  refine wp_store_mid 26 _ _ rfl (w.heap.size + 2) 0 c.cells.toArray rfl rfl HT.out (by kernel_rfl) (cells_one _) ?_
  refine hK.out _ _ HS3.out (fun hS => ?_)
  clear hK K
  generalize World.setCells _ _ _ _ = V4 at hS HA ⊢
  try simp only [Act.put, List.setIfInBounds_toArray]
  refine tI 8 (v := .int .i64 0) (d := some 5) rfl rfl (fun w' hw => ?_) hS ?_
  · clear hw; go_simp
  refine tI 9 (v := .int .i64 (b.e.f t + 1)) (d := some 6) rfl rfl (fun w' hw => ?_) hS ?_
  · clear hw; go_simp
  clear hS
  refine wpAnyH_done (by kernel_rfl) ?_ _
  go_wp2_with (fail)
  exact bodyPost_ret (results_cell_two rfl _ _ (w.heap.size + 2) 0 _ _ rfl HA.out.c Tryd.underlying26 rfl (by kernel_rfl)) rfl (HA.out.ans3 (.inr ⟨t, rfl, ht, .inl ⟨rfl, .inr (.inr ⟨HI.out, he, HC.out, rfl, rfl⟩)⟩⟩))

theorem do_any (b : Bx) (B : Nat) (o : Ox) (w : World) (h : b.Hl B w) (hB : B ≤ w.heap.size) (hok : OkP b) :
    Calls Tryd.prog 31 #[.agg b.cells.toArray, .agg o.cells.toArray] w fun e w' => Ans3 b B w (DoP b o) e w' := by
  by_cases hs : o.s < 0 ∨ b.s ≤ o.s
  · exact do0_any b B o w h hB hok hs
  obtain ⟨t, ht⟩ : ∃ t : Nat, o.s = t := ⟨o.s.toNat, by omega⟩
  have tl : (t : Int) < b.s := by omega
  by_cases hk : o.k = 1
  · by_cases hi : b.i.f t = 0
    · by_cases he : b.e.f t = 4095
      · exact do2_any b B o w h hB hok t ht tl hk hi he
      · exact do5_any b B o w h hB hok t ht tl hk hi he
    · exact do1_any b B o w h hB hok t ht tl hk hi
  · by_cases hi : b.i.f t = 0
    · exact do3_any b B o w h hB hok t ht tl hk hi
    · exact do4_any b B o w h hB hok t ht tl hk hi

end Go.Proofs.YtbipolfbkemmpaaDoor.Book
/- The specification's BookDo. -/
namespace Go.Proofs.YtbipolfbkemmpaaDoor.Dra
open Go.ChangeShapes Go.WideShapes Go.ChangeAt Go.RowKit
open Aid Lst Book Rin
set_option maxRecDepth 100000
set_option linter.unusedVariables false
def SbQ (b : Bx) (o : Ox) (d : Bx) (x y : Int) : Prop := (¬ OkP b ∧ d.m = noneM ∧ x = 13 ∧ y = 0) ∨ (OkP b ∧ ∃ d0 : Bx, d0.m = b.m ∧ DoP d0 o d x y)
theorem none_hl (B : Nat) (w : World) : noneB.Hl B w := by
  refine ⟨?_, ?_⟩
  · simp only [noneB, Bx.lists, List.forall_mem_cons, List.not_mem_nil, false_implies, implies_true, and_true]
    exact ⟨⟨Nat.le_refl _, .inl rfl⟩, ⟨Nat.le_refl _, .inl rfl⟩, ⟨Nat.le_refl _, .inl rfl⟩, ⟨Nat.le_refl _, .inl rfl⟩, ⟨Nat.le_refl _, .inl rfl⟩, ⟨Nat.le_refl _, .inl rfl⟩, ⟨Nat.le_refl _, .inl rfl⟩, ⟨Nat.le_refl _, .inl rfl⟩⟩
  · simp only [noneB, Bx.lists, List.pairwise_cons, List.forall_mem_cons, List.not_mem_nil, false_implies, implies_true, and_true, List.Pairwise.nil]
    refine ⟨⟨?_, ?_, ?_, ?_, ?_, ?_, ?_⟩, ⟨?_, ?_, ?_, ?_, ?_, ?_⟩, ⟨?_, ?_, ?_, ?_, ?_⟩, ⟨?_, ?_, ?_, ?_⟩, ⟨?_, ?_, ?_⟩, ⟨?_, ?_⟩, ?_⟩
    all_goals exact .inl rfl
theorem hl_mono {b : Bx} {B A : Nat} {w : World} (h : b.Hl B w) (hA : A ≤ B) : b.Hl A w := ⟨fun x hx => by
  obtain ⟨h1, h2 | ⟨k, o, e, g1, g2⟩⟩ := h.each x hx
  · exact ⟨h1, .inl h2⟩
  · exact ⟨h1, .inr ⟨k, o, e, by omega, g2⟩⟩, h.apart⟩
structure Pb (b : Bx) (o : Ox) (w w1 : World) : Prop where
  b : w1.rangeAt w.heap.size 0 b.cells
  o : w1.rangeAt (w.heap.size + 1) 0 o.cells
theorem Pq.pb {b : Bx} {o : Ox} {w w1 : World} (h : Pq b o w w1) : Pb b o w w1 := ⟨h.b, h.o⟩
theorem met_all {b : Bx} {o : Ox} {c d : Bx} {x y x' y' : Int} (h1 : BdQ b o c x y) (h2 : SbQ b o d x' y') : c.trim.m = d.trim.m ∧ x = x' ∧ y = y' := by
  rcases h1 with ⟨n, e, rfl, rfl⟩ | ⟨k, c0, cf, V, m, e0, hq, rfl, hf⟩
  · rcases h2 with ⟨_, e', rfl, rfl⟩ | ⟨k, _⟩
    · have q : c.m = d.m := e.trans e'.symm
      have : c.trim.m = d.trim.m := by
        simp only [Bx.m, Bm.mk.injEq, Sx.m, Prod.mk.injEq] at q
        obtain ⟨a0, ⟨a1, a2⟩, ⟨a3, a4⟩, ⟨a5, a6⟩, ⟨a7, a8⟩, ⟨a9, a10⟩, ⟨a11, a12⟩, ⟨a13, a14⟩, ⟨a15, a16⟩⟩ := q
        simp only [Bx.trim, Sx.trim, Bx.m, Sx.m, a0, a1, a2, a3, a4, a5, a6, a7, a8, a9, a10, a11, a12, a13, a14, a15, a16]
      exact ⟨this, rfl, rfl⟩
    · exact absurd k n
  · rcases h2 with ⟨n, _⟩ | ⟨_, d0, e1, hd⟩
    · exact absurd k n
    · obtain ⟨hp, ex, ey⟩ := do_met (Pair.of e0 e1) hq hd
      exact ⟨fin_met hp hf, ex, ey⟩

set_option maxHeartbeats 16000000 in
theorem sbookdo_any (b : Bx) (o : Ox) (w : World) (h : b.At w) (hn : b.total ≤ 1000000000) (hnil : ∀ x ∈ b.lists, x.a = none → x.n = 0) (hwf : b.Wf) :
    Calls Tryd.prog 12 #[.agg b.cells.toArray, .agg o.cells.toArray] w fun e w' => ∃ d x y, e = .returned (.tuple #[.agg d.cells.toArray, .int .i64 x, .int .i64 y]) ∧ SbQ b o d x y ∧ d.Hl w.heap.size w' ∧ Below w.heap.size w w' := by
  have S := Pq.start b o w 26 28
  have HS0 : Hid (Pq b o w _) := S
  have HR0 : Hid (World.rangeAt _ w.heap.size 0 b.cells) := S.b
  have HA : Hid (b.At w) := h
  clear S h
  simp only [Bx.cells, Ox.cells, z9] at HS0 HR0 ⊢
  go_enter Tryd.func12, Tryd.ntmps12
  go_wp2_with (refine wpList_load_mid rfl 26 _ rfl w.heap.size 0 rfl b.cells _ HR0.out Tryd.underlying26 rfl (by kernel_rfl) ?_)
  refine (sok_any b _ (HA.out.later HS0.out.l) hn hwf).mono ?_
  rintro e w1 ⟨⟨r, rfl, hr⟩, hb⟩
  have HS1 : Hid (Pq b o w w1) := HS0.out.later hb HS0.out.z
  have HOK : Hid (Tell r (OkP b)) := hr
  clear hb hr HR0 HS0
  cases r
  · have HT : Hid (w1.there (w.heap.size + 2) 0 9) := there9 HS1.out.t
    go_wp2_with (refine wpList_store_mid rfl 26 _ _ rfl (w.heap.size + 2) 0 noneB.cells.toArray rfl rfl HT.out (by kernel_rfl) (cells_one _) ?_)
    refine bodyPost_ret (results_cell_two rfl _ _ (w.heap.size + 2) 0 _ _ rfl (World.rangeAt_setCells_same _ _ _ _ HT.out) Tryd.underlying26 rfl (by kernel_rfl)) rfl ?_
    exact ⟨noneB, 13, 0, rfl, .inl ⟨fun q => (by have := HOK.out.2 q; cases this), rfl, rfl, rfl⟩, none_hl _ _, below_setCells HS1.out.l (by omega) _ _⟩
  have OK : Hid (OkP b) := HOK.out.1 rfl
  clear HOK
  go_wp2_with (fail)
  refine wp_region_held_drew (S := Pb b o w) (by kernel_rfl) (show Pb b o w w1.drew from ⟨HS1.out.b, HS1.out.o⟩) (fun hS => ?_)
  refine tB 0 (v := .agg b.cells.toArray) (d := some 11) rfl rfl (yieldsIf_load_mid (by rfl) 26 _ rfl w.heap.size 0 rfl b.cells _ (fun w' hw => hw.b) Tryd.underlying26 rfl (by kernel_rfl)) hS ?_
  try simp only [Act.put, s1, s2, s3]
  refine tB 2 (v := .agg o.cells.toArray) (d := some 13) rfl rfl (yieldsIf_load_mid (by rfl) 28 _ rfl (w.heap.size + 1) 0 rfl o.cells _ (fun w' hw => hw.o) Tryd.underlying28 rfl (by kernel_rfl)) hS ?_
  try simp only [Act.put, s1, s2, s3]
  refine r1 1 rfl (fun K hK => ?_)
  have HS1d : Hid (Pq b o w w1.drew) := HS1.out.later (B := w1.heap.size) ⟨rfl, rfl, rfl, Nat.le_refl _, fun _ _ => rfl⟩ HS1.out.z
  clear hS
  go_simp
  refine (scopy_cap b _ (HA.out.later HS1d.out.l) hn hnil).mono ?_
  rintro e w2 ⟨c, rfl, cm, co, hb, cc⟩
  have HS2 : Hid (Pq b o w w2) := HS1d.out.later hb HS1d.out.z
  have HC : Hid (c.m = b.m ∧ c.Hl w1.heap.size w2 ∧ w1.heap.size ≤ w2.heap.size) := ⟨cm, co.hl cc (Nat.le_refl _), hb.size⟩
  clear HS1d cm co cc hb
  go_wp2_with (fail)
  refine hK.out _ _ HS2.out.pb (fun hS => ?_)
  clear hK K
  try simp only [Act.put, s1, s2, s3]
  refine r1 3 rfl (fun K hK => ?_)
  clear hS
  go_simp
  refine (Book.do_any c w1.heap.size o _ HC.out.2.1 HC.out.2.2 ((ok_m HC.out.1).2 OK.out)).mono ?_
  rintro e w3 ⟨d, x, y, rfl, hp, hl, hf, -⟩
  have hb3 : Below w1.heap.size w2 w3 := ⟨hf.os, hf.tape, hf.output, hf.size, fun i hi => hf.block i (Nat.lt_of_lt_of_le hi HC.out.2.2) (fun q => by have := HC.out.2.1.new i q; omega)⟩
  have HS3 : Hid (Pq b o w w3) := HS2.out.later hb3 HS1.out.z
  have HP : Hid (DoP c o d x y ∧ d.Hl w1.heap.size w3) := ⟨hp, hl⟩
  clear hp hl hf hb3
  go_wp2_with (fail)
  refine hK.out _ _ HS3.out.pb (fun hS => ?_)
  clear hK K
  try simp only [Act.put, s1, s2, s3]
  refine tI 4 (v := .agg d.cells.toArray) (d := some 15) rfl rfl (fun w' hw => ?_) hS ?_
  · clear hw; go_simp
  try simp only [Act.put, s1, s2, s3]
  refine tI 5 (v := .int .i64 x) (d := some 16) rfl rfl (fun w' hw => ?_) hS ?_
  · clear hw; go_simp
  try simp only [Act.put, s1, s2, s3]
  refine tI 6 (v := .int .i64 y) (d := some 17) rfl rfl (fun w' hw => ?_) hS ?_
  · clear hw; go_simp
  try simp only [Act.put, s1, s2, s3]
  refine r1 7 rfl (fun K hK => ?_)
  clear hS
  have HT : Hid (w3.there (w.heap.size + 2) 0 9) := there9 HS3.out.t
  have OY : Only (w.heap.size + 2) (w.heap.size + 2 + 1) w3 (w3.setCells (w.heap.size + 2) 0 d.cells.toArray.toList) := only_setCells (Nat.le_refl _) (by omega) _ _ _ (Only.refl _ _ _)
  have HPB : Hid (Pb b o w (w3.setCells (w.heap.size + 2) 0 d.cells.toArray.toList)) := ⟨World.rangeAt_setCells_apart HS3.out.b _ _ _ (.inl (by omega)), World.rangeAt_setCells_apart HS3.out.o _ _ _ (.inl (by omega))⟩
  refine wp_store_mid 26 _ _ rfl (w.heap.size + 2) 0 d.cells.toArray rfl rfl HT.out (by kernel_rfl) (cells_one _) ?_
  refine hK.out _ _ HPB.out (fun hS => ?_)
  clear hK K
  try simp only [Act.put, List.setIfInBounds_toArray]
  refine tI 8 (v := .int .i64 x) (d := some 5) rfl rfl (fun w' hw => ?_) hS ?_
  · clear hw; go_simp
  try simp only [Act.put]
  refine tI 9 (v := .int .i64 y) (d := some 6) rfl rfl (fun w' hw => ?_) hS ?_
  · clear hw; go_simp
  try simp only [Act.put]
  refine wpAnyH_done (by kernel_rfl) ?_ _
  clear hS
  go_wp2_with (fail)
  refine bodyPost_ret (results_cell_two rfl _ _ (w.heap.size + 2) 0 _ _ rfl (World.rangeAt_setCells_same _ _ _ _ HT.out) Tryd.underlying26 rfl (by kernel_rfl)) rfl ?_
  have hl : d.Hl w1.heap.size (w3.setCells (w.heap.size + 2) 0 d.cells.toArray.toList) := ⟨fun z hz => (HP.out.2.each z hz).same OY.size (fun k o hc e => by
    have := HP.out.2.lies ⟨z, hz, hc, o, e⟩
    exact OY.block k this.2 (.inr (by have := HS1.out.z; omega))), HP.out.2.apart⟩
  exact ⟨d, x, y, rfl, .inr ⟨OK.out, c, HC.out.1, HP.out.1⟩, hl_mono hl (by have := HS1.out.z; omega), below_setCells HS3.out.l (by omega) _ _⟩
end Go.Proofs.YtbipolfbkemmpaaDoor.Dra

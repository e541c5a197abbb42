import Derived.Test.YtbeamigbcfkjjaaGreatDoorM21

/- The program's do: no such slot; nobody is in. -/
namespace Go.Proofs.YtbeamigbcfkjjaaGreatDoor.Dra
open Go.ChangeShapes Go.WideShapes Go.ChangeAt Go.RowKit
open Go.Proofs.YtbeamigbcfkjjaaGreatDoor.Aid Go.Proofs.YtbeamigbcfkjjaaGreatDoor.Lst Go.Proofs.YtbeamigbcfkjjaaGreatDoor.Book Go.Proofs.YtbeamigbcfkjjaaGreatDoor.Rin
set_option maxRecDepth 100000
set_option linter.unusedVariables false
def LeQ (b : Bx) (U : Nat → List Int) (q : Nat) (c : Bx) (V : Nat → List Int) (x : Nat) (y : Int) : Prop :=
  V = U ∧ (((∃ u, u < b.o.n ∧ b.o.f u = (q : Int) + 1) ∧ c = b ∧ x = 7 ∧ y = 0) ∨ ((∀ u, u < b.o.n → b.o.f u ≠ (q : Int) + 1) ∧ c = b.seti q 0 ∧ x = 0 ∧ y = 0))
def EnQ (b : Bx) (U : Nat → List Int) (q : Nat) (c : Bx) (V : Nat → List Int) (x : Nat) (y : Int) : Prop :=
  V = U ∧ ((b.i.f q ≠ 0 ∧ c = b ∧ x = 6 ∧ y = 0) ∨ (b.i.f q = 0 ∧ b.e.f q = 4095 ∧ c = b ∧ x = 12 ∧ y = 0) ∨ (b.i.f q = 0 ∧ b.e.f q ≠ 4095 ∧ c = b.ine q 1 (b.e.f q + 1) ∧ x = 0 ∧ y = b.e.f q + 1))
def DdQ (b : Bx) (U : Nat → List Int) (o : Ox) (c : Bx) (V : Nat → List Int) (x : Nat) (y : Int) : Prop :=
  ((o.s < 0 ∨ b.s ≤ o.s) ∧ c = b ∧ V = U ∧ x = 13 ∧ y = 0) ∨
  ∃ q : Nat, o.s = q ∧ (q : Int) < b.s ∧
    ((o.k = 1 ∧ EnQ b U q c V x y) ∨
     (o.k ≠ 1 ∧ ((b.i.f q = 0 ∧ c = b ∧ V = U ∧ x = 9 ∧ y = 0) ∨
       (b.i.f q ≠ 0 ∧ ((o.k = 2 ∧ TaQ b U q o.a c V x y) ∨ (o.k = 3 ∧ GiQ b U o.s o.a c V x y) ∨ (o.k = 4 ∧ HaQ b U o.s o.a o.b c V x y) ∨ (o.k = 5 ∧ LeQ b U q c V x y) ∨ (o.k = 6 ∧ RpQ b U o.a c V x y) ∨ ((o.k < 2 ∨ 6 < o.k) ∧ c = b ∧ V = U ∧ x = 13 ∧ y = 0))))))
set_option maxHeartbeats 16000000 in
theorem do_out {a : Nat → Addr} {B D : Nat} {s t : Nat → Nat} {b : Bx} {U : Nat → List Int} {w : World} (h : Dr B D s t b U w) (he : Er a w) (hB : 12 ≤ B) (hok : OkP b) (o : Ox) (hs : ¬ (0 ≤ o.s ∧ o.s < b.s)) :
    Calls Tryz.prog 63 #[.pointer (some ⟨D, 0, none⟩), .agg o.cells.toArray] w fun e w' => OpA a B D s t w (DdQ b U o) e w' := by
  have S := Oq.start (a := a) h he hB o 45
  have HOK : Hid (OkP b) := hok
  have l0 := hok.1.1.1
  have l1 := hok.1.1.2.1
  have l2 := hok.1.1.2.2.1
  have l3 := hok.1.1.2.2.2.1
  have l6 := hok.1.1.2.2.2.2.1
  have l7 := hok.1.1.2.2.2.2.2.2
  have l8 := hok.1.1.2.2.2.2.2.1
  obtain ⟨ko, oo, eo, to⟩ := h.addr (x := b.o) (by simp [Bx.lists]) (by omega)
  obtain ⟨ki, oi, ei, ti⟩ := h.addr (x := b.i) (by simp [Bx.lists]) (by omega)
  obtain ⟨ke, oe, ee, te⟩ := h.addr (x := b.e) (by simp [Bx.lists]) (by omega)
  have EO : Hid (b.o.a = some ⟨ko, oo, none⟩) := eo
  have EI : Hid (b.i.a = some ⟨ki, oi, none⟩) := ei
  have EE : Hid (b.e.a = some ⟨ke, oe, none⟩) := ee
  have TT : Hid (t ko = 2 ∧ t ki = 2 ∧ t ke = 2 ∧ t D = 1) := ⟨to, ti, te, h.tD⟩
  have LS : Hid (b.s ≤ 4 ∧ 1 ≤ b.s ∧ (b.i.n : Int) = b.s ∧ (b.e.n : Int) = b.s ∧ b.o.n ≤ 1000 ∧ b.o.n ≤ b.o.c) := ⟨by omega, by omega, by omega, by omega, by omega, (h.h.each b.o (by simp [Bx.lists])).1⟩
  clear h he hB eo ei ee to ti te hok l0 l1 l2 l3 l6 l7 l8
  simp only [Ox.cells] at S ⊢
  have HN : Hid (¬ (0 ≤ o.s ∧ o.s < b.s)) := hs
  clear hs
  go_enter Tryz.func63, Tryz.ntmps63
  go_wp2_with (fail)
  generalize w.alloc (.cells _ 45) = W at S ⊢
  have HS0 : Hid (Oq a B D s t w t b U w.heap.size o W) := S
  clear S
  refine wp_region_held_drew (S := Oq a B D s t w t b U w.heap.size o) (by kernel_rfl) (HS0.out.drewN 1) (fun hS => ?_)
  refine takeB (i := 0) (v := .pointer (some ⟨D, 0, none⟩)) (d := some 8) rfl rfl (by kernel_rfl) (by kernel_rfl) (by kernel_rfl) (fun _ _ _ h => h) (Or.inl ⟨by rfl, fun w' hw => ?_⟩) hS ?_
  · clear hw; go_simp
  try simp only [Act.put, List.setIfInBounds_toArray, List.set_cons_zero, List.set_cons_succ]
  refine takeB (i := 1) (v := .pointer (some ⟨D, 0, none⟩)) (d := some 9) rfl rfl (by kernel_rfl) (by kernel_rfl) (by kernel_rfl) (fun _ _ _ h => h) (Or.inl ⟨by rfl, fun w' hw => ?_⟩) hS ?_
  · clear hw; go_simp
  try simp only [Act.put, List.setIfInBounds_toArray, List.set_cons_zero, List.set_cons_succ]
  refine takeB (i := 2) (v := .pointer (some ⟨D, 0, none⟩)) (d := some 10) rfl rfl (by kernel_rfl) (by kernel_rfl) (by kernel_rfl) (fun _ _ _ h => h) (Or.inl ⟨by rfl, fun w' hw => ?_⟩) hS ?_
  · clear hw; go_simp
  try simp only [Act.put, List.setIfInBounds_toArray, List.set_cons_zero, List.set_cons_succ]
  refine takeB (i := 3) (v := .agg b.cells.toArray) (d := some 11) rfl rfl (by kernel_rfl) (by kernel_rfl) (by kernel_rfl) (fun _ _ _ h => h) (yieldsIf_load_mid (by rfl) 29 _ rfl D 0 rfl b.cells _ (fun w' hw => hw.d.d.range) Tryz.underlying29 rfl (by kernel_rfl)) hS ?_
  try simp only [Act.put, List.setIfInBounds_toArray, List.set_cons_zero, List.set_cons_succ]
  refine takeB (i := 4) (v := .pointer (some ⟨w.heap.size, 1, none⟩)) (d := some 12) rfl rfl (by kernel_rfl) (by kernel_rfl) (by kernel_rfl) (fun _ _ _ h => h) (Or.inl ⟨by rfl, fun w' hw => ?_⟩) hS ?_
  · clear hw; go_simp
  try simp only [Act.put, List.setIfInBounds_toArray, List.set_cons_zero, List.set_cons_succ]
  refine takeB (i := 5) (v := .int .i64 o.s) (d := some 13) rfl rfl (by kernel_rfl) (by kernel_rfl) (by kernel_rfl) (fun _ _ _ h => h) (Or.inl ⟨by rfl, fun w' hw => ?_⟩) hS ?_
  · have q := hw.op 1 _ rfl; clear hw; go_simp
  try simp only [Act.put, List.setIfInBounds_toArray, List.set_cons_zero, List.set_cons_succ]
  refine wpAnyH_ready (rs := [6]) (by kernel_rfl) (by simp) ?_
  refine AllReadyH.cons rfl (fun K hK => ?_) AllReadyH.nil
  have HS1 : Hid (Oq a B D s t w t b U w.heap.size o _) := hS
  clear hS
  go_simp
  refine (isslot_any b o.s _).mono ?_
  rintro e w2 ⟨⟨r, rfl, hr⟩, hb⟩
  have HI : Hid (Tell r (0 ≤ o.s ∧ o.s < b.s)) := hr
  have HS2 : Hid (Oq a B D s t w t b U w.heap.size o w2) := HS1.out.later hb
  clear HS1 hb hr
  go_wp2_with (fail)
  refine hK.out _ _ HS2.out (fun hS => ?_)
  clear hK K
  try simp only [Act.put, List.setIfInBounds_toArray, List.set_cons_zero, List.set_cons_succ]
  refine takeB (i := 7) (v := .bool (!r)) (d := some 15) rfl rfl (by kernel_rfl) (by kernel_rfl) (by kernel_rfl) (fun _ _ _ h => h) (Or.inl ⟨by rfl, fun w' hw => ?_⟩) hS ?_
  · clear hw; go_simp
  try simp only [Act.put, List.setIfInBounds_toArray, List.set_cons_zero, List.set_cons_succ]
  refine wpAnyH_done (by kernel_rfl) ?_ _
  clear hS
  cases r
  case true => exact absurd (HI.out.1 rfl) HN.out
  have cE : w2.cell? ⟨0, 0, none⟩ = some (ev a 13) := HS2.out.e.h _ _ (by simp [erl])
  go_wp2_with (fail)
  go_quiet (fail)
  go_wp2_with (fail)
  refine bodyPost_ret (v := .tuple #[.int .i64 0, ev a 13]) (by simp [results]) rfl ?_
  exact OpA.mk 13 0 (HS2.out.d.drewN _) (.inl ⟨by have := HN.out; omega, rfl, rfl, rfl, rfl⟩) rfl

set_option maxHeartbeats 16000000 in
theorem do_nobody {a : Nat → Addr} {B D : Nat} {s t : Nat → Nat} {b : Bx} {U : Nat → List Int} {w : World} (h : Dr B D s t b U w) (he : Er a w) (hB : 12 ≤ B) (hok : OkP b) (o : Ox) (q : Nat) (hq : o.s = q) (hqs : (q : Int) < b.s) (hk : o.k ≠ 1) (hi : b.i.f q = 0) :
    Calls Tryz.prog 63 #[.pointer (some ⟨D, 0, none⟩), .agg o.cells.toArray] w fun e w' => OpA a B D s t w (DdQ b U o) e w' := by
  have S := Oq.start (a := a) h he hB o 45
  have HOK : Hid (OkP b) := hok
  have l0 := hok.1.1.1
  have l1 := hok.1.1.2.1
  have l2 := hok.1.1.2.2.1
  have l3 := hok.1.1.2.2.2.1
  have l6 := hok.1.1.2.2.2.2.1
  have l7 := hok.1.1.2.2.2.2.2.2
  have l8 := hok.1.1.2.2.2.2.2.1
  obtain ⟨ko, oo, eo, to⟩ := h.addr (x := b.o) (by simp [Bx.lists]) (by omega)
  obtain ⟨ki, oi, ei, ti⟩ := h.addr (x := b.i) (by simp [Bx.lists]) (by omega)
  obtain ⟨ke, oe, ee, te⟩ := h.addr (x := b.e) (by simp [Bx.lists]) (by omega)
  have EO : Hid (b.o.a = some ⟨ko, oo, none⟩) := eo
  have EI : Hid (b.i.a = some ⟨ki, oi, none⟩) := ei
  have EE : Hid (b.e.a = some ⟨ke, oe, none⟩) := ee
  have TT : Hid (t ko = 2 ∧ t ki = 2 ∧ t ke = 2 ∧ t D = 1) := ⟨to, ti, te, h.tD⟩
  have LS : Hid (b.s ≤ 4 ∧ 1 ≤ b.s ∧ (b.i.n : Int) = b.s ∧ (b.e.n : Int) = b.s ∧ b.o.n ≤ 1000 ∧ b.o.n ≤ b.o.c) := ⟨by omega, by omega, by omega, by omega, by omega, (h.h.each b.o (by simp [Bx.lists])).1⟩
  clear h he hB eo ei ee to ti te hok l0 l1 l2 l3 l6 l7 l8
  simp only [Ox.cells] at S ⊢
  have HQ : Hid (o.s = q ∧ (q : Int) < b.s ∧ b.i.f q = 0) := ⟨hq, hqs, hi⟩
  have HK : Hid (o.k ≠ 1) := hk
  have nk : (o.k == 1) = false := by simpa using hk
  clear hq hqs hi hk
  go_enter Tryz.func63, Tryz.ntmps63
  go_wp2_with (fail)
  generalize w.alloc (.cells _ 45) = W at S ⊢
  have HS0 : Hid (Oq a B D s t w t b U w.heap.size o W) := S
  clear S
  refine wp_region_held_drew (S := Oq a B D s t w t b U w.heap.size o) (by kernel_rfl) (HS0.out.drewN 1) (fun hS => ?_)
  refine takeB (i := 0) (v := .pointer (some ⟨D, 0, none⟩)) (d := some 8) rfl rfl (by kernel_rfl) (by kernel_rfl) (by kernel_rfl) (fun _ _ _ h => h) (Or.inl ⟨by rfl, fun w' hw => ?_⟩) hS ?_
  · clear hw; go_simp
  try simp only [Act.put, List.setIfInBounds_toArray, List.set_cons_zero, List.set_cons_succ]
  refine takeB (i := 1) (v := .pointer (some ⟨D, 0, none⟩)) (d := some 9) rfl rfl (by kernel_rfl) (by kernel_rfl) (by kernel_rfl) (fun _ _ _ h => h) (Or.inl ⟨by rfl, fun w' hw => ?_⟩) hS ?_
  · clear hw; go_simp
  try simp only [Act.put, List.setIfInBounds_toArray, List.set_cons_zero, List.set_cons_succ]
  refine takeB (i := 2) (v := .pointer (some ⟨D, 0, none⟩)) (d := some 10) rfl rfl (by kernel_rfl) (by kernel_rfl) (by kernel_rfl) (fun _ _ _ h => h) (Or.inl ⟨by rfl, fun w' hw => ?_⟩) hS ?_
  · clear hw; go_simp
  try simp only [Act.put, List.setIfInBounds_toArray, List.set_cons_zero, List.set_cons_succ]
  refine takeB (i := 3) (v := .agg b.cells.toArray) (d := some 11) rfl rfl (by kernel_rfl) (by kernel_rfl) (by kernel_rfl) (fun _ _ _ h => h) (yieldsIf_load_mid (by rfl) 29 _ rfl D 0 rfl b.cells _ (fun w' hw => hw.d.d.range) Tryz.underlying29 rfl (by kernel_rfl)) hS ?_
  try simp only [Act.put, List.setIfInBounds_toArray, List.set_cons_zero, List.set_cons_succ]
  refine takeB (i := 4) (v := .pointer (some ⟨w.heap.size, 1, none⟩)) (d := some 12) rfl rfl (by kernel_rfl) (by kernel_rfl) (by kernel_rfl) (fun _ _ _ h => h) (Or.inl ⟨by rfl, fun w' hw => ?_⟩) hS ?_
  · clear hw; go_simp
  try simp only [Act.put, List.setIfInBounds_toArray, List.set_cons_zero, List.set_cons_succ]
  refine takeB (i := 5) (v := .int .i64 o.s) (d := some 13) rfl rfl (by kernel_rfl) (by kernel_rfl) (by kernel_rfl) (fun _ _ _ h => h) (Or.inl ⟨by rfl, fun w' hw => ?_⟩) hS ?_
  · have q := hw.op 1 _ rfl; clear hw; go_simp
  try simp only [Act.put, List.setIfInBounds_toArray, List.set_cons_zero, List.set_cons_succ]
  refine wpAnyH_ready (rs := [6]) (by kernel_rfl) (by simp) ?_
  refine AllReadyH.cons rfl (fun K hK => ?_) AllReadyH.nil
  have HS1 : Hid (Oq a B D s t w t b U w.heap.size o _) := hS
  clear hS
  go_simp
  refine (isslot_any b o.s _).mono ?_
  rintro e w2 ⟨⟨r, rfl, hr⟩, hb⟩
  have HI : Hid (Tell r (0 ≤ o.s ∧ o.s < b.s)) := hr
  have HS2 : Hid (Oq a B D s t w t b U w.heap.size o w2) := HS1.out.later hb
  clear HS1 hb hr
  go_wp2_with (fail)
  refine hK.out _ _ HS2.out (fun hS => ?_)
  clear hK K
  try simp only [Act.put, List.setIfInBounds_toArray, List.set_cons_zero, List.set_cons_succ]
  refine takeB (i := 7) (v := .bool (!r)) (d := some 15) rfl rfl (by kernel_rfl) (by kernel_rfl) (by kernel_rfl) (fun _ _ _ h => h) (Or.inl ⟨by rfl, fun w' hw => ?_⟩) hS ?_
  · clear hw; go_simp
  try simp only [Act.put, List.setIfInBounds_toArray, List.set_cons_zero, List.set_cons_succ]
  refine wpAnyH_done (by kernel_rfl) ?_ _
  clear hS
  cases r
  case false => exact absurd (HI.out.2 ⟨by have := HQ.out.1; omega, by have := HQ.out.1; have := HQ.out.2.1; omega⟩) (by simp)
  go_wp2_with (fail)
  refine wp_region_held_drew (S := Oq a B D s t w t b U w.heap.size o) (by kernel_rfl) (HS2.out.drewN 1) (fun hS => ?_)
  refine takeB (i := 0) (v := .pointer (some ⟨w.heap.size, 0, none⟩)) (d := some 17) rfl rfl (by kernel_rfl) (by kernel_rfl) (by kernel_rfl) (fun _ _ _ h => h) (Or.inl ⟨by rfl, fun w' hw => ?_⟩) hS ?_
  · clear hw; go_simp
  try simp only [Act.put, List.setIfInBounds_toArray, List.set_cons_zero, List.set_cons_succ]
  refine takeB (i := 1) (v := .int .i64 o.k) (d := some 18) rfl rfl (by kernel_rfl) (by kernel_rfl) (by kernel_rfl) (fun _ _ _ h => h) (Or.inl ⟨by rfl, fun w' hw => ?_⟩) hS ?_
  · have q1 := hw.op 0 _ rfl; clear hw; go_simp
  try simp only [Act.put, List.setIfInBounds_toArray, List.set_cons_zero, List.set_cons_succ]
  refine takeB (i := 2) (v := .bool true) (d := some 19) rfl rfl (by kernel_rfl) (by kernel_rfl) (by kernel_rfl) (fun _ _ _ h => h) (Or.inl ⟨by rfl, fun w' hw => ?_⟩) hS ?_
  · have hk := HK.out; clear hw; go_simp
  try simp only [Act.put, List.setIfInBounds_toArray, List.set_cons_zero, List.set_cons_succ]
  refine takeB (i := 3) (v := .bool true) (d := some 20) rfl rfl (by kernel_rfl) (by kernel_rfl) (by kernel_rfl) (fun _ _ _ h => h) (Or.inl ⟨by rfl, fun w' hw => ?_⟩) hS ?_
  · clear hw; go_simp
  try simp only [Act.put, List.setIfInBounds_toArray, List.set_cons_zero, List.set_cons_succ]
  refine takeB (i := 4) (v := .pointer (some ⟨D, 0, none⟩)) (d := some 21) rfl rfl (by kernel_rfl) (by kernel_rfl) (by kernel_rfl) (fun _ _ _ h => h) (Or.inl ⟨by rfl, fun w' hw => ?_⟩) hS ?_
  · clear hw; go_simp
  try simp only [Act.put, List.setIfInBounds_toArray, List.set_cons_zero, List.set_cons_succ]
  refine takeB (i := 5) (v := .pointer (some ⟨D, 0, none⟩)) (d := some 22) rfl rfl (by kernel_rfl) (by kernel_rfl) (by kernel_rfl) (fun _ _ _ h => h) (Or.inl ⟨by rfl, fun w' hw => ?_⟩) hS ?_
  · clear hw; go_simp
  try simp only [Act.put, List.setIfInBounds_toArray, List.set_cons_zero, List.set_cons_succ]
  refine takeB (i := 6) (v := .pointer (some ⟨D, 0, none⟩)) (d := some 23) rfl rfl (by kernel_rfl) (by kernel_rfl) (by kernel_rfl) (fun _ _ _ h => h) (Or.inl ⟨by rfl, fun w' hw => ?_⟩) hS ?_
  · clear hw; go_simp
  try simp only [Act.put, List.setIfInBounds_toArray, List.set_cons_zero, List.set_cons_succ]
  refine takeB (i := 7) (v := .agg b.cells.toArray) (d := some 24) rfl rfl (by kernel_rfl) (by kernel_rfl) (by kernel_rfl) (fun _ _ _ h => h) (yieldsIf_load_mid (by rfl) 29 _ rfl D 0 rfl b.cells _ (fun w' hw => hw.d.d.range) Tryz.underlying29 rfl (by kernel_rfl)) hS ?_
  try simp only [Act.put, List.setIfInBounds_toArray, List.set_cons_zero, List.set_cons_succ]
  refine takeB (i := 8) (v := .pointer (some ⟨w.heap.size, 1, none⟩)) (d := some 25) rfl rfl (by kernel_rfl) (by kernel_rfl) (by kernel_rfl) (fun _ _ _ h => h) (Or.inl ⟨by rfl, fun w' hw => ?_⟩) hS ?_
  · clear hw; go_simp
  try simp only [Act.put, List.setIfInBounds_toArray, List.set_cons_zero, List.set_cons_succ]
  refine takeB (i := 9) (v := .int .i64 o.s) (d := some 26) rfl rfl (by kernel_rfl) (by kernel_rfl) (by kernel_rfl) (fun _ _ _ h => h) (Or.inl ⟨by rfl, fun w' hw => ?_⟩) hS ?_
  · have q := hw.op 1 _ rfl; clear hw; go_simp
  try simp only [Act.put, List.setIfInBounds_toArray, List.set_cons_zero, List.set_cons_succ]
  refine wpAnyH_ready (rs := [10]) (by kernel_rfl) (by simp) ?_
  refine AllReadyH.cons rfl (fun K hK => ?_) AllReadyH.nil
  have HS1 : Hid (Oq a B D s t w t b U w.heap.size o _) := hS
  clear hS
  go_simp
  refine (isin_any b o.s _ HS1.out.d.d.h.at (by have := LS.out; omega)).mono ?_
  rintro e w3 ⟨⟨r, rfl, hr⟩, hb⟩
  have HJ : Hid (Tell r ((0 ≤ o.s ∧ o.s < b.s) ∧ b.i.f o.s.toNat ≠ 0)) := hr
  have HS3 : Hid (Oq a B D s t w t b U w.heap.size o w3) := HS1.out.later hb
  clear HS1 hb hr HS2
  go_wp2_with (fail)
  refine hK.out _ _ HS3.out (fun hS => ?_)
  clear hK K
  try simp only [Act.put, List.setIfInBounds_toArray, List.set_cons_zero, List.set_cons_succ]
  refine takeB (i := 11) (v := .bool (!r)) (d := some 28) rfl rfl (by kernel_rfl) (by kernel_rfl) (by kernel_rfl) (fun _ _ _ h => h) (Or.inl ⟨by rfl, fun w' hw => ?_⟩) hS ?_
  · clear hw; go_simp
  try simp only [Act.put, List.setIfInBounds_toArray, List.set_cons_zero, List.set_cons_succ]
  refine takeB (i := 12) (v := .bool (!r)) (d := some 29) rfl rfl (by kernel_rfl) (by kernel_rfl) (by kernel_rfl) (fun _ _ _ h => h) (Or.inl ⟨by rfl, fun w' hw => ?_⟩) hS ?_
  · clear hw; go_simp
  try simp only [Act.put, List.setIfInBounds_toArray, List.set_cons_zero, List.set_cons_succ]
  refine wpAnyH_done (by kernel_rfl) ?_ _
  clear hS
  cases r
  case true => exact absurd HQ.out.2.2 (by have := (HJ.out.1 rfl).2; rw [HQ.out.1, Int.toNat_natCast] at this; exact this)
  have cE : w3.cell? ⟨1, 0, none⟩ = some (ev a 9) := HS3.out.e.h _ _ (by simp [erl])
  go_wp2_with (fail)
  go_quiet (fail)
  go_wp2_with (fail)
  refine bodyPost_ret (v := .tuple #[.int .i64 0, ev a 9]) (by simp [results]) rfl ?_
  exact OpA.mk 9 0 (HS3.out.d.drewN _) (.inr ⟨q, HQ.out.1, HQ.out.2.1, .inr ⟨HK.out, .inl ⟨HQ.out.2.2, rfl, rfl, rfl, rfl⟩⟩⟩) rfl
end Go.Proofs.YtbeamigbcfkjjaaGreatDoor.Dra

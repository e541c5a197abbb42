import Derived.Test.YtbeamigbcfkjjaaGreatDoorM18

/- The program's takeRoom. -/
namespace Go.Proofs.YtbeamigbcfkjjaaGreatDoor.Dra
open Go.ChangeShapes Go.WideShapes Go.ChangeAt Go.RowKit
open Go.Proofs.YtbeamigbcfkjjaaGreatDoor.Aid Go.Proofs.YtbeamigbcfkjjaaGreatDoor.Lst Go.Proofs.YtbeamigbcfkjjaaGreatDoor.Book Go.Proofs.YtbeamigbcfkjjaaGreatDoor.Rin
set_option maxRecDepth 100000
set_option linter.unusedVariables false

theorem carL_cons (p k : Nat) (hk : k < 4) : carL p k = ((p * 8 : Nat) : Int) :: (carL p k).tail := by
  obtain rfl | rfl | rfl | rfl : k = 0 ∨ k = 1 ∨ k = 2 ∨ k = 3 := by omega
  all_goals simp [carL, carF, rowU]
/- How a room is taken. -/
def TrQ (b : Bx) (U : Nat → List Int) (k t : Nat) (E : Value) (c : Bx) (V : Nat → List Int) (v : Value) : Prop :=
  (∃ (u : Nat) (r : List Int), U k = (u : Int) :: r ∧ c = b.own u ((t : Int) + 1) ∧ V = updL U k r ∧ v = .tuple #[.int .i64 u, .nilIface]) ∨
  (U k = [] ∧ (∀ q, q + 1 ≤ b.p.n → ¬ EmpP b.p.f q 1) ∧ c = b ∧ V = U ∧ v = .tuple #[.int .i64 0, E]) ∨
  (U k = [] ∧ ∃ p : Nat, p + 1 ≤ b.p.n ∧ EmpP b.p.f p 1 ∧ (∀ q, q < p → ¬ EmpP b.p.f q 1) ∧ c = (b.pag p ((k : Int) + 1)).own (p * 8) ((t : Int) + 1) ∧ V = updL U k (carL p k).tail ∧ v = .tuple #[.int .i64 ((p * 8 : Nat) : Int), .nilIface])

set_option maxHeartbeats 16000000 in
theorem takeroom_any {B D : Nat} {s t : Nat → Nat} {b : Bx} {U : Nat → List Int} {w : World} (h : Dr B D s t b U w) (k q : Nat) (hk : k < 4) (hp0 : 0 < b.p.n) (hp6 : b.p.n ≤ 6) (ho : b.o.n = b.p.n * 8) (hq : q ≤ 4) (hU : ∀ u ∈ U k, 0 ≤ u ∧ u < b.o.n) (E : Value) (hE : w.cell? ⟨3, 0, none⟩ = some E) :
    Calls Tryz.prog 91 #[.pointer (some ⟨D, 0, none⟩), .int .i64 k, .int .i64 ((q : Int) + 1)] w fun e w' => DrA B D s t w (TrQ b U k q E) e w' := by
  obtain ⟨ko, oo, eo, to⟩ := h.addr (x := b.o) (by simp [Bx.lists]) (by omega)
  have EO : Hid (b.o.a = some ⟨ko, oo, none⟩) := eo
  have r1 : w.cell? ⟨D, 9 + k, none⟩ = some (.pointer (some ⟨s k, 0, none⟩)) := h.rcell k hk
  have H0 : Hid (Dr B D s t b U w) := h
  have D1 : Hid (t D = 1) := h.tD
  have HO : Hid (b.o.n = b.p.n * 8) := ho
  clear eo h ho
  rcases hU0 : U k with _ | ⟨u, r⟩
  · have HU0 : Hid (U k = []) := hU0
    obtain ⟨n1, o1⟩ := H0.out.none k hk hU0
    have q0 := run_eql_ptr (P := Tryz.prog) w 83 (s k) (s k) (by kernel_rfl) (by kernel_rfl) o1 o1
    simp only [decide_true] at q0
    have cD : w.cell? ⟨D, 1, none⟩ = some (.slice b.p.a b.p.n b.p.c) := H0.out.cell 1 _ rfl
    have pAt : b.p.At w := H0.out.h.at.p
    clear hU0 hU
    go_enter Tryz.func91, Tryz.ntmps91
    go_wp2_with (fail)
    refine (row_any b.p 1 w pAt (by omega) (by omega) (by omega)).mono ?_
    rintro e w1 ⟨⟨r, rfl, hr⟩, rfl⟩
    rcases hr with ⟨p, hp, rfl, h1, h2⟩ | ⟨rfl, h1⟩
    · have HP : Hid (EmpP b.p.f p 1 ∧ ∀ q, q < p → ¬ EmpP b.p.f q 1) := ⟨h1, h2⟩
      clear h1 h2 hE
      go_wp2_with (fail)
      refine (open_any H0.out p k hk (by omega) (by omega)).mono ?_
      rintro e w2 ⟨rfl, t1, hd⟩
      rw [HU0.out, List.nil_append] at hd
      obtain ⟨A, eA⟩ : ∃ A : Nat, A = p * 8 := ⟨_, rfl⟩
      have HA : Hid (A = p * 8) := eA
      have hA : A < b.o.n := by have := HO.out; omega
      obtain ⟨x, n, F, t2, L2⟩ := hd.first k hk (u := (A : Int)) (r := (carL p k).tail) (by rw [updL_same, eA]; exact carL_cons p k hk)
      clear eA
      have TK : Hid (t1 ko = 2) := hd.d.tL ko (by
        obtain ⟨xx, hxx, hcc, oo', ee⟩ : (b.pag p ((k : Int) + 1)).Lies ko := ⟨b.o, by simp [Bx.lists, Bx.pag], by have := (hd.d.h.each b.o (by simp [Bx.lists, Bx.pag])).1; have := HO.out; omega, oo, EO.out⟩
        exact ⟨xx, hxx, hcc, oo', ee⟩)
      have TD : Hid (t1 D = 1) := hd.d.tD
      have HF : Hid (Fst (s k) k x n _ t1 w2) := F
      have HL : Hid (Du B D s t w1 t2 _ _ _) := L2
      have f1 := F.hc
      have HB : Hid (Du B D s t w1 t1 _ _ w2) := hd
      clear hd L2 F q0 cD pAt n1
      go_wp2_with (fail)
      refine (leave_at x n (s k) _ _ w2 HF.out.hn HF.out.hp HF.out.hc HF.out.hb HF.out.fa HF.out.fb HF.out.xs HF.out.xn).mono ?_
      rintro e w9 ⟨rfl, qn, ew⟩
      have HN : Hid (Du B D s t w1 t2 (b.pag p ((k : Int) + 1)) (updL (updL U k (carL p k)) k ((carL p k).tail)) w9) := by unfold Hid; rw [ew]; exact HL.out.drewN qn
      have u9 : w9.cell? ⟨x, 0, none⟩ = some (.int .i64 (A : Nat)) := by
        rw [ew]
        show World.cell? (World.setCell _ _ _) _ = _
        rw [World.cell?_setCell_other _ _ _ _ (by simp), World.cell?_setCell_other _ _ _ _ (by simp)]
        exact HF.out.hu
      have c9 : w9.cell? ⟨D, 6, none⟩ = some (.slice (some ⟨ko, oo, none⟩) b.o.n b.o.c) := by rw [← EO.out]; exact HN.out.d.cell 6 _ rfl
      obtain ⟨y1, y2⟩ := HN.out.d.at (x := (b.pag p ((k : Int) + 1)).o) (by simp [Bx.lists]) EO.out (j := A) (show A < b.o.n by omega)
      have D9 := HN.out.owner EO.out (A) (show A < b.o.n by omega) ((q : Int) + 1)
      have HD9 : Hid (Du B D s t w1 t2 _ _ _) := D9
      have x1 : x ≠ ko := fun e => by
        have hx := HF.out.ht
        have hk2 := TK.out
        rw [e] at hx
        omega
      have x2 : D ≠ ko := fun e => by
        have hx := TD.out
        have hk2 := TK.out
        rw [e] at hx
        omega
      have Z1 : Hid ((b.pag p ((k : Int) + 1)).o.f (A) = (b.pag p ((k : Int) + 1)).o.f (A)) := rfl
      have X1 : Hid (x ≠ ko ∧ D ≠ ko) := ⟨x1, x2⟩
      have Y1 : Hid (w9.cell? ⟨ko, oo + A, none⟩ = _ ∧ w9.frozen? ⟨ko, oo + A, none⟩ = false) := ⟨y1, y2⟩
      have i9 : ((A : Nat) : Int) < b.o.n := by omega
      clear D9 y1 y2 x1 x2 ew r1
      go_wp2_with (fail)
      refine wp_region_held_drew (S := CsL [(⟨D, 6, none⟩, .slice (some ⟨ko, oo, none⟩) b.o.n b.o.c), (⟨x, 0, none⟩, .int .i64 ((A : Nat) : Int))]) (by kernel_rfl) (CsL.cons c9 (CsL.cons u9 (CsL.nil _))) (fun hS => ?_)
      refine takeB (i := 0) (v := .pointer (some ⟨D, 0, none⟩)) (d := some 42) rfl rfl (by kernel_rfl) (by kernel_rfl) (by kernel_rfl) (fun _ _ _ h => h) (Or.inl ⟨by rfl, fun w' hw => ?_⟩) hS ?_
      · clear hw; go_simp
      try simp only [Act.put, List.setIfInBounds_toArray, List.set_cons_zero, List.set_cons_succ]
      refine takeB (i := 1) (v := .pointer (some ⟨D, 0, none⟩)) (d := some 43) rfl rfl (by kernel_rfl) (by kernel_rfl) (by kernel_rfl) (fun _ _ _ h => h) (Or.inl ⟨by rfl, fun w' hw => ?_⟩) hS ?_
      · clear hw; go_simp
      try simp only [Act.put, List.setIfInBounds_toArray, List.set_cons_zero, List.set_cons_succ]
      refine takeB (i := 2) (v := .pointer (some ⟨D, 0, none⟩)) (d := some 44) rfl rfl (by kernel_rfl) (by kernel_rfl) (by kernel_rfl) (fun _ _ _ h => h) (Or.inl ⟨by rfl, fun w' hw => ?_⟩) hS ?_
      · clear hw; go_simp
      try simp only [Act.put, List.setIfInBounds_toArray, List.set_cons_zero, List.set_cons_succ]
      refine takeB (i := 3) (v := .pointer (some ⟨D, 6, none⟩)) (d := some 45) rfl rfl (by kernel_rfl) (by kernel_rfl) (by kernel_rfl) (fun _ _ _ h => h) (Or.inl ⟨by rfl, fun w' hw => ?_⟩) hS ?_
      · clear hw; go_simp
      try simp only [Act.put, List.setIfInBounds_toArray, List.set_cons_zero, List.set_cons_succ]
      refine takeB (i := 4) (v := .slice (some ⟨ko, oo, none⟩) b.o.n b.o.c) (d := some 46) rfl rfl (by kernel_rfl) (by kernel_rfl) (by kernel_rfl) (fun _ _ _ h => h) (Or.inl ⟨by rfl, fun w' hw => ?_⟩) hS ?_
      · have q := CsL.at hw 0 _ _ rfl; clear hw; go_simp
      try simp only [Act.put, List.setIfInBounds_toArray, List.set_cons_zero, List.set_cons_succ]
      refine takeB (i := 5) (v := .pointer (some ⟨x, 0, none⟩)) (d := some 47) rfl rfl (by kernel_rfl) (by kernel_rfl) (by kernel_rfl) (fun _ _ _ h => h) (Or.inl ⟨by rfl, fun w' hw => ?_⟩) hS ?_
      · clear hw; go_simp
      try simp only [Act.put, List.setIfInBounds_toArray, List.set_cons_zero, List.set_cons_succ]
      refine takeB (i := 6) (v := .pointer (some ⟨x, 0, none⟩)) (d := some 48) rfl rfl (by kernel_rfl) (by kernel_rfl) (by kernel_rfl) (fun _ _ _ h => h) (Or.inl ⟨by rfl, fun w' hw => ?_⟩) hS ?_
      · clear hw; go_simp
      try simp only [Act.put, List.setIfInBounds_toArray, List.set_cons_zero, List.set_cons_succ]
      refine takeB (i := 7) (v := .pointer (some ⟨x, 0, none⟩)) (d := some 49) rfl rfl (by kernel_rfl) (by kernel_rfl) (by kernel_rfl) (fun _ _ _ h => h) (Or.inl ⟨by rfl, fun w' hw => ?_⟩) hS ?_
      · clear hw; go_simp
      try simp only [Act.put, List.setIfInBounds_toArray, List.set_cons_zero, List.set_cons_succ]
      refine takeB (i := 8) (v := .int .i64 ((A : Nat) : Int)) (d := some 50) rfl rfl (by kernel_rfl) (by kernel_rfl) (by kernel_rfl) (fun _ _ _ h => h) (Or.inl ⟨by rfl, fun w' hw => ?_⟩) hS ?_
      · have q := CsL.at hw 1 _ _ rfl; clear hw; go_simp
      try simp only [Act.put, List.setIfInBounds_toArray, List.set_cons_zero, List.set_cons_succ]
      refine takeB (i := 9) (v := .int .i64 ((q : Int) + 1)) (d := some 51) rfl rfl (by kernel_rfl) (by kernel_rfl) (by kernel_rfl) (fun _ _ _ h => h) (Or.inl ⟨by rfl, fun w' hw => ?_⟩) hS ?_
      · clear hw; go_simp
      try simp only [Act.put, List.setIfInBounds_toArray, List.set_cons_zero, List.set_cons_succ]
      refine takeB (i := 10) (v := .pointer (some ⟨ko, oo + A, none⟩)) (d := some 52) rfl rfl (by kernel_rfl) (by kernel_rfl) (by kernel_rfl) (fun _ _ _ h => h) (Or.inl ⟨by rfl, fun w' hw => ?_⟩) hS ?_
      · clear hw; go_simp
      try simp only [Act.put, List.setIfInBounds_toArray, List.set_cons_zero, List.set_cons_succ]
      refine wpAnyH_ready (rs := [11]) (by kernel_rfl) (by simp) ?_
      refine AllReadyH.cons rfl (fun K hK => ?_) AllReadyH.nil
      have y1 : w9.drew.cell? ⟨ko, oo + A, none⟩ = _ := Y1.out.1
      have y2 : w9.drew.frozen? ⟨ko, oo + A, none⟩ = false := Y1.out.2
      have HS2 : Hid (CsL [(⟨D, 6, none⟩, .slice (some ⟨ko, oo, none⟩) b.o.n b.o.c), (⟨x, 0, none⟩, .int .i64 ((A : Nat) : Int))] (w9.setCell ⟨ko, oo + A, none⟩ (.int .i64 ((q : Int) + 1))).drew) := CsL.set (w := w9) (CsL.cons c9 (CsL.cons u9 (CsL.nil _))) _ _ (by intro y hy; simp at hy; rcases hy with rfl | rfl; exact X1.out.2; exact X1.out.1)
      clear hS
      go_simp
      refine hK.out _ _ HS2.out (fun hS => ?_)
      clear hK K
      try simp only [Act.put, List.setIfInBounds_toArray, List.set_cons_zero, List.set_cons_succ]
      refine wpAnyH_done (by kernel_rfl) ?_ _
      clear hS
      have HDr : Hid (Du B D s t w1 t2 ((b.pag p ((k : Int) + 1)).own (A) ((q : Int) + 1)) (updL (updL U k (carL p k)) k ((carL p k).tail)) (w9.setCell ⟨ko, oo + A, none⟩ (.int .i64 ((q : Int) + 1))).drew) := (HN.out.owner EO.out (A) (show A < b.o.n by omega) ((q : Int) + 1)).drewN 1
      generalize World.drew (World.setCell w9 ⟨ko, oo + A, none⟩ (.int .i64 ((q : Int) + 1))) = W9 at HS2 HDr ⊢
      have u10 : W9.cell? ⟨x, 0, none⟩ = some (.int .i64 (A : Nat)) := CsL.at HS2.out 1 _ _ rfl
      clear y1 y2 c9 u9
      go_wp2_with (fail)
      refine bodyPost_ret (v := .tuple #[.int .i64 ((A : Nat) : Int), .nilIface]) (by simp [results, Tryz.results91]) rfl ?_
      have HDr := HDr.out
      have eA := HA.out
      subst eA
      exact DrA.mk HDr (.inr (.inr ⟨HU0.out, p, hp, HP.out.1, HP.out.2, rfl, updL_two _ _ _ _, rfl⟩))
    · go_wp2_with (fail)
      go_quiet (fail)
      go_wp2_with (fail)
      refine bodyPost_ret (v := .tuple #[.int .i64 0, E]) (by simp [results, Tryz.results91]) rfl ?_
      exact DrA.mk ((Du.start H0.out).drewN _) (.inr (.inl ⟨HU0.out, h1, rfl, rfl, rfl⟩))
  · have hu := hU u (by rw [hU0]; exact List.mem_cons_self)
    obtain ⟨A, rfl⟩ : ∃ A : Nat, u = A := ⟨u.toNat, by omega⟩
    have HU0 : Hid (U k = (A : Int) :: r) := hU0
    obtain ⟨x, n, F, t2, L2⟩ := (Du.start H0.out).first k hk hU0
    have TK : Hid (t ko = 2) := to
    have TD : Hid (t D = 1) := D1
    have HF : Hid (Fst (s k) k x n _ t w) := F
    have HL : Hid (Du B D s t w t2 _ _ _) := L2
    have f1 := F.hc
    have q0 := run_eql_ptr (P := Tryz.prog) w 83 x (s k) (by kernel_rfl) (by kernel_rfl) F.ox F.os
    simp only [decide_eq_false F.xs] at q0
    have hA : A < b.o.n := by omega
    clear hU0 hU hu F L2 hE
    go_enter Tryz.func91, Tryz.ntmps91
    go_wp2_with (fail)
    refine (leave_at x n (s k) _ _ w HF.out.hn HF.out.hp HF.out.hc HF.out.hb HF.out.fa HF.out.fb HF.out.xs HF.out.xn).mono ?_
    rintro e w9 ⟨rfl, qn, ew⟩
    have HN : Hid (Du B D s t w t2 (b) (updL (U) k (r)) w9) := by unfold Hid; rw [ew]; exact HL.out.drewN qn
    have u9 : w9.cell? ⟨x, 0, none⟩ = some (.int .i64 (A : Nat)) := by
      rw [ew]
      show World.cell? (World.setCell _ _ _) _ = _
      rw [World.cell?_setCell_other _ _ _ _ (by simp), World.cell?_setCell_other _ _ _ _ (by simp)]
      exact HF.out.hu
    have c9 : w9.cell? ⟨D, 6, none⟩ = some (.slice (some ⟨ko, oo, none⟩) b.o.n b.o.c) := by rw [← EO.out]; exact HN.out.d.cell 6 _ rfl
    obtain ⟨y1, y2⟩ := HN.out.d.at (x := (b).o) (by simp [Bx.lists]) EO.out (j := A) (show A < b.o.n by omega)
    have D9 := HN.out.owner EO.out (A) (show A < b.o.n by omega) ((q : Int) + 1)
    have HD9 : Hid (Du B D s t w t2 _ _ _) := D9
    have x1 : x ≠ ko := fun e => by
      have hx := HF.out.ht
      have hk2 := TK.out
      rw [e] at hx
      omega
    have x2 : D ≠ ko := fun e => by
      have hx := TD.out
      have hk2 := TK.out
      rw [e] at hx
      omega
    have Z1 : Hid ((b).o.f (A) = (b).o.f (A)) := rfl
    have X1 : Hid (x ≠ ko ∧ D ≠ ko) := ⟨x1, x2⟩
    have Y1 : Hid (w9.cell? ⟨ko, oo + A, none⟩ = _ ∧ w9.frozen? ⟨ko, oo + A, none⟩ = false) := ⟨y1, y2⟩
    have i9 : ((A : Nat) : Int) < b.o.n := by omega
    clear D9 y1 y2 x1 x2 ew r1
    go_wp2_with (fail)
    refine wp_region_held_drew (S := CsL [(⟨D, 6, none⟩, .slice (some ⟨ko, oo, none⟩) b.o.n b.o.c), (⟨x, 0, none⟩, .int .i64 ((A : Nat) : Int))]) (by kernel_rfl) (CsL.cons c9 (CsL.cons u9 (CsL.nil _))) (fun hS => ?_)
    refine takeB (i := 0) (v := .pointer (some ⟨D, 0, none⟩)) (d := some 42) rfl rfl (by kernel_rfl) (by kernel_rfl) (by kernel_rfl) (fun _ _ _ h => h) (Or.inl ⟨by rfl, fun w' hw => ?_⟩) hS ?_
    · clear hw; go_simp
    try simp only [Act.put, List.setIfInBounds_toArray, List.set_cons_zero, List.set_cons_succ]
    refine takeB (i := 1) (v := .pointer (some ⟨D, 0, none⟩)) (d := some 43) rfl rfl (by kernel_rfl) (by kernel_rfl) (by kernel_rfl) (fun _ _ _ h => h) (Or.inl ⟨by rfl, fun w' hw => ?_⟩) hS ?_
    · clear hw; go_simp
    try simp only [Act.put, List.setIfInBounds_toArray, List.set_cons_zero, List.set_cons_succ]
    refine takeB (i := 2) (v := .pointer (some ⟨D, 0, none⟩)) (d := some 44) rfl rfl (by kernel_rfl) (by kernel_rfl) (by kernel_rfl) (fun _ _ _ h => h) (Or.inl ⟨by rfl, fun w' hw => ?_⟩) hS ?_
    · clear hw; go_simp
    try simp only [Act.put, List.setIfInBounds_toArray, List.set_cons_zero, List.set_cons_succ]
    refine takeB (i := 3) (v := .pointer (some ⟨D, 6, none⟩)) (d := some 45) rfl rfl (by kernel_rfl) (by kernel_rfl) (by kernel_rfl) (fun _ _ _ h => h) (Or.inl ⟨by rfl, fun w' hw => ?_⟩) hS ?_
    · clear hw; go_simp
    try simp only [Act.put, List.setIfInBounds_toArray, List.set_cons_zero, List.set_cons_succ]
    refine takeB (i := 4) (v := .slice (some ⟨ko, oo, none⟩) b.o.n b.o.c) (d := some 46) rfl rfl (by kernel_rfl) (by kernel_rfl) (by kernel_rfl) (fun _ _ _ h => h) (Or.inl ⟨by rfl, fun w' hw => ?_⟩) hS ?_
    · have q := CsL.at hw 0 _ _ rfl; clear hw; go_simp
    try simp only [Act.put, List.setIfInBounds_toArray, List.set_cons_zero, List.set_cons_succ]
    refine takeB (i := 5) (v := .pointer (some ⟨x, 0, none⟩)) (d := some 47) rfl rfl (by kernel_rfl) (by kernel_rfl) (by kernel_rfl) (fun _ _ _ h => h) (Or.inl ⟨by rfl, fun w' hw => ?_⟩) hS ?_
    · clear hw; go_simp
    try simp only [Act.put, List.setIfInBounds_toArray, List.set_cons_zero, List.set_cons_succ]
    refine takeB (i := 6) (v := .pointer (some ⟨x, 0, none⟩)) (d := some 48) rfl rfl (by kernel_rfl) (by kernel_rfl) (by kernel_rfl) (fun _ _ _ h => h) (Or.inl ⟨by rfl, fun w' hw => ?_⟩) hS ?_
    · clear hw; go_simp
    try simp only [Act.put, List.setIfInBounds_toArray, List.set_cons_zero, List.set_cons_succ]
    refine takeB (i := 7) (v := .pointer (some ⟨x, 0, none⟩)) (d := some 49) rfl rfl (by kernel_rfl) (by kernel_rfl) (by kernel_rfl) (fun _ _ _ h => h) (Or.inl ⟨by rfl, fun w' hw => ?_⟩) hS ?_
    · clear hw; go_simp
    try simp only [Act.put, List.setIfInBounds_toArray, List.set_cons_zero, List.set_cons_succ]
    refine takeB (i := 8) (v := .int .i64 ((A : Nat) : Int)) (d := some 50) rfl rfl (by kernel_rfl) (by kernel_rfl) (by kernel_rfl) (fun _ _ _ h => h) (Or.inl ⟨by rfl, fun w' hw => ?_⟩) hS ?_
    · have q := CsL.at hw 1 _ _ rfl; clear hw; go_simp
    try simp only [Act.put, List.setIfInBounds_toArray, List.set_cons_zero, List.set_cons_succ]
    refine takeB (i := 9) (v := .int .i64 ((q : Int) + 1)) (d := some 51) rfl rfl (by kernel_rfl) (by kernel_rfl) (by kernel_rfl) (fun _ _ _ h => h) (Or.inl ⟨by rfl, fun w' hw => ?_⟩) hS ?_
    · clear hw; go_simp
    try simp only [Act.put, List.setIfInBounds_toArray, List.set_cons_zero, List.set_cons_succ]
    refine takeB (i := 10) (v := .pointer (some ⟨ko, oo + A, none⟩)) (d := some 52) rfl rfl (by kernel_rfl) (by kernel_rfl) (by kernel_rfl) (fun _ _ _ h => h) (Or.inl ⟨by rfl, fun w' hw => ?_⟩) hS ?_
    · clear hw; go_simp
    try simp only [Act.put, List.setIfInBounds_toArray, List.set_cons_zero, List.set_cons_succ]
    refine wpAnyH_ready (rs := [11]) (by kernel_rfl) (by simp) ?_
    refine AllReadyH.cons rfl (fun K hK => ?_) AllReadyH.nil
    have y1 : w9.drew.cell? ⟨ko, oo + A, none⟩ = _ := Y1.out.1
    have y2 : w9.drew.frozen? ⟨ko, oo + A, none⟩ = false := Y1.out.2
    have HS2 : Hid (CsL [(⟨D, 6, none⟩, .slice (some ⟨ko, oo, none⟩) b.o.n b.o.c), (⟨x, 0, none⟩, .int .i64 ((A : Nat) : Int))] (w9.setCell ⟨ko, oo + A, none⟩ (.int .i64 ((q : Int) + 1))).drew) := CsL.set (w := w9) (CsL.cons c9 (CsL.cons u9 (CsL.nil _))) _ _ (by intro y hy; simp at hy; rcases hy with rfl | rfl; exact X1.out.2; exact X1.out.1)
    clear hS
    go_simp
    refine hK.out _ _ HS2.out (fun hS => ?_)
    clear hK K
    try simp only [Act.put, List.setIfInBounds_toArray, List.set_cons_zero, List.set_cons_succ]
    refine wpAnyH_done (by kernel_rfl) ?_ _
    clear hS
    have HDr : Hid (Du B D s t w t2 ((b).own (A) ((q : Int) + 1)) (updL (U) k (r)) (w9.setCell ⟨ko, oo + A, none⟩ (.int .i64 ((q : Int) + 1))).drew) := (HN.out.owner EO.out (A) (show A < b.o.n by omega) ((q : Int) + 1)).drewN 1
    generalize World.drew (World.setCell w9 ⟨ko, oo + A, none⟩ (.int .i64 ((q : Int) + 1))) = W9 at HS2 HDr ⊢
    have u10 : W9.cell? ⟨x, 0, none⟩ = some (.int .i64 (A : Nat)) := CsL.at HS2.out 1 _ _ rfl
    clear y1 y2 c9 u9
    go_wp2_with (fail)
    refine bodyPost_ret (v := .tuple #[.int .i64 ((A : Nat) : Int), .nilIface]) (by simp [results, Tryz.results91]) rfl ?_
    have HDr := HDr.out
    exact DrA.mk HDr (.inl ⟨A, r, HU0.out, rfl, rfl, rfl⟩)

end Go.Proofs.YtbeamigbcfkjjaaGreatDoor.Dra

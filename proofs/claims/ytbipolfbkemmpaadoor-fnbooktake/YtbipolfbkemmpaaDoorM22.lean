import Derived.Test.YtbipolfbkemmpaaDoorM21
import Derived.Test.YtbipolfbkemmpaaDoorM19
import Derived.Test.YtbipolfbkemmpaaDoorM10
import Derived.Test.YtbipolfbkemmpaaDoorM11
import Derived.Test.YtbipolfbkemmpaaDoorM15

/- The program's takeRoom. -/
namespace Go.Proofs.YtbipolfbkemmpaaDoor.Dra
open Go.ChangeShapes Go.WideShapes Go.ChangeAt Go.RowKit
open Aid Lst Book Rin
set_option maxRecDepth 100000
set_option linter.unusedVariables false

theorem carL_cons (p k : Nat) (hk : k < 4) : carL p k = ((p * 8 : Nat) : Int) :: (carL p k).tail := by
  obtain rfl | rfl | rfl | rfl : k = 0 ∨ k = 1 ∨ k = 2 ∨ k = 3 := by omega
  all_goals simp [carL, carF, rowU]
/- How a room is taken. -/
def TrQ (b : Bx) (U : Nat → List Int) (k t : Nat) (E : Value) (c : Bx) (V : Nat → List Int) (v : Value) : Prop :=
  (∃ (u : Nat) (r : List Int), U k = (u : Int) :: r ∧ c = b.own u ((t : Int) + 1) ∧ V = updL U k r ∧ v = .tuple #[.int .i64 u, .nilIface]) ∨
  (U k = [] ∧ (∀ q, q + 1 ≤ b.p.n → ¬ EmpP b.p.f q 1) ∧ c = b ∧ V = U ∧ v = .tuple #[.int .i64 0, E]) ∨
  (U k = [] ∧ ∃ p : Nat, p + 1 ≤ b.p.n ∧ EmpP b.p.f p 1 ∧ (∀ q, q < p → ¬ EmpP b.p.f q 1) ∧ c = (b.pag p ((k : Int) + 1)).own (p * 8) ((t : Int) + 1) ∧ V = updL U k (carL p k).tail ∧ v = .tuple #[.int .i64 ((p * 8 : Nat) : Int), .nilIface])

set_option maxHeartbeats 16000000 in
theorem takeroom_any {B D : Nat} {s t : Nat → Nat} {b : Bx} {U : Nat → List Int} {w : World} (h : Dr B D s t b U w) (k q : Nat) (hk : k < 4) (hp0 : 0 < b.p.n) (hp6 : b.p.n ≤ 6) (ho : b.o.n = b.p.n * 8) (hq : q ≤ 4) (hU : ∀ u ∈ U k, 0 ≤ u ∧ u < b.o.n) (E : Value) (hE : w.cell? ⟨3, 0, none⟩ = some E) :
    Calls Tryd.prog 86 #[.pointer (some ⟨D, 0, none⟩), .int .i64 k, .int .i64 ((q : Int) + 1)] w fun e w' => DrA B D s t w (TrQ b U k q E) e w' := by
  obtain ⟨ko, oo, eo, to⟩ := h.addr (x := b.o) (by simp [Bx.lists]) (by omega)
  have EO : Hid (b.o.a = some ⟨ko, oo, none⟩) := eo
  have r1 : w.cell? ⟨D, 9 + k, none⟩ = some (.pointer (some ⟨s k, 0, none⟩)) := h.rcell k hk
  have H0 : Hid (Dr B D s t b U w) := h
  have D1 : Hid (t D = 1) := h.tD
  have HO : Hid (b.o.n = b.p.n * 8) := ho
  clear eo h ho
  rcases hU0 : U k with _ | ⟨u, r⟩
  · have HU0 : Hid (U k = []) := hU0
    obtain ⟨n1, o1⟩ := H0.out.none k hk hU0
    have q0 := run_eql_ptr (P := Tryd.prog) w 65 (s k) (s k) (by kernel_rfl) (by kernel_rfl) o1 o1
    simp only [decide_true] at q0
    have cD : w.cell? ⟨D, 1, none⟩ = some (.slice b.p.a b.p.n b.p.c) := H0.out.cell 1 _ rfl
    have pAt : b.p.At w := H0.out.h.at.p
    clear hU0 hU
    go_enter Tryd.func86, Tryd.ntmps86
    go_wp2_with (fail)
    refine (row_any b.p 1 w pAt (by omega) (by omega) (by omega)).mono ?_
    rintro e w1 ⟨⟨r, rfl, hr⟩, rfl⟩
    rcases hr with ⟨p, hp, rfl, h1, h2⟩ | ⟨rfl, h1⟩
    · have HP : Hid (EmpP b.p.f p 1 ∧ ∀ q, q < p → ¬ EmpP b.p.f q 1) := ⟨h1, h2⟩
      clear h1 h2 hE
      go_wp2_with (fail)
      refine (open_any H0.out p k hk (by omega) (by omega)).mono ?_
      rintro e w2 ⟨rfl, t1, hd⟩
      rw [HU0.out, List.nil_append] at hd
      obtain ⟨A, eA⟩ : ∃ A : Nat, A = p * 8 := ⟨_, rfl⟩
      have HA : Hid (A = p * 8) := eA
      have hA : A < b.o.n := by have := HO.out; omega
      obtain ⟨x, n, F, t2, L2⟩ := hd.first k hk (u := (A : Int)) (r := (carL p k).tail) (by rw [updL_same, eA]; exact carL_cons p k hk)
      clear eA
      have TK : Hid (t1 ko = 2) := hd.d.tL ko (by
        obtain ⟨xx, hxx, hcc, oo', ee⟩ : (b.pag p ((k : Int) + 1)).Lies ko := ⟨b.o, by simp [Bx.lists, Bx.pag], by have := (hd.d.h.each b.o (by simp [Bx.lists, Bx.pag])).1; have := HO.out; omega, oo, EO.out⟩
        exact ⟨xx, hxx, hcc, oo', ee⟩)
      have TD : Hid (t1 D = 1) := hd.d.tD
      have HF : Hid (Fst (s k) k x n _ t1 w2) := F
      have HL : Hid (Du B D s t w1 t2 _ _ _) := L2
      have f1 := F.hc
      have HB : Hid (Du B D s t w1 t1 _ _ w2) := hd
      clear hd L2 F q0 cD pAt n1
      go_wp2_with (fail)
      refine (leave_at x n (s k) _ _ w2 HF.out.hn HF.out.hp HF.out.hc HF.out.hb HF.out.fa HF.out.fb HF.out.xs HF.out.xn).mono ?_
      rintro e w9 ⟨rfl, qn, ew⟩
      have HN : Hid (Du B D s t w1 t2 (b.pag p ((k : Int) + 1)) (updL (updL U k (carL p k)) k ((carL p k).tail)) w9) := by unfold Hid; rw [ew]; exact HL.out.drewN qn
      have u9 : w9.cell? ⟨x, 0, none⟩ = some (.int .i64 (A : Nat)) := by
        rw [ew]
        show World.cell? (World.setCell _ _ _) _ = _
        rw [World.cell?_setCell_other _ _ _ _ (by simp), World.cell?_setCell_other _ _ _ _ (by simp)]
        exact HF.out.hu
      have c9 : w9.cell? ⟨D, 6, none⟩ = some (.slice (some ⟨ko, oo, none⟩) b.o.n b.o.c) := by rw [← EO.out]; exact HN.out.d.cell 6 _ rfl
      obtain ⟨y1, y2⟩ := HN.out.d.at (x := (b.pag p ((k : Int) + 1)).o) (by simp [Bx.lists]) EO.out (j := A) (show A < b.o.n by omega)
      have D9 := HN.out.owner EO.out (A) (show A < b.o.n by omega) ((q : Int) + 1)
      have HD9 : Hid (Du B D s t w1 t2 _ _ _) := D9
      have x1 : x ≠ ko := fun e => by
        have hx := HF.out.ht
        have hk2 := TK.out
        rw [e] at hx
        omega
      have x2 : D ≠ ko := fun e => by
        have hx := TD.out
        have hk2 := TK.out
        rw [e] at hx
        omega
      have Z1 : Hid ((b.pag p ((k : Int) + 1)).o.f (A) = (b.pag p ((k : Int) + 1)).o.f (A)) := rfl
      have X1 : Hid (x ≠ ko ∧ D ≠ ko) := ⟨x1, x2⟩
      have Y1 : Hid (w9.cell? ⟨ko, oo + A, none⟩ = _ ∧ w9.frozen? ⟨ko, oo + A, none⟩ = false) := ⟨y1, y2⟩
      have i9 : ((A : Nat) : Int) < b.o.n := by omega
      clear D9 y1 y2 x1 x2 ew r1
      go_wp2_with (fail)
      refine wp_region_held_drew (S := CsL [(⟨D, 6, none⟩, .slice (some ⟨ko, oo, none⟩) b.o.n b.o.c), (⟨x, 0, none⟩, .int .i64 ((A : Nat) : Int))]) (by kernel_rfl) (CsL.cons c9 (CsL.cons u9 (CsL.nil _))) (fun hS => ?_)
      refine tI 0 (v := .pointer (some ⟨D, 0, none⟩)) (d := some 42) rfl rfl (fun w' hw => ?_) hS ?_
      · clear hw; go_simp
      try simp only [Act.put, s1, s2, s3]
      refine tI 1 (v := .pointer (some ⟨D, 0, none⟩)) (d := some 43) rfl rfl (fun w' hw => ?_) hS ?_
      · clear hw; go_simp
      try simp only [Act.put, s1, s2, s3]
      refine tI 2 (v := .pointer (some ⟨D, 0, none⟩)) (d := some 44) rfl rfl (fun w' hw => ?_) hS ?_
      · clear hw; go_simp
      try simp only [Act.put, s1, s2, s3]
      refine tI 3 (v := .pointer (some ⟨D, 6, none⟩)) (d := some 45) rfl rfl (fun w' hw => ?_) hS ?_
      · clear hw; go_simp
      try simp only [Act.put, s1, s2, s3]
      refine tI 4 (v := .slice (some ⟨ko, oo, none⟩) b.o.n b.o.c) (d := some 46) rfl rfl (fun w' hw => ?_) hS ?_
      · have q := CsL.at hw 0 _ _ rfl; clear hw; go_simp
      try simp only [Act.put, s1, s2, s3]
      refine tI 5 (v := .pointer (some ⟨x, 0, none⟩)) (d := some 47) rfl rfl (fun w' hw => ?_) hS ?_
      · clear hw; go_simp
      try simp only [Act.put, s1, s2, s3]
      refine tI 6 (v := .pointer (some ⟨x, 0, none⟩)) (d := some 48) rfl rfl (fun w' hw => ?_) hS ?_
      · clear hw; go_simp
      try simp only [Act.put, s1, s2, s3]
      refine tI 7 (v := .pointer (some ⟨x, 0, none⟩)) (d := some 49) rfl rfl (fun w' hw => ?_) hS ?_
      · clear hw; go_simp
      try simp only [Act.put, s1, s2, s3]
      refine tI 8 (v := .int .i64 ((A : Nat) : Int)) (d := some 50) rfl rfl (fun w' hw => ?_) hS ?_
      · have q := CsL.at hw 1 _ _ rfl; clear hw; go_simp
      try simp only [Act.put, s1, s2, s3]
      refine tI 9 (v := .int .i64 ((q : Int) + 1)) (d := some 51) rfl rfl (fun w' hw => ?_) hS ?_
      · clear hw; go_simp
      try simp only [Act.put, s1, s2, s3]
      refine tI 10 (v := .pointer (some ⟨ko, oo + A, none⟩)) (d := some 52) rfl rfl (fun w' hw => ?_) hS ?_
      · clear hw; go_simp
      try simp only [Act.put, s1, s2, s3]
      refine r1 11 rfl (fun K hK => ?_)
      have y1 : w9.drew.cell? ⟨ko, oo + A, none⟩ = _ := Y1.out.1
      have y2 : w9.drew.frozen? ⟨ko, oo + A, none⟩ = false := Y1.out.2
      have HS2 : Hid (CsL [(⟨D, 6, none⟩, .slice (some ⟨ko, oo, none⟩) b.o.n b.o.c), (⟨x, 0, none⟩, .int .i64 ((A : Nat) : Int))] (w9.setCell ⟨ko, oo + A, none⟩ (.int .i64 ((q : Int) + 1))).drew) := CsL.set (w := w9) (CsL.cons c9 (CsL.cons u9 (CsL.nil _))) _ _ (by intro y hy; simp at hy; rcases hy with rfl | rfl; exact X1.out.2; exact X1.out.1)
      clear hS
      go_simp
      refine hK.out _ _ HS2.out (fun hS => ?_)
      clear hK K
      try simp only [Act.put, s1, s2, s3]
      refine wpAnyH_done (by kernel_rfl) ?_ _
      clear hS
      have HDr : Hid (Du B D s t w1 t2 ((b.pag p ((k : Int) + 1)).own (A) ((q : Int) + 1)) (updL (updL U k (carL p k)) k ((carL p k).tail)) (w9.setCell ⟨ko, oo + A, none⟩ (.int .i64 ((q : Int) + 1))).drew) := (HN.out.owner EO.out (A) (show A < b.o.n by omega) ((q : Int) + 1)).drewN 1
      generalize World.drew (World.setCell w9 ⟨ko, oo + A, none⟩ (.int .i64 ((q : Int) + 1))) = W9 at HS2 HDr ⊢
      have u10 : W9.cell? ⟨x, 0, none⟩ = some (.int .i64 (A : Nat)) := CsL.at HS2.out 1 _ _ rfl
      clear y1 y2 c9 u9
      go_wp2_with (fail)
      refine bodyPost_ret (v := .tuple #[.int .i64 ((A : Nat) : Int), .nilIface]) (by simp [results, Tryd.results86]) rfl ?_
      have HDr := HDr.out
      have eA := HA.out
      subst eA
      exact DrA.mk HDr (.inr (.inr ⟨HU0.out, p, hp, HP.out.1, HP.out.2, rfl, updL_two _ _ _ _, rfl⟩))
    · go_wp2_with (fail)
      go_quiet (fail)
      go_wp2_with (fail)
      refine bodyPost_ret (v := .tuple #[.int .i64 0, E]) (by simp [results, Tryd.results86]) rfl ?_
      exact DrA.mk ((Du.start H0.out).drewN _) (.inr (.inl ⟨HU0.out, h1, rfl, rfl, rfl⟩))
  · have hu := hU u (by rw [hU0]; exact List.mem_cons_self)
    obtain ⟨A, rfl⟩ : ∃ A : Nat, u = A := ⟨u.toNat, by omega⟩
    have HU0 : Hid (U k = (A : Int) :: r) := hU0
    obtain ⟨x, n, F, t2, L2⟩ := (Du.start H0.out).first k hk hU0
    have TK : Hid (t ko = 2) := to
    have TD : Hid (t D = 1) := D1
    have HF : Hid (Fst (s k) k x n _ t w) := F
    have HL : Hid (Du B D s t w t2 _ _ _) := L2
    have f1 := F.hc
    have q0 := run_eql_ptr (P := Tryd.prog) w 65 x (s k) (by kernel_rfl) (by kernel_rfl) F.ox F.os
    simp only [decide_eq_false F.xs] at q0
    have hA : A < b.o.n := by omega
    clear hU0 hU hu F L2 hE
    go_enter Tryd.func86, Tryd.ntmps86
    go_wp2_with (fail)
    refine (leave_at x n (s k) _ _ w HF.out.hn HF.out.hp HF.out.hc HF.out.hb HF.out.fa HF.out.fb HF.out.xs HF.out.xn).mono ?_
    rintro e w9 ⟨rfl, qn, ew⟩
    have HN : Hid (Du B D s t w t2 (b) (updL (U) k (r)) w9) := by unfold Hid; rw [ew]; exact HL.out.drewN qn
    have u9 : w9.cell? ⟨x, 0, none⟩ = some (.int .i64 (A : Nat)) := by
      rw [ew]
      show World.cell? (World.setCell _ _ _) _ = _
      rw [World.cell?_setCell_other _ _ _ _ (by simp), World.cell?_setCell_other _ _ _ _ (by simp)]
      exact HF.out.hu
    have c9 : w9.cell? ⟨D, 6, none⟩ = some (.slice (some ⟨ko, oo, none⟩) b.o.n b.o.c) := by rw [← EO.out]; exact HN.out.d.cell 6 _ rfl
    obtain ⟨y1, y2⟩ := HN.out.d.at (x := (b).o) (by simp [Bx.lists]) EO.out (j := A) (show A < b.o.n by omega)
    have D9 := HN.out.owner EO.out (A) (show A < b.o.n by omega) ((q : Int) + 1)
    have HD9 : Hid (Du B D s t w t2 _ _ _) := D9
    have x1 : x ≠ ko := fun e => by
      have hx := HF.out.ht
      have hk2 := TK.out
      rw [e] at hx
      omega
    have x2 : D ≠ ko := fun e => by
      have hx := TD.out
      have hk2 := TK.out
      rw [e] at hx
      omega
    have Z1 : Hid ((b).o.f (A) = (b).o.f (A)) := rfl
    have X1 : Hid (x ≠ ko ∧ D ≠ ko) := ⟨x1, x2⟩
    have Y1 : Hid (w9.cell? ⟨ko, oo + A, none⟩ = _ ∧ w9.frozen? ⟨ko, oo + A, none⟩ = false) := ⟨y1, y2⟩
    have i9 : ((A : Nat) : Int) < b.o.n := by omega
    clear D9 y1 y2 x1 x2 ew r1
    go_wp2_with (fail)
    refine wp_region_held_drew (S := CsL [(⟨D, 6, none⟩, .slice (some ⟨ko, oo, none⟩) b.o.n b.o.c), (⟨x, 0, none⟩, .int .i64 ((A : Nat) : Int))]) (by kernel_rfl) (CsL.cons c9 (CsL.cons u9 (CsL.nil _))) (fun hS => ?_)
    refine tI 0 (v := .pointer (some ⟨D, 0, none⟩)) (d := some 42) rfl rfl (fun w' hw => ?_) hS ?_
    · clear hw; go_simp
    try simp only [Act.put, s1, s2, s3]
    refine tI 1 (v := .pointer (some ⟨D, 0, none⟩)) (d := some 43) rfl rfl (fun w' hw => ?_) hS ?_
    · clear hw; go_simp
    try simp only [Act.put, s1, s2, s3]
    refine tI 2 (v := .pointer (some ⟨D, 0, none⟩)) (d := some 44) rfl rfl (fun w' hw => ?_) hS ?_
    · clear hw; go_simp
    try simp only [Act.put, s1, s2, s3]
    refine tI 3 (v := .pointer (some ⟨D, 6, none⟩)) (d := some 45) rfl rfl (fun w' hw => ?_) hS ?_
    · clear hw; go_simp
    try simp only [Act.put, s1, s2, s3]
    refine tI 4 (v := .slice (some ⟨ko, oo, none⟩) b.o.n b.o.c) (d := some 46) rfl rfl (fun w' hw => ?_) hS ?_
    · have q := CsL.at hw 0 _ _ rfl; clear hw; go_simp
    try simp only [Act.put, s1, s2, s3]
    refine tI 5 (v := .pointer (some ⟨x, 0, none⟩)) (d := some 47) rfl rfl (fun w' hw => ?_) hS ?_
    · clear hw; go_simp
    try simp only [Act.put, s1, s2, s3]
    refine tI 6 (v := .pointer (some ⟨x, 0, none⟩)) (d := some 48) rfl rfl (fun w' hw => ?_) hS ?_
    · clear hw; go_simp
    try simp only [Act.put, s1, s2, s3]
    refine tI 7 (v := .pointer (some ⟨x, 0, none⟩)) (d := some 49) rfl rfl (fun w' hw => ?_) hS ?_
    · clear hw; go_simp
    try simp only [Act.put, s1, s2, s3]
    refine tI 8 (v := .int .i64 ((A : Nat) : Int)) (d := some 50) rfl rfl (fun w' hw => ?_) hS ?_
    · have q := CsL.at hw 1 _ _ rfl; clear hw; go_simp
    try simp only [Act.put, s1, s2, s3]
    refine tI 9 (v := .int .i64 ((q : Int) + 1)) (d := some 51) rfl rfl (fun w' hw => ?_) hS ?_
    · clear hw; go_simp
    try simp only [Act.put, s1, s2, s3]
    refine tI 10 (v := .pointer (some ⟨ko, oo + A, none⟩)) (d := some 52) rfl rfl (fun w' hw => ?_) hS ?_
    · clear hw; go_simp
    try simp only [Act.put, s1, s2, s3]
    refine r1 11 rfl (fun K hK => ?_)
    have y1 : w9.drew.cell? ⟨ko, oo + A, none⟩ = _ := Y1.out.1
    have y2 : w9.drew.frozen? ⟨ko, oo + A, none⟩ = false := Y1.out.2
    have HS2 : Hid (CsL [(⟨D, 6, none⟩, .slice (some ⟨ko, oo, none⟩) b.o.n b.o.c), (⟨x, 0, none⟩, .int .i64 ((A : Nat) : Int))] (w9.setCell ⟨ko, oo + A, none⟩ (.int .i64 ((q : Int) + 1))).drew) := CsL.set (w := w9) (CsL.cons c9 (CsL.cons u9 (CsL.nil _))) _ _ (by intro y hy; simp at hy; rcases hy with rfl | rfl; exact X1.out.2; exact X1.out.1)
    clear hS
    go_simp
    refine hK.out _ _ HS2.out (fun hS => ?_)
    clear hK K
    try simp only [Act.put, s1, s2, s3]
    refine wpAnyH_done (by kernel_rfl) ?_ _
    clear hS
    have HDr : Hid (Du B D s t w t2 ((b).own (A) ((q : Int) + 1)) (updL (U) k (r)) (w9.setCell ⟨ko, oo + A, none⟩ (.int .i64 ((q : Int) + 1))).drew) := (HN.out.owner EO.out (A) (show A < b.o.n by omega) ((q : Int) + 1)).drewN 1
    generalize World.drew (World.setCell w9 ⟨ko, oo + A, none⟩ (.int .i64 ((q : Int) + 1))) = W9 at HS2 HDr ⊢
    have u10 : W9.cell? ⟨x, 0, none⟩ = some (.int .i64 (A : Nat)) := CsL.at HS2.out 1 _ _ rfl
    clear y1 y2 c9 u9
    go_wp2_with (fail)
    refine bodyPost_ret (v := .tuple #[.int .i64 ((A : Nat) : Int), .nilIface]) (by simp [results, Tryd.results86]) rfl ?_
    have HDr := HDr.out
    exact DrA.mk HDr (.inl ⟨A, r, HU0.out, rfl, rfl, rfl⟩)

theorem lp_any {B D : Nat} {s t : Nat → Nat} {b : Bx} {U : Nat → List Int} {w : World} (h : Dr B D s t b U w) (k p : Nat) (hk : k < 4) (hU : ∀ u ∈ U k, 0 ≤ u ∧ u ≤ 1000) :
    Calls Tryd.prog 98 #[.pointer (some ⟨s k, 0, none⟩), .int .i64 p] w fun e w' => e = .returned (.tuple #[]) ∧ ∃ t', Du B D s t w t' b (updL U k (keepU p (U k))) w' := by
  obtain ⟨un, nx, pv, l, g, ht⟩ := h.r k hk
  refine (leavepage_any p w g hU).mono ?_
  rintro e w' ⟨rfl, ⟨nx', pv', l', g', hl⟩, hf⟩
  exact ⟨rfl, (Du.start h).ring (l := l) (l' := l') k hk ht hf g' (fun x hx => .inl (List.mem_cons_of_mem _ (hl x hx)))⟩

theorem fr_any {B D : Nat} {s t : Nat → Nat} {b : Bx} {U : Nat → List Int} {w : World} (h : Dr B D s t b U w) (k : Nat) (u : Int) (hk : k < 4) :
    Calls Tryd.prog 66 #[.pointer (some ⟨s k, 0, none⟩), .int .i64 u] w fun e w' => e = .returned (.tuple #[]) ∧ ∃ t', Du B D s t w t' b (updL U k (u :: U k)) w' := by
  obtain ⟨n, h1, ⟨v, h2⟩, f1, f2, t', hd⟩ := (Du.start h).front k hk u 84
  refine (follow_at (s k) n u v w h1 h2 f1 f2).mono ?_
  rintro e w' ⟨rfl, ew⟩
  exact ⟨rfl, t', by rw [ew]; exact hd⟩

theorem emptF_step (P : Nat → Int) (p j : Nat) : Book.upd (emptF P p j) (p + j) 0 = emptF P p (j + 1) := by
  funext i; simp only [emptF, Book.upd]
  by_cases e : i = p + j
  · rw [if_pos e, if_pos (by omega)]
  · rw [if_neg e]
    by_cases q : p ≤ i ∧ i < p + j
    · rw [if_pos q, if_pos (by omega)]
    · rw [if_neg q, if_neg (by omega)]
/- How a room is given back. -/
def GvQ (b : Bx) (U : Nat → List Int) (A : Nat) (c : Bx) (V : Nat → List Int) (v : Value) : Prop :=
  v = .tuple #[] ∧ ((∃ n : Nat, 1 ≤ n ∧ b.p.f (A / 8) = 8 + (n : Int) ∧ c = b.unwide (A / 8) n ∧ V = U) ∨
  ∃ k : Nat, k < 4 ∧ b.p.f (A / 8) = (k : Int) + 1 ∧
    ((¬ FreeP (b.o.put A 0).f (A / 8) 0 ∧ c = b.own A 0 ∧ V = updL U k ((A : Int) :: U k)) ∨
     (FreeP (b.o.put A 0).f (A / 8) 0 ∧ c = (b.pag (A / 8) 0).own A 0 ∧ V = updL U k (keepU (A / 8) ((A : Int) :: U k)))))

set_option maxHeartbeats 16000000 in
theorem give_any {B D : Nat} {s t : Nat → Nat} {b : Bx} {U : Nat → List Int} {w : World} (h : Dr B D s t b U w) (hok : OkP b) (A : Nat) (hA : A < b.o.n) (hA0 : 0 < b.o.f A) (hU : ∀ k, k < 4 → ∀ u ∈ U k, 0 ≤ u ∧ u ≤ 1000) :
    Calls Tryd.prog 89 #[.pointer (some ⟨D, 0, none⟩), .int .i64 A] w fun e w' => DrA B D s t w (GvQ b U A) e w' := by
  have l3 := hok.1.1.2.2.2.2.2.1
  have l4 := hok.1.1.2.2.2.2.2.2
  have hw := had_at hok hA hA0
  obtain ⟨p, eP⟩ : ∃ p : Nat, p = A / 8 := ⟨_, rfl⟩
  have hd8 : (A : Int) / 8 = p := by omega
  have hp : p < b.p.n := by omega
  have a48 : A ≤ 1000 := by omega
  have p6 : p ≤ 6 := by omega
  rw [← eP] at hw
  obtain ⟨kp, op, ep, tp⟩ := h.addr (x := b.p) (by simp [Bx.lists]) (by omega)
  obtain ⟨ko, oo, eo, to⟩ := h.addr (x := b.o) (by simp [Bx.lists]) (by omega)
  have EP : Hid (b.p.a = some ⟨kp, op, none⟩) := ep
  have EO : Hid (b.o.a = some ⟨ko, oo, none⟩) := eo
  have HEP : Hid (p = A / 8) := eP
  have c1 : w.cell? ⟨D, 1, none⟩ = some (.slice (some ⟨kp, op, none⟩) b.p.n b.p.c) := by rw [← ep]; exact h.cell 1 _ rfl
  have c6 : w.cell? ⟨D, 6, none⟩ = some (.slice (some ⟨ko, oo, none⟩) b.o.n b.o.c) := by rw [← eo]; exact h.cell 6 _ rfl
  obtain ⟨cp, -⟩ := h.at (x := b.p) (by simp [Bx.lists]) ep hp
  obtain ⟨ca, fa⟩ := h.at (x := b.o) (by simp [Bx.lists]) eo hA
  have S := (Du.start h).owner eo A hA 0
  have HS : Hid (Du B D s t w t (b.own A 0) U (w.setCell ⟨ko, oo + A, none⟩ (.int .i64 0))) := S
  have NN : Hid (NonNeg (b.own A 0)) := fun u hu => by
    have := (hok.1.2.2 u hu).1
    simp only [Bx.own, Sx.put, Book.upd]
    split <;> omega
  have OU : Hid ((p + 1) * 8 ≤ b.o.n ∧ b.o.n ≤ 1000 ∧ b.o.n ≤ b.o.c) := ⟨by omega, by omega, (h.h.each b.o (by simp [Bx.lists])).1⟩
  have iA : (A : Int) < b.o.n := by omega
  have iP : (p : Int) < b.p.n := by omega
  clear S ep eo eP l3 l4 hok h hA0
  rcases hw with ⟨k, hk, hkp⟩ | ⟨n, n2, n4, hn, hpn, hA8⟩
  · have HK : Hid (b.p.f p = (k : Int) + 1) := hkp
    rw [hkp] at cp
    clear hkp
    have r9 := HS.out.d.rcell k hk
    go_enter Tryd.func89, Tryd.ntmps89
    go_wp2_with (fail)
    refine (fr_any HS.out.d k A hk).mono ?_
    rintro e w1 ⟨rfl, t1, hd⟩
    have HD1 : Hid (Du B D s t w t1 (b.own A 0) (updL U k ((A : Int) :: U k)) w1) := HS.out.trans hd
    have HR : Hid (World.rangeAt w1 D 0 (b.own A 0).cells) := HD1.out.d.range
    clear hd r9 c1 c6 cp ca fa
    go_wp2_with (refine wpList_load_mid rfl 26 _ rfl D 0 rfl (b.own A 0).cells _ HR.out Tryd.underlying26 rfl (by kernel_rfl) ?_)
    refine (owners_any (b.own A 0) p w1 HD1.out.d.h.at OU.out.1 OU.out.2.1 OU.out.2.2).mono ?_
    rintro e w2 ⟨rfl, hb2⟩
    have HD2 : Hid (Du B D s t w t1 (b.own A 0) (updL U k ((A : Int) :: U k)) w2) := HD1.out.later hb2
    have HFr : Hid (FreeP (b.own A 0).o.f p 0 ↔ ownC (b.own A 0).o.f (p * 8) 8 = 0) := free_own NN.out OU.out.1
    generalize ownC (b.own A 0).o.f (p * 8) 8 = m at HFr ⊢
    clear hb2 HR
    by_cases hm : m = 0
    · have HF : Hid (FreeP (b.o.put A 0).f p 0) := HFr.out.2 hm
      subst hm
      go_wp2_with (fail)
      refine (lp_any HD2.out.d k p hk (fun u hu => by
        rw [updL_same] at hu
        rcases List.mem_cons.1 hu with e | e
        · omega
        · exact hU k hk u e)).mono ?_
      rintro e w3 ⟨rfl, t2, hd⟩
      rw [updL_same, updL_two] at hd
      have HD3 : Hid (Du B D s t w t2 (b.own A 0) (updL U k (keepU p ((A : Int) :: U k))) w3) := HD2.out.trans hd
      have c1 : w3.cell? ⟨D, 1, none⟩ = some (.slice (some ⟨kp, op, none⟩) b.p.n b.p.c) := by rw [← EP.out]; exact hd.d.cell 1 _ rfl
      obtain ⟨cp, fp⟩ := hd.d.at (x := (b.own A 0).p) (by simp [Bx.lists]) EP.out (j := p) hp
      have HN := (show Du B D s t w t2 (Bx.setp (b.own A 0) b.p.f) _ w3 from HD3.out).page EP.out p hp 0
      have HNN : Hid (Du B D s t w t2 ((b.pag p 0).own A 0) (updL U k (keepU p ((A : Int) :: U k))) (w3.setCell ⟨kp, op + p, none⟩ (.int .i64 0))) := HN
      clear hd HN
      go_wp2_with (fail)
      refine bodyPost_end (v := .tuple #[]) (by simp [results, Tryd.results89]) rfl ?_
      refine DrA.mk HNN.out ⟨rfl, .inr ⟨k, hk, ?_⟩⟩
      rw [← HEP.out]
      exact ⟨HK.out, .inr ⟨HF.out, rfl, rfl⟩⟩
    · have HF : Hid (¬ FreeP (b.o.put A 0).f p 0) := fun q => hm (HFr.out.1 q)
      have hb : ((m : Int) == 0) = false := by simpa using hm
      go_wp2_with (fail)
      refine bodyPost_end (v := .tuple #[]) (by simp [results, Tryd.results89]) rfl ?_
      refine DrA.mk HD2.out ⟨rfl, .inr ⟨k, hk, ?_⟩⟩
      rw [← HEP.out]
      exact ⟨HK.out, .inl ⟨HF.out, rfl, rfl⟩⟩
  · have HA8 : Hid (A = p * 8) := hA8
    have HN : Hid (b.p.f p = 8 + (n : Int)) := hn
    rw [hn] at cp
    clear hn hA8
    go_enter Tryd.func89, Tryd.ntmps89
    go_wp2_with (fail)
    obtain ⟨W, eW⟩ : ∃ W, W = w.setCell ⟨ko, oo + A, none⟩ (.int .i64 0) := ⟨_, rfl⟩
    rw [← eW] at HS ⊢
    clear eW c1 c6 cp ca fa
    go_loopw [29] (fun i wr => ∃ j : Nat, j ≤ n ∧ i = .int .i64 j ∧ ∃ t', Du B D s t w t' (Bx.setp (b.own A 0) (emptF b.p.f p j)) U wr) (fun i _ => n - (intOf i).toNat)
    case atStart => exact ⟨0, by omega, rfl, t, by rw [empt_zero]; exact HS.out⟩
    case round =>
      obtain ⟨j, hj, rfl, t1, hd⟩ := hrel
      have HD : Hid (Du B D s t w t1 (Bx.setp (b.own A 0) (emptF b.p.f p j)) U wr) := hd
      have c1 : wr.cell? ⟨D, 1, none⟩ = some (.slice (some ⟨kp, op, none⟩) b.p.n b.p.c) := by rw [← EP.out]; exact hd.d.cell 1 _ rfl
      clear hd
      by_cases hlt : (j : Int) < n
      · obtain ⟨x1, f1⟩ := HD.out.d.at (x := (Bx.setp (b.own A 0) (emptF b.p.f p j)).p) (by simp [Bx.lists]) EP.out (j := p + j) (show p + j < b.p.n by omega)
        have HNN : Hid (Du B D s t w t1 (Bx.setp (b.own A 0) (emptF b.p.f p (j + 1))) U (wr.setCell ⟨kp, op + (p + j), none⟩ (.int .i64 0))) := by
          unfold Hid
          rw [← emptF_step]
          exact HD.out.page EP.out (p + j) (show p + j < b.p.n by omega) 0
        have i1 : ((p : Int) + j).toNat = p + j := by omega
        have i2 : (p : Int) + j < b.p.n := by omega
        go_wp2_with (fail)
        go_roundw
        case rel => exact ⟨j + 1, by omega, by go_num, t1, HNN.out⟩
        case measure => simp [intOf]; omega
      · obtain rfl : j = n := by omega
        go_wp2_with (fail)
        refine bodyPost_end (v := .tuple #[]) (by simp [results, Tryd.results89]) rfl ?_
        refine DrA.mk HD.out ⟨rfl, .inl ⟨j, by omega, ?_, ?_, rfl⟩⟩
        · rw [← HEP.out]; exact HN.out
        · rw [← HEP.out, HA8.out]; rfl

/- The package's errors: which variable, and the code that it stands for. -/
def erl : List (Nat × Nat) := [(2, 1), (3, 2), (4, 3), (5, 4), (6, 5), (7, 6), (8, 7), (9, 8), (1, 9), (10, 10), (11, 12), (0, 13)]
def ev (a : Nat → Addr) (x : Nat) : Value := .iface 112 (.pointer (some (a x)))
def errV (a : Nat → Addr) (x : Nat) : Value := if x = 0 then .nilIface else ev a x
structure Er (a : Nat → Addr) (w : World) : Prop where
  h : ∀ g x, (g, x) ∈ erl → w.cell? ⟨g, 0, none⟩ = some (ev a x)
theorem erl_lt : ∀ g x, (g, x) ∈ erl → g < 12 := by
  intro g x h
  simp [erl] at h
  omega
theorem Er.later {a : Nat → Addr} {w w1 : World} (h : Er a w) (hb : Below w.heap.size w w1) : Er a w1 := ⟨fun g x m => (hb.cell (p := ⟨g, 0, none⟩) (World.block_lt_of_cell? w _ (h.h g x m))).trans (h.h g x m)⟩

/- A call of a draft that was made at w0: its own copy of the call lies at r. -/
structure Oq (a : Nat → Addr) (B D : Nat) (s t0 : Nat → Nat) (w0 : World) (t : Nat → Nat) (b : Bx) (U : Nat → List Int) (r : Nat) (o : Ox) (w : World) : Prop where
  d : Du B D s t0 w0 t b U w
  p : w.rangeAt r 0 o.cells
  lo : w0.heap.size ≤ r
  lt : r < w.heap.size
  tr : t r = 0
  e : Er a w
  hB : 12 ≤ B
theorem Oq.start {a : Nat → Addr} {B D : Nat} {s t : Nat → Nat} {b : Bx} {U : Nat → List Int} {w : World} (h : Dr B D s t b U w) (he : Er a w) (hB : 12 ≤ B) (o : Ox) (ty : TypeId) :
    Oq a B D s t w t b U w.heap.size o (w.alloc (.cells o.cells.toArray ty)) := by
  have hb := below1 w (.cells o.cells.toArray ty)
  refine ⟨(Du.start h).later hb, by have := (ck_lit o.cells.toArray (heap1_0 w (.cells o.cells.toArray ty))).range; simpa using this, Nat.le_refl _, by simp, ?_, he.later hb, hB⟩
  by_cases q : t w.heap.size = 0
  · exact q
  · exact absurd (h.z _ q).2 (Nat.lt_irrefl _)
theorem Oq.later {a : Nat → Addr} {B D : Nat} {s t0 t : Nat → Nat} {b : Bx} {U : Nat → List Int} {r : Nat} {o : Ox} {w0 w w1 : World} (h : Oq a B D s t0 w0 t b U r o w) (hb : Below w.heap.size w w1) : Oq a B D s t0 w0 t b U r o w1 :=
  ⟨h.d.later hb, range_below hb h.p h.lt, h.lo, Nat.lt_of_lt_of_le h.lt hb.size, h.tr, h.e.later hb, h.hB⟩
theorem Oq.drewN {a : Nat → Addr} {B D : Nat} {s t0 t : Nat → Nat} {b : Bx} {U : Nat → List Int} {r : Nat} {o : Ox} {w0 w : World} (h : Oq a B D s t0 w0 t b U r o w) (n : Nat) : Oq a B D s t0 w0 t b U r o (w.drewN n) :=
  ⟨h.d.drewN n, h.p, h.lo, h.lt, h.tr, ⟨h.e.h⟩, h.hB⟩
theorem Oq.low {a : Nat → Addr} {B D : Nat} {s t0 t : Nat → Nat} {b : Bx} {U : Nat → List Int} {r : Nat} {o : Ox} {w0 w : World} (h : Oq a B D s t0 w0 t b U r o w) (i : Nat) (hi : i < 12) : t i = 0 := by
  by_cases q : t i = 0
  · exact q
  · have := (h.d.d.z i q).1; have := h.hB; omega
/- What it calls has turned the draft. -/
theorem Oq.call {a : Nat → Addr} {B D : Nat} {s t0 t t' : Nat → Nat} {b b' : Bx} {U U' : Nat → List Int} {r : Nat} {o : Ox} {w0 w w1 : World} (h : Oq a B D s t0 w0 t b U r o w) (g : Du B D s t w t' b' U' w1) : Oq a B D s t0 w0 t' b' U' r o w1 := by
  have hbk := g.f.block r h.lt (by rw [h.tr]; simp)
  refine ⟨h.d.trans g, fun j v hv => ?_, h.lo, Nat.lt_of_lt_of_le h.lt g.f.size, by rw [g.a r h.lt]; exact h.tr, ⟨fun q x m => ?_⟩, h.hB⟩
  · rw [World.cell?_of_block (w := w) hbk]; exact h.p j v hv
  · have c := h.e.h q x m
    have hl := World.block_lt_of_cell? w _ c
    rw [World.cell?_of_block (w := w) (g.f.block q hl (by rw [h.low q (erl_lt q x m)]; simp))]
    exact c
theorem Oq.op {a : Nat → Addr} {B D : Nat} {s t0 t : Nat → Nat} {b : Bx} {U : Nat → List Int} {r : Nat} {o : Ox} {w0 w : World} (h : Oq a B D s t0 w0 t b U r o w) (j : Nat) (v : Value) (hv : o.cells[j]? = some v) : w.cell? ⟨r, j, none⟩ = some v := by
  have := h.p j v hv
  simpa using this

/- What comes of a call. -/
def OpA (a : Nat → Addr) (B D : Nat) (s t : Nat → Nat) (w : World) (P : Bx → (Nat → List Int) → Nat → Int → Prop) (e : Ending) (w' : World) : Prop := ∃ c V x y, e = .returned (.tuple #[.int .i64 y, errV a x]) ∧ P c V x y ∧ ∃ t', Du B D s t w t' c V w'
theorem OpA.mk {a : Nat → Addr} {B D : Nat} {s t t' : Nat → Nat} {w w' : World} {P : Bx → (Nat → List Int) → Nat → Int → Prop} {c : Bx} {V : Nat → List Int} {v : Value} (x : Nat) (y : Int) (hd : Du B D s t w t' c V w') (h : P c V x y) (ex : v = .tuple #[.int .i64 y, errV a x]) : OpA a B D s t w P (.returned v) w' := ⟨c, V, x, y, by rw [ex], h, t', hd⟩

end Go.Proofs.YtbipolfbkemmpaaDoor.Dra

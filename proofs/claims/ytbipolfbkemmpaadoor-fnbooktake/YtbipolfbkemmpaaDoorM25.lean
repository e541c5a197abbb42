import Derived.Test.YtbipolfbkemmpaaDoorM24
import Derived.Test.YtbipolfbkemmpaaDoorM20

/- The program's bookReap. -/
namespace Go.Proofs.YtbipolfbkemmpaaDoor.Dra
open Go.ChangeShapes Go.WideShapes Go.ChangeAt Go.RowKit
open Aid Lst Book Rin
set_option maxRecDepth 100000
set_option linter.unusedVariables false
def RpQ (b : Bx) (U : Nat → List Int) (s : Int) (c : Bx) (V : Nat → List Int) (x : Nat) (y : Int) : Prop :=
  ((s < 0 ∨ b.s ≤ s ∨ b.i.f s.toNat = 0) ∧ c = b ∧ V = U ∧ x = 9 ∧ y = 0) ∨
  ∃ p : Nat, s = p ∧ (p : Int) < b.s ∧ b.i.f p ≠ 0 ∧
    ((b.i.f p = 1 ∧ c = b ∧ V = U ∧ x = 8 ∧ y = 0) ∨
     (b.i.f p ≠ 1 ∧ (((∀ u, u < b.o.n → b.o.f u ≠ (p : Int) + 1) ∧ c = b.seti p 0 ∧ V = U ∧ x = 0 ∧ y = 0) ∨
       ∃ A : Nat, A < b.o.n ∧ b.o.f A = (p : Int) + 1 ∧ (∀ j, j < A → b.o.f j ≠ (p : Int) + 1) ∧ GvQ b U A c V (.tuple #[]) ∧ x = 10 ∧ y = A)))
set_option maxHeartbeats 16000000 in
theorem reap_op {a : Nat → Addr} {B D : Nat} {s t : Nat → Nat} {b : Bx} {U : Nat → List Int} {w : World} (h : Dr B D s t b U w) (he : Er a w) (hB : 12 ≤ B) (hok : OkP b) (o : Ox) (hU : ∀ k, k < 4 → ∀ u ∈ U k, 0 ≤ u ∧ u ≤ 1000) :
    Calls Tryd.prog 72 #[.pointer (some ⟨D, 0, none⟩), .agg o.cells.toArray] w fun e w' => OpA a B D s t w (RpQ b U o.a) e w' := by
  have S := Oq.start (a := a) h he hB o 28
  have HOK : Hid (OkP b) := hok
  have l0 := hok.1.1.1
  have l1 := hok.1.1.2.1
  have l2 := hok.1.1.2.2.1
  have l3 := hok.1.1.2.2.2.1
  have l6 := hok.1.1.2.2.2.2.1
  have l7 := hok.1.1.2.2.2.2.2.2
  have l8 := hok.1.1.2.2.2.2.2.1
  obtain ⟨ko, oo, eo, to⟩ := h.addr (x := b.o) (by simp [Bx.lists]) (by omega)
  obtain ⟨ki, oi, ei, ti⟩ := h.addr (x := b.i) (by simp [Bx.lists]) (by omega)
  obtain ⟨ke, oe, ee, te⟩ := h.addr (x := b.e) (by simp [Bx.lists]) (by omega)
  have EO : Hid (b.o.a = some ⟨ko, oo, none⟩) := eo
  have EI : Hid (b.i.a = some ⟨ki, oi, none⟩) := ei
  have EE : Hid (b.e.a = some ⟨ke, oe, none⟩) := ee
  have TT : Hid (t ko = 2 ∧ t ki = 2 ∧ t ke = 2 ∧ t D = 1) := ⟨to, ti, te, h.tD⟩
  have LS : Hid (b.s ≤ 4 ∧ 1 ≤ b.s ∧ (b.i.n : Int) = b.s ∧ (b.e.n : Int) = b.s ∧ b.o.n ≤ 1000 ∧ b.o.n ≤ b.o.c) := ⟨by omega, by omega, by omega, by omega, by omega, (h.h.each b.o (by simp [Bx.lists])).1⟩
  clear h he hB eo ei ee to ti te hok l0 l1 l2 l3 l6 l7 l8
  simp only [Ox.cells] at S ⊢
  go_enter Tryd.func72, Tryd.ntmps72
  go_wp2_with (fail)
  generalize w.alloc (.cells _ 28) = W at S ⊢
  have HS0 : Hid (Oq a B D s t w t b U w.heap.size o W) := S
  clear S
  refine wp_region_held_drew (S := Oq a B D s t w t b U w.heap.size o) (by kernel_rfl) (HS0.out.drewN 1) (fun hS => ?_)
  refine tI 0 (v := .pointer (some ⟨D, 0, none⟩)) (d := some 7) rfl rfl (fun w' hw => ?_) hS ?_
  · clear hw; go_simp
  try simp only [Act.put, s1, s2, s3]
  refine tI 1 (v := .pointer (some ⟨D, 0, none⟩)) (d := some 8) rfl rfl (fun w' hw => ?_) hS ?_
  · clear hw; go_simp
  try simp only [Act.put, s1, s2, s3]
  refine tI 2 (v := .pointer (some ⟨D, 0, none⟩)) (d := some 9) rfl rfl (fun w' hw => ?_) hS ?_
  · clear hw; go_simp
  try simp only [Act.put, s1, s2, s3]
  refine tB 3 (v := .agg b.cells.toArray) (d := some 10) rfl rfl (yieldsIf_load_mid (by rfl) 26 _ rfl D 0 rfl b.cells _ (fun w' hw => hw.d.d.range) Tryd.underlying26 rfl (by kernel_rfl)) hS ?_
  try simp only [Act.put, s1, s2, s3]
  refine tI 4 (v := .pointer (some ⟨w.heap.size, 2, none⟩)) (d := some 11) rfl rfl (fun w' hw => ?_) hS ?_
  · clear hw; go_simp
  try simp only [Act.put, s1, s2, s3]
  refine tI 5 (v := .int .i64 o.a) (d := some 12) rfl rfl (fun w' hw => ?_) hS ?_
  · have q := hw.op 2 _ rfl; clear hw; go_simp
  try simp only [Act.put, s1, s2, s3]
  refine r1 6 rfl (fun K hK => ?_)
  have HS1 : Hid (Oq a B D s t w t b U w.heap.size o _) := hS
  clear hS
  go_simp
  refine (isin_any b (o.a) _ HS1.out.d.d.h.at (by have := LS.out; omega)).mono ?_
  rintro e w2 ⟨⟨r, rfl, hr⟩, hb⟩
  have HI : Hid (Tell r ((0 ≤ o.a ∧ o.a < b.s) ∧ b.i.f (o.a).toNat ≠ 0)) := hr
  have HS2 : Hid (Oq a B D s t w t b U w.heap.size o w2) := HS1.out.later hb
  clear HS1 hb hr
  go_wp2_with (fail)
  refine hK.out _ _ HS2.out (fun hS => ?_)
  clear hK K
  try simp only [Act.put, s1, s2, s3]
  refine tI 7 (v := .bool (!r)) (d := some 14) rfl rfl (fun w' hw => ?_) hS ?_
  · clear hw; go_simp
  try simp only [Act.put, s1, s2, s3]
  refine wpAnyH_done (by kernel_rfl) ?_ _
  clear hS
  cases r
  · have HI0 : Hid (o.a < 0 ∨ b.s ≤ o.a ∨ b.i.f o.a.toNat = 0) := by
      by_cases h1 : o.a < 0
      · exact .inl h1
      · by_cases h2 : b.s ≤ o.a
        · exact .inr (.inl h2)
        · by_cases e : b.i.f o.a.toNat = 0
          · exact .inr (.inr e)
          · exact absurd (HI.out.2 ⟨⟨by omega, by omega⟩, e⟩) (by simp)
    have cE : w2.cell? ⟨1, 0, none⟩ = some (ev a 9) := HS2.out.e.h _ _ (by simp [erl])
    go_wp2_with (fail)
    go_quiet (fail)
    go_wp2_with (fail)
    refine bodyPost_ret (v := .tuple #[.int .i64 0, ev a 9]) (by simp [results]) rfl ?_
    exact OpA.mk 9 0 (HS2.out.d.drewN _) (.inl ⟨HI0.out, rfl, rfl, rfl, rfl⟩) rfl
  · have HI1 := HI.out.1 rfl
    obtain ⟨p, eP⟩ : ∃ p : Nat, o.a = p := ⟨o.a.toNat, by omega⟩
    rw [eP, Int.toNat_natCast] at HI1
    have TQ : Hid ((p : Int) < b.s) := HI1.1.2
    have HP0 : Hid (b.i.f p ≠ 0) := HI1.2
    have HQ : Hid (o.a = p) := eP
    clear HI1 eP
    have cd7 : w2.cell? ⟨D, 7, none⟩ = some (.slice (some ⟨ki, oi, none⟩) b.i.n b.i.c) := by rw [← EI.out]; exact HS2.out.d.d.cell 7 _ rfl
    have k2 : w2.cell? ⟨w.heap.size, 2, none⟩ = some (.int .i64 p) := by rw [← HQ.out]; exact HS2.out.op 2 _ rfl
    have ii : (p : Int) < b.i.n := by have := LS.out; have := TQ.out; omega
    have ci := (HS2.out.d.d.at (x := b.i) (by simp [Bx.lists]) EI.out (j := p) (by omega)).1
    by_cases he : b.i.f p = 1
    · have HE : Hid (b.i.f p = 1) := he
      rw [he] at ci
      clear he
      have cE : w2.cell? ⟨9, 0, none⟩ = some (ev a 8) := HS2.out.e.h _ _ (by simp [erl])
      go_wp2_with (fail)
      go_quiet (fail)
      go_wp2_with (fail)
      go_quiet (fail)
      go_wp2_with (fail)
      refine bodyPost_ret (v := .tuple #[.int .i64 0, ev a 8]) (by simp [results]) rfl ?_
      exact OpA.mk 8 0 ((HS2.out.d.drewN _).drewN _) (.inr ⟨p, HQ.out, TQ.out, HP0.out, .inl ⟨HE.out, rfl, rfl, rfl, rfl⟩⟩) rfl
    · have HE : Hid (b.i.f p ≠ 1) := he
      have hb4 : (b.i.f p == 1) = false := by simpa using he
      clear he
      go_wp2_with (fail)
      go_quiet (fail)
      obtain ⟨w3, e3⟩ : ∃ w3, w3 = w2.drewN nq := ⟨_, rfl⟩
      have HS3q : Hid (Oq a B D s t w t b U w.heap.size o w3) := by unfold Hid; rw [e3]; exact HS2.out.drewN nq
      rw [← e3]
      clear e3 cd7 k2 ci HS2
      go_wp2_with (fail)
      refine wp_region_held_drew (S := Oq a B D s t w t b U w.heap.size o) (by kernel_rfl) (HS3q.out.drewN 1) (fun hS => ?_)
      refine tI 0 (v := .pointer (some ⟨D, 0, none⟩)) (d := some 27) rfl rfl (fun w' hw => ?_) hS ?_
      · clear hw; go_simp
      try simp only [Act.put, s1, s2, s3]
      refine tI 1 (v := .pointer (some ⟨D, 0, none⟩)) (d := some 28) rfl rfl (fun w' hw => ?_) hS ?_
      · clear hw; go_simp
      try simp only [Act.put, s1, s2, s3]
      refine tI 2 (v := .pointer (some ⟨D, 0, none⟩)) (d := some 29) rfl rfl (fun w' hw => ?_) hS ?_
      · clear hw; go_simp
      try simp only [Act.put, s1, s2, s3]
      refine tB 3 (v := .agg b.cells.toArray) (d := some 30) rfl rfl (yieldsIf_load_mid (by rfl) 26 _ rfl D 0 rfl b.cells _ (fun w' hw => hw.d.d.range) Tryd.underlying26 rfl (by kernel_rfl)) hS ?_
      try simp only [Act.put, s1, s2, s3]
      refine tI 4 (v := .pointer (some ⟨w.heap.size, 2, none⟩)) (d := some 31) rfl rfl (fun w' hw => ?_) hS ?_
      · clear hw; go_simp
      try simp only [Act.put, s1, s2, s3]
      refine tI 5 (v := .int .i64 p) (d := some 32) rfl rfl (fun w' hw => ?_) hS ?_
      · have q1 := hw.op 2 _ rfl; rw [HQ.out] at q1; clear hw; go_simp
      try simp only [Act.put, s1, s2, s3]
      refine r1 6 rfl (fun K hK => ?_)
      have HS1 : Hid (Oq a B D s t w t b U w.heap.size o _) := hS
      clear hS
      go_simp
      refine (rooms_in b p _ HS1.out.d.d.h.at HOK.out (by omega) TQ.out).mono ?_
      rintro e w2 ⟨⟨v, rfl, ho⟩, hb⟩
      obtain ⟨x, rfl, xm, xo⟩ := own_sx ho
      have HX3 : Hid (0 < x.n → ∃ k, x.a = some ⟨k, 0, none⟩ ∧ t k = 0 ∧ w2.cell? ⟨k, 0, none⟩ = some (.int .i64 (x.f 0)) ∧ k < w2.heap.size) := fun hp => by
        rcases xo with q0 | ⟨k, e, h1, h2, h3⟩
        · omega
        · refine ⟨k, e, ?_, (h3 0 hp).1, h2⟩
          by_cases q0 : t k = 0
          · exact q0
          · have := (HS1.out.d.d.z k q0).2; omega
      have HX : Hid (x.m = ((selL b.o.f ((p : Int) + 1) b.o.n).length, fun j => (selL b.o.f ((p : Int) + 1) b.o.n).getD j 0) ∧ x.At w2) := ⟨xm, xo.at⟩
      have HS2 : Hid (Oq a B D s t w t b U w.heap.size o w2) := HS1.out.later hb
      clear HS1 hb ho xm xo
      go_wp2_with (fail)
      refine hK.out _ _ HS2.out (fun hS => ?_)
      clear hK K
      try simp only [Act.put, s1, s2, s3]
      refine tI 7 (v := .slice x.a x.n x.c) (d := some 6) rfl rfl (fun w' hw => ?_) hS ?_
      · clear hw; go_simp
      try simp only [Act.put, s1, s2, s3]
      refine wpAnyH_done (by kernel_rfl) ?_ _
      clear hS
      by_cases hn : x.n = 0
      · have HN : Hid (∀ u, u < b.o.n → b.o.f u ≠ (p : Int) + 1) := sel_nil (by have := (Prod.mk.inj (show (x.n, x.f) = _ from HX.out.1)).1; omega)
        obtain ⟨y1, y2⟩ := HS2.out.d.d.at (x := b.i) (by simp [Bx.lists]) EI.out (j := p) (by have := LS.out; have := TQ.out; omega)
        have i1 : (p : Int) < b.i.n := by have := LS.out; have := TQ.out; omega
        have XD : Hid (D ≠ ki ∧ w.heap.size ≠ ki) := ⟨fun e => by have h1 := TT.out.2.2.2; have h2 := TT.out.2.1; rw [e] at h1; omega, fun e => by have h1 := HS2.out.tr; have h2 := TT.out.2.1; rw [e] at h1; omega⟩
        have f0 : w2.cell? ⟨D, 7, none⟩ = some (.slice (some ⟨ki, oi, none⟩) b.i.n b.i.c) := by rw [← EI.out]; exact HS2.out.d.d.cell 7 _ rfl
        have f1 : w2.cell? ⟨w.heap.size, 2, none⟩ = some (.int .i64 p) := by rw [← HQ.out]; exact HS2.out.op 2 _ rfl
        have HDr : Hid (Oq a B D s t w t (b.seti p 0) U w.heap.size o (w2.setCell ⟨ki, oi + p, none⟩ (.int .i64 0)).drew) := (HS2.out.call ((Du.start HS2.out.d.d).write (b' := b.seti p 0) 6 b.i rfl ki oi p EI.out (by have := LS.out; have := TQ.out; omega) 0 rfl rfl (fun i hi => lies_same (b := b) (c := b.seti p 0) rfl hi))).drewN 1
        have HS3 : Hid (CsL [(⟨D, 7, none⟩, .slice (some ⟨ki, oi, none⟩) b.i.n b.i.c), (⟨w.heap.size, 2, none⟩, .int .i64 p)] (w2.setCell ⟨ki, oi + p, none⟩ (.int .i64 0)).drew) := CsL.set (w := w2) (CsL.cons f0 (CsL.cons f1 (CsL.nil _))) _ _ (by intro y hy; simp at hy; rcases hy with rfl | rfl; exact XD.out.1; exact XD.out.2)
        have Y1 : Hid (w2.frozen? ⟨ki, oi + p, none⟩ = false ∧ ∃ v, w2.cell? ⟨ki, oi + p, none⟩ = some v) := ⟨y2, _, y1⟩
        clear y1 y2
        go_wp2_with (fail)
        refine wp_region_held_drew (S := CsL [(⟨D, 7, none⟩, .slice (some ⟨ki, oi, none⟩) b.i.n b.i.c), (⟨w.heap.size, 2, none⟩, .int .i64 p)]) (by kernel_rfl) (CsL.cons f0 (CsL.cons f1 (CsL.nil _))) (fun hS => ?_)
        refine tI 0 (v := .pointer (some ⟨D, 0, none⟩)) (d := some 37) rfl rfl (fun w' hw => ?_) hS ?_
        · clear hw; go_simp
        try simp only [Act.put, s1, s2, s3]
        refine tI 1 (v := .pointer (some ⟨D, 0, none⟩)) (d := some 38) rfl rfl (fun w' hw => ?_) hS ?_
        · clear hw; go_simp
        try simp only [Act.put, s1, s2, s3]
        refine tI 2 (v := .pointer (some ⟨D, 0, none⟩)) (d := some 39) rfl rfl (fun w' hw => ?_) hS ?_
        · clear hw; go_simp
        try simp only [Act.put, s1, s2, s3]
        refine tI 3 (v := .pointer (some ⟨D, 7, none⟩)) (d := some 40) rfl rfl (fun w' hw => ?_) hS ?_
        · clear hw; go_simp
        try simp only [Act.put, s1, s2, s3]
        refine tI 4 (v := .slice (some ⟨ki, oi, none⟩) b.i.n b.i.c) (d := some 41) rfl rfl (fun w' hw => ?_) hS ?_
        · have q := CsL.at hw 0 _ _ rfl; clear hw; go_simp
        try simp only [Act.put, s1, s2, s3]
        refine tI 5 (v := .pointer (some ⟨w.heap.size, 2, none⟩)) (d := some 42) rfl rfl (fun w' hw => ?_) hS ?_
        · clear hw; go_simp
        try simp only [Act.put, s1, s2, s3]
        refine tI 6 (v := .int .i64 p) (d := some 43) rfl rfl (fun w' hw => ?_) hS ?_
        · have q := CsL.at hw 1 _ _ rfl; clear hw; go_simp
        try simp only [Act.put, s1, s2, s3]
        refine tI 7 (v := .pointer (some ⟨ki, oi + p, none⟩)) (d := some 44) rfl rfl (fun w' hw => ?_) hS ?_
        · clear hw; go_simp
        try simp only [Act.put, s1, s2, s3]
        refine r1 8 rfl (fun K hK => ?_)
        obtain ⟨vv, y1⟩ : ∃ v, w2.drew.cell? ⟨ki, oi + p, none⟩ = some v := Y1.out.2
        have y2 : w2.drew.frozen? ⟨ki, oi + p, none⟩ = false := Y1.out.1
        clear hS
        go_simp
        refine hK.out _ _ HS3.out (fun hS => ?_)
        clear hK K
        try simp only [Act.put, s1, s2, s3]
        refine wpAnyH_done (by kernel_rfl) ?_ _
        clear hS y1 y2 f0 f1
        generalize World.drew (World.setCell w2 ⟨ki, oi + p, none⟩ (.int .i64 0)) = W9 at HDr HS3 ⊢
        clear HS3 Y1
        go_wp2_with (fail)
        refine bodyPost_ret (v := .tuple #[.int .i64 0, .nilIface]) (by simp [results]) rfl ?_
        exact OpA.mk 0 0 HDr.out.d (.inr ⟨p, HQ.out, TQ.out, HP0.out, .inr ⟨HE.out, .inl ⟨HN.out, rfl, rfl, rfl, rfl⟩⟩⟩) rfl
      · have hl : x.n = (selL b.o.f ((p : Int) + 1) b.o.n).length := (Prod.mk.inj (show (x.n, x.f) = _ from HX.out.1)).1
        have hf : x.f = fun j => (selL b.o.f ((p : Int) + 1) b.o.n).getD j 0 := (Prod.mk.inj (show (x.n, x.f) = _ from HX.out.1)).2
        obtain ⟨A, h1, h2, h3, h4⟩ := sel_head (o := b.o.f) (t := (p : Int) + 1) (n := b.o.n) (by omega)
        have hf0 : x.f 0 = A := by rw [hf]; exact h4
        obtain ⟨kx, ex, tx, cx, lx⟩ := HX3.out (by omega)
        rw [hf0] at cx
        rw [ex]
        have HA : Hid (A < b.o.n ∧ b.o.f A = (p : Int) + 1 ∧ ∀ j, j < A → b.o.f j ≠ (p : Int) + 1) := ⟨h1, h2, h3⟩
        have hb0 : ((x.n : Int) == 0) = false := by simpa using hn
        have hx0 : 0 < x.n := by omega
        have HT : Hid (t kx = 0 ∧ kx < w2.heap.size) := ⟨tx, lx⟩
        clear h1 h2 h3 h4 hl hf hf0 ex tx lx HX HX3 hn
        have CX : Hid (w2.cell? ⟨kx, 0, none⟩ = some (.int .i64 A)) := cx
        go_wp2_with (fail)
        refine (give_any HS2.out.d.d HOK.out A HA.out.1 (by have := HA.out.2.1; omega) hU).mono ?_
        rintro e w5 ⟨c, V, v, rfl, hg, t2, hd⟩
        have gv := hg.1
        subst gv
        have HG : Hid (GvQ b U A c V (.tuple #[])) := hg
        have HO5 : Hid (Oq a B D s t w t2 c V w.heap.size o w5) := HS2.out.call hd
        have cx5 : w5.cell? ⟨kx, 0, none⟩ = some (.int .i64 A) := by
          rw [World.cell?_of_block (w := w2) (hd.f.block kx HT.out.2 (by rw [HT.out.1]; simp))]; exact CX.out
        have cE : w5.cell? ⟨10, 0, none⟩ = some (ev a 10) := HO5.out.e.h _ _ (by simp [erl])
        clear hd hg cx
        go_wp2_with (fail)
        go_quiet (fail)
        go_wp2_with (fail)
        refine bodyPost_ret (v := .tuple #[.int .i64 A, ev a 10]) (by simp [results]) rfl ?_
        exact OpA.mk 10 A (HO5.out.d.drewN _) (.inr ⟨p, HQ.out, TQ.out, HP0.out, .inr ⟨HE.out, .inr ⟨A, HA.out.1, HA.out.2.1, HA.out.2.2, HG.out, rfl, rfl⟩⟩⟩) rfl
end Go.Proofs.YtbipolfbkemmpaaDoor.Dra
/- One room of whoever was cut off is reaped, or it is let out, by the specification. -/
namespace Go.Proofs.YtbipolfbkemmpaaDoor.Book
open Go.ChangeShapes Go.WideShapes Go.ChangeAt Go.RowKit
open Aid Lst
set_option maxRecDepth 100000
set_option linter.unusedVariables false

def ReaP (b : Bx) (s : Int) (c : Bx) (x y : Int) : Prop :=
  ((s < 0 ∨ b.s ≤ s ∨ b.i.f s.toNat = 0) ∧ c = b ∧ x = 9 ∧ y = 0) ∨
  ∃ t : Nat, s = t ∧ (t : Int) < b.s ∧ ¬ b.i.f t = 0 ∧
    ((b.i.f t = 1 ∧ c = b ∧ x = 8 ∧ y = 0) ∨
     (¬ b.i.f t = 1 ∧ (((∀ u, u < b.o.n → b.o.f u ≠ (t : Int) + 1) ∧ c = b.seti t 0 ∧ x = 0 ∧ y = 0) ∨
       ∃ A : Nat, A < b.o.n ∧ b.o.f A = (t : Int) + 1 ∧ (∀ j, j < A → b.o.f j ≠ (t : Int) + 1) ∧ BakP b A c ∧ x = 10 ∧ y = A)))
theorem rea_ok {b c : Bx} {s x y : Int} (hok : OkP b) (h : ReaP b s c x y) : OkP c := by
  rcases h with ⟨_, rfl, _, _⟩ | ⟨t, _, ht, h0, ⟨_, rfl, _, _⟩ | ⟨_, ⟨hn, rfl, _, _⟩ | ⟨A, hA, ho, _, hb, _, _⟩⟩⟩
  · exact hok
  · exact hok
  · exact keep_seti hok t 0 (by omega) (by omega) (fun _ => by omega) (by have := hok.1.1.2.2.2.1; omega) (fun _ => hn)
  · exact bak_ok hok hA (by omega) hb

set_option maxHeartbeats 8000000 in
theorem dreap_any (b : Bx) (B : Nat) (s : Int) (w : World) (h : b.Hl B w) (hB : B ≤ w.heap.size) (hok : OkP b) :
    Calls Tryd.prog 79 #[.agg b.cells.toArray, .int .i64 s] w fun e w' => Ans3 b B w (ReaP b s) e w' := by
  have l1 := hok.1.1.2.1
  have l0 := hok.1.1.1
  have l2 := hok.1.1.2.2.1
  have l3 := hok.1.1.2.2.2.2.1
  have l4 := hok.1.1.2.2.2.2.2.1
  have l5 := hok.1.1.2.2.2.2.2.2
  have S := Dn.start h 26
  obtain ⟨ki, oi, ei, hci⟩ := S.h.at.i.cells (by omega)
  have EI : Hid (b.i.a = some ⟨ki, oi, none⟩) := ei
  have HS : Hid (Dn w b B b _) := S
  clear S
  by_cases s0 : s < 0
  · clear hci
    simp only [Bx.cells] at HS ⊢
    clear ei
    go_enter Tryd.func79, Tryd.ntmps79
    have HA : Hid (Ret w b B (b) _) := HS.out.anss
    have HT : Hid (World.there _ (w.heap.size + 1) 0 9) := HS.out.theret
    have HR : Hid (World.rangeAt _ w.heap.size 0 (b).cells) := HS.out.e.range
    go_wp2_with (first | (refine wpList_load_mid rfl 26 _ rfl w.heap.size 0 rfl (b).cells _ HR.out Tryd.underlying26 rfl (by kernel_rfl) ?_) | (refine wpList_store_mid rfl 26 _ _ rfl (w.heap.size + 1) 0 (b).cells.toArray rfl rfl HT.out (by kernel_rfl) (cells_one _) ?_))
    exact bodyPost_ret (results_cell_two rfl _ _ (w.heap.size + 1) 0 _ _ rfl HA.out.c Tryd.underlying26 rfl (by kernel_rfl)) rfl (HA.out.ans3 (.inl ⟨.inl s0, rfl, rfl, rfl⟩))
  by_cases s1 : b.s ≤ s
  · clear hci ei
    simp only [Bx.cells] at HS ⊢
    go_enter Tryd.func79, Tryd.ntmps79
    have HA : Hid (Ret w b B (b) _) := HS.out.anss
    have HT : Hid (World.there _ (w.heap.size + 1) 0 9) := HS.out.theret
    have HR : Hid (World.rangeAt _ w.heap.size 0 (b).cells) := HS.out.e.range
    go_wp2_with (first | (refine wpList_load_mid rfl 26 _ rfl w.heap.size 0 rfl (b).cells _ HR.out Tryd.underlying26 rfl (by kernel_rfl) ?_) | (refine wpList_store_mid rfl 26 _ _ rfl (w.heap.size + 1) 0 (b).cells.toArray rfl rfl HT.out (by kernel_rfl) (cells_one _) ?_))
    exact bodyPost_ret (results_cell_two rfl _ _ (w.heap.size + 1) 0 _ _ rfl HA.out.c Tryd.underlying26 rfl (by kernel_rfl)) rfl (HA.out.ans3 (.inl ⟨.inr (.inl s1), rfl, rfl, rfl⟩))
  obtain ⟨t, rfl⟩ : ∃ t : Nat, s = t := ⟨s.toNat, by omega⟩
  have t1 : (t : Int) < b.i.n := by omega
  have ci := hci t (by omega)
  clear hci
  simp only [Bx.cells, ei] at ci HS ⊢
  clear ei
  by_cases v0 : b.i.f t = 0
  · rw [v0] at ci
    go_enter Tryd.func79, Tryd.ntmps79
    have HA : Hid (Ret w b B (b) _) := HS.out.anss
    have HT : Hid (World.there _ (w.heap.size + 1) 0 9) := HS.out.theret
    have HR : Hid (World.rangeAt _ w.heap.size 0 (b).cells) := HS.out.e.range
    go_wp2_with (first | (refine wpList_load_mid rfl 26 _ rfl w.heap.size 0 rfl (b).cells _ HR.out Tryd.underlying26 rfl (by kernel_rfl) ?_) | (refine wpList_store_mid rfl 26 _ _ rfl (w.heap.size + 1) 0 (b).cells.toArray rfl rfl HT.out (by kernel_rfl) (cells_one _) ?_))
    exact bodyPost_ret (results_cell_two rfl _ _ (w.heap.size + 1) 0 _ _ rfl HA.out.c Tryd.underlying26 rfl (by kernel_rfl)) rfl (HA.out.ans3 (.inl ⟨.inr (.inr (by rw [Int.toNat_natCast]; exact v0)), rfl, rfl, rfl⟩))
  by_cases v1 : b.i.f t = 1
  · rw [v1] at ci
    go_enter Tryd.func79, Tryd.ntmps79
    have HA : Hid (Ret w b B (b) _) := HS.out.anss
    have HT : Hid (World.there _ (w.heap.size + 1) 0 9) := HS.out.theret
    have HR : Hid (World.rangeAt _ w.heap.size 0 (b).cells) := HS.out.e.range
    go_wp2_with (first | (refine wpList_load_mid rfl 26 _ rfl w.heap.size 0 rfl (b).cells _ HR.out Tryd.underlying26 rfl (by kernel_rfl) ?_) | (refine wpList_store_mid rfl 26 _ _ rfl (w.heap.size + 1) 0 (b).cells.toArray rfl rfl HT.out (by kernel_rfl) (cells_one _) ?_))
    exact bodyPost_ret (results_cell_two rfl _ _ (w.heap.size + 1) 0 _ _ rfl HA.out.c Tryd.underlying26 rfl (by kernel_rfl)) rfl (HA.out.ans3 (.inr ⟨t, rfl, by omega, v0, .inl ⟨v1, rfl, rfl, rfl⟩⟩))
  have HR : Hid (World.rangeAt _ w.heap.size 0 b.cells) := HS.out.e.range
  go_enter Tryd.func79, Tryd.ntmps79
  go_wp2_with (refine wpList_load_mid rfl 26 _ rfl w.heap.size 0 rfl (b).cells _ HR.out Tryd.underlying26 rfl (by kernel_rfl) ?_)
  refine (first_any b t _ HS.out.h.at (by omega) (by omega) (by omega) (by omega)).mono ?_
  rintro e w1 ⟨⟨r, rfl, hr⟩, hb⟩
  have S1 := HS.out.later hb
  have HS1 : Hid (Dn w b B b w1) := S1
  clear hb HR HS ci
  rcases hr with ⟨A, hA, rfl, ho, hm⟩ | ⟨rfl, hn⟩
  · have HO : Hid (b.o.f A = (t : Int) + 1) := ho
    have HM : Hid (∀ j, j < A → b.o.f j ≠ (t : Int) + 1) := hm
    have HR : Hid (World.rangeAt _ w.heap.size 0 b.cells) := S1.e.range
    have op : Hid (0 < b.o.f A) := by rw [show b.o.f A = (t : Int) + 1 from ho]; show (0 : Int) < (t : Int) + 1; omega
    clear ho hm S1
    go_wp2_with (refine wpList_load_mid rfl 26 _ rfl w.heap.size 0 rfl (b).cells _ HR.out Tryd.underlying26 rfl (by kernel_rfl) ?_)
    refine (dback_any b A B w1 HS1.out.h (by have := HS1.out.z; omega) hok hA op.out).mono ?_
    rintro e w2 ⟨c, rfl, bp, hh, hf, hl⟩
    have M := HS1.out.call hh hf hl
    have BP : Hid (BakP b A c) := bp
    clear HR bp hh hf hl
    have HA : Hid (Ret w b B (c) _) := M.anss
    have HT : Hid (World.there _ (w.heap.size + 1) 0 9) := M.theret
    clear M
    go_wp2_with (first | (refine wpList_store_mid rfl 26 _ _ rfl (w.heap.size + 1) 0 (c).cells.toArray rfl rfl HT.out (by kernel_rfl) (cells_one _) ?_))
    exact bodyPost_ret (results_cell_two rfl _ _ (w.heap.size + 1) 0 _ _ rfl HA.out.c Tryd.underlying26 rfl (by kernel_rfl)) rfl (HA.out.ans3 (.inr ⟨t, rfl, by omega, v0, .inr ⟨v1, .inr ⟨A, hA, HO.out, HM.out, BP.out, rfl, rfl⟩⟩⟩))
  · have HN : Hid (∀ u, u < b.o.n → b.o.f u ≠ (t : Int) + 1) := hn
    obtain ⟨y0, y1, y2⟩ := S1.fre (x := b.i) (by simp [Bx.lists]) EI.out (j := t) (by omega)
    obtain ⟨-, -, -, -, -, -, -, u7, -⟩ := nine S1.e.range
    rw [EI.out] at u7
    have S2 := S1.write (b' := b.seti t 0) 6 b.i rfl ki oi t EI.out (by omega) 0 rfl rfl (fun i hi => lies_same (b := b) (c := b.seti t 0) rfl hi)
    clear hn S1
    have HA : Hid (Ret w b B (b.seti t 0) _) := S2.anss
    have HT : Hid (World.there _ (w.heap.size + 1) 0 9) := S2.theret
    have HR : Hid (World.rangeAt _ w.heap.size 0 (b.seti t 0).cells) := S2.e.range
    clear S2
    go_wp2_with (first | (refine wpList_load_mid rfl 26 _ rfl w.heap.size 0 rfl (b.seti t 0).cells _ HR.out Tryd.underlying26 rfl (by kernel_rfl) ?_) | (refine wpList_store_mid rfl 26 _ _ rfl (w.heap.size + 1) 0 (b.seti t 0).cells.toArray rfl rfl HT.out (by kernel_rfl) (cells_one _) ?_))
    exact bodyPost_ret (results_cell_two rfl _ _ (w.heap.size + 1) 0 _ _ rfl HA.out.c Tryd.underlying26 rfl (by kernel_rfl)) rfl (HA.out.ans3 (.inr ⟨t, rfl, by omega, v0, .inr ⟨v1, .inl ⟨HN.out, rfl, rfl, rfl⟩⟩⟩))

/- What is taken, the book is ok. -/
theorem tak_ok {b c : Bx} {t : Nat} {u x y : Int} (hok : OkP b) (ht : (t : Int) < b.s) (hi : b.i.f t ≠ 0) (h : TakP b t u c x y) : OkP c := by
  rcases h with ⟨_, rfl, _, _⟩ | ⟨hu, hp⟩ | ⟨k, hk, _, ⟨h0, ⟨a, rfl⟩, _, _⟩ | ⟨_, _, rfl, _, _⟩ | ⟨h0, p, hp, he, _, ⟨a, o, hc, rfl⟩, _, _⟩⟩
  · exact hok
  · rcases hp with ⟨p, hp, he, _, rfl, _, _⟩ | ⟨_, rfl, _, _⟩
    · have n9 : 9 ≤ u ∧ u ≤ 32 := by
        simp only [kindM] at hu
        repeat' split at hu
        all_goals omega
      exact keep_wide hok p _ t (by omega) (by omega) hp he ht hi
    · exact hok
  · exact (ok_drop hk a _ _).2 (keep_pop hok k t hk h0 ht hi)
  · exact hok
  · have sp := sz_is k
    refine keep_fresh hok k p t (a.drop o) hk h0 (by omega) (he 0 (by omega)) ht hi ?_ (fun j hj => ?_)
    · have := hc.1
      simp only [Sx.drop]
      rcases sp with sp | sp | sp | sp <;> rw [sp] at this ⊢ <;> omega
    · simp only [Sx.drop] at hj ⊢
      rw [hc.2 (j + 1) (by omega)]
      rcases sp with sp | sp | sp | sp <;> rw [sp] <;> omega

def OwnQ (b : Bx) (o : Ox) (t : Nat) (c : Bx) (x y : Int) : Prop :=
  (o.k = 2 ∧ TakP b t o.a c x y) ∨
  (o.k = 3 ∧ ((∃ r, WhoP b t o.a r ∧ 0 < r ∧ c = b ∧ x = r ∧ y = 0) ∨ (WhoP b t o.a 0 ∧ ∃ A : Nat, o.a = A ∧ BakP b A c ∧ x = 0 ∧ y = 0))) ∨
  (o.k = 4 ∧ ((∃ r, WhoP b t o.a r ∧ 0 < r ∧ c = b ∧ x = r ∧ y = 0) ∨
    (WhoP b t o.a 0 ∧ (((o.b < 0 ∨ b.s ≤ o.b ∨ b.i.f o.b.toNat = 0) ∧ c = b ∧ x = 5 ∧ y = 0) ∨ ∃ A q : Nat, o.a = A ∧ o.b = q ∧ (q : Int) < b.s ∧ b.i.f q ≠ 0 ∧ c = b.own A ((q : Int) + 1) ∧ x = 0 ∧ y = 0)))) ∨
  (o.k = 5 ∧ (((∃ u, u < b.o.n ∧ b.o.f u = (t : Int) + 1) ∧ c = b ∧ x = 7 ∧ y = 0) ∨ ((∀ u, u < b.o.n → b.o.f u ≠ (t : Int) + 1) ∧ c = b.seti t 0 ∧ x = 0 ∧ y = 0))) ∨
  (o.k = 6 ∧ ReaP b o.a c x y) ∨
  ((o.k < 2 ∨ 6 < o.k) ∧ c = b ∧ x = 13 ∧ y = 0)
theorem who_zero {b : Bx} {t u : Int} (h : WhoP b t u 0) : 0 ≤ u ∧ u < b.o.n ∧ ¬ b.o.f u.toNat = 0 ∧ b.o.f u.toNat = t + 1 := by
  rcases h with ⟨_, e⟩ | ⟨⟨h1, h2, h3⟩, ⟨_, e⟩ | ⟨h4, _⟩⟩
  · omega
  · omega
  · exact ⟨h1, h2, h3, h4⟩
theorem own_ok {b c : Bx} {o : Ox} {t : Nat} {x y : Int} (hok : OkP b) (ht : (t : Int) < b.s) (hi : b.i.f t ≠ 0) (h : OwnQ b o t c x y) : OkP c := by
  rcases h with ⟨_, h⟩ | ⟨_, ⟨r, _, _, rfl, _⟩ | ⟨hw, A, hA, hb, _⟩⟩ | ⟨_, ⟨r, _, _, rfl, _⟩ | ⟨hw, ⟨_, rfl, _⟩ | ⟨A, q, hA, _, hq, hiq, rfl, _⟩⟩⟩ | ⟨_, ⟨_, rfl, _⟩ | ⟨hn, rfl, _⟩⟩ | ⟨_, h⟩ | ⟨_, rfl, _⟩
  · exact tak_ok hok ht hi h
  · exact hok
  · obtain ⟨h1, h2, h3, h4⟩ := who_zero hw
    rw [hA, Int.toNat_natCast] at h4
    exact bak_ok hok (by omega) (by omega) hb
  · exact hok
  · exact hok
  · obtain ⟨h1, h2, h3, h4⟩ := who_zero hw
    rw [hA, Int.toNat_natCast] at h4
    exact keep_hand hok A q (by omega) (by omega) hq hiq
  · exact hok
  · exact keep_seti hok t 0 (by omega) (by omega) (fun _ => by omega) (by have := hok.1.1.2.2.2.1; omega) (fun _ => hn)
  · exact rea_ok hok h
  · exact hok

end Go.Proofs.YtbipolfbkemmpaaDoor.Book

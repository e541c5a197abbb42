import Derived.Test.YtbipolfbkemmpaaDoorM23
import Derived.Test.YtbipolfbkemmpaaDoorM7

/- The program's bookLeave. -/
namespace Go.Proofs.YtbipolfbkemmpaaDoor.Dra
open Go.ChangeShapes Go.WideShapes Go.ChangeAt Go.RowKit
open Aid Lst Book Rin
set_option maxRecDepth 100000
set_option linter.unusedVariables false
theorem sel_nil {o : Nat → Int} {t : Int} : ∀ {n : Nat}, (selL o t n).length = 0 → ∀ u, u < n → o u ≠ t
  | 0, _, u, hu => by omega
  | n + 1, h, u, hu => by
    simp only [selL] at h
    split at h
    · simp at h
    · rename_i hn
      by_cases e : u = n
      · rw [e]; exact hn
      · exact sel_nil h u (by omega)
theorem sel_head {o : Nat → Int} {t : Int} : ∀ {n : Nat}, 0 < (selL o t n).length → ∃ A : Nat, A < n ∧ o A = t ∧ (∀ j, j < A → o j ≠ t) ∧ (selL o t n).getD 0 0 = A
  | 0, h => by simp [selL] at h
  | n + 1, h => by
    simp only [selL] at h ⊢
    by_cases e : o n = t
    · rw [if_pos e]
      by_cases z : (selL o t n).length = 0
      · refine ⟨n, by omega, e, sel_nil z, ?_⟩
        rw [List.length_eq_zero_iff.1 z]; rfl
      · obtain ⟨A, h1, h2, h3, h4⟩ := sel_head (n := n) (Nat.pos_of_ne_zero z)
        refine ⟨A, by omega, h2, h3, ?_⟩
        rw [← h4]
        cases hL : selL o t n with
        | nil => rw [hL] at z; simp at z
        | cons a r => rfl
    · rw [if_neg e] at h ⊢
      obtain ⟨A, h1, h2, h3, h4⟩ := sel_head h
      exact ⟨A, by omega, h2, h3, h4⟩
set_option maxHeartbeats 16000000 in
theorem leave_op {a : Nat → Addr} {B D : Nat} {s t : Nat → Nat} {b : Bx} {U : Nat → List Int} {w : World} (h : Dr B D s t b U w) (he : Er a w) (hB : 12 ≤ B) (hok : OkP b) (o : Ox) (q : Nat) (hq : o.s = q) (hqs : (q : Int) < b.s) :
    Calls Tryd.prog 71 #[.pointer (some ⟨D, 0, none⟩), .agg o.cells.toArray] w fun e w' => OpA a B D s t w (fun c V x y => V = U ∧ (((∃ u, u < b.o.n ∧ b.o.f u = (q : Int) + 1) ∧ c = b ∧ x = 7 ∧ y = 0) ∨ ((∀ u, u < b.o.n → b.o.f u ≠ (q : Int) + 1) ∧ c = b.seti q 0 ∧ x = 0 ∧ y = 0))) e w' := by
  have S := Oq.start (a := a) h he hB o 28
  have HOK : Hid (OkP b) := hok
  have l0 := hok.1.1.1
  have l1 := hok.1.1.2.1
  have l2 := hok.1.1.2.2.1
  have l3 := hok.1.1.2.2.2.1
  have l6 := hok.1.1.2.2.2.2.1
  have l7 := hok.1.1.2.2.2.2.2.2
  have l8 := hok.1.1.2.2.2.2.2.1
  obtain ⟨ko, oo, eo, to⟩ := h.addr (x := b.o) (by simp [Bx.lists]) (by omega)
  obtain ⟨ki, oi, ei, ti⟩ := h.addr (x := b.i) (by simp [Bx.lists]) (by omega)
  obtain ⟨ke, oe, ee, te⟩ := h.addr (x := b.e) (by simp [Bx.lists]) (by omega)
  have EO : Hid (b.o.a = some ⟨ko, oo, none⟩) := eo
  have EI : Hid (b.i.a = some ⟨ki, oi, none⟩) := ei
  have EE : Hid (b.e.a = some ⟨ke, oe, none⟩) := ee
  have TT : Hid (t ko = 2 ∧ t ki = 2 ∧ t ke = 2 ∧ t D = 1) := ⟨to, ti, te, h.tD⟩
  have LS : Hid (b.s ≤ 4 ∧ 1 ≤ b.s ∧ (b.i.n : Int) = b.s ∧ (b.e.n : Int) = b.s ∧ b.o.n ≤ 1000 ∧ b.o.n ≤ b.o.c) := ⟨by omega, by omega, by omega, by omega, by omega, (h.h.each b.o (by simp [Bx.lists])).1⟩
  clear h he hB eo ei ee to ti te hok l0 l1 l2 l3 l6 l7 l8
  simp only [Ox.cells] at S ⊢
  have TQ : Hid ((q : Int) < b.s) := hqs
  have HQ : Hid (o.s = q) := hq
  clear hq hqs
  go_enter Tryd.func71, Tryd.ntmps71
  go_wp2_with (fail)
  generalize w.alloc (.cells _ 28) = W at S ⊢
  have HS0 : Hid (Oq a B D s t w t b U w.heap.size o W) := S
  clear S
  refine wp_region_held_drew (S := Oq a B D s t w t b U w.heap.size o) (by kernel_rfl) (HS0.out.drewN 1) (fun hS => ?_)
  refine tI 0 (v := .pointer (some ⟨D, 0, none⟩)) (d := some 6) rfl rfl (fun w' hw => ?_) hS ?_
  · clear hw; go_simp
  try simp only [Act.put, s1, s2, s3]
  refine tI 1 (v := .pointer (some ⟨D, 0, none⟩)) (d := some 7) rfl rfl (fun w' hw => ?_) hS ?_
  · clear hw; go_simp
  try simp only [Act.put, s1, s2, s3]
  refine tI 2 (v := .pointer (some ⟨D, 0, none⟩)) (d := some 8) rfl rfl (fun w' hw => ?_) hS ?_
  · clear hw; go_simp
  try simp only [Act.put, s1, s2, s3]
  refine tB 3 (v := .agg b.cells.toArray) (d := some 9) rfl rfl (yieldsIf_load_mid (by rfl) 26 _ rfl D 0 rfl b.cells _ (fun w' hw => hw.d.d.range) Tryd.underlying26 rfl (by kernel_rfl)) hS ?_
  try simp only [Act.put, s1, s2, s3]
  refine tI 4 (v := .pointer (some ⟨w.heap.size, 1, none⟩)) (d := some 10) rfl rfl (fun w' hw => ?_) hS ?_
  · clear hw; go_simp
  try simp only [Act.put, s1, s2, s3]
  refine tI 5 (v := .int .i64 q) (d := some 11) rfl rfl (fun w' hw => ?_) hS ?_
  · have q1 := hw.op 1 _ rfl; rw [HQ.out] at q1; clear hw; go_simp
  try simp only [Act.put, s1, s2, s3]
  refine r1 6 rfl (fun K hK => ?_)
  have HS1 : Hid (Oq a B D s t w t b U w.heap.size o _) := hS
  clear hS
  go_simp
  refine (rooms_in b q _ HS1.out.d.d.h.at HOK.out (by omega) TQ.out).mono ?_
  rintro e w2 ⟨⟨v, rfl, ho⟩, hb⟩
  obtain ⟨x, rfl, xm, xo⟩ := own_sx ho
  have HX3 : Hid (0 < x.n → ∃ k, x.a = some ⟨k, 0, none⟩ ∧ t k = 0 ∧ w2.cell? ⟨k, 0, none⟩ = some (.int .i64 (x.f 0)) ∧ k < w2.heap.size) := fun hp => by
    rcases xo with q0 | ⟨k, e, h1, h2, h3⟩
    · omega
    · refine ⟨k, e, ?_, (h3 0 hp).1, h2⟩
      by_cases q0 : t k = 0
      · exact q0
      · have := (HS1.out.d.d.z k q0).2; omega
  have HX : Hid (x.m = ((selL b.o.f ((q : Int) + 1) b.o.n).length, fun j => (selL b.o.f ((q : Int) + 1) b.o.n).getD j 0) ∧ x.At w2) := ⟨xm, xo.at⟩
  have HS2 : Hid (Oq a B D s t w t b U w.heap.size o w2) := HS1.out.later hb
  clear HS1 hb ho xm xo
  go_wp2_with (fail)
  refine hK.out _ _ HS2.out (fun hS => ?_)
  clear hK K
  try simp only [Act.put, s1, s2, s3]
  refine tI 7 (v := .int .i64 x.n) (d := some 13) rfl rfl (fun w' hw => ?_) hS ?_
  · clear hw; go_simp
  try simp only [Act.put, s1, s2, s3]
  refine tI 8 (v := .bool (decide (0 < x.n))) (d := some 14) rfl rfl (fun w' hw => ?_) hS ?_
  · clear hw; go_simp
  try simp only [Act.put, s1, s2, s3]
  refine wpAnyH_done (by kernel_rfl) ?_ _
  clear hS
  by_cases hn : x.n = 0
  · have HN : Hid (∀ u, u < b.o.n → b.o.f u ≠ (q : Int) + 1) := sel_nil (by have := (Prod.mk.inj (show (x.n, x.f) = _ from HX.out.1)).1; omega)
    have hb0 : decide (0 < x.n) = false := by simp [hn]
    obtain ⟨y1, y2⟩ := HS2.out.d.d.at (x := b.i) (by simp [Bx.lists]) EI.out (j := q) (by have := LS.out; have := TQ.out; omega)
    have i1 : (q : Int) < b.i.n := by have := LS.out; have := TQ.out; omega
    have XD : Hid (D ≠ ki ∧ w.heap.size ≠ ki) := ⟨fun e => by have h1 := TT.out.2.2.2; have h2 := TT.out.2.1; rw [e] at h1; omega, fun e => by have h1 := HS2.out.tr; have h2 := TT.out.2.1; rw [e] at h1; omega⟩
    have f0 : w2.cell? ⟨D, 7, none⟩ = some (.slice (some ⟨ki, oi, none⟩) b.i.n b.i.c) := by rw [← EI.out]; exact HS2.out.d.d.cell 7 _ rfl
    have f1 : w2.cell? ⟨w.heap.size, 1, none⟩ = some (.int .i64 q) := by rw [← HQ.out]; exact HS2.out.op 1 _ rfl
    have HDr : Hid (Oq a B D s t w t (b.seti q 0) U w.heap.size o (w2.setCell ⟨ki, oi + q, none⟩ (.int .i64 0)).drew) := (HS2.out.call ((Du.start HS2.out.d.d).write (b' := b.seti q 0) 6 b.i rfl ki oi q EI.out (by have := LS.out; have := TQ.out; omega) 0 rfl rfl (fun i hi => lies_same (b := b) (c := b.seti q 0) rfl hi))).drewN 1
    have HS3 : Hid (CsL [(⟨D, 7, none⟩, .slice (some ⟨ki, oi, none⟩) b.i.n b.i.c), (⟨w.heap.size, 1, none⟩, .int .i64 q)] (w2.setCell ⟨ki, oi + q, none⟩ (.int .i64 0)).drew) := CsL.set (w := w2) (CsL.cons f0 (CsL.cons f1 (CsL.nil _))) _ _ (by intro y hy; simp at hy; rcases hy with rfl | rfl; exact XD.out.1; exact XD.out.2)
    have Y1 : Hid (w2.frozen? ⟨ki, oi + q, none⟩ = false ∧ ∃ v, w2.cell? ⟨ki, oi + q, none⟩ = some v) := ⟨y2, _, y1⟩
    clear y1 y2
    go_wp2_with (fail)
    refine wp_region_held_drew (S := CsL [(⟨D, 7, none⟩, .slice (some ⟨ki, oi, none⟩) b.i.n b.i.c), (⟨w.heap.size, 1, none⟩, .int .i64 q)]) (by kernel_rfl) (CsL.cons f0 (CsL.cons f1 (CsL.nil _))) (fun hS => ?_)
    refine tI 0 (v := .pointer (some ⟨D, 0, none⟩)) (d := some 16) rfl rfl (fun w' hw => ?_) hS ?_
    · clear hw; go_simp
    try simp only [Act.put, s1, s2, s3]
    refine tI 1 (v := .pointer (some ⟨D, 0, none⟩)) (d := some 17) rfl rfl (fun w' hw => ?_) hS ?_
    · clear hw; go_simp
    try simp only [Act.put, s1, s2, s3]
    refine tI 2 (v := .pointer (some ⟨D, 0, none⟩)) (d := some 18) rfl rfl (fun w' hw => ?_) hS ?_
    · clear hw; go_simp
    try simp only [Act.put, s1, s2, s3]
    refine tI 3 (v := .pointer (some ⟨D, 7, none⟩)) (d := some 19) rfl rfl (fun w' hw => ?_) hS ?_
    · clear hw; go_simp
    try simp only [Act.put, s1, s2, s3]
    refine tI 4 (v := .slice (some ⟨ki, oi, none⟩) b.i.n b.i.c) (d := some 20) rfl rfl (fun w' hw => ?_) hS ?_
    · have q := CsL.at hw 0 _ _ rfl; clear hw; go_simp
    try simp only [Act.put, s1, s2, s3]
    refine tI 5 (v := .pointer (some ⟨w.heap.size, 1, none⟩)) (d := some 21) rfl rfl (fun w' hw => ?_) hS ?_
    · clear hw; go_simp
    try simp only [Act.put, s1, s2, s3]
    refine tI 6 (v := .int .i64 q) (d := some 22) rfl rfl (fun w' hw => ?_) hS ?_
    · have q := CsL.at hw 1 _ _ rfl; clear hw; go_simp
    try simp only [Act.put, s1, s2, s3]
    refine tI 7 (v := .pointer (some ⟨ki, oi + q, none⟩)) (d := some 23) rfl rfl (fun w' hw => ?_) hS ?_
    · clear hw; go_simp
    try simp only [Act.put, s1, s2, s3]
    refine r1 8 rfl (fun K hK => ?_)
    obtain ⟨vv, y1⟩ : ∃ v, w2.drew.cell? ⟨ki, oi + q, none⟩ = some v := Y1.out.2
    have y2 : w2.drew.frozen? ⟨ki, oi + q, none⟩ = false := Y1.out.1
    clear hS
    go_simp
    refine hK.out _ _ HS3.out (fun hS => ?_)
    clear hK K
    try simp only [Act.put, s1, s2, s3]
    refine wpAnyH_done (by kernel_rfl) ?_ _
    clear hS y1 y2 f0 f1
    generalize World.drew (World.setCell w2 ⟨ki, oi + q, none⟩ (.int .i64 0)) = W9 at HDr HS3 ⊢
    clear HS3 Y1
    go_wp2_with (fail)
    refine bodyPost_ret (v := .tuple #[.int .i64 0, .nilIface]) (by simp [results]) rfl ?_
    exact OpA.mk 0 0 HDr.out.d ⟨rfl, .inr ⟨HN.out, rfl, rfl, rfl⟩⟩ rfl
  · have hl : x.n = (selL b.o.f ((q : Int) + 1) b.o.n).length := (Prod.mk.inj (show (x.n, x.f) = _ from HX.out.1)).1
    obtain ⟨A, h1, h2, h3, h4⟩ := sel_head (o := b.o.f) (t := (q : Int) + 1) (n := b.o.n) (by omega)
    have HA : Hid (∃ u, u < b.o.n ∧ b.o.f u = (q : Int) + 1) := ⟨A, h1, h2⟩
    have hb0 : decide (0 < x.n) = true := by simp; omega
    clear h1 h2 h3 h4 hl
    have cE : w2.cell? ⟨8, 0, none⟩ = some (ev a 7) := HS2.out.e.h _ _ (by simp [erl])
    go_wp2_with (fail)
    go_quiet (fail)
    go_wp2_with (fail)
    refine bodyPost_ret (v := .tuple #[.int .i64 0, ev a 7]) (by simp [results]) rfl ?_
    exact OpA.mk 7 0 (HS2.out.d.drewN _) ⟨rfl, .inl ⟨HA.out, rfl, rfl, rfl⟩⟩ rfl

set_option maxHeartbeats 16000000 in
theorem enter_op {a : Nat → Addr} {B D : Nat} {s t : Nat → Nat} {b : Bx} {U : Nat → List Int} {w : World} (h : Dr B D s t b U w) (he : Er a w) (hB : 12 ≤ B) (hok : OkP b) (o : Ox) (q : Nat) (hq : o.s = q) (hqs : (q : Int) < b.s) :
    Calls Tryd.prog 67 #[.pointer (some ⟨D, 0, none⟩), .agg o.cells.toArray] w fun e w' => OpA a B D s t w (fun c V x y => V = U ∧ ((b.i.f q ≠ 0 ∧ c = b ∧ x = 6 ∧ y = 0) ∨ (b.i.f q = 0 ∧ b.e.f q = 4095 ∧ c = b ∧ x = 12 ∧ y = 0) ∨ (b.i.f q = 0 ∧ b.e.f q ≠ 4095 ∧ c = b.ine q 1 (b.e.f q + 1) ∧ x = 0 ∧ y = b.e.f q + 1))) e w' := by
  have S := Oq.start (a := a) h he hB o 28
  have HOK : Hid (OkP b) := hok
  have l0 := hok.1.1.1
  have l1 := hok.1.1.2.1
  have l2 := hok.1.1.2.2.1
  have l3 := hok.1.1.2.2.2.1
  have l6 := hok.1.1.2.2.2.2.1
  have l7 := hok.1.1.2.2.2.2.2.2
  have l8 := hok.1.1.2.2.2.2.2.1
  obtain ⟨ko, oo, eo, to⟩ := h.addr (x := b.o) (by simp [Bx.lists]) (by omega)
  obtain ⟨ki, oi, ei, ti⟩ := h.addr (x := b.i) (by simp [Bx.lists]) (by omega)
  obtain ⟨ke, oe, ee, te⟩ := h.addr (x := b.e) (by simp [Bx.lists]) (by omega)
  have EO : Hid (b.o.a = some ⟨ko, oo, none⟩) := eo
  have EI : Hid (b.i.a = some ⟨ki, oi, none⟩) := ei
  have EE : Hid (b.e.a = some ⟨ke, oe, none⟩) := ee
  have TT : Hid (t ko = 2 ∧ t ki = 2 ∧ t ke = 2 ∧ t D = 1) := ⟨to, ti, te, h.tD⟩
  have LS : Hid (b.s ≤ 4 ∧ 1 ≤ b.s ∧ (b.i.n : Int) = b.s ∧ (b.e.n : Int) = b.s ∧ b.o.n ≤ 1000 ∧ b.o.n ≤ b.o.c) := ⟨by omega, by omega, by omega, by omega, by omega, (h.h.each b.o (by simp [Bx.lists])).1⟩
  clear h he hB eo ei ee to ti te hok l0 l1 l2 l3 l6 l7 l8
  simp only [Ox.cells] at S ⊢
  have TQ : Hid ((q : Int) < b.s) := hqs
  have HQ : Hid (o.s = q) := hq
  clear hq hqs
  go_enter Tryd.func67, Tryd.ntmps67
  go_wp2_with (fail)
  generalize w.alloc (.cells _ 28) = W at S ⊢
  have HS0 : Hid (Oq a B D s t w t b U w.heap.size o W) := S
  clear S
  refine wp_region_held_drew (S := Oq a B D s t w t b U w.heap.size o) (by kernel_rfl) (HS0.out.drewN 1) (fun hS => ?_)
  refine tI 0 (v := .pointer (some ⟨D, 0, none⟩)) (d := some 6) rfl rfl (fun w' hw => ?_) hS ?_
  · clear hw; go_simp
  try simp only [Act.put, s1, s2, s3]
  refine tI 1 (v := .pointer (some ⟨D, 0, none⟩)) (d := some 7) rfl rfl (fun w' hw => ?_) hS ?_
  · clear hw; go_simp
  try simp only [Act.put, s1, s2, s3]
  refine tI 2 (v := .pointer (some ⟨D, 0, none⟩)) (d := some 8) rfl rfl (fun w' hw => ?_) hS ?_
  · clear hw; go_simp
  try simp only [Act.put, s1, s2, s3]
  refine tB 3 (v := .agg b.cells.toArray) (d := some 9) rfl rfl (yieldsIf_load_mid (by rfl) 26 _ rfl D 0 rfl b.cells _ (fun w' hw => hw.d.d.range) Tryd.underlying26 rfl (by kernel_rfl)) hS ?_
  try simp only [Act.put, s1, s2, s3]
  refine tI 4 (v := .pointer (some ⟨w.heap.size, 1, none⟩)) (d := some 10) rfl rfl (fun w' hw => ?_) hS ?_
  · clear hw; go_simp
  try simp only [Act.put, s1, s2, s3]
  refine tI 5 (v := .int .i64 q) (d := some 11) rfl rfl (fun w' hw => ?_) hS ?_
  · have q1 := hw.op 1 _ rfl; rw [HQ.out] at q1; clear hw; go_simp
  try simp only [Act.put, s1, s2, s3]
  refine r1 6 rfl (fun K hK => ?_)
  have HS1 : Hid (Oq a B D s t w t b U w.heap.size o _) := hS
  clear hS
  go_simp
  refine (isin_any b ((q : Int)) _ HS1.out.d.d.h.at (by have := LS.out; omega)).mono ?_
  rintro e w2 ⟨⟨r, rfl, hr⟩, hb⟩
  have HI : Hid (Tell r ((0 ≤ (q : Int) ∧ (q : Int) < b.s) ∧ b.i.f ((q : Int)).toNat ≠ 0)) := hr
  have HS2 : Hid (Oq a B D s t w t b U w.heap.size o w2) := HS1.out.later hb
  clear HS1 hb hr
  go_wp2_with (fail)
  refine hK.out _ _ HS2.out (fun hS => ?_)
  clear hK K
  try simp only [Act.put, s1, s2, s3]
  refine wpAnyH_done (by kernel_rfl) ?_ _
  clear hS
  cases r
  · have HI0 : Hid (b.i.f q = 0) := by
      have g := HI.out
      by_cases e : b.i.f q = 0
      · exact e
      · exact absurd (g.2 ⟨⟨by omega, TQ.out⟩, by rw [Int.toNat_natCast]; exact e⟩) (by simp)
    have ce8 : w2.cell? ⟨D, 8, none⟩ = some (.slice (some ⟨ke, oe, none⟩) b.e.n b.e.c) := by rw [← EE.out]; exact HS2.out.d.d.cell 8 _ rfl
    have k1 : w2.cell? ⟨w.heap.size, 1, none⟩ = some (.int .i64 q) := by rw [← HQ.out]; exact HS2.out.op 1 _ rfl
    have ie : (q : Int) < b.e.n := by have := LS.out; have := TQ.out; omega
    have ce := (HS2.out.d.d.at (x := b.e) (by simp [Bx.lists]) EE.out (j := q) (by omega)).1
    have e0 : 0 ≤ b.e.f q := (HOK.out.1.2.1 q (by have := LS.out; have := TQ.out; omega)).2.2.1
    have e1 : b.e.f q ≤ 4095 := (HOK.out.1.2.1 q (by have := LS.out; have := TQ.out; omega)).2.2.2.1
    by_cases he : b.e.f q = 4095
    · have HE : Hid (b.e.f q = 4095) := he
      rw [he] at ce
      clear he e0 e1
      have cE : w2.cell? ⟨11, 0, none⟩ = some (ev a 12) := HS2.out.e.h _ _ (by simp [erl])
      go_wp2_with (fail)
      go_quiet (fail)
      go_wp2_with (fail)
      go_quiet (fail)
      go_wp2_with (fail)
      refine bodyPost_ret (v := .tuple #[.int .i64 0, ev a 12]) (by simp [results]) rfl ?_
      exact OpA.mk 12 0 ((HS2.out.d.drewN _).drewN _) ⟨rfl, .inr (.inl ⟨HI0.out, HE.out, rfl, rfl, rfl⟩)⟩ rfl
    · have HE : Hid (b.e.f q ≠ 4095) := he
      have hb4 : (b.e.f q == 4095) = false := by simpa using he
      clear he
      go_wp2_with (fail)
      go_quiet (fail)
      obtain ⟨w3, e3⟩ : ∃ w3, w3 = w2.drewN nq := ⟨_, rfl⟩
      have HS3q : Hid (Oq a B D s t w t b U w.heap.size o w3) := by unfold Hid; rw [e3]; exact HS2.out.drewN nq
      rw [← e3]
      clear e3 ce8 k1 ce
      obtain ⟨y1, y2⟩ := HS3q.out.d.d.at (x := b.i) (by simp [Bx.lists]) EI.out (j := q) (by have := LS.out; have := TQ.out; omega)
      have i1 : (q : Int) < b.i.n := by have := LS.out; have := TQ.out; omega
      have XD : Hid (D ≠ ki ∧ w.heap.size ≠ ki) := ⟨fun e => by have h1 := TT.out.2.2.2; have h2 := TT.out.2.1; rw [e] at h1; omega, fun e => by have h1 := HS2.out.tr; have h2 := TT.out.2.1; rw [e] at h1; omega⟩
      have f0 : w3.cell? ⟨D, 7, none⟩ = some (.slice (some ⟨ki, oi, none⟩) b.i.n b.i.c) := by rw [← EI.out]; exact HS3q.out.d.d.cell 7 _ rfl
      have f1 : w3.cell? ⟨w.heap.size, 1, none⟩ = some (.int .i64 q) := by rw [← HQ.out]; exact HS3q.out.op 1 _ rfl
      have HDr : Hid (Oq a B D s t w t (b.seti q 1) U w.heap.size o (w3.setCell ⟨ki, oi + q, none⟩ (.int .i64 1)).drew) := (HS3q.out.call ((Du.start HS3q.out.d.d).write (b' := b.seti q 1) 6 b.i rfl ki oi q EI.out (by have := LS.out; have := TQ.out; omega) 1 rfl rfl (fun i hi => lies_same (b := b) (c := b.seti q 1) rfl hi))).drewN 1
      have HS3 : Hid (CsL [(⟨D, 7, none⟩, .slice (some ⟨ki, oi, none⟩) b.i.n b.i.c), (⟨w.heap.size, 1, none⟩, .int .i64 q)] (w3.setCell ⟨ki, oi + q, none⟩ (.int .i64 1)).drew) := CsL.set (w := w3) (CsL.cons f0 (CsL.cons f1 (CsL.nil _))) _ _ (by intro y hy; simp at hy; rcases hy with rfl | rfl; exact XD.out.1; exact XD.out.2)
      have Y1 : Hid (w3.frozen? ⟨ki, oi + q, none⟩ = false ∧ ∃ v, w3.cell? ⟨ki, oi + q, none⟩ = some v) := ⟨y2, _, y1⟩
      clear y1 y2
      go_wp2_with (fail)
      refine wp_region_held_drew (S := CsL [(⟨D, 7, none⟩, .slice (some ⟨ki, oi, none⟩) b.i.n b.i.c), (⟨w.heap.size, 1, none⟩, .int .i64 q)]) (by kernel_rfl) (CsL.cons f0 (CsL.cons f1 (CsL.nil _))) (fun hS => ?_)
      refine tI 0 (v := .pointer (some ⟨D, 0, none⟩)) (d := some 25) rfl rfl (fun w' hw => ?_) hS ?_
      · clear hw; go_simp
      try simp only [Act.put, s1, s2, s3]
      refine tI 1 (v := .pointer (some ⟨D, 0, none⟩)) (d := some 26) rfl rfl (fun w' hw => ?_) hS ?_
      · clear hw; go_simp
      try simp only [Act.put, s1, s2, s3]
      refine tI 2 (v := .pointer (some ⟨D, 0, none⟩)) (d := some 27) rfl rfl (fun w' hw => ?_) hS ?_
      · clear hw; go_simp
      try simp only [Act.put, s1, s2, s3]
      refine tI 3 (v := .pointer (some ⟨D, 7, none⟩)) (d := some 28) rfl rfl (fun w' hw => ?_) hS ?_
      · clear hw; go_simp
      try simp only [Act.put, s1, s2, s3]
      refine tI 4 (v := .slice (some ⟨ki, oi, none⟩) b.i.n b.i.c) (d := some 29) rfl rfl (fun w' hw => ?_) hS ?_
      · have q := CsL.at hw 0 _ _ rfl; clear hw; go_simp
      try simp only [Act.put, s1, s2, s3]
      refine tI 5 (v := .pointer (some ⟨w.heap.size, 1, none⟩)) (d := some 30) rfl rfl (fun w' hw => ?_) hS ?_
      · clear hw; go_simp
      try simp only [Act.put, s1, s2, s3]
      refine tI 6 (v := .int .i64 q) (d := some 31) rfl rfl (fun w' hw => ?_) hS ?_
      · have q := CsL.at hw 1 _ _ rfl; clear hw; go_simp
      try simp only [Act.put, s1, s2, s3]
      refine tI 7 (v := .pointer (some ⟨ki, oi + q, none⟩)) (d := some 32) rfl rfl (fun w' hw => ?_) hS ?_
      · clear hw; go_simp
      try simp only [Act.put, s1, s2, s3]
      refine r1 8 rfl (fun K hK => ?_)
      obtain ⟨vv, y1⟩ : ∃ v, w3.drew.cell? ⟨ki, oi + q, none⟩ = some v := Y1.out.2
      have y2 : w3.drew.frozen? ⟨ki, oi + q, none⟩ = false := Y1.out.1
      clear hS
      go_simp
      refine hK.out _ _ HS3.out (fun hS => ?_)
      clear hK K
      try simp only [Act.put, s1, s2, s3]
      refine wpAnyH_done (by kernel_rfl) ?_ _
      clear hS y1 y2 f0 f1
      generalize World.drew (World.setCell w3 ⟨ki, oi + q, none⟩ (.int .i64 1)) = W9 at HDr HS3 ⊢
      clear HS3 Y1
      clear XD
      have XD : Hid (D ≠ ke ∧ w.heap.size ≠ ke) := ⟨fun e => by have h1 := TT.out.2.2.2; have h2 := TT.out.2.2.1; rw [e] at h1; omega, fun e => by have h1 := HS2.out.tr; have h2 := TT.out.2.2.1; rw [e] at h1; omega⟩
      have f0 : W9.cell? ⟨D, 8, none⟩ = some (.slice (some ⟨ke, oe, none⟩) b.e.n b.e.c) := by rw [← EE.out]; exact HDr.out.d.d.cell 8 _ rfl
      have f1 : W9.cell? ⟨w.heap.size, 1, none⟩ = some (.int .i64 q) := by rw [← HQ.out]; exact HDr.out.op 1 _ rfl
      have HZ : Hid (W9.cell? ⟨ke, oe + q, none⟩ = some (.int .i64 (b.e.f q)) ∧ W9.frozen? ⟨ke, oe + q, none⟩ = false) := HDr.out.d.d.at (x := (b.seti q 1).e) (by simp [Bx.lists]) EE.out (j := q) (by have := LS.out; have := TQ.out; show q < b.e.n; omega)
      have HC0 : Hid (CsL [(⟨D, 8, none⟩, .slice (some ⟨ke, oe, none⟩) b.e.n b.e.c), (⟨w.heap.size, 1, none⟩, .int .i64 q)] W9) := CsL.cons f0 (CsL.cons f1 (CsL.nil _))
      have HC1 : Hid (CsL [(⟨D, 8, none⟩, .slice (some ⟨ke, oe, none⟩) b.e.n b.e.c), (⟨w.heap.size, 1, none⟩, .int .i64 q)] (W9.setCell ⟨ke, oe + q, none⟩ (.int .i64 (b.e.f q + 1))).drew) := CsL.set (w := W9) HC0.out _ _ (by intro y hy; simp at hy; rcases hy with rfl | rfl; exact XD.out.1; exact XD.out.2)
      have HDr2 : Hid (Oq a B D s t w t (b.ine q 1 (b.e.f q + 1)) U w.heap.size o (W9.setCell ⟨ke, oe + q, none⟩ (.int .i64 (b.e.f q + 1))).drew) := (HDr.out.call ((Du.start HDr.out.d.d).write (b' := b.ine q 1 (b.e.f q + 1)) 7 (b.seti q 1).e rfl ke oe q EE.out (by have := LS.out; have := TQ.out; show q < b.e.n; omega) (b.e.f q + 1) rfl rfl (fun i hi => lies_same (b := b.seti q 1) (c := b.ine q 1 (b.e.f q + 1)) rfl hi))).drewN 1
      clear f0 f1
      go_wp2_with (fail)
      refine wp_region_held_drew (S := CsL [(⟨D, 8, none⟩, .slice (some ⟨ke, oe, none⟩) b.e.n b.e.c), (⟨w.heap.size, 1, none⟩, .int .i64 q)]) (by kernel_rfl) HC0.out (fun hS => ?_)
      refine tI 0 (v := .pointer (some ⟨D, 0, none⟩)) (d := some 33) rfl rfl (fun w' hw => ?_) hS ?_
      · clear hw; go_simp
      try simp only [Act.put, s1, s2, s3]
      refine tI 1 (v := .pointer (some ⟨D, 0, none⟩)) (d := some 34) rfl rfl (fun w' hw => ?_) hS ?_
      · clear hw; go_simp
      try simp only [Act.put, s1, s2, s3]
      refine tI 2 (v := .pointer (some ⟨D, 0, none⟩)) (d := some 35) rfl rfl (fun w' hw => ?_) hS ?_
      · clear hw; go_simp
      try simp only [Act.put, s1, s2, s3]
      refine tI 3 (v := .pointer (some ⟨D, 8, none⟩)) (d := some 36) rfl rfl (fun w' hw => ?_) hS ?_
      · clear hw; go_simp
      try simp only [Act.put, s1, s2, s3]
      refine tI 4 (v := .slice (some ⟨ke, oe, none⟩) b.e.n b.e.c) (d := some 37) rfl rfl (fun w' hw => ?_) hS ?_
      · have q := CsL.at hw 0 _ _ rfl; clear hw; go_simp
      try simp only [Act.put, s1, s2, s3]
      refine tI 5 (v := .pointer (some ⟨w.heap.size, 1, none⟩)) (d := some 38) rfl rfl (fun w' hw => ?_) hS ?_
      · clear hw; go_simp
      try simp only [Act.put, s1, s2, s3]
      refine tI 6 (v := .int .i64 q) (d := some 39) rfl rfl (fun w' hw => ?_) hS ?_
      · have q := CsL.at hw 1 _ _ rfl; clear hw; go_simp
      try simp only [Act.put, s1, s2, s3]
      refine tI 7 (v := .pointer (some ⟨ke, oe + q, none⟩)) (d := some 40) rfl rfl (fun w' hw => ?_) hS ?_
      · clear hw; go_simp
      try simp only [Act.put, s1, s2, s3]
      refine r1 8 rfl (fun K hK => ?_)
      have y1 := HZ.out.1
      clear hS
      go_simp
      refine hK.out _ _ HC0.out (fun hS => ?_)
      clear y1
      clear hK K
      try simp only [Act.put, s1, s2, s3]
      refine tI 9 (v := .int .i64 (b.e.f q + 1)) (d := some 42) rfl rfl (fun w' hw => ?_) hS ?_
      · clear hw; have w1 : IntKind.i64.wrap (b.e.f q + 1) = b.e.f q + 1 := (by rw [IntKind.wrap_i64]; omega); go_simp
      try simp only [Act.put, s1, s2, s3]
      refine tI 10 (v := .pointer (some ⟨ke, oe + q, none⟩)) (d := some 43) rfl rfl (fun w' hw => ?_) hS ?_
      · clear hw; go_simp
      try simp only [Act.put, s1, s2, s3]
      refine r1 11 rfl (fun K hK => ?_)
      have y1 := HZ.out.1
      have y2 : W9.drew.frozen? ⟨ke, oe + q, none⟩ = false := HZ.out.2
      clear hS
      go_simp
      refine hK.out _ _ HC1.out (fun hS => ?_)
      clear y1 y2
      clear hK K
      try simp only [Act.put, s1, s2, s3]
      refine wpAnyH_done (by kernel_rfl) ?_ _
      clear hS
      generalize World.drew (World.setCell W9 ⟨ke, oe + q, none⟩ (.int .i64 (b.e.f q + 1))) = W8 at HDr2 HC1 ⊢
      have g8 : W8.cell? ⟨D, 8, none⟩ = some (.slice (some ⟨ke, oe, none⟩) b.e.n b.e.c) := by rw [← EE.out]; exact HDr2.out.d.d.cell 8 _ rfl
      have g1 : W8.cell? ⟨w.heap.size, 1, none⟩ = some (.int .i64 q) := by rw [← HQ.out]; exact HDr2.out.op 1 _ rfl
      have ge : W8.cell? ⟨ke, oe + q, none⟩ = some (.int .i64 (b.e.f q + 1)) := by
        have := (HDr2.out.d.d.at (x := (b.ine q 1 (b.e.f q + 1)).e) (by simp [Bx.lists]) EE.out (j := q) (by have := LS.out; have := TQ.out; show q < b.e.n; omega)).1
        simpa [Bx.ine, Sx.put, Book.upd] using this
      clear HC1 HC0 HZ
      go_wp2_with (fail)
      go_quiet (fail)
      go_wp2_with (fail)
      refine bodyPost_ret (v := .tuple #[.int .i64 (b.e.f q + 1), .nilIface]) (by simp [results]) rfl ?_
      exact OpA.mk 0 (b.e.f q + 1) (HDr2.out.d.drewN _) ⟨rfl, .inr (.inr ⟨HI0.out, HE.out, rfl, rfl, rfl⟩)⟩ rfl
  · have HI0 : Hid (b.i.f q ≠ 0) := by
      have g := (HI.out.1 rfl).2
      rwa [Int.toNat_natCast] at g
    have cE : w2.cell? ⟨7, 0, none⟩ = some (ev a 6) := HS2.out.e.h _ _ (by simp [erl])
    go_wp2_with (fail)
    go_quiet (fail)
    go_wp2_with (fail)
    refine bodyPost_ret (v := .tuple #[.int .i64 0, ev a 6]) (by simp [results]) rfl ?_
    exact OpA.mk 6 0 (HS2.out.d.drewN _) ⟨rfl, .inl ⟨HI0.out, rfl, rfl, rfl⟩⟩ rfl
end Go.Proofs.YtbipolfbkemmpaaDoor.Dra

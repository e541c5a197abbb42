import Derived.Test.YtbipolfbkemmpaaDoorM25

/- The program's bookGive, bookHand. -/
namespace Go.Proofs.YtbipolfbkemmpaaDoor.Dra
open Go.ChangeShapes Go.WideShapes Go.ChangeAt Go.RowKit
open Aid Lst Book Rin
set_option maxRecDepth 100000
set_option linter.unusedVariables false
theorem run_neq_iface_nil {P : Program} {ti : TypeId} {ms : Array (String × TypeId)} (w : World) (tp : TypeId) (v : Value) (hi : P.underlying ti = some (.interface ms)) : (binOp .neq ti (.iface tp v) .nilIface).run P w = .ok (.bool true) w := by
  have h : ∀ d : Nat, (Op.equalIn (d + 1) ti (.iface tp v) .nilIface).run P w = .ok false w := fun d => by simp [Op.equalIn, run_underlying hi]
  simp only [binOp]
  simp [Op.equal, Op.maxDepth, h 9999]
theorem run_neq_nil_nil {P : Program} {ti : TypeId} {ms : Array (String × TypeId)} (w : World) (hi : P.underlying ti = some (.interface ms)) : (binOp .neq ti .nilIface .nilIface).run P w = .ok (.bool false) w := by
  have h : ∀ d : Nat, (Op.equalIn (d + 1) ti .nilIface .nilIface).run P w = .ok true w := fun d => by simp [Op.equalIn, run_underlying hi]
  simp only [binOp]
  simp [Op.equal, Op.maxDepth, h 9999]
theorem errV_pos (a : Nat → Addr) {x : Nat} (h : x ≠ 0) : errV a x = ev a x := by unfold errV; rw [if_neg h]
def GiQ (b : Bx) (U : Nat → List Int) (s u : Int) (c : Bx) (V : Nat → List Int) (x : Nat) (y : Int) : Prop :=
  (∃ r : Nat, WhoP b s u r ∧ 0 < r ∧ c = b ∧ V = U ∧ x = r ∧ y = 0) ∨ (WhoP b s u 0 ∧ ∃ A : Nat, u = A ∧ GvQ b U A c V (.tuple #[]) ∧ x = 0 ∧ y = 0)
def HaQ (b : Bx) (U : Nat → List Int) (s u g : Int) (c : Bx) (V : Nat → List Int) (x : Nat) (y : Int) : Prop :=
  V = U ∧ ((∃ r : Nat, WhoP b s u r ∧ 0 < r ∧ c = b ∧ x = r ∧ y = 0) ∨
    (WhoP b s u 0 ∧ (((g < 0 ∨ b.s ≤ g ∨ b.i.f g.toNat = 0) ∧ c = b ∧ x = 5 ∧ y = 0) ∨ ∃ A q : Nat, u = A ∧ g = q ∧ (q : Int) < b.s ∧ b.i.f q ≠ 0 ∧ c = b.own A ((q : Int) + 1) ∧ x = 0 ∧ y = 0)))
set_option maxHeartbeats 16000000 in
theorem give_op {a : Nat → Addr} {B D : Nat} {s t : Nat → Nat} {b : Bx} {U : Nat → List Int} {w : World} (h : Dr B D s t b U w) (he : Er a w) (hB : 12 ≤ B) (hok : OkP b) (o : Ox) (q : Nat) (hq : o.s = q) (hqs : (q : Int) < b.s) (hU : ∀ k, k < 4 → ∀ u ∈ U k, 0 ≤ u ∧ u ≤ 1000) :
    Calls Tryd.prog 69 #[.pointer (some ⟨D, 0, none⟩), .agg o.cells.toArray] w fun e w' => OpA a B D s t w (GiQ b U o.s o.a) e w' := by
  have S := Oq.start (a := a) h he hB o 28
  have HOK : Hid (OkP b) := hok
  have l0 := hok.1.1.1
  have l1 := hok.1.1.2.1
  have l2 := hok.1.1.2.2.1
  have l3 := hok.1.1.2.2.2.1
  have l6 := hok.1.1.2.2.2.2.1
  have l7 := hok.1.1.2.2.2.2.2.2
  have l8 := hok.1.1.2.2.2.2.2.1
  obtain ⟨ko, oo, eo, to⟩ := h.addr (x := b.o) (by simp [Bx.lists]) (by omega)
  obtain ⟨ki, oi, ei, ti⟩ := h.addr (x := b.i) (by simp [Bx.lists]) (by omega)
  obtain ⟨ke, oe, ee, te⟩ := h.addr (x := b.e) (by simp [Bx.lists]) (by omega)
  have EO : Hid (b.o.a = some ⟨ko, oo, none⟩) := eo
  have EI : Hid (b.i.a = some ⟨ki, oi, none⟩) := ei
  have EE : Hid (b.e.a = some ⟨ke, oe, none⟩) := ee
  have TT : Hid (t ko = 2 ∧ t ki = 2 ∧ t ke = 2 ∧ t D = 1) := ⟨to, ti, te, h.tD⟩
  have LS : Hid (b.s ≤ 4 ∧ 1 ≤ b.s ∧ (b.i.n : Int) = b.s ∧ (b.e.n : Int) = b.s ∧ b.o.n ≤ 1000 ∧ b.o.n ≤ b.o.c) := ⟨by omega, by omega, by omega, by omega, by omega, (h.h.each b.o (by simp [Bx.lists])).1⟩
  clear h he hB eo ei ee to ti te hok l0 l1 l2 l3 l6 l7 l8
  simp only [Ox.cells] at S ⊢
  have TQ : Hid (o.s = q ∧ (q : Int) < b.s) := ⟨hq, hqs⟩
  clear hq hqs
  go_enter Tryd.func69, Tryd.ntmps69
  have HS0 : Hid (Oq a B D s t w t b U w.heap.size o _) := S
  have HP0 : Hid (World.rangeAt _ w.heap.size 0 o.cells) := S.p
  clear S
  go_wp2_with (refine wpList_load_mid rfl 28 _ rfl w.heap.size 0 rfl o.cells _ HP0.out Tryd.underlying28 rfl (by kernel_rfl) ?_)
  refine (mine_any HS0.out.d.d HS0.out.e HS0.out.hB HOK.out o (by have := TQ.out.1; omega) (by have := TQ.out; have := LS.out; omega)).mono ?_
  rintro e w2 ⟨⟨r, rfl, hr⟩, t2, hd⟩
  have HS2 : Hid (Oq a B D s t w t2 b U w.heap.size o w2) := HS0.out.call hd
  have HW : Hid (WhoP b o.s o.a r) := hr
  have TT2 : Hid (t2 ko = 2 ∧ t2 D = 1) := ⟨by
    obtain ⟨k', o', e', h'⟩ := HS2.out.d.d.addr (x := b.o) (by simp [Bx.lists]) (by have := HOK.out.1.1.2.2.2.2.1; have := HOK.out.1.1.2.2.2.2.2.2; omega)
    rw [EO.out] at e'; cases e'; exact h', HS2.out.d.d.tD⟩
  clear hd hr HP0 HS0
  by_cases r0 : r = 0
  case neg =>
    rw [errV_pos a r0]
    have qn := run_neq_iface_nil (P := Tryd.prog) w2 112 (.pointer (some (a r))) Tryd.underlying49
    unfold ev
    go_wp2_with (fail)
    refine bodyPost_ret (v := .tuple #[.int .i64 0, ev a r]) (by simp [results, ev]) rfl ?_
    exact OpA.mk r 0 HS2.out.d (.inl ⟨r, HW.out, by omega, rfl, rfl, rfl, rfl⟩) (by rw [errV_pos a r0])
  subst r0
  rw [show errV a 0 = .nilIface from rfl]
  have qn := run_neq_nil_nil (P := Tryd.prog) w2 Tryd.underlying49
  obtain ⟨v1, v2, v3, v4⟩ := who_zero HW.out
  obtain ⟨A, eA⟩ : ∃ A : Nat, o.a = A := ⟨o.a.toNat, by omega⟩
  rw [eA, Int.toNat_natCast] at v3 v4
  have HA : Hid (o.a = A) := eA
  have HV : Hid (b.o.f A = o.s + 1 ∧ A < b.o.n) := ⟨v4, by omega⟩
  have k2 : w2.cell? ⟨w.heap.size, 2, none⟩ = some (.int .i64 A) := by rw [← eA]; exact HS2.out.op 2 _ rfl
  clear v1 v2 v3 v4 eA
  go_wp2_with (fail)
  refine (give_any HS2.out.d.d HOK.out A HV.out.2 (by have := HV.out.1; have := TQ.out.1; omega) hU).mono ?_
  rintro e w5 ⟨c, V, v, rfl, hg, t3, hd⟩
  have gv := hg.1
  subst gv
  have HG : Hid (GvQ b U A c V (.tuple #[])) := hg
  have HO5 : Hid (Oq a B D s t w t3 c V w.heap.size o w5) := HS2.out.call hd
  clear hd hg
  go_wp2_with (fail)
  refine bodyPost_ret (v := .tuple #[.int .i64 0, .nilIface]) (by simp [results]) rfl ?_
  exact OpA.mk 0 0 HO5.out.d (.inr ⟨HW.out, A, HA.out, HG.out, rfl, rfl⟩) rfl

set_option maxHeartbeats 16000000 in
theorem hand_op {a : Nat → Addr} {B D : Nat} {s t : Nat → Nat} {b : Bx} {U : Nat → List Int} {w : World} (h : Dr B D s t b U w) (he : Er a w) (hB : 12 ≤ B) (hok : OkP b) (o : Ox) (q : Nat) (hq : o.s = q) (hqs : (q : Int) < b.s) :
    Calls Tryd.prog 70 #[.pointer (some ⟨D, 0, none⟩), .agg o.cells.toArray] w fun e w' => OpA a B D s t w (HaQ b U o.s o.a o.b) e w' := by
  have S := Oq.start (a := a) h he hB o 28
  have HOK : Hid (OkP b) := hok
  have l0 := hok.1.1.1
  have l1 := hok.1.1.2.1
  have l2 := hok.1.1.2.2.1
  have l3 := hok.1.1.2.2.2.1
  have l6 := hok.1.1.2.2.2.2.1
  have l7 := hok.1.1.2.2.2.2.2.2
  have l8 := hok.1.1.2.2.2.2.2.1
  obtain ⟨ko, oo, eo, to⟩ := h.addr (x := b.o) (by simp [Bx.lists]) (by omega)
  obtain ⟨ki, oi, ei, ti⟩ := h.addr (x := b.i) (by simp [Bx.lists]) (by omega)
  obtain ⟨ke, oe, ee, te⟩ := h.addr (x := b.e) (by simp [Bx.lists]) (by omega)
  have EO : Hid (b.o.a = some ⟨ko, oo, none⟩) := eo
  have EI : Hid (b.i.a = some ⟨ki, oi, none⟩) := ei
  have EE : Hid (b.e.a = some ⟨ke, oe, none⟩) := ee
  have TT : Hid (t ko = 2 ∧ t ki = 2 ∧ t ke = 2 ∧ t D = 1) := ⟨to, ti, te, h.tD⟩
  have LS : Hid (b.s ≤ 4 ∧ 1 ≤ b.s ∧ (b.i.n : Int) = b.s ∧ (b.e.n : Int) = b.s ∧ b.o.n ≤ 1000 ∧ b.o.n ≤ b.o.c) := ⟨by omega, by omega, by omega, by omega, by omega, (h.h.each b.o (by simp [Bx.lists])).1⟩
  clear h he hB eo ei ee to ti te hok l0 l1 l2 l3 l6 l7 l8
  simp only [Ox.cells] at S ⊢
  have TQ : Hid (o.s = q ∧ (q : Int) < b.s) := ⟨hq, hqs⟩
  clear hq hqs
  go_enter Tryd.func70, Tryd.ntmps70
  have HS0 : Hid (Oq a B D s t w t b U w.heap.size o _) := S
  have HP0 : Hid (World.rangeAt _ w.heap.size 0 o.cells) := S.p
  clear S
  go_wp2_with (refine wpList_load_mid rfl 28 _ rfl w.heap.size 0 rfl o.cells _ HP0.out Tryd.underlying28 rfl (by kernel_rfl) ?_)
  refine (mine_any HS0.out.d.d HS0.out.e HS0.out.hB HOK.out o (by have := TQ.out.1; omega) (by have := TQ.out; have := LS.out; omega)).mono ?_
  rintro e w2 ⟨⟨r, rfl, hr⟩, t2, hd⟩
  have HS2 : Hid (Oq a B D s t w t2 b U w.heap.size o w2) := HS0.out.call hd
  have HW : Hid (WhoP b o.s o.a r) := hr
  have TT2 : Hid (t2 ko = 2 ∧ t2 D = 1) := ⟨by
    obtain ⟨k', o', e', h'⟩ := HS2.out.d.d.addr (x := b.o) (by simp [Bx.lists]) (by have := HOK.out.1.1.2.2.2.2.1; have := HOK.out.1.1.2.2.2.2.2.2; omega)
    rw [EO.out] at e'; cases e'; exact h', HS2.out.d.d.tD⟩
  clear hd hr HP0 HS0
  by_cases r0 : r = 0
  case neg =>
    rw [errV_pos a r0]
    have qn := run_neq_iface_nil (P := Tryd.prog) w2 112 (.pointer (some (a r))) Tryd.underlying49
    unfold ev
    go_wp2_with (fail)
    refine bodyPost_ret (v := .tuple #[.int .i64 0, ev a r]) (by simp [results, ev]) rfl ?_
    exact OpA.mk r 0 HS2.out.d ⟨rfl, .inl ⟨r, HW.out, by omega, rfl, rfl, rfl⟩⟩ (by rw [errV_pos a r0])
  subst r0
  rw [show errV a 0 = .nilIface from rfl]
  have qn := run_neq_nil_nil (P := Tryd.prog) w2 Tryd.underlying49
  obtain ⟨v1, v2, v3, v4⟩ := who_zero HW.out
  obtain ⟨A, eA⟩ : ∃ A : Nat, o.a = A := ⟨o.a.toNat, by omega⟩
  rw [eA, Int.toNat_natCast] at v3 v4
  have HA : Hid (o.a = A) := eA
  have HV : Hid (b.o.f A = o.s + 1 ∧ A < b.o.n) := ⟨v4, by omega⟩
  have k2 : w2.cell? ⟨w.heap.size, 2, none⟩ = some (.int .i64 A) := by rw [← eA]; exact HS2.out.op 2 _ rfl
  clear v1 v2 v3 v4 eA
  go_wp2_with (fail)
  refine wp_region_held_drew (S := Oq a B D s t w t2 b U w.heap.size o) (by kernel_rfl) (HS2.out.drewN 1) (fun hS => ?_)
  refine tI 0 (v := .pointer (some ⟨D, 0, none⟩)) (d := some 13) rfl rfl (fun w' hw => ?_) hS ?_
  · clear hw; go_simp
  try simp only [Act.put, s1, s2, s3]
  refine tI 1 (v := .pointer (some ⟨D, 0, none⟩)) (d := some 14) rfl rfl (fun w' hw => ?_) hS ?_
  · clear hw; go_simp
  try simp only [Act.put, s1, s2, s3]
  refine tI 2 (v := .pointer (some ⟨D, 0, none⟩)) (d := some 15) rfl rfl (fun w' hw => ?_) hS ?_
  · clear hw; go_simp
  try simp only [Act.put, s1, s2, s3]
  refine tB 3 (v := .agg b.cells.toArray) (d := some 16) rfl rfl (yieldsIf_load_mid (by rfl) 26 _ rfl D 0 rfl b.cells _ (fun w' hw => hw.d.d.range) Tryd.underlying26 rfl (by kernel_rfl)) hS ?_
  try simp only [Act.put, s1, s2, s3]
  refine tI 4 (v := .pointer (some ⟨w.heap.size, 3, none⟩)) (d := some 17) rfl rfl (fun w' hw => ?_) hS ?_
  · clear hw; go_simp
  try simp only [Act.put, s1, s2, s3]
  refine tI 5 (v := .int .i64 o.b) (d := some 18) rfl rfl (fun w' hw => ?_) hS ?_
  · have q := hw.op 3 _ rfl; clear hw; go_simp
  try simp only [Act.put, s1, s2, s3]
  refine r1 6 rfl (fun K hK => ?_)
  have HS1 : Hid (Oq a B D s t w t2 b U w.heap.size o _) := hS
  clear hS HS2
  go_simp
  refine (isin_any b o.b _ HS1.out.d.d.h.at (by have := LS.out; omega)).mono ?_
  rintro e w3 ⟨⟨r, rfl, hr⟩, hb⟩
  have HI : Hid (Tell r ((0 ≤ o.b ∧ o.b < b.s) ∧ b.i.f (o.b).toNat ≠ 0)) := hr
  have HS2 : Hid (Oq a B D s t w t2 b U w.heap.size o w3) := HS1.out.later hb
  clear HS1 hb hr
  go_wp2_with (fail)
  refine hK.out _ _ HS2.out (fun hS => ?_)
  clear hK K
  try simp only [Act.put, s1, s2, s3]
  refine tI 7 (v := .bool (!r)) (d := some 20) rfl rfl (fun w' hw => ?_) hS ?_
  · clear hw; go_simp
  try simp only [Act.put, s1, s2, s3]
  refine wpAnyH_done (by kernel_rfl) ?_ _
  clear hS k2 qn
  cases r
  · have HI0 : Hid (o.b < 0 ∨ b.s ≤ o.b ∨ b.i.f o.b.toNat = 0) := by
      by_cases h1 : o.b < 0
      · exact .inl h1
      · by_cases h2 : b.s ≤ o.b
        · exact .inr (.inl h2)
        · by_cases e : b.i.f o.b.toNat = 0
          · exact .inr (.inr e)
          · exact absurd (HI.out.2 ⟨⟨by omega, by omega⟩, e⟩) (by simp)
    have cE : w3.cell? ⟨6, 0, none⟩ = some (ev a 5) := HS2.out.e.h _ _ (by simp [erl])
    go_wp2_with (fail)
    go_quiet (fail)
    go_wp2_with (fail)
    refine bodyPost_ret (v := .tuple #[.int .i64 0, ev a 5]) (by simp [results]) rfl ?_
    exact OpA.mk 5 0 (HS2.out.d.drewN _) ⟨rfl, .inr ⟨HW.out, .inl ⟨HI0.out, rfl, rfl, rfl⟩⟩⟩ rfl
  · have HI1 := HI.out.1 rfl
    obtain ⟨p, eP⟩ : ∃ p : Nat, o.b = p := ⟨o.b.toNat, by omega⟩
    rw [eP, Int.toNat_natCast] at HI1
    have TP : Hid ((p : Int) < b.s ∧ b.i.f p ≠ 0) := ⟨HI1.1.2, HI1.2⟩
    have HQ : Hid (o.b = p) := eP
    have p4 : p ≤ 4 := by have := HI1.1.2; have := LS.out; omega
    clear HI1 eP
    obtain ⟨y1, y2⟩ := HS2.out.d.d.at (x := b.o) (by simp [Bx.lists]) EO.out HV.out.2
    have i1 : (A : Int) < b.o.n := by have := HV.out.2; omega
    have XD : Hid (D ≠ ko ∧ w.heap.size ≠ ko) := ⟨fun e => by have h1 := TT2.out.2; have h2 := TT2.out.1; rw [e] at h1; omega, fun e => by have h1 := HS2.out.tr; have h2 := TT2.out.1; rw [e] at h1; omega⟩
    have f0 : w3.cell? ⟨D, 6, none⟩ = some (.slice (some ⟨ko, oo, none⟩) b.o.n b.o.c) := by rw [← EO.out]; exact HS2.out.d.d.cell 6 _ rfl
    have f1 : w3.cell? ⟨w.heap.size, 2, none⟩ = some (.int .i64 A) := by rw [← HA.out]; exact HS2.out.op 2 _ rfl
    have f2 : w3.cell? ⟨w.heap.size, 3, none⟩ = some (.int .i64 p) := by rw [← HQ.out]; exact HS2.out.op 3 _ rfl
    have HDr : Hid (Oq a B D s t w t2 (b.own A ((p : Int) + 1)) U w.heap.size o (w3.setCell ⟨ko, oo + A, none⟩ (.int .i64 ((p : Int) + 1))).drew) := (HS2.out.call ((Du.start HS2.out.d.d).owner EO.out A HV.out.2 ((p : Int) + 1))).drewN 1
    have HS3 : Hid (CsL [(⟨D, 6, none⟩, .slice (some ⟨ko, oo, none⟩) b.o.n b.o.c), (⟨w.heap.size, 2, none⟩, .int .i64 A), (⟨w.heap.size, 3, none⟩, .int .i64 p)] (w3.setCell ⟨ko, oo + A, none⟩ (.int .i64 ((p : Int) + 1))).drew) := CsL.set (w := w3) (CsL.cons f0 (CsL.cons f1 (CsL.cons f2 (CsL.nil _)))) _ _ (by intro y hy; simp at hy; rcases hy with rfl | rfl | rfl; exact XD.out.1; exact XD.out.2; exact XD.out.2)
    have Y1 : Hid (w3.frozen? ⟨ko, oo + A, none⟩ = false ∧ ∃ v, w3.cell? ⟨ko, oo + A, none⟩ = some v) := ⟨y2, _, y1⟩
    clear y1 y2
    go_wp2_with (fail)
    refine wp_region_held_drew (S := CsL [(⟨D, 6, none⟩, .slice (some ⟨ko, oo, none⟩) b.o.n b.o.c), (⟨w.heap.size, 2, none⟩, .int .i64 A), (⟨w.heap.size, 3, none⟩, .int .i64 p)]) (by kernel_rfl) (CsL.cons f0 (CsL.cons f1 (CsL.cons f2 (CsL.nil _)))) (fun hS => ?_)
    refine tI 0 (v := .pointer (some ⟨D, 0, none⟩)) (d := some 22) rfl rfl (fun w' hw => ?_) hS ?_
    · clear hw; go_simp
    try simp only [Act.put, s1, s2, s3]
    refine tI 1 (v := .pointer (some ⟨D, 0, none⟩)) (d := some 23) rfl rfl (fun w' hw => ?_) hS ?_
    · clear hw; go_simp
    try simp only [Act.put, s1, s2, s3]
    refine tI 2 (v := .pointer (some ⟨D, 0, none⟩)) (d := some 24) rfl rfl (fun w' hw => ?_) hS ?_
    · clear hw; go_simp
    try simp only [Act.put, s1, s2, s3]
    refine tI 3 (v := .pointer (some ⟨D, 6, none⟩)) (d := some 25) rfl rfl (fun w' hw => ?_) hS ?_
    · clear hw; go_simp
    try simp only [Act.put, s1, s2, s3]
    refine tI 4 (v := .slice (some ⟨ko, oo, none⟩) b.o.n b.o.c) (d := some 26) rfl rfl (fun w' hw => ?_) hS ?_
    · have q := CsL.at hw 0 _ _ rfl; clear hw; go_simp
    try simp only [Act.put, s1, s2, s3]
    refine tI 5 (v := .pointer (some ⟨w.heap.size, 2, none⟩)) (d := some 27) rfl rfl (fun w' hw => ?_) hS ?_
    · clear hw; go_simp
    try simp only [Act.put, s1, s2, s3]
    refine tI 6 (v := .int .i64 A) (d := some 28) rfl rfl (fun w' hw => ?_) hS ?_
    · have q := CsL.at hw 1 _ _ rfl; clear hw; go_simp
    try simp only [Act.put, s1, s2, s3]
    refine tI 7 (v := .pointer (some ⟨w.heap.size, 3, none⟩)) (d := some 29) rfl rfl (fun w' hw => ?_) hS ?_
    · clear hw; go_simp
    try simp only [Act.put, s1, s2, s3]
    refine tI 8 (v := .int .i64 p) (d := some 30) rfl rfl (fun w' hw => ?_) hS ?_
    · have q := CsL.at hw 2 _ _ rfl; clear hw; go_simp
    try simp only [Act.put, s1, s2, s3]
    refine tI 9 (v := .int .i64 ((p : Int) + 1)) (d := some 31) rfl rfl (fun w' hw => ?_) hS ?_
    · clear hw; have w1 : IntKind.i64.wrap ((p : Int) + 1) = (p : Int) + 1 := (by rw [IntKind.wrap_i64]; omega); go_simp
    try simp only [Act.put, s1, s2, s3]
    refine tI 10 (v := .pointer (some ⟨ko, oo + A, none⟩)) (d := some 32) rfl rfl (fun w' hw => ?_) hS ?_
    · clear hw; go_simp
    try simp only [Act.put, s1, s2, s3]
    refine r1 11 rfl (fun K hK => ?_)
    obtain ⟨vv, y1⟩ : ∃ v, w3.drew.cell? ⟨ko, oo + A, none⟩ = some v := Y1.out.2
    have y2 : w3.drew.frozen? ⟨ko, oo + A, none⟩ = false := Y1.out.1
    clear hS
    go_simp
    refine hK.out _ _ HS3.out (fun hS => ?_)
    clear hK K
    try simp only [Act.put, s1, s2, s3]
    refine wpAnyH_done (by kernel_rfl) ?_ _
    clear hS y1 y2 f0 f1 f2
    generalize World.drew (World.setCell w3 ⟨ko, oo + A, none⟩ (.int .i64 ((p : Int) + 1))) = W9 at HDr HS3 ⊢
    clear HS3 Y1
    go_wp2_with (fail)
    refine bodyPost_ret (v := .tuple #[.int .i64 0, .nilIface]) (by simp [results]) rfl ?_
    exact OpA.mk 0 0 HDr.out.d ⟨rfl, .inr ⟨HW.out, .inr ⟨A, p, HA.out, HQ.out, TP.out.1, TP.out.2, rfl, rfl, rfl⟩⟩⟩ rfl
end Go.Proofs.YtbipolfbkemmpaaDoor.Dra

import Derived.Test.YtbipolfbkemmpaaDoorM27

/- The program's do: a kind by the map of calls. -/
namespace Go.Proofs.YtbipolfbkemmpaaDoor.Dra
open Go.ChangeShapes Go.WideShapes Go.ChangeAt Go.RowKit
open Aid Lst Book Rin
set_option maxRecDepth 100000
set_option linter.unusedVariables false
theorem six_none {k : Int} (h : k < 1 ∨ 6 < k) : Instr.findNow (.int .i64) (.int .i64 k) six.toList 0 = some none := by
  have n1 : (k == 1) = false := by simp; omega
  have n2 : (k == 2) = false := by simp; omega
  have n3 : (k == 3) = false := by simp; omega
  have n4 : (k == 4) = false := by simp; omega
  have n5 : (k == 5) = false := by simp; omega
  have n6 : (k == 6) = false := by simp; omega
  simp [six, Instr.findNow, Instr.sameNow, n1, n2, n3, n4, n5, n6]
set_option maxHeartbeats 16000000 in
theorem do_leave {a : Nat → Addr} {B D : Nat} {s t : Nat → Nat} {b : Bx} {U : Nat → List Int} {w : World} (h : Dr B D s t b U w) (he : Er a w) (hB : 12 ≤ B) (hok : OkP b) (o : Ox) (q : Nat) (hq : o.s = q) (hqs : (q : Int) < b.s) (hk : o.k = 5) (hi : b.i.f q ≠ 0) :
    Calls Tryd.prog 28 #[.pointer (some ⟨D, 0, none⟩), .agg o.cells.toArray] w fun e w' => OpA a B D s t w (DdQ b U o) e w' := by
  have S := Oq.start (a := a) h he hB o 28
  have HOK : Hid (OkP b) := hok
  have l0 := hok.1.1.1
  have l1 := hok.1.1.2.1
  have l2 := hok.1.1.2.2.1
  have l3 := hok.1.1.2.2.2.1
  have l6 := hok.1.1.2.2.2.2.1
  have l7 := hok.1.1.2.2.2.2.2.2
  have l8 := hok.1.1.2.2.2.2.2.1
  obtain ⟨ko, oo, eo, to⟩ := h.addr (x := b.o) (by simp [Bx.lists]) (by omega)
  obtain ⟨ki, oi, ei, ti⟩ := h.addr (x := b.i) (by simp [Bx.lists]) (by omega)
  obtain ⟨ke, oe, ee, te⟩ := h.addr (x := b.e) (by simp [Bx.lists]) (by omega)
  have EO : Hid (b.o.a = some ⟨ko, oo, none⟩) := eo
  have EI : Hid (b.i.a = some ⟨ki, oi, none⟩) := ei
  have EE : Hid (b.e.a = some ⟨ke, oe, none⟩) := ee
  have TT : Hid (t ko = 2 ∧ t ki = 2 ∧ t ke = 2 ∧ t D = 1) := ⟨to, ti, te, h.tD⟩
  have LS : Hid (b.s ≤ 4 ∧ 1 ≤ b.s ∧ (b.i.n : Int) = b.s ∧ (b.e.n : Int) = b.s ∧ b.o.n ≤ 1000 ∧ b.o.n ≤ b.o.c) := ⟨by omega, by omega, by omega, by omega, by omega, (h.h.each b.o (by simp [Bx.lists])).1⟩
  clear h he hB eo ei ee to ti te hok l0 l1 l2 l3 l6 l7 l8
  simp only [Ox.cells] at S ⊢
  have HQ : Hid (o.s = q ∧ (q : Int) < b.s ∧ b.i.f q ≠ 0) := ⟨hq, hqs, hi⟩
  have HK : Hid (o.k = 5) := hk
  clear hq hqs hi hk
  go_enter Tryd.func28, Tryd.ntmps28
  go_wp2_with (fail)
  generalize w.alloc (.cells _ 28) = W at S ⊢
  have HS0 : Hid (Oq a B D s t w t b U w.heap.size o W) := S
  clear S
  refine wp_region_held_drew (S := Oq a B D s t w t b U w.heap.size o) (by kernel_rfl) (HS0.out.drewN 1) (fun hS => ?_)
  refine tI 0 (v := .pointer (some ⟨D, 0, none⟩)) (d := some 8) rfl rfl (fun w' hw => ?_) hS ?_
  · clear hw; go_simp
  try simp only [Act.put, s1, s2, s3]
  refine tI 1 (v := .pointer (some ⟨D, 0, none⟩)) (d := some 9) rfl rfl (fun w' hw => ?_) hS ?_
  · clear hw; go_simp
  try simp only [Act.put, s1, s2, s3]
  refine tI 2 (v := .pointer (some ⟨D, 0, none⟩)) (d := some 10) rfl rfl (fun w' hw => ?_) hS ?_
  · clear hw; go_simp
  try simp only [Act.put, s1, s2, s3]
  refine tB 3 (v := .agg b.cells.toArray) (d := some 11) rfl rfl (yieldsIf_load_mid (by rfl) 26 _ rfl D 0 rfl b.cells _ (fun w' hw => hw.d.d.range) Tryd.underlying26 rfl (by kernel_rfl)) hS ?_
  try simp only [Act.put, s1, s2, s3]
  refine tI 4 (v := .pointer (some ⟨w.heap.size, 1, none⟩)) (d := some 12) rfl rfl (fun w' hw => ?_) hS ?_
  · clear hw; go_simp
  try simp only [Act.put, s1, s2, s3]
  refine tI 5 (v := .int .i64 o.s) (d := some 13) rfl rfl (fun w' hw => ?_) hS ?_
  · have q := hw.op 1 _ rfl; clear hw; go_simp
  try simp only [Act.put, s1, s2, s3]
  refine r1 6 rfl (fun K hK => ?_)
  have HS1 : Hid (Oq a B D s t w t b U w.heap.size o _) := hS
  clear hS
  go_simp
  refine (isslot_any b o.s _).mono ?_
  rintro e w2 ⟨⟨r, rfl, hr⟩, hb⟩
  have HI : Hid (Tell r (0 ≤ o.s ∧ o.s < b.s)) := hr
  have HS2 : Hid (Oq a B D s t w t b U w.heap.size o w2) := HS1.out.later hb
  clear HS1 hb hr
  go_wp2_with (fail)
  refine hK.out _ _ HS2.out (fun hS => ?_)
  clear hK K
  try simp only [Act.put, s1, s2, s3]
  refine tI 7 (v := .bool (!r)) (d := some 15) rfl rfl (fun w' hw => ?_) hS ?_
  · clear hw; go_simp
  try simp only [Act.put, s1, s2, s3]
  refine wpAnyH_done (by kernel_rfl) ?_ _
  clear hS
  cases r
  case false => exact absurd (HI.out.2 ⟨by have := HQ.out.1; omega, by have := HQ.out.1; have := HQ.out.2.1; omega⟩) (by simp)
  go_wp2_with (fail)
  refine wp_region_held_drew (S := Oq a B D s t w t b U w.heap.size o) (by kernel_rfl) (HS2.out.drewN 1) (fun hS => ?_)
  refine tI 0 (v := .pointer (some ⟨w.heap.size, 0, none⟩)) (d := some 17) rfl rfl (fun w' hw => ?_) hS ?_
  · clear hw; go_simp
  try simp only [Act.put, s1, s2, s3]
  refine tI 1 (v := .int .i64 5) (d := some 18) rfl rfl (fun w' hw => ?_) hS ?_
  · have q1 := hw.op 0 _ rfl; rw [HK.out] at q1; clear hw; go_simp
  try simp only [Act.put, s1, s2, s3]
  refine tI 2 (v := .bool true) (d := some 19) rfl rfl (fun w' hw => ?_) hS ?_
  · clear hw; go_simp
  try simp only [Act.put, s1, s2, s3]
  refine tI 3 (v := .bool true) (d := some 20) rfl rfl (fun w' hw => ?_) hS ?_
  · clear hw; go_simp
  try simp only [Act.put, s1, s2, s3]
  refine tI 4 (v := .pointer (some ⟨D, 0, none⟩)) (d := some 21) rfl rfl (fun w' hw => ?_) hS ?_
  · clear hw; go_simp
  try simp only [Act.put, s1, s2, s3]
  refine tI 5 (v := .pointer (some ⟨D, 0, none⟩)) (d := some 22) rfl rfl (fun w' hw => ?_) hS ?_
  · clear hw; go_simp
  try simp only [Act.put, s1, s2, s3]
  refine tI 6 (v := .pointer (some ⟨D, 0, none⟩)) (d := some 23) rfl rfl (fun w' hw => ?_) hS ?_
  · clear hw; go_simp
  try simp only [Act.put, s1, s2, s3]
  refine tB 7 (v := .agg b.cells.toArray) (d := some 24) rfl rfl (yieldsIf_load_mid (by rfl) 26 _ rfl D 0 rfl b.cells _ (fun w' hw => hw.d.d.range) Tryd.underlying26 rfl (by kernel_rfl)) hS ?_
  try simp only [Act.put, s1, s2, s3]
  refine tI 8 (v := .pointer (some ⟨w.heap.size, 1, none⟩)) (d := some 25) rfl rfl (fun w' hw => ?_) hS ?_
  · clear hw; go_simp
  try simp only [Act.put, s1, s2, s3]
  refine tI 9 (v := .int .i64 o.s) (d := some 26) rfl rfl (fun w' hw => ?_) hS ?_
  · have q := hw.op 1 _ rfl; clear hw; go_simp
  try simp only [Act.put, s1, s2, s3]
  refine r1 10 rfl (fun K hK => ?_)
  have HS1 : Hid (Oq a B D s t w t b U w.heap.size o _) := hS
  clear hS
  go_simp
  refine (isin_any b o.s _ HS1.out.d.d.h.at (by have := LS.out; omega)).mono ?_
  rintro e w3 ⟨⟨r, rfl, hr⟩, hb⟩
  have HJ : Hid (Tell r ((0 ≤ o.s ∧ o.s < b.s) ∧ b.i.f o.s.toNat ≠ 0)) := hr
  have HS3 : Hid (Oq a B D s t w t b U w.heap.size o w3) := HS1.out.later hb
  clear HS1 hb hr HS2
  go_wp2_with (fail)
  refine hK.out _ _ HS3.out (fun hS => ?_)
  clear hK K
  try simp only [Act.put, s1, s2, s3]
  refine tI 11 (v := .bool (!r)) (d := some 28) rfl rfl (fun w' hw => ?_) hS ?_
  · clear hw; go_simp
  try simp only [Act.put, s1, s2, s3]
  refine tI 12 (v := .bool (!r)) (d := some 29) rfl rfl (fun w' hw => ?_) hS ?_
  · clear hw; go_simp
  try simp only [Act.put, s1, s2, s3]
  refine wpAnyH_done (by kernel_rfl) ?_ _
  clear hS
  cases r
  case false => exact absurd (HJ.out.2 ⟨⟨by have := HQ.out.1; omega, by have := HQ.out.1; have := HQ.out.2.1; omega⟩, by rw [HQ.out.1, Int.toNat_natCast]; exact HQ.out.2.2⟩) (by simp)
  go_wp2_with (fail)
  refine wp_region_held_drew (S := Oq a B D s t w t b U w.heap.size o) (by kernel_rfl) (HS3.out.drewN 1) (fun hS => ?_)
  refine tI 1 (v := .pointer (some ⟨w.heap.size, 0, none⟩)) (d := some 33) rfl rfl (fun w' hw => ?_) hS ?_
  · clear hw; go_simp
  try simp only [Act.put, s1, s2, s3]
  refine tI 2 (v := .int .i64 5) (d := some 34) rfl rfl (fun w' hw => ?_) hS ?_
  · have q1 := hw.op 0 _ rfl; rw [HK.out] at q1; clear hw; go_simp
  try simp only [Act.put, s1, s2, s3]
  refine r1 0 rfl (fun K hK => ?_)
  have HS5 : Hid (Oq a B D s t w t b U w.heap.size o _) := hS
  clear hS
  go_simp
  refine (calls_any _).mono ?_
  rintro e w4 ⟨rfl, ew⟩
  have HM : Hid (w4.heap[w3.heap.size]? = some (.map six 6)) := by unfold Hid; rw [ew]; exact heap_alloc_new _ _
  have HS6 : Hid (Oq a B D s t w t b U w.heap.size o w4) := by unfold Hid; rw [ew]; exact HS5.out.later (below1 _ _)
  clear HS5 ew
  go_wp2_with (fail)
  refine hK.out _ _ HS6.out (fun hS => ?_)
  clear hK K
  try simp only [Act.put, s1, s2, s3]
  refine r1 3 rfl (fun K hK => ?_)
  have hz : (zeroValue 71).run Tryd.prog w4 = .ok .nilFunc w4 := by kernel_rfl
  have hl : (Instr.lookup 73 (.map (some w3.heap.size)) (.int .i64 5) true).run Tryd.prog w4 = .ok (.tuple #[.func (.func 71) #[] #[], .bool true]) w4 := run_look Tryd.underlying73 Tryd.underlying3 w4 _ six 6 _ .nilFunc _ _ HM.out hz ⟨_, rfl, rfl⟩
  clear hS hz
  go_simp
  refine hK.out _ _ HS6.out (fun hS => ?_)
  clear hl
  clear hK K
  try simp only [Act.put, s1, s2, s3]
  refine tI 4 (v := .tuple #[.func (.func 71) #[] #[], .bool true]) (d := some 31) rfl rfl (fun w' hw => ?_) hS ?_
  · clear hw; go_simp
  try simp only [Act.put, s1, s2, s3]
  refine tI 5 (v := .func (.func 71) #[] #[]) (d := some 36) rfl rfl (fun w' hw => ?_) hS ?_
  · clear hw; go_simp
  try simp only [Act.put, s1, s2, s3]
  refine tI 6 (v := .bool true) (d := some 37) rfl rfl (fun w' hw => ?_) hS ?_
  · clear hw; go_simp
  try simp only [Act.put, s1, s2, s3]
  refine tI 7 (v := .func (.func 71) #[] #[]) (d := some 6) rfl rfl (fun w' hw => ?_) hS ?_
  · clear hw; go_simp
  try simp only [Act.put, s1, s2, s3]
  refine tI 8 (v := .bool true) (d := some 7) rfl rfl (fun w' hw => ?_) hS ?_
  · clear hw; go_simp
  try simp only [Act.put, s1, s2, s3]
  refine wpAnyH_done (by kernel_rfl) ?_ _
  clear hS
  have HP0 : Hid (World.rangeAt w4 w.heap.size 0 o.cells) := HS6.out.p
  have hq1 : o.s = q := HQ.out.1
  have hq2 : (q : Int) < b.s := HQ.out.2.1
  have HQ12 : Hid (o.s = q ∧ (q : Int) < b.s) := ⟨hq1, hq2⟩
  clear hq1 hq2
  go_wp2_with (refine wpList_load_mid rfl 28 _ rfl w.heap.size 0 rfl o.cells _ HP0.out Tryd.underlying28 rfl (by kernel_rfl) ?_)
  refine (leave_op HS6.out.d.d HS6.out.e HS6.out.hB HOK.out o q HQ12.out.1 HQ12.out.2).mono ?_
  rintro e w9 ⟨c, V, x, y, rfl, hp, t2, hd⟩
  have HD : Hid (Du B D s t w t2 c V w9) := HS6.out.d.trans hd
  have HPP := hp
  have HP : Hid _ := HPP
  clear hp hd HPP
  go_wp2_with (fail)
  refine bodyPost_ret (v := .tuple #[.int .i64 y, errV a x]) (by simp [results]) rfl ?_
  exact OpA.mk x y HD.out (.inr ⟨q, HQ12.out.1, HQ12.out.2, .inr ⟨by have := HK.out; omega, .inr ⟨HQ.out.2.2, .inr (.inr (.inr (.inl ⟨HK.out, HP.out⟩)))⟩⟩⟩) rfl

set_option maxHeartbeats 16000000 in
theorem do_reap {a : Nat → Addr} {B D : Nat} {s t : Nat → Nat} {b : Bx} {U : Nat → List Int} {w : World} (h : Dr B D s t b U w) (he : Er a w) (hB : 12 ≤ B) (hok : OkP b) (o : Ox) (q : Nat) (hq : o.s = q) (hqs : (q : Int) < b.s) (hk : o.k = 6) (hi : b.i.f q ≠ 0) (hU : ∀ k, k < 4 → ∀ u ∈ U k, 0 ≤ u ∧ u < b.o.n) :
    Calls Tryd.prog 28 #[.pointer (some ⟨D, 0, none⟩), .agg o.cells.toArray] w fun e w' => OpA a B D s t w (DdQ b U o) e w' := by
  have S := Oq.start (a := a) h he hB o 28
  have HOK : Hid (OkP b) := hok
  have l0 := hok.1.1.1
  have l1 := hok.1.1.2.1
  have l2 := hok.1.1.2.2.1
  have l3 := hok.1.1.2.2.2.1
  have l6 := hok.1.1.2.2.2.2.1
  have l7 := hok.1.1.2.2.2.2.2.2
  have l8 := hok.1.1.2.2.2.2.2.1
  obtain ⟨ko, oo, eo, to⟩ := h.addr (x := b.o) (by simp [Bx.lists]) (by omega)
  obtain ⟨ki, oi, ei, ti⟩ := h.addr (x := b.i) (by simp [Bx.lists]) (by omega)
  obtain ⟨ke, oe, ee, te⟩ := h.addr (x := b.e) (by simp [Bx.lists]) (by omega)
  have EO : Hid (b.o.a = some ⟨ko, oo, none⟩) := eo
  have EI : Hid (b.i.a = some ⟨ki, oi, none⟩) := ei
  have EE : Hid (b.e.a = some ⟨ke, oe, none⟩) := ee
  have TT : Hid (t ko = 2 ∧ t ki = 2 ∧ t ke = 2 ∧ t D = 1) := ⟨to, ti, te, h.tD⟩
  have LS : Hid (b.s ≤ 4 ∧ 1 ≤ b.s ∧ (b.i.n : Int) = b.s ∧ (b.e.n : Int) = b.s ∧ b.o.n ≤ 1000 ∧ b.o.n ≤ b.o.c) := ⟨by omega, by omega, by omega, by omega, by omega, (h.h.each b.o (by simp [Bx.lists])).1⟩
  clear h he hB eo ei ee to ti te hok l0 l1 l2 l3 l6 l7 l8
  simp only [Ox.cells] at S ⊢
  have HQ : Hid (o.s = q ∧ (q : Int) < b.s ∧ b.i.f q ≠ 0) := ⟨hq, hqs, hi⟩
  have HK : Hid (o.k = 6) := hk
  have HU0 : Hid (∀ k, k < 4 → ∀ u ∈ U k, 0 ≤ u ∧ u < b.o.n) := hU
  have HU : Hid (∀ k, k < 4 → ∀ u ∈ U k, 0 ≤ u ∧ u ≤ 1000) := fun k hk u hu => by have h1 := hU k hk u hu; have := LS.out; omega
  clear hq hqs hi hk hU
  go_enter Tryd.func28, Tryd.ntmps28
  go_wp2_with (fail)
  generalize w.alloc (.cells _ 28) = W at S ⊢
  have HS0 : Hid (Oq a B D s t w t b U w.heap.size o W) := S
  clear S
  refine wp_region_held_drew (S := Oq a B D s t w t b U w.heap.size o) (by kernel_rfl) (HS0.out.drewN 1) (fun hS => ?_)
  refine tI 0 (v := .pointer (some ⟨D, 0, none⟩)) (d := some 8) rfl rfl (fun w' hw => ?_) hS ?_
  · clear hw; go_simp
  try simp only [Act.put, s1, s2, s3]
  refine tI 1 (v := .pointer (some ⟨D, 0, none⟩)) (d := some 9) rfl rfl (fun w' hw => ?_) hS ?_
  · clear hw; go_simp
  try simp only [Act.put, s1, s2, s3]
  refine tI 2 (v := .pointer (some ⟨D, 0, none⟩)) (d := some 10) rfl rfl (fun w' hw => ?_) hS ?_
  · clear hw; go_simp
  try simp only [Act.put, s1, s2, s3]
  refine tB 3 (v := .agg b.cells.toArray) (d := some 11) rfl rfl (yieldsIf_load_mid (by rfl) 26 _ rfl D 0 rfl b.cells _ (fun w' hw => hw.d.d.range) Tryd.underlying26 rfl (by kernel_rfl)) hS ?_
  try simp only [Act.put, s1, s2, s3]
  refine tI 4 (v := .pointer (some ⟨w.heap.size, 1, none⟩)) (d := some 12) rfl rfl (fun w' hw => ?_) hS ?_
  · clear hw; go_simp
  try simp only [Act.put, s1, s2, s3]
  refine tI 5 (v := .int .i64 o.s) (d := some 13) rfl rfl (fun w' hw => ?_) hS ?_
  · have q := hw.op 1 _ rfl; clear hw; go_simp
  try simp only [Act.put, s1, s2, s3]
  refine r1 6 rfl (fun K hK => ?_)
  have HS1 : Hid (Oq a B D s t w t b U w.heap.size o _) := hS
  clear hS
  go_simp
  refine (isslot_any b o.s _).mono ?_
  rintro e w2 ⟨⟨r, rfl, hr⟩, hb⟩
  have HI : Hid (Tell r (0 ≤ o.s ∧ o.s < b.s)) := hr
  have HS2 : Hid (Oq a B D s t w t b U w.heap.size o w2) := HS1.out.later hb
  clear HS1 hb hr
  go_wp2_with (fail)
  refine hK.out _ _ HS2.out (fun hS => ?_)
  clear hK K
  try simp only [Act.put, s1, s2, s3]
  refine tI 7 (v := .bool (!r)) (d := some 15) rfl rfl (fun w' hw => ?_) hS ?_
  · clear hw; go_simp
  try simp only [Act.put, s1, s2, s3]
  refine wpAnyH_done (by kernel_rfl) ?_ _
  clear hS
  cases r
  case false => exact absurd (HI.out.2 ⟨by have := HQ.out.1; omega, by have := HQ.out.1; have := HQ.out.2.1; omega⟩) (by simp)
  go_wp2_with (fail)
  refine wp_region_held_drew (S := Oq a B D s t w t b U w.heap.size o) (by kernel_rfl) (HS2.out.drewN 1) (fun hS => ?_)
  refine tI 0 (v := .pointer (some ⟨w.heap.size, 0, none⟩)) (d := some 17) rfl rfl (fun w' hw => ?_) hS ?_
  · clear hw; go_simp
  try simp only [Act.put, s1, s2, s3]
  refine tI 1 (v := .int .i64 6) (d := some 18) rfl rfl (fun w' hw => ?_) hS ?_
  · have q1 := hw.op 0 _ rfl; rw [HK.out] at q1; clear hw; go_simp
  try simp only [Act.put, s1, s2, s3]
  refine tI 2 (v := .bool true) (d := some 19) rfl rfl (fun w' hw => ?_) hS ?_
  · clear hw; go_simp
  try simp only [Act.put, s1, s2, s3]
  refine tI 3 (v := .bool true) (d := some 20) rfl rfl (fun w' hw => ?_) hS ?_
  · clear hw; go_simp
  try simp only [Act.put, s1, s2, s3]
  refine tI 4 (v := .pointer (some ⟨D, 0, none⟩)) (d := some 21) rfl rfl (fun w' hw => ?_) hS ?_
  · clear hw; go_simp
  try simp only [Act.put, s1, s2, s3]
  refine tI 5 (v := .pointer (some ⟨D, 0, none⟩)) (d := some 22) rfl rfl (fun w' hw => ?_) hS ?_
  · clear hw; go_simp
  try simp only [Act.put, s1, s2, s3]
  refine tI 6 (v := .pointer (some ⟨D, 0, none⟩)) (d := some 23) rfl rfl (fun w' hw => ?_) hS ?_
  · clear hw; go_simp
  try simp only [Act.put, s1, s2, s3]
  refine tB 7 (v := .agg b.cells.toArray) (d := some 24) rfl rfl (yieldsIf_load_mid (by rfl) 26 _ rfl D 0 rfl b.cells _ (fun w' hw => hw.d.d.range) Tryd.underlying26 rfl (by kernel_rfl)) hS ?_
  try simp only [Act.put, s1, s2, s3]
  refine tI 8 (v := .pointer (some ⟨w.heap.size, 1, none⟩)) (d := some 25) rfl rfl (fun w' hw => ?_) hS ?_
  · clear hw; go_simp
  try simp only [Act.put, s1, s2, s3]
  refine tI 9 (v := .int .i64 o.s) (d := some 26) rfl rfl (fun w' hw => ?_) hS ?_
  · have q := hw.op 1 _ rfl; clear hw; go_simp
  try simp only [Act.put, s1, s2, s3]
  refine r1 10 rfl (fun K hK => ?_)
  have HS1 : Hid (Oq a B D s t w t b U w.heap.size o _) := hS
  clear hS
  go_simp
  refine (isin_any b o.s _ HS1.out.d.d.h.at (by have := LS.out; omega)).mono ?_
  rintro e w3 ⟨⟨r, rfl, hr⟩, hb⟩
  have HJ : Hid (Tell r ((0 ≤ o.s ∧ o.s < b.s) ∧ b.i.f o.s.toNat ≠ 0)) := hr
  have HS3 : Hid (Oq a B D s t w t b U w.heap.size o w3) := HS1.out.later hb
  clear HS1 hb hr HS2
  go_wp2_with (fail)
  refine hK.out _ _ HS3.out (fun hS => ?_)
  clear hK K
  try simp only [Act.put, s1, s2, s3]
  refine tI 11 (v := .bool (!r)) (d := some 28) rfl rfl (fun w' hw => ?_) hS ?_
  · clear hw; go_simp
  try simp only [Act.put, s1, s2, s3]
  refine tI 12 (v := .bool (!r)) (d := some 29) rfl rfl (fun w' hw => ?_) hS ?_
  · clear hw; go_simp
  try simp only [Act.put, s1, s2, s3]
  refine wpAnyH_done (by kernel_rfl) ?_ _
  clear hS
  cases r
  case false => exact absurd (HJ.out.2 ⟨⟨by have := HQ.out.1; omega, by have := HQ.out.1; have := HQ.out.2.1; omega⟩, by rw [HQ.out.1, Int.toNat_natCast]; exact HQ.out.2.2⟩) (by simp)
  go_wp2_with (fail)
  refine wp_region_held_drew (S := Oq a B D s t w t b U w.heap.size o) (by kernel_rfl) (HS3.out.drewN 1) (fun hS => ?_)
  refine tI 1 (v := .pointer (some ⟨w.heap.size, 0, none⟩)) (d := some 33) rfl rfl (fun w' hw => ?_) hS ?_
  · clear hw; go_simp
  try simp only [Act.put, s1, s2, s3]
  refine tI 2 (v := .int .i64 6) (d := some 34) rfl rfl (fun w' hw => ?_) hS ?_
  · have q1 := hw.op 0 _ rfl; rw [HK.out] at q1; clear hw; go_simp
  try simp only [Act.put, s1, s2, s3]
  refine r1 0 rfl (fun K hK => ?_)
  have HS5 : Hid (Oq a B D s t w t b U w.heap.size o _) := hS
  clear hS
  go_simp
  refine (calls_any _).mono ?_
  rintro e w4 ⟨rfl, ew⟩
  have HM : Hid (w4.heap[w3.heap.size]? = some (.map six 6)) := by unfold Hid; rw [ew]; exact heap_alloc_new _ _
  have HS6 : Hid (Oq a B D s t w t b U w.heap.size o w4) := by unfold Hid; rw [ew]; exact HS5.out.later (below1 _ _)
  clear HS5 ew
  go_wp2_with (fail)
  refine hK.out _ _ HS6.out (fun hS => ?_)
  clear hK K
  try simp only [Act.put, s1, s2, s3]
  refine r1 3 rfl (fun K hK => ?_)
  have hz : (zeroValue 71).run Tryd.prog w4 = .ok .nilFunc w4 := by kernel_rfl
  have hl : (Instr.lookup 73 (.map (some w3.heap.size)) (.int .i64 6) true).run Tryd.prog w4 = .ok (.tuple #[.func (.func 72) #[] #[], .bool true]) w4 := run_look Tryd.underlying73 Tryd.underlying3 w4 _ six 6 _ .nilFunc _ _ HM.out hz ⟨_, rfl, rfl⟩
  clear hS hz
  go_simp
  refine hK.out _ _ HS6.out (fun hS => ?_)
  clear hl
  clear hK K
  try simp only [Act.put, s1, s2, s3]
  refine tI 4 (v := .tuple #[.func (.func 72) #[] #[], .bool true]) (d := some 31) rfl rfl (fun w' hw => ?_) hS ?_
  · clear hw; go_simp
  try simp only [Act.put, s1, s2, s3]
  refine tI 5 (v := .func (.func 72) #[] #[]) (d := some 36) rfl rfl (fun w' hw => ?_) hS ?_
  · clear hw; go_simp
  try simp only [Act.put, s1, s2, s3]
  refine tI 6 (v := .bool true) (d := some 37) rfl rfl (fun w' hw => ?_) hS ?_
  · clear hw; go_simp
  try simp only [Act.put, s1, s2, s3]
  refine tI 7 (v := .func (.func 72) #[] #[]) (d := some 6) rfl rfl (fun w' hw => ?_) hS ?_
  · clear hw; go_simp
  try simp only [Act.put, s1, s2, s3]
  refine tI 8 (v := .bool true) (d := some 7) rfl rfl (fun w' hw => ?_) hS ?_
  · clear hw; go_simp
  try simp only [Act.put, s1, s2, s3]
  refine wpAnyH_done (by kernel_rfl) ?_ _
  clear hS
  have HP0 : Hid (World.rangeAt w4 w.heap.size 0 o.cells) := HS6.out.p
  have hq1 : o.s = q := HQ.out.1
  have hq2 : (q : Int) < b.s := HQ.out.2.1
  have HQ12 : Hid (o.s = q ∧ (q : Int) < b.s) := ⟨hq1, hq2⟩
  clear hq1 hq2
  go_wp2_with (refine wpList_load_mid rfl 28 _ rfl w.heap.size 0 rfl o.cells _ HP0.out Tryd.underlying28 rfl (by kernel_rfl) ?_)
  refine (reap_op HS6.out.d.d HS6.out.e HS6.out.hB HOK.out o HU.out).mono ?_
  rintro e w9 ⟨c, V, x, y, rfl, hp, t2, hd⟩
  have HD : Hid (Du B D s t w t2 c V w9) := HS6.out.d.trans hd
  have HPP := hp
  have HP : Hid _ := HPP
  clear hp hd HPP
  go_wp2_with (fail)
  refine bodyPost_ret (v := .tuple #[.int .i64 y, errV a x]) (by simp [results]) rfl ?_
  exact OpA.mk x y HD.out (.inr ⟨q, HQ12.out.1, HQ12.out.2, .inr ⟨by have := HK.out; omega, .inr ⟨HQ.out.2.2, .inr (.inr (.inr (.inr (.inl ⟨HK.out, HP.out⟩))))⟩⟩⟩) rfl

set_option maxHeartbeats 16000000 in
theorem do_none {a : Nat → Addr} {B D : Nat} {s t : Nat → Nat} {b : Bx} {U : Nat → List Int} {w : World} (h : Dr B D s t b U w) (he : Er a w) (hB : 12 ≤ B) (hok : OkP b) (o : Ox) (q : Nat) (hq : o.s = q) (hqs : (q : Int) < b.s) (hk : o.k < 1 ∨ 6 < o.k) (hi : b.i.f q ≠ 0) :
    Calls Tryd.prog 28 #[.pointer (some ⟨D, 0, none⟩), .agg o.cells.toArray] w fun e w' => OpA a B D s t w (DdQ b U o) e w' := by
  have S := Oq.start (a := a) h he hB o 28
  have HOK : Hid (OkP b) := hok
  have l0 := hok.1.1.1
  have l1 := hok.1.1.2.1
  have l2 := hok.1.1.2.2.1
  have l3 := hok.1.1.2.2.2.1
  have l6 := hok.1.1.2.2.2.2.1
  have l7 := hok.1.1.2.2.2.2.2.2
  have l8 := hok.1.1.2.2.2.2.2.1
  obtain ⟨ko, oo, eo, to⟩ := h.addr (x := b.o) (by simp [Bx.lists]) (by omega)
  obtain ⟨ki, oi, ei, ti⟩ := h.addr (x := b.i) (by simp [Bx.lists]) (by omega)
  obtain ⟨ke, oe, ee, te⟩ := h.addr (x := b.e) (by simp [Bx.lists]) (by omega)
  have EO : Hid (b.o.a = some ⟨ko, oo, none⟩) := eo
  have EI : Hid (b.i.a = some ⟨ki, oi, none⟩) := ei
  have EE : Hid (b.e.a = some ⟨ke, oe, none⟩) := ee
  have TT : Hid (t ko = 2 ∧ t ki = 2 ∧ t ke = 2 ∧ t D = 1) := ⟨to, ti, te, h.tD⟩
  have LS : Hid (b.s ≤ 4 ∧ 1 ≤ b.s ∧ (b.i.n : Int) = b.s ∧ (b.e.n : Int) = b.s ∧ b.o.n ≤ 1000 ∧ b.o.n ≤ b.o.c) := ⟨by omega, by omega, by omega, by omega, by omega, (h.h.each b.o (by simp [Bx.lists])).1⟩
  clear h he hB eo ei ee to ti te hok l0 l1 l2 l3 l6 l7 l8
  simp only [Ox.cells] at S ⊢
  have HQ : Hid (o.s = q ∧ (q : Int) < b.s ∧ b.i.f q ≠ 0) := ⟨hq, hqs, hi⟩
  have HK : Hid (o.k ≠ 1) := by unfold Hid; omega
  have HKN : Hid (o.k < 1 ∨ 6 < o.k) := hk
  clear hq hqs hi hk
  go_enter Tryd.func28, Tryd.ntmps28
  go_wp2_with (fail)
  generalize w.alloc (.cells _ 28) = W at S ⊢
  have HS0 : Hid (Oq a B D s t w t b U w.heap.size o W) := S
  clear S
  refine wp_region_held_drew (S := Oq a B D s t w t b U w.heap.size o) (by kernel_rfl) (HS0.out.drewN 1) (fun hS => ?_)
  refine tI 0 (v := .pointer (some ⟨D, 0, none⟩)) (d := some 8) rfl rfl (fun w' hw => ?_) hS ?_
  · clear hw; go_simp
  try simp only [Act.put, s1, s2, s3]
  refine tI 1 (v := .pointer (some ⟨D, 0, none⟩)) (d := some 9) rfl rfl (fun w' hw => ?_) hS ?_
  · clear hw; go_simp
  try simp only [Act.put, s1, s2, s3]
  refine tI 2 (v := .pointer (some ⟨D, 0, none⟩)) (d := some 10) rfl rfl (fun w' hw => ?_) hS ?_
  · clear hw; go_simp
  try simp only [Act.put, s1, s2, s3]
  refine tB 3 (v := .agg b.cells.toArray) (d := some 11) rfl rfl (yieldsIf_load_mid (by rfl) 26 _ rfl D 0 rfl b.cells _ (fun w' hw => hw.d.d.range) Tryd.underlying26 rfl (by kernel_rfl)) hS ?_
  try simp only [Act.put, s1, s2, s3]
  refine tI 4 (v := .pointer (some ⟨w.heap.size, 1, none⟩)) (d := some 12) rfl rfl (fun w' hw => ?_) hS ?_
  · clear hw; go_simp
  try simp only [Act.put, s1, s2, s3]
  refine tI 5 (v := .int .i64 o.s) (d := some 13) rfl rfl (fun w' hw => ?_) hS ?_
  · have q := hw.op 1 _ rfl; clear hw; go_simp
  try simp only [Act.put, s1, s2, s3]
  refine r1 6 rfl (fun K hK => ?_)
  have HS1 : Hid (Oq a B D s t w t b U w.heap.size o _) := hS
  clear hS
  go_simp
  refine (isslot_any b o.s _).mono ?_
  rintro e w2 ⟨⟨r, rfl, hr⟩, hb⟩
  have HI : Hid (Tell r (0 ≤ o.s ∧ o.s < b.s)) := hr
  have HS2 : Hid (Oq a B D s t w t b U w.heap.size o w2) := HS1.out.later hb
  clear HS1 hb hr
  go_wp2_with (fail)
  refine hK.out _ _ HS2.out (fun hS => ?_)
  clear hK K
  try simp only [Act.put, s1, s2, s3]
  refine tI 7 (v := .bool (!r)) (d := some 15) rfl rfl (fun w' hw => ?_) hS ?_
  · clear hw; go_simp
  try simp only [Act.put, s1, s2, s3]
  refine wpAnyH_done (by kernel_rfl) ?_ _
  clear hS
  cases r
  case false => exact absurd (HI.out.2 ⟨by have := HQ.out.1; omega, by have := HQ.out.1; have := HQ.out.2.1; omega⟩) (by simp)
  go_wp2_with (fail)
  refine wp_region_held_drew (S := Oq a B D s t w t b U w.heap.size o) (by kernel_rfl) (HS2.out.drewN 1) (fun hS => ?_)
  refine tI 0 (v := .pointer (some ⟨w.heap.size, 0, none⟩)) (d := some 17) rfl rfl (fun w' hw => ?_) hS ?_
  · clear hw; go_simp
  try simp only [Act.put, s1, s2, s3]
  refine tI 1 (v := .int .i64 o.k) (d := some 18) rfl rfl (fun w' hw => ?_) hS ?_
  · have q1 := hw.op 0 _ rfl; clear hw; go_simp
  try simp only [Act.put, s1, s2, s3]
  refine tI 2 (v := .bool true) (d := some 19) rfl rfl (fun w' hw => ?_) hS ?_
  · have hk := HK.out; clear hw; go_simp
  try simp only [Act.put, s1, s2, s3]
  refine tI 3 (v := .bool true) (d := some 20) rfl rfl (fun w' hw => ?_) hS ?_
  · clear hw; go_simp
  try simp only [Act.put, s1, s2, s3]
  refine tI 4 (v := .pointer (some ⟨D, 0, none⟩)) (d := some 21) rfl rfl (fun w' hw => ?_) hS ?_
  · clear hw; go_simp
  try simp only [Act.put, s1, s2, s3]
  refine tI 5 (v := .pointer (some ⟨D, 0, none⟩)) (d := some 22) rfl rfl (fun w' hw => ?_) hS ?_
  · clear hw; go_simp
  try simp only [Act.put, s1, s2, s3]
  refine tI 6 (v := .pointer (some ⟨D, 0, none⟩)) (d := some 23) rfl rfl (fun w' hw => ?_) hS ?_
  · clear hw; go_simp
  try simp only [Act.put, s1, s2, s3]
  refine tB 7 (v := .agg b.cells.toArray) (d := some 24) rfl rfl (yieldsIf_load_mid (by rfl) 26 _ rfl D 0 rfl b.cells _ (fun w' hw => hw.d.d.range) Tryd.underlying26 rfl (by kernel_rfl)) hS ?_
  try simp only [Act.put, s1, s2, s3]
  refine tI 8 (v := .pointer (some ⟨w.heap.size, 1, none⟩)) (d := some 25) rfl rfl (fun w' hw => ?_) hS ?_
  · clear hw; go_simp
  try simp only [Act.put, s1, s2, s3]
  refine tI 9 (v := .int .i64 o.s) (d := some 26) rfl rfl (fun w' hw => ?_) hS ?_
  · have q := hw.op 1 _ rfl; clear hw; go_simp
  try simp only [Act.put, s1, s2, s3]
  refine r1 10 rfl (fun K hK => ?_)
  have HS1 : Hid (Oq a B D s t w t b U w.heap.size o _) := hS
  clear hS
  go_simp
  refine (isin_any b o.s _ HS1.out.d.d.h.at (by have := LS.out; omega)).mono ?_
  rintro e w3 ⟨⟨r, rfl, hr⟩, hb⟩
  have HJ : Hid (Tell r ((0 ≤ o.s ∧ o.s < b.s) ∧ b.i.f o.s.toNat ≠ 0)) := hr
  have HS3 : Hid (Oq a B D s t w t b U w.heap.size o w3) := HS1.out.later hb
  clear HS1 hb hr HS2
  go_wp2_with (fail)
  refine hK.out _ _ HS3.out (fun hS => ?_)
  clear hK K
  try simp only [Act.put, s1, s2, s3]
  refine tI 11 (v := .bool (!r)) (d := some 28) rfl rfl (fun w' hw => ?_) hS ?_
  · clear hw; go_simp
  try simp only [Act.put, s1, s2, s3]
  refine tI 12 (v := .bool (!r)) (d := some 29) rfl rfl (fun w' hw => ?_) hS ?_
  · clear hw; go_simp
  try simp only [Act.put, s1, s2, s3]
  refine wpAnyH_done (by kernel_rfl) ?_ _
  clear hS
  cases r
  case false => exact absurd (HJ.out.2 ⟨⟨by have := HQ.out.1; omega, by have := HQ.out.1; have := HQ.out.2.1; omega⟩, by rw [HQ.out.1, Int.toNat_natCast]; exact HQ.out.2.2⟩) (by simp)
  go_wp2_with (fail)
  refine wp_region_held_drew (S := Oq a B D s t w t b U w.heap.size o) (by kernel_rfl) (HS3.out.drewN 1) (fun hS => ?_)
  refine tI 1 (v := .pointer (some ⟨w.heap.size, 0, none⟩)) (d := some 33) rfl rfl (fun w' hw => ?_) hS ?_
  · clear hw; go_simp
  try simp only [Act.put, s1, s2, s3]
  refine tI 2 (v := .int .i64 o.k) (d := some 34) rfl rfl (fun w' hw => ?_) hS ?_
  · have q1 := hw.op 0 _ rfl; clear hw; go_simp
  try simp only [Act.put, s1, s2, s3]
  refine r1 0 rfl (fun K hK => ?_)
  have HS5 : Hid (Oq a B D s t w t b U w.heap.size o _) := hS
  clear hS
  go_simp
  refine (calls_any _).mono ?_
  rintro e w4 ⟨rfl, ew⟩
  have HM : Hid (w4.heap[w3.heap.size]? = some (.map six 6)) := by unfold Hid; rw [ew]; exact heap_alloc_new _ _
  have HS6 : Hid (Oq a B D s t w t b U w.heap.size o w4) := by unfold Hid; rw [ew]; exact HS5.out.later (below1 _ _)
  clear HS5 ew
  go_wp2_with (fail)
  refine hK.out _ _ HS6.out (fun hS => ?_)
  clear hK K
  try simp only [Act.put, s1, s2, s3]
  refine r1 3 rfl (fun K hK => ?_)
  have hz : (zeroValue 71).run Tryd.prog w4 = .ok .nilFunc w4 := by kernel_rfl
  have hl : (Instr.lookup 73 (.map (some w3.heap.size)) (.int .i64 o.k) true).run Tryd.prog w4 = .ok (.tuple #[.nilFunc, .bool false]) w4 := run_look Tryd.underlying73 Tryd.underlying3 w4 _ six 6 _ .nilFunc _ _ HM.out hz ⟨none, six_none (by have := HKN.out; omega), rfl⟩
  clear hS hz
  go_simp
  refine hK.out _ _ HS6.out (fun hS => ?_)
  clear hl
  clear hK K
  try simp only [Act.put, s1, s2, s3]
  refine tI 4 (v := .tuple #[.nilFunc, .bool false]) (d := some 31) rfl rfl (fun w' hw => ?_) hS ?_
  · clear hw; go_simp
  try simp only [Act.put, s1, s2, s3]
  refine tI 5 (v := .nilFunc) (d := some 36) rfl rfl (fun w' hw => ?_) hS ?_
  · clear hw; go_simp
  try simp only [Act.put, s1, s2, s3]
  refine tI 6 (v := .bool false) (d := some 37) rfl rfl (fun w' hw => ?_) hS ?_
  · clear hw; go_simp
  try simp only [Act.put, s1, s2, s3]
  refine tI 7 (v := .nilFunc) (d := some 6) rfl rfl (fun w' hw => ?_) hS ?_
  · clear hw; go_simp
  try simp only [Act.put, s1, s2, s3]
  refine tI 8 (v := .bool false) (d := some 7) rfl rfl (fun w' hw => ?_) hS ?_
  · clear hw; go_simp
  try simp only [Act.put, s1, s2, s3]
  refine wpAnyH_done (by kernel_rfl) ?_ _
  clear hS
  have cE : w4.cell? ⟨0, 0, none⟩ = some (ev a 13) := HS6.out.e.h _ _ (by simp [erl])
  go_wp2_with (fail)
  go_quiet (fail)
  go_wp2_with (fail)
  refine bodyPost_ret (v := .tuple #[.int .i64 0, ev a 13]) (by simp [results]) rfl ?_
  exact OpA.mk 13 0 (HS6.out.d.drewN _) (.inr ⟨q, HQ.out.1, HQ.out.2.1, .inr ⟨HK.out, .inr ⟨HQ.out.2.2, .inr (.inr (.inr (.inr (.inr ⟨by have := HKN.out; have := HK.out; omega, rfl, rfl, rfl, rfl⟩))))⟩⟩⟩) rfl

end Go.Proofs.YtbipolfbkemmpaaDoor.Dra

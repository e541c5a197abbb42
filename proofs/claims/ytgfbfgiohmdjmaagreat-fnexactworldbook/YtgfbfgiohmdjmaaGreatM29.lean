import Derived.Test.YtgfbfgiohmdjmaaGreatM11
import Derived.Test.YtgfbfgiohmdjmaaGreatSwok
import Derived.Test.YtgfbfgiohmdjmaaGreatM28

/- Guests and worlds of one's own, marked. Conditions: at most 1,048,576 guests and words. -/
namespace Go.Proofs.YtgfbfgiohmdjmaaGreat.Gs
open Go.ChangeShapes Go.WideShapes Go.ChangeAt Go.RowKit
open Aid Lst Plat
open Book (Ck ck_lit Sx takeB Only)
set_option maxRecDepth 100000
set_option linter.unusedVariables false

/- A guest in a row of one's own that is marked, its two lists beside it. -/
structure Rg (w0 : World) (b c1 c2 n1 n2 o : Nat) (cs : List Value) (w : World) : Prop where
  r : w.rangeAt b o cs
  t : w.there b o cs.length
  os : w.os = w0.os
  tape : w.tape = w0.tape
  output : w.output = w0.output
  size : w.heap.size = w0.heap.size
  block : ∀ i, i ≠ b → i ≠ c1 → i ≠ c2 → w.heap[i]? = w0.heap[i]?
  far : ∀ i, (i < o ∨ o + cs.length ≤ i) → w.cell? ⟨b, i, none⟩ = w0.cell? ⟨b, i, none⟩
  fz : ∀ i, w.frozen? ⟨b, i, none⟩ = w0.frozen? ⟨b, i, none⟩
  f1 : ∃ f, Fk .u64 n1 w c1 f
  f2 : ∃ f, Fk .u64 n2 w c2 f
  d1 : b ≠ c1
  d2 : b ≠ c2
  d3 : c1 ≠ c2
theorem Rg.put {w0 w : World} {b c1 c2 n1 n2 o : Nat} {cs : List Value} (h : Rg w0 b c1 c2 n1 n2 o cs w) (j : Nat) (v : Value) (hj : j < cs.length) : Rg w0 b c1 c2 n1 n2 o (cs.set j v) (w.setCell ⟨b, o + j, none⟩ v) := by
  have bu : But b w (w.setCell ⟨b, o + j, none⟩ v) := (But.refl b w).setCell _ _
  refine ⟨fun i u hu => ?_, by simpa using there_setCell h.t _ _, bu.os.trans h.os, bu.tape.trans h.tape, bu.output.trans h.output, bu.size.trans h.size, fun i h1 h2 h3 => (bu.block i h1).trans (h.block i h1 h2 h3), fun i hi => ?_, fun i => by simp [h.fz i], ?_, ?_, h.d1, h.d2, h.d3⟩
  · by_cases e : i = j
    · subst e
      rw [List.getElem?_set_self hj] at hu
      cases hu
      rw [World.cell?_setCell_same _ _ _ (h.r i _ (List.getElem?_eq_getElem hj))]
    · rw [List.getElem?_set_ne (Ne.symm e)] at hu
      rw [World.cell?_setCell_other _ _ _ _ (fun q => e (by injection q with _ q2 _; omega))]
      exact h.r i u hu
  · rw [List.length_set] at hi
    rw [World.cell?_setCell_other _ _ _ _ (fun q => by injection q with _ q2 _; omega)]
    exact h.far i hi
  · obtain ⟨f, hf⟩ := h.f1
    exact ⟨f, hf.far _ h.d1 v⟩
  · obtain ⟨f, hf⟩ := h.f2
    exact ⟨f, hf.far _ h.d2 v⟩
theorem Rg.mark1 {w0 w w1 : World} {b c1 c2 n1 n2 o : Nat} {cs : List Value} (h : Rg w0 b c1 c2 n1 n2 o cs w) {f : Nat → Int} (hf : Fk .u64 n1 w1 c1 f) (bu : But c1 w w1) : Rg w0 b c1 c2 n1 n2 o cs w1 := by
  have hb : ∀ i, w1.cell? ⟨b, i, none⟩ = w.cell? ⟨b, i, none⟩ := fun i => World.cell?_of_block (w := w) (bu.block b h.d1)
  have hz : ∀ i, w1.frozen? ⟨b, i, none⟩ = w.frozen? ⟨b, i, none⟩ := fun i => World.frozen?_of_block (w := w) (bu.block b h.d1)
  refine ⟨fun i u hu => by rw [hb]; exact h.r i u hu, fun i hi => by rw [hb, hz]; exact h.t i hi, bu.os.trans h.os, bu.tape.trans h.tape, bu.output.trans h.output, bu.size.trans h.size, fun i h1 h2 h3 => (bu.block i h2).trans (h.block i h1 h2 h3), fun i hi => by rw [hb]; exact h.far i hi, fun i => by rw [hz]; exact h.fz i, ⟨f, hf⟩, ?_, h.d1, h.d2, h.d3⟩
  obtain ⟨q, hq⟩ := h.f2
  exact ⟨q, bu.fk (Ne.symm h.d3) hq⟩
theorem Rg.mark2 {w0 w w1 : World} {b c1 c2 n1 n2 o : Nat} {cs : List Value} (h : Rg w0 b c1 c2 n1 n2 o cs w) {f : Nat → Int} (hf : Fk .u64 n2 w1 c2 f) (bu : But c2 w w1) : Rg w0 b c1 c2 n1 n2 o cs w1 := by
  have hb : ∀ i, w1.cell? ⟨b, i, none⟩ = w.cell? ⟨b, i, none⟩ := fun i => World.cell?_of_block (w := w) (bu.block b h.d2)
  have hz : ∀ i, w1.frozen? ⟨b, i, none⟩ = w.frozen? ⟨b, i, none⟩ := fun i => World.frozen?_of_block (w := w) (bu.block b h.d2)
  refine ⟨fun i u hu => by rw [hb]; exact h.r i u hu, fun i hi => by rw [hb, hz]; exact h.t i hi, bu.os.trans h.os, bu.tape.trans h.tape, bu.output.trans h.output, bu.size.trans h.size, fun i h1 h2 h3 => (bu.block i h3).trans (h.block i h1 h2 h3), fun i hi => by rw [hb]; exact h.far i hi, fun i => by rw [hz]; exact h.fz i, ?_, ⟨f, hf⟩, h.d1, h.d2, h.d3⟩
  obtain ⟨q, hq⟩ := h.f1
  exact ⟨q, bu.fk h.d3 hq⟩
theorem rg_store {P : Program} {ops : Array Oper} {rest : List Oper} {op : Oper} {a : Act} {w w0 : World} {Q : Exit → Act → World → Prop} {b c1 c2 n1 n2 o : Nat} {cs : List Value} (h : Rg w0 b c1 c2 n1 n2 o cs w)
    (hgd : op.guard = none) (ty : TypeId) (x : Operand) (i : Nat) (ho : op.op = .store ty x (.tmp i)) (p : Nat) (hx : a.eval x = .pointer (some ⟨b, p, none⟩)) (j : Nat) (hp : p = o + j) (v : Value) (hv : a.tmps.toList[i]? = some v) (hj : j < cs.length) (hi : (P.info? ty).map (·.size) = some 1) (h1 : v.oneCell' = true)
    (hk : ∀ w', Rg w0 b c1 c2 n1 n2 o (cs.set j v) w' → wpList P ops Q rest (a.put op.dst undef) w') : wpList P ops Q (op :: rest) a w :=
  wpList_plain hgd fun _ hK => by
    subst hp
    have hy : a.eval (.tmp i) = v := by
      rw [Array.getElem?_toList] at hv
      simp [Act.eval, hv]
    have ht : w.there b (o + j) 1 := fun q hq => by
      obtain rfl : q = 0 := by omega
      exact h.t j hj
    have hcs : v.cells = #[v] := by cases v <;> first | rfl | cases h1
    have hst : (storeVar ty ⟨b, o + j, none⟩ v).run P w = .ok () (w.setCell ⟨b, o + j, none⟩ v) := by
      have := run_storeCells_cells (P := P) b (o + j) [v] 0 w (fun i hi => by simpa using (ht i (by simpa using hi)).1) (fun i hi => by simpa using (ht i (by simpa using hi)).2) (fun u hu => by simp at hu; subst hu; exact h1)
      cases hq : P.info? ty with
      | none => simp [hq] at hi
      | some i =>
        have hs : i.size = 1 := by simpa [hq] using hi
        simp only [Nat.add_zero] at this
        simp [storeVar, sizeOf, typeInfo, hq, hcs, hs, this, World.setCells]
    unfold Oper.wp execOp
    simp only [ho, hx, hy, Instr.storeAt, Instr.sureAddr, Sem.run_bind, Sem.run_pure, Result.andThen_ok, hst]
    exact hK _ _ (hk _ (h.put j v hj))

/- The guests from the k-th on are as they were. -/
structure Mg (w0 : World) (R C n k : Nat) (g : Nat → Gx) (B1 B2 : Nat → Nat) (w : World) : Prop where
  row : ∀ j, k ≤ j → j < n → w.rangeAt R (j * 26) ((g j).at (B1 j) (B2 j)).cells ∧ w.there R (j * 26) 26
  own : ∀ j, k ≤ j → j < n → Fk .u64 (g j).snap.n w (B1 j) (g j).snap.f ∧ Fk .u64 (g j).plan.n w (B2 j) (g j).plan.f
  tu : Only R C w0 w
  size : w.heap.size = w0.heap.size
structure Mo (R C n : Nat) (B1 B2 : Nat → Nat) : Prop where
  ord : ∀ j, j < n → R < B1 j ∧ B1 j < B2 j ∧ B2 j < C
  inc : ∀ i j, i < j → j < n → B2 i < B1 j
  rc : R < C

theorem Mg.step {w0 w w1 : World} {R C n k : Nat} {g : Nat → Gx} {B1 B2 : Nat → Nat} {cs : List Value} (h : Mg w0 R C n k g B1 B2 w) (m : Mo R C n B1 B2) (hk : k < n) (hl : cs.length = 26) {n1 n2 : Nat} (q : Rg w R (B1 k) (B2 k) n1 n2 (k * 26) cs w1) : Mg w0 R C n (k + 1) g B1 B2 w1 := by
  have ok := m.ord k hk
  have rc := m.rc
  refine ⟨fun j h1 h2 => ?_, fun j h1 h2 => ?_, ⟨q.os.trans h.tu.os, q.tape.trans h.tu.tape, q.output.trans h.tu.output, by rw [q.size]; exact h.tu.size, fun i hi ho => (q.block i (by omega) (by omega) (by omega)).trans (h.tu.block i hi ho)⟩, q.size.trans h.size⟩
  · have e := h.row j (by omega) h2
    have hout : ∀ i, i < 26 → (j * 26 + i < k * 26 ∨ k * 26 + cs.length ≤ j * 26 + i) := fun i hi => by rw [hl]; omega
    refine ⟨fun i v hv => ?_, fun i hi => ?_⟩
    · have hi : i < 26 := by have := (List.getElem?_eq_some_iff.1 hv).1; rwa [Gx.len] at this
      rw [q.far _ (hout i hi)]; exact e.1 i v hv
    · rw [q.far _ (hout i hi), q.fz]; exact e.2 i hi
  · have e := h.own j (by omega) h2
    have oj := m.ord j h2
    have ij := m.inc k j (by omega) h2
    refine ⟨fun i hi => ?_, fun i hi => ?_⟩
    · rw [World.cell?_of_block (w := w) (q.block (B1 j) (by omega) (by omega) (by omega)), World.frozen?_of_block (w := w) (q.block (B1 j) (by omega) (by omega) (by omega))]; exact e.1 i hi
    · rw [World.cell?_of_block (w := w) (q.block (B2 j) (by omega) (by omega) (by omega)), World.frozen?_of_block (w := w) (q.block (B2 j) (by omega) (by omega) (by omega))]; exact e.2 i hi

set_option maxHeartbeats 16000000 in
theorem markguests_any (R C n c : Nat) (g : Nat → Gx) (B1 B2 : Nat → Nat) (k0 : Int) (w : World) (h : Mg w R C n 0 g B1 B2 w) (m : Mo R C n B1 B2) (hn : n ≤ 1048576) (hl : ∀ j, j < n → (g j).snap.n ≤ 1048576 ∧ (g j).plan.n ≤ 1048576) (h0 : 0 ≤ k0) (h1 : k0 ≤ 1048577) :
    Calls Tryz.prog 26 #[.slice (some ⟨R, 0, none⟩) n c, .int .i64 k0] w fun e w' => (∃ r : Int, e = .returned (.int .i64 r) ∧ 0 ≤ r) ∧ Only R C w w' := by
  have HM : Hid (Mo R C n B1 B2) := m
  have HL : Hid (∀ j, j < n → (g j).snap.n ≤ 1048576 ∧ (g j).plan.n ≤ 1048576) := hl
  clear m hl
  go_enter Tryz.func26, Tryz.ntmps26
  go_wp2_with (fail)
  go_loopw [1, 5] (fun kk i wr => ∃ (k : Nat) (r : Int), k ≤ n ∧ i = .int .i64 k ∧ kk = .int .i64 r ∧ 0 ≤ r ∧ r ≤ 1048577 + k * 2097200 ∧ Mg w R C n k g B1 B2 wr) (fun _ i _ => n - (intOf i).toNat)
  case atStart => exact ⟨0, k0, by omega, rfl, rfl, h0, by omega, h⟩
  case round =>
    obtain ⟨k, kk, hk, rfl, rfl, r0, r1, hf⟩ := hrel
    clear h
    have HF : Hid (Mg w R C n k g B1 B2 wr) := hf
    clear hf
    by_cases hlt : (k : Int) < n
    · have hR : (kk : Int) ≤ 2200000000000 := by omega
      have l1 : (g k).snap.n ≤ 1048576 := (HL.out k (by omega)).1
      have l2 : (g k).plan.n ≤ 1048576 := (HL.out k (by omega)).2
      have HC : Hid (Rg wr R (B1 k) (B2 k) (g k).snap.n (g k).plan.n (k * 26) [.bool (g k).up, .int .i64 (g k).slot, .int .i64 (g k).epoch, .bool (g k).busy, .int .i64 (g k).ok, .int .i64 (g k).os, .int .i64 (g k).oa, .int .i64 (g k).ob, .int .i64 (g k).pc, .int .i64 (g k).k, .int .i64 (g k).n, .int .i64 (g k).seq, .int .i64 (g k).next, .int .i64 (g k).who, .int .i64 (g k).whoE, .bool (g k).own, .int .i64 (g k).time, .int .u64 (g k).was, .int .u64 (g k).door, .int .u64 (g k).beat, .int .u64 (g k).entry, .slice (some ⟨B1 k, 0, none⟩) (g k).snap.n (g k).snap.n, .slice (some ⟨B2 k, 0, none⟩) (g k).plan.n (g k).plan.n, .int .i64 (g k).code, .int .i64 (g k).val, .int .i64 (g k).count] wr) := by
        have e := HF.out.row k (Nat.le_refl _) (by omega)
        have o := HF.out.own k (Nat.le_refl _) (by omega)
        have ok := HM.out.ord k (by omega)
        exact ⟨e.1, e.2, rfl, rfl, rfl, rfl, fun _ _ _ _ => rfl, fun _ _ => rfl, fun _ => rfl, ⟨_, o.1⟩, ⟨_, o.2⟩, by omega, by omega, by omega⟩
      go_wp2_with (with_reducible refine halt_at (.store 4 (.tmp 18) (.tmp 16)) rfl ?_)
      unfold Hid
      refine rg_store HC.out rfl 4 _ _ rfl _ rfl 0 (by omega) _ rfl (Nat.le_of_ble_eq_true rfl) (by kernel_rfl) rfl ?_
      intro w' h
      simp only [List.set] at h
      replace HC : Hid _ := h
      clear h
      go_wp2_with (with_reducible refine halt_at (.store 3 (.tmp 25) (.tmp 23)) rfl ?_)
      unfold Hid
      refine rg_store HC.out rfl 3 _ _ rfl _ rfl 1 (by omega) _ rfl (Nat.le_of_ble_eq_true rfl) (by kernel_rfl) rfl ?_
      intro w' h
      simp only [List.set] at h
      replace HC : Hid _ := h
      clear h
      go_wp2_with (with_reducible refine halt_at (.store 3 (.tmp 32) (.tmp 30)) rfl ?_)
      unfold Hid
      refine rg_store HC.out rfl 3 _ _ rfl _ rfl 2 (by omega) _ rfl (Nat.le_of_ble_eq_true rfl) (by kernel_rfl) rfl ?_
      intro w' h
      simp only [List.set] at h
      replace HC : Hid _ := h
      clear h
      go_wp2_with (with_reducible refine halt_at (.store 4 (.tmp 41) (.tmp 39)) rfl ?_)
      unfold Hid
      refine rg_store HC.out rfl 4 _ _ rfl _ rfl 3 (by omega) _ rfl (Nat.le_of_ble_eq_true rfl) (by kernel_rfl) rfl ?_
      intro w' h
      simp only [List.set] at h
      replace HC : Hid _ := h
      clear h
      go_wp2_with (with_reducible refine halt_at (.store 3 (.tmp 49) (.tmp 46)) rfl ?_)
      unfold Hid
      refine rg_store HC.out rfl 3 _ _ rfl _ rfl 4 (by omega) _ rfl (Nat.le_of_ble_eq_true rfl) (by kernel_rfl) rfl ?_
      intro w' h
      simp only [List.set] at h
      replace HC : Hid _ := h
      clear h
      go_wp2_with (with_reducible refine halt_at (.store 3 (.tmp 57) (.tmp 54)) rfl ?_)
      unfold Hid
      refine rg_store HC.out rfl 3 _ _ rfl _ rfl 5 (by omega) _ rfl (Nat.le_of_ble_eq_true rfl) (by kernel_rfl) rfl ?_
      intro w' h
      simp only [List.set] at h
      replace HC : Hid _ := h
      clear h
      go_wp2_with (with_reducible refine halt_at (.store 3 (.tmp 65) (.tmp 62)) rfl ?_)
      unfold Hid
      refine rg_store HC.out rfl 3 _ _ rfl _ rfl 6 (by omega) _ rfl (Nat.le_of_ble_eq_true rfl) (by kernel_rfl) rfl ?_
      intro w' h
      simp only [List.set] at h
      replace HC : Hid _ := h
      clear h
      go_wp2_with (with_reducible refine halt_at (.store 3 (.tmp 73) (.tmp 70)) rfl ?_)
      unfold Hid
      refine rg_store HC.out rfl 3 _ _ rfl _ rfl 7 (by omega) _ rfl (Nat.le_of_ble_eq_true rfl) (by kernel_rfl) rfl ?_
      intro w' h
      simp only [List.set] at h
      replace HC : Hid _ := h
      clear h
      go_wp2_with (with_reducible refine halt_at (.store 3 (.tmp 80) (.tmp 78)) rfl ?_)
      unfold Hid
      refine rg_store HC.out rfl 3 _ _ rfl _ rfl 8 (by omega) _ rfl (Nat.le_of_ble_eq_true rfl) (by kernel_rfl) rfl ?_
      intro w' h
      simp only [List.set] at h
      replace HC : Hid _ := h
      clear h
      go_wp2_with (with_reducible refine halt_at (.store 3 (.tmp 87) (.tmp 85)) rfl ?_)
      unfold Hid
      refine rg_store HC.out rfl 3 _ _ rfl _ rfl 9 (by omega) _ rfl (Nat.le_of_ble_eq_true rfl) (by kernel_rfl) rfl ?_
      intro w' h
      simp only [List.set] at h
      replace HC : Hid _ := h
      clear h
      go_wp2_with (with_reducible refine halt_at (.store 3 (.tmp 94) (.tmp 92)) rfl ?_)
      unfold Hid
      refine rg_store HC.out rfl 3 _ _ rfl _ rfl 10 (by omega) _ rfl (Nat.le_of_ble_eq_true rfl) (by kernel_rfl) rfl ?_
      intro w' h
      simp only [List.set] at h
      replace HC : Hid _ := h
      clear h
      go_wp2_with (with_reducible refine halt_at (.store 3 (.tmp 101) (.tmp 99)) rfl ?_)
      unfold Hid
      refine rg_store HC.out rfl 3 _ _ rfl _ rfl 11 (by omega) _ rfl (Nat.le_of_ble_eq_true rfl) (by kernel_rfl) rfl ?_
      intro w' h
      simp only [List.set] at h
      replace HC : Hid _ := h
      clear h
      go_wp2_with (with_reducible refine halt_at (.store 3 (.tmp 108) (.tmp 106)) rfl ?_)
      unfold Hid
      refine rg_store HC.out rfl 3 _ _ rfl _ rfl 12 (by omega) _ rfl (Nat.le_of_ble_eq_true rfl) (by kernel_rfl) rfl ?_
      intro w' h
      simp only [List.set] at h
      replace HC : Hid _ := h
      clear h
      go_wp2_with (with_reducible refine halt_at (.store 3 (.tmp 115) (.tmp 113)) rfl ?_)
      unfold Hid
      refine rg_store HC.out rfl 3 _ _ rfl _ rfl 13 (by omega) _ rfl (Nat.le_of_ble_eq_true rfl) (by kernel_rfl) rfl ?_
      intro w' h
      simp only [List.set] at h
      replace HC : Hid _ := h
      clear h
      go_wp2_with (with_reducible refine halt_at (.store 3 (.tmp 122) (.tmp 120)) rfl ?_)
      unfold Hid
      refine rg_store HC.out rfl 3 _ _ rfl _ rfl 14 (by omega) _ rfl (Nat.le_of_ble_eq_true rfl) (by kernel_rfl) rfl ?_
      intro w' h
      simp only [List.set] at h
      replace HC : Hid _ := h
      clear h
      go_wp2_with (with_reducible refine halt_at (.store 4 (.tmp 131) (.tmp 129)) rfl ?_)
      unfold Hid
      refine rg_store HC.out rfl 4 _ _ rfl _ rfl 15 (by omega) _ rfl (Nat.le_of_ble_eq_true rfl) (by kernel_rfl) rfl ?_
      intro w' h
      simp only [List.set] at h
      replace HC : Hid _ := h
      clear h
      go_wp2_with (with_reducible refine halt_at (.store 3 (.tmp 138) (.tmp 136)) rfl ?_)
      unfold Hid
      refine rg_store HC.out rfl 3 _ _ rfl _ rfl 16 (by omega) _ rfl (Nat.le_of_ble_eq_true rfl) (by kernel_rfl) rfl ?_
      intro w' h
      simp only [List.set] at h
      replace HC : Hid _ := h
      clear h
      go_wp2_with (with_reducible refine halt_at (.store 58 (.tmp 146) (.tmp 144)) rfl ?_)
      unfold Hid
      refine rg_store HC.out rfl 58 _ _ rfl _ rfl 17 (by omega) _ rfl (Nat.le_of_ble_eq_true rfl) (by kernel_rfl) rfl ?_
      intro w' h
      simp only [List.set] at h
      replace HC : Hid _ := h
      clear h
      go_wp2_with (with_reducible refine halt_at (.store 58 (.tmp 154) (.tmp 152)) rfl ?_)
      unfold Hid
      refine rg_store HC.out rfl 58 _ _ rfl _ rfl 18 (by omega) _ rfl (Nat.le_of_ble_eq_true rfl) (by kernel_rfl) rfl ?_
      intro w' h
      simp only [List.set] at h
      replace HC : Hid _ := h
      clear h
      go_wp2_with (with_reducible refine halt_at (.store 58 (.tmp 162) (.tmp 160)) rfl ?_)
      unfold Hid
      refine rg_store HC.out rfl 58 _ _ rfl _ rfl 19 (by omega) _ rfl (Nat.le_of_ble_eq_true rfl) (by kernel_rfl) rfl ?_
      intro w' h
      simp only [List.set] at h
      replace HC : Hid _ := h
      clear h
      go_wp2_with (with_reducible refine halt_at (.store 58 (.tmp 170) (.tmp 168)) rfl ?_)
      unfold Hid
      refine rg_store HC.out rfl 58 _ _ rfl _ rfl 20 (by omega) _ rfl (Nat.le_of_ble_eq_true rfl) (by kernel_rfl) rfl ?_
      intro w' h
      simp only [List.set] at h
      replace HC : Hid _ := h
      clear h
      go_wp2_with (with_reducible refine halt_at (.load 22 (.tmp 176)) rfl ?_)
      unfold Hid
      refine rk_load HC.out.r rfl 22 _ rfl _ rfl 21 (by omega) _ rfl (by kernel_rfl) ?_
      obtain ⟨f1, hf1⟩ := HC.out.f1
      go_wp2_with (fail)
      refine (markUint64_any _ _ _ _ _ _ hf1 (by omega) (by omega) (by omega)).mono ?_
      rintro e v1 ⟨rfl, hk1, hb1⟩
      replace HC : Hid _ := HC.out.mark1 hk1 hb1
      clear hk1 hb1 hf1
      go_wp2_with (with_reducible refine halt_at (.load 22 (.tmp 183)) rfl ?_)
      unfold Hid
      refine rk_load HC.out.r rfl 22 _ rfl _ rfl 22 (by omega) _ rfl (by kernel_rfl) ?_
      obtain ⟨f2, hf2⟩ := HC.out.f2
      go_wp2_with (fail)
      refine (markUint64_any _ _ _ _ _ _ hf2 (by omega) (by omega) (by omega)).mono ?_
      rintro e v2 ⟨rfl, hk2, hb2⟩
      replace HC : Hid _ := HC.out.mark2 hk2 hb2
      clear hk2 hb2 hf2
      go_wp2_with (with_reducible refine halt_at (.store 3 (.tmp 191) (.tmp 189)) rfl ?_)
      unfold Hid
      refine rg_store HC.out rfl 3 _ _ rfl _ rfl 23 (by omega) _ rfl (Nat.le_of_ble_eq_true rfl) (by kernel_rfl) rfl ?_
      intro w' h
      simp only [List.set] at h
      replace HC : Hid _ := h
      clear h
      go_wp2_with (with_reducible refine halt_at (.store 3 (.tmp 198) (.tmp 196)) rfl ?_)
      unfold Hid
      refine rg_store HC.out rfl 3 _ _ rfl _ rfl 24 (by omega) _ rfl (Nat.le_of_ble_eq_true rfl) (by kernel_rfl) rfl ?_
      intro w' h
      simp only [List.set] at h
      replace HC : Hid _ := h
      clear h
      go_wp2_with (with_reducible refine halt_at (.store 3 (.tmp 205) (.tmp 203)) rfl ?_)
      unfold Hid
      refine rg_store HC.out rfl 3 _ _ rfl _ rfl 25 (by omega) _ rfl (Nat.le_of_ble_eq_true rfl) (by kernel_rfl) rfl ?_
      intro w' h
      simp only [List.set] at h
      replace HC : Hid _ := h
      clear h
      go_wp2_with (fail)
      have HN : Hid (Mg w R C n (k + 1) g B1 B2 w') := HF.out.step HM.out (by omega) rfl HC.out
      clear HC HF
      go_roundw
      case rel => exact ⟨k + 1, _, by omega, by go_num, rfl, by omega, by omega, HN.out⟩
      case measure => simp [intOf]; omega
    · have e : k = n := by omega
      subst e
      go_wp2_with (fail)
      go_ret
      exact ⟨⟨_, rfl, r0⟩, HF.out.tu⟩

/- A world of one's own is marked. -/
set_option maxHeartbeats 1000000 in
theorem markworld_any (x : Wx) (b R C : Nat) (B1 B2 : Nat → Nat) (w0 w : World) (h : Wo w0 x b R B1 B2 w) (hl : x.ws.n ≤ 1048576 ∧ x.n ≤ 1048576 ∧ ∀ j, j < x.n → (x.g j).snap.n ≤ 1048576 ∧ (x.g j).plan.n ≤ 1048576) (hC : R < C) (hB : ∀ j, j < x.n → B2 j < C) (hz : C ≤ w.heap.size) :
    Calls Tryz.prog 10 #[.agg (x.of b R B1 B2).cells.toArray, .int .i64 1] w fun e w' => (∃ r : Int, e = .returned (.int .i64 r) ∧ 0 ≤ r) ∧ Only b C w w' := by
  have R1 : Hid (World.rangeAt _ w.heap.size 0 (x.of b R B1 B2).cells) := range_lit (x.of b R B1 B2).cells.toArray (heap1_0 w (.cells (x.of b R B1 B2).cells.toArray 35))
  have HW : Hid (Wo w0 x b R B1 B2 (w.alloc (.cells (x.of b R B1 B2).cells.toArray 35))) := h.later (below1 w _)
  have O : Hid (Only b C w (w.alloc (.cells (x.of b R B1 B2).cells.toArray 35))) := Only.of (below1 w _)
  have Z : Hid (w.heap.size < (w.alloc (.cells (x.of b R B1 B2).cells.toArray 35)).heap.size) := by show _ < _; simp
  have HL : Hid (x.ws.n ≤ 1048576 ∧ x.n ≤ 1048576 ∧ ∀ j, j < x.n → (x.g j).snap.n ≤ 1048576 ∧ (x.g j).plan.n ≤ 1048576) := hl
  have HB : Hid (∀ j, j < x.n → B2 j < C) := hB
  have br := h.br
  have l1 := hl.1
  clear hl hB h
  go_enter Tryz.func10, Tryz.ntmps10
  go_wp2_with (with_reducible refine halt_at (.fieldAddr 35 (.tmp 2) 0) rfl ?_)
  unfold Hid
  generalize w.alloc (.cells (x.of b R B1 B2).cells.toArray 35) = W at R1 HW O Z ⊢
  go_wp2_with (with_reducible refine halt_at (.load 22 (.tmp 5)) rfl ?_)
  unfold Hid
  refine rg_load R1.out rfl 22 _ rfl _ rfl _ rfl (by kernel_rfl) ?_
  go_wp2_with (fail)
  refine (markUint64_any b _ _ _ 1 W HW.out.ws (by omega) (by omega) (by omega)).mono ?_
  rintro e w1 ⟨rfl, hf, hb⟩
  have R2 : Hid (World.rangeAt w1 w.heap.size 0 (x.of b R B1 B2).cells) := fun j v hv => by
    rw [World.cell?_of_block (w := W) (hb.block w.heap.size (by omega))]; exact R1.out j v hv
  have O2 : Hid (Only b C w w1) := O.out.trans ⟨hb.os, hb.tape, hb.output, Nat.le_of_eq hb.size.symm, fun i _ ho => hb.block i (by omega)⟩
  have HM : Hid (Mg w1 R C x.n 0 x.g B1 B2 w1) := by
    have g := HW.out.gs
    refine ⟨fun j _ hj => ⟨fun i v hv => ?_, fun i hi => ?_⟩, fun j _ hj => ?_, ⟨rfl, rfl, rfl, Nat.le_refl _, fun _ _ _ => rfl⟩, rfl⟩
    · rw [World.cell?_of_block (w := W) (hb.block R (by omega))]; exact g.row j hj i v hv
    · rw [World.cell?_of_block (w := W) (hb.block R (by omega)), World.frozen?_of_block (w := W) (hb.block R (by omega))]; exact g.th j hj i hi
    · have o := g.ord j hj
      exact ⟨hb.fk (by omega) (g.own j hj).1, hb.fk (by omega) (g.own j hj).2⟩
  have MO : Hid (Mo R C x.n B1 B2) := ⟨fun j hj => ⟨(HW.out.gs.ord j hj).1, (HW.out.gs.ord j hj).2.1, HB.out j hj⟩, HW.out.gs.inc, hC⟩
  clear hf hb R1 O HW HB Z
  go_wp2_with (with_reducible refine halt_at (.load 33 (.tmp 9)) rfl ?_)
  unfold Hid
  refine rg_load R2.out rfl 33 _ rfl _ rfl _ rfl (by kernel_rfl) ?_
  go_wp2_with (fail)
  refine (markguests_any R C x.n _ x.g B1 B2 _ w1 HM.out MO.out HL.out.2.1 HL.out.2.2 (by omega) (by omega)).mono ?_
  rintro e w2 ⟨⟨r, rfl, r0⟩, ho⟩
  have O3 : Hid (Only b C w w2) := O2.out.trans (ho.mono (by omega) (Nat.le_refl _))
  clear ho O2 R2 HM MO HL
  go_wp2_with (fail)
  go_ret
  exact ⟨⟨r, rfl, r0⟩, O3.out⟩

open Book (Ck ck_lit Sx Bx Bm takeB Only Z9 CtQ CtA ctrue_any sctrue_any ctq_one noneM noneB none_own put9s there9)
def WbQ (x : Wx) (c : Bx) (r : Bool) : Prop := (Wok x ∧ CtQ x.ws.n x.ws.f c r) ∨ (¬ Wok x ∧ r = false ∧ c.m = noneM)
theorem wbq_one {x : Wx} {c d : Bx} {r q : Bool} (h : WbQ x c r) (g : WbQ x d q) : c.m = d.m ∧ r = q := by
  rcases h with ⟨h, h1⟩ | ⟨h, rfl, h2⟩ <;> rcases g with ⟨g, g1⟩ | ⟨g, rfl, g2⟩
  · exact ctq_one h1 g1
  · exact absurd h g
  · exact absurd g h
  · exact ⟨h2.trans g2.symm, rfl⟩
def WbA (x : Wx) (w w' : World) (e : Ending) : Prop := ∃ (c : Bx) (r : Bool), e = .returned (.tuple #[.agg c.cells.toArray, .bool r]) ∧ WbQ x c r ∧ c.Own w.heap.size w'.heap.size w' ∧ Below w.heap.size w w'
theorem WbA.mk {x : Wx} {w w' : World} {e : Ending} (c : Bx) (r : Bool) (he : e = .returned (.tuple #[.agg c.cells.toArray, .bool r])) (hq : WbQ x c r) (ho : c.Own w.heap.size w'.heap.size w') (hb : Below w.heap.size w w') : WbA x w w' e := ⟨c, r, he, hq, ho, hb⟩
theorem wb_ans {w0 w : World} {c : Bx} {B C : Nat} (ht : Ck w (w0.heap.size + 1) Z9) (z : w0.heap.size + 1 < w.heap.size) (hb : Below w0.heap.size w0 w) (ho : c.Own B C w) (hB : w0.heap.size + 2 ≤ B) (hC : C ≤ w.heap.size) :
    Ck (w.setCells (w0.heap.size + 1) 0 c.cells) (w0.heap.size + 1) c.cells ∧ c.Own w0.heap.size (w.setCells (w0.heap.size + 1) 0 c.cells).heap.size (w.setCells (w0.heap.size + 1) 0 c.cells) ∧ Below w0.heap.size w0 (w.setCells (w0.heap.size + 1) 0 c.cells) := by
  obtain ⟨ck, oy⟩ := put9s ht (.int .i64 c.s) (.slice c.p.a c.p.n c.p.c) (.slice c.h0.a c.h0.n c.h0.c) (.slice c.h1.a c.h1.n c.h1.c) (.slice c.h2.a c.h2.n c.h2.c) (.slice c.h3.a c.h3.n c.h3.c) (.slice c.o.a c.o.n c.o.c) (.slice c.i.a c.i.n c.i.c) (.slice c.e.a c.e.n c.e.c)
  have zl := oy.size
  exact ⟨ck, (ho.only oy (.inr (by omega))).mono (by omega) (by rw [setCells_size]; omega), hb.trans (oy.below (by omega) |>.mono (by omega))⟩
theorem bx_one (c : Bx) : c.cells.toArray.all (·.oneCell') = true := by simp [Bx.cells, Value.oneCell']

set_option maxHeartbeats 4000000 in
theorem wbook_any (x : Wx) (w : World) (h : x.At w) (hw : Words64 x.ws) (h64 : W64 x.ws.f) (hcap : x.ws.n ≤ x.ws.c) :
    Calls Tryz.prog 7 #[.agg x.cells.toArray] w fun e w' => WbA x w w' e := by
  have R : Hid (World.rangeAt _ w.heap.size 0 x.cells) := range_lit x.cells.toArray (heap2_0 w (.cells x.cells.toArray 35) (.cells #[.int .i64 0, .slice none 0 0, .slice none 0 0, .slice none 0 0, .slice none 0 0, .slice none 0 0, .slice none 0 0, .slice none 0 0, .slice none 0 0] 30))
  have T : Hid (Ck _ (w.heap.size + 1) Z9) := ck_lit #[.int .i64 0, .slice none 0 0, .slice none 0 0, .slice none 0 0, .slice none 0 0, .slice none 0 0, .slice none 0 0, .slice none 0 0, .slice none 0 0] (heap2_1 w (.cells x.cells.toArray 35) (.cells #[.int .i64 0, .slice none 0 0, .slice none 0 0, .slice none 0 0, .slice none 0 0, .slice none 0 0, .slice none 0 0, .slice none 0 0, .slice none 0 0] 30))
  have B : Hid (Below w.heap.size w _) := below2 w (.cells x.cells.toArray 35) (.cells #[.int .i64 0, .slice none 0 0, .slice none 0 0, .slice none 0 0, .slice none 0 0, .slice none 0 0, .slice none 0 0, .slice none 0 0, .slice none 0 0] 30)
  have Z : Hid (w.heap.size + 2 ≤ ((w.alloc (.cells x.cells.toArray 35)).alloc (.cells #[.int .i64 0, .slice none 0 0, .slice none 0 0, .slice none 0 0, .slice none 0 0, .slice none 0 0, .slice none 0 0, .slice none 0 0, .slice none 0 0] 30)).heap.size) := by show _ ≤ _; simp
  have HA : Hid (x.At w) := h
  have HW : Hid (Words64 x.ws) := hw
  have H64 : Hid (W64 x.ws.f) := h64
  clear h hw h64
  go_enter Tryz.func7, Tryz.ntmps7
  go_wp2_with (with_reducible refine halt_at (.load 35 (.tmp 1)) rfl ?_)
  unfold Hid
  generalize (w.alloc (.cells x.cells.toArray 35)).alloc (.cells #[.int .i64 0, .slice none 0 0, .slice none 0 0, .slice none 0 0, .slice none 0 0, .slice none 0 0, .slice none 0 0, .slice none 0 0, .slice none 0 0] 30) = W at R T B Z ⊢
  refine wpList_load_mid rfl 35 _ rfl w.heap.size 0 rfl x.cells _ R.out Tryz.underlying35 rfl (by kernel_rfl) ?_
  go_wp2_with (fail)
  refine (wok_any x W (HA.out.later B.out) HW.out).mono ?_
  rintro e w1 ⟨rfl, hb⟩
  have R1 : Hid (World.rangeAt w1 w.heap.size 0 x.cells) := range_below hb R.out (by have := Z.out; omega)
  have T1 : Hid (Ck w1 (w.heap.size + 1) Z9) := T.out.below hb (by have := Z.out; omega)
  have B1 : Hid (Below w.heap.size w w1) := B.out.trans (hb.mono B.out.size)
  have Z1 : Hid (w.heap.size + 2 ≤ w1.heap.size) := Nat.le_trans Z.out hb.size
  clear R T B Z hb
  by_cases ok : Wok x
  · rw [← boolOf_t ok]
    have OK : Hid (Wok x) := ok
    clear ok
    go_wp2_with (refine rg_load R1.out rfl 22 _ rfl _ rfl _ rfl (by kernel_rfl) ?_)
    refine (ctrue_any x.ws.a x.ws.n x.ws.c x.ws.f w1 (HA.out.ws.later B1.out) HW.out.1 hcap H64.out).mono ?_
    rintro e w2 ⟨c, r, rfl, cq, co, hb⟩
    have CQ : Hid (CtQ x.ws.n x.ws.f c r) := cq
    have T2 : Hid (Ck w2 (w.heap.size + 1) Z9) := T1.out.below hb (by have := Z1.out; omega)
    have A : Hid (_ ∧ _ ∧ _) := wb_ans (c := c) T2.out (by have := Z1.out; have := hb.size; omega) (B1.out.trans (hb.mono B1.out.size)) co Z1.out (Nat.le_refl _)
    clear cq co hb R1 T1 B1 Z1
    go_wp2_with (with_reducible refine halt_at (.store 30 (.tmp 2) (.tmp 11)) rfl ?_)
    unfold Hid
    refine wpList_store_mid rfl 30 _ _ rfl (w.heap.size + 1) 0 c.cells.toArray rfl rfl (there9 T2.out) (by kernel_rfl) (bx_one c) ?_
    go_wp2_with (fail)
    exact bodyPost_ret (results_cell_tmp_mid rfl _ _ (w.heap.size + 1) 0 _ _ rfl A.out.1.range Tryz.underlying30 rfl (by kernel_rfl)) rfl (WbA.mk c r rfl (.inl ⟨OK.out, CQ.out⟩) A.out.2.1 A.out.2.2)
  · rw [← boolOf_f ok]
    have NO : Hid (¬ Wok x) := ok
    clear ok
    have A : Hid (_ ∧ _ ∧ _) := wb_ans (c := noneB) T1.out (by have := Z1.out; omega) B1.out (none_own w1.heap.size w1.heap.size w1) Z1.out (Nat.le_refl _)
    go_wp2_with (with_reducible refine halt_at (.store 30 (.tmp 2) (.tmp 7)) rfl ?_)
    unfold Hid
    refine wpList_store_mid rfl 30 _ _ rfl (w.heap.size + 1) 0 noneB.cells.toArray rfl rfl (there9 T1.out) (by kernel_rfl) (bx_one _) ?_
    clear R1 T1 B1 Z1
    go_wp2_with (fail)
    exact bodyPost_ret (results_cell_tmp_mid rfl _ _ (w.heap.size + 1) 0 _ _ rfl A.out.1.range Tryz.underlying30 rfl (by kernel_rfl)) rfl (WbA.mk noneB false rfl (.inr ⟨NO.out, rfl, rfl⟩) A.out.2.1 A.out.2.2)

set_option maxHeartbeats 4000000 in
theorem swbook_any (x : Wx) (w : World) (h : x.At w) (hw : Words64 x.ws) (h64 : W64 x.ws.f) (b : Nat) (ha : x.ws.a = some ⟨b, 0, none⟩) (hb0 : b < w.heap.size) :
    Calls Tryz.prog 5 #[.agg x.cells.toArray] w fun e w' => WbA x w w' e := by
  have R : Hid (World.rangeAt _ w.heap.size 0 x.cells) := range_lit x.cells.toArray (heap2_0 w (.cells x.cells.toArray 35) (.cells #[.int .i64 0, .slice none 0 0, .slice none 0 0, .slice none 0 0, .slice none 0 0, .slice none 0 0, .slice none 0 0, .slice none 0 0, .slice none 0 0] 30))
  have T : Hid (Ck _ (w.heap.size + 1) Z9) := ck_lit #[.int .i64 0, .slice none 0 0, .slice none 0 0, .slice none 0 0, .slice none 0 0, .slice none 0 0, .slice none 0 0, .slice none 0 0, .slice none 0 0] (heap2_1 w (.cells x.cells.toArray 35) (.cells #[.int .i64 0, .slice none 0 0, .slice none 0 0, .slice none 0 0, .slice none 0 0, .slice none 0 0, .slice none 0 0, .slice none 0 0, .slice none 0 0] 30))
  have B : Hid (Below w.heap.size w _) := below2 w (.cells x.cells.toArray 35) (.cells #[.int .i64 0, .slice none 0 0, .slice none 0 0, .slice none 0 0, .slice none 0 0, .slice none 0 0, .slice none 0 0, .slice none 0 0, .slice none 0 0] 30)
  have Z : Hid (w.heap.size + 2 ≤ ((w.alloc (.cells x.cells.toArray 35)).alloc (.cells #[.int .i64 0, .slice none 0 0, .slice none 0 0, .slice none 0 0, .slice none 0 0, .slice none 0 0, .slice none 0 0, .slice none 0 0, .slice none 0 0] 30)).heap.size) := by show _ ≤ _; simp
  have HA : Hid (x.At w) := h
  have HW : Hid (Words64 x.ws) := hw
  have H64 : Hid (W64 x.ws.f) := h64
  clear h hw h64
  go_enter Tryz.func5, Tryz.ntmps5
  go_wp2_with (with_reducible refine halt_at (.load 35 (.tmp 1)) rfl ?_)
  unfold Hid
  generalize (w.alloc (.cells x.cells.toArray 35)).alloc (.cells #[.int .i64 0, .slice none 0 0, .slice none 0 0, .slice none 0 0, .slice none 0 0, .slice none 0 0, .slice none 0 0, .slice none 0 0, .slice none 0 0] 30) = W at R T B Z ⊢
  refine wpList_load_mid rfl 35 _ rfl w.heap.size 0 rfl x.cells _ R.out Tryz.underlying35 rfl (by kernel_rfl) ?_
  go_wp2_with (fail)
  refine (swok_any x W (HA.out.later B.out) HW.out).mono ?_
  rintro e w1 ⟨rfl, hb⟩
  have R1 : Hid (World.rangeAt w1 w.heap.size 0 x.cells) := range_below hb R.out (by have := Z.out; omega)
  have T1 : Hid (Ck w1 (w.heap.size + 1) Z9) := T.out.below hb (by have := Z.out; omega)
  have B1 : Hid (Below w.heap.size w w1) := B.out.trans (hb.mono B.out.size)
  have Z1 : Hid (w.heap.size + 2 ≤ w1.heap.size) := Nat.le_trans Z.out hb.size
  clear R T B Z hb
  by_cases ok : Wok x
  · rw [← boolOf_t ok]
    have OK : Hid (Wok x) := ok
    clear ok
    go_wp2_with (refine rg_load R1.out rfl 22 _ rfl _ rfl _ rfl (by kernel_rfl) ?_)
    have HS : ∀ j, j < x.ws.n → w1.cell? ⟨b, 0 + j, none⟩ = some (.int .u64 (x.ws.f j)) := fun j hj => by
      rcases HA.out.ws.later B1.out with q | ⟨b', off, e, q⟩
      · omega
      · rw [ha] at e
        cases e
        exact q j hj
    refine (sctrue_any b 0 x.ws.n x.ws.c x.ws.f w1 HS (fun _ => Nat.lt_of_lt_of_le hb0 B1.out.size) HW.out.1 H64.out).mono ?_
    rintro e w2 ⟨c, r, rfl, cq, co, hb⟩
    have CQ : Hid (CtQ x.ws.n x.ws.f c r) := cq
    have T2 : Hid (Ck w2 (w.heap.size + 1) Z9) := T1.out.below hb (by have := Z1.out; omega)
    have A : Hid (_ ∧ _ ∧ _) := wb_ans (c := c) T2.out (by have := Z1.out; have := hb.size; omega) (B1.out.trans (hb.mono B1.out.size)) co Z1.out (Nat.le_refl _)
    clear cq co hb R1 T1 B1 Z1
    go_wp2_with (with_reducible refine halt_at (.store 30 (.tmp 2) (.tmp 11)) rfl ?_)
    unfold Hid
    refine wpList_store_mid rfl 30 _ _ rfl (w.heap.size + 1) 0 c.cells.toArray rfl rfl (there9 T2.out) (by kernel_rfl) (bx_one c) ?_
    go_wp2_with (fail)
    exact bodyPost_ret (results_cell_tmp_mid rfl _ _ (w.heap.size + 1) 0 _ _ rfl A.out.1.range Tryz.underlying30 rfl (by kernel_rfl)) rfl (WbA.mk c r rfl (.inl ⟨OK.out, CQ.out⟩) A.out.2.1 A.out.2.2)
  · rw [← boolOf_f ok]
    have NO : Hid (¬ Wok x) := ok
    clear ok
    have A : Hid (_ ∧ _ ∧ _) := wb_ans (c := noneB) T1.out (by have := Z1.out; omega) B1.out (none_own w1.heap.size w1.heap.size w1) Z1.out (Nat.le_refl _)
    go_wp2_with (with_reducible refine halt_at (.store 30 (.tmp 2) (.tmp 7)) rfl ?_)
    unfold Hid
    refine wpList_store_mid rfl 30 _ _ rfl (w.heap.size + 1) 0 noneB.cells.toArray rfl rfl (there9 T1.out) (by kernel_rfl) (bx_one _) ?_
    clear R1 T1 B1 Z1
    go_wp2_with (fail)
    exact bodyPost_ret (results_cell_tmp_mid rfl _ _ (w.heap.size + 1) 0 _ _ rfl A.out.1.range Tryz.underlying30 rfl (by kernel_rfl)) rfl (WbA.mk noneB false rfl (.inr ⟨NO.out, rfl, rfl⟩) A.out.2.1 A.out.2.2)

end Go.Proofs.YtgfbfgiohmdjmaaGreat.Gs

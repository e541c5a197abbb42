import Derived.Test.YtgfbfgiohmdjmaaGreatM1
import Derived.Test.YtgfbfgiohmdjmaaGreatGokE
import Derived.Test.YtgfbfgiohmdjmaaGreatGok2

/- A struct of many cells is loaded behind a test that is so: over no program. -/
namespace Go.Proofs.YtgfbfgiohmdjmaaGreat.Book
open Go.ChangeShapes Go.WideShapes Go.ChangeAt Go.RowKit
open Aid

theorem wpList_load_wanted {Pr : Program} {ops : Array Oper} {rest : List Oper} {op : Oper} {a : Act} {w : World} {Q : Exit → Act → World → Prop} (hw : Region.wanted op (yielded ops a.tmps) = true) (ty : TypeId) (x : Operand) (ho : op.op = .load ty x)
    (b o : Nat) (hx : a.eval x = .pointer (some ⟨b, o, none⟩)) (cs : List Value) (d : TypeDesc) (hc : w.rangeAt b o cs)
    (hu : Pr.underlying ty = some d) (hd : d.isRow = true) (hi : (Pr.info? ty).map (·.size) = some cs.length)
    (h : wpList Pr ops Q rest (a.put op.dst (.agg cs.toArray)) w) : wpList Pr ops Q (op :: rest) a w :=
  BigFrame.wpList_want hw fun _ hK => wp_load_mid ty x ho b o hx cs d hc hu hd hi (hK _ _ h)

end Go.Proofs.YtgfbfgiohmdjmaaGreat.Book
/- When a guest is ok, as the specification says it. Conditions: none. -/
namespace Go.Proofs.YtgfbfgiohmdjmaaGreat.Gs
open Go.ChangeShapes Go.WideShapes Go.ChangeAt Go.RowKit
open Aid Lst Plat
open Book (Sx)
set_option maxRecDepth 100000
set_option linter.unusedVariables false

set_option maxHeartbeats 16000000 in
theorem sgok_any (s p l : Int) (g : Gx) (w : World) :
    Calls Tryz.prog 33 #[.agg #[.int .i64 s, .int .i64 p, .int .i64 l], .agg g.cells.toArray] w fun e w' => e = .returned (.bool (boolOf (Gok s p l g))) ∧ Below w.heap.size w w' := by
  have E := Eg.start w s p l g 62 68
  have q0 := at0 E.c 0 (v := .int .i64 s) rfl
  have q1 := at0 E.c 1 (v := .int .i64 p) rfl
  have q2 := at0 E.c 2 (v := .int .i64 l) rfl
  have c_busy := at0 E.r 3 (v := .bool g.busy) rfl
  have c_pc := at0 E.r 8 (v := .int .i64 g.pc) rfl
  have c_os := at0 E.r 5 (v := .int .i64 g.os) rfl
  have c_slot := at0 E.r 1 (v := .int .i64 g.slot) rfl
  have HE : Hid (Eg w s p l g _) := E
  clear E
  go_enter Tryz.func33, Tryz.ntmps33
  go_wp2_with (fail)
  generalize ((w.alloc (.cells #[.int .i64 s, .int .i64 p, .int .i64 l] 62)).alloc (.cells g.cells.toArray 68)) = W at HE ⊢
  clear c_busy c_pc c_os c_slot q0 q1 q2
  refine (sok_any s p l W).mono ?_
  rintro e w1 ⟨rfl, hb⟩
  have HE1 : Hid (Eg w s p l g w1) := HE.out.later hb
  clear HE hb
  cases hok : okB s p l
  case false =>
    have H : Hid (¬ Gok s p l g) := fun h => by have k : okB s p l = true := h.1; rw [hok] at k; cases k
    clear hok
    go_wp2_with (fail)
    go_ret
    exact ⟨ret_bool (boolOf_f H.out), HE1.out.b⟩
  have K := okB_of hok
  cases hz : g.busy
  · have hbz : Hid (g.busy = false) := hz
    by_cases hp : 0 ≤ g.pc ∧ g.pc ≤ 0
    · have t0 : (g.pc == 0) = true := by simp; omega
      by_cases hs : g.slot ≤ g.os ∧ g.os ≤ g.slot
      · have t1 : (g.os != g.slot) = false := by simp; omega
        clear hz
        have HP : Hid (Placed g) := ⟨by rw [hbz.out]; simp; omega, .inl hbz.out⟩
        have c_busy : w1.cell? ⟨w.heap.size + 1, 3, none⟩ = some (.bool false) := by rw [← hbz.out]; exact HE1.out.r 3 _ rfl
        have c_pc := at0 HE1.out.r 8 (v := .int .i64 g.pc) rfl
        have c_os := at0 HE1.out.r 5 (v := .int .i64 g.os) rfl
        have c_slot := at0 HE1.out.r 1 (v := .int .i64 g.slot) rfl
        have q0 := at0 HE1.out.c 0 (v := .int .i64 s) rfl
        have q1 := at0 HE1.out.c 1 (v := .int .i64 p) rfl
        have q2 := at0 HE1.out.c 2 (v := .int .i64 l) rfl
        have HR : Hid (World.rangeAt w1 (w.heap.size + 1) 0 g.cells) := HE1.out.r
        have HOK : Hid (okB s p l = true) := hok
        clear hok
        go_wp2_with (refine wpList_load_mid rfl 68 _ rfl (w.heap.size + 1) 0 rfl g.cells _ HR.out Tryz.underlying68 rfl (by kernel_rfl) ?_)
        refine (sfields_any s p l g w1 K).mono ?_
        rintro e w2 ⟨rfl, hb⟩
        have HE2 : Hid (Eg w s p l g w2) := HE1.out.later hb
        clear hb c_busy c_pc c_os c_slot q0 q1 q2 HE1 HR
        by_cases hf : Fields s p g
        case neg =>
          rw [← boolOf_f hf]
          have H : Hid (¬ Gok s p l g) := fun h => hf h.2.2.1
          clear hf
          go_wp2_with (fail)
          go_ret
          exact ⟨ret_bool (boolOf_f H.out), HE2.out.b⟩
        rw [← boolOf_t hf]
        have HF : Hid (Fields s p g) := hf
        clear hf
        have q0 := at0 HE2.out.c 0 (v := .int .i64 s) rfl
        have q1 := at0 HE2.out.c 1 (v := .int .i64 p) rfl
        have q2 := at0 HE2.out.c 2 (v := .int .i64 l) rfl
        have HR : Hid (World.rangeAt w2 (w.heap.size + 1) 0 g.cells) := HE2.out.r
        go_wp2_with (refine Book.wpList_load_wanted (by rfl) 68 _ rfl (w.heap.size + 1) 0 rfl g.cells _ HR.out Tryz.underlying68 rfl (by kernel_rfl) ?_)
        refine (splace_any s p l g w2 K).mono ?_
        rintro e w3 ⟨rfl, hb⟩
        have HE3 : Hid (Eg w s p l g w3) := HE2.out.later hb
        clear hb q0 q1 q2 HE2 HR
        have HG : Hid (boolOf (Place s p g) = boolOf (Gok s p l g)) := by
          show boolOf (Place s p g) = boolOf (Gok s p l g)
          by_cases hp : Place s p g
          · rw [← boolOf_t hp, ← boolOf_t (show Gok s p l g from ⟨HOK.out, HP.out, HF.out, hp⟩)]
          · rw [← boolOf_f hp, ← boolOf_f (fun h : Gok s p l g => hp h.2.2.2)]
        go_wp2_with (fail)
        go_ret
        exact ⟨ret_bool HG.out, HE3.out.b⟩
      · have t1 : (g.os != g.slot) = true := by simp; omega
        clear hz
        have HP : Hid (Placed g) := ⟨by rw [hbz.out]; simp; omega, .inl hbz.out⟩
        have c_busy : w1.cell? ⟨w.heap.size + 1, 3, none⟩ = some (.bool false) := by rw [← hbz.out]; exact HE1.out.r 3 _ rfl
        have c_pc := at0 HE1.out.r 8 (v := .int .i64 g.pc) rfl
        have c_os := at0 HE1.out.r 5 (v := .int .i64 g.os) rfl
        have c_slot := at0 HE1.out.r 1 (v := .int .i64 g.slot) rfl
        have q0 := at0 HE1.out.c 0 (v := .int .i64 s) rfl
        have q1 := at0 HE1.out.c 1 (v := .int .i64 p) rfl
        have q2 := at0 HE1.out.c 2 (v := .int .i64 l) rfl
        have HR : Hid (World.rangeAt w1 (w.heap.size + 1) 0 g.cells) := HE1.out.r
        have HOK : Hid (okB s p l = true) := hok
        clear hok
        go_wp2_with (refine wpList_load_mid rfl 68 _ rfl (w.heap.size + 1) 0 rfl g.cells _ HR.out Tryz.underlying68 rfl (by kernel_rfl) ?_)
        refine (sfields_any s p l g w1 K).mono ?_
        rintro e w2 ⟨rfl, hb⟩
        have HE2 : Hid (Eg w s p l g w2) := HE1.out.later hb
        clear hb c_busy c_pc c_os c_slot q0 q1 q2 HE1 HR
        by_cases hf : Fields s p g
        case neg =>
          rw [← boolOf_f hf]
          have H : Hid (¬ Gok s p l g) := fun h => hf h.2.2.1
          clear hf
          go_wp2_with (fail)
          go_ret
          exact ⟨ret_bool (boolOf_f H.out), HE2.out.b⟩
        rw [← boolOf_t hf]
        have HF : Hid (Fields s p g) := hf
        clear hf
        have q0 := at0 HE2.out.c 0 (v := .int .i64 s) rfl
        have q1 := at0 HE2.out.c 1 (v := .int .i64 p) rfl
        have q2 := at0 HE2.out.c 2 (v := .int .i64 l) rfl
        have HR : Hid (World.rangeAt w2 (w.heap.size + 1) 0 g.cells) := HE2.out.r
        go_wp2_with (refine Book.wpList_load_wanted (by rfl) 68 _ rfl (w.heap.size + 1) 0 rfl g.cells _ HR.out Tryz.underlying68 rfl (by kernel_rfl) ?_)
        refine (splace_any s p l g w2 K).mono ?_
        rintro e w3 ⟨rfl, hb⟩
        have HE3 : Hid (Eg w s p l g w3) := HE2.out.later hb
        clear hb q0 q1 q2 HE2 HR
        have HG : Hid (boolOf (Place s p g) = boolOf (Gok s p l g)) := by
          show boolOf (Place s p g) = boolOf (Gok s p l g)
          by_cases hp : Place s p g
          · rw [← boolOf_t hp, ← boolOf_t (show Gok s p l g from ⟨HOK.out, HP.out, HF.out, hp⟩)]
          · rw [← boolOf_f hp, ← boolOf_f (fun h : Gok s p l g => hp h.2.2.2)]
        go_wp2_with (fail)
        go_ret
        exact ⟨ret_bool HG.out, HE3.out.b⟩
    · have t0 : (g.pc == 0) = false := by simp; omega
      clear hz
      have H : Hid (¬ Gok s p l g) := fun h => by
        have k := h.2.1.1.2 (by omega)
        rw [hbz.out] at k
        cases k
      have c_busy : w1.cell? ⟨w.heap.size + 1, 3, none⟩ = some (.bool false) := by rw [← hbz.out]; exact HE1.out.r 3 _ rfl
      have c_pc := at0 HE1.out.r 8 (v := .int .i64 g.pc) rfl
      have c_os := at0 HE1.out.r 5 (v := .int .i64 g.os) rfl
      have c_slot := at0 HE1.out.r 1 (v := .int .i64 g.slot) rfl
      clear hok
      go_wp2_with (fail)
      go_ret
      exact ⟨ret_bool (boolOf_f H.out), HE1.out.b⟩
  · have hbz : Hid (g.busy = true) := hz
    by_cases hp : 0 ≤ g.pc ∧ g.pc ≤ 0
    · have t0 : (g.pc == 0) = true := by simp; omega
      clear hz
      have H : Hid (¬ Gok s p l g) := fun h => by
        have k := h.2.1.1.1 hbz.out
        omega
      have c_busy : w1.cell? ⟨w.heap.size + 1, 3, none⟩ = some (.bool true) := by rw [← hbz.out]; exact HE1.out.r 3 _ rfl
      have c_pc := at0 HE1.out.r 8 (v := .int .i64 g.pc) rfl
      have c_os := at0 HE1.out.r 5 (v := .int .i64 g.os) rfl
      have c_slot := at0 HE1.out.r 1 (v := .int .i64 g.slot) rfl
      clear hok
      go_wp2_with (fail)
      go_ret
      exact ⟨ret_bool (boolOf_f H.out), HE1.out.b⟩
    · have t0 : (g.pc == 0) = false := by simp; omega
      by_cases hs : g.slot ≤ g.os ∧ g.os ≤ g.slot
      · have t1 : (g.os != g.slot) = false := by simp; omega
        clear hz
        have HP : Hid (Placed g) := ⟨by rw [hbz.out]; simp; omega, .inr (by omega)⟩
        have c_busy : w1.cell? ⟨w.heap.size + 1, 3, none⟩ = some (.bool true) := by rw [← hbz.out]; exact HE1.out.r 3 _ rfl
        have c_pc := at0 HE1.out.r 8 (v := .int .i64 g.pc) rfl
        have c_os := at0 HE1.out.r 5 (v := .int .i64 g.os) rfl
        have c_slot := at0 HE1.out.r 1 (v := .int .i64 g.slot) rfl
        have q0 := at0 HE1.out.c 0 (v := .int .i64 s) rfl
        have q1 := at0 HE1.out.c 1 (v := .int .i64 p) rfl
        have q2 := at0 HE1.out.c 2 (v := .int .i64 l) rfl
        have HR : Hid (World.rangeAt w1 (w.heap.size + 1) 0 g.cells) := HE1.out.r
        have HOK : Hid (okB s p l = true) := hok
        clear hok
        go_wp2_with (refine wpList_load_mid rfl 68 _ rfl (w.heap.size + 1) 0 rfl g.cells _ HR.out Tryz.underlying68 rfl (by kernel_rfl) ?_)
        refine (sfields_any s p l g w1 K).mono ?_
        rintro e w2 ⟨rfl, hb⟩
        have HE2 : Hid (Eg w s p l g w2) := HE1.out.later hb
        clear hb c_busy c_pc c_os c_slot q0 q1 q2 HE1 HR
        by_cases hf : Fields s p g
        case neg =>
          rw [← boolOf_f hf]
          have H : Hid (¬ Gok s p l g) := fun h => hf h.2.2.1
          clear hf
          go_wp2_with (fail)
          go_ret
          exact ⟨ret_bool (boolOf_f H.out), HE2.out.b⟩
        rw [← boolOf_t hf]
        have HF : Hid (Fields s p g) := hf
        clear hf
        have q0 := at0 HE2.out.c 0 (v := .int .i64 s) rfl
        have q1 := at0 HE2.out.c 1 (v := .int .i64 p) rfl
        have q2 := at0 HE2.out.c 2 (v := .int .i64 l) rfl
        have HR : Hid (World.rangeAt w2 (w.heap.size + 1) 0 g.cells) := HE2.out.r
        go_wp2_with (refine Book.wpList_load_wanted (by rfl) 68 _ rfl (w.heap.size + 1) 0 rfl g.cells _ HR.out Tryz.underlying68 rfl (by kernel_rfl) ?_)
        refine (splace_any s p l g w2 K).mono ?_
        rintro e w3 ⟨rfl, hb⟩
        have HE3 : Hid (Eg w s p l g w3) := HE2.out.later hb
        clear hb q0 q1 q2 HE2 HR
        have HG : Hid (boolOf (Place s p g) = boolOf (Gok s p l g)) := by
          show boolOf (Place s p g) = boolOf (Gok s p l g)
          by_cases hp : Place s p g
          · rw [← boolOf_t hp, ← boolOf_t (show Gok s p l g from ⟨HOK.out, HP.out, HF.out, hp⟩)]
          · rw [← boolOf_f hp, ← boolOf_f (fun h : Gok s p l g => hp h.2.2.2)]
        go_wp2_with (fail)
        go_ret
        exact ⟨ret_bool HG.out, HE3.out.b⟩
      · have t1 : (g.os != g.slot) = true := by simp; omega
        clear hz
        have H : Hid (¬ Gok s p l g) := fun h => by
          rcases h.2.1.2 with k | k
          · rw [hbz.out] at k; cases k
          · omega
        have c_busy : w1.cell? ⟨w.heap.size + 1, 3, none⟩ = some (.bool true) := by rw [← hbz.out]; exact HE1.out.r 3 _ rfl
        have c_pc := at0 HE1.out.r 8 (v := .int .i64 g.pc) rfl
        have c_os := at0 HE1.out.r 5 (v := .int .i64 g.os) rfl
        have c_slot := at0 HE1.out.r 1 (v := .int .i64 g.slot) rfl
        clear hok
        go_wp2_with (fail)
        go_ret
        exact ⟨ret_bool (boolOf_f H.out), HE1.out.b⟩

end Go.Proofs.YtgfbfgiohmdjmaaGreat.Gs

import Derived.Test.YtgfbfgiohmdjmaaGreatGok4
import Derived.Test.YtgfbfgiohmdjmaaGreatM7
import Derived.Test.YtgfbfgiohmdjmaaGreatM1
import Derived.Defers
import Derived.Recover
import Derived.Laws.Panics

/- When a guest is ok, as the program says it. Conditions: none. -/
namespace Go.Proofs.YtgfbfgiohmdjmaaGreat.Gs
open Go.ChangeShapes Go.WideShapes Go.ChangeAt Go.RowKit
open Aid Lst Plat
open Book (Sx)
set_option maxRecDepth 100000
set_option linter.unusedVariables false

/- A layout has been stored: a house, a guest and it lie in structs of the call's own. -/
structure Em (w : World) (s p l : Int) (g : Gx) (L : List Int) (v : Nat) (W : World) : Prop where
  e : Eg w s p l g W
  r : W.rangeAt v 0 (ints L)
  lt : v < W.heap.size
theorem Em.later {w W W1 : World} {s p l : Int} {g : Gx} {L : List Int} {v : Nat} (h : Em w s p l g L v W) (hb : Below W.heap.size W W1) : Em w s p l g L v W1 :=
  ⟨h.e.later hb, range_below hb h.r h.lt, Nat.lt_of_lt_of_le h.lt hb.size⟩
theorem Em.start {w W : World} {s p l : Int} {g : Gx} (L : List Int) (hL : L.length = 25) (h : Eg w s p l g W) (t : TypeId) :
    (W.alloc (.cells #[.int .i64 0, .int .i64 0, .int .i64 0, .int .i64 0, .int .i64 0, .int .i64 0, .int .i64 0, .int .i64 0, .int .i64 0, .int .i64 0, .int .i64 0, .int .i64 0, .int .i64 0, .int .i64 0, .int .i64 0, .int .i64 0, .int .i64 0, .int .i64 0, .int .i64 0, .int .i64 0, .int .i64 0, .int .i64 0, .int .i64 0, .int .i64 0, .int .i64 0] t)).there W.heap.size 0 25 ∧ Em w s p l g L W.heap.size ((W.alloc (.cells #[.int .i64 0, .int .i64 0, .int .i64 0, .int .i64 0, .int .i64 0, .int .i64 0, .int .i64 0, .int .i64 0, .int .i64 0, .int .i64 0, .int .i64 0, .int .i64 0, .int .i64 0, .int .i64 0, .int .i64 0, .int .i64 0, .int .i64 0, .int .i64 0, .int .i64 0, .int .i64 0, .int .i64 0, .int .i64 0, .int .i64 0, .int .i64 0, .int .i64 0] t)).setCells W.heap.size 0 (ints L).toArray.toList) := by
  have th : (W.alloc (.cells #[.int .i64 0, .int .i64 0, .int .i64 0, .int .i64 0, .int .i64 0, .int .i64 0, .int .i64 0, .int .i64 0, .int .i64 0, .int .i64 0, .int .i64 0, .int .i64 0, .int .i64 0, .int .i64 0, .int .i64 0, .int .i64 0, .int .i64 0, .int .i64 0, .int .i64 0, .int .i64 0, .int .i64 0, .int .i64 0, .int .i64 0, .int .i64 0, .int .i64 0] t)).there W.heap.size 0 25 := there_new W #[.int .i64 0, .int .i64 0, .int .i64 0, .int .i64 0, .int .i64 0, .int .i64 0, .int .i64 0, .int .i64 0, .int .i64 0, .int .i64 0, .int .i64 0, .int .i64 0, .int .i64 0, .int .i64 0, .int .i64 0, .int .i64 0, .int .i64 0, .int .i64 0, .int .i64 0, .int .i64 0, .int .i64 0, .int .i64 0, .int .i64 0, .int .i64 0, .int .i64 0] t 25 rfl
  have hb : Below W.heap.size W ((W.alloc (.cells #[.int .i64 0, .int .i64 0, .int .i64 0, .int .i64 0, .int .i64 0, .int .i64 0, .int .i64 0, .int .i64 0, .int .i64 0, .int .i64 0, .int .i64 0, .int .i64 0, .int .i64 0, .int .i64 0, .int .i64 0, .int .i64 0, .int .i64 0, .int .i64 0, .int .i64 0, .int .i64 0, .int .i64 0, .int .i64 0, .int .i64 0, .int .i64 0, .int .i64 0] t)).setCells W.heap.size 0 (ints L).toArray.toList) := below_setCells (below1 W _) (Nat.le_refl _) _ _
  refine ⟨th, h.later hb, ?_, by rw [setCells_size]; simp⟩
  have g2 : (ints L).toArray.toList.length = 25 := by simp [ints, hL]
  exact World.rangeAt_setCells_same _ _ _ _ (by rw [g2]; exact th)

set_option maxHeartbeats 16000000 in
theorem gok_any (s p l : Int) (g : Gx) (w : World) :
    Calls Tryz.prog 38 #[.agg #[.int .i64 s, .int .i64 p, .int .i64 l], .agg g.cells.toArray] w fun e w' => e = .returned (.bool (boolOf (Gok s p l g))) ∧ Below w.heap.size w w' := by
  have E := Eg.start w s p l g 62 68
  have q0 := at0 E.c 0 (v := .int .i64 s) rfl
  have q1 := at0 E.c 1 (v := .int .i64 p) rfl
  have q2 := at0 E.c 2 (v := .int .i64 l) rfl
  have HE : Hid (Eg w s p l g _) := E
  clear E
  go_enter Tryz.func38, Tryz.ntmps38
  go_wp2_with (fail)
  generalize ((w.alloc (.cells #[.int .i64 s, .int .i64 p, .int .i64 l] 62)).alloc (.cells g.cells.toArray 68)) = W at HE ⊢
  clear q0 q1 q2
  obtain ⟨L, hL, HL⟩ : ∃ L : List Int, L.length = 25 ∧ (okB s p l = true → L = layL s p) ∧ Calls Tryz.prog 62 #[.agg #[.int .i64 s, .int .i64 p, .int .i64 l]] W fun e w' => e = .returned (.agg (ints L).toArray) ∧ Below W.heap.size W w' := by
    cases hok : okB s p l
    · exact ⟨zeroL, rep_len, (fun h => by cases h), lay_bad s p l W hok⟩
    · exact ⟨layL s p, layL_len s p, fun _ => rfl, lay_ok s p l W hok⟩
  refine HL.2.mono ?_
  have HLL : Hid (okB s p l = true → L = layL s p) := HL.1
  clear HL
  rintro e w1 ⟨rfl, hb⟩
  have HE1 : Hid (Eg w s p l g w1) := HE.out.later hb
  clear HE hb
  obtain ⟨th, em⟩ := Em.start L hL HE1.out 86
  have HT : Hid (World.there _ w1.heap.size 0 25) := th
  have HM : Hid (Em w s p l g L w1.heap.size _) := em
  have il : (ints L).toArray.size = 25 := by simp [ints, hL]
  have HIL : Hid ((ints L).toArray.size = 25) := il
  clear th em HE1 il
  go_wp2_with (with_reducible refine halt_at (.store 86 (.tmp 5) (.tmp 8)) rfl ?_)
  unfold Hid
  refine wpList_store_mid rfl 86 _ _ rfl w1.heap.size 0 (ints L).toArray rfl rfl (by rw [HIL.out]; exact HT.out) (by rw [HIL.out]; kernel_rfl) (ints_one _) ?_
  generalize World.setCells _ _ _ _ = w2 at HM ⊢
  generalize w1.heap.size = v at HM ⊢
  clear HT HIL
  cases hz : g.busy
  · have hbz : Hid (g.busy = false) := hz
    clear hz
    by_cases hp : 0 ≤ g.pc ∧ g.pc ≤ 0
    · have t0 : (g.pc != 0) = false := by simp; omega
      have c_busy : w2.cell? ⟨w.heap.size + 1, 3, none⟩ = some (.bool false) := by rw [← hbz.out]; exact HM.out.e.r 3 _ rfl
      have c_pc := at0 HM.out.e.r 8 (v := .int .i64 g.pc) rfl
      have c_os := at0 HM.out.e.r 5 (v := .int .i64 g.os) rfl
      have c_slot := at0 HM.out.e.r 1 (v := .int .i64 g.slot) rfl
      have q0 := at0 HM.out.e.c 0 (v := .int .i64 s) rfl
      have q1 := at0 HM.out.e.c 1 (v := .int .i64 p) rfl
      have q2 := at0 HM.out.e.c 2 (v := .int .i64 l) rfl
      go_wp2_with (fail)
      refine (ok_any s p l w2).mono ?_
      rintro e w3 ⟨rfl, hb⟩
      have HM3 : Hid (Em w s p l g L v w3) := HM.out.later hb
      clear hb HM c_busy c_pc c_os c_slot q0 q1 q2
      cases hok : okB s p l
      case false =>
        have H : Hid (¬ Gok s p l g) := fun h => by have k : okB s p l = true := h.1; rw [hok] at k; cases k
        clear hok
        go_wp2_with (fail)
        go_ret
        exact ⟨ret_bool (boolOf_f H.out), HM3.out.e.b⟩
      have K := okB_of hok
      have HOK : Hid (okB s p l = true) := hok
      have HP : Hid (Placed g) := ⟨by rw [hbz.out]; simp; omega, .inl hbz.out⟩
      have eL : L = layL s p := HLL.out hok
      subst eL
      clear hok
      have HLE : Hid ((layL s p).length = 25) := hL
      have HRL : Hid (World.rangeAt w3 v 0 (ints (layL s p))) := HM3.out.r
      have HR : Hid (World.rangeAt w3 (w.heap.size + 1) 0 g.cells) := HM3.out.e.r
      go_wp2_with (first | (refine Book.wpList_load_wanted (by rfl) 86 _ rfl v 0 rfl (ints (layL s p)) _ HRL.out Tryz.underlying86 rfl (by rw [ints_len, HLE.out]; kernel_rfl) ?_) | (refine Book.wpList_load_wanted (by rfl) 68 _ rfl (w.heap.size + 1) 0 rfl g.cells _ HR.out Tryz.underlying68 rfl (by kernel_rfl) ?_))
      refine (fits_any s p g w3 (by omega)).mono ?_
      rintro e w4 ⟨rfl, hb⟩
      have HM4 : Hid (Em w s p l g (layL s p) v w4) := HM3.out.later hb
      clear hb HM3 HRL HR
      by_cases hf : Fields s p g
      case neg =>
        rw [← boolOf_f hf]
        have H : Hid (¬ Gok s p l g) := fun h => hf h.2.2.1
        clear hf
        go_wp2_with (fail)
        go_ret
        exact ⟨ret_bool (boolOf_f H.out), HM4.out.e.b⟩
      rw [← boolOf_t hf]
      have hw0 : 0 ≤ g.who := hf.2.2.2.2.2.2.2.2.2.2.1
      have HF : Hid (Fields s p g) := hf
      clear hf
      have HRL : Hid (World.rangeAt w4 v 0 (ints (layL s p))) := HM4.out.r
      have HR : Hid (World.rangeAt w4 (w.heap.size + 1) 0 g.cells) := HM4.out.e.r
      go_wp2_with (first | (refine Book.wpList_load_wanted (by rfl) 86 _ rfl v 0 rfl (ints (layL s p)) _ HRL.out Tryz.underlying86 rfl (by rw [ints_len, HLE.out]; kernel_rfl) ?_) | (refine Book.wpList_load_wanted (by rfl) 68 _ rfl (w.heap.size + 1) 0 rfl g.cells _ HR.out Tryz.underlying68 rfl (by kernel_rfl) ?_))
      refine (stands_any s p g w4 (by omega) hw0).mono ?_
      rintro e w5 ⟨rfl, hb⟩
      have HM5 : Hid (Em w s p l g (layL s p) v w5) := HM4.out.later hb
      clear hb HM4 HRL HR
      have HG : Hid (boolOf (Place s p g) = boolOf (Gok s p l g)) := by
        show boolOf (Place s p g) = boolOf (Gok s p l g)
        by_cases hp : Place s p g
        · rw [← boolOf_t hp, ← boolOf_t (show Gok s p l g from ⟨HOK.out, HP.out, HF.out, hp⟩)]
        · rw [← boolOf_f hp, ← boolOf_f (fun h : Gok s p l g => hp h.2.2.2)]
      go_wp2_with (fail)
      go_ret
      exact ⟨ret_bool HG.out, HM5.out.e.b⟩
    · have t0 : (g.pc != 0) = true := by simp; omega
      have c_busy : w2.cell? ⟨w.heap.size + 1, 3, none⟩ = some (.bool false) := by rw [← hbz.out]; exact HM.out.e.r 3 _ rfl
      have c_pc := at0 HM.out.e.r 8 (v := .int .i64 g.pc) rfl
      have c_os := at0 HM.out.e.r 5 (v := .int .i64 g.os) rfl
      have c_slot := at0 HM.out.e.r 1 (v := .int .i64 g.slot) rfl
      have q0 := at0 HM.out.e.c 0 (v := .int .i64 s) rfl
      have q1 := at0 HM.out.e.c 1 (v := .int .i64 p) rfl
      have q2 := at0 HM.out.e.c 2 (v := .int .i64 l) rfl
      go_wp2_with (fail)
      refine (ok_any s p l w2).mono ?_
      rintro e w3 ⟨rfl, hb⟩
      have HM3 : Hid (Em w s p l g L v w3) := HM.out.later hb
      clear hb HM c_busy c_pc c_os c_slot q0 q1 q2
      cases hok : okB s p l
      case false =>
        have H : Hid (¬ Gok s p l g) := fun h => by have k : okB s p l = true := h.1; rw [hok] at k; cases k
        clear hok
        go_wp2_with (fail)
        go_ret
        exact ⟨ret_bool (boolOf_f H.out), HM3.out.e.b⟩
      have H : Hid (¬ Gok s p l g) := fun h => by
        have k := h.2.1.1.2 (by omega)
        rw [hbz.out] at k
        cases k
      clear hok
      go_wp2_with (fail)
      go_ret
      exact ⟨ret_bool (boolOf_f H.out), HM3.out.e.b⟩
  · have hbz : Hid (g.busy = true) := hz
    clear hz
    by_cases hp : 0 ≤ g.pc ∧ g.pc ≤ 0
    · have t0 : (g.pc != 0) = false := by simp; omega
      have c_busy : w2.cell? ⟨w.heap.size + 1, 3, none⟩ = some (.bool true) := by rw [← hbz.out]; exact HM.out.e.r 3 _ rfl
      have c_pc := at0 HM.out.e.r 8 (v := .int .i64 g.pc) rfl
      have c_os := at0 HM.out.e.r 5 (v := .int .i64 g.os) rfl
      have c_slot := at0 HM.out.e.r 1 (v := .int .i64 g.slot) rfl
      have q0 := at0 HM.out.e.c 0 (v := .int .i64 s) rfl
      have q1 := at0 HM.out.e.c 1 (v := .int .i64 p) rfl
      have q2 := at0 HM.out.e.c 2 (v := .int .i64 l) rfl
      go_wp2_with (fail)
      refine (ok_any s p l w2).mono ?_
      rintro e w3 ⟨rfl, hb⟩
      have HM3 : Hid (Em w s p l g L v w3) := HM.out.later hb
      clear hb HM c_busy c_pc c_os c_slot q0 q1 q2
      cases hok : okB s p l
      case false =>
        have H : Hid (¬ Gok s p l g) := fun h => by have k : okB s p l = true := h.1; rw [hok] at k; cases k
        clear hok
        go_wp2_with (fail)
        go_ret
        exact ⟨ret_bool (boolOf_f H.out), HM3.out.e.b⟩
      have H : Hid (¬ Gok s p l g) := fun h => by
        have k := h.2.1.1.1 hbz.out
        omega
      clear hok
      go_wp2_with (fail)
      go_ret
      exact ⟨ret_bool (boolOf_f H.out), HM3.out.e.b⟩
    · have t0 : (g.pc != 0) = true := by simp; omega
      by_cases hs : g.slot ≤ g.os ∧ g.os ≤ g.slot
      · have t1 : (g.os == g.slot) = true := by simp; omega
        have c_busy : w2.cell? ⟨w.heap.size + 1, 3, none⟩ = some (.bool true) := by rw [← hbz.out]; exact HM.out.e.r 3 _ rfl
        have c_pc := at0 HM.out.e.r 8 (v := .int .i64 g.pc) rfl
        have c_os := at0 HM.out.e.r 5 (v := .int .i64 g.os) rfl
        have c_slot := at0 HM.out.e.r 1 (v := .int .i64 g.slot) rfl
        have q0 := at0 HM.out.e.c 0 (v := .int .i64 s) rfl
        have q1 := at0 HM.out.e.c 1 (v := .int .i64 p) rfl
        have q2 := at0 HM.out.e.c 2 (v := .int .i64 l) rfl
        go_wp2_with (fail)
        refine (ok_any s p l w2).mono ?_
        rintro e w3 ⟨rfl, hb⟩
        have HM3 : Hid (Em w s p l g L v w3) := HM.out.later hb
        clear hb HM c_busy c_pc c_os c_slot q0 q1 q2
        cases hok : okB s p l
        case false =>
          have H : Hid (¬ Gok s p l g) := fun h => by have k : okB s p l = true := h.1; rw [hok] at k; cases k
          clear hok
          go_wp2_with (fail)
          go_ret
          exact ⟨ret_bool (boolOf_f H.out), HM3.out.e.b⟩
        have K := okB_of hok
        have HOK : Hid (okB s p l = true) := hok
        have HP : Hid (Placed g) := ⟨by rw [hbz.out]; simp; omega, .inr (by omega)⟩
        have eL : L = layL s p := HLL.out hok
        subst eL
        clear hok
        have HLE : Hid ((layL s p).length = 25) := hL
        have HRL : Hid (World.rangeAt w3 v 0 (ints (layL s p))) := HM3.out.r
        have HR : Hid (World.rangeAt w3 (w.heap.size + 1) 0 g.cells) := HM3.out.e.r
        go_wp2_with (first | (refine Book.wpList_load_wanted (by rfl) 86 _ rfl v 0 rfl (ints (layL s p)) _ HRL.out Tryz.underlying86 rfl (by rw [ints_len, HLE.out]; kernel_rfl) ?_) | (refine Book.wpList_load_wanted (by rfl) 68 _ rfl (w.heap.size + 1) 0 rfl g.cells _ HR.out Tryz.underlying68 rfl (by kernel_rfl) ?_))
        refine (fits_any s p g w3 (by omega)).mono ?_
        rintro e w4 ⟨rfl, hb⟩
        have HM4 : Hid (Em w s p l g (layL s p) v w4) := HM3.out.later hb
        clear hb HM3 HRL HR
        by_cases hf : Fields s p g
        case neg =>
          rw [← boolOf_f hf]
          have H : Hid (¬ Gok s p l g) := fun h => hf h.2.2.1
          clear hf
          go_wp2_with (fail)
          go_ret
          exact ⟨ret_bool (boolOf_f H.out), HM4.out.e.b⟩
        rw [← boolOf_t hf]
        have hw0 : 0 ≤ g.who := hf.2.2.2.2.2.2.2.2.2.2.1
        have HF : Hid (Fields s p g) := hf
        clear hf
        have HRL : Hid (World.rangeAt w4 v 0 (ints (layL s p))) := HM4.out.r
        have HR : Hid (World.rangeAt w4 (w.heap.size + 1) 0 g.cells) := HM4.out.e.r
        go_wp2_with (first | (refine Book.wpList_load_wanted (by rfl) 86 _ rfl v 0 rfl (ints (layL s p)) _ HRL.out Tryz.underlying86 rfl (by rw [ints_len, HLE.out]; kernel_rfl) ?_) | (refine Book.wpList_load_wanted (by rfl) 68 _ rfl (w.heap.size + 1) 0 rfl g.cells _ HR.out Tryz.underlying68 rfl (by kernel_rfl) ?_))
        refine (stands_any s p g w4 (by omega) hw0).mono ?_
        rintro e w5 ⟨rfl, hb⟩
        have HM5 : Hid (Em w s p l g (layL s p) v w5) := HM4.out.later hb
        clear hb HM4 HRL HR
        have HG : Hid (boolOf (Place s p g) = boolOf (Gok s p l g)) := by
          show boolOf (Place s p g) = boolOf (Gok s p l g)
          by_cases hp : Place s p g
          · rw [← boolOf_t hp, ← boolOf_t (show Gok s p l g from ⟨HOK.out, HP.out, HF.out, hp⟩)]
          · rw [← boolOf_f hp, ← boolOf_f (fun h : Gok s p l g => hp h.2.2.2)]
        go_wp2_with (fail)
        go_ret
        exact ⟨ret_bool HG.out, HM5.out.e.b⟩
      · have t1 : (g.os == g.slot) = false := by simp; omega
        have c_busy : w2.cell? ⟨w.heap.size + 1, 3, none⟩ = some (.bool true) := by rw [← hbz.out]; exact HM.out.e.r 3 _ rfl
        have c_pc := at0 HM.out.e.r 8 (v := .int .i64 g.pc) rfl
        have c_os := at0 HM.out.e.r 5 (v := .int .i64 g.os) rfl
        have c_slot := at0 HM.out.e.r 1 (v := .int .i64 g.slot) rfl
        have q0 := at0 HM.out.e.c 0 (v := .int .i64 s) rfl
        have q1 := at0 HM.out.e.c 1 (v := .int .i64 p) rfl
        have q2 := at0 HM.out.e.c 2 (v := .int .i64 l) rfl
        go_wp2_with (fail)
        refine (ok_any s p l w2).mono ?_
        rintro e w3 ⟨rfl, hb⟩
        have HM3 : Hid (Em w s p l g L v w3) := HM.out.later hb
        clear hb HM c_busy c_pc c_os c_slot q0 q1 q2
        cases hok : okB s p l
        case false =>
          have H : Hid (¬ Gok s p l g) := fun h => by have k : okB s p l = true := h.1; rw [hok] at k; cases k
          clear hok
          go_wp2_with (fail)
          go_ret
          exact ⟨ret_bool (boolOf_f H.out), HM3.out.e.b⟩
        have H : Hid (¬ Gok s p l g) := fun h => by
          rcases h.2.1.2 with k | k
          · rw [hbz.out] at k; cases k
          · omega
        clear hok
        go_wp2_with (fail)
        go_ret
        exact ⟨ret_bool (boolOf_f H.out), HM3.out.e.b⟩

end Go.Proofs.YtgfbfgiohmdjmaaGreat.Gs
/- One word is sought: the program's way by a recovered panic, and the specification's. Conditions: none. -/
namespace Go.Proofs.YtgfbfgiohmdjmaaGreat.Plat
open Go.ChangeShapes Go.WideShapes Go.ChangeAt Go.RowKit
open Aid Lst

set_option maxRecDepth 100000 in
theorem seek_caught (p q : Addr) (x : Int) (y : Bool) (u : TypeId) (pv : Value) (older : List PanicEntry) (w : World) (hne : p ≠ q) (hc : w.cell? p = some (.int .u64 x)) (hz : w.frozen? p = false) (hd : w.cell? q = some (.bool y)) (hy : w.frozen? q = false) :
    CallsD Tryz.prog 124 #[.pointer (some p), .pointer (some q)] (.panicking ({ v := .iface u pv, recovered := false } :: older)) w fun e u' w' =>
      e = .returned (.tuple #[]) ∧ u' = .panicking ({ v := .iface u pv, recovered := true } :: older) ∧ w' = (w.setCell p (.int .u64 0)).setCell q (.bool false) := by
  have hd' : (w.setCell p (.int .u64 0)).cell? q = some (.bool y) := by rw [World.cell?_setCell_other _ _ _ _ hne]; exact hd
  refine callsD_of_wpS Tryz.func124 rfl fun c₀ cs hu => ?_
  apply wpS_seq
  apply wpS_region
  simp [wpOpsS, go_sem, recoverD, hu, Tryz.ntmps124, Exit.thenS]
  refine wpS_cond (t := true) (by simp [Act.eval, Array.replicate]) ?_
  simp only [if_true]
  apply wpS_region
  simp [wpOpsS, go_sem, hc, hz, hd', hy, bodyPostS, results, Tryz.results124]

set_option maxRecDepth 100000 in
theorem seek_idle (p q : Addr) (w : World) :
    CallsD Tryz.prog 124 #[.pointer (some p), .pointer (some q)] .returning w fun e u' w' => e = .returned (.tuple #[]) ∧ u' = .returning ∧ w' = w := by
  refine callsD_of_wpS Tryz.func124 rfl fun c₀ cs hu => ?_
  apply wpS_seq
  apply wpS_region
  simp [wpOpsS, go_sem, recoverD, hu, Tryz.ntmps124, Exit.thenS]
  refine wpS_cond (t := false) (by simp [Act.eval, Array.replicate]) ?_
  simp only [Bool.false_eq_true, if_false]
  refine wpS_of_wp (wp_skip ?_)
  cases c₀
  simp_all [bodyPostS, results, Tryz.results124]

theorem bounds_out {α : Type} (P : Program) (w : World) (k : IntKind) (x y : Int) (code : BoundsCode) :
    ∃ s q, (boundsPanic k x y code : Sem α).run P w = .halt (.panic (boundsValue P (IntKind.i64.wrap x) y s code.toNat)) (w.drewN q) := by
  unfold boundsPanic boundsValue
  split
  · have h : ∃ s, ((do let signed ← (· == 1) <$> choose (.extern "runtime.boundsError.signed" 2); runtimePanic (.bounds (IntKind.i64.wrap x) y signed code)) : Sem α).run P w = .halt (.panic (.iface P.rt.boundsError (.agg #[.int .i64 (IntKind.i64.wrap x), .int .i64 y, .bool s, .int .u8 code.toNat]))) w.drew := by
      simp [runtimePanic, goPanic, go_sem]
    obtain ⟨s, h⟩ := h
    exact ⟨s, 1, h⟩
  · refine ⟨(k != .u64), 0, ?_⟩
    simp [runtimePanic, goPanic, go_sem]
    rfl

theorem index_out {P : Program} (w : World) (t : TypeId) (a0 : Option Addr) (len cap : Nat) (k : IntKind) (i : Int) (h : P.underlying t = some (.slice (P.elem t))) (hnil : a0 = none → len = 0) (ho : i < 0 ∨ (len : Int) ≤ i) :
    ∃ s q, (Instr.indexAt t (.slice a0 len cap) (.int k i)).run P w = .halt (.panic (boundsValue P (IntKind.i64.wrap i) len s 0)) (w.drewN q) := by
  cases a0 with
  | some a =>
    rw [run_indexAt_slice (h := h), if_neg (by omega)]
    exact bounds_out P w k i len .index
  | none =>
    obtain rfl := hnil rfl
    have e : (Instr.indexAt t (.slice none 0 cap) (.int k i)).run P w = (boundsPanic k i 0 .index).run P w := by
      simp [Instr.indexAt, run_underlying h, asIntOf]
    rw [e]
    exact bounds_out P w k i 0 .index

set_option maxRecDepth 100000 in
theorem seek_out (a : Option Addr) (n cap : Nat) (i : Int) (w : World) (hnil : a = none → n = 0) (h : i < 0 ∨ (n : Int) ≤ i) :
    Calls Tryz.prog 96 #[.slice a n cap, .int .i64 i] w fun e w' => e = .returned (.tuple #[.int .u64 0, .bool false]) ∧ Below w.heap.size w w' := by
  have hmf : ∀ (fn : Fn) (first cap : Array Value) (w : World), (Instr.makeFunc fn first cap).run Tryz.prog w = .ok (.func fn first cap) w := fun _ _ _ _ => rfl
  obtain ⟨s, q, hix⟩ := index_out (P := Tryz.prog) ((w.alloc (.cells #[.int .u64 0] 58)).alloc (.cells #[.bool false] 4)) 22 a n cap .i64 i Tryz.underlying22 hnil h
  unfold boundsValue at hix
  clear h hnil
  go_enter_defers Tryz.func96, Tryz.ntmps96
  go_wp2
  refine leaves_cons (f := 124) (args := #[.pointer (some ⟨w.heap.size, 0, none⟩), .pointer (some ⟨w.heap.size + 1, 0, none⟩)]) (by simp) (by simp [go_sem]) ?_
  refine (seek_caught ⟨w.heap.size, 0, none⟩ ⟨w.heap.size + 1, 0, none⟩ 0 false _ _ [] _ (by simp) ?_ ?_ ?_ ?_).mono ?_
  · simp [go_sem]
  · simp [go_sem]
  · simp [go_sem]
  · simp [go_sem]
  rintro e u' w'' ⟨rfl, rfl, rfl⟩
  simp [Leaves, settle, results, Tryz.results96, go_sem]
  have b := below2 w (.cells #[.int .u64 0] 58) (.cells #[.bool false] 4)
  exact ((show Below w.heap.size w (((w.alloc (.cells #[.int .u64 0] 58)).alloc (.cells #[.bool false] 4)).drewN q) from ⟨b.os, b.tape, b.output, b.size, b.block⟩).setCell (Nat.le_refl _) _).setCell (Nat.le_succ _) _

set_option maxRecDepth 100000 in
theorem seek_in (b off n cap : Nat) (i : Nat) (x : Int) (w : World) (h : i < n) (hc : w.cell? ⟨b, off + i, none⟩ = some (.int .u64 x)) (_hn : n ≤ 1000000000) :
    Calls Tryz.prog 96 #[.slice (some ⟨b, off, none⟩) n cap, .int .i64 i] w fun e w' => e = .returned (.tuple #[.int .u64 x, .bool true]) ∧ Below w.heap.size w w' := by
  have hmf : ∀ (fn : Fn) (first cap : Array Value) (w : World), (Instr.makeFunc fn first cap).run Tryz.prog w = .ok (.func fn first cap) w := fun _ _ _ _ => rfl
  have hi : (i : Int) < n := by omega
  have hb := World.block_lt_of_cell? w _ hc
  simp at hb
  go_enter_defers Tryz.func96, Tryz.ntmps96
  go_wp2
  refine leaves_cons (f := 124) (args := #[.pointer (some ⟨w.heap.size, 0, none⟩), .pointer (some ⟨w.heap.size + 1, 0, none⟩)]) (by simp) (by simp [go_sem]) ?_
  refine (seek_idle ⟨w.heap.size, 0, none⟩ ⟨w.heap.size + 1, 0, none⟩ _).mono ?_
  rintro e u' w'' ⟨rfl, rfl, rfl⟩
  simp [Leaves, settle, results, Tryz.results96, go_sem]
  exact below2 _ _ _

/- What a list has at a place; 0, if there is none. -/
def getF (n : Nat) (f : Nat → Int) (i : Int) : Int := if 0 ≤ i ∧ i < n then f i.toNat else 0
def inB (n : Nat) (i : Int) : Bool := decide (0 ≤ i ∧ i < n)

theorem seek_any (a : Option Addr) (n cap : Nat) (f : Nat → Int) (i : Int) (w : World) (h : Sl .u64 w a n f) (hnil : a = none → n = 0) (hn : n ≤ 1000000000) :
    Calls Tryz.prog 96 #[.slice a n cap, .int .i64 i] w fun e w' => e = .returned (.tuple #[.int .u64 (getF n f i), .bool (inB n i)]) ∧ Below w.heap.size w w' := by
  by_cases hi : 0 ≤ i ∧ i < n
  · rcases h with h | ⟨b, off, rfl, h⟩
    · omega
    · obtain ⟨j, rfl⟩ := Int.eq_ofNat_of_zero_le hi.1
      refine (seek_in b off n cap j (f j) w (by omega) (h j (by omega)) hn).mono fun e w' ⟨he, hw⟩ => ⟨?_, hw⟩
      rw [he]; unfold getF inB; rw [if_pos hi, decide_eq_true hi]; rfl
  · refine (seek_out a n cap i w hnil (by omega)).mono fun e w' ⟨he, hw⟩ => ⟨?_, hw⟩
    rw [he]; unfold getF inB; rw [if_neg hi, decide_eq_false hi]

theorem sload_any (a : Option Addr) (n cap : Nat) (f : Nat → Int) (i : Int) (w : World) (h : Sl .u64 w a n f) (_hn : n ≤ 1000000000) :
    Calls Tryz.prog 83 #[.slice a n cap, .int .i64 i] w fun e w' => e = .returned (.int .u64 (getF n f i)) ∧ w' = w := by
  by_cases hi : 0 ≤ i ∧ i < n
  · rcases h with h | ⟨b, off, rfl, h⟩
    · omega
    · obtain ⟨j, rfl⟩ := Int.eq_ofNat_of_zero_le hi.1
      have hc := h j (by omega)
      have h1 : ¬ (j : Int) < 0 := by omega
      have h2 : ¬ (n : Int) ≤ j := by omega
      have hg : getF n f j = f j := by unfold getF; rw [if_pos hi]; rfl
      have hlt : (j : Int) < n := hi.2
      rw [hg]
      clear h hg hi
      go_enter Tryz.func83, Tryz.ntmps83
      go_wp2
      go_ret
      exact ⟨rfl, rfl⟩
  · have hg : getF n f i = 0 := by unfold getF; rw [if_neg hi]
    rw [hg]
    by_cases h1 : i < 0
    · go_enter Tryz.func83, Tryz.ntmps83
      go_wp2
      go_ret
      exact ⟨rfl, rfl⟩
    · have h2 : (n : Int) ≤ i := by omega
      go_enter Tryz.func83, Tryz.ntmps83
      go_wp2
      go_ret
      exact ⟨rfl, rfl⟩

end Go.Proofs.YtgfbfgiohmdjmaaGreat.Plat

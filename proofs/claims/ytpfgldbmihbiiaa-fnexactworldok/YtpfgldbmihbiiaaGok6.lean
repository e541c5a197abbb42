/- When a guest is ok, as the program says it. Conditions: none. -/
import Derived.Test.YtpfgldbmihbiiaaGok4
import Derived.Test.YtpfgldbmihbiiaaGok5
namespace Go.Proofs.Ytpfgldbmihbiiaa.Gs
open Go.ChangeShapes Go.WideShapes Go.ChangeAt Go.RowKit
open Go.Proofs.Ytpfgldbmihbiiaa.Aid Go.Proofs.Ytpfgldbmihbiiaa.Lst Go.Proofs.Ytpfgldbmihbiiaa.Plat
open Go.Proofs.Ytpfgldbmihbiiaa.Book (Sx)
set_option maxRecDepth 100000
set_option linter.unusedVariables false

/- A layout has been stored: a house, a guest and it lie in structs of the call's own. -/
structure Em (w : World) (s p l : Int) (g : Gx) (L : List Int) (v : Nat) (W : World) : Prop where
  e : Eg w s p l g W
  r : W.rangeAt v 0 (ints L)
  lt : v < W.heap.size
theorem Em.later {w W W1 : World} {s p l : Int} {g : Gx} {L : List Int} {v : Nat} (h : Em w s p l g L v W) (hb : Below W.heap.size W W1) : Em w s p l g L v W1 :=
  ⟨h.e.later hb, range_below hb h.r h.lt, Nat.lt_of_lt_of_le h.lt hb.size⟩
theorem Em.start {w W : World} {s p l : Int} {g : Gx} (L : List Int) (hL : L.length = 25) (h : Eg w s p l g W) (t : TypeId) :
    (W.alloc (.cells #[.int .i64 0, .int .i64 0, .int .i64 0, .int .i64 0, .int .i64 0, .int .i64 0, .int .i64 0, .int .i64 0, .int .i64 0, .int .i64 0, .int .i64 0, .int .i64 0, .int .i64 0, .int .i64 0, .int .i64 0, .int .i64 0, .int .i64 0, .int .i64 0, .int .i64 0, .int .i64 0, .int .i64 0, .int .i64 0, .int .i64 0, .int .i64 0, .int .i64 0] t)).there W.heap.size 0 25 ∧ Em w s p l g L W.heap.size ((W.alloc (.cells #[.int .i64 0, .int .i64 0, .int .i64 0, .int .i64 0, .int .i64 0, .int .i64 0, .int .i64 0, .int .i64 0, .int .i64 0, .int .i64 0, .int .i64 0, .int .i64 0, .int .i64 0, .int .i64 0, .int .i64 0, .int .i64 0, .int .i64 0, .int .i64 0, .int .i64 0, .int .i64 0, .int .i64 0, .int .i64 0, .int .i64 0, .int .i64 0, .int .i64 0] t)).setCells W.heap.size 0 (ints L).toArray.toList) := by
  have th : (W.alloc (.cells #[.int .i64 0, .int .i64 0, .int .i64 0, .int .i64 0, .int .i64 0, .int .i64 0, .int .i64 0, .int .i64 0, .int .i64 0, .int .i64 0, .int .i64 0, .int .i64 0, .int .i64 0, .int .i64 0, .int .i64 0, .int .i64 0, .int .i64 0, .int .i64 0, .int .i64 0, .int .i64 0, .int .i64 0, .int .i64 0, .int .i64 0, .int .i64 0, .int .i64 0] t)).there W.heap.size 0 25 := there_new W #[.int .i64 0, .int .i64 0, .int .i64 0, .int .i64 0, .int .i64 0, .int .i64 0, .int .i64 0, .int .i64 0, .int .i64 0, .int .i64 0, .int .i64 0, .int .i64 0, .int .i64 0, .int .i64 0, .int .i64 0, .int .i64 0, .int .i64 0, .int .i64 0, .int .i64 0, .int .i64 0, .int .i64 0, .int .i64 0, .int .i64 0, .int .i64 0, .int .i64 0] t 25 rfl
  have hb : Below W.heap.size W ((W.alloc (.cells #[.int .i64 0, .int .i64 0, .int .i64 0, .int .i64 0, .int .i64 0, .int .i64 0, .int .i64 0, .int .i64 0, .int .i64 0, .int .i64 0, .int .i64 0, .int .i64 0, .int .i64 0, .int .i64 0, .int .i64 0, .int .i64 0, .int .i64 0, .int .i64 0, .int .i64 0, .int .i64 0, .int .i64 0, .int .i64 0, .int .i64 0, .int .i64 0, .int .i64 0] t)).setCells W.heap.size 0 (ints L).toArray.toList) := below_setCells (below1 W _) (Nat.le_refl _) _ _
  refine ⟨th, h.later hb, ?_, by rw [setCells_size]; simp⟩
  have g2 : (ints L).toArray.toList.length = 25 := by simp [ints, hL]
  exact World.rangeAt_setCells_same _ _ _ _ (by rw [g2]; exact th)

set_option maxHeartbeats 16000000 in
theorem gok_any (s p l : Int) (g : Gx) (w : World) :
    Calls Try.prog 24 #[.agg #[.int .i64 s, .int .i64 p, .int .i64 l], .agg g.cells.toArray] w fun e w' => e = .returned (.bool (boolOf (Gok s p l g))) ∧ Below w.heap.size w w' := by
  have E := Eg.start w s p l g 45 53
  have q0 : ((w.alloc (.cells #[.int .i64 s, .int .i64 p, .int .i64 l] 45)).alloc (.cells g.cells.toArray 53)).cell? ⟨w.heap.size, 0, none⟩ = some (.int .i64 s) := E.c 0 _ rfl
  have q1 : ((w.alloc (.cells #[.int .i64 s, .int .i64 p, .int .i64 l] 45)).alloc (.cells g.cells.toArray 53)).cell? ⟨w.heap.size, 1, none⟩ = some (.int .i64 p) := E.c 1 _ rfl
  have q2 : ((w.alloc (.cells #[.int .i64 s, .int .i64 p, .int .i64 l] 45)).alloc (.cells g.cells.toArray 53)).cell? ⟨w.heap.size, 2, none⟩ = some (.int .i64 l) := E.c 2 _ rfl
  have HE : Hid (Eg w s p l g _) := E
  clear E
  go_enter Try.func24, Try.ntmps24
  go_wp2_with (fail)
  generalize ((w.alloc (.cells #[.int .i64 s, .int .i64 p, .int .i64 l] 45)).alloc (.cells g.cells.toArray 53)) = W at HE ⊢
  clear q0 q1 q2
  obtain ⟨L, hL, HL⟩ : ∃ L : List Int, L.length = 25 ∧ (okB s p l = true → L = layL s p) ∧ Calls Try.prog 39 #[.agg #[.int .i64 s, .int .i64 p, .int .i64 l]] W fun e w' => e = .returned (.agg (ints L).toArray) ∧ Below W.heap.size W w' := by
    cases hok : okB s p l
    · exact ⟨zeroL, rep_len, (fun h => by cases h), lay_bad s p l W hok⟩
    · exact ⟨layL s p, layL_len s p, fun _ => rfl, lay_ok s p l W hok⟩
  refine HL.2.mono ?_
  have HLL : Hid (okB s p l = true → L = layL s p) := HL.1
  clear HL
  rintro e w1 ⟨rfl, hb⟩
  have HE1 : Hid (Eg w s p l g w1) := HE.out.later hb
  clear HE hb
  obtain ⟨th, em⟩ := Em.start L hL HE1.out 75
  have HT : Hid (World.there _ w1.heap.size 0 25) := th
  have HM : Hid (Em w s p l g L w1.heap.size _) := em
  have il : (ints L).toArray.size = 25 := by simp [ints, hL]
  have HIL : Hid ((ints L).toArray.size = 25) := il
  clear th em HE1 il
  go_wp2_with (with_reducible refine halt_at (.store 75 (.tmp 5) (.tmp 8)) rfl ?_)
  unfold Hid
  refine wpList_store_mid rfl 75 _ _ rfl w1.heap.size 0 (ints L).toArray rfl rfl (by rw [HIL.out]; exact HT.out) (by rw [HIL.out]; kernel_rfl) (ints_one _) ?_
  generalize World.setCells _ _ _ _ = w2 at HM ⊢
  generalize w1.heap.size = v at HM ⊢
  clear HT HIL
  cases hz : g.busy
  · have hbz : Hid (g.busy = false) := hz
    clear hz
    by_cases hp : 0 ≤ g.pc ∧ g.pc ≤ 0
    · have t0 : (g.pc != 0) = false := by simp; omega
      have c_busy : w2.cell? ⟨w.heap.size + 1, 3, none⟩ = some (.bool false) := by rw [← hbz.out]; exact HM.out.e.r 3 _ rfl
      have c_pc : w2.cell? ⟨w.heap.size + 1, 8, none⟩ = some (.int .i64 g.pc) := HM.out.e.r 8 _ rfl
      have c_os : w2.cell? ⟨w.heap.size + 1, 5, none⟩ = some (.int .i64 g.os) := HM.out.e.r 5 _ rfl
      have c_slot : w2.cell? ⟨w.heap.size + 1, 1, none⟩ = some (.int .i64 g.slot) := HM.out.e.r 1 _ rfl
      have q0 : w2.cell? ⟨w.heap.size, 0, none⟩ = some (.int .i64 s) := HM.out.e.c 0 _ rfl
      have q1 : w2.cell? ⟨w.heap.size, 1, none⟩ = some (.int .i64 p) := HM.out.e.c 1 _ rfl
      have q2 : w2.cell? ⟨w.heap.size, 2, none⟩ = some (.int .i64 l) := HM.out.e.c 2 _ rfl
      go_wp2_with (fail)
      refine (ok_any s p l w2).mono ?_
      rintro e w3 ⟨rfl, hb⟩
      have HM3 : Hid (Em w s p l g L v w3) := HM.out.later hb
      clear hb HM c_busy c_pc c_os c_slot q0 q1 q2
      cases hok : okB s p l
      case false =>
        have H : Hid (¬ Gok s p l g) := fun h => by have k : okB s p l = true := h.1; rw [hok] at k; cases k
        clear hok
        go_wp2_with (fail)
        go_ret
        exact ⟨ret_bool (boolOf_f H.out), HM3.out.e.b⟩
      have K := okB_of hok
      have HOK : Hid (okB s p l = true) := hok
      have HP : Hid (Placed g) := ⟨by rw [hbz.out]; simp; omega, .inl hbz.out⟩
      have eL : L = layL s p := HLL.out hok
      subst eL
      clear hok
      have HLE : Hid ((layL s p).length = 25) := hL
      have HRL : Hid (World.rangeAt w3 v 0 (ints (layL s p))) := HM3.out.r
      have HR : Hid (World.rangeAt w3 (w.heap.size + 1) 0 g.cells) := HM3.out.e.r
      go_wp2_with (first | (refine Book.wpList_load_wanted (by rfl) 75 _ rfl v 0 rfl (ints (layL s p)) _ HRL.out Try.underlying75 rfl (by rw [ints_len, HLE.out]; kernel_rfl) ?_) | (refine Book.wpList_load_wanted (by rfl) 53 _ rfl (w.heap.size + 1) 0 rfl g.cells _ HR.out Try.underlying53 rfl (by kernel_rfl) ?_))
      refine (fits_any s p g w3 (by omega)).mono ?_
      rintro e w4 ⟨rfl, hb⟩
      have HM4 : Hid (Em w s p l g (layL s p) v w4) := HM3.out.later hb
      clear hb HM3 HRL HR
      by_cases hf : Fields s p g
      case neg =>
        rw [← boolOf_f hf]
        have H : Hid (¬ Gok s p l g) := fun h => hf h.2.2.1
        clear hf
        go_wp2_with (fail)
        go_ret
        exact ⟨ret_bool (boolOf_f H.out), HM4.out.e.b⟩
      rw [← boolOf_t hf]
      have hw0 : 0 ≤ g.who := hf.2.2.2.2.2.2.2.2.2.2.1
      have HF : Hid (Fields s p g) := hf
      clear hf
      have HRL : Hid (World.rangeAt w4 v 0 (ints (layL s p))) := HM4.out.r
      have HR : Hid (World.rangeAt w4 (w.heap.size + 1) 0 g.cells) := HM4.out.e.r
      go_wp2_with (first | (refine Book.wpList_load_wanted (by rfl) 75 _ rfl v 0 rfl (ints (layL s p)) _ HRL.out Try.underlying75 rfl (by rw [ints_len, HLE.out]; kernel_rfl) ?_) | (refine Book.wpList_load_wanted (by rfl) 53 _ rfl (w.heap.size + 1) 0 rfl g.cells _ HR.out Try.underlying53 rfl (by kernel_rfl) ?_))
      refine (stands_any s p g w4 (by omega) hw0).mono ?_
      rintro e w5 ⟨rfl, hb⟩
      have HM5 : Hid (Em w s p l g (layL s p) v w5) := HM4.out.later hb
      clear hb HM4 HRL HR
      have HG : Hid (boolOf (Place s p g) = boolOf (Gok s p l g)) := by
        show boolOf (Place s p g) = boolOf (Gok s p l g)
        by_cases hp : Place s p g
        · rw [← boolOf_t hp, ← boolOf_t (show Gok s p l g from ⟨HOK.out, HP.out, HF.out, hp⟩)]
        · rw [← boolOf_f hp, ← boolOf_f (fun h : Gok s p l g => hp h.2.2.2)]
      go_wp2_with (fail)
      go_ret
      exact ⟨ret_bool HG.out, HM5.out.e.b⟩
    · have t0 : (g.pc != 0) = true := by simp; omega
      have c_busy : w2.cell? ⟨w.heap.size + 1, 3, none⟩ = some (.bool false) := by rw [← hbz.out]; exact HM.out.e.r 3 _ rfl
      have c_pc : w2.cell? ⟨w.heap.size + 1, 8, none⟩ = some (.int .i64 g.pc) := HM.out.e.r 8 _ rfl
      have c_os : w2.cell? ⟨w.heap.size + 1, 5, none⟩ = some (.int .i64 g.os) := HM.out.e.r 5 _ rfl
      have c_slot : w2.cell? ⟨w.heap.size + 1, 1, none⟩ = some (.int .i64 g.slot) := HM.out.e.r 1 _ rfl
      have q0 : w2.cell? ⟨w.heap.size, 0, none⟩ = some (.int .i64 s) := HM.out.e.c 0 _ rfl
      have q1 : w2.cell? ⟨w.heap.size, 1, none⟩ = some (.int .i64 p) := HM.out.e.c 1 _ rfl
      have q2 : w2.cell? ⟨w.heap.size, 2, none⟩ = some (.int .i64 l) := HM.out.e.c 2 _ rfl
      go_wp2_with (fail)
      refine (ok_any s p l w2).mono ?_
      rintro e w3 ⟨rfl, hb⟩
      have HM3 : Hid (Em w s p l g L v w3) := HM.out.later hb
      clear hb HM c_busy c_pc c_os c_slot q0 q1 q2
      cases hok : okB s p l
      case false =>
        have H : Hid (¬ Gok s p l g) := fun h => by have k : okB s p l = true := h.1; rw [hok] at k; cases k
        clear hok
        go_wp2_with (fail)
        go_ret
        exact ⟨ret_bool (boolOf_f H.out), HM3.out.e.b⟩
      have H : Hid (¬ Gok s p l g) := fun h => by
        have k := h.2.1.1.2 (by omega)
        rw [hbz.out] at k
        cases k
      clear hok
      go_wp2_with (fail)
      go_ret
      exact ⟨ret_bool (boolOf_f H.out), HM3.out.e.b⟩
  · have hbz : Hid (g.busy = true) := hz
    clear hz
    by_cases hp : 0 ≤ g.pc ∧ g.pc ≤ 0
    · have t0 : (g.pc != 0) = false := by simp; omega
      have c_busy : w2.cell? ⟨w.heap.size + 1, 3, none⟩ = some (.bool true) := by rw [← hbz.out]; exact HM.out.e.r 3 _ rfl
      have c_pc : w2.cell? ⟨w.heap.size + 1, 8, none⟩ = some (.int .i64 g.pc) := HM.out.e.r 8 _ rfl
      have c_os : w2.cell? ⟨w.heap.size + 1, 5, none⟩ = some (.int .i64 g.os) := HM.out.e.r 5 _ rfl
      have c_slot : w2.cell? ⟨w.heap.size + 1, 1, none⟩ = some (.int .i64 g.slot) := HM.out.e.r 1 _ rfl
      have q0 : w2.cell? ⟨w.heap.size, 0, none⟩ = some (.int .i64 s) := HM.out.e.c 0 _ rfl
      have q1 : w2.cell? ⟨w.heap.size, 1, none⟩ = some (.int .i64 p) := HM.out.e.c 1 _ rfl
      have q2 : w2.cell? ⟨w.heap.size, 2, none⟩ = some (.int .i64 l) := HM.out.e.c 2 _ rfl
      go_wp2_with (fail)
      refine (ok_any s p l w2).mono ?_
      rintro e w3 ⟨rfl, hb⟩
      have HM3 : Hid (Em w s p l g L v w3) := HM.out.later hb
      clear hb HM c_busy c_pc c_os c_slot q0 q1 q2
      cases hok : okB s p l
      case false =>
        have H : Hid (¬ Gok s p l g) := fun h => by have k : okB s p l = true := h.1; rw [hok] at k; cases k
        clear hok
        go_wp2_with (fail)
        go_ret
        exact ⟨ret_bool (boolOf_f H.out), HM3.out.e.b⟩
      have H : Hid (¬ Gok s p l g) := fun h => by
        have k := h.2.1.1.1 hbz.out
        omega
      clear hok
      go_wp2_with (fail)
      go_ret
      exact ⟨ret_bool (boolOf_f H.out), HM3.out.e.b⟩
    · have t0 : (g.pc != 0) = true := by simp; omega
      by_cases hs : g.slot ≤ g.os ∧ g.os ≤ g.slot
      · have t1 : (g.os == g.slot) = true := by simp; omega
        have c_busy : w2.cell? ⟨w.heap.size + 1, 3, none⟩ = some (.bool true) := by rw [← hbz.out]; exact HM.out.e.r 3 _ rfl
        have c_pc : w2.cell? ⟨w.heap.size + 1, 8, none⟩ = some (.int .i64 g.pc) := HM.out.e.r 8 _ rfl
        have c_os : w2.cell? ⟨w.heap.size + 1, 5, none⟩ = some (.int .i64 g.os) := HM.out.e.r 5 _ rfl
        have c_slot : w2.cell? ⟨w.heap.size + 1, 1, none⟩ = some (.int .i64 g.slot) := HM.out.e.r 1 _ rfl
        have q0 : w2.cell? ⟨w.heap.size, 0, none⟩ = some (.int .i64 s) := HM.out.e.c 0 _ rfl
        have q1 : w2.cell? ⟨w.heap.size, 1, none⟩ = some (.int .i64 p) := HM.out.e.c 1 _ rfl
        have q2 : w2.cell? ⟨w.heap.size, 2, none⟩ = some (.int .i64 l) := HM.out.e.c 2 _ rfl
        go_wp2_with (fail)
        refine (ok_any s p l w2).mono ?_
        rintro e w3 ⟨rfl, hb⟩
        have HM3 : Hid (Em w s p l g L v w3) := HM.out.later hb
        clear hb HM c_busy c_pc c_os c_slot q0 q1 q2
        cases hok : okB s p l
        case false =>
          have H : Hid (¬ Gok s p l g) := fun h => by have k : okB s p l = true := h.1; rw [hok] at k; cases k
          clear hok
          go_wp2_with (fail)
          go_ret
          exact ⟨ret_bool (boolOf_f H.out), HM3.out.e.b⟩
        have K := okB_of hok
        have HOK : Hid (okB s p l = true) := hok
        have HP : Hid (Placed g) := ⟨by rw [hbz.out]; simp; omega, .inr (by omega)⟩
        have eL : L = layL s p := HLL.out hok
        subst eL
        clear hok
        have HLE : Hid ((layL s p).length = 25) := hL
        have HRL : Hid (World.rangeAt w3 v 0 (ints (layL s p))) := HM3.out.r
        have HR : Hid (World.rangeAt w3 (w.heap.size + 1) 0 g.cells) := HM3.out.e.r
        go_wp2_with (first | (refine Book.wpList_load_wanted (by rfl) 75 _ rfl v 0 rfl (ints (layL s p)) _ HRL.out Try.underlying75 rfl (by rw [ints_len, HLE.out]; kernel_rfl) ?_) | (refine Book.wpList_load_wanted (by rfl) 53 _ rfl (w.heap.size + 1) 0 rfl g.cells _ HR.out Try.underlying53 rfl (by kernel_rfl) ?_))
        refine (fits_any s p g w3 (by omega)).mono ?_
        rintro e w4 ⟨rfl, hb⟩
        have HM4 : Hid (Em w s p l g (layL s p) v w4) := HM3.out.later hb
        clear hb HM3 HRL HR
        by_cases hf : Fields s p g
        case neg =>
          rw [← boolOf_f hf]
          have H : Hid (¬ Gok s p l g) := fun h => hf h.2.2.1
          clear hf
          go_wp2_with (fail)
          go_ret
          exact ⟨ret_bool (boolOf_f H.out), HM4.out.e.b⟩
        rw [← boolOf_t hf]
        have hw0 : 0 ≤ g.who := hf.2.2.2.2.2.2.2.2.2.2.1
        have HF : Hid (Fields s p g) := hf
        clear hf
        have HRL : Hid (World.rangeAt w4 v 0 (ints (layL s p))) := HM4.out.r
        have HR : Hid (World.rangeAt w4 (w.heap.size + 1) 0 g.cells) := HM4.out.e.r
        go_wp2_with (first | (refine Book.wpList_load_wanted (by rfl) 75 _ rfl v 0 rfl (ints (layL s p)) _ HRL.out Try.underlying75 rfl (by rw [ints_len, HLE.out]; kernel_rfl) ?_) | (refine Book.wpList_load_wanted (by rfl) 53 _ rfl (w.heap.size + 1) 0 rfl g.cells _ HR.out Try.underlying53 rfl (by kernel_rfl) ?_))
        refine (stands_any s p g w4 (by omega) hw0).mono ?_
        rintro e w5 ⟨rfl, hb⟩
        have HM5 : Hid (Em w s p l g (layL s p) v w5) := HM4.out.later hb
        clear hb HM4 HRL HR
        have HG : Hid (boolOf (Place s p g) = boolOf (Gok s p l g)) := by
          show boolOf (Place s p g) = boolOf (Gok s p l g)
          by_cases hp : Place s p g
          · rw [← boolOf_t hp, ← boolOf_t (show Gok s p l g from ⟨HOK.out, HP.out, HF.out, hp⟩)]
          · rw [← boolOf_f hp, ← boolOf_f (fun h : Gok s p l g => hp h.2.2.2)]
        go_wp2_with (fail)
        go_ret
        exact ⟨ret_bool HG.out, HM5.out.e.b⟩
      · have t1 : (g.os == g.slot) = false := by simp; omega
        have c_busy : w2.cell? ⟨w.heap.size + 1, 3, none⟩ = some (.bool true) := by rw [← hbz.out]; exact HM.out.e.r 3 _ rfl
        have c_pc : w2.cell? ⟨w.heap.size + 1, 8, none⟩ = some (.int .i64 g.pc) := HM.out.e.r 8 _ rfl
        have c_os : w2.cell? ⟨w.heap.size + 1, 5, none⟩ = some (.int .i64 g.os) := HM.out.e.r 5 _ rfl
        have c_slot : w2.cell? ⟨w.heap.size + 1, 1, none⟩ = some (.int .i64 g.slot) := HM.out.e.r 1 _ rfl
        have q0 : w2.cell? ⟨w.heap.size, 0, none⟩ = some (.int .i64 s) := HM.out.e.c 0 _ rfl
        have q1 : w2.cell? ⟨w.heap.size, 1, none⟩ = some (.int .i64 p) := HM.out.e.c 1 _ rfl
        have q2 : w2.cell? ⟨w.heap.size, 2, none⟩ = some (.int .i64 l) := HM.out.e.c 2 _ rfl
        go_wp2_with (fail)
        refine (ok_any s p l w2).mono ?_
        rintro e w3 ⟨rfl, hb⟩
        have HM3 : Hid (Em w s p l g L v w3) := HM.out.later hb
        clear hb HM c_busy c_pc c_os c_slot q0 q1 q2
        cases hok : okB s p l
        case false =>
          have H : Hid (¬ Gok s p l g) := fun h => by have k : okB s p l = true := h.1; rw [hok] at k; cases k
          clear hok
          go_wp2_with (fail)
          go_ret
          exact ⟨ret_bool (boolOf_f H.out), HM3.out.e.b⟩
        have H : Hid (¬ Gok s p l g) := fun h => by
          rcases h.2.1.2 with k | k
          · rw [hbz.out] at k; cases k
          · omega
        clear hok
        go_wp2_with (fail)
        go_ret
        exact ⟨ret_bool (boolOf_f H.out), HM3.out.e.b⟩

end Go.Proofs.Ytpfgldbmihbiiaa.Gs

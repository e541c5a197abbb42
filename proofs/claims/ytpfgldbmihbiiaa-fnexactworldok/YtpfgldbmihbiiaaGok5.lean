/- When a guest is ok, as the specification says it. Conditions: none. -/
import Derived.Test.YtpfgldbmihbiiaaGokE
import Derived.Test.YtpfgldbmihbiiaaGok2
import Derived.Test.YtpfgldbmihbiiaaCb13w
namespace Go.Proofs.Ytpfgldbmihbiiaa.Gs
open Go.ChangeShapes Go.WideShapes Go.ChangeAt Go.RowKit
open Go.Proofs.Ytpfgldbmihbiiaa.Aid Go.Proofs.Ytpfgldbmihbiiaa.Lst Go.Proofs.Ytpfgldbmihbiiaa.Plat
open Go.Proofs.Ytpfgldbmihbiiaa.Book (Sx)
set_option maxRecDepth 100000
set_option linter.unusedVariables false

set_option maxHeartbeats 16000000 in
theorem sgok_any (s p l : Int) (g : Gx) (w : World) :
    Calls Try.prog 20 #[.agg #[.int .i64 s, .int .i64 p, .int .i64 l], .agg g.cells.toArray] w fun e w' => e = .returned (.bool (boolOf (Gok s p l g))) ∧ Below w.heap.size w w' := by
  have E := Eg.start w s p l g 45 53
  have q0 : ((w.alloc (.cells #[.int .i64 s, .int .i64 p, .int .i64 l] 45)).alloc (.cells g.cells.toArray 53)).cell? ⟨w.heap.size, 0, none⟩ = some (.int .i64 s) := E.c 0 _ rfl
  have q1 : ((w.alloc (.cells #[.int .i64 s, .int .i64 p, .int .i64 l] 45)).alloc (.cells g.cells.toArray 53)).cell? ⟨w.heap.size, 1, none⟩ = some (.int .i64 p) := E.c 1 _ rfl
  have q2 : ((w.alloc (.cells #[.int .i64 s, .int .i64 p, .int .i64 l] 45)).alloc (.cells g.cells.toArray 53)).cell? ⟨w.heap.size, 2, none⟩ = some (.int .i64 l) := E.c 2 _ rfl
  have c_busy : ((w.alloc (.cells #[.int .i64 s, .int .i64 p, .int .i64 l] 45)).alloc (.cells g.cells.toArray 53)).cell? ⟨w.heap.size + 1, 3, none⟩ = some (.bool g.busy) := E.r 3 _ rfl
  have c_pc : ((w.alloc (.cells #[.int .i64 s, .int .i64 p, .int .i64 l] 45)).alloc (.cells g.cells.toArray 53)).cell? ⟨w.heap.size + 1, 8, none⟩ = some (.int .i64 g.pc) := E.r 8 _ rfl
  have c_os : ((w.alloc (.cells #[.int .i64 s, .int .i64 p, .int .i64 l] 45)).alloc (.cells g.cells.toArray 53)).cell? ⟨w.heap.size + 1, 5, none⟩ = some (.int .i64 g.os) := E.r 5 _ rfl
  have c_slot : ((w.alloc (.cells #[.int .i64 s, .int .i64 p, .int .i64 l] 45)).alloc (.cells g.cells.toArray 53)).cell? ⟨w.heap.size + 1, 1, none⟩ = some (.int .i64 g.slot) := E.r 1 _ rfl
  have HE : Hid (Eg w s p l g _) := E
  clear E
  go_enter Try.func20, Try.ntmps20
  go_wp2_with (fail)
  generalize ((w.alloc (.cells #[.int .i64 s, .int .i64 p, .int .i64 l] 45)).alloc (.cells g.cells.toArray 53)) = W at HE ⊢
  clear c_busy c_pc c_os c_slot q0 q1 q2
  refine (sok_any s p l W).mono ?_
  rintro e w1 ⟨rfl, hb⟩
  have HE1 : Hid (Eg w s p l g w1) := HE.out.later hb
  clear HE hb
  cases hok : okB s p l
  case false =>
    have H : Hid (¬ Gok s p l g) := fun h => by have k : okB s p l = true := h.1; rw [hok] at k; cases k
    clear hok
    go_wp2_with (fail)
    go_ret
    exact ⟨ret_bool (boolOf_f H.out), HE1.out.b⟩
  have K := okB_of hok
  cases hz : g.busy
  · have hbz : Hid (g.busy = false) := hz
    by_cases hp : 0 ≤ g.pc ∧ g.pc ≤ 0
    · have t0 : (g.pc == 0) = true := by simp; omega
      by_cases hs : g.slot ≤ g.os ∧ g.os ≤ g.slot
      · have t1 : (g.os != g.slot) = false := by simp; omega
        clear hz
        have HP : Hid (Placed g) := ⟨by rw [hbz.out]; simp; omega, .inl hbz.out⟩
        have c_busy : w1.cell? ⟨w.heap.size + 1, 3, none⟩ = some (.bool false) := by rw [← hbz.out]; exact HE1.out.r 3 _ rfl
        have c_pc : w1.cell? ⟨w.heap.size + 1, 8, none⟩ = some (.int .i64 g.pc) := HE1.out.r 8 _ rfl
        have c_os : w1.cell? ⟨w.heap.size + 1, 5, none⟩ = some (.int .i64 g.os) := HE1.out.r 5 _ rfl
        have c_slot : w1.cell? ⟨w.heap.size + 1, 1, none⟩ = some (.int .i64 g.slot) := HE1.out.r 1 _ rfl
        have q0 : w1.cell? ⟨w.heap.size, 0, none⟩ = some (.int .i64 s) := HE1.out.c 0 _ rfl
        have q1 : w1.cell? ⟨w.heap.size, 1, none⟩ = some (.int .i64 p) := HE1.out.c 1 _ rfl
        have q2 : w1.cell? ⟨w.heap.size, 2, none⟩ = some (.int .i64 l) := HE1.out.c 2 _ rfl
        have HR : Hid (World.rangeAt w1 (w.heap.size + 1) 0 g.cells) := HE1.out.r
        have HOK : Hid (okB s p l = true) := hok
        clear hok
        go_wp2_with (refine wpList_load_mid rfl 53 _ rfl (w.heap.size + 1) 0 rfl g.cells _ HR.out Try.underlying53 rfl (by kernel_rfl) ?_)
        refine (sfields_any s p l g w1 K).mono ?_
        rintro e w2 ⟨rfl, hb⟩
        have HE2 : Hid (Eg w s p l g w2) := HE1.out.later hb
        clear hb c_busy c_pc c_os c_slot q0 q1 q2 HE1 HR
        by_cases hf : Fields s p g
        case neg =>
          rw [← boolOf_f hf]
          have H : Hid (¬ Gok s p l g) := fun h => hf h.2.2.1
          clear hf
          go_wp2_with (fail)
          go_ret
          exact ⟨ret_bool (boolOf_f H.out), HE2.out.b⟩
        rw [← boolOf_t hf]
        have HF : Hid (Fields s p g) := hf
        clear hf
        have q0 : w2.cell? ⟨w.heap.size, 0, none⟩ = some (.int .i64 s) := HE2.out.c 0 _ rfl
        have q1 : w2.cell? ⟨w.heap.size, 1, none⟩ = some (.int .i64 p) := HE2.out.c 1 _ rfl
        have q2 : w2.cell? ⟨w.heap.size, 2, none⟩ = some (.int .i64 l) := HE2.out.c 2 _ rfl
        have HR : Hid (World.rangeAt w2 (w.heap.size + 1) 0 g.cells) := HE2.out.r
        go_wp2_with (refine Book.wpList_load_wanted (by rfl) 53 _ rfl (w.heap.size + 1) 0 rfl g.cells _ HR.out Try.underlying53 rfl (by kernel_rfl) ?_)
        refine (splace_any s p l g w2 K).mono ?_
        rintro e w3 ⟨rfl, hb⟩
        have HE3 : Hid (Eg w s p l g w3) := HE2.out.later hb
        clear hb q0 q1 q2 HE2 HR
        have HG : Hid (boolOf (Place s p g) = boolOf (Gok s p l g)) := by
          show boolOf (Place s p g) = boolOf (Gok s p l g)
          by_cases hp : Place s p g
          · rw [← boolOf_t hp, ← boolOf_t (show Gok s p l g from ⟨HOK.out, HP.out, HF.out, hp⟩)]
          · rw [← boolOf_f hp, ← boolOf_f (fun h : Gok s p l g => hp h.2.2.2)]
        go_wp2_with (fail)
        go_ret
        exact ⟨ret_bool HG.out, HE3.out.b⟩
      · have t1 : (g.os != g.slot) = true := by simp; omega
        clear hz
        have HP : Hid (Placed g) := ⟨by rw [hbz.out]; simp; omega, .inl hbz.out⟩
        have c_busy : w1.cell? ⟨w.heap.size + 1, 3, none⟩ = some (.bool false) := by rw [← hbz.out]; exact HE1.out.r 3 _ rfl
        have c_pc : w1.cell? ⟨w.heap.size + 1, 8, none⟩ = some (.int .i64 g.pc) := HE1.out.r 8 _ rfl
        have c_os : w1.cell? ⟨w.heap.size + 1, 5, none⟩ = some (.int .i64 g.os) := HE1.out.r 5 _ rfl
        have c_slot : w1.cell? ⟨w.heap.size + 1, 1, none⟩ = some (.int .i64 g.slot) := HE1.out.r 1 _ rfl
        have q0 : w1.cell? ⟨w.heap.size, 0, none⟩ = some (.int .i64 s) := HE1.out.c 0 _ rfl
        have q1 : w1.cell? ⟨w.heap.size, 1, none⟩ = some (.int .i64 p) := HE1.out.c 1 _ rfl
        have q2 : w1.cell? ⟨w.heap.size, 2, none⟩ = some (.int .i64 l) := HE1.out.c 2 _ rfl
        have HR : Hid (World.rangeAt w1 (w.heap.size + 1) 0 g.cells) := HE1.out.r
        have HOK : Hid (okB s p l = true) := hok
        clear hok
        go_wp2_with (refine wpList_load_mid rfl 53 _ rfl (w.heap.size + 1) 0 rfl g.cells _ HR.out Try.underlying53 rfl (by kernel_rfl) ?_)
        refine (sfields_any s p l g w1 K).mono ?_
        rintro e w2 ⟨rfl, hb⟩
        have HE2 : Hid (Eg w s p l g w2) := HE1.out.later hb
        clear hb c_busy c_pc c_os c_slot q0 q1 q2 HE1 HR
        by_cases hf : Fields s p g
        case neg =>
          rw [← boolOf_f hf]
          have H : Hid (¬ Gok s p l g) := fun h => hf h.2.2.1
          clear hf
          go_wp2_with (fail)
          go_ret
          exact ⟨ret_bool (boolOf_f H.out), HE2.out.b⟩
        rw [← boolOf_t hf]
        have HF : Hid (Fields s p g) := hf
        clear hf
        have q0 : w2.cell? ⟨w.heap.size, 0, none⟩ = some (.int .i64 s) := HE2.out.c 0 _ rfl
        have q1 : w2.cell? ⟨w.heap.size, 1, none⟩ = some (.int .i64 p) := HE2.out.c 1 _ rfl
        have q2 : w2.cell? ⟨w.heap.size, 2, none⟩ = some (.int .i64 l) := HE2.out.c 2 _ rfl
        have HR : Hid (World.rangeAt w2 (w.heap.size + 1) 0 g.cells) := HE2.out.r
        go_wp2_with (refine Book.wpList_load_wanted (by rfl) 53 _ rfl (w.heap.size + 1) 0 rfl g.cells _ HR.out Try.underlying53 rfl (by kernel_rfl) ?_)
        refine (splace_any s p l g w2 K).mono ?_
        rintro e w3 ⟨rfl, hb⟩
        have HE3 : Hid (Eg w s p l g w3) := HE2.out.later hb
        clear hb q0 q1 q2 HE2 HR
        have HG : Hid (boolOf (Place s p g) = boolOf (Gok s p l g)) := by
          show boolOf (Place s p g) = boolOf (Gok s p l g)
          by_cases hp : Place s p g
          · rw [← boolOf_t hp, ← boolOf_t (show Gok s p l g from ⟨HOK.out, HP.out, HF.out, hp⟩)]
          · rw [← boolOf_f hp, ← boolOf_f (fun h : Gok s p l g => hp h.2.2.2)]
        go_wp2_with (fail)
        go_ret
        exact ⟨ret_bool HG.out, HE3.out.b⟩
    · have t0 : (g.pc == 0) = false := by simp; omega
      clear hz
      have H : Hid (¬ Gok s p l g) := fun h => by
        have k := h.2.1.1.2 (by omega)
        rw [hbz.out] at k
        cases k
      have c_busy : w1.cell? ⟨w.heap.size + 1, 3, none⟩ = some (.bool false) := by rw [← hbz.out]; exact HE1.out.r 3 _ rfl
      have c_pc : w1.cell? ⟨w.heap.size + 1, 8, none⟩ = some (.int .i64 g.pc) := HE1.out.r 8 _ rfl
      have c_os : w1.cell? ⟨w.heap.size + 1, 5, none⟩ = some (.int .i64 g.os) := HE1.out.r 5 _ rfl
      have c_slot : w1.cell? ⟨w.heap.size + 1, 1, none⟩ = some (.int .i64 g.slot) := HE1.out.r 1 _ rfl
      clear hok
      go_wp2_with (fail)
      go_ret
      exact ⟨ret_bool (boolOf_f H.out), HE1.out.b⟩
  · have hbz : Hid (g.busy = true) := hz
    by_cases hp : 0 ≤ g.pc ∧ g.pc ≤ 0
    · have t0 : (g.pc == 0) = true := by simp; omega
      clear hz
      have H : Hid (¬ Gok s p l g) := fun h => by
        have k := h.2.1.1.1 hbz.out
        omega
      have c_busy : w1.cell? ⟨w.heap.size + 1, 3, none⟩ = some (.bool true) := by rw [← hbz.out]; exact HE1.out.r 3 _ rfl
      have c_pc : w1.cell? ⟨w.heap.size + 1, 8, none⟩ = some (.int .i64 g.pc) := HE1.out.r 8 _ rfl
      have c_os : w1.cell? ⟨w.heap.size + 1, 5, none⟩ = some (.int .i64 g.os) := HE1.out.r 5 _ rfl
      have c_slot : w1.cell? ⟨w.heap.size + 1, 1, none⟩ = some (.int .i64 g.slot) := HE1.out.r 1 _ rfl
      clear hok
      go_wp2_with (fail)
      go_ret
      exact ⟨ret_bool (boolOf_f H.out), HE1.out.b⟩
    · have t0 : (g.pc == 0) = false := by simp; omega
      by_cases hs : g.slot ≤ g.os ∧ g.os ≤ g.slot
      · have t1 : (g.os != g.slot) = false := by simp; omega
        clear hz
        have HP : Hid (Placed g) := ⟨by rw [hbz.out]; simp; omega, .inr (by omega)⟩
        have c_busy : w1.cell? ⟨w.heap.size + 1, 3, none⟩ = some (.bool true) := by rw [← hbz.out]; exact HE1.out.r 3 _ rfl
        have c_pc : w1.cell? ⟨w.heap.size + 1, 8, none⟩ = some (.int .i64 g.pc) := HE1.out.r 8 _ rfl
        have c_os : w1.cell? ⟨w.heap.size + 1, 5, none⟩ = some (.int .i64 g.os) := HE1.out.r 5 _ rfl
        have c_slot : w1.cell? ⟨w.heap.size + 1, 1, none⟩ = some (.int .i64 g.slot) := HE1.out.r 1 _ rfl
        have q0 : w1.cell? ⟨w.heap.size, 0, none⟩ = some (.int .i64 s) := HE1.out.c 0 _ rfl
        have q1 : w1.cell? ⟨w.heap.size, 1, none⟩ = some (.int .i64 p) := HE1.out.c 1 _ rfl
        have q2 : w1.cell? ⟨w.heap.size, 2, none⟩ = some (.int .i64 l) := HE1.out.c 2 _ rfl
        have HR : Hid (World.rangeAt w1 (w.heap.size + 1) 0 g.cells) := HE1.out.r
        have HOK : Hid (okB s p l = true) := hok
        clear hok
        go_wp2_with (refine wpList_load_mid rfl 53 _ rfl (w.heap.size + 1) 0 rfl g.cells _ HR.out Try.underlying53 rfl (by kernel_rfl) ?_)
        refine (sfields_any s p l g w1 K).mono ?_
        rintro e w2 ⟨rfl, hb⟩
        have HE2 : Hid (Eg w s p l g w2) := HE1.out.later hb
        clear hb c_busy c_pc c_os c_slot q0 q1 q2 HE1 HR
        by_cases hf : Fields s p g
        case neg =>
          rw [← boolOf_f hf]
          have H : Hid (¬ Gok s p l g) := fun h => hf h.2.2.1
          clear hf
          go_wp2_with (fail)
          go_ret
          exact ⟨ret_bool (boolOf_f H.out), HE2.out.b⟩
        rw [← boolOf_t hf]
        have HF : Hid (Fields s p g) := hf
        clear hf
        have q0 : w2.cell? ⟨w.heap.size, 0, none⟩ = some (.int .i64 s) := HE2.out.c 0 _ rfl
        have q1 : w2.cell? ⟨w.heap.size, 1, none⟩ = some (.int .i64 p) := HE2.out.c 1 _ rfl
        have q2 : w2.cell? ⟨w.heap.size, 2, none⟩ = some (.int .i64 l) := HE2.out.c 2 _ rfl
        have HR : Hid (World.rangeAt w2 (w.heap.size + 1) 0 g.cells) := HE2.out.r
        go_wp2_with (refine Book.wpList_load_wanted (by rfl) 53 _ rfl (w.heap.size + 1) 0 rfl g.cells _ HR.out Try.underlying53 rfl (by kernel_rfl) ?_)
        refine (splace_any s p l g w2 K).mono ?_
        rintro e w3 ⟨rfl, hb⟩
        have HE3 : Hid (Eg w s p l g w3) := HE2.out.later hb
        clear hb q0 q1 q2 HE2 HR
        have HG : Hid (boolOf (Place s p g) = boolOf (Gok s p l g)) := by
          show boolOf (Place s p g) = boolOf (Gok s p l g)
          by_cases hp : Place s p g
          · rw [← boolOf_t hp, ← boolOf_t (show Gok s p l g from ⟨HOK.out, HP.out, HF.out, hp⟩)]
          · rw [← boolOf_f hp, ← boolOf_f (fun h : Gok s p l g => hp h.2.2.2)]
        go_wp2_with (fail)
        go_ret
        exact ⟨ret_bool HG.out, HE3.out.b⟩
      · have t1 : (g.os != g.slot) = true := by simp; omega
        clear hz
        have H : Hid (¬ Gok s p l g) := fun h => by
          rcases h.2.1.2 with k | k
          · rw [hbz.out] at k; cases k
          · omega
        have c_busy : w1.cell? ⟨w.heap.size + 1, 3, none⟩ = some (.bool true) := by rw [← hbz.out]; exact HE1.out.r 3 _ rfl
        have c_pc : w1.cell? ⟨w.heap.size + 1, 8, none⟩ = some (.int .i64 g.pc) := HE1.out.r 8 _ rfl
        have c_os : w1.cell? ⟨w.heap.size + 1, 5, none⟩ = some (.int .i64 g.os) := HE1.out.r 5 _ rfl
        have c_slot : w1.cell? ⟨w.heap.size + 1, 1, none⟩ = some (.int .i64 g.slot) := HE1.out.r 1 _ rfl
        clear hok
        go_wp2_with (fail)
        go_ret
        exact ⟨ret_bool (boolOf_f H.out), HE1.out.b⟩

end Go.Proofs.Ytpfgldbmihbiiaa.Gs

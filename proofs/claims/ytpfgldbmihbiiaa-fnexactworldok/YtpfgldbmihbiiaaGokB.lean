/- The bounds of a guest's numbers, as the specification tests them (5 to 8). Conditions: none. -/
import Derived.Test.YtpfgldbmihbiiaaGx
namespace Go.Proofs.Ytpfgldbmihbiiaa.Gs
open Go.ChangeShapes Go.WideShapes Go.ChangeAt Go.RowKit
open Go.Proofs.Ytpfgldbmihbiiaa.Aid Go.Proofs.Ytpfgldbmihbiiaa.Lst Go.Proofs.Ytpfgldbmihbiiaa.Plat
open Go.Proofs.Ytpfgldbmihbiiaa.Book (Sx)
set_option maxRecDepth 100000
set_option linter.unusedVariables false

set_option maxHeartbeats 8000000 in
theorem sfields_B (s p l : Int) (g : Gx) (w : World) (hok : 1 ≤ s ∧ s ≤ 4 ∧ 1 ≤ p ∧ p ≤ 6 ∧ 1 ≤ l ∧ l ≤ 20)
    (h1 : ¬ (g.slot < 0))
    (h2 : ¬ (s ≤ g.slot))
    (h3 : ¬ (g.epoch < 0))
    (h4 : ¬ (4095 < g.epoch))
    (hx : g.next < 0 ∨ 4095 < g.next ∨ g.pc < 0 ∨ 26 < g.pc) :
    Calls Try.prog 34 #[.agg #[.int .i64 s, .int .i64 p, .int .i64 l], .agg g.cells.toArray] w fun e w' => e = .returned (.bool (boolOf (Fields s p g))) ∧ Below w.heap.size w w' := by
  by_cases h5 : g.next < 0
  · have H : Hid (¬ Fields s p g) := fun h => by unfold Fields at h; omega
    have E := Eg.start w s p l g 45 53
    have q0 : ((w.alloc (.cells #[.int .i64 s, .int .i64 p, .int .i64 l] 45)).alloc (.cells g.cells.toArray 53)).cell? ⟨w.heap.size, 0, none⟩ = some (.int .i64 s) := E.c 0 _ rfl
    have q1 : ((w.alloc (.cells #[.int .i64 s, .int .i64 p, .int .i64 l] 45)).alloc (.cells g.cells.toArray 53)).cell? ⟨w.heap.size, 1, none⟩ = some (.int .i64 p) := E.c 1 _ rfl
    have q2 : ((w.alloc (.cells #[.int .i64 s, .int .i64 p, .int .i64 l] 45)).alloc (.cells g.cells.toArray 53)).cell? ⟨w.heap.size, 2, none⟩ = some (.int .i64 l) := E.c 2 _ rfl
    have c_slot : ((w.alloc (.cells #[.int .i64 s, .int .i64 p, .int .i64 l] 45)).alloc (.cells g.cells.toArray 53)).cell? ⟨w.heap.size + 1, 1, none⟩ = some (.int .i64 g.slot) := E.r 1 _ rfl
    have c_epoch : ((w.alloc (.cells #[.int .i64 s, .int .i64 p, .int .i64 l] 45)).alloc (.cells g.cells.toArray 53)).cell? ⟨w.heap.size + 1, 2, none⟩ = some (.int .i64 g.epoch) := E.r 2 _ rfl
    have c_next : ((w.alloc (.cells #[.int .i64 s, .int .i64 p, .int .i64 l] 45)).alloc (.cells g.cells.toArray 53)).cell? ⟨w.heap.size + 1, 12, none⟩ = some (.int .i64 g.next) := E.r 12 _ rfl
    have c_pc : ((w.alloc (.cells #[.int .i64 s, .int .i64 p, .int .i64 l] 45)).alloc (.cells g.cells.toArray 53)).cell? ⟨w.heap.size + 1, 8, none⟩ = some (.int .i64 g.pc) := E.r 8 _ rfl
    have c_seq : ((w.alloc (.cells #[.int .i64 s, .int .i64 p, .int .i64 l] 45)).alloc (.cells g.cells.toArray 53)).cell? ⟨w.heap.size + 1, 11, none⟩ = some (.int .i64 g.seq) := E.r 11 _ rfl
    have c_who : ((w.alloc (.cells #[.int .i64 s, .int .i64 p, .int .i64 l] 45)).alloc (.cells g.cells.toArray 53)).cell? ⟨w.heap.size + 1, 13, none⟩ = some (.int .i64 g.who) := E.r 13 _ rfl
    have c_whoE : ((w.alloc (.cells #[.int .i64 s, .int .i64 p, .int .i64 l] 45)).alloc (.cells g.cells.toArray 53)).cell? ⟨w.heap.size + 1, 14, none⟩ = some (.int .i64 g.whoE) := E.r 14 _ rfl
    have B := E.b
    clear E
    go_enter Try.func34, Try.ntmps34
    go_wp2_with (fail)
    go_ret
    exact ⟨ret_bool (boolOf_f H.out), B⟩
  by_cases h6 : 4095 < g.next
  · have H : Hid (¬ Fields s p g) := fun h => by unfold Fields at h; omega
    have E := Eg.start w s p l g 45 53
    have q0 : ((w.alloc (.cells #[.int .i64 s, .int .i64 p, .int .i64 l] 45)).alloc (.cells g.cells.toArray 53)).cell? ⟨w.heap.size, 0, none⟩ = some (.int .i64 s) := E.c 0 _ rfl
    have q1 : ((w.alloc (.cells #[.int .i64 s, .int .i64 p, .int .i64 l] 45)).alloc (.cells g.cells.toArray 53)).cell? ⟨w.heap.size, 1, none⟩ = some (.int .i64 p) := E.c 1 _ rfl
    have q2 : ((w.alloc (.cells #[.int .i64 s, .int .i64 p, .int .i64 l] 45)).alloc (.cells g.cells.toArray 53)).cell? ⟨w.heap.size, 2, none⟩ = some (.int .i64 l) := E.c 2 _ rfl
    have c_slot : ((w.alloc (.cells #[.int .i64 s, .int .i64 p, .int .i64 l] 45)).alloc (.cells g.cells.toArray 53)).cell? ⟨w.heap.size + 1, 1, none⟩ = some (.int .i64 g.slot) := E.r 1 _ rfl
    have c_epoch : ((w.alloc (.cells #[.int .i64 s, .int .i64 p, .int .i64 l] 45)).alloc (.cells g.cells.toArray 53)).cell? ⟨w.heap.size + 1, 2, none⟩ = some (.int .i64 g.epoch) := E.r 2 _ rfl
    have c_next : ((w.alloc (.cells #[.int .i64 s, .int .i64 p, .int .i64 l] 45)).alloc (.cells g.cells.toArray 53)).cell? ⟨w.heap.size + 1, 12, none⟩ = some (.int .i64 g.next) := E.r 12 _ rfl
    have c_pc : ((w.alloc (.cells #[.int .i64 s, .int .i64 p, .int .i64 l] 45)).alloc (.cells g.cells.toArray 53)).cell? ⟨w.heap.size + 1, 8, none⟩ = some (.int .i64 g.pc) := E.r 8 _ rfl
    have c_seq : ((w.alloc (.cells #[.int .i64 s, .int .i64 p, .int .i64 l] 45)).alloc (.cells g.cells.toArray 53)).cell? ⟨w.heap.size + 1, 11, none⟩ = some (.int .i64 g.seq) := E.r 11 _ rfl
    have c_who : ((w.alloc (.cells #[.int .i64 s, .int .i64 p, .int .i64 l] 45)).alloc (.cells g.cells.toArray 53)).cell? ⟨w.heap.size + 1, 13, none⟩ = some (.int .i64 g.who) := E.r 13 _ rfl
    have c_whoE : ((w.alloc (.cells #[.int .i64 s, .int .i64 p, .int .i64 l] 45)).alloc (.cells g.cells.toArray 53)).cell? ⟨w.heap.size + 1, 14, none⟩ = some (.int .i64 g.whoE) := E.r 14 _ rfl
    have B := E.b
    clear E
    go_enter Try.func34, Try.ntmps34
    go_wp2_with (fail)
    go_ret
    exact ⟨ret_bool (boolOf_f H.out), B⟩
  by_cases h7 : g.pc < 0
  · have H : Hid (¬ Fields s p g) := fun h => by unfold Fields at h; omega
    have E := Eg.start w s p l g 45 53
    have q0 : ((w.alloc (.cells #[.int .i64 s, .int .i64 p, .int .i64 l] 45)).alloc (.cells g.cells.toArray 53)).cell? ⟨w.heap.size, 0, none⟩ = some (.int .i64 s) := E.c 0 _ rfl
    have q1 : ((w.alloc (.cells #[.int .i64 s, .int .i64 p, .int .i64 l] 45)).alloc (.cells g.cells.toArray 53)).cell? ⟨w.heap.size, 1, none⟩ = some (.int .i64 p) := E.c 1 _ rfl
    have q2 : ((w.alloc (.cells #[.int .i64 s, .int .i64 p, .int .i64 l] 45)).alloc (.cells g.cells.toArray 53)).cell? ⟨w.heap.size, 2, none⟩ = some (.int .i64 l) := E.c 2 _ rfl
    have c_slot : ((w.alloc (.cells #[.int .i64 s, .int .i64 p, .int .i64 l] 45)).alloc (.cells g.cells.toArray 53)).cell? ⟨w.heap.size + 1, 1, none⟩ = some (.int .i64 g.slot) := E.r 1 _ rfl
    have c_epoch : ((w.alloc (.cells #[.int .i64 s, .int .i64 p, .int .i64 l] 45)).alloc (.cells g.cells.toArray 53)).cell? ⟨w.heap.size + 1, 2, none⟩ = some (.int .i64 g.epoch) := E.r 2 _ rfl
    have c_next : ((w.alloc (.cells #[.int .i64 s, .int .i64 p, .int .i64 l] 45)).alloc (.cells g.cells.toArray 53)).cell? ⟨w.heap.size + 1, 12, none⟩ = some (.int .i64 g.next) := E.r 12 _ rfl
    have c_pc : ((w.alloc (.cells #[.int .i64 s, .int .i64 p, .int .i64 l] 45)).alloc (.cells g.cells.toArray 53)).cell? ⟨w.heap.size + 1, 8, none⟩ = some (.int .i64 g.pc) := E.r 8 _ rfl
    have c_seq : ((w.alloc (.cells #[.int .i64 s, .int .i64 p, .int .i64 l] 45)).alloc (.cells g.cells.toArray 53)).cell? ⟨w.heap.size + 1, 11, none⟩ = some (.int .i64 g.seq) := E.r 11 _ rfl
    have c_who : ((w.alloc (.cells #[.int .i64 s, .int .i64 p, .int .i64 l] 45)).alloc (.cells g.cells.toArray 53)).cell? ⟨w.heap.size + 1, 13, none⟩ = some (.int .i64 g.who) := E.r 13 _ rfl
    have c_whoE : ((w.alloc (.cells #[.int .i64 s, .int .i64 p, .int .i64 l] 45)).alloc (.cells g.cells.toArray 53)).cell? ⟨w.heap.size + 1, 14, none⟩ = some (.int .i64 g.whoE) := E.r 14 _ rfl
    have B := E.b
    clear E
    go_enter Try.func34, Try.ntmps34
    go_wp2_with (fail)
    go_ret
    exact ⟨ret_bool (boolOf_f H.out), B⟩
  have h8 : 26 < g.pc := by omega
  have H : Hid (¬ Fields s p g) := fun h => by unfold Fields at h; omega
  have E := Eg.start w s p l g 45 53
  have q0 : ((w.alloc (.cells #[.int .i64 s, .int .i64 p, .int .i64 l] 45)).alloc (.cells g.cells.toArray 53)).cell? ⟨w.heap.size, 0, none⟩ = some (.int .i64 s) := E.c 0 _ rfl
  have q1 : ((w.alloc (.cells #[.int .i64 s, .int .i64 p, .int .i64 l] 45)).alloc (.cells g.cells.toArray 53)).cell? ⟨w.heap.size, 1, none⟩ = some (.int .i64 p) := E.c 1 _ rfl
  have q2 : ((w.alloc (.cells #[.int .i64 s, .int .i64 p, .int .i64 l] 45)).alloc (.cells g.cells.toArray 53)).cell? ⟨w.heap.size, 2, none⟩ = some (.int .i64 l) := E.c 2 _ rfl
  have c_slot : ((w.alloc (.cells #[.int .i64 s, .int .i64 p, .int .i64 l] 45)).alloc (.cells g.cells.toArray 53)).cell? ⟨w.heap.size + 1, 1, none⟩ = some (.int .i64 g.slot) := E.r 1 _ rfl
  have c_epoch : ((w.alloc (.cells #[.int .i64 s, .int .i64 p, .int .i64 l] 45)).alloc (.cells g.cells.toArray 53)).cell? ⟨w.heap.size + 1, 2, none⟩ = some (.int .i64 g.epoch) := E.r 2 _ rfl
  have c_next : ((w.alloc (.cells #[.int .i64 s, .int .i64 p, .int .i64 l] 45)).alloc (.cells g.cells.toArray 53)).cell? ⟨w.heap.size + 1, 12, none⟩ = some (.int .i64 g.next) := E.r 12 _ rfl
  have c_pc : ((w.alloc (.cells #[.int .i64 s, .int .i64 p, .int .i64 l] 45)).alloc (.cells g.cells.toArray 53)).cell? ⟨w.heap.size + 1, 8, none⟩ = some (.int .i64 g.pc) := E.r 8 _ rfl
  have c_seq : ((w.alloc (.cells #[.int .i64 s, .int .i64 p, .int .i64 l] 45)).alloc (.cells g.cells.toArray 53)).cell? ⟨w.heap.size + 1, 11, none⟩ = some (.int .i64 g.seq) := E.r 11 _ rfl
  have c_who : ((w.alloc (.cells #[.int .i64 s, .int .i64 p, .int .i64 l] 45)).alloc (.cells g.cells.toArray 53)).cell? ⟨w.heap.size + 1, 13, none⟩ = some (.int .i64 g.who) := E.r 13 _ rfl
  have c_whoE : ((w.alloc (.cells #[.int .i64 s, .int .i64 p, .int .i64 l] 45)).alloc (.cells g.cells.toArray 53)).cell? ⟨w.heap.size + 1, 14, none⟩ = some (.int .i64 g.whoE) := E.r 14 _ rfl
  have B := E.b
  clear E
  go_enter Try.func34, Try.ntmps34
  go_wp2_with (fail)
  go_ret
  exact ⟨ret_bool (boolOf_f H.out), B⟩

end Go.Proofs.Ytpfgldbmihbiiaa.Gs

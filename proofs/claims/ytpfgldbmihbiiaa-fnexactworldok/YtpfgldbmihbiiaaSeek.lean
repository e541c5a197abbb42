/- One word is sought: the program's way by a recovered panic, and the specification's. Conditions: none. -/
import Derived.Test.YtpfgldbmihbiiaaLst
import Derived.Defers
import Derived.Recover
import Derived.Laws.Panics
namespace Go.Proofs.Ytpfgldbmihbiiaa.Plat
open Go.ChangeShapes Go.WideShapes Go.ChangeAt Go.RowKit
open Go.Proofs.Ytpfgldbmihbiiaa.Aid Go.Proofs.Ytpfgldbmihbiiaa.Lst

set_option maxRecDepth 100000 in
theorem seek_caught (p q : Addr) (x : Int) (y : Bool) (u : TypeId) (pv : Value) (older : List PanicEntry) (w : World) (hne : p ≠ q) (hc : w.cell? p = some (.int .u64 x)) (hz : w.frozen? p = false) (hd : w.cell? q = some (.bool y)) (hy : w.frozen? q = false) :
    CallsD Try.prog 53 #[.pointer (some p), .pointer (some q)] (.panicking ({ v := .iface u pv, recovered := false } :: older)) w fun e u' w' =>
      e = .returned (.tuple #[]) ∧ u' = .panicking ({ v := .iface u pv, recovered := true } :: older) ∧ w' = (w.setCell p (.int .u64 0)).setCell q (.bool false) := by
  have hd' : (w.setCell p (.int .u64 0)).cell? q = some (.bool y) := by rw [World.cell?_setCell_other _ _ _ _ hne]; exact hd
  refine callsD_of_wpS Try.func53 rfl fun c₀ cs hu => ?_
  apply wpS_seq
  apply wpS_region
  simp [wpOpsS, go_sem, recoverD, hu, Try.ntmps53, Exit.thenS]
  refine wpS_cond (t := true) (by simp [Act.eval, Array.replicate]) ?_
  simp only [if_true]
  apply wpS_region
  simp [wpOpsS, go_sem, hc, hz, hd', hy, bodyPostS, results, Try.results53]

set_option maxRecDepth 100000 in
theorem seek_idle (p q : Addr) (w : World) :
    CallsD Try.prog 53 #[.pointer (some p), .pointer (some q)] .returning w fun e u' w' => e = .returned (.tuple #[]) ∧ u' = .returning ∧ w' = w := by
  refine callsD_of_wpS Try.func53 rfl fun c₀ cs hu => ?_
  apply wpS_seq
  apply wpS_region
  simp [wpOpsS, go_sem, recoverD, hu, Try.ntmps53, Exit.thenS]
  refine wpS_cond (t := false) (by simp [Act.eval, Array.replicate]) ?_
  simp only [Bool.false_eq_true, if_false]
  refine wpS_of_wp (wp_skip ?_)
  cases c₀
  simp_all [bodyPostS, results, Try.results53]

theorem bounds_out {α : Type} (P : Program) (w : World) (k : IntKind) (x y : Int) (code : BoundsCode) :
    ∃ s q, (boundsPanic k x y code : Sem α).run P w = .halt (.panic (boundsValue P (IntKind.i64.wrap x) y s code.toNat)) (w.drewN q) := by
  unfold boundsPanic boundsValue
  split
  · have h : ∃ s, ((do let signed ← (· == 1) <$> choose (.extern "runtime.boundsError.signed" 2); runtimePanic (.bounds (IntKind.i64.wrap x) y signed code)) : Sem α).run P w = .halt (.panic (.iface P.rt.boundsError (.agg #[.int .i64 (IntKind.i64.wrap x), .int .i64 y, .bool s, .int .u8 code.toNat]))) w.drew := by
      simp [runtimePanic, goPanic, go_sem]
    obtain ⟨s, h⟩ := h
    exact ⟨s, 1, h⟩
  · refine ⟨(k != .u64), 0, ?_⟩
    simp [runtimePanic, goPanic, go_sem]
    rfl

theorem index_out {P : Program} (w : World) (t : TypeId) (a0 : Option Addr) (len cap : Nat) (k : IntKind) (i : Int) (h : P.underlying t = some (.slice (P.elem t))) (hnil : a0 = none → len = 0) (ho : i < 0 ∨ (len : Int) ≤ i) :
    ∃ s q, (Instr.indexAt t (.slice a0 len cap) (.int k i)).run P w = .halt (.panic (boundsValue P (IntKind.i64.wrap i) len s 0)) (w.drewN q) := by
  cases a0 with
  | some a =>
    rw [run_indexAt_slice (h := h), if_neg (by omega)]
    exact bounds_out P w k i len .index
  | none =>
    obtain rfl := hnil rfl
    have e : (Instr.indexAt t (.slice none 0 cap) (.int k i)).run P w = (boundsPanic k i 0 .index).run P w := by
      simp [Instr.indexAt, run_underlying h, asIntOf]
    rw [e]
    exact bounds_out P w k i 0 .index

set_option maxRecDepth 100000 in
theorem seek_out (a : Option Addr) (n cap : Nat) (i : Int) (w : World) (hnil : a = none → n = 0) (h : i < 0 ∨ (n : Int) ≤ i) :
    Calls Try.prog 48 #[.slice a n cap, .int .i64 i] w fun e w' => e = .returned (.tuple #[.int .u64 0, .bool false]) ∧ Below w.heap.size w w' := by
  have hmf : ∀ (fn : Fn) (first cap : Array Value) (w : World), (Instr.makeFunc fn first cap).run Try.prog w = .ok (.func fn first cap) w := fun _ _ _ _ => rfl
  obtain ⟨s, q, hix⟩ := index_out (P := Try.prog) ((w.alloc (.cells #[.int .u64 0] 51)).alloc (.cells #[.bool false] 4)) 22 a n cap .i64 i Try.underlying22 hnil h
  unfold boundsValue at hix
  clear h hnil
  go_enter_defers Try.func48, Try.ntmps48
  go_wp2
  refine leaves_cons (f := 53) (args := #[.pointer (some ⟨w.heap.size, 0, none⟩), .pointer (some ⟨w.heap.size + 1, 0, none⟩)]) (by simp) (by simp [go_sem]) ?_
  refine (seek_caught ⟨w.heap.size, 0, none⟩ ⟨w.heap.size + 1, 0, none⟩ 0 false _ _ [] _ (by simp) ?_ ?_ ?_ ?_).mono ?_
  · simp [go_sem]
  · simp [go_sem]
  · simp [go_sem]
  · simp [go_sem]
  rintro e u' w'' ⟨rfl, rfl, rfl⟩
  simp [Leaves, settle, results, Try.results48, go_sem]
  have b := below2 w (.cells #[.int .u64 0] 51) (.cells #[.bool false] 4)
  exact ((show Below w.heap.size w (((w.alloc (.cells #[.int .u64 0] 51)).alloc (.cells #[.bool false] 4)).drewN q) from ⟨b.os, b.tape, b.output, b.size, b.block⟩).setCell (Nat.le_refl _) _).setCell (Nat.le_succ _) _

set_option maxRecDepth 100000 in
theorem seek_in (b off n cap : Nat) (i : Nat) (x : Int) (w : World) (h : i < n) (hc : w.cell? ⟨b, off + i, none⟩ = some (.int .u64 x)) (_hn : n ≤ 1000000000) :
    Calls Try.prog 48 #[.slice (some ⟨b, off, none⟩) n cap, .int .i64 i] w fun e w' => e = .returned (.tuple #[.int .u64 x, .bool true]) ∧ Below w.heap.size w w' := by
  have hmf : ∀ (fn : Fn) (first cap : Array Value) (w : World), (Instr.makeFunc fn first cap).run Try.prog w = .ok (.func fn first cap) w := fun _ _ _ _ => rfl
  have hi : (i : Int) < n := by omega
  have hb := World.block_lt_of_cell? w _ hc
  simp at hb
  go_enter_defers Try.func48, Try.ntmps48
  go_wp2
  refine leaves_cons (f := 53) (args := #[.pointer (some ⟨w.heap.size, 0, none⟩), .pointer (some ⟨w.heap.size + 1, 0, none⟩)]) (by simp) (by simp [go_sem]) ?_
  refine (seek_idle ⟨w.heap.size, 0, none⟩ ⟨w.heap.size + 1, 0, none⟩ _).mono ?_
  rintro e u' w'' ⟨rfl, rfl, rfl⟩
  simp [Leaves, settle, results, Try.results48, go_sem]
  exact below2 _ _ _

/- What a list has at a place; 0, if there is none. -/
def getF (n : Nat) (f : Nat → Int) (i : Int) : Int := if 0 ≤ i ∧ i < n then f i.toNat else 0
def inB (n : Nat) (i : Int) : Bool := decide (0 ≤ i ∧ i < n)

theorem seek_any (a : Option Addr) (n cap : Nat) (f : Nat → Int) (i : Int) (w : World) (h : Sl .u64 w a n f) (hnil : a = none → n = 0) (hn : n ≤ 1000000000) :
    Calls Try.prog 48 #[.slice a n cap, .int .i64 i] w fun e w' => e = .returned (.tuple #[.int .u64 (getF n f i), .bool (inB n i)]) ∧ Below w.heap.size w w' := by
  by_cases hi : 0 ≤ i ∧ i < n
  · rcases h with h | ⟨b, off, rfl, h⟩
    · omega
    · obtain ⟨j, rfl⟩ := Int.eq_ofNat_of_zero_le hi.1
      refine (seek_in b off n cap j (f j) w (by omega) (h j (by omega)) hn).mono fun e w' ⟨he, hw⟩ => ⟨?_, hw⟩
      rw [he]; unfold getF inB; rw [if_pos hi, decide_eq_true hi]; rfl
  · refine (seek_out a n cap i w hnil (by omega)).mono fun e w' ⟨he, hw⟩ => ⟨?_, hw⟩
    rw [he]; unfold getF inB; rw [if_neg hi, decide_eq_false hi]

end Go.Proofs.Ytpfgldbmihbiiaa.Plat

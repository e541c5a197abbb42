import Derived.Test.YtipbijcmpbefpaaGreatM1
import Derived.Defers
import Derived.Recover
import Derived.Laws.Panics
import Derived.Test.YtipbijcmpbefpaaGreatM8

/- One word is sought: the program's way by a recovered panic, and the specification's. Conditions: none. -/
namespace Go.Proofs.YtipbijcmpbefpaaGreat.Plat
open Go.ChangeShapes Go.WideShapes Go.ChangeAt Go.RowKit
open Go.Proofs.YtipbijcmpbefpaaGreat.Aid Go.Proofs.YtipbijcmpbefpaaGreat.Lst

set_option maxRecDepth 100000 in
theorem seek_caught (p q : Addr) (x : Int) (y : Bool) (u : TypeId) (pv : Value) (older : List PanicEntry) (w : World) (hne : p ≠ q) (hc : w.cell? p = some (.int .u64 x)) (hz : w.frozen? p = false) (hd : w.cell? q = some (.bool y)) (hy : w.frozen? q = false) :
    CallsD Tryz.prog 144 #[.pointer (some p), .pointer (some q)] (.panicking ({ v := .iface u pv, recovered := false } :: older)) w fun e u' w' =>
      e = .returned (.tuple #[]) ∧ u' = .panicking ({ v := .iface u pv, recovered := true } :: older) ∧ w' = (w.setCell p (.int .u64 0)).setCell q (.bool false) := by
  have hd' : (w.setCell p (.int .u64 0)).cell? q = some (.bool y) := by rw [World.cell?_setCell_other _ _ _ _ hne]; exact hd
  refine callsD_of_wpS Tryz.func144 rfl fun c₀ cs hu => ?_
  apply wpS_seq
  apply wpS_region
  simp [wpOpsS, go_sem, recoverD, hu, Tryz.ntmps144, Exit.thenS]
  refine wpS_cond (t := true) (by simp [Act.eval, Array.replicate]) ?_
  simp only [if_true]
  apply wpS_region
  simp [wpOpsS, go_sem, hc, hz, hd', hy, bodyPostS, results, Tryz.results144]

set_option maxRecDepth 100000 in
theorem seek_idle (p q : Addr) (w : World) :
    CallsD Tryz.prog 144 #[.pointer (some p), .pointer (some q)] .returning w fun e u' w' => e = .returned (.tuple #[]) ∧ u' = .returning ∧ w' = w := by
  refine callsD_of_wpS Tryz.func144 rfl fun c₀ cs hu => ?_
  apply wpS_seq
  apply wpS_region
  simp [wpOpsS, go_sem, recoverD, hu, Tryz.ntmps144, Exit.thenS]
  refine wpS_cond (t := false) (by simp [Act.eval, Array.replicate]) ?_
  simp only [Bool.false_eq_true, if_false]
  refine wpS_of_wp (wp_skip ?_)
  cases c₀
  simp_all [bodyPostS, results, Tryz.results144]

theorem bounds_out {α : Type} (P : Program) (w : World) (k : IntKind) (x y : Int) (code : BoundsCode) :
    ∃ s q, (boundsPanic k x y code : Sem α).run P w = .halt (.panic (boundsValue P (IntKind.i64.wrap x) y s code.toNat)) (w.drewN q) := by
  unfold boundsPanic boundsValue
  split
  · have h : ∃ s, ((do let signed ← (· == 1) <$> choose (.extern "runtime.boundsError.signed" 2); runtimePanic (.bounds (IntKind.i64.wrap x) y signed code)) : Sem α).run P w = .halt (.panic (.iface P.rt.boundsError (.agg #[.int .i64 (IntKind.i64.wrap x), .int .i64 y, .bool s, .int .u8 code.toNat]))) w.drew := by
      simp [runtimePanic, goPanic, go_sem]
    obtain ⟨s, h⟩ := h
    exact ⟨s, 1, h⟩
  · refine ⟨(k != .u64), 0, ?_⟩
    simp [runtimePanic, goPanic, go_sem]
    rfl

theorem index_out {P : Program} (w : World) (t : TypeId) (a0 : Option Addr) (len cap : Nat) (k : IntKind) (i : Int) (h : P.underlying t = some (.slice (P.elem t))) (hnil : a0 = none → len = 0) (ho : i < 0 ∨ (len : Int) ≤ i) :
    ∃ s q, (Instr.indexAt t (.slice a0 len cap) (.int k i)).run P w = .halt (.panic (boundsValue P (IntKind.i64.wrap i) len s 0)) (w.drewN q) := by
  cases a0 with
  | some a =>
    rw [run_indexAt_slice (h := h), if_neg (by omega)]
    exact bounds_out P w k i len .index
  | none =>
    obtain rfl := hnil rfl
    have e : (Instr.indexAt t (.slice none 0 cap) (.int k i)).run P w = (boundsPanic k i 0 .index).run P w := by
      simp [Instr.indexAt, run_underlying h, asIntOf]
    rw [e]
    exact bounds_out P w k i 0 .index

set_option maxRecDepth 100000 in
theorem seek_out (a : Option Addr) (n cap : Nat) (i : Int) (w : World) (hnil : a = none → n = 0) (h : i < 0 ∨ (n : Int) ≤ i) :
    Calls Tryz.prog 122 #[.slice a n cap, .int .i64 i] w fun e w' => e = .returned (.tuple #[.int .u64 0, .bool false]) ∧ Below w.heap.size w w' := by
  have hmf : ∀ (fn : Fn) (first cap : Array Value) (w : World), (Instr.makeFunc fn first cap).run Tryz.prog w = .ok (.func fn first cap) w := fun _ _ _ _ => rfl
  obtain ⟨s, q, hix⟩ := index_out (P := Tryz.prog) ((w.alloc (.cells #[.int .u64 0] 44)).alloc (.cells #[.bool false] 4)) 34 a n cap .i64 i Tryz.underlying34 hnil h
  unfold boundsValue at hix
  clear h hnil
  go_enter_defers Tryz.func122, Tryz.ntmps122
  go_wp2
  refine leaves_cons (f := 144) (args := #[.pointer (some ⟨w.heap.size, 0, none⟩), .pointer (some ⟨w.heap.size + 1, 0, none⟩)]) (by simp) (by simp [go_sem]) ?_
  refine (seek_caught ⟨w.heap.size, 0, none⟩ ⟨w.heap.size + 1, 0, none⟩ 0 false _ _ [] _ (by simp) ?_ ?_ ?_ ?_).mono ?_
  · simp [go_sem]
  · simp [go_sem]
  · simp [go_sem]
  · simp [go_sem]
  rintro e u' w'' ⟨rfl, rfl, rfl⟩
  simp [Leaves, settle, results, Tryz.results122, go_sem]
  have b := below2 w (.cells #[.int .u64 0] 44) (.cells #[.bool false] 4)
  exact ((show Below w.heap.size w (((w.alloc (.cells #[.int .u64 0] 44)).alloc (.cells #[.bool false] 4)).drewN q) from ⟨b.os, b.tape, b.output, b.size, b.block⟩).setCell (Nat.le_refl _) _).setCell (Nat.le_succ _) _

set_option maxRecDepth 100000 in
theorem seek_in (b off n cap : Nat) (i : Nat) (x : Int) (w : World) (h : i < n) (hc : w.cell? ⟨b, off + i, none⟩ = some (.int .u64 x)) (_hn : n ≤ 1000000000) :
    Calls Tryz.prog 122 #[.slice (some ⟨b, off, none⟩) n cap, .int .i64 i] w fun e w' => e = .returned (.tuple #[.int .u64 x, .bool true]) ∧ Below w.heap.size w w' := by
  have hmf : ∀ (fn : Fn) (first cap : Array Value) (w : World), (Instr.makeFunc fn first cap).run Tryz.prog w = .ok (.func fn first cap) w := fun _ _ _ _ => rfl
  have hi : (i : Int) < n := by omega
  have hb := World.block_lt_of_cell? w _ hc
  simp at hb
  go_enter_defers Tryz.func122, Tryz.ntmps122
  go_wp2
  refine leaves_cons (f := 144) (args := #[.pointer (some ⟨w.heap.size, 0, none⟩), .pointer (some ⟨w.heap.size + 1, 0, none⟩)]) (by simp) (by simp [go_sem]) ?_
  refine (seek_idle ⟨w.heap.size, 0, none⟩ ⟨w.heap.size + 1, 0, none⟩ _).mono ?_
  rintro e u' w'' ⟨rfl, rfl, rfl⟩
  simp [Leaves, settle, results, Tryz.results122, go_sem]
  exact below2 _ _ _

/- What a list has at a place; 0, if there is none. -/
def getF (n : Nat) (f : Nat → Int) (i : Int) : Int := if 0 ≤ i ∧ i < n then f i.toNat else 0
def inB (n : Nat) (i : Int) : Bool := decide (0 ≤ i ∧ i < n)

theorem seek_any (a : Option Addr) (n cap : Nat) (f : Nat → Int) (i : Int) (w : World) (h : Sl .u64 w a n f) (hnil : a = none → n = 0) (hn : n ≤ 1000000000) :
    Calls Tryz.prog 122 #[.slice a n cap, .int .i64 i] w fun e w' => e = .returned (.tuple #[.int .u64 (getF n f i), .bool (inB n i)]) ∧ Below w.heap.size w w' := by
  by_cases hi : 0 ≤ i ∧ i < n
  · rcases h with h | ⟨b, off, rfl, h⟩
    · omega
    · obtain ⟨j, rfl⟩ := Int.eq_ofNat_of_zero_le hi.1
      refine (seek_in b off n cap j (f j) w (by omega) (h j (by omega)) hn).mono fun e w' ⟨he, hw⟩ => ⟨?_, hw⟩
      rw [he]; unfold getF inB; rw [if_pos hi, decide_eq_true hi]; rfl
  · refine (seek_out a n cap i w hnil (by omega)).mono fun e w' ⟨he, hw⟩ => ⟨?_, hw⟩
    rw [he]; unfold getF inB; rw [if_neg hi, decide_eq_false hi]

theorem sload_any (a : Option Addr) (n cap : Nat) (f : Nat → Int) (i : Int) (w : World) (h : Sl .u64 w a n f) (_hn : n ≤ 1000000000) :
    Calls Tryz.prog 115 #[.slice a n cap, .int .i64 i] w fun e w' => e = .returned (.int .u64 (getF n f i)) ∧ w' = w := by
  by_cases hi : 0 ≤ i ∧ i < n
  · rcases h with h | ⟨b, off, rfl, h⟩
    · omega
    · obtain ⟨j, rfl⟩ := Int.eq_ofNat_of_zero_le hi.1
      have hc := h j (by omega)
      have h1 : ¬ (j : Int) < 0 := by omega
      have h2 : ¬ (n : Int) ≤ j := by omega
      have hg : getF n f j = f j := by unfold getF; rw [if_pos hi]; rfl
      have hlt : (j : Int) < n := hi.2
      rw [hg]
      clear h hg hi
      go_enter Tryz.func115, Tryz.ntmps115
      go_wp2
      go_ret
      exact ⟨rfl, rfl⟩
  · have hg : getF n f i = 0 := by unfold getF; rw [if_neg hi]
    rw [hg]
    by_cases h1 : i < 0
    · go_enter Tryz.func115, Tryz.ntmps115
      go_wp2
      go_ret
      exact ⟨rfl, rfl⟩
    · have h2 : (n : Int) ≤ i := by omega
      go_enter Tryz.func115, Tryz.ntmps115
      go_wp2
      go_ret
      exact ⟨rfl, rfl⟩

end Go.Proofs.YtipbijcmpbefpaaGreat.Plat

/- The words of a house, further: doors, the register, changes, made and read by the program; doors and changes made by the specification. -/
namespace Go.Proofs.YtipbijcmpbefpaaGreat.Words
open Go.ChangeShapes Go.WideShapes Go.ChangeAt Go.RowKit

def doorV (st sl ep : Int) : Int := fit st 2 + fit sl 7 * 4 + fit ep 4095 * 32
def regV (st ep : Int) : Int := fit st 2 + fit ep 4095 * 4
def entryV (a v : Int) : Int := fit a 4095 * 1048576 + fit v 1048575

theorem sdoor_any (st sl ep s : Int) (w : World) :
    Calls Tryz.prog 77 #[.int .i64 st, .int .i64 sl, .int .i64 ep, .int .i64 s] w fun e w' => e = .returned (.int .u64 (pack (doorV st sl ep) s)) ∧ w' = w := by
  have a1 := fit_lo st 2 (by omega)
  have a2 := fit_hi st 2 (by omega)
  have b1 := fit_lo sl 7 (by omega)
  have b2 := fit_hi sl 7 (by omega)
  have c1 := fit_lo ep 4095 (by omega)
  have c2 := fit_hi ep 4095 (by omega)
  go_enter Tryz.func77, Tryz.ntmps77
  go_wp2_with (first | (go_at_call 111; refine (low_any _ _ _).mono ?_; rintro e w' ⟨rfl, rfl⟩) | (go_at_call 56; refine (spack_any _ _ _).mono ?_; rintro e w' ⟨rfl, rfl⟩))
  all_goals go_ret
  exact ⟨ret_int (by simp only [doorV, Int.mul_comm]), rfl⟩

theorem sentry_any (a v s : Int) (w : World) :
    Calls Tryz.prog 129 #[.int .i64 a, .int .i64 v, .int .i64 s] w fun e w' => e = .returned (.int .u64 (pack (entryV a v) s)) ∧ w' = w := by
  have a1 := fit_lo a 4095 (by omega)
  have a2 := fit_hi a 4095 (by omega)
  have b1 := fit_lo v 1048575 (by omega)
  have b2 := fit_hi v 1048575 (by omega)
  go_enter Tryz.func129, Tryz.ntmps129
  go_wp2_with (first | (go_at_call 111; refine (low_any _ _ _).mono ?_; rintro e w' ⟨rfl, rfl⟩) | (go_at_call 56; refine (spack_any _ _ _).mono ?_; rintro e w' ⟨rfl, rfl⟩))
  all_goals go_ret
  exact ⟨rfl, rfl⟩

theorem door_any (st sl ep s : Int) (w : World) :
    Calls Tryz.prog 51 #[.int .i64 st, .int .i64 sl, .int .i64 ep, .int .i64 s] w fun e w' => e = .returned (.int .u64 (pack (doorV st sl ep) s)) ∧ w' = w := by
  have a1 := fit_lo st 2 (by omega)
  have a2 := fit_hi st 2 (by omega)
  have b1 := fit_lo sl 7 (by omega)
  have b2 := fit_hi sl 7 (by omega)
  have c1 := fit_lo ep 4095 (by omega)
  have c2 := fit_hi ep 4095 (by omega)
  go_enter Tryz.func51, Tryz.ntmps51
  go_wp2_with (first | (go_at_call 103; refine (fit_any _ _ _ (by omega)).mono ?_; rintro e w' ⟨rfl, rfl⟩) | (go_at_call 80; refine (make_any _ _ _).mono ?_; rintro e w' ⟨rfl, rfl⟩))
  all_goals go_ret
  refine ⟨ret_int ?_, rfl⟩
  rw [or_low2 _ _ a1 a2 b1 (by omega), or_low5 _ _ (by omega) (by omega) c1 c2, doorV]

theorem dstate_any (n : Int) (w : World) (h0 : 0 ≤ n) (h1 : n < 18446744073709551616) :
    Calls Tryz.prog 131 #[.agg #[.int .u64 n]] w fun e w' => e = .returned (.int .i64 (lo32 n % 4)) ∧ w' = w.alloc (.cells #[.int .u64 n] 127) := by
  have l0 := lo32_lo n
  have l1 := lo32_hi n
  go_enter Tryz.func131, Tryz.ntmps131
  go_wp2_with (go_at_call 78; refine (value_any _ _ h0 h1).mono ?_; rintro e w' ⟨rfl, rfl⟩)
  all_goals go_ret
  exact ⟨ret_int (and3 _ (lo32_lo n) (lo32_hi n)), rfl⟩

theorem dslot_any (n : Int) (w : World) (h0 : 0 ≤ n) (h1 : n < 18446744073709551616) :
    Calls Tryz.prog 130 #[.agg #[.int .u64 n]] w fun e w' => e = .returned (.int .i64 (lo32 n / 4 % 8)) ∧ w' = w.alloc (.cells #[.int .u64 n] 127) := by
  have l0 := lo32_lo n
  have l1 := lo32_hi n
  go_enter Tryz.func130, Tryz.ntmps130
  go_wp2_with (go_at_call 78; refine (value_any _ _ h0 h1).mono ?_; rintro e w' ⟨rfl, rfl⟩)
  all_goals go_ret
  exact ⟨ret_int (and7 _ (by omega) (by omega)), rfl⟩

theorem rstate_any (n : Int) (w : World) (h0 : 0 ≤ n) (h1 : n < 18446744073709551616) :
    Calls Tryz.prog 135 #[.agg #[.int .u64 n]] w fun e w' => e = .returned (.int .i64 (lo32 n % 4)) ∧ w' = w.alloc (.cells #[.int .u64 n] 128) := by
  have l0 := lo32_lo n
  have l1 := lo32_hi n
  go_enter Tryz.func135, Tryz.ntmps135
  go_wp2_with (go_at_call 78; refine (value_any _ _ h0 h1).mono ?_; rintro e w' ⟨rfl, rfl⟩)
  all_goals go_ret
  exact ⟨ret_int (and3 _ (lo32_lo n) (lo32_hi n)), rfl⟩

theorem repoch_any (n : Int) (w : World) (h0 : 0 ≤ n) (h1 : n < 18446744073709551616) :
    Calls Tryz.prog 136 #[.agg #[.int .u64 n]] w fun e w' => e = .returned (.int .i64 (lo32 n / 4)) ∧ w' = w.alloc (.cells #[.int .u64 n] 128) := by
  have l0 := lo32_lo n
  have l1 := lo32_hi n
  go_enter Tryz.func136, Tryz.ntmps136
  go_wp2_with (go_at_call 78; refine (value_any _ _ h0 h1).mono ?_; rintro e w' ⟨rfl, rfl⟩)
  all_goals go_ret
  exact ⟨rfl, rfl⟩

theorem eaddr_any (n : Int) (w : World) (h0 : 0 ≤ n) (h1 : n < 18446744073709551616) :
    Calls Tryz.prog 150 #[.agg #[.int .u64 n]] w fun e w' => e = .returned (.int .i64 (lo32 n / 1048576)) ∧ w' = w.alloc (.cells #[.int .u64 n] 132) := by
  have l0 := lo32_lo n
  have l1 := lo32_hi n
  go_enter Tryz.func150, Tryz.ntmps150
  go_wp2_with (go_at_call 78; refine (value_any _ _ h0 h1).mono ?_; rintro e w' ⟨rfl, rfl⟩)
  all_goals go_ret
  exact ⟨rfl, rfl⟩

theorem eval_any (n : Int) (w : World) (h0 : 0 ≤ n) (h1 : n < 18446744073709551616) :
    Calls Tryz.prog 151 #[.agg #[.int .u64 n]] w fun e w' => e = .returned (.int .i64 (lo32 n % 1048576)) ∧ w' = w.alloc (.cells #[.int .u64 n] 132) := by
  have l0 := lo32_lo n
  have l1 := lo32_hi n
  go_enter Tryz.func151, Tryz.ntmps151
  go_wp2_with (go_at_call 78; refine (value_any _ _ h0 h1).mono ?_; rintro e w' ⟨rfl, rfl⟩)
  all_goals go_ret
  exact ⟨ret_int (and20 _ (by omega) (by omega)), rfl⟩

end Go.Proofs.YtipbijcmpbefpaaGreat.Words

/- The words of a house: what the specification's other functions of layer 1 answer. -/
namespace Go.Proofs.YtipbijcmpbefpaaGreat.Words
open Go.ChangeShapes Go.WideShapes Go.ChangeAt Go.RowKit

theorem sval_any (n : Int) (w : World) (h0 : 0 ≤ n) (h1 : n < 18446744073709551616) :
    Calls Tryz.prog 62 #[.int .u64 n] w fun e w' => e = .returned (.int .i64 (lo32 n)) ∧ w' = w := by
  go_enter Tryz.func62, Tryz.ntmps62
  go_wp2
  all_goals go_ret
  exact ⟨rfl, rfl⟩

theorem sst_any (n : Int) (w : World) (h0 : 0 ≤ n) (h1 : n < 18446744073709551616) :
    Calls Tryz.prog 75 #[.int .u64 n] w fun e w' => e = .returned (.int .i64 (n / 4294967296)) ∧ w' = w := by
  go_enter Tryz.func75, Tryz.ntmps75
  go_wp2
  all_goals go_ret
  exact ⟨rfl, rfl⟩

theorem sdoorOf_any (n : Int) (w : World) (h0 : 0 ≤ n) (h1 : n < 18446744073709551616) :
    Calls Tryz.prog 73 #[.int .u64 n] w fun e w' => e = .returned (.tuple #[.int .i64 (lo32 n % 4), .int .i64 (lo32 n / 4 % 8), .int .i64 (lo32 n / 32)]) ∧ w' = w := by
  have l0 := lo32_lo n
  have l1 := lo32_hi n
  go_enter Tryz.func73, Tryz.ntmps73
  go_wp2_with (go_at_call 62; refine (sval_any _ _ h0 h1).mono ?_; rintro e w' ⟨rfl, rfl⟩)
  all_goals go_ret3
  exact ⟨rfl, rfl⟩

theorem sregOf_any (n : Int) (w : World) (h0 : 0 ≤ n) (h1 : n < 18446744073709551616) :
    Calls Tryz.prog 114 #[.int .u64 n] w fun e w' => e = .returned (.tuple #[.int .i64 (lo32 n % 4), .int .i64 (lo32 n / 4)]) ∧ w' = w := by
  have l0 := lo32_lo n
  have l1 := lo32_hi n
  go_enter Tryz.func114, Tryz.ntmps114
  go_wp2_with (go_at_call 62; refine (sval_any _ _ h0 h1).mono ?_; rintro e w' ⟨rfl, rfl⟩)
  all_goals go_ret2
  exact ⟨rfl, rfl⟩

theorem sentryOf_any (n : Int) (w : World) (h0 : 0 ≤ n) (h1 : n < 18446744073709551616) :
    Calls Tryz.prog 133 #[.int .u64 n] w fun e w' => e = .returned (.tuple #[.int .i64 (lo32 n / 1048576), .int .i64 (lo32 n % 1048576)]) ∧ w' = w := by
  have l0 := lo32_lo n
  have l1 := lo32_hi n
  go_enter Tryz.func133, Tryz.ntmps133
  go_wp2_with (go_at_call 62; refine (sval_any _ _ h0 h1).mono ?_; rintro e w' ⟨rfl, rfl⟩)
  all_goals go_ret2
  exact ⟨rfl, rfl⟩
end Go.Proofs.YtipbijcmpbefpaaGreat.Words

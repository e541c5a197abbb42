/- A visitor goes through a house. -/
import Derived.Test.YtgfbfgiohmdjmaaGreatM19
import Derived.Test.YtgfbfgiohmdjmaaGreatM3
namespace Go.Proofs.YtgfbfgiohmdjmaaGreat.Book
open Go.ChangeShapes Go.WideShapes Go.ChangeAt Go.RowKit
open Aid Lst
open Plat (layL layL_len layL_get find_any fnd)
set_option maxRecDepth 100000
set_option linter.unusedVariables false

/- One function of a visitor: at each of so many words from one on. -/
def Sees (Inv : Nat → World → Prop) (B C f : Nat) (c : Array Value) (at_ many : Nat) : Prop := ∀ (n : Nat) (w : World), n < many → C ≤ w.heap.size → Inv (at_ + n) w → Calls Tryz.prog f (#[.int .i64 n, .int .i64 (at_ + n : Nat)] ++ c) w fun e w' => e = .returned (.tuple #[]) ∧ Inv (at_ + n + 1) w' ∧ Only B C w w'

/- A function that the program has. -/
def Enters (f : Nat) : Prop := ∀ (args : Array Value) (w : World), (callFunc f args).run Tryz.prog w = .ok (.enter f args) w

/- What a visitor rests on. -/
structure VS (w0 : World) (B C : Nat) (s p : Nat) (w : World) : Prop where
  r : w.rangeAt (w0.heap.size + 1) 0 (ints (layL s p))
  o : Only B C w0 w
  z : w0.heap.size + 2 ≤ w.heap.size
theorem VS.later {w0 w w1 : World} {B C s p : Nat} (h : VS w0 B C s p w) (hb : Below w.heap.size w w1) : VS w0 B C s p w1 :=
  ⟨range_below hb h.r (by have := h.z; omega), h.o.trans (Only.of hb), Nat.le_trans h.z hb.size⟩
theorem VS.only {w0 w w1 : World} {B C s p : Nat} (h : VS w0 B C s p w) (ho : Only B C w w1) (hC : C ≤ w0.heap.size) : VS w0 B C s p w1 :=
  ⟨fun j v hv => (ho.cell (by have := h.z; omega) (.inr (by omega))).trans (h.r j v hv), h.o.trans ho, Nat.le_trans h.z ho.size⟩
theorem VS.at {w0 w : World} {B C s p : Nat} (h : VS w0 B C s p w) (j : Nat) (hj : j < 25) : w.cell? ⟨w0.heap.size + 1, j, none⟩ = some (.int .i64 (Plat.cell2 s p 8 j)) := by
  have := h.r j (.int .i64 (Plat.cell2 s p 8 j)) (by rw [ints_get _ _ (by rw [layL_len]; omega), layL_get _ _ _ hj])
  simpa using this
theorem fnd_in {m d a n : Int} (h0 : 0 ≤ n) (h1 : n < m) : fnd m d a n = a + n * d := by unfold fnd; rw [if_neg (by omega)]

set_option maxHeartbeats 40000000 in
theorem visit_any (Inv : Nat → World → Prop) (hl : ∀ T w w1, Inv T w → Below w.heap.size w w1 → Inv T w1) (B C s p f1 f3 f4 f5 f6 : Nat) (c1 c3 c4 c5 c6 : Array Value) (s4 : s ≤ 4) (p6 : p ≤ 6) (g1 : Enters f1) (g3 : Enters f3) (g4 : Enters f4) (g5 : Enters f5) (g6 : Enters f6)
    (h1 : Sees Inv B C f1 c1 (3) (s))
    (h3 : Sees Inv B C f3 c3 (3 + s + s) (4))
    (h4 : Sees Inv B C f4 c4 (3 + s + s + 4) (p))
    (h5 : Sees Inv B C f5 c5 (3 + s + s + 4 + p) (p * 8))
    (h6 : Sees Inv B C f6 c6 (3 + s + s + 4 + p + p * 8) (p * 8))
    (h2 : ∀ w, Inv (3 + s) w → Inv (3 + s + s) w) (w : World) (hC : C ≤ w.heap.size) (h0 : Inv 3 w) :
    Calls Tryz.prog 69 #[.agg #[Value.nilFunc, .func (.func f1) #[] c1, Value.nilFunc, .func (.func f3) #[] c3, .func (.func f4) #[] c4, .func (.func f5) #[] c5, .func (.func f6) #[] c6, Value.nilFunc], .agg (ints (layL s p)).toArray] w fun e w' => e = .returned (.tuple #[]) ∧ Inv (3 + s + s + 4 + p + p * 8 + p * 8) w' ∧ Only B C w w' := by
  have S0 : VS w B C s p ((w.alloc (.cells #[Value.nilFunc, .func (.func f1) #[] c1, Value.nilFunc, .func (.func f3) #[] c3, .func (.func f4) #[] c4, .func (.func f5) #[] c5, .func (.func f6) #[] c6, Value.nilFunc] 96)).alloc (.cells (ints (layL s p)).toArray 86)) := ⟨range_lit (ints (layL s p)).toArray (heap2_1 w _ _), Only.of (below2 w _ _), by simp⟩
  have I0 := hl 3 _ _ h0 (below2 w (.cells #[Value.nilFunc, .func (.func f1) #[] c1, Value.nilFunc, .func (.func f3) #[] c3, .func (.func f4) #[] c4, .func (.func f5) #[] c5, .func (.func f6) #[] c6, Value.nilFunc] 96) (.cells (ints (layL s p)).toArray 86))
  have ix0 : ∀ w : World, (Instr.index 96 (.agg #[Value.nilFunc, .func (.func f1) #[] c1, Value.nilFunc, .func (.func f3) #[] c3, .func (.func f4) #[] c4, .func (.func f5) #[] c5, .func (.func f6) #[] c6, Value.nilFunc]) (.int .i64 0)).run Tryz.prog w = .ok (Value.nilFunc) w := fun _ => by kernel_rfl
  have ix1 : ∀ w : World, (Instr.index 96 (.agg #[Value.nilFunc, .func (.func f1) #[] c1, Value.nilFunc, .func (.func f3) #[] c3, .func (.func f4) #[] c4, .func (.func f5) #[] c5, .func (.func f6) #[] c6, Value.nilFunc]) (.int .i64 1)).run Tryz.prog w = .ok (.func (.func f1) #[] c1) w := fun _ => by kernel_rfl
  have ix2 : ∀ w : World, (Instr.index 96 (.agg #[Value.nilFunc, .func (.func f1) #[] c1, Value.nilFunc, .func (.func f3) #[] c3, .func (.func f4) #[] c4, .func (.func f5) #[] c5, .func (.func f6) #[] c6, Value.nilFunc]) (.int .i64 2)).run Tryz.prog w = .ok (Value.nilFunc) w := fun _ => by kernel_rfl
  have ix3 : ∀ w : World, (Instr.index 96 (.agg #[Value.nilFunc, .func (.func f1) #[] c1, Value.nilFunc, .func (.func f3) #[] c3, .func (.func f4) #[] c4, .func (.func f5) #[] c5, .func (.func f6) #[] c6, Value.nilFunc]) (.int .i64 3)).run Tryz.prog w = .ok (.func (.func f3) #[] c3) w := fun _ => by kernel_rfl
  have ix4 : ∀ w : World, (Instr.index 96 (.agg #[Value.nilFunc, .func (.func f1) #[] c1, Value.nilFunc, .func (.func f3) #[] c3, .func (.func f4) #[] c4, .func (.func f5) #[] c5, .func (.func f6) #[] c6, Value.nilFunc]) (.int .i64 4)).run Tryz.prog w = .ok (.func (.func f4) #[] c4) w := fun _ => by kernel_rfl
  have ix5 : ∀ w : World, (Instr.index 96 (.agg #[Value.nilFunc, .func (.func f1) #[] c1, Value.nilFunc, .func (.func f3) #[] c3, .func (.func f4) #[] c4, .func (.func f5) #[] c5, .func (.func f6) #[] c6, Value.nilFunc]) (.int .i64 5)).run Tryz.prog w = .ok (.func (.func f5) #[] c5) w := fun _ => by kernel_rfl
  have ix6 : ∀ w : World, (Instr.index 96 (.agg #[Value.nilFunc, .func (.func f1) #[] c1, Value.nilFunc, .func (.func f3) #[] c3, .func (.func f4) #[] c4, .func (.func f5) #[] c5, .func (.func f6) #[] c6, Value.nilFunc]) (.int .i64 6)).run Tryz.prog w = .ok (.func (.func f6) #[] c6) w := fun _ => by kernel_rfl
  have ix7 : ∀ w : World, (Instr.index 96 (.agg #[Value.nilFunc, .func (.func f1) #[] c1, Value.nilFunc, .func (.func f3) #[] c3, .func (.func f4) #[] c4, .func (.func f5) #[] c5, .func (.func f6) #[] c6, Value.nilFunc]) (.int .i64 7)).run Tryz.prog w = .ok (Value.nilFunc) w := fun _ => by kernel_rfl
  have eqn : ∀ w : World, (binOp BinOp.eql 94 Value.nilFunc Value.nilFunc).run Tryz.prog w = .ok (.bool true) w := fun _ => by kernel_rfl
  have eqf1 : ∀ w : World, (binOp BinOp.eql 94 (.func (.func f1) #[] c1) Value.nilFunc).run Tryz.prog w = .ok (.bool false) w := fun _ => by kernel_rfl
  have eqf3 : ∀ w : World, (binOp BinOp.eql 94 (.func (.func f3) #[] c3) Value.nilFunc).run Tryz.prog w = .ok (.bool false) w := fun _ => by kernel_rfl
  have eqf4 : ∀ w : World, (binOp BinOp.eql 94 (.func (.func f4) #[] c4) Value.nilFunc).run Tryz.prog w = .ok (.bool false) w := fun _ => by kernel_rfl
  have eqf5 : ∀ w : World, (binOp BinOp.eql 94 (.func (.func f5) #[] c5) Value.nilFunc).run Tryz.prog w = .ok (.bool false) w := fun _ => by kernel_rfl
  have eqf6 : ∀ w : World, (binOp BinOp.eql 94 (.func (.func f6) #[] c6) Value.nilFunc).run Tryz.prog w = .ok (.bool false) w := fun _ => by kernel_rfl
  have HL : Hid (∀ T w w1, Inv T w → Below w.heap.size w w1 → Inv T w1) := hl
  have HI : Hid (Inv 3 _) := I0
  have H1 : Hid (Sees Inv B C f1 c1 (3) (s)) := h1
  have H3 : Hid (Sees Inv B C f3 c3 (3 + s + s) (4)) := h3
  have H4 : Hid (Sees Inv B C f4 c4 (3 + s + s + 4) (p)) := h4
  have H5 : Hid (Sees Inv B C f5 c5 (3 + s + s + 4 + p) (p * 8)) := h5
  have H6 : Hid (Sees Inv B C f6 c6 (3 + s + s + 4 + p + p * 8) (p * 8)) := h6
  have H2 : Hid (∀ w, Inv (3 + s) w → Inv (3 + s + s) w) := h2
  clear hl h0 I0 h1 h2 h3 h4 h5 h6
  unfold Enters at g1 g3 g4 g5 g6
  go_enter Tryz.func69, Tryz.ntmps69
  go_wp2_with (fail)
  generalize (w.alloc (.cells #[Value.nilFunc, .func (.func f1) #[] c1, Value.nilFunc, .func (.func f3) #[] c3, .func (.func f4) #[] c4, .func (.func f5) #[] c5, .func (.func f6) #[] c6, Value.nilFunc] 96)).alloc (.cells (ints (layL s p)).toArray 86) = W at S0 HI ⊢
  refine wp_loop_rounds 9 ?_
  rw [rounds_succ]
  go_wp2_with (fail)
  have SW := S0
  clear S0
  rw [rounds_succ]
  have mm : W.cell? ⟨w.heap.size + 1, 1, none⟩ = some (.int .i64 ((s : Nat) : Int)) := SW.at 1 (by omega)
  have HS : Hid (VS w B C s p W) := SW
  have zw := SW.z
  clear SW
  go_wp2_with (fail)
  clear mm
  go_loopw [18] (fun i wr => ∃ n : Nat, n ≤ s ∧ i = .int .i64 n ∧ Inv (3 + n) wr ∧ VS w B C s p wr) (fun i _ => s - (intOf i).toNat)
  case atStart => exact ⟨0, by omega, rfl, HI.out, HS.out⟩
  case' round =>
  obtain ⟨n, hn, rfl, hi, vs⟩ := hrel
  have HN : Hid (Inv (3 + n) wr) := hi
  have HV : Hid (VS w B C s p wr) := vs
  have zr := vs.z
  clear hi vs HI HS zw
  by_cases lt : (n : Int) < ((s : Nat) : Int)
  · have ltn : n < s := by omega
    have lt2 : (n : Int) < (s : Int) := by omega
    go_wp2_with (refine wpList_load_mid rfl 86 _ rfl (w.heap.size + 1) 0 rfl (ints (layL s p)) _ HV.out.r Tryz.underlying86 rfl (by kernel_rfl) ?_)
    refine (find_any (layL s p) 1 n ((s : Nat) : Int) 1 ((3 : Nat) : Int) _ (layL_len s p) (by omega) (by rw [layL_get _ _ _ (by omega)]; rfl) (by rw [layL_get _ _ _ (by omega)]; rfl) (by rw [layL_get _ _ _ (by omega)]; rfl) (by omega) (by omega) (by omega) (by omega) (by omega) (by omega)).mono ?_
    rintro e w1 ⟨rfl, hb⟩
    have ef : fnd ((s : Nat) : Int) 1 ((3 : Nat) : Int) n = ((3 + n : Nat) : Int) := by rw [fnd_in (by omega) lt]; omega
    rw [ef]
    have HV1 : Hid (VS w B C s p w1) := HV.out.later hb
    have HN1 : Hid (Inv (3 + n) w1) := HL.out _ _ _ HN.out hb
    clear hb ef HN HV
    have call := H1.out n w1 ltn (by have := HV1.out.z; omega) HN1.out
    push_cast at call
    go_wp2_with (fail)
    refine call.mono ?_
    rintro e w2 ⟨rfl, hi, ho⟩
    have HV2 : Hid (VS w B C s p w2) := HV1.out.only ho hC
    have HN2 : Hid (Inv (3 + (n + 1)) w2) := hi
    clear call hi ho HV1 HN1
    go_wp2_with (fail)
    go_roundw
    case rel => exact ⟨n + 1, by omega, by go_num, HN2.out, HV2.out⟩
    case measure => simp [intOf]; omega
  have en : n = s := by omega
  have HI : Hid (Inv (3 + s) wr) := by unfold Hid; rw [en] at HN; exact HN.out
  have Swr := HV.out
  have nlt : ¬ n < s := by omega
  have nlt2 : ¬ (n : Int) < (s : Int) := by omega
  clear en HN HV lt hn zr H1
  go_wp2_with (fail)
  clear nlt nlt2
  obtain ⟨W1, hW⟩ : ∃ x, x = wr := ⟨wr, rfl⟩
  subst hW
  have SW1 := Swr
  clear Swr
  rw [rounds_succ]
  go_wp2_with (fail)
  replace HI : Hid (Inv (3 + s + s) W1) := H2.out _ HI.out
  rw [rounds_succ]
  have mm : W1.cell? ⟨w.heap.size + 1, 3, none⟩ = some (.int .i64 ((4 : Nat) : Int)) := SW1.at 3 (by omega)
  have HS : Hid (VS w B C s p W1) := SW1
  have zw := SW1.z
  clear SW1
  go_wp2_with (fail)
  clear mm
  go_loopw [18] (fun i wr => ∃ n : Nat, n ≤ 4 ∧ i = .int .i64 n ∧ Inv (3 + s + s + n) wr ∧ VS w B C s p wr) (fun i _ => 4 - (intOf i).toNat)
  case atStart => exact ⟨0, by omega, rfl, HI.out, HS.out⟩
  case' round =>
  obtain ⟨n, hn, rfl, hi, vs⟩ := hrel
  have HN : Hid (Inv (3 + s + s + n) wr) := hi
  have HV : Hid (VS w B C s p wr) := vs
  have zr := vs.z
  clear hi vs HI HS zw
  by_cases lt : (n : Int) < ((4 : Nat) : Int)
  · have ltn : n < 4 := by omega
    have lt2 : (n : Int) < 4 := by omega
    go_wp2_with (refine wpList_load_mid rfl 86 _ rfl (w.heap.size + 1) 0 rfl (ints (layL s p)) _ HV.out.r Tryz.underlying86 rfl (by kernel_rfl) ?_)
    refine (find_any (layL s p) 3 n ((4 : Nat) : Int) 1 ((3 + s + s : Nat) : Int) _ (layL_len s p) (by omega) (by rw [layL_get _ _ _ (by omega)]; rfl) (by rw [layL_get _ _ _ (by omega)]; rfl) (by rw [layL_get _ _ _ (by omega)]; rfl) (by omega) (by omega) (by omega) (by omega) (by omega) (by omega)).mono ?_
    rintro e w1 ⟨rfl, hb⟩
    have ef : fnd ((4 : Nat) : Int) 1 ((3 + s + s : Nat) : Int) n = ((3 + s + s + n : Nat) : Int) := by rw [fnd_in (by omega) lt]; omega
    rw [ef]
    have HV1 : Hid (VS w B C s p w1) := HV.out.later hb
    have HN1 : Hid (Inv (3 + s + s + n) w1) := HL.out _ _ _ HN.out hb
    clear hb ef HN HV
    have call := H3.out n w1 ltn (by have := HV1.out.z; omega) HN1.out
    push_cast at call
    go_wp2_with (fail)
    refine call.mono ?_
    rintro e w2 ⟨rfl, hi, ho⟩
    have HV2 : Hid (VS w B C s p w2) := HV1.out.only ho hC
    have HN2 : Hid (Inv (3 + s + s + (n + 1)) w2) := hi
    clear call hi ho HV1 HN1
    go_wp2_with (fail)
    go_roundw
    case rel => exact ⟨n + 1, by omega, by go_num, HN2.out, HV2.out⟩
    case measure => simp [intOf]; omega
  have en : n = 4 := by omega
  have HI : Hid (Inv (3 + s + s + 4) wr) := by unfold Hid; rw [en] at HN; exact HN.out
  have Swr := HV.out
  have nlt : ¬ n < 4 := by omega
  have nlt2 : ¬ (n : Int) < 4 := by omega
  clear en HN HV lt hn zr H3
  go_wp2_with (fail)
  clear nlt nlt2
  obtain ⟨W3, hW⟩ : ∃ x, x = wr := ⟨wr, rfl⟩
  subst hW
  have SW3 := Swr
  clear Swr
  rw [rounds_succ]
  have mm : W3.cell? ⟨w.heap.size + 1, 4, none⟩ = some (.int .i64 ((p : Nat) : Int)) := SW3.at 4 (by omega)
  have HS : Hid (VS w B C s p W3) := SW3
  have zw := SW3.z
  clear SW3
  go_wp2_with (fail)
  clear mm
  go_loopw [18] (fun i wr => ∃ n : Nat, n ≤ p ∧ i = .int .i64 n ∧ Inv (3 + s + s + 4 + n) wr ∧ VS w B C s p wr) (fun i _ => p - (intOf i).toNat)
  case atStart => exact ⟨0, by omega, rfl, HI.out, HS.out⟩
  case' round =>
  obtain ⟨n, hn, rfl, hi, vs⟩ := hrel
  have HN : Hid (Inv (3 + s + s + 4 + n) wr) := hi
  have HV : Hid (VS w B C s p wr) := vs
  have zr := vs.z
  clear hi vs HI HS zw
  by_cases lt : (n : Int) < ((p : Nat) : Int)
  · have ltn : n < p := by omega
    have lt2 : (n : Int) < (p : Int) := by omega
    go_wp2_with (refine wpList_load_mid rfl 86 _ rfl (w.heap.size + 1) 0 rfl (ints (layL s p)) _ HV.out.r Tryz.underlying86 rfl (by kernel_rfl) ?_)
    refine (find_any (layL s p) 4 n ((p : Nat) : Int) 1 ((3 + s + s + 4 : Nat) : Int) _ (layL_len s p) (by omega) (by rw [layL_get _ _ _ (by omega)]; rfl) (by rw [layL_get _ _ _ (by omega)]; rfl) (by rw [layL_get _ _ _ (by omega)]; rfl) (by omega) (by omega) (by omega) (by omega) (by omega) (by omega)).mono ?_
    rintro e w1 ⟨rfl, hb⟩
    have ef : fnd ((p : Nat) : Int) 1 ((3 + s + s + 4 : Nat) : Int) n = ((3 + s + s + 4 + n : Nat) : Int) := by rw [fnd_in (by omega) lt]; omega
    rw [ef]
    have HV1 : Hid (VS w B C s p w1) := HV.out.later hb
    have HN1 : Hid (Inv (3 + s + s + 4 + n) w1) := HL.out _ _ _ HN.out hb
    clear hb ef HN HV
    have call := H4.out n w1 ltn (by have := HV1.out.z; omega) HN1.out
    push_cast at call
    go_wp2_with (fail)
    refine call.mono ?_
    rintro e w2 ⟨rfl, hi, ho⟩
    have HV2 : Hid (VS w B C s p w2) := HV1.out.only ho hC
    have HN2 : Hid (Inv (3 + s + s + 4 + (n + 1)) w2) := hi
    clear call hi ho HV1 HN1
    go_wp2_with (fail)
    go_roundw
    case rel => exact ⟨n + 1, by omega, by go_num, HN2.out, HV2.out⟩
    case measure => simp [intOf]; omega
  have en : n = p := by omega
  have HI : Hid (Inv (3 + s + s + 4 + p) wr) := by unfold Hid; rw [en] at HN; exact HN.out
  have Swr := HV.out
  have nlt : ¬ n < p := by omega
  have nlt2 : ¬ (n : Int) < (p : Int) := by omega
  clear en HN HV lt hn zr H4
  go_wp2_with (fail)
  clear nlt nlt2
  obtain ⟨W4, hW⟩ : ∃ x, x = wr := ⟨wr, rfl⟩
  subst hW
  have SW4 := Swr
  clear Swr
  rw [rounds_succ]
  have mm : W4.cell? ⟨w.heap.size + 1, 5, none⟩ = some (.int .i64 ((p * 8 : Nat) : Int)) := SW4.at 5 (by omega)
  have HS : Hid (VS w B C s p W4) := SW4
  have zw := SW4.z
  clear SW4
  go_wp2_with (fail)
  clear mm
  go_loopw [18] (fun i wr => ∃ n : Nat, n ≤ p * 8 ∧ i = .int .i64 n ∧ Inv (3 + s + s + 4 + p + n) wr ∧ VS w B C s p wr) (fun i _ => p * 8 - (intOf i).toNat)
  case atStart => exact ⟨0, by omega, rfl, HI.out, HS.out⟩
  case' round =>
  obtain ⟨n, hn, rfl, hi, vs⟩ := hrel
  have HN : Hid (Inv (3 + s + s + 4 + p + n) wr) := hi
  have HV : Hid (VS w B C s p wr) := vs
  have zr := vs.z
  clear hi vs HI HS zw
  by_cases lt : (n : Int) < ((p * 8 : Nat) : Int)
  · have ltn : n < p * 8 := by omega
    have lt2 : (n : Int) < (p : Int) * 8 := by omega
    go_wp2_with (refine wpList_load_mid rfl 86 _ rfl (w.heap.size + 1) 0 rfl (ints (layL s p)) _ HV.out.r Tryz.underlying86 rfl (by kernel_rfl) ?_)
    refine (find_any (layL s p) 5 n ((p * 8 : Nat) : Int) 1 ((3 + s + s + 4 + p : Nat) : Int) _ (layL_len s p) (by omega) (by rw [layL_get _ _ _ (by omega)]; rfl) (by rw [layL_get _ _ _ (by omega)]; rfl) (by rw [layL_get _ _ _ (by omega)]; rfl) (by omega) (by omega) (by omega) (by omega) (by omega) (by omega)).mono ?_
    rintro e w1 ⟨rfl, hb⟩
    have ef : fnd ((p * 8 : Nat) : Int) 1 ((3 + s + s + 4 + p : Nat) : Int) n = ((3 + s + s + 4 + p + n : Nat) : Int) := by rw [fnd_in (by omega) lt]; omega
    rw [ef]
    have HV1 : Hid (VS w B C s p w1) := HV.out.later hb
    have HN1 : Hid (Inv (3 + s + s + 4 + p + n) w1) := HL.out _ _ _ HN.out hb
    clear hb ef HN HV
    have call := H5.out n w1 ltn (by have := HV1.out.z; omega) HN1.out
    push_cast at call
    go_wp2_with (fail)
    refine call.mono ?_
    rintro e w2 ⟨rfl, hi, ho⟩
    have HV2 : Hid (VS w B C s p w2) := HV1.out.only ho hC
    have HN2 : Hid (Inv (3 + s + s + 4 + p + (n + 1)) w2) := hi
    clear call hi ho HV1 HN1
    go_wp2_with (fail)
    go_roundw
    case rel => exact ⟨n + 1, by omega, by go_num, HN2.out, HV2.out⟩
    case measure => simp [intOf]; omega
  have en : n = p * 8 := by omega
  have HI : Hid (Inv (3 + s + s + 4 + p + p * 8) wr) := by unfold Hid; rw [en] at HN; exact HN.out
  have Swr := HV.out
  have nlt : ¬ n < p * 8 := by omega
  have nlt2 : ¬ (n : Int) < (p : Int) * 8 := by omega
  clear en HN HV lt hn zr H5
  go_wp2_with (fail)
  clear nlt nlt2
  obtain ⟨W5, hW⟩ : ∃ x, x = wr := ⟨wr, rfl⟩
  subst hW
  have SW5 := Swr
  clear Swr
  rw [rounds_succ]
  have mm : W5.cell? ⟨w.heap.size + 1, 6, none⟩ = some (.int .i64 ((p * 8 : Nat) : Int)) := SW5.at 6 (by omega)
  have HS : Hid (VS w B C s p W5) := SW5
  have zw := SW5.z
  clear SW5
  go_wp2_with (fail)
  clear mm
  go_loopw [18] (fun i wr => ∃ n : Nat, n ≤ p * 8 ∧ i = .int .i64 n ∧ Inv (3 + s + s + 4 + p + p * 8 + n) wr ∧ VS w B C s p wr) (fun i _ => p * 8 - (intOf i).toNat)
  case atStart => exact ⟨0, by omega, rfl, HI.out, HS.out⟩
  case' round =>
  obtain ⟨n, hn, rfl, hi, vs⟩ := hrel
  have HN : Hid (Inv (3 + s + s + 4 + p + p * 8 + n) wr) := hi
  have HV : Hid (VS w B C s p wr) := vs
  have zr := vs.z
  clear hi vs HI HS zw
  by_cases lt : (n : Int) < ((p * 8 : Nat) : Int)
  · have ltn : n < p * 8 := by omega
    have lt2 : (n : Int) < (p : Int) * 8 := by omega
    go_wp2_with (refine wpList_load_mid rfl 86 _ rfl (w.heap.size + 1) 0 rfl (ints (layL s p)) _ HV.out.r Tryz.underlying86 rfl (by kernel_rfl) ?_)
    refine (find_any (layL s p) 6 n ((p * 8 : Nat) : Int) 1 ((3 + s + s + 4 + p + p * 8 : Nat) : Int) _ (layL_len s p) (by omega) (by rw [layL_get _ _ _ (by omega)]; rfl) (by rw [layL_get _ _ _ (by omega)]; rfl) (by rw [layL_get _ _ _ (by omega)]; rfl) (by omega) (by omega) (by omega) (by omega) (by omega) (by omega)).mono ?_
    rintro e w1 ⟨rfl, hb⟩
    have ef : fnd ((p * 8 : Nat) : Int) 1 ((3 + s + s + 4 + p + p * 8 : Nat) : Int) n = ((3 + s + s + 4 + p + p * 8 + n : Nat) : Int) := by rw [fnd_in (by omega) lt]; omega
    rw [ef]
    have HV1 : Hid (VS w B C s p w1) := HV.out.later hb
    have HN1 : Hid (Inv (3 + s + s + 4 + p + p * 8 + n) w1) := HL.out _ _ _ HN.out hb
    clear hb ef HN HV
    have call := H6.out n w1 ltn (by have := HV1.out.z; omega) HN1.out
    push_cast at call
    go_wp2_with (fail)
    refine call.mono ?_
    rintro e w2 ⟨rfl, hi, ho⟩
    have HV2 : Hid (VS w B C s p w2) := HV1.out.only ho hC
    have HN2 : Hid (Inv (3 + s + s + 4 + p + p * 8 + (n + 1)) w2) := hi
    clear call hi ho HV1 HN1
    go_wp2_with (fail)
    go_roundw
    case rel => exact ⟨n + 1, by omega, by go_num, HN2.out, HV2.out⟩
    case measure => simp [intOf]; omega
  have en : n = p * 8 := by omega
  have HI : Hid (Inv (3 + s + s + 4 + p + p * 8 + p * 8) wr) := by unfold Hid; rw [en] at HN; exact HN.out
  have Swr := HV.out
  have nlt : ¬ n < p * 8 := by omega
  have nlt2 : ¬ (n : Int) < (p : Int) * 8 := by omega
  clear en HN HV lt hn zr H6
  go_wp2_with (fail)
  clear nlt nlt2
  obtain ⟨W6, hW⟩ : ∃ x, x = wr := ⟨wr, rfl⟩
  subst hW
  have SW6 := Swr
  clear Swr
  rw [rounds_succ]
  go_wp2_with (fail)
  rw [rounds_succ]
  go_wp2_with (fail)
  exact bodyPost_end (v := .tuple #[]) (by simp [results, Tryz.results69]) rfl ⟨rfl, HI.out, SW6.o⟩

end Go.Proofs.YtgfbfgiohmdjmaaGreat.Book

/- Changes carried out, one behind the other, of both. Conditions: at most 1,000,000,000 words, each of 64 bits, and so the changes. -/
import Derived.Test.YtipbijcmpbefpaaDone
namespace Go.Proofs.Ytipbijcmpbefpaa.Plat
open Go.ChangeShapes Go.WideShapes Go.ChangeAt Go.RowKit
open Go.Proofs.Ytipbijcmpbefpaa.Words Go.Proofs.Ytipbijcmpbefpaa.Aid Go.Proofs.Ytipbijcmpbefpaa.Lst
set_option maxRecDepth 100000
set_option linter.unusedVariables false

/- The words, so many changes having been carried out. -/
def plF (n : Nat) (f e : Nat → Int) : Nat → Nat → Int
  | 0 => f
  | i + 1 => putF n (plF n f e i) (e i)
theorem plF_w {n : Nat} {f e : Nat → Int} (h : W64 f) : ∀ i, W64 (plF n f e i)
  | 0 => h
  | i + 1 => putF_w (plF_w h i) _

set_option maxHeartbeats 4000000 in
theorem pdo_any (a : Option Addr) (n cap : Nat) (f : Nat → Int) (a2 : Option Addr) (m cap2 : Nat) (e : Nat → Int) (w : World) (h : Sl .u64 w a n f) (hn : n ≤ 1000000000) (hw : W64 f) (h2 : Sl .u64 w a2 m e) (hm : m ≤ 1000000000) (hw2 : W64 e) :
    Calls Try.prog 30 #[.slice a n cap, .slice a2 m cap2] w fun r w' => r = .returned (.slice (some ⟨w.heap.size, 0, none⟩) n n) ∧ Fk .u64 n w' w.heap.size (plF n f e m) ∧ Below w.heap.size w w' ∧ w.heap.size < w'.heap.size := by
  have HW : Hid (W64 f) := hw
  have HE : Hid (W64 e) := hw2
  have HS : Hid (Sl .u64 w a2 m e) := h2
  go_enter Try.func30, Try.ntmps30
  go_wp2_with (fail)
  refine (copy_any a n cap f w h hn).mono ?_
  rintro r w1 ⟨rfl, f1, B1, z1⟩
  clear h hw hw2 h2
  have F1 : Hid (Fk .u64 n w1 w.heap.size f) := f1
  clear f1
  go_wp2_with (fail)
  go_loopw [12] (fun i wr => ∃ k : Nat, k ≤ m ∧ i = .int .i64 k ∧ Fk .u64 n wr w.heap.size (plF n f e k) ∧ Below w.heap.size w wr ∧ w.heap.size < wr.heap.size) (fun i _ => m - (intOf i).toNat)
  case atStart => exact ⟨0, by omega, rfl, F1.out, B1, by omega⟩
  case round =>
    obtain ⟨k, hk, rfl, fk, C5, z5⟩ := hrel
    have FK : Hid (Fk .u64 n wr w.heap.size (plF n f e k)) := fk
    clear F1 B1 z1 fk
    by_cases lt : (k : Int) < m
    · have ltn : k < m := by omega
      rcases HS.out with h0 | ⟨b, off, rfl, hc⟩
      · omega
      have hb : b < w.heap.size := World.block_lt_of_cell? w _ (hc k ltn)
      have ck : wr.cell? ⟨b, off + k, none⟩ = some (.int .u64 (e k)) := (C5.cell (p := ⟨b, off + k, none⟩) hb).trans (hc k ltn)
      obtain ⟨y0, y1⟩ := HE.out k
      clear hc HS
      go_wp2_with (fail)
      refine (carry_any w.heap.size n n (plF n f e k) (e k) wr FK.out z5 hn (plF_w HW.out k) y0 y1).mono ?_
      rintro r w5 ⟨rfl, f5, B5⟩
      have F5 : Hid (Fk .u64 n w5 w.heap.size (plF n f e (k + 1))) := f5
      have C6 := C5.trans B5
      have z6 := B5.size
      clear f5 B5 ck
      go_wp2_with (fail)
      go_roundw
      case rel => exact ⟨k + 1, by omega, by go_num, F5.out, C6, by omega⟩
      case measure => simp [intOf]; omega
    · have ek : k = m := by omega
      subst ek
      go_wp2_with (fail)
      go_ret
      exact ⟨rfl, FK.out, C5, z5⟩

set_option maxHeartbeats 4000000 in
theorem spdo_any (b off n cap : Nat) (f : Nat → Int) (a2 : Option Addr) (m cap2 : Nat) (e : Nat → Int) (w : World) (h : ∀ j, j < n → w.cell? ⟨b, off + j, none⟩ = some (.int .u64 (f j))) (hb : 0 < n → b < w.heap.size) (hn : n ≤ 1000000000) (hw : W64 f) (h2 : Sl .u64 w a2 m e) (hm : m ≤ 1000000000) (hw2 : W64 e) :
    Calls Try.prog 29 #[.slice (some ⟨b, off, none⟩) n cap, .slice a2 m cap2] w fun r w' => ∃ q c, w.heap.size ≤ q ∧ q < w'.heap.size ∧ r = .returned (.slice (some ⟨q, 0, none⟩) n c) ∧ Fk .u64 n w' q (plF n f e m) ∧ Below w.heap.size w w' := by
  obtain ⟨i0, hi0, hz0, hz1, hz2⟩ := info_parts infoUint64
  have HW : Hid (W64 f) := hw
  have HE : Hid (W64 e) := hw2
  have HS : Hid (Sl .u64 w a2 m e) := h2
  have HC : Hid (∀ j, j < n → w.cell? ⟨b, off + j, none⟩ = some (.int .u64 (f j))) := h
  clear h hw h2 hw2
  have OB : Hid (∀ V : World, Below w.heap.size w V → ∀ j u, (rowOf n f)[j]? = some u → V.cell? ((⟨b, off, none⟩ : Addr).add j) = some u) := fun V hV j u hu => by
    obtain ⟨hj, rfl⟩ := rowOf_lt hu
    rw [Addr.add_mid]
    exact (hV.cell (p := ⟨b, off + j, none⟩) (hb (by omega))).trans (HC.out j hj)
  have OO : Hid ((w.alloc (.cells #[] 79)).ownsRow w.heap.size 79 1 (.slice (some ⟨w.heap.size, 0, none⟩) 0 0) 0 []) := ⟨rfl, .inr ⟨w.heap.size, 0, #[], rfl, Nat.le_refl _, heap1_0 w _, Nat.le_refl _, Nat.zero_le _, rfl, rfl⟩⟩
  have B3 : Hid (Below w.heap.size w (w.alloc (.cells #[] 79))) := below1 w _
  have z3 : w.heap.size + 1 ≤ (w.alloc (.cells #[] 79)).heap.size := by simp
  go_enter Try.func29, Try.ntmps29
  go_wp2_with (refine wpList_append_own _ rfl _ _ 45 rfl w.heap.size 79 i0 (.int .u64 0) 1 8 Try.underlying45 hi0 hz0 hz1 hz2 rfl (by decide) _ 0 [] rfl OO.out ⟨b, off, none⟩ n _ (rowOf n f) rfl (by rw [rowOf_len]; omega) (OB.out _ B3.out) (rowOf_one n f) (by unfold maxLen; omega) (by omega) (by omega) ?_)
  intro v w4 hown hgrow hiff
  obtain ⟨q, c, rfl, hbq, hqs, f4⟩ := own_fk hown hiff
  have C4 : Below w.heap.size w w4 := B3.out.grown hgrow (by omega) (fun k hk => by simp [Value.ownBlock] at hk; omega)
  clear hown hgrow hiff OO B3 OB hi0 hz0 hz1 hz2 z3
  have zq : w.heap.size ≤ q := by omega
  have HF : Hid (Fk .u64 n w4 q f) := f4
  clear f4
  go_wp2_with (fail)
  go_loopw [5, 6] (fun v i wr => ∃ k : Nat, k ≤ m ∧ i = .int .i64 k ∧ v = .slice (some ⟨q, 0, none⟩) n c ∧ Fk .u64 n wr q (plF n f e k) ∧ Below w.heap.size w wr ∧ q < wr.heap.size) (fun _ i _ => m - (intOf i).toNat)
  case atStart => exact ⟨0, by omega, rfl, rfl, HF.out, C4, by omega⟩
  case round =>
    obtain ⟨k, hk, rfl, rfl, fk, C6, z6⟩ := hrel
    have FK : Hid (Fk .u64 n wr q (plF n f e k)) := fk
    clear HF C4 fk
    by_cases lt : (k : Int) < m
    · have ltn : k < m := by omega
      rcases HS.out with h0 | ⟨b2, off2, rfl, hc⟩
      · omega
      have hb2 : b2 < w.heap.size := World.block_lt_of_cell? w _ (hc k ltn)
      have ck : wr.cell? ⟨b2, off2 + k, none⟩ = some (.int .u64 (e k)) := (C6.cell (p := ⟨b2, off2 + k, none⟩) hb2).trans (hc k ltn)
      obtain ⟨y0, y1⟩ := HE.out k
      clear hc HS
      go_wp2_with (fail)
      refine (sput_any q n c (plF n f e k) (e k) wr FK.out z6 hn (plF_w HW.out k) y0 y1).mono ?_
      rintro r w7 ⟨rfl, f7, B7⟩
      have F7 : Hid (Fk .u64 n w7 q (plF n f e (k + 1))) := f7
      have C7 := C6.trans (B7.mono zq)
      have z7 := B7.size
      clear f7 B7 ck
      go_wp2_with (fail)
      go_roundw
      case rel => exact ⟨k + 1, by omega, by go_num, rfl, F7.out, C7, by omega⟩
      case measure => simp [intOf]; omega
    · have ek : k = m := by omega
      subst ek
      go_wp2_with (fail)
      go_ret
      exact ⟨q, zq, z6, ⟨c, rfl⟩, FK.out, C6⟩

end Go.Proofs.Ytipbijcmpbefpaa.Plat

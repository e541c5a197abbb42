/- The values of a book, by the specification. -/
import Derived.Test.YtgfbfgiohmdjmaaGreatM21
namespace Go.Proofs.YtgfbfgiohmdjmaaGreat.Book
open Go.ChangeShapes Go.WideShapes Go.ChangeAt Go.RowKit
open Aid Lst
open Plat (okB okB_of fnd)
set_option maxRecDepth 100000
set_option linter.unusedVariables false

theorem at_cell {x : Sx} {w : World} {k o n : Nat} (h : x.At w) (ea : x.a = some ⟨k, o, none⟩) (hn : n < x.n) : w.cell? ⟨k, o + n, none⟩ = some (.int .i64 (x.f n)) := by
  rcases h with h | ⟨k', o', e, hc⟩
  · omega
  · rw [ea] at e; cases e; exact hc n hn
theorem addr_in {s p l m d a n : Int} (ho : okB s p l = true) (h0 : 0 ≤ n) (h1 : n < m) : Plat.addr s p l m d a n = a + n * d := by
  unfold Plat.addr; rw [if_pos ho, fnd_in h0 h1]
theorem some_at {x : Sx} {w : World} (h : x.At w) (hn : 0 < x.n) : ∃ k o, x.a = some ⟨k, o, none⟩ := by
  obtain ⟨k, o, e, _⟩ := h.cells hn
  exact ⟨k, o, e⟩

theorem pos_lt {b : Bx} {s p k j : Nat} (hk : k < 4) (h : ∀ i, i < j → 0 ≤ (b.hd k).f i ∧ (b.hd k).f i < b.o.n) (ho : b.o.n ≤ p * 8) : pos b s p k j < 3 + s + s + 4 + p + p * 8 + p * 8 := by
  cases j with
  | zero => simp only [pos]; omega
  | succ i => have := h i (by omega); simp only [pos]; omega

set_option maxHeartbeats 16000000 in
theorem slay_any (S P : Nat) (l : Int) (b : Bx) (w : World) (h : b.At w) (ok : okB S P l = true) (okp : OkP b) (es : b.s = S) (ep : b.p.n = P) :
    Calls Tryz.prog 51 #[.agg #[.int .i64 S, .int .i64 P, .int .i64 l], .agg b.cells.toArray] w fun e w' => ∃ k, e = .returned (.slice (some ⟨k, 0, none⟩) (3 + S + S + 4 + P + P * 8 + P * 8) (3 + S + S + 4 + P + P * 8 + P * 8)) ∧ w.heap.size ≤ k ∧ k < w'.heap.size ∧ Fk .i64 (3 + S + S + 4 + P + P * 8 + P * 8) w' k (layF b S P) ∧ Below w.heap.size w w' := by
  obtain ⟨k1, k2, k3, k4, k5, k6⟩ := okB_of ok
  have OKB : Hid (okB S P l = true) := ok
  have OKP : Hid (OkP b) := okp
  have li := okp.1.1.2.2.1
  have le := okp.1.1.2.2.2.1
  have nn := okp.nums
  have ni : b.i.n ≤ S := by omega
  have ni' : S ≤ b.i.n := by omega
  have ne' : S ≤ b.e.n := by omega
  have np' : P ≤ b.p.n := by omega
  have no' : P * 8 ≤ b.o.n := by omega
  have no : b.o.n ≤ P * 8 := by omega
  have ne4 : b.e.n ≤ 4 := by omega
  obtain ⟨ki, oi, eai⟩ := some_at (h b.i (by simp [Bx.lists])) (by omega)
  obtain ⟨ke, oe, eae⟩ := some_at (h b.e (by simp [Bx.lists])) (by omega)
  obtain ⟨kp, op, eap⟩ := some_at (h b.p (by simp [Bx.lists])) (by omega)
  obtain ⟨kw, ow, eaw⟩ := some_at (h b.o (by simp [Bx.lists])) (by omega)
  have AI : Hid (b.i.a = some ⟨ki, oi, none⟩) := eai
  have AE : Hid (b.e.a = some ⟨ke, oe, none⟩) := eae
  have AP : Hid (b.p.a = some ⟨kp, op, none⟩) := eap
  have AO : Hid (b.o.a = some ⟨kw, ow, none⟩) := eaw
  have ES : Hid (b.s = S) := es
  have EP : Hid (b.p.n = P) := ep
  clear ok okp es ep li le nn eai eae eap eaw
  have S0 : HB w S P l b ((w.alloc (.cells #[.int .i64 S, .int .i64 P, .int .i64 l] 62)).alloc (.cells #[.int .i64 b.s, .slice b.p.a b.p.n b.p.c, .slice b.h0.a b.h0.n b.h0.c, .slice b.h1.a b.h1.n b.h1.c, .slice b.h2.a b.h2.n b.h2.c, .slice b.h3.a b.h3.n b.h3.c, .slice b.o.a b.o.n b.o.c, .slice b.i.a b.i.n b.i.c, .slice b.e.a b.e.n b.e.c] 30)) := ⟨range_lit (ints [(S : Int), (P : Int), l]).toArray (heap2_0 w _ _), ⟨range_lit #[.int .i64 b.s, .slice b.p.a b.p.n b.p.c, .slice b.h0.a b.h0.n b.h0.c, .slice b.h1.a b.h1.n b.h1.c, .slice b.h2.a b.h2.n b.h2.c, .slice b.h3.a b.h3.n b.h3.c, .slice b.o.a b.o.n b.o.c, .slice b.i.a b.i.n b.i.c, .slice b.e.a b.e.n b.e.c] (heap2_1 w _ _), h.later (below2 _ _ _)⟩, below2 _ _ _, by simp⟩
  obtain ⟨H, hH⟩ : ∃ H : Nat, H = 3 + S + S + 4 + P + P * 8 + P * 8 := ⟨_, rfl⟩
  have nH : H ≤ 300 := by omega
  have hH1 : 3 + S + S + 4 + P + P * 8 + P * 8 ≤ H := by omega
  have HH : Hid (H = 3 + S + S + 4 + P + P * 8 + P * 8) := hH
  have eH : Hid ((7 : Int) + 2 * S + 17 * P = H) := by unfold Hid; omega
  clear hH
  have hmk := fun w => run_make_row' (P := Tryz.prog) 27 3 (.int .i64 0) 8 Tryz.underlying27 infoInt rfl .i64 .i64 H (by omega) (by omega) w
  simp only [Bx.cells]
  go_enter Tryz.func51, Tryz.ntmps51
  go_wp2_with (fail)
  generalize (w.alloc (.cells #[.int .i64 S, .int .i64 P, .int .i64 l] 62)).alloc (.cells #[.int .i64 b.s, .slice b.p.a b.p.n b.p.c, .slice b.h0.a b.h0.n b.h0.c, .slice b.h1.a b.h1.n b.h1.c, .slice b.h2.a b.h2.n b.h2.c, .slice b.h3.a b.h3.n b.h3.c, .slice b.o.a b.o.n b.o.c, .slice b.i.a b.i.n b.i.c, .slice b.e.a b.e.n b.e.c] 30) = W at S0 ⊢
  refine (Plat.sHouse_ok S P l W (okB_of OKB.out)).mono ?_
  rintro e W1 ⟨rfl, rfl⟩
  rw [eH.out]
  replace S0 := S0.later (below1 W (.cells #[.int .i64 S, .int .i64 P, .int .i64 l] 62))
  generalize W.alloc (.cells #[.int .i64 S, .int .i64 P, .int .i64 l] 62) = W1 at S0 ⊢
  have f1 := fk_made .i64 W1 H 3
  have S1 := S0.later (below1 W1 (.cells (madeCells #[.int .i64 0] H) 3))
  have y1 : W1.heap.size < (W1.alloc (.cells (madeCells #[.int .i64 0] H) 3)).heap.size := by simp
  have z0 := S0.z
  have HF : Hid (Fk _ _ _ _ _) := f1
  have HS : Hid (HB _ _ _ _ _ _) := S1
  clear S0 f1 S1
  go_wp2_with (fail)
  clear hmk
  generalize W1.alloc (.cells (madeCells #[.int .i64 0] H) 3) = W2 at HF HS y1 ⊢
  obtain ⟨vk, hvk⟩ : ∃ vk, vk = W1.heap.size := ⟨_, rfl⟩
  rw [← hvk] at HF y1 z0 ⊢
  clear hvk
  go_loopw [6] (fun i wr => ∃ n : Nat, n ≤ S ∧ i = .int .i64 n ∧ HB w S P l b wr ∧ Fk .i64 H wr vk (pv b S P n 0 0) ∧ vk < wr.heap.size) (fun i _ => S - (intOf i).toNat)
  case atStart => exact ⟨0, by omega, rfl, HS.out, by rw [pv_none]; exact HF.out, y1⟩
  case' round =>
  obtain ⟨n, hn, rfl, hs, hf, yy⟩ := hrel
  have HS' : Hid (HB w S P l b wr) := hs
  have HF' : Hid (Fk .i64 H wr vk (pv b S P n 0 0)) := hf
  have c0 := at0 hs.c 0 (v := .int .i64 S) rfl
  have c1 := at0 hs.c 1 (v := .int .i64 P) rfl
  have c6 := (nine hs.e.r).2.2.2.2.2.2.1
  clear hs hf HS HF y1
  by_cases lt : n < S
  · have lt2 : (n : Int) < S := by omega
    have nI : n < b.i.n := by omega
    have nE : n < b.e.n := by omega
    have nI2 : (n : Int) < b.i.n := by omega
    have nE2 : (n : Int) < b.e.n := by omega
    obtain ⟨i0, i1, p0, p1, -⟩ := OKP.out.1.2.1 n (by omega)
    go_wp2_with (fail)
    clear c0 c1 c6
    have FD : Hid (Fk .i64 H wr.drew vk (pv b S P n 0 0)) := HF'.out
    have yd : vk < wr.drew.heap.size := yy
    refine wp_region_held_drew (S := HB w S P l b) (by kernel_rfl) HS'.out.drew (fun hS => ?_)
    clear HS' HF' yy
    refine tI 0 (v := .slice (some ⟨vk, 0, none⟩) H H) (d := some 21) rfl rfl (fun w' hw => ?_) (by assumption) ?_
    · clear hw; go_simp
    simp only [Act.put, s1, s2, s3]
    refine tI 1 (v := .agg #[.int .i64 S, .int .i64 P, .int .i64 l]) (d := some 22) rfl rfl (fun w' hw => ?_) (by assumption) ?_
    · have e0 := hw.c 0 _ rfl; have e1 := hw.c 1 _ rfl; have e2 := hw.c 2 _ rfl; simp only [Nat.zero_add] at e0 e1 e2; clear hw; go_simp
    simp only [Act.put, s1, s2, s3]
    refine tI 2 (v := .int .i64 n) (d := some 23) rfl rfl (fun w' hw => ?_) (by assumption) ?_
    · clear hw; go_simp
    simp only [Act.put, s1, s2, s3]
    refine tI 4 (v := .pointer (some ⟨w.heap.size + 1, 7, none⟩)) (d := some 25) rfl rfl (fun w' hw => ?_) (by assumption) ?_
    · clear hw; go_simp
    simp only [Act.put, s1, s2, s3]
    refine tI 5 (v := .slice (some ⟨ki, oi, none⟩) b.i.n b.i.c) (d := some 26) rfl rfl (fun w' hw => ?_) (by assumption) ?_
    · have q := hw.e.r 7 _ rfl; simp only [Nat.zero_add] at q; rw [AI.out] at q; clear hw; go_simp
    simp only [Act.put, s1, s2, s3]
    refine tI 6 (v := .int .i64 n) (d := some 27) rfl rfl (fun w' hw => ?_) (by assumption) ?_
    · clear hw; go_simp
    simp only [Act.put, s1, s2, s3]
    refine tI 7 (v := .pointer (some ⟨ki, oi + n, none⟩)) (d := some 28) rfl rfl (fun w' hw => ?_) (by assumption) ?_
    · clear hw; go_simp
    simp only [Act.put, s1, s2, s3]
    refine tI 8 (v := .int .i64 (b.i.f n)) (d := some 29) rfl rfl (fun w' hw => ?_) (by assumption) ?_
    · have q := at_cell (n := n) (hw.e.a b.i (by simp [Bx.lists])) AI.out (by omega); clear hw; go_simp
    simp only [Act.put, s1, s2, s3]
    refine tI 9 (v := .pointer (some ⟨w.heap.size + 1, 8, none⟩)) (d := some 30) rfl rfl (fun w' hw => ?_) (by assumption) ?_
    · clear hw; go_simp
    simp only [Act.put, s1, s2, s3]
    refine tI 10 (v := .slice (some ⟨ke, oe, none⟩) b.e.n b.e.c) (d := some 31) rfl rfl (fun w' hw => ?_) (by assumption) ?_
    · have q := hw.e.r 8 _ rfl; simp only [Nat.zero_add] at q; rw [AE.out] at q; clear hw; go_simp
    simp only [Act.put, s1, s2, s3]
    refine tI 11 (v := .int .i64 n) (d := some 32) rfl rfl (fun w' hw => ?_) (by assumption) ?_
    · clear hw; go_simp
    simp only [Act.put, s1, s2, s3]
    refine tI 12 (v := .pointer (some ⟨ke, oe + n, none⟩)) (d := some 33) rfl rfl (fun w' hw => ?_) (by assumption) ?_
    · clear hw; go_simp
    simp only [Act.put, s1, s2, s3]
    refine tI 13 (v := .int .i64 (b.e.f n)) (d := some 34) rfl rfl (fun w' hw => ?_) (by assumption) ?_
    · have q := at_cell (n := n) (hw.e.a b.e (by simp [Bx.lists])) AE.out (by omega); clear hw; go_simp
    simp only [Act.put, s1, s2, s3]
    refine tI 14 (v := .int .i64 (4 * b.e.f n)) (d := some 35) rfl rfl (fun w' hw => ?_) (by assumption) ?_
    · clear hw; have w1 : IntKind.i64.wrap (4 * b.e.f n) = 4 * b.e.f n := (by rw [IntKind.wrap_i64]; omega); go_simp
    simp only [Act.put, s1, s2, s3]
    refine tI 15 (v := .int .i64 (b.i.f n + 4 * b.e.f n)) (d := some 36) rfl rfl (fun w' hw => ?_) (by assumption) ?_
    · clear hw; have w1 : IntKind.i64.wrap (b.i.f n + 4 * b.e.f n) = b.i.f n + 4 * b.e.f n := (by rw [IntKind.wrap_i64]; omega); go_simp
    simp only [Act.put, s1, s2, s3]
    generalize World.drew _ = V at hS FD yd ⊢
    refine r1 3 rfl (fun K hK => ?_)
    have HQ : Hid (HB _ _ _ _ _ _) := hS
    clear hS
    go_simp
    refine (Plat.sreg_any S P l n V).mono ?_
    rintro e V1 ⟨rfl, hb⟩
    obtain ⟨at_, hat⟩ : ∃ a : Nat, a = 3 + n := ⟨_, rfl⟩
    have HAT : Hid (at_ = 3 + n) := hat
    have ix : at_ < H := by omega
    have ixi : (at_ : Int) < H := by omega
    have ea : Plat.addr (S : Int) P l S 1 3 n = (at_ : Int) := by rw [addr_in OKB.out (by omega) (by omega)]; omega
    rw [ea]
    clear hat
    have FD1 : Hid (Fk .i64 H V1 vk (pv b S P n 0 0)) := FD.out.later hb
    have HQ1 : Hid (HB _ _ _ _ _ _) := HQ.out.later hb
    have yd1 : vk < V1.heap.size := Nat.lt_of_lt_of_le yd hb.size
    clear hb ea FD HQ yd
    go_simp
    refine hK.out _ _ HQ1.out (fun hS => ?_)
    clear hK K HQ1
    refine tI 16 (v := .pointer (some ⟨vk, at_, none⟩)) (d := some 37) rfl rfl (fun w' hw => ?_) (by assumption) ?_
    · clear hw; go_simp
    simp only [Act.put, s1, s2, s3]
    have cd := FD1.out at_ ix
    refine r1 17 rfl (fun K hK => ?_)
    have HQ : Hid (HB _ _ _ _ _ _) := hS
    have oy : Only vk (vk + 1) V1 (V1.setCell ⟨vk, at_, none⟩ (.int .i64 (b.i.f n + 4 * b.e.f n))) := (Only.refl _ _ _).setCell vk _ (Nat.le_refl _) (by omega) _
    have HQ2 : Hid (HB _ _ _ _ _ _) := HQ.out.only h oy (by omega)
    have F2 : Hid (Fk .i64 H (V1.setCell ⟨vk, at_, none⟩ (.int .i64 (b.i.f n + 4 * b.e.f n))) vk (pv b S P (n + 1) 0 0)) := by
      unfold Hid
      rw [← pv_reg lt (v := b.i.f n + 4 * b.e.f n) (by rw [lay_reg lt]; omega), ← HAT.out]
      exact FD1.out.set _ _ _ (by simp [upd]) (fun i _ hne => by simp [upd, hne])
    have y2 := oy.size
    clear hS oy FD1
    go_simp
    refine hK.out _ _ HQ2.out (fun hS => ?_)
    clear hK K hS cd
    refine wpAnyH_done (by kernel_rfl) ?_ _
    go_wp2_with (fail)
    go_roundw
    case rel => exact ⟨n + 1, by omega, by go_num, HQ2.out, F2.out, by omega⟩
    case measure => simp [intOf]; omega
  have en : n = S := by omega
  have HS : Hid (HB w S P l b wr) := HS'.out
  have HF : Hid (Fk .i64 H wr vk (pv b S P S 0 0)) := by unfold Hid; rw [en] at HF'; exact HF'.out
  have y1 := yy
  skip
  clear en HS' HF' hn yy
  go_wp2_with (fail)
  clear c0 c1 c6 lt
  go_loopw [7] (fun i wr => ∃ n : Nat, n ≤ P ∧ i = .int .i64 n ∧ HB w S P l b wr ∧ Fk .i64 H wr vk (pv b S P S n 0) ∧ vk < wr.heap.size) (fun i _ => P - (intOf i).toNat)
  case atStart => exact ⟨0, by omega, rfl, HS.out, HF.out, y1⟩
  case' round =>
  obtain ⟨n, hn, rfl, hs, hf, yy⟩ := hrel
  have HS' : Hid (HB w S P l b wr) := hs
  have HF' : Hid (Fk .i64 H wr vk (pv b S P S n 0)) := hf
  have c0 := at0 hs.c 0 (v := .int .i64 S) rfl
  have c1 := at0 hs.c 1 (v := .int .i64 P) rfl
  have c6 := (nine hs.e.r).2.2.2.2.2.2.1
  clear hs hf HS HF y1
  by_cases lt : n < P
  · have lt2 : (n : Int) < P := by omega
    have nI : n < b.p.n := by omega
    have nI2 : (n : Int) < b.p.n := by omega
    go_wp2_with (fail)
    clear c0 c1 c6
    have FD : Hid (Fk .i64 H wr.drew vk (pv b S P S n 0)) := HF'.out
    have yd : vk < wr.drew.heap.size := yy
    refine wp_region_held_drew (S := HB w S P l b) (by kernel_rfl) HS'.out.drew (fun hS => ?_)
    clear HS' HF' yy
    refine tI 0 (v := .slice (some ⟨vk, 0, none⟩) H H) (d := some 44) rfl rfl (fun w' hw => ?_) (by assumption) ?_
    · clear hw; go_simp
    simp only [Act.put, s1, s2, s3]
    refine tI 1 (v := .agg #[.int .i64 S, .int .i64 P, .int .i64 l]) (d := some 45) rfl rfl (fun w' hw => ?_) (by assumption) ?_
    · have e0 := hw.c 0 _ rfl; have e1 := hw.c 1 _ rfl; have e2 := hw.c 2 _ rfl; simp only [Nat.zero_add] at e0 e1 e2; clear hw; go_simp
    simp only [Act.put, s1, s2, s3]
    refine tI 2 (v := .int .i64 n) (d := some 46) rfl rfl (fun w' hw => ?_) (by assumption) ?_
    · clear hw; go_simp
    simp only [Act.put, s1, s2, s3]
    refine tI 4 (v := .pointer (some ⟨w.heap.size + 1, 1, none⟩)) (d := some 48) rfl rfl (fun w' hw => ?_) (by assumption) ?_
    · clear hw; go_simp
    simp only [Act.put, s1, s2, s3]
    refine tI 5 (v := .slice (some ⟨kp, op, none⟩) b.p.n b.p.c) (d := some 49) rfl rfl (fun w' hw => ?_) (by assumption) ?_
    · have q := hw.e.r 1 _ rfl; simp only [Nat.zero_add] at q; rw [AP.out] at q; clear hw; go_simp
    simp only [Act.put, s1, s2, s3]
    refine tI 6 (v := .int .i64 n) (d := some 50) rfl rfl (fun w' hw => ?_) (by assumption) ?_
    · clear hw; go_simp
    simp only [Act.put, s1, s2, s3]
    refine tI 7 (v := .pointer (some ⟨kp, op + n, none⟩)) (d := some 51) rfl rfl (fun w' hw => ?_) (by assumption) ?_
    · clear hw; go_simp
    simp only [Act.put, s1, s2, s3]
    refine tI 8 (v := .int .i64 (b.p.f n)) (d := some 52) rfl rfl (fun w' hw => ?_) (by assumption) ?_
    · have q := at_cell (n := n) (hw.e.a b.p (by simp [Bx.lists])) AP.out (by omega); clear hw; go_simp
    simp only [Act.put, s1, s2, s3]
    generalize World.drew _ = V at hS FD yd ⊢
    refine r1 3 rfl (fun K hK => ?_)
    have HQ : Hid (HB _ _ _ _ _ _) := hS
    clear hS
    go_simp
    refine (Plat.spage_any S P l n V).mono ?_
    rintro e V1 ⟨rfl, hb⟩
    obtain ⟨at_, hat⟩ : ∃ a : Nat, a = 3 + S + S + 4 + n := ⟨_, rfl⟩
    have HAT : Hid (at_ = 3 + S + S + 4 + n) := hat
    have ix : at_ < H := by omega
    have ixi : (at_ : Int) < H := by omega
    have ea : Plat.addr (S : Int) P l P 1 (3 + S + S + 4) n = (at_ : Int) := by rw [addr_in OKB.out (by omega) (by omega)]; omega
    rw [ea]
    clear hat
    have FD1 : Hid (Fk .i64 H V1 vk (pv b S P S n 0)) := FD.out.later hb
    have HQ1 : Hid (HB _ _ _ _ _ _) := HQ.out.later hb
    have yd1 : vk < V1.heap.size := Nat.lt_of_lt_of_le yd hb.size
    clear hb ea FD HQ yd
    go_simp
    refine hK.out _ _ HQ1.out (fun hS => ?_)
    clear hK K HQ1
    refine tI 9 (v := .pointer (some ⟨vk, at_, none⟩)) (d := some 53) rfl rfl (fun w' hw => ?_) (by assumption) ?_
    · clear hw; go_simp
    simp only [Act.put, s1, s2, s3]
    have cd := FD1.out at_ ix
    refine r1 10 rfl (fun K hK => ?_)
    have HQ : Hid (HB _ _ _ _ _ _) := hS
    have oy : Only vk (vk + 1) V1 (V1.setCell ⟨vk, at_, none⟩ (.int .i64 (b.p.f n))) := (Only.refl _ _ _).setCell vk _ (Nat.le_refl _) (by omega) _
    have HQ2 : Hid (HB _ _ _ _ _ _) := HQ.out.only h oy (by omega)
    have F2 : Hid (Fk .i64 H (V1.setCell ⟨vk, at_, none⟩ (.int .i64 (b.p.f n))) vk (pv b S P S (n + 1) 0)) := by
      unfold Hid
      rw [← pv_page lt (v := b.p.f n) (lay_page lt), ← HAT.out]
      exact FD1.out.set _ _ _ (by simp [upd]) (fun i _ hne => by simp [upd, hne])
    have y2 := oy.size
    clear hS oy FD1
    go_simp
    refine hK.out _ _ HQ2.out (fun hS => ?_)
    clear hK K hS cd
    refine wpAnyH_done (by kernel_rfl) ?_ _
    go_wp2_with (fail)
    go_roundw
    case rel => exact ⟨n + 1, by omega, by go_num, HQ2.out, F2.out, by omega⟩
    case measure => simp [intOf]; omega
  have en : n = P := by omega
  have HS : Hid (HB w S P l b wr) := HS'.out
  have HF : Hid (Fk .i64 H wr vk (pv b S P S P 0)) := by unfold Hid; rw [en] at HF'; exact HF'.out
  have y1 := yy
  skip
  clear en HS' HF' hn yy
  go_wp2_with (fail)
  clear c0 c1 c6 lt
  go_loopw [8] (fun i wr => ∃ n : Nat, n ≤ P * 8 ∧ i = .int .i64 n ∧ HB w S P l b wr ∧ Fk .i64 H wr vk (pv b S P S P n) ∧ vk < wr.heap.size) (fun i _ => P * 8 - (intOf i).toNat)
  case atStart => exact ⟨0, by omega, rfl, HS.out, HF.out, y1⟩
  case' round =>
  obtain ⟨n, hn, rfl, hs, hf, yy⟩ := hrel
  have HS' : Hid (HB w S P l b wr) := hs
  have HF' : Hid (Fk .i64 H wr vk (pv b S P S P n)) := hf
  have c0 := at0 hs.c 0 (v := .int .i64 S) rfl
  have c1 := at0 hs.c 1 (v := .int .i64 P) rfl
  have c6 := (nine hs.e.r).2.2.2.2.2.2.1
  clear hs hf HS HF y1
  by_cases lt : n < P * 8
  · have lt2 : (n : Int) < P * 8 := by omega
    have nI : n < b.o.n := by omega
    have nI2 : (n : Int) < b.o.n := by omega
    go_wp2_with (fail)
    clear c0 c1 c6
    have FD : Hid (Fk .i64 H wr.drew vk (pv b S P S P n)) := HF'.out
    have yd : vk < wr.drew.heap.size := yy
    refine wp_region_held_drew (S := HB w S P l b) (by kernel_rfl) HS'.out.drew (fun hS => ?_)
    clear HS' HF' yy
    refine tI 0 (v := .slice (some ⟨vk, 0, none⟩) H H) (d := some 61) rfl rfl (fun w' hw => ?_) (by assumption) ?_
    · clear hw; go_simp
    simp only [Act.put, s1, s2, s3]
    refine tI 1 (v := .agg #[.int .i64 S, .int .i64 P, .int .i64 l]) (d := some 62) rfl rfl (fun w' hw => ?_) (by assumption) ?_
    · have e0 := hw.c 0 _ rfl; have e1 := hw.c 1 _ rfl; have e2 := hw.c 2 _ rfl; simp only [Nat.zero_add] at e0 e1 e2; clear hw; go_simp
    simp only [Act.put, s1, s2, s3]
    refine tI 2 (v := .int .i64 n) (d := some 63) rfl rfl (fun w' hw => ?_) (by assumption) ?_
    · clear hw; go_simp
    simp only [Act.put, s1, s2, s3]
    refine tI 4 (v := .pointer (some ⟨w.heap.size + 1, 6, none⟩)) (d := some 65) rfl rfl (fun w' hw => ?_) (by assumption) ?_
    · clear hw; go_simp
    simp only [Act.put, s1, s2, s3]
    refine tI 5 (v := .slice (some ⟨kw, ow, none⟩) b.o.n b.o.c) (d := some 66) rfl rfl (fun w' hw => ?_) (by assumption) ?_
    · have q := hw.e.r 6 _ rfl; simp only [Nat.zero_add] at q; rw [AO.out] at q; clear hw; go_simp
    simp only [Act.put, s1, s2, s3]
    refine tI 6 (v := .int .i64 n) (d := some 67) rfl rfl (fun w' hw => ?_) (by assumption) ?_
    · clear hw; go_simp
    simp only [Act.put, s1, s2, s3]
    refine tI 7 (v := .pointer (some ⟨kw, ow + n, none⟩)) (d := some 68) rfl rfl (fun w' hw => ?_) (by assumption) ?_
    · clear hw; go_simp
    simp only [Act.put, s1, s2, s3]
    refine tI 8 (v := .int .i64 (b.o.f n)) (d := some 69) rfl rfl (fun w' hw => ?_) (by assumption) ?_
    · have q := at_cell (n := n) (hw.e.a b.o (by simp [Bx.lists])) AO.out (by omega); clear hw; go_simp
    simp only [Act.put, s1, s2, s3]
    generalize World.drew _ = V at hS FD yd ⊢
    refine r1 3 rfl (fun K hK => ?_)
    have HQ : Hid (HB _ _ _ _ _ _) := hS
    clear hS
    go_simp
    refine (Plat.stag_any S P l n V).mono ?_
    rintro e V1 ⟨rfl, hb⟩
    obtain ⟨at_, hat⟩ : ∃ a : Nat, a = 3 + S + S + 4 + P + n := ⟨_, rfl⟩
    have HAT : Hid (at_ = 3 + S + S + 4 + P + n) := hat
    have ix : at_ < H := by omega
    have ixi : (at_ : Int) < H := by omega
    have ea : Plat.addr (S : Int) P l (P * 8) 1 (3 + S + S + 4 + P) n = (at_ : Int) := by rw [addr_in OKB.out (by omega) (by omega)]; omega
    rw [ea]
    clear hat
    have FD1 : Hid (Fk .i64 H V1 vk (pv b S P S P n)) := FD.out.later hb
    have HQ1 : Hid (HB _ _ _ _ _ _) := HQ.out.later hb
    have yd1 : vk < V1.heap.size := Nat.lt_of_lt_of_le yd hb.size
    clear hb ea FD HQ yd
    go_simp
    refine hK.out _ _ HQ1.out (fun hS => ?_)
    clear hK K HQ1
    refine tI 9 (v := .pointer (some ⟨vk, at_, none⟩)) (d := some 70) rfl rfl (fun w' hw => ?_) (by assumption) ?_
    · clear hw; go_simp
    simp only [Act.put, s1, s2, s3]
    have cd := FD1.out at_ ix
    refine r1 10 rfl (fun K hK => ?_)
    have HQ : Hid (HB _ _ _ _ _ _) := hS
    have oy : Only vk (vk + 1) V1 (V1.setCell ⟨vk, at_, none⟩ (.int .i64 (b.o.f n))) := (Only.refl _ _ _).setCell vk _ (Nat.le_refl _) (by omega) _
    have HQ2 : Hid (HB _ _ _ _ _ _) := HQ.out.only h oy (by omega)
    have F2 : Hid (Fk .i64 H (V1.setCell ⟨vk, at_, none⟩ (.int .i64 (b.o.f n))) vk (pv b S P S P (n + 1))) := by
      unfold Hid
      rw [← pv_tag lt (v := b.o.f n) (lay_tag lt), ← HAT.out]
      exact FD1.out.set _ _ _ (by simp [upd]) (fun i _ hne => by simp [upd, hne])
    have y2 := oy.size
    clear hS oy FD1
    go_simp
    refine hK.out _ _ HQ2.out (fun hS => ?_)
    clear hK K hS cd
    refine wpAnyH_done (by kernel_rfl) ?_ _
    go_wp2_with (fail)
    go_roundw
    case rel => exact ⟨n + 1, by omega, by go_num, HQ2.out, F2.out, by omega⟩
    case measure => simp [intOf]; omega
  have en : n = P * 8 := by omega
  have HS : Hid (HB w S P l b wr) := HS'.out
  have HF : Hid (Fk .i64 H wr vk (pv b S P S P (P * 8))) := by unfold Hid; rw [en] at HF'; exact HF'.out
  have y1 := yy
  skip
  clear en HS' HF' hn yy
  have ltw : ¬ n < b.o.n := by omega
  go_wp2_with (fail)
  clear c0 c1 c6 lt ltw
  have no48 : b.o.n ≤ 48 := by omega
  have HF0 : Hid (Fk .i64 H wr vk (spK b S P 0)) := HF.out
  have HS0 : Hid (HB w S P l b wr) := HS.out
  have y0 := y1
  clear HF HS y1
  refine wp_loop_rounds 5 ?_
  rw [rounds_succ]
  obtain ⟨u0, u1, u2, u3, u4, u5, u6, u7, u8⟩ := nine HS0.out.e.r
  have q0 := at0 HS0.out.c 0 (v := .int .i64 S) rfl
  have q1 := at0 HS0.out.c 1 (v := .int .i64 P) rfl
  have q2 := at0 HS0.out.c 2 (v := .int .i64 l) rfl
  have nk : b.h0.n ≤ b.o.n := (hd_small OKP.out 0 (by omega)).1
  have N0 : Hid (∀ i, i < b.h0.n → 0 ≤ b.h0.f i ∧ b.h0.f i < b.o.n) := (hd_small OKP.out 0 (by omega)).2
  go_wp2_with (fail)
  refine (Plat.shead_any S P l 0 wr).mono ?_
  rintro e W3 ⟨rfl, hb⟩
  have ea : Plat.addr (S : Int) P l 4 1 (3 + S + S) 0 = ((pos b S P 0 0 : Nat) : Int) := by rw [addr_in OKB.out (by omega) (by omega)]; simp only [pos]; omega
  rw [ea]
  have HG : Hid (Fk .i64 H W3 vk (spK b S P 0)) := HF0.out.later hb
  have HT : Hid (HB w S P l b W3) := HS0.out.later hb
  have yt : vk < W3.heap.size := Nat.lt_of_lt_of_le y0 hb.size
  clear u0 u1 u2 u3 u4 u5 u6 u7 u8 q0 q1 q2 ea hb HF0 HS0 y0
  go_wp2_with (fail)
  go_loopw [10, 11] (fun a i wr => ∃ j : Nat, j ≤ b.h0.n ∧ i = .int .i64 j ∧ a = .int .i64 (pos b S P 0 j : Nat) ∧ HB w S P l b wr ∧ Fk .i64 H wr vk (spI b S P 0 (spK b S P 0) j) ∧ vk < wr.heap.size) (fun _ i _ => b.h0.n - (intOf i).toNat)
  case atStart => exact ⟨0, Nat.zero_le _, rfl, rfl, HT.out, HG.out, yt⟩
  case' round =>
  obtain ⟨j, hj, rfl, rfl, hs, hf, yy⟩ := hrel
  have HS' : Hid (HB w S P l b wr) := hs
  have HF' : Hid (Fk .i64 H wr vk (spI b S P 0 (spK b S P 0) j)) := hf
  clear hf HT HG yt
  obtain ⟨u0, u1, u2, u3, u4, u5, u6, u7, u8⟩ := nine hs.e.r
  clear u0 u1 u6 u7 u8
  by_cases lt : (j : Int) < b.h0.n
  · have ltn : j < b.h0.n := by omega
    obtain ⟨kh, oh, ex⟩ := some_at (hs.e.a b.h0 (by simp [Bx.lists])) (by omega)
    have EX : Hid (b.h0.a = some ⟨kh, oh, none⟩) := ex
    have ch := at_cell (n := j) (hs.e.a b.h0 (by simp [Bx.lists])) ex ltn
    obtain ⟨v0, v1⟩ := N0.out j ltn
    obtain ⟨at_, hat⟩ : ∃ a : Nat, a = pos b S P 0 j := ⟨_, rfl⟩
    have HAT : Hid (at_ = pos b S P 0 j) := hat
    have ix : at_ < H := by
      rw [hat]
      exact Nat.lt_of_lt_of_le (pos_lt (by omega) (fun i hi => (N0.out i (show i < b.h0.n by omega))) no) hH1
    have ixi : (at_ : Int) < H := by omega
    rw [← hat]
    have cd := HF'.out at_ ix
    rw [ex] at u2
    clear hat ex hs
    have oy : Only vk (vk + 1) wr (wr.setCell ⟨vk, at_, none⟩ (.int .i64 (b.h0.f j + 1))) := (Only.refl _ _ _).setCell vk _ (Nat.le_refl _) (by omega) _
    have HQ : Hid (HB w S P l b (wr.setCell ⟨vk, at_, none⟩ (.int .i64 (b.h0.f j + 1)))) := HS'.out.only h oy (by omega)
    have F2 : Hid (Fk .i64 H (wr.setCell ⟨vk, at_, none⟩ (.int .i64 (b.h0.f j + 1))) vk (spI b S P 0 (spK b S P 0) (j + 1))) := by
      unfold Hid
      simp only [spI]
      rw [← HAT.out]
      exact HF'.out.set _ _ _ (by simp [upd, Bx.hd]) (fun i _ hne => by simp [upd, hne])
    have y2 : vk < (wr.setCell ⟨vk, at_, none⟩ (.int .i64 (b.h0.f j + 1))).heap.size := Nat.lt_of_lt_of_le yy oy.size
    clear oy
    go_wp2_with (fail)
    clear u2 u3 u4 u5 ch cd
    generalize wr.setCell ⟨vk, at_, none⟩ (.int .i64 (b.h0.f j + 1)) = W4 at HQ F2 y2 ⊢
    have FD : Hid (Fk .i64 H W4.drew vk (spI b S P 0 (spK b S P 0) (j + 1))) := F2.out
    have yd : vk < W4.drew.heap.size := y2
    refine wp_region_held_drew (S := HB w S P l b) (by kernel_rfl) HQ.out.drew (fun hS => ?_)
    clear HQ F2 HS' HF' y2
    refine tI 0 (v := .agg #[.int .i64 S, .int .i64 P, .int .i64 l]) (d := some 98) rfl rfl (fun w' hw => ?_) (by assumption) ?_
    · have e0 := hw.c 0 _ rfl; have e1 := hw.c 1 _ rfl; have e2 := hw.c 2 _ rfl; simp only [Nat.zero_add] at e0 e1 e2; clear hw; go_simp
    simp only [Act.put, s1, s2, s3]
    refine tI 1 (v := .int .i64 0) (d := some 99) rfl rfl (fun w' hw => ?_) (by assumption) ?_
    · clear hw; go_simp
    simp only [Act.put, s1, s2, s3]
    refine tI 2 (v := .pointer (some ⟨w.heap.size + 1, 2, none⟩)) (d := some 100) rfl rfl (fun w' hw => ?_) (by assumption) ?_
    · clear hw; go_simp
    simp only [Act.put, s1, s2, s3]
    refine tI 3 (v := .pointer (some ⟨w.heap.size + 1, 2, none⟩)) (d := some 101) rfl rfl (fun w' hw => ?_) (by assumption) ?_
    · clear hw; go_simp
    simp only [Act.put, s1, s2, s3]
    refine tI 4 (v := .slice (some ⟨kh, oh, none⟩) b.h0.n b.h0.c) (d := some 102) rfl rfl (fun w' hw => ?_) (by assumption) ?_
    · have q := hw.e.r 2 _ rfl; simp only [Nat.zero_add] at q; rw [EX.out] at q; clear hw; go_simp
    simp only [Act.put, s1, s2, s3]
    refine tI 5 (v := .int .i64 j) (d := some 103) rfl rfl (fun w' hw => ?_) (by assumption) ?_
    · clear hw; go_simp
    simp only [Act.put, s1, s2, s3]
    refine tI 6 (v := .pointer (some ⟨kh, oh + j, none⟩)) (d := some 104) rfl rfl (fun w' hw => ?_) (by assumption) ?_
    · clear hw; go_simp
    simp only [Act.put, s1, s2, s3]
    refine tI 7 (v := .int .i64 (b.h0.f j)) (d := some 105) rfl rfl (fun w' hw => ?_) (by assumption) ?_
    · have q := at_cell (n := j) (hw.e.a b.h0 (by simp [Bx.lists])) EX.out (by omega); clear hw; go_simp
    simp only [Act.put, s1, s2, s3]
    generalize World.drew _ = V at hS FD yd ⊢
    refine r1 8 rfl (fun K hK => ?_)
    have HQ : Hid (HB _ _ _ _ _ _) := hS
    clear hS
    go_simp
    refine (Plat.slink_any S P l (b.h0.f j) V).mono ?_
    rintro e V1 ⟨rfl, hb⟩
    have ea : Plat.addr (S : Int) P l (P * 8) 1 (3 + S + S + 4 + P + P * 8) (b.h0.f j) = ((pos b S P 0 (j + 1) : Nat) : Int) := by
      rw [addr_in OKB.out (by omega) (by omega)]
      have ep : pos b S P 0 (j + 1) = 3 + S + S + 4 + P + P * 8 + (b.h0.f j).toNat := rfl
      rw [ep]
      omega
    rw [ea]
    have FD1 : Hid (Fk .i64 H V1 vk (spI b S P 0 (spK b S P 0) (j + 1))) := FD.out.later hb
    have HQ1 : Hid (HB _ _ _ _ _ _) := HQ.out.later hb
    have yd1 : vk < V1.heap.size := Nat.lt_of_lt_of_le yd hb.size
    clear hb ea FD HQ yd
    go_simp
    refine hK.out _ _ HQ1.out (fun hS => ?_)
    clear hK K
    refine tI 9 (v := .int .i64 (pos b S P 0 (j + 1) : Nat)) (d := some 10) rfl rfl (fun w' hw => ?_) (by assumption) ?_
    · clear hw; go_simp
    simp only [Act.put, s1, s2, s3]
    refine wpAnyH_done (by kernel_rfl) ?_ _
    clear hS
    go_wp2_with (fail)
    go_roundw
    case rel => exact ⟨j + 1, by omega, by go_num, rfl, HQ1.out, FD1.out, yd1⟩
    case measure => simp [intOf]; omega
  have ej : j = b.h0.n := by omega
  have HF1 : Hid (Fk .i64 H wr vk (spK b S P 1)) := by
    unfold Hid
    rw [ej] at HF'
    exact HF'.out
  have HS1 : Hid (HB w S P l b wr) := HS'.out
  have y1 := yy
  have nlt : ¬ j < b.h0.n := by omega
  clear ej HS' HF' hj yy hs nk N0 lt
  go_wp2_with (fail)
  clear u2 u3 u4 u5 nlt
  rw [rounds_succ]
  obtain ⟨u0, u1, u2, u3, u4, u5, u6, u7, u8⟩ := nine HS1.out.e.r
  have q0 := at0 HS1.out.c 0 (v := .int .i64 S) rfl
  have q1 := at0 HS1.out.c 1 (v := .int .i64 P) rfl
  have q2 := at0 HS1.out.c 2 (v := .int .i64 l) rfl
  have nk : b.h1.n ≤ b.o.n := (hd_small OKP.out 1 (by omega)).1
  have N1 : Hid (∀ i, i < b.h1.n → 0 ≤ b.h1.f i ∧ b.h1.f i < b.o.n) := (hd_small OKP.out 1 (by omega)).2
  go_wp2_with (fail)
  refine (Plat.shead_any S P l 1 wr).mono ?_
  rintro e W3 ⟨rfl, hb⟩
  have ea : Plat.addr (S : Int) P l 4 1 (3 + S + S) 1 = ((pos b S P 1 0 : Nat) : Int) := by rw [addr_in OKB.out (by omega) (by omega)]; simp only [pos]; omega
  rw [ea]
  have HG : Hid (Fk .i64 H W3 vk (spK b S P 1)) := HF1.out.later hb
  have HT : Hid (HB w S P l b W3) := HS1.out.later hb
  have yt : vk < W3.heap.size := Nat.lt_of_lt_of_le y1 hb.size
  clear u0 u1 u2 u3 u4 u5 u6 u7 u8 q0 q1 q2 ea hb HF1 HS1 y1
  go_wp2_with (fail)
  go_loopw [10, 11] (fun a i wr => ∃ j : Nat, j ≤ b.h1.n ∧ i = .int .i64 j ∧ a = .int .i64 (pos b S P 1 j : Nat) ∧ HB w S P l b wr ∧ Fk .i64 H wr vk (spI b S P 1 (spK b S P 1) j) ∧ vk < wr.heap.size) (fun _ i _ => b.h1.n - (intOf i).toNat)
  case atStart => exact ⟨0, Nat.zero_le _, rfl, rfl, HT.out, HG.out, yt⟩
  case' round =>
  obtain ⟨j, hj, rfl, rfl, hs, hf, yy⟩ := hrel
  have HS' : Hid (HB w S P l b wr) := hs
  have HF' : Hid (Fk .i64 H wr vk (spI b S P 1 (spK b S P 1) j)) := hf
  clear hf HT HG yt
  obtain ⟨u0, u1, u2, u3, u4, u5, u6, u7, u8⟩ := nine hs.e.r
  clear u0 u1 u6 u7 u8
  by_cases lt : (j : Int) < b.h1.n
  · have ltn : j < b.h1.n := by omega
    obtain ⟨kh, oh, ex⟩ := some_at (hs.e.a b.h1 (by simp [Bx.lists])) (by omega)
    have EX : Hid (b.h1.a = some ⟨kh, oh, none⟩) := ex
    have ch := at_cell (n := j) (hs.e.a b.h1 (by simp [Bx.lists])) ex ltn
    obtain ⟨v0, v1⟩ := N1.out j ltn
    obtain ⟨at_, hat⟩ : ∃ a : Nat, a = pos b S P 1 j := ⟨_, rfl⟩
    have HAT : Hid (at_ = pos b S P 1 j) := hat
    have ix : at_ < H := by
      rw [hat]
      exact Nat.lt_of_lt_of_le (pos_lt (by omega) (fun i hi => (N1.out i (show i < b.h1.n by omega))) no) hH1
    have ixi : (at_ : Int) < H := by omega
    rw [← hat]
    have cd := HF'.out at_ ix
    rw [ex] at u3
    clear hat ex hs
    have oy : Only vk (vk + 1) wr (wr.setCell ⟨vk, at_, none⟩ (.int .i64 (b.h1.f j + 1))) := (Only.refl _ _ _).setCell vk _ (Nat.le_refl _) (by omega) _
    have HQ : Hid (HB w S P l b (wr.setCell ⟨vk, at_, none⟩ (.int .i64 (b.h1.f j + 1)))) := HS'.out.only h oy (by omega)
    have F2 : Hid (Fk .i64 H (wr.setCell ⟨vk, at_, none⟩ (.int .i64 (b.h1.f j + 1))) vk (spI b S P 1 (spK b S P 1) (j + 1))) := by
      unfold Hid
      simp only [spI]
      rw [← HAT.out]
      exact HF'.out.set _ _ _ (by simp [upd, Bx.hd]) (fun i _ hne => by simp [upd, hne])
    have y2 : vk < (wr.setCell ⟨vk, at_, none⟩ (.int .i64 (b.h1.f j + 1))).heap.size := Nat.lt_of_lt_of_le yy oy.size
    clear oy
    go_wp2_with (fail)
    clear u2 u3 u4 u5 ch cd
    generalize wr.setCell ⟨vk, at_, none⟩ (.int .i64 (b.h1.f j + 1)) = W4 at HQ F2 y2 ⊢
    have FD : Hid (Fk .i64 H W4.drew vk (spI b S P 1 (spK b S P 1) (j + 1))) := F2.out
    have yd : vk < W4.drew.heap.size := y2
    refine wp_region_held_drew (S := HB w S P l b) (by kernel_rfl) HQ.out.drew (fun hS => ?_)
    clear HQ F2 HS' HF' y2
    refine tI 0 (v := .agg #[.int .i64 S, .int .i64 P, .int .i64 l]) (d := some 98) rfl rfl (fun w' hw => ?_) (by assumption) ?_
    · have e0 := hw.c 0 _ rfl; have e1 := hw.c 1 _ rfl; have e2 := hw.c 2 _ rfl; simp only [Nat.zero_add] at e0 e1 e2; clear hw; go_simp
    simp only [Act.put, s1, s2, s3]
    refine tI 1 (v := .int .i64 1) (d := some 99) rfl rfl (fun w' hw => ?_) (by assumption) ?_
    · clear hw; go_simp
    simp only [Act.put, s1, s2, s3]
    refine tI 2 (v := .pointer (some ⟨w.heap.size + 1, 2, none⟩)) (d := some 100) rfl rfl (fun w' hw => ?_) (by assumption) ?_
    · clear hw; go_simp
    simp only [Act.put, s1, s2, s3]
    refine tI 3 (v := .pointer (some ⟨w.heap.size + 1, 3, none⟩)) (d := some 101) rfl rfl (fun w' hw => ?_) (by assumption) ?_
    · clear hw; go_simp
    simp only [Act.put, s1, s2, s3]
    refine tI 4 (v := .slice (some ⟨kh, oh, none⟩) b.h1.n b.h1.c) (d := some 102) rfl rfl (fun w' hw => ?_) (by assumption) ?_
    · have q := hw.e.r 3 _ rfl; simp only [Nat.zero_add] at q; rw [EX.out] at q; clear hw; go_simp
    simp only [Act.put, s1, s2, s3]
    refine tI 5 (v := .int .i64 j) (d := some 103) rfl rfl (fun w' hw => ?_) (by assumption) ?_
    · clear hw; go_simp
    simp only [Act.put, s1, s2, s3]
    refine tI 6 (v := .pointer (some ⟨kh, oh + j, none⟩)) (d := some 104) rfl rfl (fun w' hw => ?_) (by assumption) ?_
    · clear hw; go_simp
    simp only [Act.put, s1, s2, s3]
    refine tI 7 (v := .int .i64 (b.h1.f j)) (d := some 105) rfl rfl (fun w' hw => ?_) (by assumption) ?_
    · have q := at_cell (n := j) (hw.e.a b.h1 (by simp [Bx.lists])) EX.out (by omega); clear hw; go_simp
    simp only [Act.put, s1, s2, s3]
    generalize World.drew _ = V at hS FD yd ⊢
    refine r1 8 rfl (fun K hK => ?_)
    have HQ : Hid (HB _ _ _ _ _ _) := hS
    clear hS
    go_simp
    refine (Plat.slink_any S P l (b.h1.f j) V).mono ?_
    rintro e V1 ⟨rfl, hb⟩
    have ea : Plat.addr (S : Int) P l (P * 8) 1 (3 + S + S + 4 + P + P * 8) (b.h1.f j) = ((pos b S P 1 (j + 1) : Nat) : Int) := by
      rw [addr_in OKB.out (by omega) (by omega)]
      have ep : pos b S P 1 (j + 1) = 3 + S + S + 4 + P + P * 8 + (b.h1.f j).toNat := rfl
      rw [ep]
      omega
    rw [ea]
    have FD1 : Hid (Fk .i64 H V1 vk (spI b S P 1 (spK b S P 1) (j + 1))) := FD.out.later hb
    have HQ1 : Hid (HB _ _ _ _ _ _) := HQ.out.later hb
    have yd1 : vk < V1.heap.size := Nat.lt_of_lt_of_le yd hb.size
    clear hb ea FD HQ yd
    go_simp
    refine hK.out _ _ HQ1.out (fun hS => ?_)
    clear hK K
    refine tI 9 (v := .int .i64 (pos b S P 1 (j + 1) : Nat)) (d := some 10) rfl rfl (fun w' hw => ?_) (by assumption) ?_
    · clear hw; go_simp
    simp only [Act.put, s1, s2, s3]
    refine wpAnyH_done (by kernel_rfl) ?_ _
    clear hS
    go_wp2_with (fail)
    go_roundw
    case rel => exact ⟨j + 1, by omega, by go_num, rfl, HQ1.out, FD1.out, yd1⟩
    case measure => simp [intOf]; omega
  have ej : j = b.h1.n := by omega
  have HF2 : Hid (Fk .i64 H wr vk (spK b S P 2)) := by
    unfold Hid
    rw [ej] at HF'
    exact HF'.out
  have HS2 : Hid (HB w S P l b wr) := HS'.out
  have y2 := yy
  have nlt : ¬ j < b.h1.n := by omega
  clear ej HS' HF' hj yy hs nk N1 lt
  go_wp2_with (fail)
  clear u2 u3 u4 u5 nlt
  rw [rounds_succ]
  obtain ⟨u0, u1, u2, u3, u4, u5, u6, u7, u8⟩ := nine HS2.out.e.r
  have q0 := at0 HS2.out.c 0 (v := .int .i64 S) rfl
  have q1 := at0 HS2.out.c 1 (v := .int .i64 P) rfl
  have q2 := at0 HS2.out.c 2 (v := .int .i64 l) rfl
  have nk : b.h2.n ≤ b.o.n := (hd_small OKP.out 2 (by omega)).1
  have N2 : Hid (∀ i, i < b.h2.n → 0 ≤ b.h2.f i ∧ b.h2.f i < b.o.n) := (hd_small OKP.out 2 (by omega)).2
  go_wp2_with (fail)
  refine (Plat.shead_any S P l 2 wr).mono ?_
  rintro e W3 ⟨rfl, hb⟩
  have ea : Plat.addr (S : Int) P l 4 1 (3 + S + S) 2 = ((pos b S P 2 0 : Nat) : Int) := by rw [addr_in OKB.out (by omega) (by omega)]; simp only [pos]; omega
  rw [ea]
  have HG : Hid (Fk .i64 H W3 vk (spK b S P 2)) := HF2.out.later hb
  have HT : Hid (HB w S P l b W3) := HS2.out.later hb
  have yt : vk < W3.heap.size := Nat.lt_of_lt_of_le y2 hb.size
  clear u0 u1 u2 u3 u4 u5 u6 u7 u8 q0 q1 q2 ea hb HF2 HS2 y2
  go_wp2_with (fail)
  go_loopw [10, 11] (fun a i wr => ∃ j : Nat, j ≤ b.h2.n ∧ i = .int .i64 j ∧ a = .int .i64 (pos b S P 2 j : Nat) ∧ HB w S P l b wr ∧ Fk .i64 H wr vk (spI b S P 2 (spK b S P 2) j) ∧ vk < wr.heap.size) (fun _ i _ => b.h2.n - (intOf i).toNat)
  case atStart => exact ⟨0, Nat.zero_le _, rfl, rfl, HT.out, HG.out, yt⟩
  case' round =>
  obtain ⟨j, hj, rfl, rfl, hs, hf, yy⟩ := hrel
  have HS' : Hid (HB w S P l b wr) := hs
  have HF' : Hid (Fk .i64 H wr vk (spI b S P 2 (spK b S P 2) j)) := hf
  clear hf HT HG yt
  obtain ⟨u0, u1, u2, u3, u4, u5, u6, u7, u8⟩ := nine hs.e.r
  clear u0 u1 u6 u7 u8
  by_cases lt : (j : Int) < b.h2.n
  · have ltn : j < b.h2.n := by omega
    obtain ⟨kh, oh, ex⟩ := some_at (hs.e.a b.h2 (by simp [Bx.lists])) (by omega)
    have EX : Hid (b.h2.a = some ⟨kh, oh, none⟩) := ex
    have ch := at_cell (n := j) (hs.e.a b.h2 (by simp [Bx.lists])) ex ltn
    obtain ⟨v0, v1⟩ := N2.out j ltn
    obtain ⟨at_, hat⟩ : ∃ a : Nat, a = pos b S P 2 j := ⟨_, rfl⟩
    have HAT : Hid (at_ = pos b S P 2 j) := hat
    have ix : at_ < H := by
      rw [hat]
      exact Nat.lt_of_lt_of_le (pos_lt (by omega) (fun i hi => (N2.out i (show i < b.h2.n by omega))) no) hH1
    have ixi : (at_ : Int) < H := by omega
    rw [← hat]
    have cd := HF'.out at_ ix
    rw [ex] at u4
    clear hat ex hs
    have oy : Only vk (vk + 1) wr (wr.setCell ⟨vk, at_, none⟩ (.int .i64 (b.h2.f j + 1))) := (Only.refl _ _ _).setCell vk _ (Nat.le_refl _) (by omega) _
    have HQ : Hid (HB w S P l b (wr.setCell ⟨vk, at_, none⟩ (.int .i64 (b.h2.f j + 1)))) := HS'.out.only h oy (by omega)
    have F2 : Hid (Fk .i64 H (wr.setCell ⟨vk, at_, none⟩ (.int .i64 (b.h2.f j + 1))) vk (spI b S P 2 (spK b S P 2) (j + 1))) := by
      unfold Hid
      simp only [spI]
      rw [← HAT.out]
      exact HF'.out.set _ _ _ (by simp [upd, Bx.hd]) (fun i _ hne => by simp [upd, hne])
    have y2 : vk < (wr.setCell ⟨vk, at_, none⟩ (.int .i64 (b.h2.f j + 1))).heap.size := Nat.lt_of_lt_of_le yy oy.size
    clear oy
    go_wp2_with (fail)
    clear u2 u3 u4 u5 ch cd
    generalize wr.setCell ⟨vk, at_, none⟩ (.int .i64 (b.h2.f j + 1)) = W4 at HQ F2 y2 ⊢
    have FD : Hid (Fk .i64 H W4.drew vk (spI b S P 2 (spK b S P 2) (j + 1))) := F2.out
    have yd : vk < W4.drew.heap.size := y2
    refine wp_region_held_drew (S := HB w S P l b) (by kernel_rfl) HQ.out.drew (fun hS => ?_)
    clear HQ F2 HS' HF' y2
    refine tI 0 (v := .agg #[.int .i64 S, .int .i64 P, .int .i64 l]) (d := some 98) rfl rfl (fun w' hw => ?_) (by assumption) ?_
    · have e0 := hw.c 0 _ rfl; have e1 := hw.c 1 _ rfl; have e2 := hw.c 2 _ rfl; simp only [Nat.zero_add] at e0 e1 e2; clear hw; go_simp
    simp only [Act.put, s1, s2, s3]
    refine tI 1 (v := .int .i64 2) (d := some 99) rfl rfl (fun w' hw => ?_) (by assumption) ?_
    · clear hw; go_simp
    simp only [Act.put, s1, s2, s3]
    refine tI 2 (v := .pointer (some ⟨w.heap.size + 1, 2, none⟩)) (d := some 100) rfl rfl (fun w' hw => ?_) (by assumption) ?_
    · clear hw; go_simp
    simp only [Act.put, s1, s2, s3]
    refine tI 3 (v := .pointer (some ⟨w.heap.size + 1, 4, none⟩)) (d := some 101) rfl rfl (fun w' hw => ?_) (by assumption) ?_
    · clear hw; go_simp
    simp only [Act.put, s1, s2, s3]
    refine tI 4 (v := .slice (some ⟨kh, oh, none⟩) b.h2.n b.h2.c) (d := some 102) rfl rfl (fun w' hw => ?_) (by assumption) ?_
    · have q := hw.e.r 4 _ rfl; simp only [Nat.zero_add] at q; rw [EX.out] at q; clear hw; go_simp
    simp only [Act.put, s1, s2, s3]
    refine tI 5 (v := .int .i64 j) (d := some 103) rfl rfl (fun w' hw => ?_) (by assumption) ?_
    · clear hw; go_simp
    simp only [Act.put, s1, s2, s3]
    refine tI 6 (v := .pointer (some ⟨kh, oh + j, none⟩)) (d := some 104) rfl rfl (fun w' hw => ?_) (by assumption) ?_
    · clear hw; go_simp
    simp only [Act.put, s1, s2, s3]
    refine tI 7 (v := .int .i64 (b.h2.f j)) (d := some 105) rfl rfl (fun w' hw => ?_) (by assumption) ?_
    · have q := at_cell (n := j) (hw.e.a b.h2 (by simp [Bx.lists])) EX.out (by omega); clear hw; go_simp
    simp only [Act.put, s1, s2, s3]
    generalize World.drew _ = V at hS FD yd ⊢
    refine r1 8 rfl (fun K hK => ?_)
    have HQ : Hid (HB _ _ _ _ _ _) := hS
    clear hS
    go_simp
    refine (Plat.slink_any S P l (b.h2.f j) V).mono ?_
    rintro e V1 ⟨rfl, hb⟩
    have ea : Plat.addr (S : Int) P l (P * 8) 1 (3 + S + S + 4 + P + P * 8) (b.h2.f j) = ((pos b S P 2 (j + 1) : Nat) : Int) := by
      rw [addr_in OKB.out (by omega) (by omega)]
      have ep : pos b S P 2 (j + 1) = 3 + S + S + 4 + P + P * 8 + (b.h2.f j).toNat := rfl
      rw [ep]
      omega
    rw [ea]
    have FD1 : Hid (Fk .i64 H V1 vk (spI b S P 2 (spK b S P 2) (j + 1))) := FD.out.later hb
    have HQ1 : Hid (HB _ _ _ _ _ _) := HQ.out.later hb
    have yd1 : vk < V1.heap.size := Nat.lt_of_lt_of_le yd hb.size
    clear hb ea FD HQ yd
    go_simp
    refine hK.out _ _ HQ1.out (fun hS => ?_)
    clear hK K
    refine tI 9 (v := .int .i64 (pos b S P 2 (j + 1) : Nat)) (d := some 10) rfl rfl (fun w' hw => ?_) (by assumption) ?_
    · clear hw; go_simp
    simp only [Act.put, s1, s2, s3]
    refine wpAnyH_done (by kernel_rfl) ?_ _
    clear hS
    go_wp2_with (fail)
    go_roundw
    case rel => exact ⟨j + 1, by omega, by go_num, rfl, HQ1.out, FD1.out, yd1⟩
    case measure => simp [intOf]; omega
  have ej : j = b.h2.n := by omega
  have HF3 : Hid (Fk .i64 H wr vk (spK b S P 3)) := by
    unfold Hid
    rw [ej] at HF'
    exact HF'.out
  have HS3 : Hid (HB w S P l b wr) := HS'.out
  have y3 := yy
  have nlt : ¬ j < b.h2.n := by omega
  clear ej HS' HF' hj yy hs nk N2 lt
  go_wp2_with (fail)
  clear u2 u3 u4 u5 nlt
  rw [rounds_succ]
  obtain ⟨u0, u1, u2, u3, u4, u5, u6, u7, u8⟩ := nine HS3.out.e.r
  have q0 := at0 HS3.out.c 0 (v := .int .i64 S) rfl
  have q1 := at0 HS3.out.c 1 (v := .int .i64 P) rfl
  have q2 := at0 HS3.out.c 2 (v := .int .i64 l) rfl
  have nk : b.h3.n ≤ b.o.n := (hd_small OKP.out 3 (by omega)).1
  have N3 : Hid (∀ i, i < b.h3.n → 0 ≤ b.h3.f i ∧ b.h3.f i < b.o.n) := (hd_small OKP.out 3 (by omega)).2
  go_wp2_with (fail)
  refine (Plat.shead_any S P l 3 wr).mono ?_
  rintro e W3 ⟨rfl, hb⟩
  have ea : Plat.addr (S : Int) P l 4 1 (3 + S + S) 3 = ((pos b S P 3 0 : Nat) : Int) := by rw [addr_in OKB.out (by omega) (by omega)]; simp only [pos]; omega
  rw [ea]
  have HG : Hid (Fk .i64 H W3 vk (spK b S P 3)) := HF3.out.later hb
  have HT : Hid (HB w S P l b W3) := HS3.out.later hb
  have yt : vk < W3.heap.size := Nat.lt_of_lt_of_le y3 hb.size
  clear u0 u1 u2 u3 u4 u5 u6 u7 u8 q0 q1 q2 ea hb HF3 HS3 y3
  go_wp2_with (fail)
  go_loopw [10, 11] (fun a i wr => ∃ j : Nat, j ≤ b.h3.n ∧ i = .int .i64 j ∧ a = .int .i64 (pos b S P 3 j : Nat) ∧ HB w S P l b wr ∧ Fk .i64 H wr vk (spI b S P 3 (spK b S P 3) j) ∧ vk < wr.heap.size) (fun _ i _ => b.h3.n - (intOf i).toNat)
  case atStart => exact ⟨0, Nat.zero_le _, rfl, rfl, HT.out, HG.out, yt⟩
  case' round =>
  obtain ⟨j, hj, rfl, rfl, hs, hf, yy⟩ := hrel
  have HS' : Hid (HB w S P l b wr) := hs
  have HF' : Hid (Fk .i64 H wr vk (spI b S P 3 (spK b S P 3) j)) := hf
  clear hf HT HG yt
  obtain ⟨u0, u1, u2, u3, u4, u5, u6, u7, u8⟩ := nine hs.e.r
  clear u0 u1 u6 u7 u8
  by_cases lt : (j : Int) < b.h3.n
  · have ltn : j < b.h3.n := by omega
    obtain ⟨kh, oh, ex⟩ := some_at (hs.e.a b.h3 (by simp [Bx.lists])) (by omega)
    have EX : Hid (b.h3.a = some ⟨kh, oh, none⟩) := ex
    have ch := at_cell (n := j) (hs.e.a b.h3 (by simp [Bx.lists])) ex ltn
    obtain ⟨v0, v1⟩ := N3.out j ltn
    obtain ⟨at_, hat⟩ : ∃ a : Nat, a = pos b S P 3 j := ⟨_, rfl⟩
    have HAT : Hid (at_ = pos b S P 3 j) := hat
    have ix : at_ < H := by
      rw [hat]
      exact Nat.lt_of_lt_of_le (pos_lt (by omega) (fun i hi => (N3.out i (show i < b.h3.n by omega))) no) hH1
    have ixi : (at_ : Int) < H := by omega
    rw [← hat]
    have cd := HF'.out at_ ix
    rw [ex] at u5
    clear hat ex hs
    have oy : Only vk (vk + 1) wr (wr.setCell ⟨vk, at_, none⟩ (.int .i64 (b.h3.f j + 1))) := (Only.refl _ _ _).setCell vk _ (Nat.le_refl _) (by omega) _
    have HQ : Hid (HB w S P l b (wr.setCell ⟨vk, at_, none⟩ (.int .i64 (b.h3.f j + 1)))) := HS'.out.only h oy (by omega)
    have F2 : Hid (Fk .i64 H (wr.setCell ⟨vk, at_, none⟩ (.int .i64 (b.h3.f j + 1))) vk (spI b S P 3 (spK b S P 3) (j + 1))) := by
      unfold Hid
      simp only [spI]
      rw [← HAT.out]
      exact HF'.out.set _ _ _ (by simp [upd, Bx.hd]) (fun i _ hne => by simp [upd, hne])
    have y2 : vk < (wr.setCell ⟨vk, at_, none⟩ (.int .i64 (b.h3.f j + 1))).heap.size := Nat.lt_of_lt_of_le yy oy.size
    clear oy
    go_wp2_with (fail)
    clear u2 u3 u4 u5 ch cd
    generalize wr.setCell ⟨vk, at_, none⟩ (.int .i64 (b.h3.f j + 1)) = W4 at HQ F2 y2 ⊢
    have FD : Hid (Fk .i64 H W4.drew vk (spI b S P 3 (spK b S P 3) (j + 1))) := F2.out
    have yd : vk < W4.drew.heap.size := y2
    refine wp_region_held_drew (S := HB w S P l b) (by kernel_rfl) HQ.out.drew (fun hS => ?_)
    clear HQ F2 HS' HF' y2
    refine tI 0 (v := .agg #[.int .i64 S, .int .i64 P, .int .i64 l]) (d := some 98) rfl rfl (fun w' hw => ?_) (by assumption) ?_
    · have e0 := hw.c 0 _ rfl; have e1 := hw.c 1 _ rfl; have e2 := hw.c 2 _ rfl; simp only [Nat.zero_add] at e0 e1 e2; clear hw; go_simp
    simp only [Act.put, s1, s2, s3]
    refine tI 1 (v := .int .i64 3) (d := some 99) rfl rfl (fun w' hw => ?_) (by assumption) ?_
    · clear hw; go_simp
    simp only [Act.put, s1, s2, s3]
    refine tI 2 (v := .pointer (some ⟨w.heap.size + 1, 2, none⟩)) (d := some 100) rfl rfl (fun w' hw => ?_) (by assumption) ?_
    · clear hw; go_simp
    simp only [Act.put, s1, s2, s3]
    refine tI 3 (v := .pointer (some ⟨w.heap.size + 1, 5, none⟩)) (d := some 101) rfl rfl (fun w' hw => ?_) (by assumption) ?_
    · clear hw; go_simp
    simp only [Act.put, s1, s2, s3]
    refine tI 4 (v := .slice (some ⟨kh, oh, none⟩) b.h3.n b.h3.c) (d := some 102) rfl rfl (fun w' hw => ?_) (by assumption) ?_
    · have q := hw.e.r 5 _ rfl; simp only [Nat.zero_add] at q; rw [EX.out] at q; clear hw; go_simp
    simp only [Act.put, s1, s2, s3]
    refine tI 5 (v := .int .i64 j) (d := some 103) rfl rfl (fun w' hw => ?_) (by assumption) ?_
    · clear hw; go_simp
    simp only [Act.put, s1, s2, s3]
    refine tI 6 (v := .pointer (some ⟨kh, oh + j, none⟩)) (d := some 104) rfl rfl (fun w' hw => ?_) (by assumption) ?_
    · clear hw; go_simp
    simp only [Act.put, s1, s2, s3]
    refine tI 7 (v := .int .i64 (b.h3.f j)) (d := some 105) rfl rfl (fun w' hw => ?_) (by assumption) ?_
    · have q := at_cell (n := j) (hw.e.a b.h3 (by simp [Bx.lists])) EX.out (by omega); clear hw; go_simp
    simp only [Act.put, s1, s2, s3]
    generalize World.drew _ = V at hS FD yd ⊢
    refine r1 8 rfl (fun K hK => ?_)
    have HQ : Hid (HB _ _ _ _ _ _) := hS
    clear hS
    go_simp
    refine (Plat.slink_any S P l (b.h3.f j) V).mono ?_
    rintro e V1 ⟨rfl, hb⟩
    have ea : Plat.addr (S : Int) P l (P * 8) 1 (3 + S + S + 4 + P + P * 8) (b.h3.f j) = ((pos b S P 3 (j + 1) : Nat) : Int) := by
      rw [addr_in OKB.out (by omega) (by omega)]
      have ep : pos b S P 3 (j + 1) = 3 + S + S + 4 + P + P * 8 + (b.h3.f j).toNat := rfl
      rw [ep]
      omega
    rw [ea]
    have FD1 : Hid (Fk .i64 H V1 vk (spI b S P 3 (spK b S P 3) (j + 1))) := FD.out.later hb
    have HQ1 : Hid (HB _ _ _ _ _ _) := HQ.out.later hb
    have yd1 : vk < V1.heap.size := Nat.lt_of_lt_of_le yd hb.size
    clear hb ea FD HQ yd
    go_simp
    refine hK.out _ _ HQ1.out (fun hS => ?_)
    clear hK K
    refine tI 9 (v := .int .i64 (pos b S P 3 (j + 1) : Nat)) (d := some 10) rfl rfl (fun w' hw => ?_) (by assumption) ?_
    · clear hw; go_simp
    simp only [Act.put, s1, s2, s3]
    refine wpAnyH_done (by kernel_rfl) ?_ _
    clear hS
    go_wp2_with (fail)
    go_roundw
    case rel => exact ⟨j + 1, by omega, by go_num, rfl, HQ1.out, FD1.out, yd1⟩
    case measure => simp [intOf]; omega
  have ej : j = b.h3.n := by omega
  have HF4 : Hid (Fk .i64 H wr vk (spK b S P 4)) := by
    unfold Hid
    rw [ej] at HF'
    exact HF'.out
  have HS4 : Hid (HB w S P l b wr) := HS'.out
  have y4 := yy
  have nlt : ¬ j < b.h3.n := by omega
  clear ej HS' HF' hj yy hs nk N3 lt
  go_wp2_with (fail)
  clear u2 u3 u4 u5 nlt
  rw [rounds_succ]
  go_wp2_with (fail)
  go_ret
  obtain rfl := HH.out
  exact ⟨vk, rfl, Nat.le_trans (by omega) z0, y4, HF4.out.congr (fun j _ => (sp_lay OKP.out).symm), HS4.out.b⟩

end Go.Proofs.YtgfbfgiohmdjmaaGreat.Book

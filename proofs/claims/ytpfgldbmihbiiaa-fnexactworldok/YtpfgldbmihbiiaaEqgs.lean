/- Guests in a row, and worlds, held against each other. Conditions: at most 10,000,000 guests, 1,000,000,000 words a list. -/
import Derived.Test.YtpfgldbmihbiiaaEqg
import Derived.Test.YtpfgldbmihbiiaaLaw
namespace Go.Proofs.Ytpfgldbmihbiiaa.Gs
open Go.ChangeShapes Go.WideShapes Go.ChangeAt Go.RowKit
open Go.Proofs.Ytpfgldbmihbiiaa.Aid Go.Proofs.Ytpfgldbmihbiiaa.Lst
open Go.Proofs.Ytpfgldbmihbiiaa.Book (Ck ck_lit Sx takeB)
set_option maxRecDepth 100000
set_option linter.unusedVariables false

/- Two lists tell of the same words as the two of a guest. -/
structure Alike (w : World) (g : Gx) (s p : Sx) : Prop where
  at_ : g.At w
  hs : Sl .u64 w s.a g.snap.n s.f
  hp : Sl .u64 w p.a g.plan.n p.f
  sn : s.n = g.snap.n
  pn : p.n = g.plan.n
  sf : ∀ j, j < g.snap.n → g.snap.f j = s.f j
  pf : ∀ j, j < g.plan.n → g.plan.f j = p.f j
  l1 : g.snap.n ≤ 1000000000
  l2 : g.plan.n ≤ 1000000000
theorem Alike.later {w w1 : World} {g : Gx} {s p : Sx} (h : Alike w g s p) (hb : Below w.heap.size w w1) : Alike w1 g s p :=
  ⟨h.at_.later hb, h.hs.later hb, h.hp.later hb, h.sn, h.pn, h.sf, h.pf, h.l1, h.l2⟩

structure Eq2 (w0 : World) (b1 b2 o1 o2 : Nat) (c1 c2 : List Value) (w : World) : Prop where
  x : w.rangeAt b1 o1 c1
  y : w.rangeAt b2 o2 c2
  z : Below w0.heap.size w0 w

set_option maxHeartbeats 4000000 in
theorem eqguests_at (a1 a2 : Option Addr) (n c1 c2 : Nat) (g : Nat → Gx) (s p : Nat → Sx) (w : World) (h1 : RowG w a1 n g) (h2 : RowG w a2 n (fun j => { g j with snap := s j, plan := p j })) (hA : ∀ j, j < n → Alike w (g j) (s j) (p j)) (hn : n ≤ 10000000) :
    Calls Try.prog 26 #[.slice a1 n c1, .slice a2 n c2] w fun e w' => e = .returned (.bool true) ∧ Below w.heap.size w w' := by
  have HA : Hid (∀ j, j < n → Alike w (g j) (s j) (p j)) := hA
  have H1 : Hid (RowG w a1 n g) := h1
  have H2 : Hid (RowG w a2 n (fun j => { g j with snap := s j, plan := p j })) := h2
  clear hA h1 h2
  go_enter Try.func26, Try.ntmps26
  go_wp2_with (fail)
  go_loopw [5] (fun i wr => ∃ (k : Nat), k ≤ n ∧ i = .int .i64 k ∧ Below w.heap.size w wr) (fun i _ => n - (intOf i).toNat)
  case atStart => exact ⟨0, by omega, rfl, Below.refl _ _⟩
  case round =>
    obtain ⟨k, hk, rfl, hb⟩ := hrel
    have HB : Hid (Below w.heap.size w wr) := hb
    clear hb
    by_cases hlt : (k : Int) < n
    · rcases H1.out with h1 | ⟨b1, o1, rfl, h1⟩
      · omega
      rcases H2.out with h2 | ⟨b2, o2, rfl, h2⟩
      · omega
      have l1 := World.block_lt_of_cell? w _ (h1 k (by omega) 0 _ rfl)
      have l2 := World.block_lt_of_cell? w _ (h2 k (by omega) 0 _ rfl)
      have HR : Hid (Eq2 w b1 b2 (o1 + k * 26) (o2 + k * 26) (g k).cells ({ g k with snap := s k, plan := p k } : Gx).cells wr) := ⟨range_below HB.out (h1 k (by omega)) l1, range_below HB.out (h2 k (by omega)) l2, HB.out⟩
      have HK : Hid (Alike wr (g k) (s k) (p k)) := (HA.out k (by omega)).later HB.out
      have tk : ¬ (n : Int) ≤ k := by omega
      clear h1 h2 l1 l2
      go_wp2_with (fail)
      refine wp_region_held_drew (S := Eq2 w b1 b2 (o1 + k * 26) (o2 + k * 26) (g k).cells ({ g k with snap := s k, plan := p k } : Gx).cells) (by kernel_rfl) ⟨HR.out.x, HR.out.y, ⟨HR.out.z.os, HR.out.z.tape, HR.out.z.output, HR.out.z.size, HR.out.z.block⟩⟩ (fun hS => ?_)
      have HK1 : Hid (Alike wr.drew (g k) (s k) (p k)) := ⟨HK.out.at_, HK.out.hs, HK.out.hp, HK.out.sn, HK.out.pn, HK.out.sf, HK.out.pf, HK.out.l1, HK.out.l2⟩
      clear HK HR
      generalize wr.drew = v at hS HK1 ⊢
      refine takeB (i := 0) (v := .slice (some ⟨b1, o1, none⟩) n c1) (d := some 17) rfl rfl (by kernel_rfl) (by kernel_rfl) (by kernel_rfl) (fun _ _ _ h => h) (Or.inl ⟨by rfl, fun w' hw => ?_⟩) hS ?_
      · clear hw; go_simp
      try simp only [Act.put, List.setIfInBounds_toArray, List.set_cons_zero, List.set_cons_succ]
      refine takeB (i := 1) (v := .int .i64 k) (d := some 18) rfl rfl (by kernel_rfl) (by kernel_rfl) (by kernel_rfl) (fun _ _ _ h => h) (Or.inl ⟨by rfl, fun w' hw => ?_⟩) hS ?_
      · clear hw; go_simp
      try simp only [Act.put, List.setIfInBounds_toArray, List.set_cons_zero, List.set_cons_succ]
      refine takeB (i := 2) (v := .pointer (some ⟨b1, o1 + k * 26, none⟩)) (d := some 19) rfl rfl (by kernel_rfl) (by kernel_rfl) (by kernel_rfl) (fun _ _ _ h => h) (Or.inl ⟨by rfl, fun w' hw => ?_⟩) hS ?_
      · clear hw; go_simp
      try simp only [Act.put, List.setIfInBounds_toArray, List.set_cons_zero, List.set_cons_succ]
      refine takeB (i := 3) (v := .agg (g k).cells.toArray) (d := some 20) rfl rfl (by kernel_rfl) (by kernel_rfl) (by kernel_rfl) (fun _ _ _ h => h) (yieldsIf_load_mid (by rfl) 53 _ rfl b1 (o1 + k * 26) rfl (g k).cells _ (fun w' hw => hw.x) Try.underlying53 rfl (by kernel_rfl)) hS ?_
      try simp only [Act.put, List.setIfInBounds_toArray, List.set_cons_zero, List.set_cons_succ]
      refine takeB (i := 4) (v := .slice (some ⟨b2, o2, none⟩) n c2) (d := some 21) rfl rfl (by kernel_rfl) (by kernel_rfl) (by kernel_rfl) (fun _ _ _ h => h) (Or.inl ⟨by rfl, fun w' hw => ?_⟩) hS ?_
      · clear hw; go_simp
      try simp only [Act.put, List.setIfInBounds_toArray, List.set_cons_zero, List.set_cons_succ]
      refine takeB (i := 5) (v := .int .i64 k) (d := some 22) rfl rfl (by kernel_rfl) (by kernel_rfl) (by kernel_rfl) (fun _ _ _ h => h) (Or.inl ⟨by rfl, fun w' hw => ?_⟩) hS ?_
      · clear hw; go_simp
      try simp only [Act.put, List.setIfInBounds_toArray, List.set_cons_zero, List.set_cons_succ]
      refine takeB (i := 6) (v := .pointer (some ⟨b2, o2 + k * 26, none⟩)) (d := some 23) rfl rfl (by kernel_rfl) (by kernel_rfl) (by kernel_rfl) (fun _ _ _ h => h) (Or.inl ⟨by rfl, fun w' hw => ?_⟩) hS ?_
      · clear hw; go_simp
      try simp only [Act.put, List.setIfInBounds_toArray, List.set_cons_zero, List.set_cons_succ]
      refine takeB (i := 7) (v := .agg ({ g k with snap := s k, plan := p k } : Gx).cells.toArray) (d := some 24) rfl rfl (by kernel_rfl) (by kernel_rfl) (by kernel_rfl) (fun _ _ _ h => h) (yieldsIf_load_mid (by rfl) 53 _ rfl b2 (o2 + k * 26) rfl ({ g k with snap := s k, plan := p k } : Gx).cells _ (fun w' hw => hw.y) Try.underlying53 rfl (by kernel_rfl)) hS ?_
      try simp only [Act.put, List.setIfInBounds_toArray, List.set_cons_zero, List.set_cons_succ]
      refine wpAnyH_ready (rs := [8]) (by kernel_rfl) (by simp) ?_
      refine AllReadyH.cons rfl (fun K hK => ?_) AllReadyH.nil
      have HS : Hid (Eq2 _ _ _ _ _ _ _ v) := hS
      clear hS
      go_simp
      refine (eqguest_at (g k) (s k) (p k) v HK1.out.at_ HK1.out.hs HK1.out.hp HK1.out.sn HK1.out.pn HK1.out.sf HK1.out.pf HK1.out.l1 HK1.out.l2).mono ?_
      rintro e v1 ⟨rfl, hb⟩
      have l1 := World.block_lt_of_cell? v _ (HS.out.x 0 _ rfl)
      have l2 := World.block_lt_of_cell? v _ (HS.out.y 0 _ rfl)
      refine hK.out _ _ ⟨range_below hb HS.out.x l1, range_below hb HS.out.y l2, HS.out.z.trans (hb.mono HS.out.z.size)⟩ (fun hS => ?_)
      clear hK K HS hb l1 l2
      refine takeB (i := 9) (v := .bool false) (d := some 26) rfl rfl (by kernel_rfl) (by kernel_rfl) (by kernel_rfl) (fun _ _ _ h => h) (Or.inl ⟨by rfl, fun w' hw => ?_⟩) hS ?_
      · clear hw; go_simp
      try simp only [Act.put, List.setIfInBounds_toArray, List.set_cons_zero, List.set_cons_succ]
      refine wpAnyH_done (by kernel_rfl) ?_ _
      have HB1 : Hid (Below w.heap.size w v1) := hS.z
      clear hS HB HK1
      go_wp2_with (fail)
      go_roundw
      case rel => exact ⟨k + 1, by omega, by go_num, HB1.out⟩
      case measure => simp [intOf]; omega
    · obtain rfl : k = n := by omega
      go_wp2_with (fail)
      go_ret
      exact ⟨rfl, HB.out⟩

end Go.Proofs.Ytpfgldbmihbiiaa.Gs

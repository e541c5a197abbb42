/- A book is kept for some calls that are drawn. -/
import Derived.Test.YtlhfkackchcncaaM19
namespace Go.Proofs.Ytlhfkackchcncaa.Book
open Go.ChangeShapes Go.WideShapes Go.ChangeAt Go.RowKit
open Go.Proofs.Ytlhfkackchcncaa.Aid Go.Proofs.Ytlhfkackchcncaa.Lst Go.Proofs.Ytlhfkackchcncaa.Draw
set_option maxRecDepth 100000
set_option linter.unusedVariables false

set_option maxHeartbeats 16000000 in
theorem lbook_any (r : Nat) (ra : Option Addr) (rl rc : Nat) (zs : List Int) (p : Int) (s q l : Int) (n : Nat) (w : World) (hr : Rd w r ra rl rc zs p) (hp : p ≤ 100000000) (ok : Plat.okB s q l = true) (hn : n ≤ 100) :
    Calls Try.prog 22 #[.pointer (some ⟨r, 0, none⟩), .agg #[.int .i64 s, .int .i64 q, .int .i64 l], .int .i64 n] w fun e w' => BkQ w r ra rl rc zs (p + 20 * (n : Int)) e w' := by
  have p0 := hr.p0
  have rlt := hr.lt
  have R2 := rd_later hr (below2 w (.cells #[.int .i64 s, .int .i64 q, .int .i64 l] 42) (.cells z9.toArray 26))
  have T2 := ck_lit z9.toArray (heap2_1 w (.cells #[.int .i64 s, .int .i64 q, .int .i64 l] 42) (.cells z9.toArray 26))
  have B2 := below2 w (.cells #[.int .i64 s, .int .i64 q, .int .i64 l] 42) (.cells z9.toArray 26)
  have z2 : w.heap.size + 2 ≤ ((w.alloc (.cells #[.int .i64 s, .int .i64 q, .int .i64 l] 42)).alloc (.cells z9.toArray 26)).heap.size := by simp
  simp only [z9] at R2 T2 B2 z2
  have HR2 : Hid (Rd _ r ra rl rc zs p) := R2
  have HT2 : Hid (Ck _ (w.heap.size + 1) z9) := T2
  have HB2 : Hid (Below w.heap.size w _) := B2
  clear R2 T2 B2
  go_enter Try.func22, Try.ntmps22
  go_wp2_with (fail)
  generalize (w.alloc (.cells #[.int .i64 s, .int .i64 q, .int .i64 l] 42)).alloc (.cells #[.int .i64 0, .slice none 0 0, .slice none 0 0, .slice none 0 0, .slice none 0 0, .slice none 0 0, .slice none 0 0, .slice none 0 0, .slice none 0 0] 26) = W2 at HR2 HT2 HB2 z2 ⊢
  refine (sopen_tight s q l W2).mono ?_
  rintro e w3 ⟨b0, rfl, bm, bo, hb, bt⟩
  have z3 := hb.size
  obtain ⟨th, S⟩ := Lb.start (w0 := w) (P := p) 26 (HT2.out.below hb (by omega)) ((bo.hl (bt.cap bo) (Nat.le_refl _)).mono z2) (rd_later HR2.out hb) (Int.le_refl _) ((save_of HB2.out).trans (save_of hb)) hr.old hr.lt (by omega) (open_ok ok bm)
  simp only [z9] at th S
  have HT : Hid (World.there _ w3.heap.size 0 9) := th
  have HS : Hid (Lb _ _ _ _ _ _ _ _ _ _) := S
  clear th S bm bo bt hb HR2 HT2 HB2
  go_wp2_with (refine wpList_store_mid rfl 26 _ _ rfl w3.heap.size 0 b0.cells.toArray rfl rfl HT.out (by kernel_rfl) (cells_one b0) ?_; apply Hid.out)
  generalize World.setCells _ _ _ _ = w4 at HS ⊢
  generalize w3.heap.size = v at HS ⊢
  unfold Hid
  clear HT
  go_wp2_with (fail)
  go_loopw [8] (fun i wr => ∃ (u : Nat) (b : Bx), u ≤ n ∧ i = .int .i64 u ∧ Lb w r ra rl rc zs (p + 20 * (u : Int)) b v wr) (fun i _ => n - (intOf i).toNat)
  case atStart => exact ⟨0, b0.trim, by omega, rfl, by simpa using HS.out⟩
  case round =>
    obtain ⟨u, b, hu, rfl, S⟩ := hrel
    clear HS
    by_cases hlt : (u : Int) < n
    · have HS : Hid (Lb _ _ _ _ _ _ _ _ _ _) := S
      clear S
      go_wp2_with (fail)
      obtain ⟨p5, p5', hd5⟩ := HS.out.d
      refine (pick_on r ra rl rc zs p5 14 _ hd5 (by omega)).mono ?_
      rintro e w5 ⟨x5, rfl, x50, x51, -, rd5, sv5⟩
      have S := HS.out.read sv5 rd5 (P' := p + 20 * (u : Int) + 1) (by omega)
      clear HS hd5 rd5 sv5 x51
      by_cases x0 : x5 = 0
      · subst x0
        have HS : Hid (Lb _ _ _ _ _ _ _ _ _ _) := S
        clear S
        go_wp2_with (fail)
        have HS1 : Hid (Lb _ _ _ _ _ _ _ _ _ _) := HS.out.later (below_drew w5)
        clear HS
        refine wp_region_held_drew (S := fun _ => True) (by kernel_rfl) trivial (fun hS => ?_)
        generalize World.drew w5 = V at HS1 ⊢
        have HS : Hid (Lb _ _ _ _ _ _ _ _ _ _) := HS1.out
        have HR : Hid (World.rangeAt _ v 0 b.cells) := HS1.out.e.range
        clear HS1
        refine takeB (i := 1) (v := .pointer (some ⟨r, 0, none⟩)) (d := some 21) rfl rfl (by kernel_rfl) (by kernel_rfl) (by kernel_rfl) (fun _ _ _ h => h) (Or.inl ⟨by rfl, fun w' hw => ?_⟩) hS ?_
        · clear hw; go_simp
        try simp only [Act.put, List.setIfInBounds_toArray, List.set_cons_zero, List.set_cons_succ]
        refine wpAnyH_ready (rs := [0, 2]) (by kernel_rfl) (by simp) ?_
        refine AllReadyH.cons rfl (fun K hK => ?_) (AllReadyH.cons rfl (fun K hK => ?_) AllReadyH.nil)
        · refine wp_load_mid 26 _ rfl v 0 rfl b.cells _ HR.out Try.underlying26 rfl (by kernel_rfl) ?_
          refine hK.out _ _ trivial (fun hS => ?_)
          clear hK K
          try simp only [Act.put, List.setIfInBounds_toArray]
          refine wpAnyH_ready (rs := [2]) (by kernel_rfl) (by simp) ?_
          refine AllReadyH.cons rfl (fun K hK => ?_) AllReadyH.nil
          obtain ⟨p6, p6', hd6⟩ := HS.out.d
          go_simp
          refine (pick_on r ra rl rc zs p6 3 _ hd6 (by omega)).mono ?_
          rintro e w6 ⟨x6, rfl, x60, x61, -, rd6, sv6⟩
          have x62 := x61 (by omega)
          obtain ⟨j6, rfl⟩ := Int.eq_ofNat_of_zero_le x60
          have S := HS.out.read sv6 rd6 (P' := p + 20 * (u : Int) + 2) (by omega)
          clear HS HR hd6 rd6 sv6 x61
          have HS : Hid (Lb _ _ _ _ _ _ _ _ _ _) := S
          have HR : Hid (World.rangeAt _ v 0 b.cells) := S.e.range
          clear S
          go_wp2_with (fail)
          refine hK.out _ _ trivial (fun hS => ?_)
          clear hK K
          try simp only [Act.put, List.setIfInBounds_toArray, List.set_cons_zero, List.set_cons_succ]
          refine wpAnyH_ready (rs := [3]) (by kernel_rfl) (by simp) ?_
          refine AllReadyH.cons rfl (fun K hK => ?_) AllReadyH.nil
          go_simp
          refine (dcut_any b j6 w.heap.size _ HS.out.h (by have := HS.out.s.size; omega) HS.out.ok HS.out.wf).mono ?_
          rintro e w7 ⟨c, rfl, okc, hh, hf, hl⟩
          obtain ⟨th, S⟩ := HS.out.turn hh hf hl okc
          have HT : Hid (w7.there v 0 9) := th
          have HS2 : Hid (Lb _ _ _ _ _ _ _ _ _ _) := S
          clear HS HR okc hh hf hl th S
          go_wp2_with (fail)
          refine hK.out _ _ trivial (fun hS => ?_)
          clear hK K
          try simp only [Act.put, List.setIfInBounds_toArray, List.set_cons_zero, List.set_cons_succ]
          refine wpAnyH_ready (rs := [4]) (by kernel_rfl) (by simp) ?_
          refine AllReadyH.cons rfl (fun K hK => ?_) AllReadyH.nil
          refine wp_store_mid 26 _ _ rfl v 0 c.cells.toArray rfl rfl HT.out (by kernel_rfl) (cells_one _) ?_
          refine hK.out _ _ trivial (fun hS => ?_)
          clear hK K
          generalize World.setCells _ _ _ _ = w9 at HS2 ⊢
          refine wpAnyH_done (by kernel_rfl) ?_ _
          clear HT hS
          go_wp2_with (fail)
          go_roundw
          case rel => exact ⟨u + 1, c.trim, by omega, by go_num, HS2.out.mono (by omega)⟩
          case measure => simp [intOf]; omega
        · obtain ⟨p6, p6', hd6⟩ := HS.out.d
          go_simp
          refine (pick_on r ra rl rc zs p6 3 _ hd6 (by omega)).mono ?_
          rintro e w6 ⟨x6, rfl, x60, x61, -, rd6, sv6⟩
          have x62 := x61 (by omega)
          obtain ⟨j6, rfl⟩ := Int.eq_ofNat_of_zero_le x60
          have S := HS.out.read sv6 rd6 (P' := p + 20 * (u : Int) + 2) (by omega)
          clear HS HR hd6 rd6 sv6 x61
          have HS : Hid (Lb _ _ _ _ _ _ _ _ _ _) := S
          have HR : Hid (World.rangeAt _ v 0 b.cells) := S.e.range
          clear S
          go_wp2_with (fail)
          refine hK.out _ _ trivial (fun hS => ?_)
          clear hK K
          try simp only [Act.put, List.setIfInBounds_toArray, List.set_cons_zero, List.set_cons_succ]
          refine wpAnyH_ready (rs := [0]) (by kernel_rfl) (by simp) ?_
          refine AllReadyH.cons rfl (fun K hK => ?_) AllReadyH.nil
          refine wp_load_mid 26 _ rfl v 0 rfl b.cells _ HR.out Try.underlying26 rfl (by kernel_rfl) ?_
          refine hK.out _ _ trivial (fun hS => ?_)
          clear hK K
          try simp only [Act.put, List.setIfInBounds_toArray]
          refine wpAnyH_ready (rs := [3]) (by kernel_rfl) (by simp) ?_
          refine AllReadyH.cons rfl (fun K hK => ?_) AllReadyH.nil
          go_simp
          refine (dcut_any b j6 w.heap.size _ HS.out.h (by have := HS.out.s.size; omega) HS.out.ok HS.out.wf).mono ?_
          rintro e w7 ⟨c, rfl, okc, hh, hf, hl⟩
          obtain ⟨th, S⟩ := HS.out.turn hh hf hl okc
          have HT : Hid (w7.there v 0 9) := th
          have HS2 : Hid (Lb _ _ _ _ _ _ _ _ _ _) := S
          clear HS HR okc hh hf hl th S
          go_wp2_with (fail)
          refine hK.out _ _ trivial (fun hS => ?_)
          clear hK K
          try simp only [Act.put, List.setIfInBounds_toArray, List.set_cons_zero, List.set_cons_succ]
          refine wpAnyH_ready (rs := [4]) (by kernel_rfl) (by simp) ?_
          refine AllReadyH.cons rfl (fun K hK => ?_) AllReadyH.nil
          refine wp_store_mid 26 _ _ rfl v 0 c.cells.toArray rfl rfl HT.out (by kernel_rfl) (cells_one _) ?_
          refine hK.out _ _ trivial (fun hS => ?_)
          clear hK K
          generalize World.setCells _ _ _ _ = w9 at HS2 ⊢
          refine wpAnyH_done (by kernel_rfl) ?_ _
          clear HT hS
          go_wp2_with (fail)
          go_roundw
          case rel => exact ⟨u + 1, c.trim, by omega, by go_num, HS2.out.mono (by omega)⟩
          case measure => simp [intOf]; omega
      · have HR : Hid (World.rangeAt _ v 0 b.cells) := S.e.range
        have HS : Hid (Lb _ _ _ _ _ _ _ _ _ _) := S
        clear S
        go_wp2_with (refine wpList_load_mid rfl 26 _ rfl v 0 rfl b.cells _ HR.out Try.underlying26 rfl (by kernel_rfl) ?_)
        obtain ⟨p6, p6', hd6⟩ := HS.out.d
        refine (lop_any r ra rl rc zs p6 b _ hd6 (by omega) HS.out.h.at HS.out.off (by have g1 := HS.out.ok.1.1.2.2.2.2.2.1; have g2 := HS.out.ok.1.1.2.2.2.2.2.2; omega) (fun j hj => ?_)).mono ?_
        · have g := HS.out.ok.1.2.2 j hj
          have := HS.out.ok.1.1.2.1
          exact ⟨g.1, by have := g.2.1; omega⟩
        rintro e w6 ⟨o, rfl, ⟨p7, p7', rd6⟩, sv6⟩
        have S := HS.out.read sv6 rd6 (P' := p + 20 * (u : Int) + 11) (by omega)
        clear HS HR hd6 rd6 sv6
        obtain ⟨k', s', a', b'⟩ := o
        simp only [Ox.cells]
        have u0 := (nine (S.later (below1 w6 (.cells #[.int .i64 k', .int .i64 s', .int .i64 a', .int .i64 b'] 53))).e.range).1
        by_cases hs : (u : Int) < b.s
        · have HS : Hid (Lb _ _ _ _ _ _ _ _ _ _) := S.later (below1 w6 (.cells #[.int .i64 1, .int .i64 (u : Int), .int .i64 0, .int .i64 0] 53))
          have HR : Hid (World.rangeAt _ v 0 b.cells) := HS.out.e.range
          have zw := S.s.size
          clear S
          go_wp2_with (refine wpList_load_mid rfl 26 _ rfl v 0 rfl b.cells _ HR.out Try.underlying26 rfl (by kernel_rfl) ?_)
          refine (do_any b w.heap.size ⟨1, (u : Int), 0, 0⟩ _ HS.out.h (by simp; omega) HS.out.ok).mono ?_
          rintro e w8 ⟨c, x, y, rfl, dp, hh, hf, hl⟩
          obtain ⟨th, S⟩ := HS.out.turn hh hf hl (do_ok HS.out.ok dp)
          have HT : Hid (w8.there v 0 9) := th
          have HS2 : Hid (Lb _ _ _ _ _ _ _ _ _ _) := S
          clear HS HR dp hh hf hl th S u0
          go_wp2_with (refine wpList_store_mid rfl 26 _ _ rfl v 0 c.cells.toArray rfl rfl HT.out (by kernel_rfl) (cells_one c) ?_; apply Hid.out)
          generalize World.setCells _ _ _ _ = w9 at HS2 ⊢
          unfold Hid
          clear HT
          go_wp2_with (fail)
          go_roundw
          case rel => exact ⟨u + 1, c.trim, by omega, by go_num, HS2.out.mono (by omega)⟩
          case measure => simp [intOf]; omega
        · have HS : Hid (Lb _ _ _ _ _ _ _ _ _ _) := S.later (below1 w6 (.cells #[.int .i64 k', .int .i64 s', .int .i64 a', .int .i64 b'] 53))
          have HR : Hid (World.rangeAt _ v 0 b.cells) := HS.out.e.range
          have zw := S.s.size
          clear S
          go_wp2_with (refine wpList_load_mid rfl 26 _ rfl v 0 rfl b.cells _ HR.out Try.underlying26 rfl (by kernel_rfl) ?_)
          refine (do_any b w.heap.size ⟨k', s', a', b'⟩ _ HS.out.h (by simp; omega) HS.out.ok).mono ?_
          rintro e w8 ⟨c, x, y, rfl, dp, hh, hf, hl⟩
          obtain ⟨th, S⟩ := HS.out.turn hh hf hl (do_ok HS.out.ok dp)
          have HT : Hid (w8.there v 0 9) := th
          have HS2 : Hid (Lb _ _ _ _ _ _ _ _ _ _) := S
          clear HS HR dp hh hf hl th S u0
          go_wp2_with (refine wpList_store_mid rfl 26 _ _ rfl v 0 c.cells.toArray rfl rfl HT.out (by kernel_rfl) (cells_one c) ?_; apply Hid.out)
          generalize World.setCells _ _ _ _ = w9 at HS2 ⊢
          unfold Hid
          clear HT
          go_wp2_with (fail)
          go_roundw
          case rel => exact ⟨u + 1, c.trim, by omega, by go_num, HS2.out.mono (by omega)⟩
          case measure => simp [intOf]; omega
    · obtain rfl : u = n := by omega
      obtain ⟨th, rg, bq⟩ := S.ans
      have HT : Hid (World.there _ (w.heap.size + 1) 0 9) := th
      have HG : Hid (World.rangeAt _ (w.heap.size + 1) 0 b.cells) := rg
      have HQ : Hid (BkQ _ _ _ _ _ _ _ _ _) := bq
      have HR : Hid (World.rangeAt _ v 0 b.cells) := S.e.range
      clear S th rg bq
      go_wp2_with (first | (refine wpList_load_mid rfl 26 _ rfl v 0 rfl b.cells _ HR.out Try.underlying26 rfl (by kernel_rfl) ?_) | (refine wpList_store_mid rfl 26 _ _ rfl (w.heap.size + 1) 0 b.cells.toArray rfl rfl HT.out (by kernel_rfl) (cells_one b) ?_))
      exact bodyPost_ret (results_cell_mid rfl _ _ (w.heap.size + 1) 0 _ _ rfl HG.out Try.underlying26 rfl (by kernel_rfl)) rfl HQ.out

end Go.Proofs.Ytlhfkackchcncaa.Book

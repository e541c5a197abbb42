/- The lists of free rooms that words tell of, by the program: the body of the loop. -/
import Derived.Test.YtgfbfgiohmdjmaaGreatM24
namespace Go.Proofs.YtgfbfgiohmdjmaaGreat.Book
open Go.ChangeShapes Go.WideShapes Go.ChangeAt Go.RowKit Go.Shelf
open Aid Lst Words
set_option maxRecDepth 100000
set_option linter.unusedVariables false
attribute [local go_sem] Oper.semAt_some

theorem region_round {n l : Nat} {P : Program} {ops : Array Oper} {Q : Exit → Act → World → Prop} {S : World → Prop} {id : Nat} {a : Act} {w : World} (hm : P.follows .mixedOrders = true) (hd : ∀ (i : Nat) (o : Oper) c, ops[i]? = some o → o.op ≠ .defer c) (hq : ¬ LetsOut Q) (hS : S w.drew)
    (h : S w.drew → wpAnyH P .any ops Q S ops.size (Array.replicate ops.size false) a w.drew) : (Code.region id ops true).wpIn (Fence.wide.inRound l) n P Q a w := region_at (ro := some l) hm hd hq hS h
def rfBody : Code → Option Code
  | .rangeFunc _ _ _ b => some b
  | .seq x y => match rfBody x with | some b => some b | none => rfBody y
  | .block _ c => rfBody c
  | .loop c => rfBody c
  | _ => none

set_option maxHeartbeats 8000000 in
theorem gather_body (c : Code) (hc : Tryz.f70.body.bind rfBody = some c) {w0 : World} {f : Nat → Int} {S P dk kl B C R0 : Nat} {b : Bx} {k kb l1 l2 : Nat} {Ds : List Nat} (s : LpS w0 P dk kl B C R0 b kb l1 l2 Ds) (hP : 0 < P) (hP6 : P ≤ 6) (hk : k < 4) (l : Nat) (ys : List Int) (x : Int) (W : World) (h : (∃ v, Lp w0 f S P dk kl B C R0 b k kb l1 l2 Ds v ys W) ∧ ys.length ≤ P * 8) (u0 u2 u5 u6 u7 u8 u9 u10 u11 u12 u13 u14 u15 u16 u17 u18 u19 u20 u21 u22 u23 u24 u25 u26 u27 u28 u29 u30 u31 u32 u33 u34 u35 u36 u37 u38 u39 u40 u41 u42 u43 u44 u45 u46 : Value) :
    c.wpIn (Fence.wide.inRound l) 7 Tryz.prog (BodyEnd R0 (fun xs W => (∃ v, Lp w0 f S P dk kl B C R0 b k kb l1 l2 Ds v xs W) ∧ xs.length ≤ P * 8) (fun xs W => (∃ v, Lp w0 f S P dk kl B C R0 b k kb l1 l2 Ds v xs W) ∧ xs.length = P * 8 + 1) 2 (ys ++ [x]) W) { tmps := #[u0, .pointer (some ⟨w0.heap.size, 0, none⟩), u2, .pointer (some ⟨kb, 0, none⟩), .int .i64 x, u5, u6, u7, u8, u9, u10, u11, u12, u13, u14, u15, u16, u17, u18, u19, u20, u21, u22, u23, u24, u25, u26, u27, u28, u29, u30, u31, u32, u33, u34, u35, u36, u37, u38, u39, u40, u41, u42, u43, u44, u45, u46], defers := [] } W := by
  have e : Tryz.f70.body.bind rfBody = some _ := rfl
  rw [e] at hc
  obtain rfl := Option.some.inj hc
  clear hc e
  obtain ⟨i0, hi0, hz0, hz1, hz2⟩ := int_parts infoInt
  obtain ⟨⟨v, lp⟩, ln⟩ := h
  obtain ⟨xa, xc, ev⟩ := own_slice lp.r
  subst ev
  have hki : (k : Int) < 4 := by omega
  have LPW : Hid (Lp w0 f S P dk kl B C R0 b k kb l1 l2 Ds (.slice xa ys.length xc) ys W) := lp
  clear lp
  gi_wp2
  refine region_round (S := fun w' => w'.cell? ⟨w0.heap.size, 0, none⟩ = some (.pointer (some ⟨dk, 0, none⟩)) ∧ w'.cell? ⟨kb, 0, none⟩ = some (.int .i64 k)) (by kernel_rfl) (noDefer_at (by kernel_rfl)) (fun ⟨_, _, h⟩ => h) ⟨LPW.out.x, LPW.out.q⟩ (fun hS => ?_)
  refine tI 0 (v := .pointer (some ⟨dk, 0, none⟩)) (d := some 12) rfl rfl (fun w' hw => ?_) (by assumption) ?_
  · have q := hw.1; clear hw; go_simp
  simp only [Act.put, s1, s2, s3]
  refine tI 1 (v := .int .i64 k) (d := some 13) rfl rfl (fun w' hw => ?_) (by assumption) ?_
  · have q := hw.2; clear hw; go_simp
  simp only [Act.put, s1, s2, s3]
  refine tI 2 (v := .pointer (some ⟨dk, 0, none⟩)) (d := some 14) rfl rfl (fun w' hw => ?_) (by assumption) ?_
  · have q := hw.1; clear hw; go_simp
  simp only [Act.put, s1, s2, s3]
  refine tI 3 (v := .int .i64 k) (d := some 15) rfl rfl (fun w' hw => ?_) (by assumption) ?_
  · have q := hw.2; clear hw; go_simp
  simp only [Act.put, s1, s2, s3]
  refine tI 4 (v := .pointer (some ⟨dk, 0, none⟩)) (d := some 16) rfl rfl (fun w' hw => ?_) (by assumption) ?_
  · clear hw; go_simp
  simp only [Act.put, s1, s2, s3]
  refine tI 5 (v := .pointer (some ⟨dk, 0, none⟩)) (d := some 17) rfl rfl (fun w' hw => ?_) (by assumption) ?_
  · clear hw; go_simp
  simp only [Act.put, s1, s2, s3]
  refine tI 6 (v := .pointer (some ⟨dk, 2, none⟩)) (d := some 18) rfl rfl (fun w' hw => ?_) (by assumption) ?_
  · clear hw; go_simp
  simp only [Act.put, s1, s2, s3]
  refine tI 7 (v := .pointer (some ⟨dk, 2 + k, none⟩)) (d := some 19) rfl rfl (fun w' hw => ?_) (by assumption) ?_
  · clear hw; go_simp
  simp only [Act.put, s1, s2, s3]
  refine tI 9 (v := .int .i64 x) (d := some 21) rfl rfl (fun w' hw => ?_) (by assumption) ?_
  · clear hw; go_simp
  simp only [Act.put, s1, s2, s3]
  refine tI 12 (v := .pointer (some ⟨dk, 0, none⟩)) (d := some 24) rfl rfl (fun w' hw => ?_) (by assumption) ?_
  · clear hw; go_simp
  simp only [Act.put, s1, s2, s3]
  refine tI 13 (v := .pointer (some ⟨dk, 0, none⟩)) (d := some 25) rfl rfl (fun w' hw => ?_) (by assumption) ?_
  · clear hw; go_simp
  simp only [Act.put, s1, s2, s3]
  refine tI 14 (v := .pointer (some ⟨dk, 2, none⟩)) (d := some 26) rfl rfl (fun w' hw => ?_) (by assumption) ?_
  · clear hw; go_simp
  simp only [Act.put, s1, s2, s3]
  have LPD : Hid (Lp w0 f S P dk kl B C R0 b k kb l1 l2 Ds (.slice xa ys.length xc) ys W.drew) := LPW.out.to s hP below_drew LPW.out.r (.inr rfl)
  generalize hV : World.drew W = V at hS LPD ⊢
  have BV : Hid (KeepsFrom R0 W V) := by
    unfold Hid
    rw [← hV]
    exact (KeepsOthers.drew W).from R0
  clear hV
  have cS := (LPD.out.cnt hk).1
  have sz := LPD.out.sz
  have hS2 : (fun w' : World => w'.cell? ⟨w0.heap.size, 0, none⟩ = some (.pointer (some ⟨dk, 0, none⟩)) ∧ w'.cell? ⟨kb, 0, none⟩ = some (.int .i64 k)) (V.alloc (.cells #[.int .i64 x] 3)) := ⟨(below1 V (.cells #[.int .i64 x] 3)).cell (p := ⟨w0.heap.size, 0, none⟩) (World.block_lt_of_cell? V _ LPD.out.x) |>.trans LPD.out.x, (below1 V (.cells #[.int .i64 x] 3)).cell (p := ⟨kb, 0, none⟩) (World.block_lt_of_cell? V _ LPD.out.q) |>.trans LPD.out.q⟩
  have LPA : Hid (Lp w0 f S P dk kl B C R0 b k kb l1 l2 Ds (.slice xa ys.length xc) ys (V.alloc (.cells #[.int .i64 x] 3))) := LPD.out.to s hP ((Below.refl R0 V).alloc sz _) (LPD.out.r.alloc _) (.inr rfl)
  have cS2 := (LPA.out.cnt hk).1
  have HS2 : Hid ((fun w' : World => w'.cell? ⟨w0.heap.size, 0, none⟩ = some (.pointer (some ⟨dk, 0, none⟩)) ∧ w'.cell? ⟨kb, 0, none⟩ = some (.int .i64 k)) (V.alloc (.cells #[.int .i64 x] 3))) := hS2
  have HS1 : Hid ((fun w' : World => w'.cell? ⟨w0.heap.size, 0, none⟩ = some (.pointer (some ⟨dk, 0, none⟩)) ∧ w'.cell? ⟨kb, 0, none⟩ = some (.int .i64 k)) V) := hS
  clear hS hS2
  refine wpAnyH_ready (rs := [8, 10]) (by kernel_rfl) (by simp) ?_
  refine AllReadyH.cons rfl (fun K hK => ?_) (AllReadyH.cons rfl (fun K hK => ?_) AllReadyH.nil)
  · go_simp
    refine hK.out _ _ HS1.out (fun hS => ?_)
    clear hK K
    refine r1 10 rfl (fun K hK => ?_)
    clear hS
    go_simp
    refine hK.out _ _ HS2.out (fun hS => ?_)
    clear hK K
    refine r1 11 rfl (fun K hK => ?_)
    clear hS
    simp only [Region.wanted]
    refine wp_append_own _ (.tmp 20) (.tmp 22) 27 rfl R0 3 i0 (.int .i64 0) 1 8 Tryz.underlying27 hi0 hz0 hz1 hz2 rfl (by decide) (.slice xa ys.length xc) ys.length (vals ys) rfl LPA.out.r ⟨V.heap.size, 0, none⟩ 1 1 [.int .i64 x] rfl rfl (one_int V 3 x) (by intro u hu; simp at hu; subst hu; rfl) (by unfold maxLen; omega) (by omega) (by have := LPA.out.sz; omega) ?_
    intro v' w4 hown hgrow hiff
    clear hiff
    have e1 : (ys ++ [x]).length = ys.length + 1 := by simp
    have e2 : vals (ys ++ [x]) = vals ys ++ [.int .i64 x] := by simp [vals]
    have B4 : Below R0 V w4 := ((Below.refl R0 V).alloc sz _).grown hgrow (by simp; omega) (fun g hg => by have := own_out LPD.out.r (show R0 - 1 < R0 by have := s.fR; omega) g hg; omega)
    have K4 : KeepsFrom R0 W w4 := BV.out.trans (((KeepsOthers.alloc V (.cells #[.int .i64 x] 3)).trans (KeepsOthers.of_grownBy hgrow (fun g o hg ho => by
      obtain ⟨_, ⟨q, -⟩ | ⟨g', cap, cur, q, _, hg', _⟩⟩ := LPA.out.r
      · rw [q] at hg; simp [Value.ownBlock] at hg
      · rw [q] at hg
        simp only [Value.ownBlock, Option.some.injEq] at hg
        rw [← hg, hg'] at ho
        cases ho
        rfl))).from R0)
    have R4 : w4.ownsRow R0 3 1 v' (ys ++ [x]).length (vals (ys ++ [x])) := by rw [e1, e2]; exact hown
    obtain ⟨xa', xc', ev'⟩ := own_slice R4
    subst ev'
    have LPN : Hid (Lp w0 f S P dk kl B C R0 b k kb l1 l2 Ds (.slice xa' (ys ++ [x]).length xc') (ys ++ [x]) (w4.setCell ⟨dk, 2 + k, none⟩ (.slice xa' (ys ++ [x]).length xc'))) := LPD.out.put s hP B4 R4
    have d4 : Hid (w4.cell? ⟨dk, 2 + k, none⟩ = some (.slice xa ys.length xc)) := (B4.cell (p := ⟨dk, 2 + k, none⟩) (show dk < R0 by have := s.fd; have := s.fR; omega)).trans cS
    have f4 : Hid (w4.frozen? ⟨dk, 2 + k, none⟩ = false) := (B4.frozen (p := ⟨dk, 2 + k, none⟩) (show dk < R0 by have := s.fd; have := s.fR; omega)).trans (by
      have hl : 2 + k < (draftC f S P kl 4 b).length := by simp [draftC, Bx.cells, hdC]; omega
      exact (LPD.out.d (2 + k) _ (by rw [List.getElem?_set_self hl])).2)
    have S4 : Hid ((fun w' : World => w'.cell? ⟨w0.heap.size, 0, none⟩ = some (.pointer (some ⟨dk, 0, none⟩)) ∧ w'.cell? ⟨kb, 0, none⟩ = some (.int .i64 k)) w4) := ⟨(B4.cell (p := ⟨w0.heap.size, 0, none⟩) (show w0.heap.size < R0 by have := s.fR; omega)).trans LPD.out.x, (B4.cell (p := ⟨kb, 0, none⟩) (show kb < R0 by have := s.b1; omega)).trans LPD.out.q⟩
    have K5 : Hid (KeepsFrom R0 W (w4.setCell ⟨dk, 2 + k, none⟩ (.slice xa' (ys ++ [x]).length xc'))) := K4.trans ((KeepsOthers.setCell _ _ _).from R0)
    obtain ⟨m, hm⟩ : ∃ m, m = (ys ++ [x]).length := ⟨_, rfl⟩
    rw [← hm] at LPN K5 e1
    have EM : Hid (m = (ys ++ [x]).length) := hm
    have M1 : Hid (m = ys.length + 1) := e1
    have ml : m ≤ P * 8 + 1 := by omega
    clear hown hgrow e1 e2 B4 K4 R4 cS cS2 LPA LPD BV HS1 HS2 LPW
    rw [← hm]
    clear hm
    simp only [Act.put, List.setIfInBounds_toArray]
    refine hK.out _ _ S4.out (fun hS => ?_)
    clear hK K
    refine tI 15 (v := .pointer (some ⟨dk, 2 + k, none⟩)) (d := some 27) rfl rfl (fun w' hw => ?_) (by assumption) ?_
    · clear hw; go_simp
    simp only [Act.put]
    refine r1 16 rfl (fun K hK => ?_)
    clear hS
    have dd := d4.out
    have ff := f4.out
    go_simp
    refine hK.out _ _ ⟨LPN.out.x, LPN.out.q⟩ (fun hS => ?_)
    clear hK K hS dd ff d4 f4 S4
    refine wpAnyH_done (by kernel_rfl) ?_ _
    generalize w4.setCell ⟨dk, 2 + k, none⟩ (.slice xa' m xc') = W5 at LPN K5 ⊢
    gi_wp2
    have LPM : Hid (Lp w0 f S P dk kl B C R0 b k kb l1 l2 Ds (.slice xa' m xc') (ys ++ [x]) W5.drew) := LPN.out.to s hP below_drew LPN.out.r (.inr rfl)
    have K6 : Hid (KeepsFrom R0 W W5.drew) := K5.out.trans ((KeepsOthers.drew W5).from R0)
    refine region_round (S := Lp w0 f S P dk kl B C R0 b k kb l1 l2 Ds (.slice xa' m xc') (ys ++ [x])) (by kernel_rfl) (noDefer_at (by kernel_rfl)) (fun ⟨_, _, h⟩ => h) LPM.out (fun hS => ?_)
    refine tI 0 (v := .pointer (some ⟨dk, 0, none⟩)) (d := some 28) rfl rfl (fun w' hw => ?_) (by assumption) ?_
    · have q := hw.x; clear hw; go_simp
    simp only [Act.put, s1, s2, s3]
    refine tI 1 (v := .int .i64 k) (d := some 29) rfl rfl (fun w' hw => ?_) (by assumption) ?_
    · have q := hw.q; clear hw; go_simp
    simp only [Act.put, s1, s2, s3]
    refine tI 2 (v := .pointer (some ⟨dk, 0, none⟩)) (d := some 30) rfl rfl (fun w' hw => ?_) (by assumption) ?_
    · clear hw; go_simp
    simp only [Act.put, s1, s2, s3]
    refine tI 3 (v := .pointer (some ⟨dk, 0, none⟩)) (d := some 31) rfl rfl (fun w' hw => ?_) (by assumption) ?_
    · clear hw; go_simp
    simp only [Act.put, s1, s2, s3]
    refine tI 4 (v := .pointer (some ⟨dk, 2, none⟩)) (d := some 32) rfl rfl (fun w' hw => ?_) (by assumption) ?_
    · clear hw; go_simp
    simp only [Act.put, s1, s2, s3]
    refine tI 5 (v := .pointer (some ⟨dk, 2 + k, none⟩)) (d := some 33) rfl rfl (fun w' hw => ?_) (by assumption) ?_
    · clear hw; go_simp
    simp only [Act.put, s1, s2, s3]
    refine tI 6 (v := (.slice xa' m xc')) (d := some 34) rfl rfl (fun w' hw => ?_) (by assumption) ?_
    · have q := (hw.cnt hk).1; clear hw; go_simp
    simp only [Act.put, s1, s2, s3]
    refine tI 7 (v := .int .i64 m) (d := some 35) rfl rfl (fun w' hw => ?_) (by assumption) ?_
    · clear hw; go_simp
    simp only [Act.put, s1, s2, s3]
    refine tI 8 (v := .pointer (some ⟨dk, 0, none⟩)) (d := some 36) rfl rfl (fun w' hw => ?_) (by assumption) ?_
    · have q := hw.x; clear hw; go_simp
    simp only [Act.put, s1, s2, s3]
    refine tI 9 (v := .pointer (some ⟨dk, 0, none⟩)) (d := some 37) rfl rfl (fun w' hw => ?_) (by assumption) ?_
    · clear hw; go_simp
    simp only [Act.put, s1, s2, s3]
    refine tI 10 (v := .pointer (some ⟨dk, 13, none⟩)) (d := some 38) rfl rfl (fun w' hw => ?_) (by assumption) ?_
    · clear hw; go_simp
    simp only [Act.put, s1, s2, s3]
    refine tI 11 (v := .slice (some ⟨kl, 0, none⟩) (P * 8) (P * 8)) (d := some 39) rfl rfl (fun w' hw => ?_) (by assumption) ?_
    · have q := (hw.hd hk).2; clear hw; go_simp
    simp only [Act.put, s1, s2, s3]
    refine tI 12 (v := .int .i64 ((P : Int) * 8)) (d := some 40) rfl rfl (fun w' hw => ?_) (by assumption) ?_
    · clear hw; go_simp
    simp only [Act.put, s1, s2, s3]
    refine tI 13 (v := .bool (decide ((P : Int) * 8 < m))) (d := some 41) rfl rfl (fun w' hw => ?_) (by assumption) ?_
    · clear hw; go_simp
    simp only [Act.put, s1, s2, s3]
    refine wpAnyH_done (by kernel_rfl) ?_ _
    clear hS
    generalize World.drew W5 = W6 at LPM K6 ⊢
    by_cases gt : m ≤ P * 8
    · have gn : ¬ P * 8 < m := by omega
      have gi : ¬ (P : Int) * 8 < m := by omega
      gi_wp2
      exact ⟨K6.out, ⟨_, LPM.out⟩, by rw [← EM.out]; exact gt⟩
    · have gn : P * 8 < m := by omega
      have gi : (P : Int) * 8 < m := by omega
      gi_wp2
      exact ⟨rfl, K6.out, ⟨_, LPM.out⟩, by rw [← EM.out]; omega⟩
  · go_simp
    refine hK.out _ _ HS2.out (fun hS => ?_)
    clear hK K
    refine r1 8 rfl (fun K hK => ?_)
    clear hS
    go_simp
    refine hK.out _ _ HS2.out (fun hS => ?_)
    clear hK K
    refine r1 11 rfl (fun K hK => ?_)
    clear hS
    simp only [Region.wanted]
    refine wp_append_own _ (.tmp 20) (.tmp 22) 27 rfl R0 3 i0 (.int .i64 0) 1 8 Tryz.underlying27 hi0 hz0 hz1 hz2 rfl (by decide) (.slice xa ys.length xc) ys.length (vals ys) rfl LPA.out.r ⟨V.heap.size, 0, none⟩ 1 1 [.int .i64 x] rfl rfl (one_int V 3 x) (by intro u hu; simp at hu; subst hu; rfl) (by unfold maxLen; omega) (by omega) (by have := LPA.out.sz; omega) ?_
    intro v' w4 hown hgrow hiff
    clear hiff
    have e1 : (ys ++ [x]).length = ys.length + 1 := by simp
    have e2 : vals (ys ++ [x]) = vals ys ++ [.int .i64 x] := by simp [vals]
    have B4 : Below R0 V w4 := ((Below.refl R0 V).alloc sz _).grown hgrow (by simp; omega) (fun g hg => by have := own_out LPD.out.r (show R0 - 1 < R0 by have := s.fR; omega) g hg; omega)
    have K4 : KeepsFrom R0 W w4 := BV.out.trans (((KeepsOthers.alloc V (.cells #[.int .i64 x] 3)).trans (KeepsOthers.of_grownBy hgrow (fun g o hg ho => by
      obtain ⟨_, ⟨q, -⟩ | ⟨g', cap, cur, q, _, hg', _⟩⟩ := LPA.out.r
      · rw [q] at hg; simp [Value.ownBlock] at hg
      · rw [q] at hg
        simp only [Value.ownBlock, Option.some.injEq] at hg
        rw [← hg, hg'] at ho
        cases ho
        rfl))).from R0)
    have R4 : w4.ownsRow R0 3 1 v' (ys ++ [x]).length (vals (ys ++ [x])) := by rw [e1, e2]; exact hown
    obtain ⟨xa', xc', ev'⟩ := own_slice R4
    subst ev'
    have LPN : Hid (Lp w0 f S P dk kl B C R0 b k kb l1 l2 Ds (.slice xa' (ys ++ [x]).length xc') (ys ++ [x]) (w4.setCell ⟨dk, 2 + k, none⟩ (.slice xa' (ys ++ [x]).length xc'))) := LPD.out.put s hP B4 R4
    have d4 : Hid (w4.cell? ⟨dk, 2 + k, none⟩ = some (.slice xa ys.length xc)) := (B4.cell (p := ⟨dk, 2 + k, none⟩) (show dk < R0 by have := s.fd; have := s.fR; omega)).trans cS
    have f4 : Hid (w4.frozen? ⟨dk, 2 + k, none⟩ = false) := (B4.frozen (p := ⟨dk, 2 + k, none⟩) (show dk < R0 by have := s.fd; have := s.fR; omega)).trans (by
      have hl : 2 + k < (draftC f S P kl 4 b).length := by simp [draftC, Bx.cells, hdC]; omega
      exact (LPD.out.d (2 + k) _ (by rw [List.getElem?_set_self hl])).2)
    have S4 : Hid ((fun w' : World => w'.cell? ⟨w0.heap.size, 0, none⟩ = some (.pointer (some ⟨dk, 0, none⟩)) ∧ w'.cell? ⟨kb, 0, none⟩ = some (.int .i64 k)) w4) := ⟨(B4.cell (p := ⟨w0.heap.size, 0, none⟩) (show w0.heap.size < R0 by have := s.fR; omega)).trans LPD.out.x, (B4.cell (p := ⟨kb, 0, none⟩) (show kb < R0 by have := s.b1; omega)).trans LPD.out.q⟩
    have K5 : Hid (KeepsFrom R0 W (w4.setCell ⟨dk, 2 + k, none⟩ (.slice xa' (ys ++ [x]).length xc'))) := K4.trans ((KeepsOthers.setCell _ _ _).from R0)
    obtain ⟨m, hm⟩ : ∃ m, m = (ys ++ [x]).length := ⟨_, rfl⟩
    rw [← hm] at LPN K5 e1
    have EM : Hid (m = (ys ++ [x]).length) := hm
    have M1 : Hid (m = ys.length + 1) := e1
    have ml : m ≤ P * 8 + 1 := by omega
    clear hown hgrow e1 e2 B4 K4 R4 cS cS2 LPA LPD BV HS1 HS2 LPW
    rw [← hm]
    clear hm
    simp only [Act.put, List.setIfInBounds_toArray]
    refine hK.out _ _ S4.out (fun hS => ?_)
    clear hK K
    refine tI 15 (v := .pointer (some ⟨dk, 2 + k, none⟩)) (d := some 27) rfl rfl (fun w' hw => ?_) (by assumption) ?_
    · clear hw; go_simp
    simp only [Act.put]
    refine r1 16 rfl (fun K hK => ?_)
    clear hS
    have dd := d4.out
    have ff := f4.out
    go_simp
    refine hK.out _ _ ⟨LPN.out.x, LPN.out.q⟩ (fun hS => ?_)
    clear hK K hS dd ff d4 f4 S4
    refine wpAnyH_done (by kernel_rfl) ?_ _
    generalize w4.setCell ⟨dk, 2 + k, none⟩ (.slice xa' m xc') = W5 at LPN K5 ⊢
    gi_wp2
    have LPM : Hid (Lp w0 f S P dk kl B C R0 b k kb l1 l2 Ds (.slice xa' m xc') (ys ++ [x]) W5.drew) := LPN.out.to s hP below_drew LPN.out.r (.inr rfl)
    have K6 : Hid (KeepsFrom R0 W W5.drew) := K5.out.trans ((KeepsOthers.drew W5).from R0)
    refine region_round (S := Lp w0 f S P dk kl B C R0 b k kb l1 l2 Ds (.slice xa' m xc') (ys ++ [x])) (by kernel_rfl) (noDefer_at (by kernel_rfl)) (fun ⟨_, _, h⟩ => h) LPM.out (fun hS => ?_)
    refine tI 0 (v := .pointer (some ⟨dk, 0, none⟩)) (d := some 28) rfl rfl (fun w' hw => ?_) (by assumption) ?_
    · have q := hw.x; clear hw; go_simp
    simp only [Act.put, s1, s2, s3]
    refine tI 1 (v := .int .i64 k) (d := some 29) rfl rfl (fun w' hw => ?_) (by assumption) ?_
    · have q := hw.q; clear hw; go_simp
    simp only [Act.put, s1, s2, s3]
    refine tI 2 (v := .pointer (some ⟨dk, 0, none⟩)) (d := some 30) rfl rfl (fun w' hw => ?_) (by assumption) ?_
    · clear hw; go_simp
    simp only [Act.put, s1, s2, s3]
    refine tI 3 (v := .pointer (some ⟨dk, 0, none⟩)) (d := some 31) rfl rfl (fun w' hw => ?_) (by assumption) ?_
    · clear hw; go_simp
    simp only [Act.put, s1, s2, s3]
    refine tI 4 (v := .pointer (some ⟨dk, 2, none⟩)) (d := some 32) rfl rfl (fun w' hw => ?_) (by assumption) ?_
    · clear hw; go_simp
    simp only [Act.put, s1, s2, s3]
    refine tI 5 (v := .pointer (some ⟨dk, 2 + k, none⟩)) (d := some 33) rfl rfl (fun w' hw => ?_) (by assumption) ?_
    · clear hw; go_simp
    simp only [Act.put, s1, s2, s3]
    refine tI 6 (v := (.slice xa' m xc')) (d := some 34) rfl rfl (fun w' hw => ?_) (by assumption) ?_
    · have q := (hw.cnt hk).1; clear hw; go_simp
    simp only [Act.put, s1, s2, s3]
    refine tI 7 (v := .int .i64 m) (d := some 35) rfl rfl (fun w' hw => ?_) (by assumption) ?_
    · clear hw; go_simp
    simp only [Act.put, s1, s2, s3]
    refine tI 8 (v := .pointer (some ⟨dk, 0, none⟩)) (d := some 36) rfl rfl (fun w' hw => ?_) (by assumption) ?_
    · have q := hw.x; clear hw; go_simp
    simp only [Act.put, s1, s2, s3]
    refine tI 9 (v := .pointer (some ⟨dk, 0, none⟩)) (d := some 37) rfl rfl (fun w' hw => ?_) (by assumption) ?_
    · clear hw; go_simp
    simp only [Act.put, s1, s2, s3]
    refine tI 10 (v := .pointer (some ⟨dk, 13, none⟩)) (d := some 38) rfl rfl (fun w' hw => ?_) (by assumption) ?_
    · clear hw; go_simp
    simp only [Act.put, s1, s2, s3]
    refine tI 11 (v := .slice (some ⟨kl, 0, none⟩) (P * 8) (P * 8)) (d := some 39) rfl rfl (fun w' hw => ?_) (by assumption) ?_
    · have q := (hw.hd hk).2; clear hw; go_simp
    simp only [Act.put, s1, s2, s3]
    refine tI 12 (v := .int .i64 ((P : Int) * 8)) (d := some 40) rfl rfl (fun w' hw => ?_) (by assumption) ?_
    · clear hw; go_simp
    simp only [Act.put, s1, s2, s3]
    refine tI 13 (v := .bool (decide ((P : Int) * 8 < m))) (d := some 41) rfl rfl (fun w' hw => ?_) (by assumption) ?_
    · clear hw; go_simp
    simp only [Act.put, s1, s2, s3]
    refine wpAnyH_done (by kernel_rfl) ?_ _
    clear hS
    generalize World.drew W5 = W6 at LPM K6 ⊢
    by_cases gt : m ≤ P * 8
    · have gn : ¬ P * 8 < m := by omega
      have gi : ¬ (P : Int) * 8 < m := by omega
      gi_wp2
      exact ⟨K6.out, ⟨_, LPM.out⟩, by rw [← EM.out]; exact gt⟩
    · have gn : P * 8 < m := by omega
      have gi : (P : Int) * 8 < m := by omega
      gi_wp2
      exact ⟨rfl, K6.out, ⟨_, LPM.out⟩, by rw [← EM.out]; omega⟩

end Go.Proofs.YtgfbfgiohmdjmaaGreat.Book

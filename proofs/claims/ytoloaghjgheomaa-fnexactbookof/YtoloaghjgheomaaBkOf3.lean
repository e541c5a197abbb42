/- BookOf of the specification. -/
import Derived.Test.YtoloaghjgheomaaBkOf2
namespace Go.Proofs.Ytoloaghjgheomaa.Book
open Go.ChangeShapes Go.WideShapes Go.ChangeAt Go.RowKit
open Go.Proofs.Ytoloaghjgheomaa.Aid Go.Proofs.Ytoloaghjgheomaa.Lst
set_option linter.unusedVariables false

def selQ (b : Bx) (t : Int) (u : Nat) : List Int := if 0 ≤ t ∧ t < b.s then selL b.o.f (t + 1) u else []
theorem selQ_len (b : Bx) (t : Int) (u : Nat) : (selQ b t u).length ≤ u := by
  unfold selQ
  split
  · exact selL_len _ _ _
  · exact Nat.zero_le _
theorem selQ_no (b : Bx) (t : Int) (u : Nat) (h : ¬ ((0 ≤ t ∧ t < b.s) ∧ b.o.f u = t + 1)) : selQ b t (u + 1) = selQ b t u := by
  unfold selQ
  split
  · rename_i g
    simp only [selL]
    rw [if_neg (fun e => h ⟨g, e⟩)]
  · rfl
theorem selQ_yes (b : Bx) (t : Int) (u : Nat) (g : 0 ≤ t ∧ t < b.s) (e : b.o.f u = t + 1) : selQ b t (u + 1) = selQ b t u ++ [(u : Int)] := by
  unfold selQ
  rw [if_pos g, if_pos g]
  simp only [selL]
  rw [if_pos e]
theorem own_later {w w1 : World} {base n : Nat} {e : TypeId} {v : Value} {xs : List Value} (h : w.ownsRow base e 1 v n xs) (hb : Below w.heap.size w w1) : w1.ownsRow base e 1 v n xs := by
  obtain ⟨q, g | ⟨g, cap, cur, e, hb', hg, r⟩⟩ := h
  · exact ⟨q, .inl g⟩
  · have hlt : g < w.heap.size := Nat.lt_of_not_le fun hle => by rw [Array.getElem?_eq_none hle] at hg; cases hg
    exact ⟨q, .inr ⟨g, cap, cur, e, hb', by rw [hb.block g hlt]; exact hg, r⟩⟩

set_option maxRecDepth 100000 in
set_option maxHeartbeats 16000000 in
theorem sof_any (b : Bx) (t : Int) (w : World) (h : b.At w) (hn : b.total ≤ 1000000000) (hw : b.Wf) (t0 : -9223372036854775808 ≤ t) (t1 : t ≤ 9223372036854775807) :
    Calls Try.prog 15 #[.agg b.cells.toArray, .int .i64 t] w fun e w' => OfQ b t w.heap.size w' e ∧ Below w.heap.size w w' := by
  obtain ⟨i0, hi0, hz0, hz1, hz2⟩ := int_parts infoInt
  have E : Ent w b ((w.alloc (.cells #[.int .i64 b.s, .slice b.p.a b.p.n b.p.c, .slice b.h0.a b.h0.n b.h0.c, .slice b.h1.a b.h1.n b.h1.c, .slice b.h2.a b.h2.n b.h2.c, .slice b.h3.a b.h3.n b.h3.c, .slice b.o.a b.o.n b.o.c, .slice b.i.a b.i.n b.i.c, .slice b.e.a b.e.n b.e.c] 26)).alloc (.cells #[] 3)) := (Ent.start h 26).later (below1 _ _)
  have O : ((w.alloc (.cells #[.int .i64 b.s, .slice b.p.a b.p.n b.p.c, .slice b.h0.a b.h0.n b.h0.c, .slice b.h1.a b.h1.n b.h1.c, .slice b.h2.a b.h2.n b.h2.c, .slice b.h3.a b.h3.n b.h3.c, .slice b.o.a b.o.n b.o.c, .slice b.i.a b.i.n b.i.c, .slice b.e.a b.e.n b.e.c] 26)).alloc (.cells #[] 3)).ownsRow (w.heap.size + 1) 3 1 (.slice (some ⟨w.heap.size + 1, 0, none⟩) 0 0) 0 [] := ⟨rfl, .inr ⟨w.heap.size + 1, 0, #[], rfl, Nat.le_refl _, heap2_1 w _ _, Nat.le_refl _, Nat.zero_le _, rfl, rfl⟩⟩
  simp only [Bx.cells]
  go_enter Try.func15, Try.ntmps15
  go_wp2_with (fail)
  generalize (w.alloc (.cells #[.int .i64 b.s, .slice b.p.a b.p.n b.p.c, .slice b.h0.a b.h0.n b.h0.c, .slice b.h1.a b.h1.n b.h1.c, .slice b.h2.a b.h2.n b.h2.c, .slice b.h3.a b.h3.n b.h3.c, .slice b.o.a b.o.n b.o.c, .slice b.i.a b.i.n b.i.c, .slice b.e.a b.e.n b.e.c] 26)).alloc (.cells #[] 3) = W at E O ⊢
  by_cases ok : OkP b
  case neg =>
    refine wp_loop_rounds 1 ?_
    rw [rounds_succ]
    obtain ⟨u0, u1, u2, u3, u4, u5, u6, u7, u8⟩ := nine E.r
    go_wp2_with (fail)
    refine (sok_any b W E.a hn hw).mono ?_
    rintro e w1 ⟨⟨r, rfl, hr⟩, hb⟩
    have O1 : w1.ownsRow (w.heap.size + 1) 3 1 (.slice (some ⟨w.heap.size + 1, 0, none⟩) 0 0) 0 [] := by
      obtain ⟨q, ⟨e, _⟩ | ⟨g, cap, cur, e, hb', hg, r⟩⟩ := O
      · cases e
      · have hlt : g < W.heap.size := Nat.lt_of_not_le fun hle => by rw [Array.getElem?_eq_none hle] at hg; cases hg
        exact ⟨q, .inr ⟨g, cap, cur, e, hb', by rw [hb.block g hlt]; exact hg, r⟩⟩
    have F := E.later hb
    clear hb O E u0 u1 u2 u3 u4 u5 u6 u7 u8
    cases r
    · go_wp2_with (fail)
      go_ret
      refine ⟨⟨_, [], rfl, ⟨rfl, ?_⟩, .inr ⟨ok, rfl⟩⟩, F.b⟩
      rcases O1.2 with g | ⟨g, cap, cur, e, hb', r⟩
      · exact .inl g
      · exact .inr ⟨g, cap, cur, e, by omega, r⟩
    · exact absurd hr.t ok
  have OK : Hid (OkP b) := ok
  obtain ⟨n1, n2, n3, n4, n5⟩ := ok.nums
  have OW : Hid (OwnsP b b.o.n) := ok.1.2.2
  have s4 : b.s ≤ 4 := ok.1.1.2.1
  have s1 : 1 ≤ b.s := ok.1.1.1
  clear ok
  go_loopw [5, 6] (fun v i wr => ∃ u : Nat, u ≤ b.o.n ∧ i = .int .i64 u ∧ wr.ownsRow (w.heap.size + 1) 3 1 v (selQ b t u).length (vals (selQ b t u)) ∧ Ent w b wr) (fun _ i _ => b.o.n - (intOf i).toNat)
  case atStart =>
    have e0 : selQ b t 0 = [] := by unfold selQ; split <;> rfl
    exact ⟨0, by omega, rfl, by rw [e0]; exact O, E⟩
  case round =>
    obtain ⟨u, hu, rfl, ho, F⟩ := hrel
    clear E O
    have HO : Hid (wr.ownsRow (w.heap.size + 1) 3 1 u5 (selQ b t u).length (vals (selQ b t u))) := ho
    clear ho
    obtain ⟨u0, u1, u2, u3, u4, u5', u6', u7, u8⟩ := nine F.r
    go_wp2_with (fail)
    refine (sok_any b wr F.a hn hw).mono ?_
    rintro e w1 ⟨⟨r, rfl, hr⟩, hb⟩
    have HO1 : Hid (w1.ownsRow (w.heap.size + 1) 3 1 u5 (selQ b t u).length (vals (selQ b t u))) := own_later HO.out hb
    have G := F.later hb
    clear hb F HO u0 u1 u2 u3 u4 u5' u6' u7 u8
    cases r
    · exact absurd OK.out hr.f
    clear hr
    obtain ⟨-, -, -, -, -, -, v6, -, -⟩ := nine G.r
    by_cases lt : (u : Int) < b.o.n
    · obtain ⟨k, o, ea, hc⟩ := G.a.o.cells (by omega)
      have c1 := hc u (by omega)
      rw [ea] at v6
      clear ea hc
      have ll := selQ_len b t u
      obtain ⟨w0', w1', w2'⟩ := OW.out u (by omega)
      clear w2'
      have OUT : Hid (∀ g, u5.ownBlock = some g → w.heap.size < g) := own_out HO1.out (Nat.lt_succ_self w.heap.size)
      by_cases ta : t < 0
      · have tb : ¬ t ≥ 0 := by omega
        by_cases e : b.o.f u = t + 1
        · have HO2 : Hid (w1.ownsRow (w.heap.size + 1) 3 1 u5 (selQ b t (u + 1)).length (vals (selQ b t (u + 1)))) := by
            unfold Hid
            rw [selQ_no b t u (by omega)]
            exact HO1.out
          clear HO1 OUT
          go_wp2_with (fail)
          go_roundw
          case rel => exact ⟨u + 1, by omega, by go_num, HO2.out, G⟩
          case measure => simp [intOf]; omega
        · have eb : (b.o.f u == t + 1) = false := by simp [e]
          have HO2 : Hid (w1.ownsRow (w.heap.size + 1) 3 1 u5 (selQ b t (u + 1)).length (vals (selQ b t (u + 1)))) := by
            unfold Hid
            rw [selQ_no b t u (by omega)]
            exact HO1.out
          clear HO1 OUT
          go_wp2_with (fail)
          go_roundw
          case rel => exact ⟨u + 1, by omega, by go_num, HO2.out, G⟩
          case measure => simp [intOf]; omega
      · by_cases tc : t < b.s
        · by_cases e : b.o.f u = t + 1
          · have SE : Hid (selQ b t (u + 1) = selQ b t u ++ [(u : Int)]) := selQ_yes b t u ⟨by omega, tc⟩ e
            rw [e] at c1
            clear e
            generalize selQ b t u = L at HO1 ll SE
            have fl := G.lt
            go_wp2_with (refine wpList_append_own _ rfl _ _ 23 rfl (w.heap.size + 1) 3 i0 (.int .i64 0) 1 8 Try.underlying23 hi0 hz0 hz1 hz2 rfl (by decide) _ L.length (vals L) rfl (HO1.out.alloc _) ⟨w1.heap.size, 0, none⟩ 1 1 [.int .i64 u] rfl rfl (one_int w1 3 u) (by intro u hu; simp at hu; subst hu; rfl) (by unfold maxLen; omega) (by omega) (by simp; omega) ?_)
            intro v' w4 hown hgrow hiff
            have G2 := (G.later (below1 w1 (.cells #[.int .i64 u] 3))).grown h hgrow OUT.out
            have HO2 : Hid (w4.ownsRow (w.heap.size + 1) 3 1 v' (selQ b t (u + 1)).length (vals (selQ b t (u + 1)))) := by
              unfold Hid
              rw [SE.out]
              simpa [vals] using hown
            clear hown hgrow hiff HO1 SE OUT G fl
            go_wp2_with (fail)
            go_roundw
            case rel => exact ⟨u + 1, by omega, by go_num, HO2.out, G2⟩
            case measure => simp [intOf]; omega
          · have eb : (b.o.f u == t + 1) = false := by simp [e]
            have HO2 : Hid (w1.ownsRow (w.heap.size + 1) 3 1 u5 (selQ b t (u + 1)).length (vals (selQ b t (u + 1)))) := by
              unfold Hid
              rw [selQ_no b t u (by omega)]
              exact HO1.out
            clear HO1 OUT
            go_wp2_with (fail)
            go_roundw
            case rel => exact ⟨u + 1, by omega, by go_num, HO2.out, G⟩
            case measure => simp [intOf]; omega
        · by_cases tm : t = 9223372036854775807
          · subst tm
            have eb : (b.o.f u == -9223372036854775808) = false := by simp; omega
            have wv : wrap64 9223372036854775808 = -9223372036854775808 := by unfold wrap64; omega
            have wv2 : wrap64 (9223372036854775807 + 1) = -9223372036854775808 := by unfold wrap64; omega
            have ne : ¬ b.o.f u = -9223372036854775808 := by omega
            have HO2 : Hid (w1.ownsRow (w.heap.size + 1) 3 1 u5 (selQ b 9223372036854775807 (u + 1)).length (vals (selQ b 9223372036854775807 (u + 1)))) := by
              unfold Hid
              rw [selQ_no b 9223372036854775807 u (by omega)]
              exact HO1.out
            clear HO1 OUT
            go_wp2_with (fail)
            go_roundw
            case rel => exact ⟨u + 1, by omega, by go_num, HO2.out, G⟩
            case measure => simp [intOf]; omega
          · have eb : (b.o.f u == t + 1) = false := by simp; omega
            have HO2 : Hid (w1.ownsRow (w.heap.size + 1) 3 1 u5 (selQ b t (u + 1)).length (vals (selQ b t (u + 1)))) := by
              unfold Hid
              rw [selQ_no b t u (by omega)]
              exact HO1.out
            clear HO1 OUT
            go_wp2_with (fail)
            go_roundw
            case rel => exact ⟨u + 1, by omega, by go_num, HO2.out, G⟩
            case measure => simp [intOf]; omega
    · have eu : u = b.o.n := by omega
      have HO2 : Hid (w1.ownsRow (w.heap.size + 1) 3 1 u5 (selQ b t b.o.n).length (vals (selQ b t b.o.n))) := by unfold Hid; rw [← eu]; exact HO1.out
      clear eu HO1
      go_wp2_with (fail)
      go_ret
      refine ⟨⟨_, selQ b t b.o.n, rfl, ⟨HO2.out.1, ?_⟩, .inl ⟨OK.out, ?_⟩⟩, G.b⟩
      · rcases HO2.out.2 with g | ⟨g, cap, cur, e, hb', r⟩
        · exact .inl g
        · exact .inr ⟨g, cap, cur, e, by omega, r⟩
      · unfold selQ
        by_cases g : 0 ≤ t ∧ t < b.s
        · rw [if_pos g]; exact .inl ⟨g, rfl⟩
        · rw [if_neg g]; exact .inr ⟨g, rfl⟩

end Go.Proofs.Ytoloaghjgheomaa.Book

import Derived.Test.YtbipolfbkemmpaaDoorM7

/- How often each unit stands in the lists, by the program. -/
namespace Go.Proofs.YtbipolfbkemmpaaDoor.Book
open Go.ChangeShapes Go.WideShapes Go.ChangeAt Go.RowKit
open Aid Lst
set_option maxRecDepth 100000
set_option linter.unusedVariables false

def tmK (b : Bx) (u : Int) : Nat → Nat
  | 0 => 0
  | k + 1 => tmK b u k + cnt (b.hd k).f u (b.hd k).n
theorem tmK_le (b : Bx) (u : Int) (h : Len4P b 4) (hn : b.o.n ≤ 48) : ∀ k, k ≤ 4 → tmK b u k ≤ k * 48
  | 0, _ => Nat.le_refl _
  | k + 1, hk => by
    have h1 := tmK_le b u h hn k (by omega)
    have h2 := cnt_le (b.hd k).f u (b.hd k).n
    have h3 := h k (by omega)
    simp only [tmK]
    omega

theorem Ent.set {w : World} {b : Bx} {W : World} (E : Ent w b W) (h : b.At w) (k i : Nat) (hk : w.heap.size < k) (v : Value) : Ent w b (W.setCell ⟨k, i, none⟩ v) :=
  ⟨fun j x hx => by rw [World.cell?_setCell_far _ _ _ _ (show k ≠ w.heap.size by omega)]; exact E.r j x hx, h.later (E.b.setCell (p := ⟨k, i, none⟩) (Nat.le_of_lt hk) v), E.b.setCell (p := ⟨k, i, none⟩) (Nat.le_of_lt hk) v, by simpa [World.setCell] using E.lt⟩

def FreeR (b : Bx) (w w' : World) (e : Ending) : Prop :=
  (ListsP b 4 ∧ ∃ k, w.heap.size ≤ k ∧ e = .returned (.tuple #[.slice (some ⟨k, 0, none⟩) b.o.n b.o.n, .bool true]) ∧ Fk .i64 b.o.n w' k (fun u => (tmK b u 4 : Int))) ∨
  (¬ ListsP b 4 ∧ e = .returned (.tuple #[.slice none 0 0, .bool false]))

set_option maxRecDepth 100000 in
set_option maxHeartbeats 8000000 in
theorem bfree_any (b : Bx) (w : World) (h : b.At w) (hl : LensP b) (h4 : Len4P b 4) :
    Calls Tryd.prog 56 #[.agg b.cells.toArray] w fun e w' => FreeR b w w' e ∧ Below w.heap.size w w' := by
  obtain ⟨l1, l2, l3, l4, l5, l6, l7⟩ := hl
  have n1 : b.o.n ≤ b.p.n * 8 := by omega
  have n2 : b.p.n ≤ 6 := by omega
  have n3 : b.o.n ≤ 48 := by omega
  have n4 : 1 ≤ b.p.n := by omega
  clear l1 l2 l3 l4 l5 l6 l7
  have H4 : Hid (Len4P b 4) := h4
  have TL : Hid (∀ u k, k ≤ 4 → tmK b u k ≤ k * 48) := fun u k hk => tmK_le b u h4 n3 k hk
  clear h4
  obtain ⟨ix0, ix1, ix2, ix3⟩ := ix4 b.h0.a b.h1.a b.h2.a b.h3.a b.h0.n b.h0.c b.h1.n b.h1.c b.h2.n b.h2.c b.h3.n b.h3.c
  have E : Ent w b (w.alloc (.cells #[.int .i64 b.s, .slice b.p.a b.p.n b.p.c, .slice b.h0.a b.h0.n b.h0.c, .slice b.h1.a b.h1.n b.h1.c, .slice b.h2.a b.h2.n b.h2.c, .slice b.h3.a b.h3.n b.h3.c, .slice b.o.a b.o.n b.o.c, .slice b.i.a b.i.n b.i.c, .slice b.e.a b.e.n b.e.c] 26)) := Ent.start h 26
  have hmk := fun w => run_make_row' (P := Tryd.prog) 23 3 (.int .i64 0) 8 Tryd.underlying23 infoInt rfl .i64 .i64 b.o.n (by omega) (by omega) w
  have f0 := fk_made .i64 (w.alloc (.cells #[.int .i64 b.s, .slice b.p.a b.p.n b.p.c, .slice b.h0.a b.h0.n b.h0.c, .slice b.h1.a b.h1.n b.h1.c, .slice b.h2.a b.h2.n b.h2.c, .slice b.h3.a b.h3.n b.h3.c, .slice b.o.a b.o.n b.o.c, .slice b.i.a b.i.n b.i.c, .slice b.e.a b.e.n b.e.c] 26)) b.o.n 3
  have E0 := E.later (below1 _ (.cells (madeCells #[.int .i64 0] b.o.n) 3))
  have z0 : (w.alloc (.cells #[.int .i64 b.s, .slice b.p.a b.p.n b.p.c, .slice b.h0.a b.h0.n b.h0.c, .slice b.h1.a b.h1.n b.h1.c, .slice b.h2.a b.h2.n b.h2.c, .slice b.h3.a b.h3.n b.h3.c, .slice b.o.a b.o.n b.o.c, .slice b.i.a b.i.n b.i.c, .slice b.e.a b.e.n b.e.c] 26)).heap.size = w.heap.size + 1 := by simp
  rw [z0] at f0
  clear z0 E
  simp only [Bx.cells]
  go_enter Tryd.func56, Tryd.ntmps56
  go_wp2_with (fail)
  generalize ((w.alloc (.cells #[.int .i64 b.s, .slice b.p.a b.p.n b.p.c, .slice b.h0.a b.h0.n b.h0.c, .slice b.h1.a b.h1.n b.h1.c, .slice b.h2.a b.h2.n b.h2.c, .slice b.h3.a b.h3.n b.h3.c, .slice b.o.a b.o.n b.o.c, .slice b.i.a b.i.n b.i.c, .slice b.e.a b.e.n b.e.c] 26)).alloc (.cells (madeCells #[.int .i64 0] b.o.n) 3)) = W0 at f0 E0 ⊢
  have F0 : Fk .i64 b.o.n W0 (w.heap.size + 1) (fun u => (tmK b u 0 : Int)) := f0
  clear f0 hmk
  have P0 : Hid (ListsP b 0) := fun k hk => absurd hk (Nat.not_lt_zero _)
  refine wp_loop_rounds 5 ?_
  rw [rounds_succ]
  go_wp2_with (fail)
  have nk0 : b.h0.n ≤ b.o.n := H4.out 0 (by omega)
  go_loopw [21] (fun i wr => ∃ j : Nat, j ≤ b.h0.n ∧ i = .int .i64 j ∧ ListP b 0 j ∧ Ent w b wr ∧ Fk .i64 b.o.n wr (w.heap.size + 1) (fun u => ((tmK b u 0 + cnt b.h0.f u j : Nat) : Int))) (fun i _ => b.h0.n - (intOf i).toNat)
  case atStart => exact ⟨0, Nat.zero_le _, rfl, fun j h => absurd h (Nat.not_lt_zero _), E0, F0⟩
  case round =>
    obtain ⟨j, hj, rfl, hL, G, FF⟩ := hrel
    have HL : Hid (ListP b 0 j) := hL
    clear hL E0 F0
    by_cases lt : (j : Int) < b.h0.n
    · obtain ⟨k1, o1, ex, hx⟩ := G.a.h0.cells (by omega)
      obtain ⟨u0, u1, u2, u3, u4, u5, u6, u7, u8⟩ := nine G.r
      have c1 := hx j (by omega)
      have EX : Hid (b.h0.a = some ⟨k1, o1, none⟩) := ex
      rw [ex]
      clear hx ex
      generalize hv : b.h0.f j = v at c1
      have HV : Hid (b.h0.f j = v) := hv
      clear hv
      go_wp2_with (fail)
      rw [← EX.out]
      refine (begins_any b 0 v _ G.a (by omega) n1 (by omega)).mono ?_
      rintro e w1 ⟨⟨r, rfl, hr⟩, hb⟩
      have G1 := G.later hb
      have FF1 := FF.later hb
      clear hb G FF c1 u0 u1 u2 u3 u4 u5 u6 u7 u8
      cases r
      · go_wp2_with (fail)
        refine bodyPost_ret (v := .tuple #[.slice none 0 0, .bool false]) (by simp [results, Tryd.results56, go_sem]) rfl ⟨.inr ⟨fun g => hr.f ?_, rfl⟩, G1.b⟩
        have e : BegP b 0 (b.h0.f j) := (g 0 (by omega)).2 j (by show j < b.h0.n; omega)
        rw [HV.out] at e
        exact e
      · have hB : Hid (BegP b 0 v) := hr.t
        obtain ⟨m, rfl⟩ : ∃ m : Nat, v = m := ⟨v.toNat, by have := hr.t.1; omega⟩
        have m1 : (m : Int) < b.o.n := hr.t.2.1
        have tl := TL.out m 0 (by omega)
        have cl := cnt_le b.h0.f m j
        have cm := FF1 m (by omega)
        have FH : Hid (Fk .i64 b.o.n w1 (w.heap.size + 1) (fun u => ((tmK b u 0 + cnt b.h0.f u j : Nat) : Int))) := FF1
        simp only at cm
        generalize ht : tmK b m 0 + cnt b.h0.f m j = t at cm
        have HT : Hid (tmK b m 0 + cnt b.h0.f m j = t) := ht
        have t1 : t ≤ 1000 := by omega
        clear hr ht FF1 tl cl
        go_wp2_with (fail)
        rw [← EX.out]
        go_roundw
        case rel =>
          refine ⟨j + 1, by omega, by go_num, HL.out.up ?_, G1.set h _ _ (by omega) _, FH.out.set m ((t : Int) + 1) _ ?_ (fun u hu hne => ?_)⟩
          · show BegP b 0 (b.h0.f j)
            rw [HV.out]; exact hB.out
          · simp only [cnt, if_pos HV.out]
            have := HT.out
            omega
          · simp only [cnt]
            rw [if_neg (by rw [HV.out]; omega)]
            rfl
        case measure => simp [intOf]; omega
    · have ej : j = b.h0.n := by omega
      have P1 : Hid (ListsP b 1) := P0.out.up nk0 (by
        show ListP b 0 b.h0.n
        rw [← ej]; exact HL.out)
      have F1 : Fk .i64 b.o.n wr (w.heap.size + 1) (fun u => (tmK b u 1 : Int)) := FF.congr (fun u _ => by
        show (((tmK b u 0 + cnt b.h0.f u b.h0.n : Nat)) : Int) = _
        rw [← ej])
      have E1 := G
      clear ej HL FF G P0
      go_wp2_with (fail)
      rw [rounds_succ]
      go_wp2_with (fail)
      have nk1 : b.h1.n ≤ b.o.n := H4.out 1 (by omega)
      go_loopw [21] (fun i wr => ∃ j : Nat, j ≤ b.h1.n ∧ i = .int .i64 j ∧ ListP b 1 j ∧ Ent w b wr ∧ Fk .i64 b.o.n wr (w.heap.size + 1) (fun u => ((tmK b u 1 + cnt b.h1.f u j : Nat) : Int))) (fun i _ => b.h1.n - (intOf i).toNat)
      case atStart => exact ⟨0, Nat.zero_le _, rfl, fun j h => absurd h (Nat.not_lt_zero _), E1, F1⟩
      case round =>
        obtain ⟨j, hj, rfl, hL, G, FF⟩ := hrel
        have HL : Hid (ListP b 1 j) := hL
        clear hL E1 F1
        by_cases lt : (j : Int) < b.h1.n
        · obtain ⟨k1, o1, ex, hx⟩ := G.a.h1.cells (by omega)
          obtain ⟨u0, u1, u2, u3, u4, u5, u6, u7, u8⟩ := nine G.r
          have c1 := hx j (by omega)
          have EX : Hid (b.h1.a = some ⟨k1, o1, none⟩) := ex
          rw [ex]
          clear hx ex
          generalize hv : b.h1.f j = v at c1
          have HV : Hid (b.h1.f j = v) := hv
          clear hv
          go_wp2_with (fail)
          rw [← EX.out]
          refine (begins_any b 1 v _ G.a (by omega) n1 (by omega)).mono ?_
          rintro e w1 ⟨⟨r, rfl, hr⟩, hb⟩
          have G1 := G.later hb
          have FF1 := FF.later hb
          clear hb G FF c1 u0 u1 u2 u3 u4 u5 u6 u7 u8
          cases r
          · go_wp2_with (fail)
            refine bodyPost_ret (v := .tuple #[.slice none 0 0, .bool false]) (by simp [results, Tryd.results56, go_sem]) rfl ⟨.inr ⟨fun g => hr.f ?_, rfl⟩, G1.b⟩
            have e : BegP b 1 (b.h1.f j) := (g 1 (by omega)).2 j (by show j < b.h1.n; omega)
            rw [HV.out] at e
            exact e
          · have hB : Hid (BegP b 1 v) := hr.t
            obtain ⟨m, rfl⟩ : ∃ m : Nat, v = m := ⟨v.toNat, by have := hr.t.1; omega⟩
            have m1 : (m : Int) < b.o.n := hr.t.2.1
            have tl := TL.out m 1 (by omega)
            have cl := cnt_le b.h1.f m j
            have cm := FF1 m (by omega)
            have FH : Hid (Fk .i64 b.o.n w1 (w.heap.size + 1) (fun u => ((tmK b u 1 + cnt b.h1.f u j : Nat) : Int))) := FF1
            simp only at cm
            generalize ht : tmK b m 1 + cnt b.h1.f m j = t at cm
            have HT : Hid (tmK b m 1 + cnt b.h1.f m j = t) := ht
            have t1 : t ≤ 1000 := by omega
            clear hr ht FF1 tl cl
            go_wp2_with (fail)
            rw [← EX.out]
            go_roundw
            case rel =>
              refine ⟨j + 1, by omega, by go_num, HL.out.up ?_, G1.set h _ _ (by omega) _, FH.out.set m ((t : Int) + 1) _ ?_ (fun u hu hne => ?_)⟩
              · show BegP b 1 (b.h1.f j)
                rw [HV.out]; exact hB.out
              · simp only [cnt, if_pos HV.out]
                have := HT.out
                omega
              · simp only [cnt]
                rw [if_neg (by rw [HV.out]; omega)]
                rfl
            case measure => simp [intOf]; omega
        · have ej : j = b.h1.n := by omega
          have P2 : Hid (ListsP b 2) := P1.out.up nk1 (by
            show ListP b 1 b.h1.n
            rw [← ej]; exact HL.out)
          have F2 : Fk .i64 b.o.n wr (w.heap.size + 1) (fun u => (tmK b u 2 : Int)) := FF.congr (fun u _ => by
            show (((tmK b u 1 + cnt b.h1.f u b.h1.n : Nat)) : Int) = _
            rw [← ej])
          have E2 := G
          clear ej HL FF G P1
          go_wp2_with (fail)
          rw [rounds_succ]
          go_wp2_with (fail)
          have nk2 : b.h2.n ≤ b.o.n := H4.out 2 (by omega)
          go_loopw [21] (fun i wr => ∃ j : Nat, j ≤ b.h2.n ∧ i = .int .i64 j ∧ ListP b 2 j ∧ Ent w b wr ∧ Fk .i64 b.o.n wr (w.heap.size + 1) (fun u => ((tmK b u 2 + cnt b.h2.f u j : Nat) : Int))) (fun i _ => b.h2.n - (intOf i).toNat)
          case atStart => exact ⟨0, Nat.zero_le _, rfl, fun j h => absurd h (Nat.not_lt_zero _), E2, F2⟩
          case round =>
            obtain ⟨j, hj, rfl, hL, G, FF⟩ := hrel
            have HL : Hid (ListP b 2 j) := hL
            clear hL E2 F2
            by_cases lt : (j : Int) < b.h2.n
            · obtain ⟨k1, o1, ex, hx⟩ := G.a.h2.cells (by omega)
              obtain ⟨u0, u1, u2, u3, u4, u5, u6, u7, u8⟩ := nine G.r
              have c1 := hx j (by omega)
              have EX : Hid (b.h2.a = some ⟨k1, o1, none⟩) := ex
              rw [ex]
              clear hx ex
              generalize hv : b.h2.f j = v at c1
              have HV : Hid (b.h2.f j = v) := hv
              clear hv
              go_wp2_with (fail)
              rw [← EX.out]
              refine (begins_any b 2 v _ G.a (by omega) n1 (by omega)).mono ?_
              rintro e w1 ⟨⟨r, rfl, hr⟩, hb⟩
              have G1 := G.later hb
              have FF1 := FF.later hb
              clear hb G FF c1 u0 u1 u2 u3 u4 u5 u6 u7 u8
              cases r
              · go_wp2_with (fail)
                refine bodyPost_ret (v := .tuple #[.slice none 0 0, .bool false]) (by simp [results, Tryd.results56, go_sem]) rfl ⟨.inr ⟨fun g => hr.f ?_, rfl⟩, G1.b⟩
                have e : BegP b 2 (b.h2.f j) := (g 2 (by omega)).2 j (by show j < b.h2.n; omega)
                rw [HV.out] at e
                exact e
              · have hB : Hid (BegP b 2 v) := hr.t
                obtain ⟨m, rfl⟩ : ∃ m : Nat, v = m := ⟨v.toNat, by have := hr.t.1; omega⟩
                have m1 : (m : Int) < b.o.n := hr.t.2.1
                have tl := TL.out m 2 (by omega)
                have cl := cnt_le b.h2.f m j
                have cm := FF1 m (by omega)
                have FH : Hid (Fk .i64 b.o.n w1 (w.heap.size + 1) (fun u => ((tmK b u 2 + cnt b.h2.f u j : Nat) : Int))) := FF1
                simp only at cm
                generalize ht : tmK b m 2 + cnt b.h2.f m j = t at cm
                have HT : Hid (tmK b m 2 + cnt b.h2.f m j = t) := ht
                have t1 : t ≤ 1000 := by omega
                clear hr ht FF1 tl cl
                go_wp2_with (fail)
                rw [← EX.out]
                go_roundw
                case rel =>
                  refine ⟨j + 1, by omega, by go_num, HL.out.up ?_, G1.set h _ _ (by omega) _, FH.out.set m ((t : Int) + 1) _ ?_ (fun u hu hne => ?_)⟩
                  · show BegP b 2 (b.h2.f j)
                    rw [HV.out]; exact hB.out
                  · simp only [cnt, if_pos HV.out]
                    have := HT.out
                    omega
                  · simp only [cnt]
                    rw [if_neg (by rw [HV.out]; omega)]
                    rfl
                case measure => simp [intOf]; omega
            · have ej : j = b.h2.n := by omega
              have P3 : Hid (ListsP b 3) := P2.out.up nk2 (by
                show ListP b 2 b.h2.n
                rw [← ej]; exact HL.out)
              have F3 : Fk .i64 b.o.n wr (w.heap.size + 1) (fun u => (tmK b u 3 : Int)) := FF.congr (fun u _ => by
                show (((tmK b u 2 + cnt b.h2.f u b.h2.n : Nat)) : Int) = _
                rw [← ej])
              have E3 := G
              clear ej HL FF G P2
              go_wp2_with (fail)
              rw [rounds_succ]
              go_wp2_with (fail)
              have nk3 : b.h3.n ≤ b.o.n := H4.out 3 (by omega)
              go_loopw [21] (fun i wr => ∃ j : Nat, j ≤ b.h3.n ∧ i = .int .i64 j ∧ ListP b 3 j ∧ Ent w b wr ∧ Fk .i64 b.o.n wr (w.heap.size + 1) (fun u => ((tmK b u 3 + cnt b.h3.f u j : Nat) : Int))) (fun i _ => b.h3.n - (intOf i).toNat)
              case atStart => exact ⟨0, Nat.zero_le _, rfl, fun j h => absurd h (Nat.not_lt_zero _), E3, F3⟩
              case round =>
                obtain ⟨j, hj, rfl, hL, G, FF⟩ := hrel
                have HL : Hid (ListP b 3 j) := hL
                clear hL E3 F3
                by_cases lt : (j : Int) < b.h3.n
                · obtain ⟨k1, o1, ex, hx⟩ := G.a.h3.cells (by omega)
                  obtain ⟨u0, u1, u2, u3, u4, u5, u6, u7, u8⟩ := nine G.r
                  have c1 := hx j (by omega)
                  have EX : Hid (b.h3.a = some ⟨k1, o1, none⟩) := ex
                  rw [ex]
                  clear hx ex
                  generalize hv : b.h3.f j = v at c1
                  have HV : Hid (b.h3.f j = v) := hv
                  clear hv
                  go_wp2_with (fail)
                  rw [← EX.out]
                  refine (begins_any b 3 v _ G.a (by omega) n1 (by omega)).mono ?_
                  rintro e w1 ⟨⟨r, rfl, hr⟩, hb⟩
                  have G1 := G.later hb
                  have FF1 := FF.later hb
                  clear hb G FF c1 u0 u1 u2 u3 u4 u5 u6 u7 u8
                  cases r
                  · go_wp2_with (fail)
                    refine bodyPost_ret (v := .tuple #[.slice none 0 0, .bool false]) (by simp [results, Tryd.results56, go_sem]) rfl ⟨.inr ⟨fun g => hr.f ?_, rfl⟩, G1.b⟩
                    have e : BegP b 3 (b.h3.f j) := (g 3 (by omega)).2 j (by show j < b.h3.n; omega)
                    rw [HV.out] at e
                    exact e
                  · have hB : Hid (BegP b 3 v) := hr.t
                    obtain ⟨m, rfl⟩ : ∃ m : Nat, v = m := ⟨v.toNat, by have := hr.t.1; omega⟩
                    have m1 : (m : Int) < b.o.n := hr.t.2.1
                    have tl := TL.out m 3 (by omega)
                    have cl := cnt_le b.h3.f m j
                    have cm := FF1 m (by omega)
                    have FH : Hid (Fk .i64 b.o.n w1 (w.heap.size + 1) (fun u => ((tmK b u 3 + cnt b.h3.f u j : Nat) : Int))) := FF1
                    simp only at cm
                    generalize ht : tmK b m 3 + cnt b.h3.f m j = t at cm
                    have HT : Hid (tmK b m 3 + cnt b.h3.f m j = t) := ht
                    have t1 : t ≤ 1000 := by omega
                    clear hr ht FF1 tl cl
                    go_wp2_with (fail)
                    rw [← EX.out]
                    go_roundw
                    case rel =>
                      refine ⟨j + 1, by omega, by go_num, HL.out.up ?_, G1.set h _ _ (by omega) _, FH.out.set m ((t : Int) + 1) _ ?_ (fun u hu hne => ?_)⟩
                      · show BegP b 3 (b.h3.f j)
                        rw [HV.out]; exact hB.out
                      · simp only [cnt, if_pos HV.out]
                        have := HT.out
                        omega
                      · simp only [cnt]
                        rw [if_neg (by rw [HV.out]; omega)]
                        rfl
                    case measure => simp [intOf]; omega
                · have ej : j = b.h3.n := by omega
                  have P4 : Hid (ListsP b 4) := P3.out.up nk3 (by
                    show ListP b 3 b.h3.n
                    rw [← ej]; exact HL.out)
                  have F4 : Fk .i64 b.o.n wr (w.heap.size + 1) (fun u => (tmK b u 4 : Int)) := FF.congr (fun u _ => by
                    show (((tmK b u 3 + cnt b.h3.f u b.h3.n : Nat)) : Int) = _
                    rw [← ej])
                  have E4 := G
                  clear ej HL FF G P3
                  go_wp2_with (fail)
                  rw [rounds_succ]
                  go_wp2_with (fail)
                  exact bodyPost_ret (v := .tuple #[.slice (some ⟨w.heap.size + 1, 0, none⟩) b.o.n b.o.n, .bool true]) (by simp [results, Tryd.results56, go_sem]) rfl ⟨.inl ⟨P4.out, w.heap.size + 1, by omega, rfl, F4⟩, E4.b⟩

end Go.Proofs.YtbipolfbkemmpaaDoor.Book

/- The links of a book, by the program. -/
import Derived.Test.YtipbijcmpbefpaaLay1
import Derived.Test.YtipbijcmpbefpaaIm3
namespace Go.Proofs.Ytipbijcmpbefpaa.Book
open Go.ChangeShapes Go.WideShapes Go.ChangeAt Go.RowKit
open Go.Proofs.Ytipbijcmpbefpaa.Aid Go.Proofs.Ytipbijcmpbefpaa.Lst
set_option maxRecDepth 100000
set_option linter.unusedVariables false

/- The links, so many of a list having been laid; so many lists. -/
def lk1 (x : Sx) (g : Nat → Int) : Nat → Nat → Int
  | 0 => g
  | i + 1 => upd (lk1 x g i) (x.f i).toNat (nx x (i + 1))
def lkK (b : Bx) : Nat → Nat → Int
  | 0 => fun _ => 0
  | k + 1 => lk1 (b.hd k) (lkK b k) (b.hd k).n
theorem lk1_m (a c : Option Addr) (n q q' : Nat) (f g : Nat → Int) : ∀ i, lk1 ⟨a, n, q, f⟩ g i = lk1 ⟨c, n, q', f⟩ g i
  | 0 => rfl
  | i + 1 => by simp only [lk1]; rw [lk1_m a c n q q' f g i]; rfl

set_option maxHeartbeats 8000000 in
theorem links_any (b : Bx) (w : World) (h : b.At w) (n3 : b.o.n ≤ 48) (hd : ∀ k, k < 4 → (b.hd k).n ≤ b.o.n ∧ ∀ i, i < (b.hd k).n → 0 ≤ (b.hd k).f i ∧ (b.hd k).f i < b.o.n) :
    Calls Try.prog 53 #[.agg b.cells.toArray] w fun e w' => e = .returned (.slice (some ⟨w.heap.size + 1, 0, none⟩) b.o.n b.o.n) ∧ Fk .i64 b.o.n w' (w.heap.size + 1) (lkK b 4) ∧ Below w.heap.size w w' ∧ w.heap.size + 1 < w'.heap.size := by
  have HD : Hid (∀ k, k < 4 → (b.hd k).n ≤ b.o.n ∧ ∀ i, i < (b.hd k).n → 0 ≤ (b.hd k).f i ∧ (b.hd k).f i < b.o.n) := hd
  clear hd
  obtain ⟨ix0, ix1, ix2, ix3⟩ := ix4 b.h0.a b.h1.a b.h2.a b.h3.a b.h0.n b.h0.c b.h1.n b.h1.c b.h2.n b.h2.c b.h3.n b.h3.c
  have E : Ent w b (w.alloc (.cells #[.int .i64 b.s, .slice b.p.a b.p.n b.p.c, .slice b.h0.a b.h0.n b.h0.c, .slice b.h1.a b.h1.n b.h1.c, .slice b.h2.a b.h2.n b.h2.c, .slice b.h3.a b.h3.n b.h3.c, .slice b.o.a b.o.n b.o.c, .slice b.i.a b.i.n b.i.c, .slice b.e.a b.e.n b.e.c] 26)) := Ent.start h 26
  have hmk := fun w => run_make_row' (P := Try.prog) 23 3 (.int .i64 0) 8 Try.underlying23 infoInt rfl .i64 .i64 b.o.n (by omega) (by omega) w
  have f0 := fk_made .i64 (w.alloc (.cells #[.int .i64 b.s, .slice b.p.a b.p.n b.p.c, .slice b.h0.a b.h0.n b.h0.c, .slice b.h1.a b.h1.n b.h1.c, .slice b.h2.a b.h2.n b.h2.c, .slice b.h3.a b.h3.n b.h3.c, .slice b.o.a b.o.n b.o.c, .slice b.i.a b.i.n b.i.c, .slice b.e.a b.e.n b.e.c] 26)) b.o.n 3
  have E0 := E.later (below1 _ (.cells (madeCells #[.int .i64 0] b.o.n) 3))
  have z0 : (w.alloc (.cells #[.int .i64 b.s, .slice b.p.a b.p.n b.p.c, .slice b.h0.a b.h0.n b.h0.c, .slice b.h1.a b.h1.n b.h1.c, .slice b.h2.a b.h2.n b.h2.c, .slice b.h3.a b.h3.n b.h3.c, .slice b.o.a b.o.n b.o.c, .slice b.i.a b.i.n b.i.c, .slice b.e.a b.e.n b.e.c] 26)).heap.size = w.heap.size + 1 := by simp
  have y0 : w.heap.size + 1 < ((w.alloc (.cells #[.int .i64 b.s, .slice b.p.a b.p.n b.p.c, .slice b.h0.a b.h0.n b.h0.c, .slice b.h1.a b.h1.n b.h1.c, .slice b.h2.a b.h2.n b.h2.c, .slice b.h3.a b.h3.n b.h3.c, .slice b.o.a b.o.n b.o.c, .slice b.i.a b.i.n b.i.c, .slice b.e.a b.e.n b.e.c] 26)).alloc (.cells (madeCells #[.int .i64 0] b.o.n) 3)).heap.size := by simp
  rw [z0] at f0
  clear z0 E
  simp only [Bx.cells]
  go_enter Try.func53, Try.ntmps53
  go_wp2_with (fail)
  generalize ((w.alloc (.cells #[.int .i64 b.s, .slice b.p.a b.p.n b.p.c, .slice b.h0.a b.h0.n b.h0.c, .slice b.h1.a b.h1.n b.h1.c, .slice b.h2.a b.h2.n b.h2.c, .slice b.h3.a b.h3.n b.h3.c, .slice b.o.a b.o.n b.o.c, .slice b.i.a b.i.n b.i.c, .slice b.e.a b.e.n b.e.c] 26)).alloc (.cells (madeCells #[.int .i64 0] b.o.n) 3)) = W0 at f0 E0 y0 ⊢
  have F0 : Hid (Fk .i64 b.o.n W0 (w.heap.size + 1) (lkK b 0)) := f0
  clear f0 hmk
  refine wp_loop_rounds 5 ?_
  rw [rounds_succ]
  obtain ⟨u0, u1, u2, u3, u4, u5, u6, u7, u8⟩ := nine E0.r
  go_wp2_with (fail)
  clear u0 u1 u2 u3 u4 u5 u6 u7 u8
  have nk0 : b.h0.n ≤ b.o.n := (HD.out 0 (by omega)).1
  go_loopw [19] (fun i wr => ∃ j : Nat, j ≤ b.h0.n ∧ i = .int .i64 j ∧ Ent w b wr ∧ Fk .i64 b.o.n wr (w.heap.size + 1) (lk1 b.h0 (lkK b 0) j) ∧ w.heap.size + 1 < wr.heap.size) (fun i _ => b.h0.n - (intOf i).toNat)
  case atStart => exact ⟨0, Nat.zero_le _, rfl, E0, F0.out, y0⟩
  case' round =>
  obtain ⟨j, hj, rfl, G, FF, yy⟩ := hrel
  have HF : Hid (Fk .i64 b.o.n wr (w.heap.size + 1) (lk1 b.h0 (lkK b 0) j)) := FF
  clear E0 F0 y0 FF
  by_cases lt : (j : Int) < b.h0.n
  · obtain ⟨k1, o1, ex, hx⟩ := G.a.h0.cells (by omega)
    have c1 := hx j (by omega)
    have EX : Hid (b.h0.a = some ⟨k1, o1, none⟩) := ex
    obtain ⟨v0, v1⟩ := (HD.out 0 (by omega)).2 j (show j < b.h0.n by omega)
    have v0' : 0 ≤ b.h0.f j := v0
    have v1' : b.h0.f j < b.o.n := v1
    obtain ⟨m, hm⟩ := Int.eq_ofNat_of_zero_le v0'
    have HM : Hid (b.h0.f j = m) := hm
    rw [hm] at c1
    have m1 : (m : Int) < b.o.n := by omega
    have mn : m < b.o.n := by omega
    rw [ex]
    clear hx ex v0 v1 v0' v1' hm
    go_wp2_with (fail)
    rw [← EX.out]
    have na := next_any b.h0 (j + 1) wr (G.a b.h0 (by simp [Bx.lists])) (by omega) (fun i hi => by have := (HD.out 0 (by omega)).2 i hi; exact ⟨this.1, by have := this.2; have e : (b.hd 0) = b.h0 := rfl; rw [e] at this; omega⟩)
    push_cast at na
    refine na.mono ?_
    rintro e wr ⟨rfl, rfl⟩
    have cm := HF.out m mn
    clear na c1
    go_wp2_with (fail)
    rw [← EX.out]
    go_roundw
    case rel =>
      refine ⟨j + 1, by omega, by go_num, G.set h _ _ (by omega) _, ?_, by simpa [World.setCell] using yy⟩
      simp only [lk1]
      rw [HM.out]
      exact HF.out.set m _ _ (by simp [upd]) (fun i _ hne => by simp [upd, hne])
    case measure => simp [intOf]; omega
  have ej : j = b.h0.n := by omega
  have nlt : ¬ j < b.h0.n := by omega
  have F1 : Hid (Fk .i64 b.o.n wr (w.heap.size + 1) (lkK b 1)) := by
    unfold Hid
    rw [ej] at HF
    exact HF.out
  have E1 := G
  have y1 := yy
  clear ej HF G lt hj yy
  go_wp2_with (fail)
  clear nlt
  rw [rounds_succ]
  obtain ⟨u0, u1, u2, u3, u4, u5, u6, u7, u8⟩ := nine E1.r
  go_wp2_with (fail)
  clear u0 u1 u2 u3 u4 u5 u6 u7 u8
  have nk1 : b.h1.n ≤ b.o.n := (HD.out 1 (by omega)).1
  go_loopw [19] (fun i wr => ∃ j : Nat, j ≤ b.h1.n ∧ i = .int .i64 j ∧ Ent w b wr ∧ Fk .i64 b.o.n wr (w.heap.size + 1) (lk1 b.h1 (lkK b 1) j) ∧ w.heap.size + 1 < wr.heap.size) (fun i _ => b.h1.n - (intOf i).toNat)
  case atStart => exact ⟨0, Nat.zero_le _, rfl, E1, F1.out, y1⟩
  case' round =>
  obtain ⟨j, hj, rfl, G, FF, yy⟩ := hrel
  have HF : Hid (Fk .i64 b.o.n wr (w.heap.size + 1) (lk1 b.h1 (lkK b 1) j)) := FF
  clear E1 F1 y1 FF
  by_cases lt : (j : Int) < b.h1.n
  · obtain ⟨k1, o1, ex, hx⟩ := G.a.h1.cells (by omega)
    have c1 := hx j (by omega)
    have EX : Hid (b.h1.a = some ⟨k1, o1, none⟩) := ex
    obtain ⟨v0, v1⟩ := (HD.out 1 (by omega)).2 j (show j < b.h1.n by omega)
    have v0' : 0 ≤ b.h1.f j := v0
    have v1' : b.h1.f j < b.o.n := v1
    obtain ⟨m, hm⟩ := Int.eq_ofNat_of_zero_le v0'
    have HM : Hid (b.h1.f j = m) := hm
    rw [hm] at c1
    have m1 : (m : Int) < b.o.n := by omega
    have mn : m < b.o.n := by omega
    rw [ex]
    clear hx ex v0 v1 v0' v1' hm
    go_wp2_with (fail)
    rw [← EX.out]
    have na := next_any b.h1 (j + 1) wr (G.a b.h1 (by simp [Bx.lists])) (by omega) (fun i hi => by have := (HD.out 1 (by omega)).2 i hi; exact ⟨this.1, by have := this.2; have e : (b.hd 1) = b.h1 := rfl; rw [e] at this; omega⟩)
    push_cast at na
    refine na.mono ?_
    rintro e wr ⟨rfl, rfl⟩
    have cm := HF.out m mn
    clear na c1
    go_wp2_with (fail)
    rw [← EX.out]
    go_roundw
    case rel =>
      refine ⟨j + 1, by omega, by go_num, G.set h _ _ (by omega) _, ?_, by simpa [World.setCell] using yy⟩
      simp only [lk1]
      rw [HM.out]
      exact HF.out.set m _ _ (by simp [upd]) (fun i _ hne => by simp [upd, hne])
    case measure => simp [intOf]; omega
  have ej : j = b.h1.n := by omega
  have nlt : ¬ j < b.h1.n := by omega
  have F2 : Hid (Fk .i64 b.o.n wr (w.heap.size + 1) (lkK b 2)) := by
    unfold Hid
    rw [ej] at HF
    exact HF.out
  have E2 := G
  have y2 := yy
  clear ej HF G lt hj yy
  go_wp2_with (fail)
  clear nlt
  rw [rounds_succ]
  obtain ⟨u0, u1, u2, u3, u4, u5, u6, u7, u8⟩ := nine E2.r
  go_wp2_with (fail)
  clear u0 u1 u2 u3 u4 u5 u6 u7 u8
  have nk2 : b.h2.n ≤ b.o.n := (HD.out 2 (by omega)).1
  go_loopw [19] (fun i wr => ∃ j : Nat, j ≤ b.h2.n ∧ i = .int .i64 j ∧ Ent w b wr ∧ Fk .i64 b.o.n wr (w.heap.size + 1) (lk1 b.h2 (lkK b 2) j) ∧ w.heap.size + 1 < wr.heap.size) (fun i _ => b.h2.n - (intOf i).toNat)
  case atStart => exact ⟨0, Nat.zero_le _, rfl, E2, F2.out, y2⟩
  case' round =>
  obtain ⟨j, hj, rfl, G, FF, yy⟩ := hrel
  have HF : Hid (Fk .i64 b.o.n wr (w.heap.size + 1) (lk1 b.h2 (lkK b 2) j)) := FF
  clear E2 F2 y2 FF
  by_cases lt : (j : Int) < b.h2.n
  · obtain ⟨k1, o1, ex, hx⟩ := G.a.h2.cells (by omega)
    have c1 := hx j (by omega)
    have EX : Hid (b.h2.a = some ⟨k1, o1, none⟩) := ex
    obtain ⟨v0, v1⟩ := (HD.out 2 (by omega)).2 j (show j < b.h2.n by omega)
    have v0' : 0 ≤ b.h2.f j := v0
    have v1' : b.h2.f j < b.o.n := v1
    obtain ⟨m, hm⟩ := Int.eq_ofNat_of_zero_le v0'
    have HM : Hid (b.h2.f j = m) := hm
    rw [hm] at c1
    have m1 : (m : Int) < b.o.n := by omega
    have mn : m < b.o.n := by omega
    rw [ex]
    clear hx ex v0 v1 v0' v1' hm
    go_wp2_with (fail)
    rw [← EX.out]
    have na := next_any b.h2 (j + 1) wr (G.a b.h2 (by simp [Bx.lists])) (by omega) (fun i hi => by have := (HD.out 2 (by omega)).2 i hi; exact ⟨this.1, by have := this.2; have e : (b.hd 2) = b.h2 := rfl; rw [e] at this; omega⟩)
    push_cast at na
    refine na.mono ?_
    rintro e wr ⟨rfl, rfl⟩
    have cm := HF.out m mn
    clear na c1
    go_wp2_with (fail)
    rw [← EX.out]
    go_roundw
    case rel =>
      refine ⟨j + 1, by omega, by go_num, G.set h _ _ (by omega) _, ?_, by simpa [World.setCell] using yy⟩
      simp only [lk1]
      rw [HM.out]
      exact HF.out.set m _ _ (by simp [upd]) (fun i _ hne => by simp [upd, hne])
    case measure => simp [intOf]; omega
  have ej : j = b.h2.n := by omega
  have nlt : ¬ j < b.h2.n := by omega
  have F3 : Hid (Fk .i64 b.o.n wr (w.heap.size + 1) (lkK b 3)) := by
    unfold Hid
    rw [ej] at HF
    exact HF.out
  have E3 := G
  have y3 := yy
  clear ej HF G lt hj yy
  go_wp2_with (fail)
  clear nlt
  rw [rounds_succ]
  obtain ⟨u0, u1, u2, u3, u4, u5, u6, u7, u8⟩ := nine E3.r
  go_wp2_with (fail)
  clear u0 u1 u2 u3 u4 u5 u6 u7 u8
  have nk3 : b.h3.n ≤ b.o.n := (HD.out 3 (by omega)).1
  go_loopw [19] (fun i wr => ∃ j : Nat, j ≤ b.h3.n ∧ i = .int .i64 j ∧ Ent w b wr ∧ Fk .i64 b.o.n wr (w.heap.size + 1) (lk1 b.h3 (lkK b 3) j) ∧ w.heap.size + 1 < wr.heap.size) (fun i _ => b.h3.n - (intOf i).toNat)
  case atStart => exact ⟨0, Nat.zero_le _, rfl, E3, F3.out, y3⟩
  case' round =>
  obtain ⟨j, hj, rfl, G, FF, yy⟩ := hrel
  have HF : Hid (Fk .i64 b.o.n wr (w.heap.size + 1) (lk1 b.h3 (lkK b 3) j)) := FF
  clear E3 F3 y3 FF
  by_cases lt : (j : Int) < b.h3.n
  · obtain ⟨k1, o1, ex, hx⟩ := G.a.h3.cells (by omega)
    have c1 := hx j (by omega)
    have EX : Hid (b.h3.a = some ⟨k1, o1, none⟩) := ex
    obtain ⟨v0, v1⟩ := (HD.out 3 (by omega)).2 j (show j < b.h3.n by omega)
    have v0' : 0 ≤ b.h3.f j := v0
    have v1' : b.h3.f j < b.o.n := v1
    obtain ⟨m, hm⟩ := Int.eq_ofNat_of_zero_le v0'
    have HM : Hid (b.h3.f j = m) := hm
    rw [hm] at c1
    have m1 : (m : Int) < b.o.n := by omega
    have mn : m < b.o.n := by omega
    rw [ex]
    clear hx ex v0 v1 v0' v1' hm
    go_wp2_with (fail)
    rw [← EX.out]
    have na := next_any b.h3 (j + 1) wr (G.a b.h3 (by simp [Bx.lists])) (by omega) (fun i hi => by have := (HD.out 3 (by omega)).2 i hi; exact ⟨this.1, by have := this.2; have e : (b.hd 3) = b.h3 := rfl; rw [e] at this; omega⟩)
    push_cast at na
    refine na.mono ?_
    rintro e wr ⟨rfl, rfl⟩
    have cm := HF.out m mn
    clear na c1
    go_wp2_with (fail)
    rw [← EX.out]
    go_roundw
    case rel =>
      refine ⟨j + 1, by omega, by go_num, G.set h _ _ (by omega) _, ?_, by simpa [World.setCell] using yy⟩
      simp only [lk1]
      rw [HM.out]
      exact HF.out.set m _ _ (by simp [upd]) (fun i _ hne => by simp [upd, hne])
    case measure => simp [intOf]; omega
  have ej : j = b.h3.n := by omega
  have nlt : ¬ j < b.h3.n := by omega
  have F4 : Hid (Fk .i64 b.o.n wr (w.heap.size + 1) (lkK b 4)) := by
    unfold Hid
    rw [ej] at HF
    exact HF.out
  have E4 := G
  have y4 := yy
  clear ej HF G lt hj yy
  go_wp2_with (fail)
  clear nlt
  rw [rounds_succ]
  go_wp2_with (fail)
  go_ret
  exact ⟨rfl, F4.out, E4.b, y4⟩

end Go.Proofs.Ytipbijcmpbefpaa.Book

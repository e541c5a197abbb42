import Derived.Test.YtbipolfbkemmpaaDoorM32
import Derived.Test.YtbipolfbkemmpaaDoorM8
import Derived.Laws.CopyOwn

/- A book is copied, by the program. -/
namespace Go.Proofs.YtbipolfbkemmpaaDoor.Book
open Go.ChangeShapes Go.WideShapes Go.ChangeAt Go.RowKit
open Aid Lst
set_option maxRecDepth 100000
set_option linter.unusedVariables false

theorem fk_rowI {w : World} {b n : Nat} {f : Nat → Int} {t : TypeId} {cur : Array Value} (h : w.heap[b]? = some (.cells cur t (0, 0))) (hc : ∀ j, j < n → cur[j]? = some (.int .i64 (f j))) : Fk .i64 n w b f := fun j hj => by
  rw [cell_of_row w b j cur t (0, 0) h, frozen_of_row w b j cur t h]; exact ⟨hc j hj, rfl⟩

set_option maxHeartbeats 1000000 in
theorem list_any (a : Option Addr) (n cap : Nat) (f : Nat → Int) (w : World) (h : Sl .i64 w a n f) (hn : n ≤ 1000000000) :
    Calls Tryd.prog 64 #[.slice a n cap] w fun e w' => e = .returned (.slice (some ⟨w.heap.size, 0, none⟩) n n) ∧ Fk .i64 n w' w.heap.size f ∧ Below w.heap.size w w' ∧ w.heap.size < w'.heap.size := by
  have hmk := fun w => run_make_row' (P := Tryd.prog) 23 3 (.int .i64 0) 8 Tryd.underlying23 infoInt rfl .i64 .i64 n (by omega) (by omega) w
  have hg : (w.alloc (.cells (madeCells #[.int .i64 0] n) 3)).heap[w.heap.size]? = some (.cells (madeCells #[.int .i64 0] n).toList.toArray 3 (0, 0)) := by
    rw [heap1_0]
  have hl : (madeCells #[.int .i64 0] n).toList.length = n := by simp [size_madeCells]
  have hsl := h.later (below1 w (.cells (madeCells #[.int .i64 0] n) 3))
  go_enter Tryd.func64, Tryd.ntmps64
  go_wp2_with (refine wpList_copy_splice rfl _ _ _ _ rfl 3 Tryd.underlying23 (by kernel_rfl) _ _ _ _ _ _ rfl rfl w.heap.size 0 (madeCells #[.int .i64 0] n).toList 3 hg (rowI n f) ?c1 ?c2 ?c3 (rowI_one n f) w.heap.size w (below1 _ _) (Nat.le_refl _) ?_)
  case c1 => rw [rowI_len]; simp
  case c2 =>
    intro hpos
    rw [rowI_len] at hpos
    rcases hsl with h0 | ⟨b, off, rfl, hc⟩
    · omega
    · refine ⟨_, rfl, fun j v hv => ?_⟩
      obtain ⟨hj, rfl⟩ := rowI_lt hv
      rw [Addr.add_mid]; exact hc j hj
  case c3 => rw [rowI_len, hl]; omega
  intro w1 hh hb
  clear hmk
  go_wp2_with (fail)
  go_ret
  refine ⟨rfl, fk_rowI hh.out (fun j hj => ?_), hb, ?_⟩
  · rw [List.getElem?_toArray]; unfold splice
    rw [List.take_zero, List.nil_append, List.getElem?_append_left (by rw [rowI_len]; exact hj)]
    exact rowI_get n f j hj
  · exact Nat.lt_of_not_le fun hle => by
      have := hh.out
      rw [Array.getElem?_eq_none hle] at this
      cases this

theorem list_new (x : Sx) (w : World) (h : x.At w) (hn : x.n ≤ 1000000000) :
    Calls Tryd.prog 64 #[.slice x.a x.n x.c] w fun e w' => ∃ v, e = .returned v ∧ New x.n x.f w v w' :=
  (list_any x.a x.n x.c x.f w h hn).mono fun e w' ⟨he, hf, hb, hz⟩ => ⟨_, he, _, _, rfl, ⟨Nat.le_refl _, fun e => e, fun _ j hj => by have := hf j hj; rw [Nat.zero_add, this.1]; exact ⟨rfl, this.2⟩⟩, fun _ => ⟨rfl, hz, hf⟩, hb⟩

/- How far the copying has come, and what is there. -/
def Gone (w : World) (b : Bx) (l : Array Bool) (a : Act) (w' : World) : Prop := ∃ (ap : Fin 4 → Bool) (y : Fin 4 → Value) (bd al st : Bool) (v20 v3 : Value) (ko : Nat),
  l = #[true, true, true, true, ap 0, true, true, ap 1, true, true, ap 2, true, true, ap 3, bd, al, st] ∧
  a = ⟨#[.agg #[.int .i64 b.s, .slice b.p.a b.p.n b.p.c, .slice b.h0.a b.h0.n b.h0.c, .slice b.h1.a b.h1.n b.h1.c, .slice b.h2.a b.h2.n b.h2.c, .slice b.h3.a b.h3.n b.h3.c, .slice b.o.a b.o.n b.o.c, .slice b.i.a b.i.n b.i.c, .slice b.e.a b.e.n b.e.c], .pointer (some ⟨w.heap.size, 0, none⟩), .pointer (some ⟨w.heap.size + 1, 0, none⟩), v3, undef, undef, .pointer (some ⟨w.heap.size, 0, none⟩), .int .i64 b.s, .pointer (some ⟨w.heap.size, 1, none⟩), .slice b.p.a b.p.n b.p.c, y 0, .pointer (some ⟨w.heap.size, 6, none⟩), .slice b.o.a b.o.n b.o.c, y 1, .pointer (some ⟨w.heap.size, 7, none⟩), .slice b.i.a b.i.n b.i.c, y 2, .pointer (some ⟨w.heap.size, 8, none⟩), .slice b.e.a b.e.n b.e.c, y 3, v20, undef, undef, undef, undef, undef, undef, undef, undef, undef, undef, undef, undef, undef], []⟩ ∧ CO w b w' ∧ Cs (w.heap.size + 2) (four b) (fun _ => false) ap (fun _ => undef) y ko w' ∧ w.heap.size ≤ ko ∧ ko < w'.heap.size ∧
  (bd = true → (∀ j, ap j = true) ∧ v20 = .agg #[.int .i64 b.s, y 0, .slice none 0 0, .slice none 0 0, .slice none 0 0, .slice none 0 0, y 1, y 2, y 3]) ∧ (st = true → bd = true ∧ al = true) ∧
  (al = true → v3 = .pointer (some ⟨ko, 0, none⟩) ∧ w.heap.size + 2 ≤ ko ∧ (st = true → Ck w' ko [.int .i64 b.s, y 0, .slice none 0 0, .slice none 0 0, .slice none 0 0, .slice none 0 0, y 1, y 2, y 3]) ∧ (st = false → Ck w' ko [.int .i64 0, .slice none 0 0, .slice none 0 0, .slice none 0 0, .slice none 0 0, .slice none 0 0, .slice none 0 0, .slice none 0 0, .slice none 0 0]))

set_option maxHeartbeats 40000000 in
theorem copy_cap (b : Bx) (w : World) (h : b.At w) (hn0 : b.total ≤ 1000000000) (hnil : ∀ x ∈ b.lists, x.a = none → x.n = 0) :
    Calls Tryd.prog 41 #[.agg b.cells.toArray] w fun e w' => ∃ c : Bx, e = .returned (.agg c.cells.toArray) ∧ c.m = b.m ∧ c.Own w.heap.size w'.heap.size w' ∧ Below w.heap.size w w' ∧ c.Cap w' := by
  have S0 : CO w b ((w.alloc (.cells #[.int .i64 b.s, .slice b.p.a b.p.n b.p.c, .slice b.h0.a b.h0.n b.h0.c, .slice b.h1.a b.h1.n b.h1.c, .slice b.h2.a b.h2.n b.h2.c, .slice b.h3.a b.h3.n b.h3.c, .slice b.o.a b.o.n b.o.c, .slice b.i.a b.i.n b.i.c, .slice b.e.a b.e.n b.e.c] 26)).alloc (.cells #[.int .i64 0, .slice none 0 0, .slice none 0 0, .slice none 0 0, .slice none 0 0, .slice none 0 0, .slice none 0 0, .slice none 0 0, .slice none 0 0] 26)) := ⟨(Ent.start h 26).later (below1 _ _), ck_lit #[.int .i64 0, .slice none 0 0, .slice none 0 0, .slice none 0 0, .slice none 0 0, .slice none 0 0, .slice none 0 0, .slice none 0 0, .slice none 0 0] (heap2_1 w _ _), by simp⟩
  simp only [Bx.cells]
  go_enter Tryd.func41, Tryd.ntmps41
  go_wp2_with (fail)
  generalize (w.alloc (.cells #[.int .i64 b.s, .slice b.p.a b.p.n b.p.c, .slice b.h0.a b.h0.n b.h0.c, .slice b.h1.a b.h1.n b.h1.c, .slice b.h2.a b.h2.n b.h2.c, .slice b.h3.a b.h3.n b.h3.c, .slice b.o.a b.o.n b.o.c, .slice b.i.a b.i.n b.i.c, .slice b.e.a b.e.n b.e.c] 26)).alloc (.cells #[.int .i64 0, .slice none 0 0, .slice none 0 0, .slice none 0 0, .slice none 0 0, .slice none 0 0, .slice none 0 0, .slice none 0 0, .slice none 0 0] 26) = W at S0 ⊢
  refine wp_region_held_drew (S := CO w b) (by kernel_rfl) S0.drew (fun hS => ?_)
  refine tI 0 (v := .pointer (some ⟨w.heap.size, 0, none⟩)) (d := some 6) rfl rfl (fun w' hw => ?_) (by assumption) ?_
  · go_simp
  simp only [Act.put, s1, s2, s3]
  refine tI 1 (v := .int .i64 b.s) (d := some 7) rfl rfl (fun w' hw => ?_) (by assumption) ?_
  · have q := hw.e.r 0 _ rfl; simp only [Nat.zero_add] at q; go_simp
  simp only [Act.put, s1, s2, s3]
  refine tI 2 (v := .pointer (some ⟨w.heap.size, 1, none⟩)) (d := some 8) rfl rfl (fun w' hw => ?_) (by assumption) ?_
  · go_simp
  simp only [Act.put, s1, s2, s3]
  refine tI 3 (v := .slice b.p.a b.p.n b.p.c) (d := some 9) rfl rfl (fun w' hw => ?_) (by assumption) ?_
  · have q := hw.e.r 1 _ rfl; simp only [Nat.zero_add] at q; go_simp
  simp only [Act.put, s1, s2, s3]
  refine tI 5 (v := .pointer (some ⟨w.heap.size, 6, none⟩)) (d := some 11) rfl rfl (fun w' hw => ?_) (by assumption) ?_
  · go_simp
  simp only [Act.put, s1, s2, s3]
  refine tI 6 (v := .slice b.o.a b.o.n b.o.c) (d := some 12) rfl rfl (fun w' hw => ?_) (by assumption) ?_
  · have q := hw.e.r 6 _ rfl; simp only [Nat.zero_add] at q; go_simp
  simp only [Act.put, s1, s2, s3]
  refine tI 8 (v := .pointer (some ⟨w.heap.size, 7, none⟩)) (d := some 14) rfl rfl (fun w' hw => ?_) (by assumption) ?_
  · go_simp
  simp only [Act.put, s1, s2, s3]
  refine tI 9 (v := .slice b.i.a b.i.n b.i.c) (d := some 15) rfl rfl (fun w' hw => ?_) (by assumption) ?_
  · have q := hw.e.r 7 _ rfl; simp only [Nat.zero_add] at q; go_simp
  simp only [Act.put, s1, s2, s3]
  refine tI 11 (v := .pointer (some ⟨w.heap.size, 8, none⟩)) (d := some 17) rfl rfl (fun w' hw => ?_) (by assumption) ?_
  · go_simp
  simp only [Act.put, s1, s2, s3]
  refine tI 12 (v := .slice b.e.a b.e.n b.e.c) (d := some 18) rfl rfl (fun w' hw => ?_) (by assumption) ?_
  · have q := hw.e.r 8 _ rfl; simp only [Nat.zero_add] at q; go_simp
  simp only [Act.put, s1, s2, s3]
  refine wpAnyH_inv (Gone w b) (fun l a w' hI => by obtain ⟨ap, y, bd, al, st, v20, v3, ko, -, -, hc, -⟩ := hI; exact hc) ?hd ?hs _ _ _ _ (by decide) ?h0
  case h0 =>
    refine ⟨fun _ => false, fun _ => undef, false, false, false, undef, undef, w.heap.size, by rfl, rfl, hS, Cs.start _ _ _ _ _ _, Nat.le_refl _, by have := hS.z; omega, fun h => Bool.noConfusion h, fun h => Bool.noConfusion h, fun h => Bool.noConfusion h⟩
  case hs =>
    clear hS S0
    rintro l a w' i ⟨ap, y, bd, al, st, v20, v3, ko, rfl, rfl, hc, cs, hk0, hk, hbd, hst, hal⟩ hi
    obtain ⟨hu, o, ho, hall⟩ := mem_ready.1 hi
    have hlt : i < 17 := by
      have := (Array.getElem?_eq_some_iff.1 ho).1
      simpa using this
    have hz := hc.z
    have cases17 : i = 0 ∨ i = 1 ∨ i = 2 ∨ i = 3 ∨ i = 4 ∨ i = 5 ∨ i = 6 ∨ i = 7 ∨ i = 8 ∨ i = 9 ∨ i = 10 ∨ i = 11 ∨ i = 12 ∨ i = 13 ∨ i = 14 ∨ i = 15 ∨ i = 16 := by omega
    clear hlt hi
    rcases cases17 with rfl | rfl | rfl | rfl | rfl | rfl | rfl | rfl | rfl | rfl | rfl | rfl | rfl | rfl | rfl | rfl | rfl
    · simp at hu
    · simp at hu
    · simp at hu
    · simp at hu
    · have ha : ap 0 = false := by simpa using hu
      have nb : ¬ bd = true := fun h => by rw [(hbd h).1 0] at ha; cases ha
      have ns : ¬ st = true := fun h => nb (hst h).1
      have hA := four_at hc.e.a 0
      refine wpOp_step rfl (fun K hK => ?_)
      have HK : Shut (∀ a w, _ → K a w) := hK
      have HC : Hid (CO w b w') := hc
      have HS : Hid (Cs _ _ _ _ _ _ _ _) := cs
      have HA : Hid (_ → _) := hal
      have HB : Hid ((four b 0).At w') := hA
      clear hK hu ho hall hbd hst hc cs hal hA
      go_simp
      refine (list_new b.p w' HB.out (by unfold Bx.total at hn0; omega)).mono ?_
      rintro e w2 ⟨v', rfl, hq⟩
      obtain ⟨cs', hb⟩ := HS.out.app (v := v') (w1 := w2) 0 hz hk hq
      have CS : Hid (Cs _ _ _ _ _ _ _ _) := cs'
      have HQ : Hid (Below w'.heap.size w' w2) := hb
      clear cs' hb hq
      go_simp
      refine HK.out _ _ ⟨up ap 0 true, up y 0 v', bd, al, st, v20, v3, ko, rfl, rfl, HC.out.later HQ.out, CS.out, hk0, Nat.lt_of_lt_of_le hk HQ.out.size, fun h => absurd h nb, fun h => absurd h ns, fun h => ⟨(HA.out h).1, (HA.out h).2.1, fun g => absurd g ns, fun g => ((HA.out h).2.2.2 g).below HQ.out hk⟩⟩
    · simp at hu
    · simp at hu
    · have ha : ap 1 = false := by simpa using hu
      have nb : ¬ bd = true := fun h => by rw [(hbd h).1 1] at ha; cases ha
      have ns : ¬ st = true := fun h => nb (hst h).1
      have hA := four_at hc.e.a 1
      refine wpOp_step rfl (fun K hK => ?_)
      have HK : Shut (∀ a w, _ → K a w) := hK
      have HC : Hid (CO w b w') := hc
      have HS : Hid (Cs _ _ _ _ _ _ _ _) := cs
      have HA : Hid (_ → _) := hal
      have HB : Hid ((four b 1).At w') := hA
      clear hK hu ho hall hbd hst hc cs hal hA
      go_simp
      refine (list_new b.o w' HB.out (by unfold Bx.total at hn0; omega)).mono ?_
      rintro e w2 ⟨v', rfl, hq⟩
      obtain ⟨cs', hb⟩ := HS.out.app (v := v') (w1 := w2) 1 hz hk hq
      have CS : Hid (Cs _ _ _ _ _ _ _ _) := cs'
      have HQ : Hid (Below w'.heap.size w' w2) := hb
      clear cs' hb hq
      go_simp
      refine HK.out _ _ ⟨up ap 1 true, up y 1 v', bd, al, st, v20, v3, ko, rfl, rfl, HC.out.later HQ.out, CS.out, hk0, Nat.lt_of_lt_of_le hk HQ.out.size, fun h => absurd h nb, fun h => absurd h ns, fun h => ⟨(HA.out h).1, (HA.out h).2.1, fun g => absurd g ns, fun g => ((HA.out h).2.2.2 g).below HQ.out hk⟩⟩
    · simp at hu
    · simp at hu
    · have ha : ap 2 = false := by simpa using hu
      have nb : ¬ bd = true := fun h => by rw [(hbd h).1 2] at ha; cases ha
      have ns : ¬ st = true := fun h => nb (hst h).1
      have hA := four_at hc.e.a 2
      refine wpOp_step rfl (fun K hK => ?_)
      have HK : Shut (∀ a w, _ → K a w) := hK
      have HC : Hid (CO w b w') := hc
      have HS : Hid (Cs _ _ _ _ _ _ _ _) := cs
      have HA : Hid (_ → _) := hal
      have HB : Hid ((four b 2).At w') := hA
      clear hK hu ho hall hbd hst hc cs hal hA
      go_simp
      refine (list_new b.i w' HB.out (by unfold Bx.total at hn0; omega)).mono ?_
      rintro e w2 ⟨v', rfl, hq⟩
      obtain ⟨cs', hb⟩ := HS.out.app (v := v') (w1 := w2) 2 hz hk hq
      have CS : Hid (Cs _ _ _ _ _ _ _ _) := cs'
      have HQ : Hid (Below w'.heap.size w' w2) := hb
      clear cs' hb hq
      go_simp
      refine HK.out _ _ ⟨up ap 2 true, up y 2 v', bd, al, st, v20, v3, ko, rfl, rfl, HC.out.later HQ.out, CS.out, hk0, Nat.lt_of_lt_of_le hk HQ.out.size, fun h => absurd h nb, fun h => absurd h ns, fun h => ⟨(HA.out h).1, (HA.out h).2.1, fun g => absurd g ns, fun g => ((HA.out h).2.2.2 g).below HQ.out hk⟩⟩
    · simp at hu
    · simp at hu
    · have ha : ap 3 = false := by simpa using hu
      have nb : ¬ bd = true := fun h => by rw [(hbd h).1 3] at ha; cases ha
      have ns : ¬ st = true := fun h => nb (hst h).1
      have hA := four_at hc.e.a 3
      refine wpOp_step rfl (fun K hK => ?_)
      have HK : Shut (∀ a w, _ → K a w) := hK
      have HC : Hid (CO w b w') := hc
      have HS : Hid (Cs _ _ _ _ _ _ _ _) := cs
      have HA : Hid (_ → _) := hal
      have HB : Hid ((four b 3).At w') := hA
      clear hK hu ho hall hbd hst hc cs hal hA
      go_simp
      refine (list_new b.e w' HB.out (by unfold Bx.total at hn0; omega)).mono ?_
      rintro e w2 ⟨v', rfl, hq⟩
      obtain ⟨cs', hb⟩ := HS.out.app (v := v') (w1 := w2) 3 hz hk hq
      have CS : Hid (Cs _ _ _ _ _ _ _ _) := cs'
      have HQ : Hid (Below w'.heap.size w' w2) := hb
      clear cs' hb hq
      go_simp
      refine HK.out _ _ ⟨up ap 3 true, up y 3 v', bd, al, st, v20, v3, ko, rfl, rfl, HC.out.later HQ.out, CS.out, hk0, Nat.lt_of_lt_of_le hk HQ.out.size, fun h => absurd h nb, fun h => absurd h ns, fun h => ⟨(HA.out h).1, (HA.out h).2.1, fun g => absurd g ns, fun g => ((HA.out h).2.2.2 g).below HQ.out hk⟩⟩
    · have e18 : ∀ j, ap j = true := by
        simp only [List.getElem?_toArray] at ho
        injection ho with ho
        subst ho
        have g0 : ap 0 = true := by simpa using hall ⟨4, .data⟩ (by simp) rfl
        have g1 : ap 1 = true := by simpa using hall ⟨7, .data⟩ (by simp) rfl
        have g2 : ap 2 = true := by simpa using hall ⟨10, .data⟩ (by simp) rfl
        have g3 : ap 3 = true := by simpa using hall ⟨13, .data⟩ (by simp) rfl
        intro j
        match j with
        | 0 => exact g0
        | 1 => exact g1
        | 2 => exact g2
        | 3 => exact g3
      have ns : ¬ st = true := fun h => by
        have hb := (hst h).1
        have : bd = false := by simpa using hu
        rw [hb] at this; cases this
      obtain ⟨g0, m0, c0, s0⟩ := (cs.ys 0 (e18 0)).shape
      obtain ⟨g1, m1, c1, s1⟩ := (cs.ys 1 (e18 1)).shape
      obtain ⟨g2, m2, c2, s2⟩ := (cs.ys 2 (e18 2)).shape
      obtain ⟨g3, m3, c3, s3⟩ := (cs.ys 3 (e18 3)).shape
      refine wpOp_step rfl (fun K hK => ?_)
      have HK : Shut (∀ a w, _ → K a w) := hK
      have EV : Hid (∀ j, ap j = true) := e18
      clear hK hu ho hall e18
      have GO : Hid (K ⟨#[.agg #[.int .i64 b.s, .slice b.p.a b.p.n b.p.c, .slice b.h0.a b.h0.n b.h0.c, .slice b.h1.a b.h1.n b.h1.c, .slice b.h2.a b.h2.n b.h2.c, .slice b.h3.a b.h3.n b.h3.c, .slice b.o.a b.o.n b.o.c, .slice b.i.a b.i.n b.i.c, .slice b.e.a b.e.n b.e.c], .pointer (some ⟨w.heap.size, 0, none⟩), .pointer (some ⟨w.heap.size + 1, 0, none⟩), v3, undef, undef, .pointer (some ⟨w.heap.size, 0, none⟩), .int .i64 b.s, .pointer (some ⟨w.heap.size, 1, none⟩), .slice b.p.a b.p.n b.p.c, y 0, .pointer (some ⟨w.heap.size, 6, none⟩), .slice b.o.a b.o.n b.o.c, y 1, .pointer (some ⟨w.heap.size, 7, none⟩), .slice b.i.a b.i.n b.i.c, y 2, .pointer (some ⟨w.heap.size, 8, none⟩), .slice b.e.a b.e.n b.e.c, y 3, .agg #[.int .i64 b.s, y 0, .slice none 0 0, .slice none 0 0, .slice none 0 0, .slice none 0 0, y 1, y 2, y 3], undef, undef, undef, undef, undef, undef, undef, undef, undef, undef, undef, undef, undef], []⟩ w') := HK.out _ _ ⟨ap, y, true, al, st, _, v3, ko, rfl, rfl, hc, cs, hk0, hk, fun _ => ⟨EV.out, rfl⟩, fun h => absurd h ns, hal⟩
      clear HK
      unfold Hid at GO
      rw [s0, s1, s2, s3] at GO ⊢
      have GO' : Hid (K _ _) := GO
      clear GO s0 s1 s2 s3
      go_simp
      exact GO'.out
    · have ha : al = false := by simpa using hu
      have ns : ¬ st = true := fun h => by rw [(hst h).2] at ha; cases ha
      refine wpOp_step rfl (fun K hK => ?_)
      have HK : Shut (∀ a w, _ → K a w) := hK
      clear hK hu ho hall
      go_simp
      refine HK.out _ _ ⟨ap, y, bd, true, st, v20, _, w'.heap.size, rfl, rfl, hc.later (below1 _ _), ⟨cs.xs, fun j hj => (cs.ys j hj).later (below1 _ _), cs.d, fun j hj hp => ?_⟩, by omega, by simp, hbd, fun h => absurd h ns, fun _ => ⟨rfl, hz, fun h => absurd h ns, fun _ => ck_lit #[.int .i64 0, .slice none 0 0, .slice none 0 0, .slice none 0 0, .slice none 0 0, .slice none 0 0, .slice none 0 0, .slice none 0 0, .slice none 0 0] (heap1_0 _ _)⟩⟩
      obtain ⟨c, _, _, _, h4, _⟩ := (cs.ys j hj).p hp
      omega
    · have hu' : st = false := by simpa using hu
      have gb : bd = true := by
        simp only [List.getElem?_toArray] at ho
        injection ho with ho
        subst ho
        simpa using hall ⟨14, .data⟩ (by simp) rfl
      have ga : al = true := by
        simp only [List.getElem?_toArray] at ho
        injection ho with ho
        subst ho
        simpa using hall ⟨15, .data⟩ (by simp) rfl
      obtain ⟨e18, rfl⟩ := hbd gb
      obtain ⟨rfl, hk2, -, hck⟩ := hal ga
      have ck := hck hu'
      obtain ⟨ck', oy⟩ := put9 ck (.int .i64 b.s) (y 0) (.slice none 0 0) (.slice none 0 0) (.slice none 0 0) (.slice none 0 0) (y 1) (y 2) (y 3)
      have zk := oy.size
      obtain ⟨g0, m0, c0, s0⟩ := (cs.ys 0 (e18 0)).shape
      obtain ⟨g1, m1, c1, s1⟩ := (cs.ys 1 (e18 1)).shape
      obtain ⟨g2, m2, c2, s2⟩ := (cs.ys 2 (e18 2)).shape
      obtain ⟨g3, m3, c3, s3⟩ := (cs.ys 3 (e18 3)).shape
      refine wpOp_step rfl (fun K hK => ?_)
      have HK : Shut (∀ a w, _ → K a w) := hK
      clear hK hu ho hall
      have GO : Hid (K _ _) := HK.out _ _ ⟨ap, y, true, true, true, _, _, ko, by rw [gb, ga]; rfl, rfl, hc.only h oy hk2, ⟨cs.xs, fun j hj => (cs.ys j hj).only oy (cs.o j hj), cs.d, cs.o⟩, hk0, by omega, fun _ => ⟨e18, rfl⟩, fun _ => ⟨rfl, rfl⟩, fun _ => ⟨rfl, hk2, fun _ => ck', fun h => Bool.noConfusion h⟩⟩
      clear HK
      unfold Hid at GO
      rw [s0, s1, s2, s3] at GO ⊢
      have GO' : Hid (K _ _) := GO
      have p0 := ck 0 _ rfl
      have p1 := ck 1 _ rfl
      have p2 := ck 2 _ rfl
      have p3 := ck 3 _ rfl
      have p4 := ck 4 _ rfl
      have p5 := ck 5 _ rfl
      have p6 := ck 6 _ rfl
      have p7 := ck 7 _ rfl
      have p8 := ck 8 _ rfl
      clear GO s0 s1 s2 s3 ck' oy ck hck hbd hal hst
      go_simp
      exact GO'.out
  case hd =>
    clear hS S0
    rintro l a w' ⟨ap, y, bd, al, st, v20, v3, ko, rfl, rfl, hc, cs, hk0, hk, hbd, hst, hal⟩ hr
    have no : ∀ i, i ∈ Region.ready _ _ _ → False := fun i hi => by rw [hr] at hi; cases hi
    have g15 : al = true := by
      cases e : al
      · refine (no 15 (mem_ready.2 ⟨by simp [e], _, rfl, fun d hd _ => ?_⟩)).elim
        simp at hd
        try (rcases hd with hd)
        all_goals (subst hd; simp [*])
      · rfl
    have g4 : ap 0 = true := by
      cases e : ap 0
      · refine (no 4 (mem_ready.2 ⟨by simp [e], _, rfl, fun d hd _ => ?_⟩)).elim
        simp at hd
        try (rcases hd with hd)
        all_goals (subst hd; simp [*])
      · rfl
    have g7 : ap 1 = true := by
      cases e : ap 1
      · refine (no 7 (mem_ready.2 ⟨by simp [e], _, rfl, fun d hd _ => ?_⟩)).elim
        simp at hd
        try (rcases hd with hd | hd)
        all_goals (subst hd; simp [*])
      · rfl
    have g10 : ap 2 = true := by
      cases e : ap 2
      · refine (no 10 (mem_ready.2 ⟨by simp [e], _, rfl, fun d hd _ => ?_⟩)).elim
        simp at hd
        try (rcases hd with hd | hd)
        all_goals (subst hd; simp [*])
      · rfl
    have g13 : ap 3 = true := by
      cases e : ap 3
      · refine (no 13 (mem_ready.2 ⟨by simp [e], _, rfl, fun d hd _ => ?_⟩)).elim
        simp at hd
        try (rcases hd with hd | hd)
        all_goals (subst hd; simp [*])
      · rfl
    have g14 : bd = true := by
      cases e : bd
      · refine (no 14 (mem_ready.2 ⟨by simp [e], _, rfl, fun d hd _ => ?_⟩)).elim
        simp at hd
        try (rcases hd with hd | hd | hd | hd | hd)
        all_goals (subst hd; simp [*])
      · rfl
    have g16 : st = true := by
      cases e : st
      · refine (no 16 (mem_ready.2 ⟨by simp [e], _, rfl, fun d hd _ => ?_⟩)).elim
        simp at hd
        try (rcases hd with hd | hd | hd | hd | hd | hd | hd | hd | hd | hd | hd | hd | hd | hd | hd | hd | hd | hd | hd)
        all_goals (subst hd; simp [*])
      · rfl
    obtain ⟨e18, rfl⟩ := hbd g14
    obtain ⟨rfl, hk2, hck, -⟩ := hal g15
    have ck := hck g16
    clear no hr hbd hal hst hck
    obtain ⟨c0, s0, q0⟩ := (cs.ys 0 (e18 0)).got
    replace q0 : Got (w.heap.size + 2) b.p (blk (y 0)) c0 w' := q0
    have o0 : Hid (0 < b.p.n → blk (y 0) ≠ ko) := cs.o 0 (e18 0)
    obtain ⟨c1, s1, q1⟩ := (cs.ys 1 (e18 1)).got
    replace q1 : Got (w.heap.size + 2) b.o (blk (y 1)) c1 w' := q1
    have o1 : Hid (0 < b.o.n → blk (y 1) ≠ ko) := cs.o 1 (e18 1)
    obtain ⟨c2, s2, q2⟩ := (cs.ys 2 (e18 2)).got
    replace q2 : Got (w.heap.size + 2) b.i (blk (y 2)) c2 w' := q2
    have o2 : Hid (0 < b.i.n → blk (y 2) ≠ ko) := cs.o 2 (e18 2)
    obtain ⟨c3, s3, q3⟩ := (cs.ys 3 (e18 3)).got
    replace q3 : Got (w.heap.size + 2) b.e (blk (y 3)) c3 w' := q3
    have o3 : Hid (0 < b.e.n → blk (y 3) ≠ ko) := cs.o 3 (e18 3)
    have d01 : Hid (0 < b.p.n → 0 < b.o.n → blk (y 0) ≠ blk (y 1)) := cs.d 0 1 (by decide) (e18 0) (e18 1)
    have d02 : Hid (0 < b.p.n → 0 < b.i.n → blk (y 0) ≠ blk (y 2)) := cs.d 0 2 (by decide) (e18 0) (e18 2)
    have d03 : Hid (0 < b.p.n → 0 < b.e.n → blk (y 0) ≠ blk (y 3)) := cs.d 0 3 (by decide) (e18 0) (e18 3)
    have d12 : Hid (0 < b.o.n → 0 < b.i.n → blk (y 1) ≠ blk (y 2)) := cs.d 1 2 (by decide) (e18 1) (e18 2)
    have d13 : Hid (0 < b.o.n → 0 < b.e.n → blk (y 1) ≠ blk (y 3)) := cs.d 1 3 (by decide) (e18 1) (e18 3)
    have d23 : Hid (0 < b.i.n → 0 < b.e.n → blk (y 2) ≠ blk (y 3)) := cs.d 2 3 (by decide) (e18 2) (e18 3)
    replace s0 : y 0 = .slice (some ⟨blk (y 0), 0, none⟩) b.p.n c0 := s0
    replace s1 : y 1 = .slice (some ⟨blk (y 1), 0, none⟩) b.o.n c1 := s1
    replace s2 : y 2 = .slice (some ⟨blk (y 2), 0, none⟩) b.i.n c2 := s2
    replace s3 : y 3 = .slice (some ⟨blk (y 3), 0, none⟩) b.e.n c3 := s3
    generalize y 0 = y0, y 1 = y1, y 2 = y2, y 3 = y3 at *
    clear cs e18 g15 g4 g7 g10 g13 g14 g16
    generalize blk y0 = k0 at *
    subst s0
    generalize blk y1 = k1 at *
    subst s1
    generalize blk y2 = k2 at *
    subst s2
    generalize blk y3 = k3 at *
    subst s3
    clear hk0
    have hko : ko < w'.heap.size := hk
    have l0 : Hid (0 < b.p.n → k0 < w'.heap.size) := fun h => (q0.p h).2.1
    have l1 : Hid (0 < b.o.n → k1 < w'.heap.size) := fun h => (q1.p h).2.1
    have l2 : Hid (0 < b.i.n → k2 < w'.heap.size) := fun h => (q2.p h).2.1
    have l3 : Hid (0 < b.e.n → k3 < w'.heap.size) := fun h => (q3.p h).2.1
    have hA := h
    clear h
    obtain ⟨ix0, ix1, ix2, ix3⟩ := ix4 b.h0.a b.h1.a b.h2.a b.h3.a b.h0.n b.h0.c b.h1.n b.h1.c b.h2.n b.h2.c b.h3.n b.h3.c
    obtain ⟨u0, u1, u2, u3, u4, u5, u6, u7, u8⟩ := nine hc.e.r
    have HC : Hid (Ck w' ko _) := ck
    have HO : Hid (CO w b w') := hc
    clear ck hc
    go_wp2_with (fail)
    have ck := HC.out
    have hc := HO.out
    clear HC HO u0 u1 u2 u3 u4 u5 u6 u7 u8
    refine wp_loop_rounds 5 ?_
    rw [rounds_succ]
    have HC : Hid (Ck w' ko [.int .i64 b.s, .slice (some ⟨k0, 0, none⟩) b.p.n c0, .slice none 0 0, .slice none 0 0, .slice none 0 0, .slice none 0 0, .slice (some ⟨k1, 0, none⟩) b.o.n c1, .slice (some ⟨k2, 0, none⟩) b.i.n c2, .slice (some ⟨k3, 0, none⟩) b.e.n c3]) := ck
    have HO : Hid (CO w b w') := hc
    have z0 := hc.z
    clear ck hc
    go_wp2_with (fail)
    refine (list_new b.h0 w' (HO.out.e.a b.h0 (by simp [Bx.lists])) (by unfold Bx.total at hn0; omega)).mono ?_
    rintro e w0a ⟨v', rfl, hq⟩
    obtain ⟨h0, e0, rfl, hc0, hp0, hB⟩ := hq
    have zs0 : w'.heap.size ≤ w0a.heap.size := hB.size
    have zn0 : Hid (0 < b.h0.n → h0 = w'.heap.size ∧ h0 < w0a.heap.size) := fun h => ⟨(hp0 h).1, (hp0 h).2.1⟩
    have qh0 : Got (w.heap.size + 2) b.h0 h0 e0 w0a := ⟨hc0, fun h => ⟨by have := (zn0.out h).1; omega, (hp0 h).2.1, (hp0 h).2.2⟩⟩
    have ck := HC.out.below hB hk
    have hc := HO.out.later hB
    have hk' : ko < w0a.heap.size := Nat.lt_of_lt_of_le hk hB.size
    replace hk := hk'
    clear hk' hp0 HC HO
    replace q0 := q0.later hB
    replace q1 := q1.later hB
    replace q2 := q2.later hB
    replace q3 := q3.later hB
    clear hB
    have pk := ck 2 _ rfl
    have HC : Hid (Ck w0a ko _) := ck
    have HO : Hid (CO w b w0a) := hc
    clear ck hc
    go_wp2_with (fail)
    have oy : Only ko (ko + 1) w0a (w0a.setCell ⟨ko, 2, none⟩ (.slice (some ⟨h0, 0, none⟩) b.h0.n e0)) := (Only.refl _ _ _).setCell ko 2 (Nat.le_refl _) (by omega) _
    have ck := HC.out.set 2 (.slice (some ⟨h0, 0, none⟩) b.h0.n e0)
    have hc := HO.out.only hA oy hk2
    have hk' : ko < (w0a.setCell ⟨ko, 2, none⟩ (.slice (some ⟨h0, 0, none⟩) b.h0.n e0)).heap.size := Nat.lt_of_lt_of_le hk oy.size
    have zz0 : w0a.heap.size ≤ (w0a.setCell ⟨ko, 2, none⟩ (.slice (some ⟨h0, 0, none⟩) b.h0.n e0)).heap.size := oy.size
    have kh0 : Hid (0 < b.h0.n → h0 ≠ ko) := fun h => by have := (zn0.out h).1; omega
    replace q0 := q0.only oy o0.out
    replace q1 := q1.only oy o1.out
    replace q2 := q2.only oy o2.out
    replace q3 := q3.only oy o3.out
    replace qh0 := qh0.only oy kh0.out
    clear oy pk HC HO
    generalize w0a.setCell ⟨ko, 2, none⟩ (.slice (some ⟨h0, 0, none⟩) b.h0.n e0) = v0 at *
    replace hk := hk'
    clear hk'
    rw [rounds_succ]
    have HC : Hid (Ck v0 ko [.int .i64 b.s, .slice (some ⟨k0, 0, none⟩) b.p.n c0, .slice (some ⟨h0, 0, none⟩) b.h0.n e0, .slice none 0 0, .slice none 0 0, .slice none 0 0, .slice (some ⟨k1, 0, none⟩) b.o.n c1, .slice (some ⟨k2, 0, none⟩) b.i.n c2, .slice (some ⟨k3, 0, none⟩) b.e.n c3]) := ck
    have HO : Hid (CO w b v0) := hc
    have z1 := hc.z
    clear ck hc
    go_wp2_with (fail)
    refine (list_new b.h1 v0 (HO.out.e.a b.h1 (by simp [Bx.lists])) (by unfold Bx.total at hn0; omega)).mono ?_
    rintro e w1a ⟨v', rfl, hq⟩
    obtain ⟨h1, e1, rfl, hc1, hp1, hB⟩ := hq
    have zs1 : v0.heap.size ≤ w1a.heap.size := hB.size
    have zn1 : Hid (0 < b.h1.n → h1 = v0.heap.size ∧ h1 < w1a.heap.size) := fun h => ⟨(hp1 h).1, (hp1 h).2.1⟩
    have qh1 : Got (w.heap.size + 2) b.h1 h1 e1 w1a := ⟨hc1, fun h => ⟨by have := (zn1.out h).1; omega, (hp1 h).2.1, (hp1 h).2.2⟩⟩
    have ck := HC.out.below hB hk
    have hc := HO.out.later hB
    have hk' : ko < w1a.heap.size := Nat.lt_of_lt_of_le hk hB.size
    replace hk := hk'
    clear hk' hp1 HC HO
    replace q0 := q0.later hB
    replace q1 := q1.later hB
    replace q2 := q2.later hB
    replace q3 := q3.later hB
    replace qh0 := qh0.later hB
    clear hB
    have pk := ck 3 _ rfl
    have HC : Hid (Ck w1a ko _) := ck
    have HO : Hid (CO w b w1a) := hc
    clear ck hc
    go_wp2_with (fail)
    have oy : Only ko (ko + 1) w1a (w1a.setCell ⟨ko, 3, none⟩ (.slice (some ⟨h1, 0, none⟩) b.h1.n e1)) := (Only.refl _ _ _).setCell ko 3 (Nat.le_refl _) (by omega) _
    have ck := HC.out.set 3 (.slice (some ⟨h1, 0, none⟩) b.h1.n e1)
    have hc := HO.out.only hA oy hk2
    have hk' : ko < (w1a.setCell ⟨ko, 3, none⟩ (.slice (some ⟨h1, 0, none⟩) b.h1.n e1)).heap.size := Nat.lt_of_lt_of_le hk oy.size
    have zz1 : w1a.heap.size ≤ (w1a.setCell ⟨ko, 3, none⟩ (.slice (some ⟨h1, 0, none⟩) b.h1.n e1)).heap.size := oy.size
    have kh1 : Hid (0 < b.h1.n → h1 ≠ ko) := fun h => by have := (zn1.out h).1; omega
    replace q0 := q0.only oy o0.out
    replace q1 := q1.only oy o1.out
    replace q2 := q2.only oy o2.out
    replace q3 := q3.only oy o3.out
    replace qh0 := qh0.only oy kh0.out
    replace qh1 := qh1.only oy kh1.out
    clear oy pk HC HO
    generalize w1a.setCell ⟨ko, 3, none⟩ (.slice (some ⟨h1, 0, none⟩) b.h1.n e1) = v1 at *
    replace hk := hk'
    clear hk'
    rw [rounds_succ]
    have HC : Hid (Ck v1 ko [.int .i64 b.s, .slice (some ⟨k0, 0, none⟩) b.p.n c0, .slice (some ⟨h0, 0, none⟩) b.h0.n e0, .slice (some ⟨h1, 0, none⟩) b.h1.n e1, .slice none 0 0, .slice none 0 0, .slice (some ⟨k1, 0, none⟩) b.o.n c1, .slice (some ⟨k2, 0, none⟩) b.i.n c2, .slice (some ⟨k3, 0, none⟩) b.e.n c3]) := ck
    have HO : Hid (CO w b v1) := hc
    have z2 := hc.z
    clear ck hc
    go_wp2_with (fail)
    refine (list_new b.h2 v1 (HO.out.e.a b.h2 (by simp [Bx.lists])) (by unfold Bx.total at hn0; omega)).mono ?_
    rintro e w2a ⟨v', rfl, hq⟩
    obtain ⟨h2, e2, rfl, hc2, hp2, hB⟩ := hq
    have zs2 : v1.heap.size ≤ w2a.heap.size := hB.size
    have zn2 : Hid (0 < b.h2.n → h2 = v1.heap.size ∧ h2 < w2a.heap.size) := fun h => ⟨(hp2 h).1, (hp2 h).2.1⟩
    have qh2 : Got (w.heap.size + 2) b.h2 h2 e2 w2a := ⟨hc2, fun h => ⟨by have := (zn2.out h).1; omega, (hp2 h).2.1, (hp2 h).2.2⟩⟩
    have ck := HC.out.below hB hk
    have hc := HO.out.later hB
    have hk' : ko < w2a.heap.size := Nat.lt_of_lt_of_le hk hB.size
    replace hk := hk'
    clear hk' hp2 HC HO
    replace q0 := q0.later hB
    replace q1 := q1.later hB
    replace q2 := q2.later hB
    replace q3 := q3.later hB
    replace qh0 := qh0.later hB
    replace qh1 := qh1.later hB
    clear hB
    have pk := ck 4 _ rfl
    have HC : Hid (Ck w2a ko _) := ck
    have HO : Hid (CO w b w2a) := hc
    clear ck hc
    go_wp2_with (fail)
    have oy : Only ko (ko + 1) w2a (w2a.setCell ⟨ko, 4, none⟩ (.slice (some ⟨h2, 0, none⟩) b.h2.n e2)) := (Only.refl _ _ _).setCell ko 4 (Nat.le_refl _) (by omega) _
    have ck := HC.out.set 4 (.slice (some ⟨h2, 0, none⟩) b.h2.n e2)
    have hc := HO.out.only hA oy hk2
    have hk' : ko < (w2a.setCell ⟨ko, 4, none⟩ (.slice (some ⟨h2, 0, none⟩) b.h2.n e2)).heap.size := Nat.lt_of_lt_of_le hk oy.size
    have zz2 : w2a.heap.size ≤ (w2a.setCell ⟨ko, 4, none⟩ (.slice (some ⟨h2, 0, none⟩) b.h2.n e2)).heap.size := oy.size
    have kh2 : Hid (0 < b.h2.n → h2 ≠ ko) := fun h => by have := (zn2.out h).1; omega
    replace q0 := q0.only oy o0.out
    replace q1 := q1.only oy o1.out
    replace q2 := q2.only oy o2.out
    replace q3 := q3.only oy o3.out
    replace qh0 := qh0.only oy kh0.out
    replace qh1 := qh1.only oy kh1.out
    replace qh2 := qh2.only oy kh2.out
    clear oy pk HC HO
    generalize w2a.setCell ⟨ko, 4, none⟩ (.slice (some ⟨h2, 0, none⟩) b.h2.n e2) = v2 at *
    replace hk := hk'
    clear hk'
    rw [rounds_succ]
    have HC : Hid (Ck v2 ko [.int .i64 b.s, .slice (some ⟨k0, 0, none⟩) b.p.n c0, .slice (some ⟨h0, 0, none⟩) b.h0.n e0, .slice (some ⟨h1, 0, none⟩) b.h1.n e1, .slice (some ⟨h2, 0, none⟩) b.h2.n e2, .slice none 0 0, .slice (some ⟨k1, 0, none⟩) b.o.n c1, .slice (some ⟨k2, 0, none⟩) b.i.n c2, .slice (some ⟨k3, 0, none⟩) b.e.n c3]) := ck
    have HO : Hid (CO w b v2) := hc
    have z3 := hc.z
    clear ck hc
    go_wp2_with (fail)
    refine (list_new b.h3 v2 (HO.out.e.a b.h3 (by simp [Bx.lists])) (by unfold Bx.total at hn0; omega)).mono ?_
    rintro e w3a ⟨v', rfl, hq⟩
    obtain ⟨h3, e3, rfl, hc3, hp3, hB⟩ := hq
    have zs3 : v2.heap.size ≤ w3a.heap.size := hB.size
    have zn3 : Hid (0 < b.h3.n → h3 = v2.heap.size ∧ h3 < w3a.heap.size) := fun h => ⟨(hp3 h).1, (hp3 h).2.1⟩
    have qh3 : Got (w.heap.size + 2) b.h3 h3 e3 w3a := ⟨hc3, fun h => ⟨by have := (zn3.out h).1; omega, (hp3 h).2.1, (hp3 h).2.2⟩⟩
    have ck := HC.out.below hB hk
    have hc := HO.out.later hB
    have hk' : ko < w3a.heap.size := Nat.lt_of_lt_of_le hk hB.size
    replace hk := hk'
    clear hk' hp3 HC HO
    replace q0 := q0.later hB
    replace q1 := q1.later hB
    replace q2 := q2.later hB
    replace q3 := q3.later hB
    replace qh0 := qh0.later hB
    replace qh1 := qh1.later hB
    replace qh2 := qh2.later hB
    clear hB
    have pk := ck 5 _ rfl
    have HC : Hid (Ck w3a ko _) := ck
    have HO : Hid (CO w b w3a) := hc
    clear ck hc
    go_wp2_with (fail)
    have oy : Only ko (ko + 1) w3a (w3a.setCell ⟨ko, 5, none⟩ (.slice (some ⟨h3, 0, none⟩) b.h3.n e3)) := (Only.refl _ _ _).setCell ko 5 (Nat.le_refl _) (by omega) _
    have ck := HC.out.set 5 (.slice (some ⟨h3, 0, none⟩) b.h3.n e3)
    have hc := HO.out.only hA oy hk2
    have hk' : ko < (w3a.setCell ⟨ko, 5, none⟩ (.slice (some ⟨h3, 0, none⟩) b.h3.n e3)).heap.size := Nat.lt_of_lt_of_le hk oy.size
    have zz3 : w3a.heap.size ≤ (w3a.setCell ⟨ko, 5, none⟩ (.slice (some ⟨h3, 0, none⟩) b.h3.n e3)).heap.size := oy.size
    have kh3 : Hid (0 < b.h3.n → h3 ≠ ko) := fun h => by have := (zn3.out h).1; omega
    replace q0 := q0.only oy o0.out
    replace q1 := q1.only oy o1.out
    replace q2 := q2.only oy o2.out
    replace q3 := q3.only oy o3.out
    replace qh0 := qh0.only oy kh0.out
    replace qh1 := qh1.only oy kh1.out
    replace qh2 := qh2.only oy kh2.out
    replace qh3 := qh3.only oy kh3.out
    clear oy pk HC HO
    generalize w3a.setCell ⟨ko, 5, none⟩ (.slice (some ⟨h3, 0, none⟩) b.h3.n e3) = v3 at *
    replace hk := hk'
    clear hk'
    rw [rounds_succ]
    have pk0 := ck 0 _ rfl
    have pk1 := ck 1 _ rfl
    have pk2 := ck 2 _ rfl
    have pk3 := ck 3 _ rfl
    have pk4 := ck 4 _ rfl
    have pk5 := ck 5 _ rfl
    have pk6 := ck 6 _ rfl
    have pk7 := ck 7 _ rfl
    have pk8 := ck 8 _ rfl
    have tk0 := hc.t 0 _ rfl
    have tk1 := hc.t 1 _ rfl
    have tk2 := hc.t 2 _ rfl
    have tk3 := hc.t 3 _ rfl
    have tk4 := hc.t 4 _ rfl
    have tk5 := hc.t 5 _ rfl
    have tk6 := hc.t 6 _ rfl
    have tk7 := hc.t 7 _ rfl
    have tk8 := hc.t 8 _ rfl
    obtain ⟨ck', oy⟩ := put9 hc.t (.int .i64 b.s) (.slice (some ⟨k0, 0, none⟩) b.p.n c0) (.slice (some ⟨h0, 0, none⟩) b.h0.n e0) (.slice (some ⟨h1, 0, none⟩) b.h1.n e1) (.slice (some ⟨h2, 0, none⟩) b.h2.n e2) (.slice (some ⟨h3, 0, none⟩) b.h3.n e3) (.slice (some ⟨k1, 0, none⟩) b.o.n c1) (.slice (some ⟨k2, 0, none⟩) b.i.n c2) (.slice (some ⟨k3, 0, none⟩) b.e.n c3)
    have CK : Hid (Ck _ _ _) := ck'
    have OY : Hid (Only _ _ _ _) := oy
    have HO : Hid (CO w b v3) := hc
    clear ck' oy hc ix0 ix1 ix2 ix3
    go_wp2_with (fail)
    have zl := OY.out.size
    have z0 := HO.out.z
    have r0 := q0.only OY.out (fun h => by have := (q0.p h).1; omega)
    have r1 := q1.only OY.out (fun h => by have := (q1.p h).1; omega)
    have r2 := q2.only OY.out (fun h => by have := (q2.p h).1; omega)
    have r3 := q3.only OY.out (fun h => by have := (q3.p h).1; omega)
    have rh0 := qh0.only OY.out (fun h => by have := (qh0.p h).1; omega)
    have rh1 := qh1.only OY.out (fun h => by have := (qh1.p h).1; omega)
    have rh2 := qh2.only OY.out (fun h => by have := (qh2.p h).1; omega)
    have rh3 := qh3.only OY.out (fun h => by have := (qh3.p h).1; omega)
    refine bodyPost_ret (results_cell_mid rfl _ _ (w.heap.size + 1) 0 _ _ rfl CK.out.range Tryd.underlying26 rfl (by kernel_rfl)) rfl ⟨⟨b.s, ⟨some ⟨k0, 0, none⟩, b.p.n, c0, b.p.f⟩, ⟨some ⟨h0, 0, none⟩, b.h0.n, e0, b.h0.f⟩, ⟨some ⟨h1, 0, none⟩, b.h1.n, e1, b.h1.f⟩, ⟨some ⟨h2, 0, none⟩, b.h2.n, e2, b.h2.f⟩, ⟨some ⟨h3, 0, none⟩, b.h3.n, e3, b.h3.f⟩, ⟨some ⟨k1, 0, none⟩, b.o.n, c1, b.o.f⟩, ⟨some ⟨k2, 0, none⟩, b.i.n, c2, b.i.f⟩, ⟨some ⟨k3, 0, none⟩, b.e.n, c3, b.e.f⟩⟩, rfl, rfl, ⟨?_, ?_, ?_⟩, HO.out.e.b.trans (OY.out.below (by omega) |>.mono (by omega)), ?_⟩
    · simp only [Bx.lists, List.forall_mem_cons, List.not_mem_nil, false_implies, implies_true, and_true]
      have lo : w.heap.size ≤ w.heap.size + 2 := by omega
      exact ⟨(r0.own (Nat.le_refl _)).low lo, (rh0.own (Nat.le_refl _)).low lo, (rh1.own (Nat.le_refl _)).low lo, (rh2.own (Nat.le_refl _)).low lo, (rh3.own (Nat.le_refl _)).low lo, (r1.own (Nat.le_refl _)).low lo, (r2.own (Nat.le_refl _)).low lo, (r3.own (Nat.le_refl _)).low lo⟩
    · simp only [Bx.lists, List.pairwise_cons, List.forall_mem_cons, List.not_mem_nil, false_implies, implies_true, and_true, List.Pairwise.nil]
      clear CK OY HO r0 r1 r2 r3 rh0 rh1 rh2 rh3 q0 q1 q2 q3 qh0 qh1 qh2 qh3 ck
      refine ⟨⟨?_, ?_, ?_, ?_, ?_, ?_, ?_⟩, ⟨?_, ?_, ?_, ?_, ?_, ?_⟩, ⟨?_, ?_, ?_, ?_, ?_⟩, ⟨?_, ?_, ?_, ?_⟩, ⟨?_, ?_, ?_⟩, ⟨?_, ?_⟩, ?_⟩
      · exact apart_got (fun h h' => by have e1 := l0.out h; have e2 := zn0.out h'; omega)
      · exact apart_got (fun h h' => by have e1 := l0.out h; have e2 := zn1.out h'; omega)
      · exact apart_got (fun h h' => by have e1 := l0.out h; have e2 := zn2.out h'; omega)
      · exact apart_got (fun h h' => by have e1 := l0.out h; have e2 := zn3.out h'; omega)
      · exact apart_got (fun h h' => d01.out h h')
      · exact apart_got (fun h h' => d02.out h h')
      · exact apart_got (fun h h' => d03.out h h')
      · exact apart_got (fun h h' => by have e1 := zn0.out h; have e2 := zn1.out h'; omega)
      · exact apart_got (fun h h' => by have e1 := zn0.out h; have e2 := zn2.out h'; omega)
      · exact apart_got (fun h h' => by have e1 := zn0.out h; have e2 := zn3.out h'; omega)
      · exact apart_got (fun h h' => by have e1 := zn0.out h; have e2 := l1.out h'; omega)
      · exact apart_got (fun h h' => by have e1 := zn0.out h; have e2 := l2.out h'; omega)
      · exact apart_got (fun h h' => by have e1 := zn0.out h; have e2 := l3.out h'; omega)
      · exact apart_got (fun h h' => by have e1 := zn1.out h; have e2 := zn2.out h'; omega)
      · exact apart_got (fun h h' => by have e1 := zn1.out h; have e2 := zn3.out h'; omega)
      · exact apart_got (fun h h' => by have e1 := zn1.out h; have e2 := l1.out h'; omega)
      · exact apart_got (fun h h' => by have e1 := zn1.out h; have e2 := l2.out h'; omega)
      · exact apart_got (fun h h' => by have e1 := zn1.out h; have e2 := l3.out h'; omega)
      · exact apart_got (fun h h' => by have e1 := zn2.out h; have e2 := zn3.out h'; omega)
      · exact apart_got (fun h h' => by have e1 := zn2.out h; have e2 := l1.out h'; omega)
      · exact apart_got (fun h h' => by have e1 := zn2.out h; have e2 := l2.out h'; omega)
      · exact apart_got (fun h h' => by have e1 := zn2.out h; have e2 := l3.out h'; omega)
      · exact apart_got (fun h h' => by have e1 := zn3.out h; have e2 := l1.out h'; omega)
      · exact apart_got (fun h h' => by have e1 := zn3.out h; have e2 := l2.out h'; omega)
      · exact apart_got (fun h h' => by have e1 := zn3.out h; have e2 := l3.out h'; omega)
      · exact apart_got (fun h h' => d12.out h h')
      · exact apart_got (fun h h' => d13.out h h')
      · exact apart_got (fun h h' => d23.out h h')
    · simp only [Bx.lists, List.forall_mem_cons, List.not_mem_nil, false_implies, implies_true, and_true]
      exact ⟨r0.c.1, rh0.c.1, rh1.c.1, rh2.c.1, rh3.c.1, r1.c.1, r2.c.1, r3.c.1⟩
    · simp only [Bx.Cap, Bx.lists, List.forall_mem_cons, List.not_mem_nil, false_implies, implies_true, and_true]
      exact ⟨r0.cap, rh0.cap, rh1.cap, rh2.cap, rh3.cap, r1.cap, r2.cap, r3.cap⟩

theorem copy_any (b : Bx) (w : World) (h : b.At w) (hn0 : b.total ≤ 1000000000) (hnil : ∀ x ∈ b.lists, x.a = none → x.n = 0) :
    Calls Tryd.prog 41 #[.agg b.cells.toArray] w fun e w' => ∃ c : Bx, e = .returned (.agg c.cells.toArray) ∧ c.m = b.m ∧ c.Own w.heap.size w'.heap.size w' ∧ Below w.heap.size w w' := by
  refine (copy_cap b w h hn0 hnil).mono ?_
  rintro e w' ⟨c, h1, h2, h3, h4, _⟩
  exact ⟨c, h1, h2, h3, h4⟩

end Go.Proofs.YtbipolfbkemmpaaDoor.Book

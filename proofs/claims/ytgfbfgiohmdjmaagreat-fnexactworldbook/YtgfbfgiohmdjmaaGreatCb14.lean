/- The book that words stand for, by the specification. Conditions: at most 1,000,000,000 words, each of 64 bits. -/
import Derived.Test.YtgfbfgiohmdjmaaGreatCb13
namespace Go.Proofs.YtgfbfgiohmdjmaaGreat.Book
open Go.ChangeShapes Go.WideShapes Go.ChangeAt Go.RowKit
open Aid Lst Words
open Plat (okB okB_of getF W64 Hs HsQ hs_one)
set_option maxRecDepth 100000
set_option linter.unusedVariables false

/- What it rests on: where the answer will lie, the house, the book, the values, the words. -/
structure Ks (w0 : World) (S P : Nat) (l : Int) (cb bb vk H : Nat) (a : Option Addr) (n : Nat) (f : Nat → Int) (x : Bx) (F : Nat → Int) (w : World) : Prop where
  t : Ck w w0.heap.size Z9
  c : w.rangeAt cb 0 (ints [(S : Int), (P : Int), l])
  d : Ck w bb x.cells
  k : Fk .i64 H w vk F
  s : Sl .u64 w a n f
  o : x.Own (w0.heap.size + 1) bb w
  b : Below w0.heap.size w0 w
  z : w0.heap.size < cb ∧ cb < bb ∧ bb < w.heap.size
theorem Ks.later {w0 w w1 : World} {S P : Nat} {l : Int} {cb bb vk H : Nat} {a : Option Addr} {n : Nat} {f : Nat → Int} {c : Bx} {F : Nat → Int} (h : Ks w0 S P l cb bb vk H a n f c F w) (hb : Below w.heap.size w w1) : Ks w0 S P l cb bb vk H a n f c F w1 :=
  have := h.z
  ⟨h.t.below hb (by omega), range_below hb h.c (by omega), h.d.below hb (by omega), h.k.later hb, h.s.later hb, h.o.later hb, h.b.trans (hb.mono h.b.size), by have := hb.size; omega⟩
theorem Ks.drew {w0 w : World} {S P : Nat} {l : Int} {cb bb vk H : Nat} {a : Option Addr} {n : Nat} {f : Nat → Int} {c : Bx} {F : Nat → Int} (h : Ks w0 S P l cb bb vk H a n f c F w) : Ks w0 S P l cb bb vk H a n f c F w.drew := ⟨h.t, h.c, h.d, h.k, h.s, h.o.drew, ⟨h.b.os, h.b.tape, h.b.output, h.b.size, h.b.block⟩, h.z⟩

/- The answer: a book of its own, and whether it is one. -/
def CbA (n : Nat) (f : Nat → Int) (w w' : World) (e : Ending) : Prop := ∃ (c : Bx) (r : Bool), e = .returned (.tuple #[.agg c.cells.toArray, .bool r]) ∧ CbQ n f c r ∧ c.Own w.heap.size w'.heap.size w' ∧ Below w.heap.size w w'
theorem CbA.mk {n : Nat} {f : Nat → Int} {w w' : World} {e : Ending} (c : Bx) (r : Bool) (he : e = .returned (.tuple #[.agg c.cells.toArray, .bool r])) (hq : CbQ n f c r) (ho : c.Own w.heap.size w'.heap.size w') (hb : Below w.heap.size w w') : CbA n f w w' e := ⟨c, r, he, hq, ho, hb⟩

set_option maxHeartbeats 16000000 in
theorem scbook_any (a : Option Addr) (n cap : Nat) (f : Nat → Int) (w : World) (h : Sl .u64 w a n f) (hn : n ≤ 1000000000) (hw : W64 f) :
    Calls Tryz.prog 34 #[.slice a n cap] w fun e w' => CbA n f w w' e := by
  have HSL : Hid (Sl .u64 w a n f) := h
  have HW : Hid (W64 f) := hw
  have T0 : Hid (Ck (w.alloc (.cells #[.int .i64 0, .slice none 0 0, .slice none 0 0, .slice none 0 0, .slice none 0 0, .slice none 0 0, .slice none 0 0, .slice none 0 0, .slice none 0 0] 30)) w.heap.size Z9) := ck_lit #[.int .i64 0, .slice none 0 0, .slice none 0 0, .slice none 0 0, .slice none 0 0, .slice none 0 0, .slice none 0 0, .slice none 0 0, .slice none 0 0] (heap1_0 w _)
  have B0 : Hid (Below w.heap.size w (w.alloc (.cells #[.int .i64 0, .slice none 0 0, .slice none 0 0, .slice none 0 0, .slice none 0 0, .slice none 0 0, .slice none 0 0, .slice none 0 0, .slice none 0 0] 30))) := below1 _ _
  have z0 : w.heap.size < (w.alloc (.cells #[.int .i64 0, .slice none 0 0, .slice none 0 0, .slice none 0 0, .slice none 0 0, .slice none 0 0, .slice none 0 0, .slice none 0 0, .slice none 0 0] 30)).heap.size := by simp
  clear h hw
  go_enter Tryz.func34, Tryz.ntmps34
  go_wp2_with (fail)
  generalize w.alloc (.cells #[.int .i64 0, .slice none 0 0, .slice none 0 0, .slice none 0 0, .slice none 0 0, .slice none 0 0, .slice none 0 0, .slice none 0 0, .slice none 0 0] 30) = W0 at T0 B0 z0 ⊢
  refine (Plat.swhole_any a n cap f W0 (HSL.out.later B0.out) (fun j _ => HW.out j)).mono ?_
  rintro e W1 ⟨hq, hb⟩
  have T1 : Hid (Ck W1 w.heap.size Z9) := T0.out.below hb z0
  have B1 : Hid (Below w.heap.size w W1) := B0.out.trans (hb.mono B0.out.size)
  have z1 : w.heap.size < W1.heap.size := Nat.lt_of_lt_of_le z0 hb.size
  clear hb T0 B0 z0
  rcases hq with ⟨S, P, l, hs, rfl⟩ | ⟨hno, rfl⟩
  case inr =>
    have NO : Hid (∀ d, ¬ CbP n f d) := fun d ⟨S, P, l, g, _⟩ => hno S P l g
    clear hno
    obtain ⟨w9, e9, ck9, ow9, be9⟩ := ans0 T1.out B1.out z1 (none_own W1.heap.size W1.heap.size _) z1 (Nat.le_refl _)
    simp only [noneB] at e9
    have tk0 := T1.out 0 _ rfl
    have tk1 := T1.out 1 _ rfl
    have tk2 := T1.out 2 _ rfl
    have tk3 := T1.out 3 _ rfl
    have tk4 := T1.out 4 _ rfl
    have tk5 := T1.out 5 _ rfl
    have tk6 := T1.out 6 _ rfl
    have tk7 := T1.out 7 _ rfl
    have tk8 := T1.out 8 _ rfl
    have HE : Hid (w9 = _) := e9
    clear e9
    go_wp2_with (fail)
    rw [← HE.out]
    have bb := below1 w9 (.cells #[.int .i64 0, .int .i64 0, .int .i64 0] 62)
    have lt9 : w.heap.size < w9.heap.size := ck9.lt
    exact bodyPost_ret (Plat.results_cell_tmp_mid rfl _ _ w.heap.size 0 _ _ rfl (ck9.below bb lt9).range Tryz.underlying30 rfl (by kernel_rfl)) rfl (CbA.mk noneB false rfl (.inr ⟨rfl, rfl, NO.out⟩) ((ow9.later bb).mono (Nat.le_refl _) bb.size) (be9.trans (bb.mono be9.size)))
  have HHS : Hid (Hs n f S P l) := hs
  obtain ⟨-, -, ok, -, -, -, hsz⟩ := hs
  have OKB : Hid (okB S P l = true) := ok
  obtain ⟨k1, k2, k3, k4, k5, k6⟩ := okB_of ok
  have hN : 3 + S + S + 4 + P + P * 8 + P * 8 ≤ n := by omega
  clear hsz ok
  go_wp2_with (fail)
  have b2 := below1 W1 (.cells #[.int .i64 S, .int .i64 P, .int .i64 l] 62)
  have C2 : Hid ((W1.alloc (.cells #[.int .i64 S, .int .i64 P, .int .i64 l] 62)).rangeAt W1.heap.size 0 (ints [(S : Int), (P : Int), l])) := range_lit (ints [(S : Int), (P : Int), l]).toArray (heap1_0 _ _)
  have T2 : Hid (Ck (W1.alloc (.cells #[.int .i64 S, .int .i64 P, .int .i64 l] 62)) w.heap.size Z9) := T1.out.below b2 z1
  have B2 : Hid (Below w.heap.size w (W1.alloc (.cells #[.int .i64 S, .int .i64 P, .int .i64 l] 62))) := B1.out.trans (b2.mono (by omega))
  have z2 : W1.heap.size < (W1.alloc (.cells #[.int .i64 S, .int .i64 P, .int .i64 l] 62)).heap.size := by simp
  clear b2 T1 B1
  generalize W1.alloc (.cells #[.int .i64 S, .int .i64 P, .int .i64 l] 62) = W2 at C2 T2 B2 z2 ⊢
  refine (sread_any S P l a n cap f W2 (HSL.out.later B2.out) hn HW.out OKB.out hN).mono ?_
  rintro e W3 ⟨c, rfl, rm, co, hb⟩
  have z3 := hb.size
  simp only [Bx.cells]
  have b4 := below1 W3 (.cells #[.int .i64 c.s, .slice c.p.a c.p.n c.p.c, .slice c.h0.a c.h0.n c.h0.c, .slice c.h1.a c.h1.n c.h1.c, .slice c.h2.a c.h2.n c.h2.c, .slice c.h3.a c.h3.n c.h3.c, .slice c.o.a c.o.n c.o.c, .slice c.i.a c.i.n c.i.c, .slice c.e.a c.e.n c.e.c] 30)
  have T4 : Hid (Ck (W3.alloc (.cells #[.int .i64 c.s, .slice c.p.a c.p.n c.p.c, .slice c.h0.a c.h0.n c.h0.c, .slice c.h1.a c.h1.n c.h1.c, .slice c.h2.a c.h2.n c.h2.c, .slice c.h3.a c.h3.n c.h3.c, .slice c.o.a c.o.n c.o.c, .slice c.i.a c.i.n c.i.c, .slice c.e.a c.e.n c.e.c] 30)) w.heap.size Z9) := (T2.out.below hb (by omega)).below b4 (by omega)
  have C4 : Hid ((W3.alloc (.cells #[.int .i64 c.s, .slice c.p.a c.p.n c.p.c, .slice c.h0.a c.h0.n c.h0.c, .slice c.h1.a c.h1.n c.h1.c, .slice c.h2.a c.h2.n c.h2.c, .slice c.h3.a c.h3.n c.h3.c, .slice c.o.a c.o.n c.o.c, .slice c.i.a c.i.n c.i.c, .slice c.e.a c.e.n c.e.c] 30)).rangeAt W1.heap.size 0 (ints [(S : Int), (P : Int), l])) := range_below b4 (range_below hb C2.out (by omega)) (by omega)
  have D4 : Hid (Ck (W3.alloc (.cells #[.int .i64 c.s, .slice c.p.a c.p.n c.p.c, .slice c.h0.a c.h0.n c.h0.c, .slice c.h1.a c.h1.n c.h1.c, .slice c.h2.a c.h2.n c.h2.c, .slice c.h3.a c.h3.n c.h3.c, .slice c.o.a c.o.n c.o.c, .slice c.i.a c.i.n c.i.c, .slice c.e.a c.e.n c.e.c] 30)) W3.heap.size c.cells) := ck_lit #[.int .i64 c.s, .slice c.p.a c.p.n c.p.c, .slice c.h0.a c.h0.n c.h0.c, .slice c.h1.a c.h1.n c.h1.c, .slice c.h2.a c.h2.n c.h2.c, .slice c.h3.a c.h3.n c.h3.c, .slice c.o.a c.o.n c.o.c, .slice c.i.a c.i.n c.i.c, .slice c.e.a c.e.n c.e.c] (heap1_0 W3 _)
  have O4 : Hid (c.Own (w.heap.size + 1) W3.heap.size (W3.alloc (.cells #[.int .i64 c.s, .slice c.p.a c.p.n c.p.c, .slice c.h0.a c.h0.n c.h0.c, .slice c.h1.a c.h1.n c.h1.c, .slice c.h2.a c.h2.n c.h2.c, .slice c.h3.a c.h3.n c.h3.c, .slice c.o.a c.o.n c.o.c, .slice c.i.a c.i.n c.i.c, .slice c.e.a c.e.n c.e.c] 30))) := (co.mono (by omega) (Nat.le_refl _)).later b4
  have B4 : Hid (Below w.heap.size w (W3.alloc (.cells #[.int .i64 c.s, .slice c.p.a c.p.n c.p.c, .slice c.h0.a c.h0.n c.h0.c, .slice c.h1.a c.h1.n c.h1.c, .slice c.h2.a c.h2.n c.h2.c, .slice c.h3.a c.h3.n c.h3.c, .slice c.o.a c.o.n c.o.c, .slice c.i.a c.i.n c.i.c, .slice c.e.a c.e.n c.e.c] 30))) := (B2.out.trans (hb.mono (by omega))).trans (b4.mono (by omega))
  have z4 : W3.heap.size < (W3.alloc (.cells #[.int .i64 c.s, .slice c.p.a c.p.n c.p.c, .slice c.h0.a c.h0.n c.h0.c, .slice c.h1.a c.h1.n c.h1.c, .slice c.h2.a c.h2.n c.h2.c, .slice c.h3.a c.h3.n c.h3.c, .slice c.o.a c.o.n c.o.c, .slice c.i.a c.i.n c.i.c, .slice c.e.a c.e.n c.e.c] 30)).heap.size := by simp
  have RM : Hid (RdM f S P c.m) := rm
  have tot := rd_total rm (by omega) (by omega)
  clear T2 B2 C2 hb co rm b4
  obtain ⟨cb, hcb⟩ : ∃ cb, cb = W1.heap.size := ⟨_, rfl⟩
  go_wp2_with (fail)
  rw [← hcb] at C4 z2 z1 ⊢
  clear hcb
  generalize W3.alloc (.cells #[.int .i64 c.s, .slice c.p.a c.p.n c.p.c, .slice c.h0.a c.h0.n c.h0.c, .slice c.h1.a c.h1.n c.h1.c, .slice c.h2.a c.h2.n c.h2.c, .slice c.h3.a c.h3.n c.h3.c, .slice c.o.a c.o.n c.o.c, .slice c.i.a c.i.n c.i.c, .slice c.e.a c.e.n c.e.c] 30) = W4 at T4 C4 D4 O4 B4 z4 ⊢
  obtain ⟨bb, hbb⟩ : ∃ bb, bb = W3.heap.size := ⟨_, rfl⟩
  rw [← hbb] at D4 O4 z4 z3 ⊢
  clear hbb
  refine (sok_any c W4 O4.out.at (by omega) (rd_wf RM.out)).mono ?_
  rintro e W5 ⟨⟨r, rfl, hr⟩, hb⟩
  have T5 := T4.out.below hb (by omega)
  have C5 := range_below hb C4.out (by omega)
  have D5 := D4.out.below hb z4
  have O5 : Hid (c.Own (w.heap.size + 1) bb W5) := O4.out.later hb
  have B5 : Hid (Below w.heap.size w W5) := B4.out.trans (hb.mono (by omega))
  have z5 := hb.size
  clear hb T4 C4 D4 O4 B4
  cases r
  · have NO : Hid (∀ d, ¬ CbP n f d) := fun d ⟨S2, P2, l2, g1, g2, g3, g4⟩ => by
      obtain ⟨rfl, rfl, rfl⟩ := hs_one HHS.out g1
      exact hr.f ((ok_m (rdm_one g2 RM.out)).1 g3)
    obtain ⟨w9, e9, ck9, ow9, be9⟩ := ans0 T5 B5.out (by omega) (none_own W5.heap.size W5.heap.size _) (by omega) (Nat.le_refl _)
    simp only [noneB] at e9
    have tk0 := T5 0 _ rfl
    have tk1 := T5 1 _ rfl
    have tk2 := T5 2 _ rfl
    have tk3 := T5 3 _ rfl
    have tk4 := T5 4 _ rfl
    have tk5 := T5 5 _ rfl
    have tk6 := T5 6 _ rfl
    have tk7 := T5 7 _ rfl
    have tk8 := T5 8 _ rfl
    have HE : Hid (w9 = _) := e9
    clear e9 hr T5 C5 D5
    go_wp2_with (fail)
    rw [← HE.out]
    exact bodyPost_ret (Plat.results_cell_tmp_mid rfl _ _ w.heap.size 0 _ _ rfl ck9.range Tryz.underlying30 rfl (by kernel_rfl)) rfl (CbA.mk noneB false rfl (.inr ⟨rfl, rfl, NO.out⟩) (ow9) (be9))
  have OKC : Hid (OkP c) := hr.t
  have es : c.s = S := by obtain ⟨n0, n1, n2, n3, -, e⟩ := RM.out; exact congrArg (·.s) e
  have ep : c.p.n = P := by obtain ⟨n0, n1, n2, n3, -, e⟩ := RM.out; exact congrArg (fun m => m.p.1) e
  have ES : Hid (c.s = S) := es
  have EP : Hid (c.p.n = P) := ep
  obtain ⟨u0, u1, u2, u3, u4, u5, u6, u7, u8⟩ := nine D5.range
  have e0 := C5 0 _ rfl
  have e1 := C5 1 _ rfl
  have e2 := C5 2 _ rfl
  simp only [Nat.zero_add] at e0 e1 e2
  have HT5 : Hid (Ck W5 w.heap.size Z9) := T5
  have HC5 : Hid (W5.rangeAt cb 0 (ints [(S : Int), (P : Int), l])) := C5
  have HD5 : Hid (Ck W5 bb c.cells) := D5
  clear hr T5 C5 D5 es ep
  go_wp2_with (fail)
  clear u0 u1 u2 u3 u4 u5 u6 u7 u8 e0 e1 e2
  refine (slay_any S P l c W5 O5.out.at OKB.out OKC.out ES.out EP.out).mono ?_
  rintro e W6 ⟨vk, rfl, vk0, vk1, fv, hb⟩
  obtain ⟨H, hH⟩ : ∃ H : Nat, H = 3 + S + S + 4 + P + P * 8 + P * 8 := ⟨_, rfl⟩
  have HH : Hid (H = 3 + S + S + 4 + P + P * 8 + P * 8) := hH
  have hH0 : 3 + S + S + 4 ≤ H := by omega
  rw [← hH] at fv hN ⊢
  have z6 := hb.size
  have K6 : Ks w S P l cb bb vk H a n f c (layF c S P) W6 := ⟨HT5.out.below hb (by omega), range_below hb HC5.out (by omega), HD5.out.below hb (by omega), fv, HSL.out.later (B5.out.trans (hb.mono (by omega))), O5.out.later hb, B5.out.trans (hb.mono (by omega)), by omega⟩
  obtain ⟨F, hF⟩ : ∃ F, F = layF c S P := ⟨_, rfl⟩
  have HFF : Hid (F = layF c S P) := hF
  rw [← hF] at K6
  have HK6 : Hid (Ks w S P l cb bb vk H a n f c F W6) := K6
  have e0 := K6.c 0 _ rfl
  have e1 := K6.c 1 _ rfl
  have e2 := K6.c 2 _ rfl
  simp only [Nat.zero_add] at e0 e1 e2
  clear hb fv hH hF K6 HT5 HC5 HD5 B5 O5 z1 z2 z3 z4 z5 z6 vk0 vk1
  go_wp2_with (fail)
  clear e0 e1 e2
  refine (Plat.sreg_any S P l 0 W6).mono ?_
  rintro e W7 ⟨rfl, hb⟩
  have ea : Plat.addr (S : Int) P l S 1 3 0 = ((3 : Nat) : Int) := by rw [addr_in OKB.out (by omega) (by omega)]; omega
  rw [ea]
  have HK7 : Hid (Ks w S P l cb bb vk H a n f c F W7) := HK6.out.later hb
  clear hb ea HK6
  go_wp2_with (fail)
  have P3 : Hid (stP S f F 3) := fun j h1 h2 => by omega
  go_loopw [8, 9] (fun i _ wr => ∃ t : Nat, 3 ≤ t ∧ t ≤ H ∧ i = .int .i64 t ∧ Ks w S P l cb bb vk H a n f c F wr ∧ stP S f F t) (fun i _ _ => H - (intOf i).toNat)
  case atStart => exact ⟨3, by omega, by omega, rfl, HK7.out, P3.out⟩
  case' round =>
  obtain ⟨t, t3, tH, rfl, ks, st⟩ := hrel
  have HK : Hid (Ks w S P l cb bb vk H a n f c F wr) := ks
  have ST : Hid (stP S f F t) := st
  clear ks st HK7 P3
  by_cases lt : t < H
  case neg =>
    have et : t = H := by omega
    have YES : Hid (CbP n f c) := ⟨S, P, l, HHS.out, RM.out, OKC.out, by rw [← HH.out, ← HFF.out, ← et]; exact ST.out⟩
    have nlt : ¬ (t : Int) < H := by omega
    have z := HK.out.z
    obtain ⟨w9, e9, ck9, ow9, be9⟩ := ans0 HK.out.t HK.out.b (by omega) HK.out.o (by omega) (by omega)
    obtain ⟨u0, u1, u2, u3, u4, u5, u6, u7, u8⟩ := nine HK.out.d.range
    have tk0 := HK.out.t 0 _ rfl
    have tk1 := HK.out.t 1 _ rfl
    have tk2 := HK.out.t 2 _ rfl
    have tk3 := HK.out.t 3 _ rfl
    have tk4 := HK.out.t 4 _ rfl
    have tk5 := HK.out.t 5 _ rfl
    have tk6 := HK.out.t 6 _ rfl
    have tk7 := HK.out.t 7 _ rfl
    have tk8 := HK.out.t 8 _ rfl
    have HE : Hid (w9 = _) := e9
    clear e9 et
    go_wp2_with (fail)
    rw [← HE.out]
    exact bodyPost_ret (Plat.results_cell_tmp_mid rfl _ _ w.heap.size 0 _ _ rfl ck9.range Tryz.underlying30 rfl (by kernel_rfl)) rfl (CbA.mk c true rfl (.inl ⟨rfl, YES.out⟩) (ow9) (be9))
  have lt2 : (t : Int) < H := by omega
  have ltn : t < n := by omega
  have ltn2 : (t : Int) < n := by omega
  have t300 : H ≤ 300 := by have := HH.out; omega
  go_wp2_with (fail)
  by_cases ga : 3 + S ≤ t
  case neg =>
    have ga2 : ¬ (3 + (S : Int)) ≤ t := by omega
    have ga3 : decide (3 + (S : Int) ≤ t) = false := decide_eq_false ga2
    refine wp_region_held_drew (S := Ks w S P l cb bb vk H a n f c F) (by kernel_rfl) HK.out.drew (fun hS => ?_)
    refine tI 0 (v := .int .i64 t) (d := some 36) rfl rfl (fun w' hw => ?_) (by assumption) ?_
    · clear hw; go_simp
    simp only [Act.put, s1, s2, s3]
    refine tI 1 (v := .agg #[.int .i64 S, .int .i64 P, .int .i64 l]) (d := some 37) rfl rfl (fun w' hw => ?_) (by assumption) ?_
    · have e0 := hw.c 0 _ rfl; have e1 := hw.c 1 _ rfl; have e2 := hw.c 2 _ rfl; simp only [Nat.zero_add] at e0 e1 e2; clear hw; go_simp
    simp only [Act.put, s1, s2, s3]
    clear HK
    generalize World.drew wr = V0 at hS ⊢
    refine r1 2 rfl (fun K hK => ?_)
    have HQ : Hid (Ks w S P l cb bb vk H a n f c F V0) := hS
    clear hS
    go_simp
    refine (Plat.sbeat_any S P l 0 V0).mono ?_
    rintro e V1 ⟨rfl, hb⟩
    have ea : Plat.addr (S : Int) P l S 1 (3 + S) 0 = ((3 + S : Nat) : Int) := by rw [addr_in OKB.out (by omega) (by omega)]; omega
    rw [ea]
    have HQ1 : Hid (Ks w S P l cb bb vk H a n f c F V1) := HQ.out.later hb
    clear hb ea HQ
    go_simp
    refine hK.out _ _ HQ1.out (fun hS => ?_)
    clear hK K HQ1
    refine tI 3 (v := .bool false) (d := some 39) rfl rfl (fun w' hw => ?_) (by assumption) ?_
    · clear hw; go_simp
    simp only [Act.put, s1, s2, s3]
    refine tI 4 (v := .bool false) (d := some 40) rfl rfl (fun w' hw => ?_) (by assumption) ?_
    · clear hw; go_simp
    simp only [Act.put, s1, s2, s3]
    refine tS 5 (d := some 41) rfl rfl (by assumption) ?_
    simp only [Act.put, s1, s2, s3]
    refine tS 6 (d := some 42) rfl rfl (by assumption) ?_
    simp only [Act.put, s1, s2, s3]
    refine tS 7 (d := some 43) rfl rfl (by assumption) ?_
    simp only [Act.put, s1, s2, s3]
    refine tS 8 (d := some 44) rfl rfl (by assumption) ?_
    simp only [Act.put, s1, s2, s3]
    refine tS 9 (d := some 45) rfl rfl (by assumption) ?_
    simp only [Act.put, s1, s2, s3]
    refine tS 10 (d := some 46) rfl rfl (by assumption) ?_
    simp only [Act.put, s1, s2, s3]
    refine tS 11 (d := some 47) rfl rfl (by assumption) ?_
    simp only [Act.put, s1, s2, s3]
    refine tI 12 (v := .bool false) (d := some 48) rfl rfl (fun w' hw => ?_) (by assumption) ?_
    · clear hw; go_simp
    simp only [Act.put, s1, s2, s3]
    refine tI 13 (v := .bool false) (d := some 9) rfl rfl (fun w' hw => ?_) (by assumption) ?_
    · clear hw; go_simp
    simp only [Act.put, s1, s2, s3]
    have HKV : Hid (Ks w S P l cb bb vk H a n f c F V1) := hS
    clear hS
    refine wpAnyH_done (by kernel_rfl) ?_ _
    go_wp2_with (fail)
    clear ga2 ga3
    refine wp_region_held_drew (S := Ks w S P l cb bb vk H a n f c F) (by kernel_rfl) HKV.out.drew (fun hS => ?_)
    obtain ⟨ka, oa, eka, -⟩ := sl_cell HKV.out.s ltn
    have EKA : Hid (a = some ⟨ka, oa, none⟩) := eka
    clear eka
    obtain ⟨g0, g1⟩ := HW.out t
    refine tI 0 (v := .bool false) (d := some 49) rfl rfl (fun w' hw => ?_) (by assumption) ?_
    · clear hw; go_simp
    simp only [Act.put, s1, s2, s3]
    refine tI 1 (v := .bool true) (d := some 50) rfl rfl (fun w' hw => ?_) (by assumption) ?_
    · clear hw; go_simp
    simp only [Act.put, s1, s2, s3]
    refine tI 2 (v := .bool true) (d := some 51) rfl rfl (fun w' hw => ?_) (by assumption) ?_
    · clear hw; go_simp
    simp only [Act.put, s1, s2, s3]
    refine tI 3 (v := .slice (some ⟨vk, 0, none⟩) H H) (d := some 52) rfl rfl (fun w' hw => ?_) (by assumption) ?_
    · clear hw; go_simp
    simp only [Act.put, s1, s2, s3]
    refine tI 4 (v := .int .i64 t) (d := some 53) rfl rfl (fun w' hw => ?_) (by assumption) ?_
    · clear hw; go_simp
    simp only [Act.put, s1, s2, s3]
    refine tI 5 (v := .pointer (some ⟨vk, t, none⟩)) (d := some 54) rfl rfl (fun w' hw => ?_) (by assumption) ?_
    · clear hw; go_simp
    simp only [Act.put, s1, s2, s3]
    refine tI 6 (v := .int .i64 (F t)) (d := some 55) rfl rfl (fun w' hw => ?_) (by assumption) ?_
    · have q := (hw.k t lt).1; clear hw; go_simp
    simp only [Act.put, s1, s2, s3]
    refine tI 7 (v := .slice (some ⟨ka, oa, none⟩) n cap) (d := some 56) rfl rfl (fun w' hw => ?_) (by assumption) ?_
    · clear hw; have q := EKA.out; go_simp
    simp only [Act.put, s1, s2, s3]
    refine tI 8 (v := .int .i64 t) (d := some 57) rfl rfl (fun w' hw => ?_) (by assumption) ?_
    · clear hw; go_simp
    simp only [Act.put, s1, s2, s3]
    refine tI 9 (v := .pointer (some ⟨ka, oa + t, none⟩)) (d := some 58) rfl rfl (fun w' hw => ?_) (by assumption) ?_
    · clear hw; go_simp
    simp only [Act.put, s1, s2, s3]
    refine tI 10 (v := .int .u64 (f t)) (d := some 59) rfl rfl (fun w' hw => ?_) (by assumption) ?_
    · obtain ⟨k2, o2, e2, q⟩ := sl_cell hw.s ltn; rw [EKA.out] at e2; cases e2; clear hw; go_simp
    simp only [Act.put, s1, s2, s3]
    generalize World.drew V1 = V5 at hS ⊢
    refine r1 11 rfl (fun K hK => ?_)
    have HQ : Hid (Ks w S P l cb bb vk H a n f c F V5) := hS
    clear hS HKV
    go_simp
    refine (sval_any (f t) V5 g0 g1).mono ?_
    rintro e V5 ⟨rfl, rfl⟩
    go_simp
    refine hK.out _ _ HQ.out (fun hS => ?_)
    clear hK K
    by_cases eq : lo32 (f t) = F t
    · have eqb : (F t != lo32 (f t)) = false := by simp [eq]
      have EQ : Hid (lo32 (f t) = F t) := eq
      clear eq
      refine tI 12 (v := .bool false) (d := some 61) rfl rfl (fun w' hw => ?_) (by assumption) ?_
      · clear hw; go_simp
      simp only [Act.put, s1, s2, s3]
      refine tI 13 (v := .bool false) (d := some 62) rfl rfl (fun w' hw => ?_) (by assumption) ?_
      · clear hw; go_simp
      simp only [Act.put, s1, s2, s3]
      refine wpAnyH_done (by kernel_rfl) ?_ _
      clear hS
      have STE : Hid (stP S f F (t + 1)) := fun j h1 h2 h3 => by
        by_cases e : j = t
        · rw [e]; exact EQ.out
        · exact ST.out j h1 (by omega) h3
      clear eqb
      go_wp2_with (fail)
      go_roundw
      case rel => exact ⟨t + 1, by omega, by omega, by go_num, HQ.out, STE.out⟩
      case measure => simp [intOf]; omega
    · have eqb : (F t != lo32 (f t)) = true := by simp; exact fun q => eq q.symm
      have NO : Hid (∀ d, ¬ CbP n f d) := fun d ⟨S2, P2, l2, g1, g2, g3, g4⟩ => by
        obtain ⟨rfl, rfl, rfl⟩ := hs_one HHS.out g1
        refine eq ?_
        rw [HFF.out, ← lay_m (rdm_one g2 RM.out)]
        have hh := HH.out
        exact g4 t t3 (by omega) (by omega)
      clear eq
      refine tI 12 (v := .bool true) (d := some 61) rfl rfl (fun w' hw => ?_) (by assumption) ?_
      · clear hw; go_simp
      simp only [Act.put, s1, s2, s3]
      refine tI 13 (v := .bool true) (d := some 62) rfl rfl (fun w' hw => ?_) (by assumption) ?_
      · clear hw; go_simp
      simp only [Act.put, s1, s2, s3]
      refine wpAnyH_done (by kernel_rfl) ?_ _
      clear hS eqb
      have z := HQ.out.z
      obtain ⟨w9, e9, ck9, ow9, be9⟩ := ans0 HQ.out.t HQ.out.b (by omega) (none_own V5.heap.size V5.heap.size _) (by omega) (Nat.le_refl _)
      simp only [noneB] at e9
      have tk0 := HQ.out.t 0 _ rfl
      have tk1 := HQ.out.t 1 _ rfl
      have tk2 := HQ.out.t 2 _ rfl
      have tk3 := HQ.out.t 3 _ rfl
      have tk4 := HQ.out.t 4 _ rfl
      have tk5 := HQ.out.t 5 _ rfl
      have tk6 := HQ.out.t 6 _ rfl
      have tk7 := HQ.out.t 7 _ rfl
      have tk8 := HQ.out.t 8 _ rfl
      have HE : Hid (w9 = _) := e9
      clear e9
      go_wp2_with (fail)
      rw [← HE.out]
      exact bodyPost_ret (Plat.results_cell_tmp_mid rfl _ _ w.heap.size 0 _ _ rfl ck9.range Tryz.underlying30 rfl (by kernel_rfl)) rfl (CbA.mk noneB false rfl (.inr ⟨rfl, rfl, NO.out⟩) (ow9) (be9))
  have ga2 : 3 + (S : Int) ≤ t := by omega
  by_cases gb : t < 3 + S + S
  case pos =>
    have gb2 : (t : Int) < 3 + S + S := by omega
    refine wp_region_held_drew (S := Ks w S P l cb bb vk H a n f c F) (by kernel_rfl) HK.out.drew (fun hS => ?_)
    refine tI 0 (v := .int .i64 t) (d := some 36) rfl rfl (fun w' hw => ?_) (by assumption) ?_
    · clear hw; go_simp
    simp only [Act.put, s1, s2, s3]
    refine tI 1 (v := .agg #[.int .i64 S, .int .i64 P, .int .i64 l]) (d := some 37) rfl rfl (fun w' hw => ?_) (by assumption) ?_
    · have e0 := hw.c 0 _ rfl; have e1 := hw.c 1 _ rfl; have e2 := hw.c 2 _ rfl; simp only [Nat.zero_add] at e0 e1 e2; clear hw; go_simp
    simp only [Act.put, s1, s2, s3]
    clear HK
    generalize World.drew wr = V0 at hS ⊢
    refine r1 2 rfl (fun K hK => ?_)
    have HQ : Hid (Ks w S P l cb bb vk H a n f c F V0) := hS
    clear hS
    go_simp
    refine (Plat.sbeat_any S P l 0 V0).mono ?_
    rintro e V1 ⟨rfl, hb⟩
    have ea : Plat.addr (S : Int) P l S 1 (3 + S) 0 = ((3 + S : Nat) : Int) := by rw [addr_in OKB.out (by omega) (by omega)]; omega
    rw [ea]
    have HQ1 : Hid (Ks w S P l cb bb vk H a n f c F V1) := HQ.out.later hb
    clear hb ea HQ
    go_simp
    refine hK.out _ _ HQ1.out (fun hS => ?_)
    clear hK K HQ1
    refine tI 3 (v := .bool true) (d := some 39) rfl rfl (fun w' hw => ?_) (by assumption) ?_
    · clear hw; go_simp
    simp only [Act.put, s1, s2, s3]
    refine tI 4 (v := .bool true) (d := some 40) rfl rfl (fun w' hw => ?_) (by assumption) ?_
    · clear hw; go_simp
    simp only [Act.put, s1, s2, s3]
    refine tI 5 (v := .int .i64 t) (d := some 41) rfl rfl (fun w' hw => ?_) (by assumption) ?_
    · clear hw; go_simp
    simp only [Act.put, s1, s2, s3]
    refine tI 6 (v := .agg #[.int .i64 S, .int .i64 P, .int .i64 l]) (d := some 42) rfl rfl (fun w' hw => ?_) (by assumption) ?_
    · have e0 := hw.c 0 _ rfl; have e1 := hw.c 1 _ rfl; have e2 := hw.c 2 _ rfl; simp only [Nat.zero_add] at e0 e1 e2; clear hw; go_simp
    simp only [Act.put, s1, s2, s3]
    refine tI 8 (v := .pointer (some ⟨cb, 0, none⟩)) (d := some 44) rfl rfl (fun w' hw => ?_) (by assumption) ?_
    · clear hw; go_simp
    simp only [Act.put, s1, s2, s3]
    refine tI 9 (v := .int .i64 S) (d := some 45) rfl rfl (fun w' hw => ?_) (by assumption) ?_
    · have e0 := hw.c 0 _ rfl; simp only [Nat.zero_add] at e0; clear hw; go_simp
    simp only [Act.put, s1, s2, s3]
    refine r1 7 rfl (fun K hK => ?_)
    have HQ : Hid (Ks w S P l cb bb vk H a n f c F V1) := hS
    clear hS
    go_simp
    refine (Plat.sbeat_any S P l 0 V1).mono ?_
    rintro e V2 ⟨rfl, hb⟩
    have ea : Plat.addr (S : Int) P l S 1 (3 + S) 0 = ((3 + S : Nat) : Int) := by rw [addr_in OKB.out (by omega) (by omega)]; omega
    rw [ea]
    have HQ1 : Hid (Ks w S P l cb bb vk H a n f c F V2) := HQ.out.later hb
    clear hb ea HQ
    go_simp
    refine hK.out _ _ HQ1.out (fun hS => ?_)
    clear hK K HQ1
    refine tI 10 (v := .int .i64 (3 + (S : Int) + S)) (d := some 46) rfl rfl (fun w' hw => ?_) (by assumption) ?_
    · clear hw; have w1 : IntKind.i64.wrap (3 + (S : Int) + S) = 3 + (S : Int) + S := (by rw [IntKind.wrap_i64]; omega); go_simp
    simp only [Act.put, s1, s2, s3]
    refine tI 11 (v := .bool true) (d := some 47) rfl rfl (fun w' hw => ?_) (by assumption) ?_
    · clear hw; go_simp
    simp only [Act.put, s1, s2, s3]
    refine tI 12 (v := .bool true) (d := some 48) rfl rfl (fun w' hw => ?_) (by assumption) ?_
    · clear hw; go_simp
    simp only [Act.put, s1, s2, s3]
    refine tI 13 (v := .bool true) (d := some 9) rfl rfl (fun w' hw => ?_) (by assumption) ?_
    · clear hw; go_simp
    simp only [Act.put, s1, s2, s3]
    have HKV : Hid (Ks w S P l cb bb vk H a n f c F V2) := hS
    clear hS
    refine wpAnyH_done (by kernel_rfl) ?_ _
    go_wp2_with (fail)
    refine wp_region_held_drew (S := Ks w S P l cb bb vk H a n f c F) (by kernel_rfl) HKV.out.drew (fun hS => ?_)
    refine tI 0 (v := .bool true) (d := some 49) rfl rfl (fun w' hw => ?_) (by assumption) ?_
    · clear hw; go_simp
    simp only [Act.put, s1, s2, s3]
    refine tI 1 (v := .bool false) (d := some 50) rfl rfl (fun w' hw => ?_) (by assumption) ?_
    · clear hw; go_simp
    simp only [Act.put, s1, s2, s3]
    refine tI 2 (v := .bool false) (d := some 51) rfl rfl (fun w' hw => ?_) (by assumption) ?_
    · clear hw; go_simp
    simp only [Act.put, s1, s2, s3]
    refine tS 3 (d := some 52) rfl rfl (by assumption) ?_
    simp only [Act.put, s1, s2, s3]
    refine tS 4 (d := some 53) rfl rfl (by assumption) ?_
    simp only [Act.put, s1, s2, s3]
    refine tS 5 (d := some 54) rfl rfl (by assumption) ?_
    simp only [Act.put, s1, s2, s3]
    refine tS 6 (d := some 55) rfl rfl (by assumption) ?_
    simp only [Act.put, s1, s2, s3]
    refine tS 7 (d := some 56) rfl rfl (by assumption) ?_
    simp only [Act.put, s1, s2, s3]
    refine tS 8 (d := some 57) rfl rfl (by assumption) ?_
    simp only [Act.put, s1, s2, s3]
    refine tS 9 (d := some 58) rfl rfl (by assumption) ?_
    simp only [Act.put, s1, s2, s3]
    refine tS 10 (d := some 59) rfl rfl (by assumption) ?_
    simp only [Act.put, s1, s2, s3]
    refine tS 11 (d := some 60) rfl rfl (by assumption) ?_
    simp only [Act.put, s1, s2, s3]
    refine tS 12 (d := some 61) rfl rfl (by assumption) ?_
    simp only [Act.put, s1, s2, s3]
    refine tI 13 (v := .bool false) (d := some 62) rfl rfl (fun w' hw => ?_) (by assumption) ?_
    · clear hw; go_simp
    simp only [Act.put, s1, s2, s3]
    refine wpAnyH_done (by kernel_rfl) ?_ _
    have HKE : Hid (Ks w S P l cb bb vk H a n f c F (World.drew V2)) := hS
    have STE : Hid (stP S f F (t + 1)) := fun j h1 h2 h3 => by
      by_cases e : j = t
      · omega
      · exact ST.out j h1 (by omega) h3
    clear hS HKV
    go_wp2_with (fail)
    go_roundw
    case rel => exact ⟨t + 1, by omega, by omega, by go_num, HKE.out, STE.out⟩
    case measure => simp [intOf]; omega
  case neg =>
    have gb2 : ¬ (t : Int) < 3 + S + S := by omega
    refine wp_region_held_drew (S := Ks w S P l cb bb vk H a n f c F) (by kernel_rfl) HK.out.drew (fun hS => ?_)
    refine tI 0 (v := .int .i64 t) (d := some 36) rfl rfl (fun w' hw => ?_) (by assumption) ?_
    · clear hw; go_simp
    simp only [Act.put, s1, s2, s3]
    refine tI 1 (v := .agg #[.int .i64 S, .int .i64 P, .int .i64 l]) (d := some 37) rfl rfl (fun w' hw => ?_) (by assumption) ?_
    · have e0 := hw.c 0 _ rfl; have e1 := hw.c 1 _ rfl; have e2 := hw.c 2 _ rfl; simp only [Nat.zero_add] at e0 e1 e2; clear hw; go_simp
    simp only [Act.put, s1, s2, s3]
    clear HK
    generalize World.drew wr = V0 at hS ⊢
    refine r1 2 rfl (fun K hK => ?_)
    have HQ : Hid (Ks w S P l cb bb vk H a n f c F V0) := hS
    clear hS
    go_simp
    refine (Plat.sbeat_any S P l 0 V0).mono ?_
    rintro e V1 ⟨rfl, hb⟩
    have ea : Plat.addr (S : Int) P l S 1 (3 + S) 0 = ((3 + S : Nat) : Int) := by rw [addr_in OKB.out (by omega) (by omega)]; omega
    rw [ea]
    have HQ1 : Hid (Ks w S P l cb bb vk H a n f c F V1) := HQ.out.later hb
    clear hb ea HQ
    go_simp
    refine hK.out _ _ HQ1.out (fun hS => ?_)
    clear hK K HQ1
    refine tI 3 (v := .bool true) (d := some 39) rfl rfl (fun w' hw => ?_) (by assumption) ?_
    · clear hw; go_simp
    simp only [Act.put, s1, s2, s3]
    refine tI 4 (v := .bool true) (d := some 40) rfl rfl (fun w' hw => ?_) (by assumption) ?_
    · clear hw; go_simp
    simp only [Act.put, s1, s2, s3]
    refine tI 5 (v := .int .i64 t) (d := some 41) rfl rfl (fun w' hw => ?_) (by assumption) ?_
    · clear hw; go_simp
    simp only [Act.put, s1, s2, s3]
    refine tI 6 (v := .agg #[.int .i64 S, .int .i64 P, .int .i64 l]) (d := some 42) rfl rfl (fun w' hw => ?_) (by assumption) ?_
    · have e0 := hw.c 0 _ rfl; have e1 := hw.c 1 _ rfl; have e2 := hw.c 2 _ rfl; simp only [Nat.zero_add] at e0 e1 e2; clear hw; go_simp
    simp only [Act.put, s1, s2, s3]
    refine tI 8 (v := .pointer (some ⟨cb, 0, none⟩)) (d := some 44) rfl rfl (fun w' hw => ?_) (by assumption) ?_
    · clear hw; go_simp
    simp only [Act.put, s1, s2, s3]
    refine tI 9 (v := .int .i64 S) (d := some 45) rfl rfl (fun w' hw => ?_) (by assumption) ?_
    · have e0 := hw.c 0 _ rfl; simp only [Nat.zero_add] at e0; clear hw; go_simp
    simp only [Act.put, s1, s2, s3]
    refine r1 7 rfl (fun K hK => ?_)
    have HQ : Hid (Ks w S P l cb bb vk H a n f c F V1) := hS
    clear hS
    go_simp
    refine (Plat.sbeat_any S P l 0 V1).mono ?_
    rintro e V2 ⟨rfl, hb⟩
    have ea : Plat.addr (S : Int) P l S 1 (3 + S) 0 = ((3 + S : Nat) : Int) := by rw [addr_in OKB.out (by omega) (by omega)]; omega
    rw [ea]
    have HQ1 : Hid (Ks w S P l cb bb vk H a n f c F V2) := HQ.out.later hb
    clear hb ea HQ
    go_simp
    refine hK.out _ _ HQ1.out (fun hS => ?_)
    clear hK K HQ1
    refine tI 10 (v := .int .i64 (3 + (S : Int) + S)) (d := some 46) rfl rfl (fun w' hw => ?_) (by assumption) ?_
    · clear hw; have w1 : IntKind.i64.wrap (3 + (S : Int) + S) = 3 + (S : Int) + S := (by rw [IntKind.wrap_i64]; omega); go_simp
    simp only [Act.put, s1, s2, s3]
    refine tI 11 (v := .bool false) (d := some 47) rfl rfl (fun w' hw => ?_) (by assumption) ?_
    · clear hw; go_simp
    simp only [Act.put, s1, s2, s3]
    refine tI 12 (v := .bool false) (d := some 48) rfl rfl (fun w' hw => ?_) (by assumption) ?_
    · clear hw; go_simp
    simp only [Act.put, s1, s2, s3]
    refine tI 13 (v := .bool false) (d := some 9) rfl rfl (fun w' hw => ?_) (by assumption) ?_
    · clear hw; go_simp
    simp only [Act.put, s1, s2, s3]
    have HKV : Hid (Ks w S P l cb bb vk H a n f c F V2) := hS
    clear hS
    refine wpAnyH_done (by kernel_rfl) ?_ _
    go_wp2_with (fail)
    refine wp_region_held_drew (S := Ks w S P l cb bb vk H a n f c F) (by kernel_rfl) HKV.out.drew (fun hS => ?_)
    obtain ⟨ka, oa, eka, -⟩ := sl_cell HKV.out.s ltn
    have EKA : Hid (a = some ⟨ka, oa, none⟩) := eka
    clear eka
    obtain ⟨g0, g1⟩ := HW.out t
    refine tI 0 (v := .bool false) (d := some 49) rfl rfl (fun w' hw => ?_) (by assumption) ?_
    · clear hw; go_simp
    simp only [Act.put, s1, s2, s3]
    refine tI 1 (v := .bool true) (d := some 50) rfl rfl (fun w' hw => ?_) (by assumption) ?_
    · clear hw; go_simp
    simp only [Act.put, s1, s2, s3]
    refine tI 2 (v := .bool true) (d := some 51) rfl rfl (fun w' hw => ?_) (by assumption) ?_
    · clear hw; go_simp
    simp only [Act.put, s1, s2, s3]
    refine tI 3 (v := .slice (some ⟨vk, 0, none⟩) H H) (d := some 52) rfl rfl (fun w' hw => ?_) (by assumption) ?_
    · clear hw; go_simp
    simp only [Act.put, s1, s2, s3]
    refine tI 4 (v := .int .i64 t) (d := some 53) rfl rfl (fun w' hw => ?_) (by assumption) ?_
    · clear hw; go_simp
    simp only [Act.put, s1, s2, s3]
    refine tI 5 (v := .pointer (some ⟨vk, t, none⟩)) (d := some 54) rfl rfl (fun w' hw => ?_) (by assumption) ?_
    · clear hw; go_simp
    simp only [Act.put, s1, s2, s3]
    refine tI 6 (v := .int .i64 (F t)) (d := some 55) rfl rfl (fun w' hw => ?_) (by assumption) ?_
    · have q := (hw.k t lt).1; clear hw; go_simp
    simp only [Act.put, s1, s2, s3]
    refine tI 7 (v := .slice (some ⟨ka, oa, none⟩) n cap) (d := some 56) rfl rfl (fun w' hw => ?_) (by assumption) ?_
    · clear hw; have q := EKA.out; go_simp
    simp only [Act.put, s1, s2, s3]
    refine tI 8 (v := .int .i64 t) (d := some 57) rfl rfl (fun w' hw => ?_) (by assumption) ?_
    · clear hw; go_simp
    simp only [Act.put, s1, s2, s3]
    refine tI 9 (v := .pointer (some ⟨ka, oa + t, none⟩)) (d := some 58) rfl rfl (fun w' hw => ?_) (by assumption) ?_
    · clear hw; go_simp
    simp only [Act.put, s1, s2, s3]
    refine tI 10 (v := .int .u64 (f t)) (d := some 59) rfl rfl (fun w' hw => ?_) (by assumption) ?_
    · obtain ⟨k2, o2, e2, q⟩ := sl_cell hw.s ltn; rw [EKA.out] at e2; cases e2; clear hw; go_simp
    simp only [Act.put, s1, s2, s3]
    generalize World.drew V2 = V5 at hS ⊢
    refine r1 11 rfl (fun K hK => ?_)
    have HQ : Hid (Ks w S P l cb bb vk H a n f c F V5) := hS
    clear hS HKV
    go_simp
    refine (sval_any (f t) V5 g0 g1).mono ?_
    rintro e V5 ⟨rfl, rfl⟩
    go_simp
    refine hK.out _ _ HQ.out (fun hS => ?_)
    clear hK K
    by_cases eq : lo32 (f t) = F t
    · have eqb : (F t != lo32 (f t)) = false := by simp [eq]
      have EQ : Hid (lo32 (f t) = F t) := eq
      clear eq
      refine tI 12 (v := .bool false) (d := some 61) rfl rfl (fun w' hw => ?_) (by assumption) ?_
      · clear hw; go_simp
      simp only [Act.put, s1, s2, s3]
      refine tI 13 (v := .bool false) (d := some 62) rfl rfl (fun w' hw => ?_) (by assumption) ?_
      · clear hw; go_simp
      simp only [Act.put, s1, s2, s3]
      refine wpAnyH_done (by kernel_rfl) ?_ _
      clear hS
      have STE : Hid (stP S f F (t + 1)) := fun j h1 h2 h3 => by
        by_cases e : j = t
        · rw [e]; exact EQ.out
        · exact ST.out j h1 (by omega) h3
      clear eqb
      go_wp2_with (fail)
      go_roundw
      case rel => exact ⟨t + 1, by omega, by omega, by go_num, HQ.out, STE.out⟩
      case measure => simp [intOf]; omega
    · have eqb : (F t != lo32 (f t)) = true := by simp; exact fun q => eq q.symm
      have NO : Hid (∀ d, ¬ CbP n f d) := fun d ⟨S2, P2, l2, g1, g2, g3, g4⟩ => by
        obtain ⟨rfl, rfl, rfl⟩ := hs_one HHS.out g1
        refine eq ?_
        rw [HFF.out, ← lay_m (rdm_one g2 RM.out)]
        have hh := HH.out
        exact g4 t t3 (by omega) (by omega)
      clear eq
      refine tI 12 (v := .bool true) (d := some 61) rfl rfl (fun w' hw => ?_) (by assumption) ?_
      · clear hw; go_simp
      simp only [Act.put, s1, s2, s3]
      refine tI 13 (v := .bool true) (d := some 62) rfl rfl (fun w' hw => ?_) (by assumption) ?_
      · clear hw; go_simp
      simp only [Act.put, s1, s2, s3]
      refine wpAnyH_done (by kernel_rfl) ?_ _
      clear hS eqb
      have z := HQ.out.z
      obtain ⟨w9, e9, ck9, ow9, be9⟩ := ans0 HQ.out.t HQ.out.b (by omega) (none_own V5.heap.size V5.heap.size _) (by omega) (Nat.le_refl _)
      simp only [noneB] at e9
      have tk0 := HQ.out.t 0 _ rfl
      have tk1 := HQ.out.t 1 _ rfl
      have tk2 := HQ.out.t 2 _ rfl
      have tk3 := HQ.out.t 3 _ rfl
      have tk4 := HQ.out.t 4 _ rfl
      have tk5 := HQ.out.t 5 _ rfl
      have tk6 := HQ.out.t 6 _ rfl
      have tk7 := HQ.out.t 7 _ rfl
      have tk8 := HQ.out.t 8 _ rfl
      have HE : Hid (w9 = _) := e9
      clear e9
      go_wp2_with (fail)
      rw [← HE.out]
      exact bodyPost_ret (Plat.results_cell_tmp_mid rfl _ _ w.heap.size 0 _ _ rfl ck9.range Tryz.underlying30 rfl (by kernel_rfl)) rfl (CbA.mk noneB false rfl (.inr ⟨rfl, rfl, NO.out⟩) (ow9) (be9))

end Go.Proofs.YtgfbfgiohmdjmaaGreat.Book

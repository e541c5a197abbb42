/- The book that words tell of, whether it is one or not; by the program: a draft is finished. -/
import Derived.Test.YtgfbfgiohmdjmaaGreatCb8
import Derived.Test.YtgfbfgiohmdjmaaGreatNin
namespace Go.Proofs.YtgfbfgiohmdjmaaGreat.Book
open Go.ChangeShapes Go.WideShapes Go.ChangeAt Go.RowKit Go.Shelf
open Aid Lst Words
set_option maxRecDepth 100000
set_option linter.unusedVariables false
attribute [local go_sem] Oper.semAt_some

theorem list_any (dk k : Nat) (w : World) :
    Calls Tryz.prog 105 #[.pointer (some ⟨dk, 0, none⟩), .int .i64 k] w fun e w' => e = .returned (.func (.func 128) #[] #[.pointer (some ⟨w.heap.size, 0, none⟩), .pointer (some ⟨w.heap.size + 1, 0, none⟩)]) ∧ w' = (w.alloc (.cells #[.pointer (some ⟨dk, 0, none⟩)] 89)).alloc (.cells #[.int .i64 k] 3) := by
  have hmf : ∀ (fn : Fn) (first cap : Array Value) (w : World), (Instr.makeFunc fn first cap).run Tryz.prog w = .ok (.func fn first cap) w := fun _ _ _ _ => rfl
  go_enter Tryz.func105, Tryz.ntmps105
  go_wp2_with (fail)
  go_ret
  exact ⟨rfl, rfl⟩

/- What holds between two kinds. -/
structure Fo (w0 : World) (f : Nat → Int) (S P dk kl B : Nat) (b : Bx) (Ds : List Nat) (W : World) : Prop where
  x : W.cell? ⟨w0.heap.size, 0, none⟩ = some (.pointer (some ⟨dk, 0, none⟩))
  t : Ck W (w0.heap.size + 1) Z9
  d : Ck W dk (draftC f S P kl 4 b)
  k : Fk .i64 (P * 8) W kl (wLk f S P)
  o : b.Own B W.heap.size W
  bw : Below B w0 W
  ds : ∀ D ∈ Ds, W.heap[D]? = some (.deferred (some []))
  ad : Away b dk
  ak : Away b kl
  ar : Away b (w0.heap.size + 1)
  sz : w0.heap.size + 2 ≤ W.heap.size
/- Where it lies. -/
structure FoS (w0 : World) (dk kl B : Nat) : Prop where
  fd : B ≤ dk ∧ dk < w0.heap.size
  fk : B ≤ kl ∧ kl < w0.heap.size
  ne : dk ≠ kl

theorem slice_cells (v : Value) (w : World) (t : TypeId) : Ck (w.alloc (.cells #[v] t)) w.heap.size [v] := ck_lit #[v] (heap1_0 w (.cells #[v] t))

/- The boxes for a kind are made; its list is none yet. -/
theorem Fo.begin {w0 : World} {f : Nat → Int} {S P dk kl B : Nat} {b : Bx} {Ds : List Nat} {W : World} (s : FoS w0 dk kl B) (h : Fo w0 f S P dk kl B b Ds W) (k : Nat) (hs : (draftC f S P kl 4 b).set (2 + k) (.slice none 0 0) = draftC f S P kl 4 b) (t1 t2 : TypeId) :
    LpS w0 P dk kl B W.heap.size (((W.alloc (.cells #[.int .i64 k] t1)).alloc (.cells #[.pointer (some ⟨dk, 0, none⟩)] t2)).alloc (.cells #[.int .i64 k] t1)).heap.size b W.heap.size (W.heap.size + 1) (W.heap.size + 1 + 1) Ds ∧ Lp w0 f S P dk kl B W.heap.size (((W.alloc (.cells #[.int .i64 k] t1)).alloc (.cells #[.pointer (some ⟨dk, 0, none⟩)] t2)).alloc (.cells #[.int .i64 k] t1)).heap.size b k W.heap.size (W.heap.size + 1) (W.heap.size + 1 + 1) Ds (.slice none 0 0) [] (((W.alloc (.cells #[.int .i64 k] t1)).alloc (.cells #[.pointer (some ⟨dk, 0, none⟩)] t2)).alloc (.cells #[.int .i64 k] t1)) := by
  have hb := below3 W (.cells #[.int .i64 k] t1) (.cells #[.pointer (some ⟨dk, 0, none⟩)] t2) (.cells #[.int .i64 k] t1)
  have z : (((W.alloc (.cells #[.int .i64 k] t1)).alloc (.cells #[.pointer (some ⟨dk, 0, none⟩)] t2)).alloc (.cells #[.int .i64 k] t1)).heap.size = W.heap.size + 3 := by simp
  have bz := h.bw.size
  have hz := h.sz
  have s1 := s.fd; have s2 := s.fk
  have hD : ∀ D ∈ Ds, D < W.heap.size := fun D hD => (Array.getElem?_eq_some_iff.1 (h.ds D hD)).1
  have bl := fun (p : Addr) (v : Value) (h : W.cell? p = some v) => (hb.cell (p := p) (World.block_lt_of_cell? W p h)).trans h
  refine ⟨⟨s1, s2, s.ne, by omega, by omega, by omega, by omega, by omega, by omega, h.ad, h.ak, fun D h => by have := hD D h; omega⟩, ⟨bl _ _ h.x, h.t.below hb (by omega), ?_, ?_, ?_, ?_, h.k.later hb, h.o.later hb, ⟨rfl, .inl ⟨rfl, rfl⟩⟩, h.bw.trans (hb.mono (by omega)), fun D hd => (hb.block D (hD D hd)).trans (h.ds D hd), Nat.le_refl _⟩⟩
  · have := range_lit #[.int .i64 k] (heap3_0 W (.cells #[.int .i64 k] t1) (.cells #[.pointer (some ⟨dk, 0, none⟩)] t2) (.cells #[.int .i64 k] t1)) 0 _ rfl; exact this
  · have := range_lit #[.pointer (some ⟨dk, 0, none⟩)] (heap3_1 W (.cells #[.int .i64 k] t1) (.cells #[.pointer (some ⟨dk, 0, none⟩)] t2) (.cells #[.int .i64 k] t1)) 0 _ rfl; exact this
  · have := range_lit #[.int .i64 k] (heap3_2 W (.cells #[.int .i64 k] t1) (.cells #[.pointer (some ⟨dk, 0, none⟩)] t2) (.cells #[.int .i64 k] t1)) 0 _ rfl; exact this
  · rw [hs]; exact h.d.below hb (by omega)

/- A list has been gathered. -/
theorem Lp.end {w0 : World} {f : Nat → Int} {S P dk kl B C R0 : Nat} {b b' : Bx} {k kb l1 l2 : Nat} {Ds : List Nat} {v : Value} {xs : List Int} {W : World} (s : LpS w0 P dk kl B C R0 b kb l1 l2 Ds) (h : Lp w0 f S P dk kl B C R0 b k kb l1 l2 Ds v xs W) (hB : B ≤ w0.heap.size) {x : Sx} (ev : v = .slice x.a x.n x.c) (xo : x.Own R0 W.heap.size W) (xc : x.n ≤ x.c) (hl : b'.lists = b.lists.set (1 + k) x) (hk : k < 4) (hc : draftC f S P kl 4 b' = (draftC f S P kl 4 b).set (2 + k) (.slice x.a x.n x.c)) (hD : W.heap[R0]? = some (.deferred (some []))) (ar : Away b (w0.heap.size + 1)) : Fo w0 f S P dk kl B b' (R0 :: Ds) W := by
  have s1 := s.fd; have s2 := s.fk; have s3 := s.fR; have s4 := s.fC; have sz := h.sz
  have aw : ∀ z, z < R0 → Away b z → Away b' z := fun z hz ha y hy g o e hp => by
    rw [hl] at hy
    rcases List.mem_or_eq_of_mem_set hy with hy | rfl
    · exact ha y hy g o e hp
    · rcases xo with h0 | ⟨j, e', g1, g2, g3⟩
      · omega
      · rw [e] at e'; cases e'; omega
  refine ⟨h.x, h.t, by rw [hc, ← ev]; exact h.d, h.k, h.o.head (1 + k) (by simp [Bx.lists]; omega) x xo xc s4 (by omega) (by have := s.fB; omega) hl, h.bw, ?_, aw dk (by omega) s.ad, aw kl (by omega) s.ak, aw _ (by omega) ar, by omega⟩
  intro D hd
  rcases List.mem_cons.1 hd with rfl | hd
  · exact hD
  · exact h.ds D hd

theorem Bx.Own.onlyb {b : Bx} {B C r : Nat} {w w' : World} (h : b.Own B C w) (aw : Away b r) (oy : Only r (r + 1) w w') : b.Own B C w' := ⟨fun x hi => by
  rcases h.each x hi with h0 | ⟨k, e, h1, h2, h3⟩
  · exact .inl h0
  · by_cases g : 0 < x.n
    · have := aw x hi k 0 e g
      exact .inr ⟨k, e, h1, h2, oy.fk (by omega) h3⟩
    · exact .inl (by omega), h.apart, h.caps⟩
theorem Fo.leave {w0 : World} {f : Nat → Int} {S P dk kl B : Nat} {c : Bx} {Ds : List Nat} {w : World} (s : FoS w0 dk kl B) (h : Fo w0 f S P dk kl B c Ds w) :
    ∃ w1 : World, w1 = (((((((((w.setCell ⟨w0.heap.size + 1, 0, none⟩ (.int .i64 c.s)).setCell ⟨w0.heap.size + 1, 1, none⟩ (.slice c.p.a c.p.n c.p.c)).setCell ⟨w0.heap.size + 1, 2, none⟩ (.slice c.h0.a c.h0.n c.h0.c)).setCell ⟨w0.heap.size + 1, 3, none⟩ (.slice c.h1.a c.h1.n c.h1.c)).setCell ⟨w0.heap.size + 1, 4, none⟩ (.slice c.h2.a c.h2.n c.h2.c)).setCell ⟨w0.heap.size + 1, 5, none⟩ (.slice c.h3.a c.h3.n c.h3.c)).setCell ⟨w0.heap.size + 1, 6, none⟩ (.slice c.o.a c.o.n c.o.c)).setCell ⟨w0.heap.size + 1, 7, none⟩ (.slice c.i.a c.i.n c.i.c)).setCell ⟨w0.heap.size + 1, 8, none⟩ (.slice c.e.a c.e.n c.e.c)) ∧ Ck w1 (w0.heap.size + 1) c.cells ∧ c.Own B w1.heap.size w1 ∧ Below B w0 w1 ∧ ∀ D ∈ Ds, w1.heap[D]? = some (.deferred (some [])) := by
  obtain ⟨ck, oy⟩ := put9 h.t (.int .i64 c.s) (.slice c.p.a c.p.n c.p.c) (.slice c.h0.a c.h0.n c.h0.c) (.slice c.h1.a c.h1.n c.h1.c) (.slice c.h2.a c.h2.n c.h2.c) (.slice c.h3.a c.h3.n c.h3.c) (.slice c.o.a c.o.n c.o.c) (.slice c.i.a c.i.n c.i.c) (.slice c.e.a c.e.n c.e.c)
  have zl := oy.size
  have hz := h.sz
  have s1 := s.fd
  refine ⟨_, rfl, ck, (h.o.onlyb h.ar oy).mono (Nat.le_refl _) zl, h.bw.trans (oy.below (by omega) |>.mono (by omega)), fun D hD => ?_⟩
  have e := h.ds D hD
  have ne : D ≠ w0.heap.size + 1 := fun q => by
    have c0 := (h.t 0 _ rfl).1
    rw [q] at e
    unfold World.cell? at c0
    simp [e] at c0
  rw [oy.block D (Array.getElem?_eq_some_iff.1 e).1 (by omega)]
  exact e
theorem leave_step {W w0 : World} {D r B : Nat} {b : Bx} {cs : List Value} (hD : W.heap[D]? = some (.deferred (some []))) (ck : Ck W r cs) (ho : b.Own B W.heap.size W) (hb : Below B w0 W) (hB : B ≤ D) :
    Ck (W.putObj D (.deferred none)) r cs ∧ b.Own B (W.putObj D (.deferred none)).heap.size (W.putObj D (.deferred none)) ∧ Below B w0 (W.putObj D (.deferred none)) ∧ ∀ D', D' ≠ D → (W.putObj D (.deferred none)).heap[D']? = W.heap[D']? := by
  have cell : ∀ g o v, W.cell? ⟨g, o, none⟩ = some v → g ≠ D := fun g o v h q => by
    subst q
    unfold World.cell? at h
    simp [hD] at h
  have same : ∀ g o v, W.cell? ⟨g, o, none⟩ = some v → (W.putObj D (.deferred none)).cell? ⟨g, o, none⟩ = W.cell? ⟨g, o, none⟩ ∧ (W.putObj D (.deferred none)).frozen? ⟨g, o, none⟩ = W.frozen? ⟨g, o, none⟩ := fun g o v h => by
    have e : (W.putObj D (.deferred none)).heap[g]? = W.heap[g]? := World.putObj_heap_other (cell g o v h)
    exact ⟨World.cell?_of_block (w := W) e, World.frozen?_of_block (w := W) e⟩
  refine ⟨fun j v hv => ?_, ?_, hb.trans ((below_put hB _)), fun D' h => World.putObj_heap_other h⟩
  · have c := ck j v hv
    obtain ⟨q1, q2⟩ := same _ _ _ c.1
    rw [q1, q2]; exact c
  · have hs : (W.putObj D (.deferred none)).heap.size = W.heap.size := World.putObj_size
    rw [hs]
    exact ⟨fun x hx => by
      rcases ho.each x hx with h0 | ⟨g, e, g1, g2, g3⟩
      · exact .inl h0
      · exact .inr ⟨g, e, g1, g2, fun j hj => by
          have c := g3 j hj
          obtain ⟨q1, q2⟩ := same _ _ _ c.1
          rw [q1, q2]; exact c⟩, ho.apart, ho.caps⟩
theorem gm0 {b : Bx} {x : Sx} {f : Nat → Int} {S P : Nat} {h0 h1 h2 h3 : Nat × (Nat → Int)} (hm : b.m = stM f S P S P (P * 8) h0 h1 h2 h3) : (⟨b.s, b.p, x, b.h1, b.h2, b.h3, b.o, b.i, b.e⟩ : Bx).m = stM f S P S P (P * 8) x.m h1 h2 h3 := by
  unfold stM at hm ⊢
  simp only [Bx.m, Bm.mk.injEq] at hm ⊢
  obtain ⟨a1, a2, a3, a4, a5, a6, a7, a8, a9⟩ := hm
  exact ⟨a1, a2, trivial, a4, a5, a6, a7, a8, a9⟩
theorem gm1 {b : Bx} {x : Sx} {f : Nat → Int} {S P : Nat} {h0 h1 h2 h3 : Nat × (Nat → Int)} (hm : b.m = stM f S P S P (P * 8) h0 h1 h2 h3) : (⟨b.s, b.p, b.h0, x, b.h2, b.h3, b.o, b.i, b.e⟩ : Bx).m = stM f S P S P (P * 8) h0 x.m h2 h3 := by
  unfold stM at hm ⊢
  simp only [Bx.m, Bm.mk.injEq] at hm ⊢
  obtain ⟨a1, a2, a3, a4, a5, a6, a7, a8, a9⟩ := hm
  exact ⟨a1, a2, a3, trivial, a5, a6, a7, a8, a9⟩
theorem gm2 {b : Bx} {x : Sx} {f : Nat → Int} {S P : Nat} {h0 h1 h2 h3 : Nat × (Nat → Int)} (hm : b.m = stM f S P S P (P * 8) h0 h1 h2 h3) : (⟨b.s, b.p, b.h0, b.h1, x, b.h3, b.o, b.i, b.e⟩ : Bx).m = stM f S P S P (P * 8) h0 h1 x.m h3 := by
  unfold stM at hm ⊢
  simp only [Bx.m, Bm.mk.injEq] at hm ⊢
  obtain ⟨a1, a2, a3, a4, a5, a6, a7, a8, a9⟩ := hm
  exact ⟨a1, a2, a3, a4, trivial, a6, a7, a8, a9⟩
theorem gm3 {b : Bx} {x : Sx} {f : Nat → Int} {S P : Nat} {h0 h1 h2 h3 : Nat × (Nat → Int)} (hm : b.m = stM f S P S P (P * 8) h0 h1 h2 h3) : (⟨b.s, b.p, b.h0, b.h1, b.h2, x, b.o, b.i, b.e⟩ : Bx).m = stM f S P S P (P * 8) h0 h1 h2 x.m := by
  unfold stM at hm ⊢
  simp only [Bx.m, Bm.mk.injEq] at hm ⊢
  obtain ⟨a1, a2, a3, a4, a5, a6, a7, a8, a9⟩ := hm
  exact ⟨a1, a2, a3, a4, a5, trivial, a7, a8, a9⟩
theorem gathered {w0 : World} {f : Nat → Int} {S P dk kl B C R0 : Nat} {b : Bx} {k kb l1 l2 : Nat} {Ds : List Nat} {xs : List Int} {W : World}
    (h : ((∃ m, ListR (wHd f S k) (wLk f S P) (P * 8) m ∧ xs = pre (wHd f S k) (wLk f S P) m) ∧ ((∃ v, Lp w0 f S P dk kl B C R0 b k kb l1 l2 Ds v xs W) ∧ xs.length ≤ P * 8)) ∨ ((∃ i, (∀ j, j < i + 1 → inR (P * 8) (nxt (wHd f S k) (wLk f S P) j)) ∧ xs = pre (wHd f S k) (wLk f S P) (i + 1)) ∧ ((∃ v, Lp w0 f S P dk kl B C R0 b k kb l1 l2 Ds v xs W) ∧ xs.length = P * 8 + 1))) :
    ∃ (m : Nat) (x : Sx), ListR (wHd f S k) (wLk f S P) (P * 8) m ∧ Lp w0 f S P dk kl B C R0 b k kb l1 l2 Ds (.slice x.a x.n x.c) xs W ∧ x.m = rH f S P k m ∧ x.Own R0 W.heap.size W ∧ x.n ≤ x.c := by
  have fin : ∀ m v, ListR (wHd f S k) (wLk f S P) (P * 8) m → xs = pre (wHd f S k) (wLk f S P) m → Lp w0 f S P dk kl B C R0 b k kb l1 l2 Ds v xs W → ∃ (m : Nat) (x : Sx), ListR (wHd f S k) (wLk f S P) (P * 8) m ∧ Lp w0 f S P dk kl B C R0 b k kb l1 l2 Ds (.slice x.a x.n x.c) xs W ∧ x.m = rH f S P k m ∧ x.Own R0 W.heap.size W ∧ x.n ≤ x.c := fun m v hl hx lp => by
    subst hx
    obtain ⟨x, rfl, xm, xo, xc⟩ := row_sx rfl lp.r
    rw [pre_len] at xm
    exact ⟨m, x, hl, lp, xm, xo, xc⟩
  rcases h with ⟨⟨m, hl, hx⟩, ⟨v, lp⟩, _⟩ | ⟨⟨i, hr, hx⟩, ⟨v, lp⟩, hn⟩
  · exact fin m v hl hx lp
  · have e : i + 1 = P * 8 + 1 := by rw [hx, pre_len] at hn; exact hn
    exact fin (i + 1) v ⟨by omega, hr, .inl e⟩ hx lp

set_option maxHeartbeats 8000000 in
theorem finish_any (f : Nat → Int) (S P dk kl B C : Nat) (b : Bx) (w : World) (hd : Ck w dk (draftC f S P kl 4 b)) (hk : Fk .i64 (P * 8) w kl (wLk f S P)) (ho : b.Own B C w) (hm : b.m = stM f S P S P (P * 8) nilL nilL nilL nilL) (nh : NilH b) (ad : Away b dk) (ak : Away b kl) (e1 : B ≤ dk) (e2 : dk < w.heap.size) (e3 : B ≤ kl) (e4 : kl < w.heap.size) (ne : dk ≠ kl) (hC : C ≤ w.heap.size) (hP : 0 < P) (hP6 : P ≤ 6) :
    Calls Tryz.prog 70 #[.pointer (some ⟨dk, 0, none⟩)] w fun e w' => ∃ c : Bx, e = .returned (.agg c.cells.toArray) ∧ RdM f S P c.m ∧ c.Own B w'.heap.size w' ∧ Below B w w' := by
  refine (callsIn_wide (n := 9)).1 ?_
  have FS : FoS w dk kl B := ⟨⟨e1, e2⟩, ⟨e3, e4⟩, ne⟩
  have F0 : Hid (Fo w f S P dk kl B b [] ((w.alloc (.cells #[.pointer (some ⟨dk, 0, none⟩)] 89)).alloc (.cells #[.int .i64 0, .slice none 0 0, .slice none 0 0, .slice none 0 0, .slice none 0 0, .slice none 0 0, .slice none 0 0, .slice none 0 0, .slice none 0 0] 30))) := by
    have bb := below2 w (.cells #[.pointer (some ⟨dk, 0, none⟩)] 89) (.cells #[.int .i64 0, .slice none 0 0, .slice none 0 0, .slice none 0 0, .slice none 0 0, .slice none 0 0, .slice none 0 0, .slice none 0 0, .slice none 0 0] 30)
    refine ⟨?_, ck_lit #[.int .i64 0, .slice none 0 0, .slice none 0 0, .slice none 0 0, .slice none 0 0, .slice none 0 0, .slice none 0 0, .slice none 0 0, .slice none 0 0] (heap2_1 w _ _), hd.below bb e2, hk.later bb, (ho.later bb).mono (Nat.le_refl _) (by simp; omega), bb.mono (by omega), fun D h => by simp at h, ad, ak, ho.away (by omega), by simp⟩
    have := range_lit #[.pointer (some ⟨dk, 0, none⟩)] (heap2_0 w (.cells #[.pointer (some ⟨dk, 0, none⟩)] 89) (.cells #[.int .i64 0, .slice none 0 0, .slice none 0 0, .slice none 0 0, .slice none 0 0, .slice none 0 0, .slice none 0 0, .slice none 0 0, .slice none 0 0] 30)) 0 _ rfl; exact this
  obtain ⟨⟨n0, n1⟩, n2, n3⟩ := nh
  have BB : Hid (B ≤ w.heap.size) := by unfold Hid; omega
  have HM0 : Hid (b.m = stM f S P S P (P * 8) nilL nilL nilL nilL) := hm
  have N0 : Hid (b.h0 = ⟨none, 0, 0, fun _ => 0⟩) := n0
  have N1 : Hid (b.h1 = ⟨none, 0, 0, fun _ => 0⟩) := n1
  have N2 : Hid (b.h2 = ⟨none, 0, 0, fun _ => 0⟩) := n2
  have N3 : Hid (b.h3 = ⟨none, 0, 0, fun _ => 0⟩) := n3
  clear hd hk ho hm ad ak n0 n1 n2 n3
  refine callsIn_of_wp_marks Tryz.func70 rfl trivial ?_ rfl
  simp only [Tryz.ntmps70, List.size_toArray, List.length_cons, List.length_nil, Nat.reduceAdd, Nat.reduceSub, Array.replicate_succ, Array.replicate_zero, List.push_toArray, List.append_toArray, List.nil_append, List.cons_append]
  gi_wp2
  generalize (w.alloc (.cells #[.pointer (some ⟨dk, 0, none⟩)] 89)).alloc (.cells #[.int .i64 0, .slice none 0 0, .slice none 0 0, .slice none 0 0, .slice none 0 0, .slice none 0 0, .slice none 0 0, .slice none 0 0, .slice none 0 0] 30) = W0 at F0 ⊢
  refine wpIn_loop_rounds 5 ?_
  rw [roundsIn_succ]
  have cx : (W0.alloc (.cells #[.int .i64 0] 3)).cell? ⟨w.heap.size, 0, none⟩ = some (.pointer (some ⟨dk, 0, none⟩)) := ((below1 W0 (.cells #[.int .i64 0] 3)).cell (p := ⟨w.heap.size, 0, none⟩) (World.block_lt_of_cell? _ _ F0.out.x)).trans F0.out.x
  gi_wp2
  refine ⟨trivial, ?_⟩
  refine (callsIn_wide.2 (list_any dk 0 (W0.alloc (.cells #[.int .i64 0] 3)))).mono ?_
  rintro e w' ⟨rfl, rfl⟩
  obtain ⟨LS0, lp0⟩ := F0.out.begin FS 0 (by have := N0.out; simp [draftC, Bx.cells, this]) 3 89
  have HL0 : Hid (Lp _ _ _ _ _ _ _ _ _ _ _ _ _ _ _ _ _ _) := lp0
  have HLS0 : Hid (LpS _ _ _ _ _ _ _ _ _ _ _ _) := LS0
  clear lp0 LS0 cx
  gi_wp2
  have YY0 : Hid (W0.heap.size ≤ (((W0.alloc (.cells #[.int .i64 0] 3)).alloc (.cells #[.pointer (some ⟨dk, 0, none⟩)] 89)).alloc (.cells #[.int .i64 0] 3)).heap.size) := by unfold Hid; simp; omega
  refine over_iter_block (fun xs W => (∃ v, Lp w f S P dk kl B W0.heap.size (((W0.alloc (.cells #[.int .i64 0] 3)).alloc (.cells #[.pointer (some ⟨dk, 0, none⟩)] 89)).alloc (.cells #[.int .i64 0] 3)).heap.size b 0 W0.heap.size (W0.heap.size + 1) (W0.heap.size + 1 + 1) [] v xs W) ∧ xs.length ≤ P * 8) (fun xs W => (∃ v, Lp w f S P dk kl B W0.heap.size (((W0.alloc (.cells #[.int .i64 0] 3)).alloc (.cells #[.pointer (some ⟨dk, 0, none⟩)] 89)).alloc (.cells #[.int .i64 0] 3)).heap.size b 0 W0.heap.size (W0.heap.size + 1) (W0.heap.size + 1 + 1) [] v xs W) ∧ xs.length = P * 8 + 1) _ _ 2 (fun x => { tmps := #[.pointer (some ⟨dk, 0, none⟩), .pointer (some ⟨w.heap.size, 0, none⟩), .pointer (some ⟨w.heap.size + 1, 0, none⟩), .pointer (some ⟨W0.heap.size, 0, none⟩), .int .i64 x, .int .i64 0, .bool true, .int .i64 0, .pointer (some ⟨dk, 0, none⟩), .int .i64 0, .func (.func 128) #[] #[.pointer (some ⟨W0.heap.size + 1, 0, none⟩), .pointer (some ⟨W0.heap.size + 1 + 1, 0, none⟩)], .int .i64 x, undef, undef, undef, undef, undef, undef, undef, undef, undef, undef, undef, undef, undef, undef, undef, undef, undef, undef, undef, undef, undef, undef, undef, undef, undef, undef, undef, undef, undef, undef, undef, undef, undef, undef, undef], defers := [] }) rfl (fun args w => by kernel_rfl) rfl (fun xs => lp_firm HLS0.out hP _) (fun xs => lp_firm HLS0.out hP _) (list_iter HLS0.out hP hP6 (by omega)) ⟨⟨_, HL0.out⟩, Nat.zero_le _⟩ ?_ (fun l ys x W hI => gather_body _ rfl HLS0.out hP hP6 (by omega) l ys x W hI _ _ _ _ _ _ _ _ _ _ _ _ _ _ _ _ _ _ _ _ _ _ _ _ _ _ _ _ _ _ _ _ _ _ _ _ _ _ _ _ _ _ _ _) ?_
  · intro l x W K hK
    gi_wp2
    exact hK
  intro xs W hor hD
  obtain ⟨m0, x, lr, lp, xm, xo, xc⟩ := gathered hor
  obtain ⟨b1, fo, fm, r1, r2, r3⟩ : ∃ y : Bx, Fo w f S P dk kl B y ((((W0.alloc (.cells #[.int .i64 0] 3)).alloc (.cells #[.pointer (some ⟨dk, 0, none⟩)] 89)).alloc (.cells #[.int .i64 0] 3)).heap.size :: []) W ∧ y.m = stM f S P S P (P * 8) (rH f S P 0 m0) nilL nilL nilL ∧ y.h1 = ⟨none, 0, 0, fun _ => 0⟩ ∧ y.h2 = ⟨none, 0, 0, fun _ => 0⟩ ∧ y.h3 = ⟨none, 0, 0, fun _ => 0⟩ := ⟨⟨b.s, b.p, x, b.h1, b.h2, b.h3, b.o, b.i, b.e⟩, lp.end HLS0.out BB.out rfl xo xc rfl (by omega) rfl hD F0.out.ar, by rw [gm0 HM0.out, xm], N1.out, N2.out, N3.out⟩
  obtain ⟨R0, hR⟩ : ∃ r, r = (((W0.alloc (.cells #[.int .i64 0] 3)).alloc (.cells #[.pointer (some ⟨dk, 0, none⟩)] 89)).alloc (.cells #[.int .i64 0] 3)).heap.size := ⟨_, rfl⟩
  rw [← hR] at fo ⊢
  have YR0 : Hid (w.heap.size + 2 ≤ R0) := by unfold Hid; rw [hR]; exact Nat.le_trans F0.out.sz YY0.out
  have LR0 : Hid (ListR (wHd f S 0) (wLk f S P) (P * 8) m0) := lr
  have F1 : Hid (Fo w f S P dk kl B b1 [R0] W) := fo
  have HM1 : Hid (b1.m = stM f S P S P (P * 8) (rH f S P 0 m0) nilL nilL nilL) := fm
  replace N1 : Hid (b1.h1 = ⟨none, 0, 0, fun _ => 0⟩) := r1
  replace N2 : Hid (b1.h2 = ⟨none, 0, 0, fun _ => 0⟩) := r2
  replace N3 : Hid (b1.h3 = ⟨none, 0, 0, fun _ => 0⟩) := r3
  obtain ⟨W1, hW⟩ : ∃ y, y = W := ⟨W, rfl⟩
  subst hW
  clear hor hD lr lp xm xo xc fo fm hR HL0 HLS0 r1 r2 r3 F0 HM0 YY0 x
  gi_wp2
  rw [roundsIn_succ]
  have cx : (W1.alloc (.cells #[.int .i64 1] 3)).cell? ⟨w.heap.size, 0, none⟩ = some (.pointer (some ⟨dk, 0, none⟩)) := ((below1 W1 (.cells #[.int .i64 1] 3)).cell (p := ⟨w.heap.size, 0, none⟩) (World.block_lt_of_cell? _ _ F1.out.x)).trans F1.out.x
  gi_wp2
  refine ⟨trivial, ?_⟩
  refine (callsIn_wide.2 (list_any dk 1 (W1.alloc (.cells #[.int .i64 1] 3)))).mono ?_
  rintro e w' ⟨rfl, rfl⟩
  obtain ⟨LS1, lp1⟩ := F1.out.begin FS 1 (by have := N1.out; simp [draftC, Bx.cells, this]) 3 89
  have HL1 : Hid (Lp _ _ _ _ _ _ _ _ _ _ _ _ _ _ _ _ _ _) := lp1
  have HLS1 : Hid (LpS _ _ _ _ _ _ _ _ _ _ _ _) := LS1
  clear lp1 LS1 cx
  gi_wp2
  have YY1 : Hid (W1.heap.size ≤ (((W1.alloc (.cells #[.int .i64 1] 3)).alloc (.cells #[.pointer (some ⟨dk, 0, none⟩)] 89)).alloc (.cells #[.int .i64 1] 3)).heap.size) := by unfold Hid; simp; omega
  refine over_iter_block (fun xs W => (∃ v, Lp w f S P dk kl B W1.heap.size (((W1.alloc (.cells #[.int .i64 1] 3)).alloc (.cells #[.pointer (some ⟨dk, 0, none⟩)] 89)).alloc (.cells #[.int .i64 1] 3)).heap.size b1 1 W1.heap.size (W1.heap.size + 1) (W1.heap.size + 1 + 1) [R0] v xs W) ∧ xs.length ≤ P * 8) (fun xs W => (∃ v, Lp w f S P dk kl B W1.heap.size (((W1.alloc (.cells #[.int .i64 1] 3)).alloc (.cells #[.pointer (some ⟨dk, 0, none⟩)] 89)).alloc (.cells #[.int .i64 1] 3)).heap.size b1 1 W1.heap.size (W1.heap.size + 1) (W1.heap.size + 1 + 1) [R0] v xs W) ∧ xs.length = P * 8 + 1) _ _ 2 (fun x => { tmps := #[.pointer (some ⟨dk, 0, none⟩), .pointer (some ⟨w.heap.size, 0, none⟩), .pointer (some ⟨w.heap.size + 1, 0, none⟩), .pointer (some ⟨W1.heap.size, 0, none⟩), .int .i64 x, .int .i64 1, .bool true, .int .i64 1, .pointer (some ⟨dk, 0, none⟩), .int .i64 1, .func (.func 128) #[] #[.pointer (some ⟨W1.heap.size + 1, 0, none⟩), .pointer (some ⟨W1.heap.size + 1 + 1, 0, none⟩)], .int .i64 x, undef, undef, undef, undef, undef, undef, undef, undef, undef, undef, undef, undef, undef, undef, undef, undef, undef, undef, undef, undef, undef, undef, undef, undef, undef, undef, undef, undef, undef, undef, .int .i64 1, undef, undef, undef, undef], defers := [] }) rfl (fun args w => by kernel_rfl) rfl (fun xs => lp_firm HLS1.out hP _) (fun xs => lp_firm HLS1.out hP _) (list_iter HLS1.out hP hP6 (by omega)) ⟨⟨_, HL1.out⟩, Nat.zero_le _⟩ ?_ (fun l ys x W hI => gather_body _ rfl HLS1.out hP hP6 (by omega) l ys x W hI _ _ _ _ _ _ _ _ _ _ _ _ _ _ _ _ _ _ _ _ _ _ _ _ _ _ _ _ _ _ _ _ _ _ _ _ _ _ _ _ _ _ _ _) ?_
  · intro l x W K hK
    gi_wp2
    exact hK
  intro xs W hor hD
  obtain ⟨m1, x, lr, lp, xm, xo, xc⟩ := gathered hor
  obtain ⟨b2, fo, fm, r2, r3⟩ : ∃ y : Bx, Fo w f S P dk kl B y ((((W1.alloc (.cells #[.int .i64 1] 3)).alloc (.cells #[.pointer (some ⟨dk, 0, none⟩)] 89)).alloc (.cells #[.int .i64 1] 3)).heap.size :: [R0]) W ∧ y.m = stM f S P S P (P * 8) (rH f S P 0 m0) (rH f S P 1 m1) nilL nilL ∧ y.h2 = ⟨none, 0, 0, fun _ => 0⟩ ∧ y.h3 = ⟨none, 0, 0, fun _ => 0⟩ := ⟨⟨b1.s, b1.p, b1.h0, x, b1.h2, b1.h3, b1.o, b1.i, b1.e⟩, lp.end HLS1.out BB.out rfl xo xc rfl (by omega) rfl hD F1.out.ar, by rw [gm1 HM1.out, xm], N2.out, N3.out⟩
  obtain ⟨R1, hR⟩ : ∃ r, r = (((W1.alloc (.cells #[.int .i64 1] 3)).alloc (.cells #[.pointer (some ⟨dk, 0, none⟩)] 89)).alloc (.cells #[.int .i64 1] 3)).heap.size := ⟨_, rfl⟩
  rw [← hR] at fo ⊢
  have YR1 : Hid (w.heap.size + 2 ≤ R1) := by unfold Hid; rw [hR]; exact Nat.le_trans F1.out.sz YY1.out
  have LT1 : Hid (R0 < R1) := by unfold Hid; rw [hR]; exact Nat.lt_of_lt_of_le (Array.getElem?_eq_some_iff.1 (F1.out.ds R0 (by simp))).1 YY1.out
  have LR1 : Hid (ListR (wHd f S 1) (wLk f S P) (P * 8) m1) := lr
  have F2 : Hid (Fo w f S P dk kl B b2 [R1, R0] W) := fo
  have HM2 : Hid (b2.m = stM f S P S P (P * 8) (rH f S P 0 m0) (rH f S P 1 m1) nilL nilL) := fm
  replace N2 : Hid (b2.h2 = ⟨none, 0, 0, fun _ => 0⟩) := r2
  replace N3 : Hid (b2.h3 = ⟨none, 0, 0, fun _ => 0⟩) := r3
  obtain ⟨W2, hW⟩ : ∃ y, y = W := ⟨W, rfl⟩
  subst hW
  clear hor hD lr lp xm xo xc fo fm hR HL1 HLS1 r2 r3 F1 HM1 YY1 x
  gi_wp2
  rw [roundsIn_succ]
  have cx : (W2.alloc (.cells #[.int .i64 2] 3)).cell? ⟨w.heap.size, 0, none⟩ = some (.pointer (some ⟨dk, 0, none⟩)) := ((below1 W2 (.cells #[.int .i64 2] 3)).cell (p := ⟨w.heap.size, 0, none⟩) (World.block_lt_of_cell? _ _ F2.out.x)).trans F2.out.x
  gi_wp2
  refine ⟨trivial, ?_⟩
  refine (callsIn_wide.2 (list_any dk 2 (W2.alloc (.cells #[.int .i64 2] 3)))).mono ?_
  rintro e w' ⟨rfl, rfl⟩
  obtain ⟨LS2, lp2⟩ := F2.out.begin FS 2 (by have := N2.out; simp [draftC, Bx.cells, this]) 3 89
  have HL2 : Hid (Lp _ _ _ _ _ _ _ _ _ _ _ _ _ _ _ _ _ _) := lp2
  have HLS2 : Hid (LpS _ _ _ _ _ _ _ _ _ _ _ _) := LS2
  clear lp2 LS2 cx
  gi_wp2
  have YY2 : Hid (W2.heap.size ≤ (((W2.alloc (.cells #[.int .i64 2] 3)).alloc (.cells #[.pointer (some ⟨dk, 0, none⟩)] 89)).alloc (.cells #[.int .i64 2] 3)).heap.size) := by unfold Hid; simp; omega
  refine over_iter_block (fun xs W => (∃ v, Lp w f S P dk kl B W2.heap.size (((W2.alloc (.cells #[.int .i64 2] 3)).alloc (.cells #[.pointer (some ⟨dk, 0, none⟩)] 89)).alloc (.cells #[.int .i64 2] 3)).heap.size b2 2 W2.heap.size (W2.heap.size + 1) (W2.heap.size + 1 + 1) [R1, R0] v xs W) ∧ xs.length ≤ P * 8) (fun xs W => (∃ v, Lp w f S P dk kl B W2.heap.size (((W2.alloc (.cells #[.int .i64 2] 3)).alloc (.cells #[.pointer (some ⟨dk, 0, none⟩)] 89)).alloc (.cells #[.int .i64 2] 3)).heap.size b2 2 W2.heap.size (W2.heap.size + 1) (W2.heap.size + 1 + 1) [R1, R0] v xs W) ∧ xs.length = P * 8 + 1) _ _ 2 (fun x => { tmps := #[.pointer (some ⟨dk, 0, none⟩), .pointer (some ⟨w.heap.size, 0, none⟩), .pointer (some ⟨w.heap.size + 1, 0, none⟩), .pointer (some ⟨W2.heap.size, 0, none⟩), .int .i64 x, .int .i64 2, .bool true, .int .i64 2, .pointer (some ⟨dk, 0, none⟩), .int .i64 2, .func (.func 128) #[] #[.pointer (some ⟨W2.heap.size + 1, 0, none⟩), .pointer (some ⟨W2.heap.size + 1 + 1, 0, none⟩)], .int .i64 x, undef, undef, undef, undef, undef, undef, undef, undef, undef, undef, undef, undef, undef, undef, undef, undef, undef, undef, undef, undef, undef, undef, undef, undef, undef, undef, undef, undef, undef, undef, .int .i64 2, undef, undef, undef, undef], defers := [] }) rfl (fun args w => by kernel_rfl) rfl (fun xs => lp_firm HLS2.out hP _) (fun xs => lp_firm HLS2.out hP _) (list_iter HLS2.out hP hP6 (by omega)) ⟨⟨_, HL2.out⟩, Nat.zero_le _⟩ ?_ (fun l ys x W hI => gather_body _ rfl HLS2.out hP hP6 (by omega) l ys x W hI _ _ _ _ _ _ _ _ _ _ _ _ _ _ _ _ _ _ _ _ _ _ _ _ _ _ _ _ _ _ _ _ _ _ _ _ _ _ _ _ _ _ _ _) ?_
  · intro l x W K hK
    gi_wp2
    exact hK
  intro xs W hor hD
  obtain ⟨m2, x, lr, lp, xm, xo, xc⟩ := gathered hor
  obtain ⟨b3, fo, fm, r3⟩ : ∃ y : Bx, Fo w f S P dk kl B y ((((W2.alloc (.cells #[.int .i64 2] 3)).alloc (.cells #[.pointer (some ⟨dk, 0, none⟩)] 89)).alloc (.cells #[.int .i64 2] 3)).heap.size :: [R1, R0]) W ∧ y.m = stM f S P S P (P * 8) (rH f S P 0 m0) (rH f S P 1 m1) (rH f S P 2 m2) nilL ∧ y.h3 = ⟨none, 0, 0, fun _ => 0⟩ := ⟨⟨b2.s, b2.p, b2.h0, b2.h1, x, b2.h3, b2.o, b2.i, b2.e⟩, lp.end HLS2.out BB.out rfl xo xc rfl (by omega) rfl hD F2.out.ar, by rw [gm2 HM2.out, xm], N3.out⟩
  obtain ⟨R2, hR⟩ : ∃ r, r = (((W2.alloc (.cells #[.int .i64 2] 3)).alloc (.cells #[.pointer (some ⟨dk, 0, none⟩)] 89)).alloc (.cells #[.int .i64 2] 3)).heap.size := ⟨_, rfl⟩
  rw [← hR] at fo ⊢
  have YR2 : Hid (w.heap.size + 2 ≤ R2) := by unfold Hid; rw [hR]; exact Nat.le_trans F2.out.sz YY2.out
  have LT2 : Hid (R1 < R2) := by unfold Hid; rw [hR]; exact Nat.lt_of_lt_of_le (Array.getElem?_eq_some_iff.1 (F2.out.ds R1 (by simp))).1 YY2.out
  have LR2 : Hid (ListR (wHd f S 2) (wLk f S P) (P * 8) m2) := lr
  have F3 : Hid (Fo w f S P dk kl B b3 [R2, R1, R0] W) := fo
  have HM3 : Hid (b3.m = stM f S P S P (P * 8) (rH f S P 0 m0) (rH f S P 1 m1) (rH f S P 2 m2) nilL) := fm
  replace N3 : Hid (b3.h3 = ⟨none, 0, 0, fun _ => 0⟩) := r3
  obtain ⟨W3, hW⟩ : ∃ y, y = W := ⟨W, rfl⟩
  subst hW
  clear hor hD lr lp xm xo xc fo fm hR HL2 HLS2 r3 F2 HM2 YY2 x
  gi_wp2
  rw [roundsIn_succ]
  have cx : (W3.alloc (.cells #[.int .i64 3] 3)).cell? ⟨w.heap.size, 0, none⟩ = some (.pointer (some ⟨dk, 0, none⟩)) := ((below1 W3 (.cells #[.int .i64 3] 3)).cell (p := ⟨w.heap.size, 0, none⟩) (World.block_lt_of_cell? _ _ F3.out.x)).trans F3.out.x
  gi_wp2
  refine ⟨trivial, ?_⟩
  refine (callsIn_wide.2 (list_any dk 3 (W3.alloc (.cells #[.int .i64 3] 3)))).mono ?_
  rintro e w' ⟨rfl, rfl⟩
  obtain ⟨LS3, lp3⟩ := F3.out.begin FS 3 (by have := N3.out; simp [draftC, Bx.cells, this]) 3 89
  have HL3 : Hid (Lp _ _ _ _ _ _ _ _ _ _ _ _ _ _ _ _ _ _) := lp3
  have HLS3 : Hid (LpS _ _ _ _ _ _ _ _ _ _ _ _) := LS3
  clear lp3 LS3 cx
  gi_wp2
  have YY3 : Hid (W3.heap.size ≤ (((W3.alloc (.cells #[.int .i64 3] 3)).alloc (.cells #[.pointer (some ⟨dk, 0, none⟩)] 89)).alloc (.cells #[.int .i64 3] 3)).heap.size) := by unfold Hid; simp; omega
  refine over_iter_block (fun xs W => (∃ v, Lp w f S P dk kl B W3.heap.size (((W3.alloc (.cells #[.int .i64 3] 3)).alloc (.cells #[.pointer (some ⟨dk, 0, none⟩)] 89)).alloc (.cells #[.int .i64 3] 3)).heap.size b3 3 W3.heap.size (W3.heap.size + 1) (W3.heap.size + 1 + 1) [R2, R1, R0] v xs W) ∧ xs.length ≤ P * 8) (fun xs W => (∃ v, Lp w f S P dk kl B W3.heap.size (((W3.alloc (.cells #[.int .i64 3] 3)).alloc (.cells #[.pointer (some ⟨dk, 0, none⟩)] 89)).alloc (.cells #[.int .i64 3] 3)).heap.size b3 3 W3.heap.size (W3.heap.size + 1) (W3.heap.size + 1 + 1) [R2, R1, R0] v xs W) ∧ xs.length = P * 8 + 1) _ _ 2 (fun x => { tmps := #[.pointer (some ⟨dk, 0, none⟩), .pointer (some ⟨w.heap.size, 0, none⟩), .pointer (some ⟨w.heap.size + 1, 0, none⟩), .pointer (some ⟨W3.heap.size, 0, none⟩), .int .i64 x, .int .i64 3, .bool true, .int .i64 3, .pointer (some ⟨dk, 0, none⟩), .int .i64 3, .func (.func 128) #[] #[.pointer (some ⟨W3.heap.size + 1, 0, none⟩), .pointer (some ⟨W3.heap.size + 1 + 1, 0, none⟩)], .int .i64 x, undef, undef, undef, undef, undef, undef, undef, undef, undef, undef, undef, undef, undef, undef, undef, undef, undef, undef, undef, undef, undef, undef, undef, undef, undef, undef, undef, undef, undef, undef, .int .i64 3, undef, undef, undef, undef], defers := [] }) rfl (fun args w => by kernel_rfl) rfl (fun xs => lp_firm HLS3.out hP _) (fun xs => lp_firm HLS3.out hP _) (list_iter HLS3.out hP hP6 (by omega)) ⟨⟨_, HL3.out⟩, Nat.zero_le _⟩ ?_ (fun l ys x W hI => gather_body _ rfl HLS3.out hP hP6 (by omega) l ys x W hI _ _ _ _ _ _ _ _ _ _ _ _ _ _ _ _ _ _ _ _ _ _ _ _ _ _ _ _ _ _ _ _ _ _ _ _ _ _ _ _ _ _ _ _) ?_
  · intro l x W K hK
    gi_wp2
    exact hK
  intro xs W hor hD
  obtain ⟨m3, x, lr, lp, xm, xo, xc⟩ := gathered hor
  obtain ⟨b4, fo, fm⟩ : ∃ y : Bx, Fo w f S P dk kl B y ((((W3.alloc (.cells #[.int .i64 3] 3)).alloc (.cells #[.pointer (some ⟨dk, 0, none⟩)] 89)).alloc (.cells #[.int .i64 3] 3)).heap.size :: [R2, R1, R0]) W ∧ y.m = stM f S P S P (P * 8) (rH f S P 0 m0) (rH f S P 1 m1) (rH f S P 2 m2) (rH f S P 3 m3) := ⟨⟨b3.s, b3.p, b3.h0, b3.h1, b3.h2, x, b3.o, b3.i, b3.e⟩, lp.end HLS3.out BB.out rfl xo xc rfl (by omega) rfl hD F3.out.ar, by rw [gm3 HM3.out, xm]⟩
  obtain ⟨R3, hR⟩ : ∃ r, r = (((W3.alloc (.cells #[.int .i64 3] 3)).alloc (.cells #[.pointer (some ⟨dk, 0, none⟩)] 89)).alloc (.cells #[.int .i64 3] 3)).heap.size := ⟨_, rfl⟩
  rw [← hR] at fo ⊢
  have YR3 : Hid (w.heap.size + 2 ≤ R3) := by unfold Hid; rw [hR]; exact Nat.le_trans F3.out.sz YY3.out
  have LT3 : Hid (R2 < R3) := by unfold Hid; rw [hR]; exact Nat.lt_of_lt_of_le (Array.getElem?_eq_some_iff.1 (F3.out.ds R2 (by simp))).1 YY3.out
  have LR3 : Hid (ListR (wHd f S 3) (wLk f S P) (P * 8) m3) := lr
  have F4 : Hid (Fo w f S P dk kl B b4 [R3, R2, R1, R0] W) := fo
  have HM4 : Hid (b4.m = stM f S P S P (P * 8) (rH f S P 0 m0) (rH f S P 1 m1) (rH f S P 2 m2) (rH f S P 3 m3)) := fm
  obtain ⟨W4, hW⟩ : ∃ y, y = W := ⟨W, rfl⟩
  subst hW
  clear hor hD lr lp xm xo xc fo fm hR HL3 HLS3 F3 HM3 YY3 x
  gi_wp2
  rw [roundsIn_succ]
  obtain ⟨w9, e9, ck9, ow9, be9, ds9⟩ := F4.out.leave FS
  obtain ⟨u0, u1, u2, u3, u4, u5, u6, u7, u8⟩ := nine (x := b4) (k := dk) (fun j v hv => by
    have hl : j < b4.cells.length := (List.getElem?_eq_some_iff.1 hv).1
    have := (F4.out.d j v (by unfold draftC; rw [List.getElem?_append_left hl]; exact hv)).1
    simpa using this)
  have tk0 := F4.out.t 0 _ rfl
  have tk1 := F4.out.t 1 _ rfl
  have tk2 := F4.out.t 2 _ rfl
  have tk3 := F4.out.t 3 _ rfl
  have tk4 := F4.out.t 4 _ rfl
  have tk5 := F4.out.t 5 _ rfl
  have tk6 := F4.out.t 6 _ rfl
  have tk7 := F4.out.t 7 _ rfl
  have tk8 := F4.out.t 8 _ rfl
  have cx := F4.out.x
  have HE : Hid (w9 = _) := e9
  have CK : Hid (Ck w9 _ _) := ck9
  have OW : Hid (b4.Own B w9.heap.size w9) := ow9
  have BE : Hid (Below B w w9) := be9
  have DS : Hid (∀ D ∈ [R3, R2, R1, R0], w9.heap[D]? = some (.deferred (some []))) := ds9
  clear e9 ck9 ow9 be9 ds9
  gi_wp2
  rw [← HE.out]
  have b0 : B ≤ w.heap.size := BB.out
  have y0 := YR0.out; have y1 := YR1.out; have y2 := YR2.out; have y3 := YR3.out
  have l1 := LT1.out; have l2 := LT2.out; have l3 := LT3.out
  have d3 := DS.out R3 (by simp)
  obtain ⟨ca, oa, ba, sa⟩ := leave_step d3 CK.out OW.out BE.out (by omega)
  have d2 := (sa R2 (by omega)).trans (DS.out R2 (by simp))
  obtain ⟨cb, ob, bb, sb⟩ := leave_step d2 ca oa ba (by omega)
  have d1 := (sb R1 (by omega)).trans ((sa R1 (by omega)).trans (DS.out R1 (by simp)))
  obtain ⟨cc, oc, bc, sc⟩ := leave_step d1 cb ob bb (by omega)
  have d0 := (sc R0 (by omega)).trans ((sb R0 (by omega)).trans ((sa R0 (by omega)).trans (DS.out R0 (by simp))))
  obtain ⟨cd, od, bd, sd⟩ := leave_step d0 cc oc bc (by omega)
  refine ⟨by simp, .inl ⟨_, _, rfl, run_takeDeferred d3, ?_⟩⟩
  refine ⟨by simp, .inl ⟨_, _, rfl, run_takeDeferred d2, ?_⟩⟩
  refine ⟨by simp, .inl ⟨_, _, rfl, run_takeDeferred d1, ?_⟩⟩
  refine ⟨by simp, .inl ⟨_, _, rfl, run_takeDeferred d0, ?_⟩⟩
  exact ⟨_, results_cell_mid rfl _ _ (w.heap.size + 1) 0 _ _ rfl cd.range Tryz.underlying30 rfl (by kernel_rfl), b4, rfl, ⟨m0, m1, m2, m3, ⟨LR0.out, LR1.out, LR2.out, LR3.out⟩, HM4.out⟩, od, bd⟩

end Go.Proofs.YtgfbfgiohmdjmaaGreat.Book

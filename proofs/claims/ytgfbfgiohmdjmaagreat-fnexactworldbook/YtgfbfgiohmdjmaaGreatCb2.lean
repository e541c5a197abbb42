/- The book that words tell of, whether it is one or not; by the specification. Conditions: the words are those of a house, without their desks at least. -/
import Derived.Test.YtgfbfgiohmdjmaaGreatM23
import Derived.Test.YtgfbfgiohmdjmaaGreatSOpen
import Derived.Test.YtgfbfgiohmdjmaaGreatNin
namespace Go.Proofs.YtgfbfgiohmdjmaaGreat.Book
open Go.ChangeShapes Go.WideShapes Go.ChangeAt Go.RowKit
open Aid Lst Words
open Plat (okB okB_of getF W64)
set_option maxRecDepth 100000
set_option linter.unusedVariables false

/- What the reading rests on: the house, where the answer will lie, the book in a variable. -/
structure RW (w0 : World) (S P : Nat) (l : Int) (bk : Nat) (b : Bx) (w : World) : Prop where
  c : w.rangeAt w0.heap.size 0 (ints [(S : Int), (P : Int), l])
  t : Ck w (w0.heap.size + 1) [.int .i64 0, .slice none 0 0, .slice none 0 0, .slice none 0 0, .slice none 0 0, .slice none 0 0, .slice none 0 0, .slice none 0 0, .slice none 0 0]
  v : Ck w bk b.cells
  b : Below w0.heap.size w0 w
  z : bk < w.heap.size
  y : w0.heap.size + 2 ≤ bk
theorem RW.later {w0 w w1 : World} {S P : Nat} {l : Int} {bk : Nat} {b : Bx} (h : RW w0 S P l bk b w) (hb : Below w.heap.size w w1) : RW w0 S P l bk b w1 :=
  have := h.z; have := h.y
  ⟨range_below hb h.c (by omega), h.t.below hb (by omega), h.v.below hb (by omega), h.b.trans (hb.mono h.b.size), Nat.lt_of_lt_of_le h.z hb.size, h.y⟩
theorem RW.drew {w0 w : World} {S P : Nat} {l : Int} {bk : Nat} {b : Bx} (h : RW w0 S P l bk b w) : RW w0 S P l bk b w.drew := ⟨h.c, h.t, h.v, ⟨h.b.os, h.b.tape, h.b.output, h.b.size, h.b.block⟩, h.z, h.y⟩
theorem RW.set {w0 w : World} {S P : Nat} {l : Int} {bk : Nat} {b : Bx} (h : RW w0 S P l bk b w) (k j : Nat) (hk : w0.heap.size + 2 ≤ k) (hne : k ≠ bk) (x : Value) : RW w0 S P l bk b (w.setCell ⟨k, j, none⟩ x) :=
  ⟨fun i v hv => by rw [World.cell?_setCell_far _ _ _ _ (fun q => by simp at q; omega)]; exact h.c i v hv, h.t.far _ (fun q => by simp at q; omega) x, h.v.far _ hne x,
   h.b.setCell (p := ⟨k, j, none⟩) (show w0.heap.size ≤ k by omega) x, by have := h.z; simpa using this, h.y⟩
theorem RW.same {w0 w : World} {S P : Nat} {l : Int} {bk : Nat} {b b' : Bx} (h : RW w0 S P l bk b w) (e : b'.cells = b.cells) : RW w0 S P l bk b' w := ⟨h.c, h.t, by rw [e]; exact h.v, h.b, h.z, h.y⟩
theorem Bx.Own.drew {b : Bx} {B C : Nat} {w : World} (hx : b.Own B C w) : b.Own B C w.drew := ⟨fun x hi => by
  rcases hx.each x hi with h | ⟨k, e, h1, h2, h⟩
  · exact .inl h
  · exact .inr ⟨k, e, h1, h2, h⟩, hx.apart, hx.caps⟩
theorem Bx.Own.row {b : Bx} {B C : Nat} {w : World} (h : b.Own B C w) {x : Sx} (hx : x ∈ b.lists) (hn : 0 < x.n) : ∃ k, x.a = some ⟨k, 0, none⟩ ∧ B ≤ k ∧ k < C ∧ Fk .i64 x.n w k x.f := by
  rcases h.each x hx with h0 | h0
  · omega
  · exact h0
def Bx.setp (b : Bx) (j : Nat) (v : Int) : Bx := ⟨b.s, b.p.put j v, b.h0, b.h1, b.h2, b.h3, b.o, b.i, b.e⟩
def Bx.seto (b : Bx) (j : Nat) (v : Int) : Bx := ⟨b.s, b.p, b.h0, b.h1, b.h2, b.h3, b.o.put j v, b.i, b.e⟩
def Bx.sete (b : Bx) (j : Nat) (v : Int) : Bx := ⟨b.s, b.p, b.h0, b.h1, b.h2, b.h3, b.o, b.i, b.e.put j v⟩
theorem st_reg {f : Nat → Int} {S P n : Nat} {b : Bx} {h0 h1 h2 h3 : Nat × (Nat → Int)} (h : b.m = stM f S P n 0 0 h0 h1 h2 h3) : ((b.seti n (rI f n)).sete n (rE f n)).m = stM f S P (n + 1) 0 0 h0 h1 h2 h3 := by
  have e1 : b.i.f = cutn n (rI f) := congrArg (fun m => m.i.2) h
  have e2 : b.e.f = cutn n (rE f) := congrArg (fun m => m.e.2) h
  have n1 : b.i.n = S := congrArg (fun m => m.i.1) h
  have n2 : b.e.n = S := congrArg (fun m => m.e.1) h
  unfold stM
  rw [← cutn_upd n (rI f), ← cutn_upd n (rE f), ← e1, ← e2]
  unfold stM at h
  simp only [Bx.m, Bx.seti, Bx.sete, Sx.put, Sx.m, Bm.mk.injEq] at h ⊢
  obtain ⟨a1, a2, a3, a4, a5, a6, a7, -, -⟩ := h
  exact ⟨a1, a2, a3, a4, a5, a6, a7, by rw [n1], by rw [n2]⟩
theorem st_page {f : Nat → Int} {S P n : Nat} {b : Bx} {h0 h1 h2 h3 : Nat × (Nat → Int)} (h : b.m = stM f S P S n 0 h0 h1 h2 h3) : (b.setp n (rP f S n)).m = stM f S P S (n + 1) 0 h0 h1 h2 h3 := by
  have e1 : b.p.f = cutn n (rP f S) := congrArg (fun m => m.p.2) h
  have n1 : b.p.n = P := congrArg (fun m => m.p.1) h
  unfold stM
  rw [← cutn_upd n (rP f S), ← e1]
  unfold stM at h
  simp only [Bx.m, Bx.setp, Sx.put, Sx.m, Bm.mk.injEq] at h ⊢
  obtain ⟨a1, -, a3, a4, a5, a6, a7, a8, a9⟩ := h
  exact ⟨a1, by rw [n1], a3, a4, a5, a6, a7, a8, a9⟩
theorem st_tag {f : Nat → Int} {S P n : Nat} {b : Bx} {h0 h1 h2 h3 : Nat × (Nat → Int)} (h : b.m = stM f S P S P n h0 h1 h2 h3) : (b.seto n (rO f S P n)).m = stM f S P S P (n + 1) h0 h1 h2 h3 := by
  have e1 : b.o.f = cutn n (rO f S P) := congrArg (fun m => m.o.2) h
  have n1 : b.o.n = P * 8 := congrArg (fun m => m.o.1) h
  unfold stM
  rw [← cutn_upd n (rO f S P), ← e1]
  unfold stM at h
  simp only [Bx.m, Bx.seto, Sx.put, Sx.m, Bm.mk.injEq] at h ⊢
  obtain ⟨a1, a2, a3, a4, a5, a6, -, a8, a9⟩ := h
  exact ⟨a1, a2, a3, a4, a5, a6, by rw [n1], a8, a9⟩

theorem Bx.Own.offb {b : Bx} {B C bk : Nat} {w : World} (h : b.Own B C w) (aw : Away b bk) (j : Nat) (v : Value) : b.Own B C (w.setCell ⟨bk, j, none⟩ v) := ⟨fun x hi => by
  rcases h.each x hi with h0 | ⟨k, e, h1, h2, h3⟩
  · exact .inl h0
  · by_cases g : 0 < x.n
    · exact .inr ⟨k, e, h1, h2, h3.far ⟨bk, j, none⟩ (fun q => aw x hi k 0 e g q.symm) v⟩
    · exact .inl (by omega), h.apart, h.caps⟩
theorem RW.put {w0 w : World} {S P : Nat} {l : Int} {bk : Nat} {b b' : Bx} (h : RW w0 S P l bk b w) (i : Nat) (x : Value) (e : b'.cells = b.cells.set i x) : RW w0 S P l bk b' (w.setCell ⟨bk, i, none⟩ x) :=
  have := h.y
  ⟨fun j v hv => by rw [World.cell?_setCell_far _ _ _ _ (fun q => by simp at q; omega)]; exact h.c j v hv, h.t.far _ (fun q => by simp at q; omega) x, by rw [e]; exact h.v.set i x, h.b.setCell (p := ⟨bk, i, none⟩) (show w0.heap.size ≤ bk by omega) x, by have := h.z; simpa using this, h.y⟩
theorem Bx.Own.away {b : Bx} {B C bk : Nat} {w : World} (h : b.Own B C w) (hC : C ≤ bk) : Away b bk := fun x hx k o e hp hk => by
  rcases h.each x hx with h0 | ⟨j, e', g1, g2, g3⟩
  · omega
  · rw [e] at e'; cases e'; omega
theorem head0 {w0 V : World} {S P bk B C D : Nat} {l : Int} {b : Bx} {f : Nat → Int} {h0 h1 h2 h3 : Nat × (Nat → Int)} (hr : RW w0 S P l bk b V) (ho : b.Own (w0.heap.size + 2) C V) (aw : Away b bk) (hm : b.m = stM f S P S P (P * 8) h0 h1 h2 h3) (x : Sx) (xo : x.Own B D V) (xc : x.n ≤ x.c) (hB : bk < B) (hC : C ≤ B) (hD : C ≤ D) :
    ∃ b' : Bx, RW w0 S P l bk b' (V.setCell ⟨bk, 2, none⟩ (.slice x.a x.n x.c)) ∧ b'.Own (w0.heap.size + 2) D (V.setCell ⟨bk, 2, none⟩ (.slice x.a x.n x.c)) ∧ Away b' bk ∧ b'.m = stM f S P S P (P * 8) x.m h1 h2 h3 := by
  have hy := hr.y
  have xf : x.Own B D (V.setCell ⟨bk, 2, none⟩ (.slice x.a x.n x.c)) := by
    rcases xo with h0 | ⟨k, e, h1, h2, h3⟩
    · exact .inl h0
    · exact .inr ⟨k, e, h1, h2, h3.far ⟨bk, 2, none⟩ (fun q => by simp at q; omega) _⟩
  refine ⟨⟨b.s, b.p, x, b.h1, b.h2, b.h3, b.o, b.i, b.e⟩, hr.put 2 _ rfl, (ho.offb aw 2 _).head 1 (by simp [Bx.lists]) x xf xc hC hD (by omega) rfl, ?_, ?_⟩
  · have xa : ∀ k o, x.a = some ⟨k, o, none⟩ → 0 < x.n → k ≠ bk := fun k o e hp hk => by
      rcases xo with h0 | ⟨j, e', g1, g2, g3⟩
      · omega
      · rw [e] at e'; cases e'; omega
    intro y hy' k o e hp
    simp only [Bx.lists, List.mem_cons, List.not_mem_nil, or_false] at hy'
    rcases hy' with rfl | rfl | rfl | rfl | rfl | rfl | rfl | rfl
    all_goals first | exact xa k o e hp | exact aw _ (by simp [Bx.lists]) k o e hp
  · unfold stM at hm ⊢
    simp only [Bx.m, Bm.mk.injEq] at hm ⊢
    obtain ⟨a1, a2, a3, a4, a5, a6, a7, a8, a9⟩ := hm
    exact ⟨a1, a2, trivial, a4, a5, a6, a7, a8, a9⟩
theorem head1 {w0 V : World} {S P bk B C D : Nat} {l : Int} {b : Bx} {f : Nat → Int} {h0 h1 h2 h3 : Nat × (Nat → Int)} (hr : RW w0 S P l bk b V) (ho : b.Own (w0.heap.size + 2) C V) (aw : Away b bk) (hm : b.m = stM f S P S P (P * 8) h0 h1 h2 h3) (x : Sx) (xo : x.Own B D V) (xc : x.n ≤ x.c) (hB : bk < B) (hC : C ≤ B) (hD : C ≤ D) :
    ∃ b' : Bx, RW w0 S P l bk b' (V.setCell ⟨bk, 3, none⟩ (.slice x.a x.n x.c)) ∧ b'.Own (w0.heap.size + 2) D (V.setCell ⟨bk, 3, none⟩ (.slice x.a x.n x.c)) ∧ Away b' bk ∧ b'.m = stM f S P S P (P * 8) h0 x.m h2 h3 := by
  have hy := hr.y
  have xf : x.Own B D (V.setCell ⟨bk, 3, none⟩ (.slice x.a x.n x.c)) := by
    rcases xo with h0 | ⟨k, e, h1, h2, h3⟩
    · exact .inl h0
    · exact .inr ⟨k, e, h1, h2, h3.far ⟨bk, 3, none⟩ (fun q => by simp at q; omega) _⟩
  refine ⟨⟨b.s, b.p, b.h0, x, b.h2, b.h3, b.o, b.i, b.e⟩, hr.put 3 _ rfl, (ho.offb aw 3 _).head 2 (by simp [Bx.lists]) x xf xc hC hD (by omega) rfl, ?_, ?_⟩
  · have xa : ∀ k o, x.a = some ⟨k, o, none⟩ → 0 < x.n → k ≠ bk := fun k o e hp hk => by
      rcases xo with h0 | ⟨j, e', g1, g2, g3⟩
      · omega
      · rw [e] at e'; cases e'; omega
    intro y hy' k o e hp
    simp only [Bx.lists, List.mem_cons, List.not_mem_nil, or_false] at hy'
    rcases hy' with rfl | rfl | rfl | rfl | rfl | rfl | rfl | rfl
    all_goals first | exact xa k o e hp | exact aw _ (by simp [Bx.lists]) k o e hp
  · unfold stM at hm ⊢
    simp only [Bx.m, Bm.mk.injEq] at hm ⊢
    obtain ⟨a1, a2, a3, a4, a5, a6, a7, a8, a9⟩ := hm
    exact ⟨a1, a2, a3, trivial, a5, a6, a7, a8, a9⟩
theorem head2 {w0 V : World} {S P bk B C D : Nat} {l : Int} {b : Bx} {f : Nat → Int} {h0 h1 h2 h3 : Nat × (Nat → Int)} (hr : RW w0 S P l bk b V) (ho : b.Own (w0.heap.size + 2) C V) (aw : Away b bk) (hm : b.m = stM f S P S P (P * 8) h0 h1 h2 h3) (x : Sx) (xo : x.Own B D V) (xc : x.n ≤ x.c) (hB : bk < B) (hC : C ≤ B) (hD : C ≤ D) :
    ∃ b' : Bx, RW w0 S P l bk b' (V.setCell ⟨bk, 4, none⟩ (.slice x.a x.n x.c)) ∧ b'.Own (w0.heap.size + 2) D (V.setCell ⟨bk, 4, none⟩ (.slice x.a x.n x.c)) ∧ Away b' bk ∧ b'.m = stM f S P S P (P * 8) h0 h1 x.m h3 := by
  have hy := hr.y
  have xf : x.Own B D (V.setCell ⟨bk, 4, none⟩ (.slice x.a x.n x.c)) := by
    rcases xo with h0 | ⟨k, e, h1, h2, h3⟩
    · exact .inl h0
    · exact .inr ⟨k, e, h1, h2, h3.far ⟨bk, 4, none⟩ (fun q => by simp at q; omega) _⟩
  refine ⟨⟨b.s, b.p, b.h0, b.h1, x, b.h3, b.o, b.i, b.e⟩, hr.put 4 _ rfl, (ho.offb aw 4 _).head 3 (by simp [Bx.lists]) x xf xc hC hD (by omega) rfl, ?_, ?_⟩
  · have xa : ∀ k o, x.a = some ⟨k, o, none⟩ → 0 < x.n → k ≠ bk := fun k o e hp hk => by
      rcases xo with h0 | ⟨j, e', g1, g2, g3⟩
      · omega
      · rw [e] at e'; cases e'; omega
    intro y hy' k o e hp
    simp only [Bx.lists, List.mem_cons, List.not_mem_nil, or_false] at hy'
    rcases hy' with rfl | rfl | rfl | rfl | rfl | rfl | rfl | rfl
    all_goals first | exact xa k o e hp | exact aw _ (by simp [Bx.lists]) k o e hp
  · unfold stM at hm ⊢
    simp only [Bx.m, Bm.mk.injEq] at hm ⊢
    obtain ⟨a1, a2, a3, a4, a5, a6, a7, a8, a9⟩ := hm
    exact ⟨a1, a2, a3, a4, trivial, a6, a7, a8, a9⟩
theorem head3 {w0 V : World} {S P bk B C D : Nat} {l : Int} {b : Bx} {f : Nat → Int} {h0 h1 h2 h3 : Nat × (Nat → Int)} (hr : RW w0 S P l bk b V) (ho : b.Own (w0.heap.size + 2) C V) (aw : Away b bk) (hm : b.m = stM f S P S P (P * 8) h0 h1 h2 h3) (x : Sx) (xo : x.Own B D V) (xc : x.n ≤ x.c) (hB : bk < B) (hC : C ≤ B) (hD : C ≤ D) :
    ∃ b' : Bx, RW w0 S P l bk b' (V.setCell ⟨bk, 5, none⟩ (.slice x.a x.n x.c)) ∧ b'.Own (w0.heap.size + 2) D (V.setCell ⟨bk, 5, none⟩ (.slice x.a x.n x.c)) ∧ Away b' bk ∧ b'.m = stM f S P S P (P * 8) h0 h1 h2 x.m := by
  have hy := hr.y
  have xf : x.Own B D (V.setCell ⟨bk, 5, none⟩ (.slice x.a x.n x.c)) := by
    rcases xo with h0 | ⟨k, e, h1, h2, h3⟩
    · exact .inl h0
    · exact .inr ⟨k, e, h1, h2, h3.far ⟨bk, 5, none⟩ (fun q => by simp at q; omega) _⟩
  refine ⟨⟨b.s, b.p, b.h0, b.h1, b.h2, x, b.o, b.i, b.e⟩, hr.put 5 _ rfl, (ho.offb aw 5 _).head 4 (by simp [Bx.lists]) x xf xc hC hD (by omega) rfl, ?_, ?_⟩
  · have xa : ∀ k o, x.a = some ⟨k, o, none⟩ → 0 < x.n → k ≠ bk := fun k o e hp hk => by
      rcases xo with h0 | ⟨j, e', g1, g2, g3⟩
      · omega
      · rw [e] at e'; cases e'; omega
    intro y hy' k o e hp
    simp only [Bx.lists, List.mem_cons, List.not_mem_nil, or_false] at hy'
    rcases hy' with rfl | rfl | rfl | rfl | rfl | rfl | rfl | rfl
    all_goals first | exact xa k o e hp | exact aw _ (by simp [Bx.lists]) k o e hp
  · unfold stM at hm ⊢
    simp only [Bx.m, Bm.mk.injEq] at hm ⊢
    obtain ⟨a1, a2, a3, a4, a5, a6, a7, a8, a9⟩ := hm
    exact ⟨a1, a2, a3, a4, a5, trivial, a7, a8, a9⟩

set_option maxHeartbeats 8000000 in
theorem sread_any (S P : Nat) (l : Int) (a : Option Addr) (N cap : Nat) (f : Nat → Int) (w : World) (h : Sl .u64 w a N f) (hN : N ≤ 1000000000) (hw : W64 f) (ok : okB S P l = true) (hH : 3 + S + S + 4 + P + P * 8 + P * 8 ≤ N) :
    Calls Tryz.prog 49 #[.slice a N cap, .agg #[.int .i64 S, .int .i64 P, .int .i64 l]] w fun e w' => ∃ c : Bx, e = .returned (.agg c.cells.toArray) ∧ RdM f S P c.m ∧ c.Own w.heap.size w'.heap.size w' ∧ Below w.heap.size w w' := by
  obtain ⟨k1, k2, k3, k4, k5, k6⟩ := okB_of ok
  have OKB : Hid (okB S P l = true) := ok
  have HW : Hid (W64 f) := hw
  have C0 : Hid (((w.alloc (.cells #[.int .i64 S, .int .i64 P, .int .i64 l] 62)).alloc (.cells #[.int .i64 0, .slice none 0 0, .slice none 0 0, .slice none 0 0, .slice none 0 0, .slice none 0 0, .slice none 0 0, .slice none 0 0, .slice none 0 0] 30)).rangeAt w.heap.size 0 (ints [(S : Int), (P : Int), l])) := range_lit (ints [(S : Int), (P : Int), l]).toArray (heap2_0 w _ _)
  have T0 : Hid (Ck ((w.alloc (.cells #[.int .i64 S, .int .i64 P, .int .i64 l] 62)).alloc (.cells #[.int .i64 0, .slice none 0 0, .slice none 0 0, .slice none 0 0, .slice none 0 0, .slice none 0 0, .slice none 0 0, .slice none 0 0, .slice none 0 0] 30)) (w.heap.size + 1) [.int .i64 0, .slice none 0 0, .slice none 0 0, .slice none 0 0, .slice none 0 0, .slice none 0 0, .slice none 0 0, .slice none 0 0, .slice none 0 0]) := ck_lit #[.int .i64 0, .slice none 0 0, .slice none 0 0, .slice none 0 0, .slice none 0 0, .slice none 0 0, .slice none 0 0, .slice none 0 0, .slice none 0 0] (heap2_1 w _ _)
  have B0 : Hid (Below w.heap.size w ((w.alloc (.cells #[.int .i64 S, .int .i64 P, .int .i64 l] 62)).alloc (.cells #[.int .i64 0, .slice none 0 0, .slice none 0 0, .slice none 0 0, .slice none 0 0, .slice none 0 0, .slice none 0 0, .slice none 0 0, .slice none 0 0] 30))) := below2 _ _ _
  have y0 : w.heap.size + 2 ≤ ((w.alloc (.cells #[.int .i64 S, .int .i64 P, .int .i64 l] 62)).alloc (.cells #[.int .i64 0, .slice none 0 0, .slice none 0 0, .slice none 0 0, .slice none 0 0, .slice none 0 0, .slice none 0 0, .slice none 0 0, .slice none 0 0] 30)).heap.size := by simp
  have HSL : Hid (Sl .u64 w a N f) := h
  clear ok hw h
  go_enter Tryz.func49, Tryz.ntmps49
  go_wp2_with (fail)
  generalize (w.alloc (.cells #[.int .i64 S, .int .i64 P, .int .i64 l] 62)).alloc (.cells #[.int .i64 0, .slice none 0 0, .slice none 0 0, .slice none 0 0, .slice none 0 0, .slice none 0 0, .slice none 0 0, .slice none 0 0, .slice none 0 0] 30) = W0 at C0 T0 B0 y0 ⊢
  refine (sopen_any S P l W0).mono ?_
  rintro e W1 ⟨b0, rfl, bm, bo, hb⟩
  simp only [Bx.cells]
  obtain ⟨bk, hbk⟩ : ∃ bk, bk = W1.heap.size := ⟨_, rfl⟩
  have z1 := hb.size
  have M0 : Hid (b0.m = stM f S P 0 0 0 nilL nilL nilL nilL) := by
    unfold Hid
    rw [bm]
    unfold openM stM
    rw [if_pos OKB.out, cutn_zero, cutn_zero, cutn_zero, cutn_zero]
    simp [nilL]
  obtain ⟨BZ, hBZ⟩ : ∃ BZ : Array Value, BZ = #[.int .i64 b0.s, .slice b0.p.a b0.p.n b0.p.c, .slice b0.h0.a b0.h0.n b0.h0.c, .slice b0.h1.a b0.h1.n b0.h1.c, .slice b0.h2.a b0.h2.n b0.h2.c, .slice b0.h3.a b0.h3.n b0.h3.c, .slice b0.o.a b0.o.n b0.o.c, .slice b0.i.a b0.i.n b0.i.c, .slice b0.e.a b0.e.n b0.e.c] := ⟨_, rfl⟩
  have HR : Hid (RW w S P l bk b0 (W1.alloc (.cells BZ 30))) := by
    have q := below1 W1 (.cells BZ 30)
    refine ⟨range_below q (range_below hb C0.out (by omega)) (by omega), (T0.out.below hb (by omega)).below q (by omega), ?_, (B0.out.trans (hb.mono B0.out.size)).trans (q.mono (by omega)), by simp; omega, by omega⟩
    have e := ck_lit BZ (heap1_0 W1 (.cells BZ 30))
    rw [← hbk] at e
    rw [hBZ] at e ⊢
    exact e
  have HO : Hid (b0.Own (w.heap.size + 2) bk (W1.alloc (.cells BZ 30))) := (bo.mono y0 (by omega)).later (below1 _ _)
  clear bm bo hb C0 T0 B0 y0 z1
  go_wp2_with (fail)
  rw [← hBZ, ← hbk]
  generalize W1.alloc (.cells BZ 30) = W2 at HR HO ⊢
  clear hBZ hbk
  go_loopw [6] (fun i wr => ∃ (n : Nat) (b : Bx), n ≤ S ∧ i = .int .i64 n ∧ RW w S P l bk b wr ∧ b.Own (w.heap.size + 2) bk wr ∧ b.m = stM f S P n 0 0 nilL nilL nilL nilL) (fun i _ => S - (intOf i).toNat)
  case atStart => exact ⟨0, b0, by omega, rfl, HR.out, HO.out, M0.out⟩
  case' round =>
  obtain ⟨n, b, hn, rfl, hr, ho, hm⟩ := hrel
  have HR' : Hid (RW w S P l bk b wr) := hr
  have HO' : Hid (b.Own (w.heap.size + 2) bk wr) := ho
  have HM' : Hid (b.m = stM f S P n 0 0 nilL nilL nilL nilL) := hm
  have c0 := at0 hr.c 0 (v := .int .i64 S) rfl
  have c1 := at0 hr.c 1 (v := .int .i64 P) rfl
  have c6 := (hr.v 6 _ rfl).1
  have no : b.o.n = P * 8 := congrArg (fun m => m.o.1) hm
  rw [no] at c6
  have zb := hr.y
  clear hr ho hm HR HO M0
  by_cases lt : n < S
  · have lt2 : (n : Int) < S := by omega
    have ni : b.i.n = S := congrArg (fun m => m.i.1) HM'.out
    obtain ⟨ki, ei, gi, li, -⟩ := HO'.out.row (x := b.i) (by simp [Bx.lists]) (by omega)
    have Ai : Hid (b.i.a = some ⟨ki, 0, none⟩) := ei
    have Ni : Hid (b.i.n = S) := ni
    clear ei ni
    have ne : b.e.n = S := congrArg (fun m => m.e.1) HM'.out
    obtain ⟨ke, ee, ge, le, -⟩ := HO'.out.row (x := b.e) (by simp [Bx.lists]) (by omega)
    have Ae : Hid (b.e.a = some ⟨ke, 0, none⟩) := ee
    have Ne : Hid (b.e.n = S) := ne
    clear ee ne
    go_wp2_with (fail)
    clear c0 c1 c6 no
    refine wp_region_held_drew (S := RW w S P l bk b) (by kernel_rfl) HR'.out.drew (fun hS => ?_)
    have OW : Hid (b.Own (w.heap.size + 2) bk wr.drew) := HO'.out.drew
    clear HR' HO'
    refine tI 0 (v := .pointer (some ⟨bk, 7, none⟩)) (d := some 19) rfl rfl (fun w' hw => ?_) (by assumption) ?_
    · clear hw; go_simp
    simp only [Act.put, s1, s2, s3]
    refine tI 1 (v := .slice (some ⟨ki, 0, none⟩) S b.i.c) (d := some 20) rfl rfl (fun w' hw => ?_) (by assumption) ?_
    · have q := (hw.v 7 _ rfl).1; rw [Ai.out, Ni.out] at q; clear hw; go_simp
    simp only [Act.put, s1, s2, s3]
    refine tI 2 (v := .int .i64 n) (d := some 21) rfl rfl (fun w' hw => ?_) (by assumption) ?_
    · clear hw; go_simp
    simp only [Act.put, s1, s2, s3]
    refine tI 3 (v := .pointer (some ⟨bk, 8, none⟩)) (d := some 22) rfl rfl (fun w' hw => ?_) (by assumption) ?_
    · clear hw; go_simp
    simp only [Act.put, s1, s2, s3]
    refine tI 4 (v := .slice (some ⟨ke, 0, none⟩) S b.e.c) (d := some 23) rfl rfl (fun w' hw => ?_) (by assumption) ?_
    · have q := (hw.v 8 _ rfl).1; rw [Ae.out, Ne.out] at q; clear hw; go_simp
    simp only [Act.put, s1, s2, s3]
    refine tI 5 (v := .int .i64 n) (d := some 24) rfl rfl (fun w' hw => ?_) (by assumption) ?_
    · clear hw; go_simp
    simp only [Act.put, s1, s2, s3]
    refine tI 6 (v := .slice a N cap) (d := some 25) rfl rfl (fun w' hw => ?_) (by assumption) ?_
    · clear hw; go_simp
    simp only [Act.put, s1, s2, s3]
    refine tI 7 (v := .agg #[.int .i64 S, .int .i64 P, .int .i64 l]) (d := some 26) rfl rfl (fun w' hw => ?_) (by assumption) ?_
    · have e0 := hw.c 0 _ rfl; have e1 := hw.c 1 _ rfl; have e2 := hw.c 2 _ rfl; simp only [Nat.zero_add] at e0 e1 e2; clear hw; go_simp
    simp only [Act.put, s1, s2, s3]
    refine tI 8 (v := .int .i64 n) (d := some 27) rfl rfl (fun w' hw => ?_) (by assumption) ?_
    · clear hw; go_simp
    simp only [Act.put, s1, s2, s3]
    generalize World.drew _ = V at hS OW ⊢
    refine r1 9 rfl (fun K hK => ?_)
    have HQ : Hid (RW _ _ _ _ _ _ _) := hS
    clear hS
    go_simp
    refine (Plat.sreg_any S P l n V).mono ?_
    rintro e V1 ⟨rfl, hb⟩
    obtain ⟨at_, hat⟩ : ∃ a : Nat, a = 3 + n := ⟨_, rfl⟩
    have HAT : Hid (at_ = 3 + n) := hat
    have ix : at_ < N := by omega
    have ea : Plat.addr (S : Int) P l S 1 3 n = (at_ : Int) := by rw [addr_in OKB.out (by omega) (by omega)]; omega
    rw [ea]
    clear hat ea
    have HQ1 : Hid (RW _ _ _ _ _ _ _) := HQ.out.later hb
    have OW1 : Hid (b.Own (w.heap.size + 2) bk V1) := OW.out.later hb
    clear hb HQ OW
    go_simp
    refine hK.out _ _ HQ1.out (fun hS => ?_)
    clear hK K HQ1
    have hg : getF N f at_ = f at_ := by unfold getF; rw [if_pos ⟨by omega, by omega⟩]; rfl
    obtain ⟨g0, g1⟩ := HW.out at_
    refine r1 10 rfl (fun K hK => ?_)
    have HQ : Hid (RW _ _ _ _ _ _ _) := hS
    clear hS
    go_simp
    refine (Plat.sload_any a N cap f at_ V1 (HSL.out.later HQ.out.b) hN).mono ?_
    rintro e V1 ⟨rfl, rfl⟩
    rw [hg]
    go_simp
    refine hK.out _ _ HQ.out (fun hS => ?_)
    clear hK K HQ
    refine r1 11 rfl (fun K hK => ?_)
    have HQ : Hid (RW _ _ _ _ _ _ _) := hS
    clear hS
    go_simp
    refine (Words.sregOf_any (f at_) V1 g0 g1).mono ?_
    rintro e V1 ⟨rfl, rfl⟩
    have eI : lo32 (f at_) % 4 = rI f n := by rw [HAT.out]; rfl
    have eE : lo32 (f at_) / 4 = rE f n := by rw [HAT.out]; rfl
    rw [eI, eE]
    clear eI eE hg g0 g1
    go_simp
    refine hK.out _ _ HQ.out (fun hS => ?_)
    clear hK K HQ
    refine tI 12 (v := .tuple #[.int .i64 (rI f n), .int .i64 (rE f n)]) (d := some 18) rfl rfl (fun w' hw => ?_) (by assumption) ?_
    · clear hw; go_simp
    simp only [Act.put, s1, s2, s3]
    refine tI 13 (v := .int .i64 (rI f n)) (d := some 31) rfl rfl (fun w' hw => ?_) (by assumption) ?_
    · clear hw; go_simp
    simp only [Act.put, s1, s2, s3]
    refine tI 14 (v := .int .i64 (rE f n)) (d := some 32) rfl rfl (fun w' hw => ?_) (by assumption) ?_
    · clear hw; go_simp
    simp only [Act.put, s1, s2, s3]
    refine tI 15 (v := .pointer (some ⟨ki, n, none⟩)) (d := some 33) rfl rfl (fun w' hw => ?_) (by assumption) ?_
    · clear hw; go_simp
    simp only [Act.put, s1, s2, s3]
    have cd := ((OW1.out.row (x := b.i) (by simp [Bx.lists]) (by have := Ni.out; show 0 < b.i.n; omega)))
    obtain ⟨kk, ek, -, -, fk⟩ := cd
    have ek2 : kk = ki := by have := Ai.out; rw [show b.i.a = b.i.a from rfl, this] at ek; cases ek; rfl
    rw [ek2] at fk
    have cc := fk n (by have := Ni.out; show n < b.i.n; omega)
    clear ek ek2 fk kk
    refine r1 16 rfl (fun K hK => ?_)
    have HQ : Hid (RW _ _ _ _ _ _ _) := hS
    have HQ2 : Hid (RW w S P l bk b (V1.setCell ⟨ki, n, none⟩ (.int .i64 (rI f n)))) := HQ.out.set ki n (by omega) (by omega) _
    have OW2 : Hid ((b.seti n (rI f n)).Own (w.heap.size + 2) bk (V1.setCell ⟨ki, n, none⟩ (.int .i64 (rI f n)))) := OW1.out.write 6 b.i rfl ki n Ai.out (by have := Ni.out; show n < b.i.n; omega) _ rfl
    clear hS OW1 HQ
    go_simp
    refine hK.out _ _ HQ2.out (fun hS => ?_)
    clear hK K HQ2 cc
    generalize V1.setCell ⟨ki, n, none⟩ (.int .i64 (rI f n)) = V2 at hS OW2 ⊢
    refine tI 17 (v := .pointer (some ⟨ke, n, none⟩)) (d := some 34) rfl rfl (fun w' hw => ?_) (by assumption) ?_
    · clear hw; go_simp
    simp only [Act.put, s1, s2, s3]
    have cd := ((OW2.out.row (x := (b.seti n (rI f n)).e) (by simp [Bx.lists]) (by have := Ne.out; show 0 < b.e.n; omega)))
    obtain ⟨kk, ek, -, -, fk⟩ := cd
    have ek2 : kk = ke := by have := Ae.out; rw [show (b.seti n (rI f n)).e.a = b.e.a from rfl, this] at ek; cases ek; rfl
    rw [ek2] at fk
    have cc := fk n (by have := Ne.out; show n < b.e.n; omega)
    clear ek ek2 fk kk
    refine r1 18 rfl (fun K hK => ?_)
    have HQ : Hid (RW _ _ _ _ _ _ _) := hS
    have HQ2 : Hid (RW w S P l bk b (V2.setCell ⟨ke, n, none⟩ (.int .i64 (rE f n)))) := HQ.out.set ke n (by omega) (by omega) _
    have OW3 : Hid (((b.seti n (rI f n)).sete n (rE f n)).Own (w.heap.size + 2) bk (V2.setCell ⟨ke, n, none⟩ (.int .i64 (rE f n)))) := OW2.out.write 7 (b.seti n (rI f n)).e rfl ke n Ae.out (by have := Ne.out; show n < b.e.n; omega) _ rfl
    clear hS OW2 HQ
    go_simp
    refine hK.out _ _ HQ2.out (fun hS => ?_)
    clear hK K HQ2 cc
    generalize V2.setCell ⟨ke, n, none⟩ (.int .i64 (rE f n)) = V3 at hS OW3 ⊢
    refine wpAnyH_done (by kernel_rfl) ?_ _
    have HR2 : Hid (RW w S P l bk ((b.seti n (rI f n)).sete n (rE f n)) V3) := hS.same rfl
    have HM2 : Hid (((b.seti n (rI f n)).sete n (rE f n)).m = stM f S P (n + 1) 0 0 nilL nilL nilL nilL) := st_reg HM'.out
    clear hS HM'
    go_wp2_with (fail)
    go_roundw
    case rel => exact ⟨n + 1, ((b.seti n (rI f n)).sete n (rE f n)), by omega, by go_num, HR2.out, OW3.out, HM2.out⟩
    case measure => simp [intOf]; omega
  have en : n = S := by omega
  have HR : Hid (RW w S P l bk b wr) := HR'.out
  have HO : Hid (b.Own (w.heap.size + 2) bk wr) := HO'.out
  have M0 : Hid (b.m = stM f S P S 0 0 nilL nilL nilL nilL) := by unfold Hid; rw [en] at HM'; exact HM'.out
  skip
  clear en HR' HO' HM' hn
  go_wp2_with (fail)
  clear c0 c1 c6 no lt
  obtain ⟨b1, hbn⟩ : ∃ x, x = b := ⟨b, rfl⟩
  subst hbn
  go_loopw [7] (fun i wr => ∃ (n : Nat) (b : Bx), n ≤ P ∧ i = .int .i64 n ∧ RW w S P l bk b wr ∧ b.Own (w.heap.size + 2) bk wr ∧ b.m = stM f S P S n 0 nilL nilL nilL nilL) (fun i _ => P - (intOf i).toNat)
  case atStart => exact ⟨0, b1, by omega, rfl, HR.out, HO.out, M0.out⟩
  case' round =>
  obtain ⟨n, b, hn, rfl, hr, ho, hm⟩ := hrel
  have HR' : Hid (RW w S P l bk b wr) := hr
  have HO' : Hid (b.Own (w.heap.size + 2) bk wr) := ho
  have HM' : Hid (b.m = stM f S P S n 0 nilL nilL nilL nilL) := hm
  have c0 := at0 hr.c 0 (v := .int .i64 S) rfl
  have c1 := at0 hr.c 1 (v := .int .i64 P) rfl
  have c6 := (hr.v 6 _ rfl).1
  have no : b.o.n = P * 8 := congrArg (fun m => m.o.1) hm
  rw [no] at c6
  have zb := hr.y
  clear hr ho hm HR HO M0
  by_cases lt : n < P
  · have lt2 : (n : Int) < P := by omega
    have np : b.p.n = P := congrArg (fun m => m.p.1) HM'.out
    obtain ⟨kp, ep, gp, lp, -⟩ := HO'.out.row (x := b.p) (by simp [Bx.lists]) (by omega)
    have Ap : Hid (b.p.a = some ⟨kp, 0, none⟩) := ep
    have Np : Hid (b.p.n = P) := np
    clear ep np
    go_wp2_with (fail)
    clear c0 c1 c6 no
    refine wp_region_held_drew (S := RW w S P l bk b) (by kernel_rfl) HR'.out.drew (fun hS => ?_)
    have OW : Hid (b.Own (w.heap.size + 2) bk wr.drew) := HO'.out.drew
    clear HR' HO'
    refine tI 0 (v := .pointer (some ⟨bk, 1, none⟩)) (d := some 41) rfl rfl (fun w' hw => ?_) (by assumption) ?_
    · clear hw; go_simp
    simp only [Act.put, s1, s2, s3]
    refine tI 1 (v := .slice (some ⟨kp, 0, none⟩) (P) b.p.c) (d := some 42) rfl rfl (fun w' hw => ?_) (by assumption) ?_
    · have q := (hw.v 1 _ rfl).1; rw [Ap.out, Np.out] at q; clear hw; go_simp
    simp only [Act.put, s1, s2, s3]
    refine tI 2 (v := .int .i64 n) (d := some 43) rfl rfl (fun w' hw => ?_) (by assumption) ?_
    · clear hw; go_simp
    simp only [Act.put, s1, s2, s3]
    refine tI 3 (v := .slice a N cap) (d := some 44) rfl rfl (fun w' hw => ?_) (by assumption) ?_
    · clear hw; go_simp
    simp only [Act.put, s1, s2, s3]
    refine tI 4 (v := .agg #[.int .i64 S, .int .i64 P, .int .i64 l]) (d := some 45) rfl rfl (fun w' hw => ?_) (by assumption) ?_
    · have e0 := hw.c 0 _ rfl; have e1 := hw.c 1 _ rfl; have e2 := hw.c 2 _ rfl; simp only [Nat.zero_add] at e0 e1 e2; clear hw; go_simp
    simp only [Act.put, s1, s2, s3]
    refine tI 5 (v := .int .i64 n) (d := some 46) rfl rfl (fun w' hw => ?_) (by assumption) ?_
    · clear hw; go_simp
    simp only [Act.put, s1, s2, s3]
    generalize World.drew _ = V at hS OW ⊢
    refine r1 6 rfl (fun K hK => ?_)
    have HQ : Hid (RW _ _ _ _ _ _ _) := hS
    clear hS
    go_simp
    refine (Plat.spage_any S P l n V).mono ?_
    rintro e V1 ⟨rfl, hb⟩
    obtain ⟨at_, hat⟩ : ∃ a : Nat, a = 3 + S + S + 4 + n := ⟨_, rfl⟩
    have HAT : Hid (at_ = 3 + S + S + 4 + n) := hat
    have ix : at_ < N := by omega
    have ea : Plat.addr (S : Int) P l P 1 (3 + S + S + 4) n = (at_ : Int) := by rw [addr_in OKB.out (by omega) (by omega)]; omega
    rw [ea]
    clear hat ea
    have HQ1 : Hid (RW _ _ _ _ _ _ _) := HQ.out.later hb
    have OW1 : Hid (b.Own (w.heap.size + 2) bk V1) := OW.out.later hb
    clear hb HQ OW
    go_simp
    refine hK.out _ _ HQ1.out (fun hS => ?_)
    clear hK K HQ1
    refine r1 7 rfl (fun K hK => ?_)
    have HQ : Hid (RW _ _ _ _ _ _ _) := hS
    clear hS
    go_simp
    refine (sl4val_any a N cap f at_ V1 (HSL.out.later HQ.out.b) hN HW.out ix).mono ?_
    rintro e V1 ⟨rfl, rfl⟩
    have eI : lo32 (f at_) = rP f S n := by rw [HAT.out]; rfl
    rw [eI]
    clear eI
    go_simp
    refine hK.out _ _ HQ.out (fun hS => ?_)
    clear hK K HQ
    refine tI 8 (v := .pointer (some ⟨kp, n, none⟩)) (d := some 49) rfl rfl (fun w' hw => ?_) (by assumption) ?_
    · clear hw; go_simp
    simp only [Act.put, s1, s2, s3]
    have cd := ((OW1.out.row (x := b.p) (by simp [Bx.lists]) (by have := Np.out; show 0 < b.p.n; omega)))
    obtain ⟨kk, ek, -, -, fk⟩ := cd
    have ek2 : kk = kp := by have := Ap.out; rw [show b.p.a = b.p.a from rfl, this] at ek; cases ek; rfl
    rw [ek2] at fk
    have cc := fk n (by have := Np.out; show n < b.p.n; omega)
    clear ek ek2 fk kk
    refine r1 9 rfl (fun K hK => ?_)
    have HQ : Hid (RW _ _ _ _ _ _ _) := hS
    have HQ2 : Hid (RW w S P l bk b (V1.setCell ⟨kp, n, none⟩ (.int .i64 (rP f S n)))) := HQ.out.set kp n (by omega) (by omega) _
    have OW2 : Hid ((b.setp n (rP f S n)).Own (w.heap.size + 2) bk (V1.setCell ⟨kp, n, none⟩ (.int .i64 (rP f S n)))) := OW1.out.write 0 b.p rfl kp n Ap.out (by have := Np.out; show n < b.p.n; omega) _ rfl
    clear hS OW1 HQ
    go_simp
    refine hK.out _ _ HQ2.out (fun hS => ?_)
    clear hK K HQ2 cc
    generalize V1.setCell ⟨kp, n, none⟩ (.int .i64 (rP f S n)) = V2 at hS OW2 ⊢
    refine wpAnyH_done (by kernel_rfl) ?_ _
    have HR2 : Hid (RW w S P l bk (b.setp n (rP f S n)) V2) := hS.same rfl
    have HM2 : Hid ((b.setp n (rP f S n)).m = stM f S P S (n + 1) 0 nilL nilL nilL nilL) := st_page HM'.out
    clear hS HM'
    go_wp2_with (fail)
    go_roundw
    case rel => exact ⟨n + 1, (b.setp n (rP f S n)), by omega, by go_num, HR2.out, OW2.out, HM2.out⟩
    case measure => simp [intOf]; omega
  have en : n = P := by omega
  have HR : Hid (RW w S P l bk b wr) := HR'.out
  have HO : Hid (b.Own (w.heap.size + 2) bk wr) := HO'.out
  have M0 : Hid (b.m = stM f S P S P 0 nilL nilL nilL nilL) := by unfold Hid; rw [en] at HM'; exact HM'.out
  skip
  clear en HR' HO' HM' hn
  go_wp2_with (fail)
  clear c0 c1 c6 no lt
  obtain ⟨b2, hbn⟩ : ∃ x, x = b := ⟨b, rfl⟩
  subst hbn
  go_loopw [8] (fun i wr => ∃ (n : Nat) (b : Bx), n ≤ P * 8 ∧ i = .int .i64 n ∧ RW w S P l bk b wr ∧ b.Own (w.heap.size + 2) bk wr ∧ b.m = stM f S P S P n nilL nilL nilL nilL) (fun i _ => P * 8 - (intOf i).toNat)
  case atStart => exact ⟨0, b2, by omega, rfl, HR.out, HO.out, M0.out⟩
  case' round =>
  obtain ⟨n, b, hn, rfl, hr, ho, hm⟩ := hrel
  have HR' : Hid (RW w S P l bk b wr) := hr
  have HO' : Hid (b.Own (w.heap.size + 2) bk wr) := ho
  have HM' : Hid (b.m = stM f S P S P n nilL nilL nilL nilL) := hm
  have c0 := at0 hr.c 0 (v := .int .i64 S) rfl
  have c1 := at0 hr.c 1 (v := .int .i64 P) rfl
  have c6 := (hr.v 6 _ rfl).1
  have no : b.o.n = P * 8 := congrArg (fun m => m.o.1) hm
  rw [no] at c6
  have zb := hr.y
  clear hr ho hm HR HO M0
  by_cases lt : n < P * 8
  · have lt2 : (n : Int) < P * 8 := by omega
    have no : b.o.n = P * 8 := congrArg (fun m => m.o.1) HM'.out
    obtain ⟨ko, eo, go, lo, -⟩ := HO'.out.row (x := b.o) (by simp [Bx.lists]) (by omega)
    have Ao : Hid (b.o.a = some ⟨ko, 0, none⟩) := eo
    have No : Hid (b.o.n = P * 8) := no
    clear eo no
    go_wp2_with (fail)
    clear c0 c1 c6 no
    refine wp_region_held_drew (S := RW w S P l bk b) (by kernel_rfl) HR'.out.drew (fun hS => ?_)
    have OW : Hid (b.Own (w.heap.size + 2) bk wr.drew) := HO'.out.drew
    clear HR' HO'
    refine tI 0 (v := .pointer (some ⟨bk, 6, none⟩)) (d := some 57) rfl rfl (fun w' hw => ?_) (by assumption) ?_
    · clear hw; go_simp
    simp only [Act.put, s1, s2, s3]
    refine tI 1 (v := .slice (some ⟨ko, 0, none⟩) (P * 8) b.o.c) (d := some 58) rfl rfl (fun w' hw => ?_) (by assumption) ?_
    · have q := (hw.v 6 _ rfl).1; rw [Ao.out, No.out] at q; clear hw; go_simp
    simp only [Act.put, s1, s2, s3]
    refine tI 2 (v := .int .i64 n) (d := some 59) rfl rfl (fun w' hw => ?_) (by assumption) ?_
    · clear hw; go_simp
    simp only [Act.put, s1, s2, s3]
    refine tI 3 (v := .slice a N cap) (d := some 60) rfl rfl (fun w' hw => ?_) (by assumption) ?_
    · clear hw; go_simp
    simp only [Act.put, s1, s2, s3]
    refine tI 4 (v := .agg #[.int .i64 S, .int .i64 P, .int .i64 l]) (d := some 61) rfl rfl (fun w' hw => ?_) (by assumption) ?_
    · have e0 := hw.c 0 _ rfl; have e1 := hw.c 1 _ rfl; have e2 := hw.c 2 _ rfl; simp only [Nat.zero_add] at e0 e1 e2; clear hw; go_simp
    simp only [Act.put, s1, s2, s3]
    refine tI 5 (v := .int .i64 n) (d := some 62) rfl rfl (fun w' hw => ?_) (by assumption) ?_
    · clear hw; go_simp
    simp only [Act.put, s1, s2, s3]
    generalize World.drew _ = V at hS OW ⊢
    refine r1 6 rfl (fun K hK => ?_)
    have HQ : Hid (RW _ _ _ _ _ _ _) := hS
    clear hS
    go_simp
    refine (Plat.stag_any S P l n V).mono ?_
    rintro e V1 ⟨rfl, hb⟩
    obtain ⟨at_, hat⟩ : ∃ a : Nat, a = 3 + S + S + 4 + P + n := ⟨_, rfl⟩
    have HAT : Hid (at_ = 3 + S + S + 4 + P + n) := hat
    have ix : at_ < N := by omega
    have ea : Plat.addr (S : Int) P l (P * 8) 1 (3 + S + S + 4 + P) n = (at_ : Int) := by rw [addr_in OKB.out (by omega) (by omega)]; omega
    rw [ea]
    clear hat ea
    have HQ1 : Hid (RW _ _ _ _ _ _ _) := HQ.out.later hb
    have OW1 : Hid (b.Own (w.heap.size + 2) bk V1) := OW.out.later hb
    clear hb HQ OW
    go_simp
    refine hK.out _ _ HQ1.out (fun hS => ?_)
    clear hK K HQ1
    refine r1 7 rfl (fun K hK => ?_)
    have HQ : Hid (RW _ _ _ _ _ _ _) := hS
    clear hS
    go_simp
    refine (sl4val_any a N cap f at_ V1 (HSL.out.later HQ.out.b) hN HW.out ix).mono ?_
    rintro e V1 ⟨rfl, rfl⟩
    have eI : lo32 (f at_) = rO f S P n := by rw [HAT.out]; rfl
    rw [eI]
    clear eI
    go_simp
    refine hK.out _ _ HQ.out (fun hS => ?_)
    clear hK K HQ
    refine tI 8 (v := .pointer (some ⟨ko, n, none⟩)) (d := some 65) rfl rfl (fun w' hw => ?_) (by assumption) ?_
    · clear hw; go_simp
    simp only [Act.put, s1, s2, s3]
    have cd := ((OW1.out.row (x := b.o) (by simp [Bx.lists]) (by have := No.out; show 0 < b.o.n; omega)))
    obtain ⟨kk, ek, -, -, fk⟩ := cd
    have ek2 : kk = ko := by have := Ao.out; rw [show b.o.a = b.o.a from rfl, this] at ek; cases ek; rfl
    rw [ek2] at fk
    have cc := fk n (by have := No.out; show n < b.o.n; omega)
    clear ek ek2 fk kk
    refine r1 9 rfl (fun K hK => ?_)
    have HQ : Hid (RW _ _ _ _ _ _ _) := hS
    have HQ2 : Hid (RW w S P l bk b (V1.setCell ⟨ko, n, none⟩ (.int .i64 (rO f S P n)))) := HQ.out.set ko n (by omega) (by omega) _
    have OW2 : Hid ((b.seto n (rO f S P n)).Own (w.heap.size + 2) bk (V1.setCell ⟨ko, n, none⟩ (.int .i64 (rO f S P n)))) := OW1.out.write 5 b.o rfl ko n Ao.out (by have := No.out; show n < b.o.n; omega) _ rfl
    clear hS OW1 HQ
    go_simp
    refine hK.out _ _ HQ2.out (fun hS => ?_)
    clear hK K HQ2 cc
    generalize V1.setCell ⟨ko, n, none⟩ (.int .i64 (rO f S P n)) = V2 at hS OW2 ⊢
    refine wpAnyH_done (by kernel_rfl) ?_ _
    have HR2 : Hid (RW w S P l bk (b.seto n (rO f S P n)) V2) := hS.same rfl
    have HM2 : Hid ((b.seto n (rO f S P n)).m = stM f S P S P (n + 1) nilL nilL nilL nilL) := st_tag HM'.out
    clear hS HM'
    go_wp2_with (fail)
    go_roundw
    case rel => exact ⟨n + 1, (b.seto n (rO f S P n)), by omega, by go_num, HR2.out, OW2.out, HM2.out⟩
    case measure => simp [intOf]; omega
  have en : n = P * 8 := by omega
  have HR : Hid (RW w S P l bk b wr) := HR'.out
  have HO : Hid (b.Own (w.heap.size + 2) bk wr) := HO'.out
  have M0 : Hid (b.m = stM f S P S P (P * 8) nilL nilL nilL nilL) := by unfold Hid; rw [en] at HM'; exact HM'.out
  have ltw : ¬ (n : Int) < P * 8 := by omega
  clear en HR' HO' HM' hn
  go_wp2_with (fail)
  clear c0 c1 c6 no lt ltw
  obtain ⟨b3, hbn⟩ : ∃ x, x = b := ⟨b, rfl⟩
  subst hbn
  refine wp_loop_rounds 5 ?_
  have AW3 : Hid (Away b3 bk) := HO.out.away (Nat.le_refl _)
  have HR3 : Hid (RW w S P l bk b3 wr) := HR.out
  have HO3 : Hid (b3.Own (w.heap.size + 2) bk wr) := HO.out
  have M3 : Hid (b3.m = stM f S P S P (P * 8) nilL nilL nilL nilL) := M0.out
  have q3 : bk ≤ wr.heap.size := Nat.le_of_lt HR.out.z
  clear HR HO M0
  obtain ⟨V3, hV⟩ : ∃ x, x = wr := ⟨wr, rfl⟩
  subst hV
  obtain ⟨C3, hC⟩ : ∃ x, x = bk := ⟨bk, rfl⟩
  rw [← hC] at HO3 q3
  have D3 : C3 ≤ V3.heap.size := q3
  clear hC q3
  rw [rounds_succ]
  have c0 := at0 HR3.out.c 0 (v := .int .i64 S) rfl
  have c1 := at0 HR3.out.c 1 (v := .int .i64 P) rfl
  have c2 := at0 HR3.out.c 2 (v := .int .i64 l) rfl
  have zb := HR3.out.z
  go_wp2_with (fail)
  refine (slist_any S P 0 l a N cap f V3 (HSL.out.later HR3.out.b) hN HW.out OKB.out (by omega) hH).mono ?_
  rintro e U3 ⟨v, m0, rfl, lr, ow, hb⟩
  obtain ⟨x, rfl, xm, xo, xc⟩ := row_sx (pre_len _ _ _) ow
  have zu := hb.size
  obtain ⟨b4, r2, o2, a2, e2⟩ := head0 (HR3.out.later hb) (HO3.out.later hb) AW3.out M3.out x xo xc (by omega) (by omega) (by omega)
  have cc := (HR3.out.later hb).v 2 _ rfl
  have LR0 : Hid (ListR (wHd f S 0) (wLk f S P) (P * 8) m0) := lr
  have HR4 : Hid (RW w S P l bk b4 (U3.setCell ⟨bk, 2, none⟩ (.slice x.a x.n x.c))) := r2
  have HO4 : Hid (b4.Own (w.heap.size + 2) U3.heap.size (U3.setCell ⟨bk, 2, none⟩ (.slice x.a x.n x.c))) := o2
  have AW4 : Hid (Away b4 bk) := a2
  have M4 : Hid (b4.m = stM f S P S P (P * 8) (rH f S P 0 m0) nilL nilL nilL) := by
    unfold Hid
    rw [e2, xm]
    rfl
  have D4 : U3.heap.size ≤ (U3.setCell ⟨bk, 2, none⟩ (.slice x.a x.n x.c)).heap.size := by simp
  clear lr ow hb xm xo xc r2 o2 a2 e2 HR3 HO3 AW3 M3 c0 c1 c2 zb zu D3
  go_wp2_with (fail)
  clear cc
  generalize U3.setCell ⟨bk, 2, none⟩ (.slice x.a x.n x.c) = V4 at HR4 HO4 D4 ⊢
  obtain ⟨C4, hC⟩ : ∃ y, y = U3.heap.size := ⟨_, rfl⟩
  rw [← hC] at HO4 D4
  clear hC
  rw [rounds_succ]
  have c0 := at0 HR4.out.c 0 (v := .int .i64 S) rfl
  have c1 := at0 HR4.out.c 1 (v := .int .i64 P) rfl
  have c2 := at0 HR4.out.c 2 (v := .int .i64 l) rfl
  have zb := HR4.out.z
  go_wp2_with (fail)
  refine (slist_any S P 1 l a N cap f V4 (HSL.out.later HR4.out.b) hN HW.out OKB.out (by omega) hH).mono ?_
  rintro e U4 ⟨v, m1, rfl, lr, ow, hb⟩
  obtain ⟨x, rfl, xm, xo, xc⟩ := row_sx (pre_len _ _ _) ow
  have zu := hb.size
  obtain ⟨b5, r2, o2, a2, e2⟩ := head1 (HR4.out.later hb) (HO4.out.later hb) AW4.out M4.out x xo xc (by omega) (by omega) (by omega)
  have cc := (HR4.out.later hb).v 3 _ rfl
  have LR1 : Hid (ListR (wHd f S 1) (wLk f S P) (P * 8) m1) := lr
  have HR5 : Hid (RW w S P l bk b5 (U4.setCell ⟨bk, 3, none⟩ (.slice x.a x.n x.c))) := r2
  have HO5 : Hid (b5.Own (w.heap.size + 2) U4.heap.size (U4.setCell ⟨bk, 3, none⟩ (.slice x.a x.n x.c))) := o2
  have AW5 : Hid (Away b5 bk) := a2
  have M5 : Hid (b5.m = stM f S P S P (P * 8) (rH f S P 0 m0) (rH f S P 1 m1) nilL nilL) := by
    unfold Hid
    rw [e2, xm]
    rfl
  have D5 : U4.heap.size ≤ (U4.setCell ⟨bk, 3, none⟩ (.slice x.a x.n x.c)).heap.size := by simp
  clear lr ow hb xm xo xc r2 o2 a2 e2 HR4 HO4 AW4 M4 c0 c1 c2 zb zu D4
  go_wp2_with (fail)
  clear cc
  generalize U4.setCell ⟨bk, 3, none⟩ (.slice x.a x.n x.c) = V5 at HR5 HO5 D5 ⊢
  obtain ⟨C5, hC⟩ : ∃ y, y = U4.heap.size := ⟨_, rfl⟩
  rw [← hC] at HO5 D5
  clear hC
  rw [rounds_succ]
  have c0 := at0 HR5.out.c 0 (v := .int .i64 S) rfl
  have c1 := at0 HR5.out.c 1 (v := .int .i64 P) rfl
  have c2 := at0 HR5.out.c 2 (v := .int .i64 l) rfl
  have zb := HR5.out.z
  go_wp2_with (fail)
  refine (slist_any S P 2 l a N cap f V5 (HSL.out.later HR5.out.b) hN HW.out OKB.out (by omega) hH).mono ?_
  rintro e U5 ⟨v, m2, rfl, lr, ow, hb⟩
  obtain ⟨x, rfl, xm, xo, xc⟩ := row_sx (pre_len _ _ _) ow
  have zu := hb.size
  obtain ⟨b6, r2, o2, a2, e2⟩ := head2 (HR5.out.later hb) (HO5.out.later hb) AW5.out M5.out x xo xc (by omega) (by omega) (by omega)
  have cc := (HR5.out.later hb).v 4 _ rfl
  have LR2 : Hid (ListR (wHd f S 2) (wLk f S P) (P * 8) m2) := lr
  have HR6 : Hid (RW w S P l bk b6 (U5.setCell ⟨bk, 4, none⟩ (.slice x.a x.n x.c))) := r2
  have HO6 : Hid (b6.Own (w.heap.size + 2) U5.heap.size (U5.setCell ⟨bk, 4, none⟩ (.slice x.a x.n x.c))) := o2
  have AW6 : Hid (Away b6 bk) := a2
  have M6 : Hid (b6.m = stM f S P S P (P * 8) (rH f S P 0 m0) (rH f S P 1 m1) (rH f S P 2 m2) nilL) := by
    unfold Hid
    rw [e2, xm]
    rfl
  have D6 : U5.heap.size ≤ (U5.setCell ⟨bk, 4, none⟩ (.slice x.a x.n x.c)).heap.size := by simp
  clear lr ow hb xm xo xc r2 o2 a2 e2 HR5 HO5 AW5 M5 c0 c1 c2 zb zu D5
  go_wp2_with (fail)
  clear cc
  generalize U5.setCell ⟨bk, 4, none⟩ (.slice x.a x.n x.c) = V6 at HR6 HO6 D6 ⊢
  obtain ⟨C6, hC⟩ : ∃ y, y = U5.heap.size := ⟨_, rfl⟩
  rw [← hC] at HO6 D6
  clear hC
  rw [rounds_succ]
  have c0 := at0 HR6.out.c 0 (v := .int .i64 S) rfl
  have c1 := at0 HR6.out.c 1 (v := .int .i64 P) rfl
  have c2 := at0 HR6.out.c 2 (v := .int .i64 l) rfl
  have zb := HR6.out.z
  go_wp2_with (fail)
  refine (slist_any S P 3 l a N cap f V6 (HSL.out.later HR6.out.b) hN HW.out OKB.out (by omega) hH).mono ?_
  rintro e U6 ⟨v, m3, rfl, lr, ow, hb⟩
  obtain ⟨x, rfl, xm, xo, xc⟩ := row_sx (pre_len _ _ _) ow
  have zu := hb.size
  obtain ⟨b7, r2, o2, a2, e2⟩ := head3 (HR6.out.later hb) (HO6.out.later hb) AW6.out M6.out x xo xc (by omega) (by omega) (by omega)
  have cc := (HR6.out.later hb).v 5 _ rfl
  have LR3 : Hid (ListR (wHd f S 3) (wLk f S P) (P * 8) m3) := lr
  have HR7 : Hid (RW w S P l bk b7 (U6.setCell ⟨bk, 5, none⟩ (.slice x.a x.n x.c))) := r2
  have HO7 : Hid (b7.Own (w.heap.size + 2) U6.heap.size (U6.setCell ⟨bk, 5, none⟩ (.slice x.a x.n x.c))) := o2
  have AW7 : Hid (Away b7 bk) := a2
  have M7 : Hid (b7.m = stM f S P S P (P * 8) (rH f S P 0 m0) (rH f S P 1 m1) (rH f S P 2 m2) (rH f S P 3 m3)) := by
    unfold Hid
    rw [e2, xm]
    rfl
  have D7 : U6.heap.size ≤ (U6.setCell ⟨bk, 5, none⟩ (.slice x.a x.n x.c)).heap.size := by simp
  clear lr ow hb xm xo xc r2 o2 a2 e2 HR6 HO6 AW6 M6 c0 c1 c2 zb zu D6
  go_wp2_with (fail)
  clear cc
  generalize U6.setCell ⟨bk, 5, none⟩ (.slice x.a x.n x.c) = V7 at HR7 HO7 D7 ⊢
  obtain ⟨C7, hC⟩ : ∃ y, y = U6.heap.size := ⟨_, rfl⟩
  rw [← hC] at HO7 D7
  clear hC
  rw [rounds_succ]
  obtain ⟨u0, u1, u2, u3, u4, u5, u6, u7, u8⟩ := nine HR7.out.v.range
  obtain ⟨w9, e9, ck9, ow9, be9⟩ := ans HR7.out.t (by have := HR7.out.z; have := HR7.out.y; omega) HR7.out.b HO7.out (Nat.le_refl _) D7
  have tk0 := HR7.out.t 0 _ rfl
  have tk1 := HR7.out.t 1 _ rfl
  have tk2 := HR7.out.t 2 _ rfl
  have tk3 := HR7.out.t 3 _ rfl
  have tk4 := HR7.out.t 4 _ rfl
  have tk5 := HR7.out.t 5 _ rfl
  have tk6 := HR7.out.t 6 _ rfl
  have tk7 := HR7.out.t 7 _ rfl
  have tk8 := HR7.out.t 8 _ rfl
  have HE : Hid (w9 = _) := e9
  clear e9
  go_wp2_with (fail)
  rw [← HE.out]
  exact bodyPost_ret (results_cell_mid rfl _ _ (w.heap.size + 1) 0 _ _ rfl ck9.range Tryz.underlying30 rfl (by kernel_rfl)) rfl ⟨b7, rfl, ⟨m0, m1, m2, m3, ⟨LR0.out, LR1.out, LR2.out, LR3.out⟩, M7.out⟩, ow9, be9⟩

end Go.Proofs.YtgfbfgiohmdjmaaGreat.Book

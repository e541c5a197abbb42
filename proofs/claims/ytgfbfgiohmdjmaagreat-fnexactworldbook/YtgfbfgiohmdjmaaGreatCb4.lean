/- The visitor that reads words into a draft. -/
import Derived.Test.YtgfbfgiohmdjmaaGreatCb3
namespace Go.Proofs.YtgfbfgiohmdjmaaGreat.Book
open Go.ChangeShapes Go.WideShapes Go.ChangeAt Go.RowKit
open Aid Lst Words
set_option maxRecDepth 100000
set_option linter.unusedVariables false

theorem rmk_any (x : Sx) (wb : Nat) (w : World) :
    Calls Tryz.prog 99 #[.slice x.a x.n x.c, .pointer (some ⟨wb, 0, none⟩)] w fun e w' => e = .returned (.func (.func 100) #[] #[.pointer (some ⟨wb, 0, none⟩), .pointer (some ⟨w.heap.size, 0, none⟩)]) ∧ w' = w.alloc (.cells #[.slice x.a x.n x.c] 27) := by
  have hmf : ∀ (fn : Fn) (first cap : Array Value) (w : World), (Instr.makeFunc fn first cap).run Tryz.prog w = .ok (.func fn first cap) w := fun _ _ _ _ => rfl
  go_enter Tryz.func99, Tryz.ntmps99
  go_wp2_with (fail)
  go_ret
  exact ⟨rfl, rfl⟩
def inBox (lb : Nat) (x : Sx) (w : World) : Prop := w.cell? ⟨lb, 0, none⟩ = some (.slice x.a x.n x.c)
theorem inBox.later {lb : Nat} {x : Sx} {w w1 : World} (h : inBox lb x w) (hb : Below w.heap.size w w1) : inBox lb x w1 := (hb.cell (p := ⟨lb, 0, none⟩) (World.block_lt_of_cell? w _ h)).trans h
theorem inBox.new (x : Sx) (w : World) (t : TypeId) : inBox w.heap.size x (w.alloc (.cells #[.slice x.a x.n x.c] t)) := by
  have := range_lit #[.slice x.a x.n x.c] (heap1_0 w (.cells #[.slice x.a x.n x.c] t)) 0 _ rfl; exact this

/- What the making of the visitor rests on. -/
structure QS (w0 : World) (ws : Value) (dk : Nat) (xp xo xl : Sx) (w : World) : Prop where
  xw : w.cell? ⟨w0.heap.size, 0, none⟩ = some ws
  xd : w.cell? ⟨w0.heap.size + 1, 0, none⟩ = some (.pointer (some ⟨dk, 0, none⟩))
  p : w.cell? ⟨dk, 1, none⟩ = some (.slice xp.a xp.n xp.c)
  o : w.cell? ⟨dk, 6, none⟩ = some (.slice xo.a xo.n xo.c)
  l : w.cell? ⟨dk, 13, none⟩ = some (.slice xl.a xl.n xl.c)
  t : ∃ c0 c1 c2 c3 c4 c5 c6 c7, Ck w (w0.heap.size + 1 + 1) [c0, c1, c2, c3, c4, c5, c6, c7]
  b : Below w0.heap.size w0 w
  z : w0.heap.size + 3 ≤ w.heap.size
theorem QS.later {w0 w w1 : World} {ws : Value} {dk : Nat} {xp xo xl : Sx} (h : QS w0 ws dk xp xo xl w) (hb : Below w.heap.size w w1) : QS w0 ws dk xp xo xl w1 :=
  have bl := fun (p : Addr) (v : Value) (h : w.cell? p = some v) => (hb.cell (p := p) (World.block_lt_of_cell? w p h)).trans h
  ⟨bl _ _ h.xw, bl _ _ h.xd, bl _ _ h.p, bl _ _ h.o, bl _ _ h.l, by obtain ⟨c0, c1, c2, c3, c4, c5, c6, c7, ht⟩ := h.t; exact ⟨c0, c1, c2, c3, c4, c5, c6, c7, ht.below hb (by have := h.z; omega)⟩, h.b.trans (hb.mono h.b.size), Nat.le_trans h.z hb.size⟩
theorem QS.drew {w0 w : World} {ws : Value} {dk : Nat} {xp xo xl : Sx} (h : QS w0 ws dk xp xo xl w) : QS w0 ws dk xp xo xl w.drew := ⟨h.xw, h.xd, h.p, h.o, h.l, h.t, ⟨h.b.os, h.b.tape, h.b.output, h.b.size, h.b.block⟩, h.z⟩

set_option maxHeartbeats 8000000 in
theorem reader_any (a : Option Addr) (N cap dk : Nat) (xp xo xl : Sx) (w : World) (hp : w.cell? ⟨dk, 1, none⟩ = some (.slice xp.a xp.n xp.c)) (ho : w.cell? ⟨dk, 6, none⟩ = some (.slice xo.a xo.n xo.c)) (hl : w.cell? ⟨dk, 13, none⟩ = some (.slice xl.a xl.n xl.c)) :
    Calls Tryz.prog 68 #[.slice a N cap, .pointer (some ⟨dk, 0, none⟩)] w fun e w' => ∃ l1 l2 l3 l4, e = .returned (.agg #[Value.nilFunc, .func (.func 102) #[] #[.pointer (some ⟨w.heap.size, 0, none⟩), .pointer (some ⟨w.heap.size + 1, 0, none⟩)], Value.nilFunc, .func (.func 100) #[] #[.pointer (some ⟨w.heap.size, 0, none⟩), .pointer (some ⟨l1, 0, none⟩)], .func (.func 100) #[] #[.pointer (some ⟨w.heap.size, 0, none⟩), .pointer (some ⟨l2, 0, none⟩)], .func (.func 100) #[] #[.pointer (some ⟨w.heap.size, 0, none⟩), .pointer (some ⟨l3, 0, none⟩)], .func (.func 100) #[] #[.pointer (some ⟨w.heap.size, 0, none⟩), .pointer (some ⟨l4, 0, none⟩)], Value.nilFunc]) ∧ w'.cell? ⟨w.heap.size, 0, none⟩ = some (.slice a N cap) ∧ w'.cell? ⟨w.heap.size + 1, 0, none⟩ = some (.pointer (some ⟨dk, 0, none⟩)) ∧ inBox l1 ⟨some ⟨dk, 9, none⟩, 4, 4, fun _ => 0⟩ w' ∧ inBox l2 xp w' ∧ inBox l3 xo w' ∧ inBox l4 xl w' ∧ (w.heap.size ≤ l1 ∧ w.heap.size ≤ l2 ∧ w.heap.size ≤ l3 ∧ w.heap.size ≤ l4) ∧ Below w.heap.size w w' := by
  have hmf : ∀ (fn : Fn) (first cap : Array Value) (w : World), (Instr.makeFunc fn first cap).run Tryz.prog w = .ok (.func fn first cap) w := fun _ _ _ _ => rfl
  have dl := World.block_lt_of_cell? w _ hp
  simp only at dl
  have S0 : QS w (.slice a N cap) dk xp xo xl (((w.alloc (.cells #[.slice a N cap] 22)).alloc (.cells #[.pointer (some ⟨dk, 0, none⟩)] 89)).alloc (.cells #[Value.nilFunc, Value.nilFunc, Value.nilFunc, Value.nilFunc, Value.nilFunc, Value.nilFunc, Value.nilFunc, Value.nilFunc] 96)) := by
    have bb := below3 w (.cells #[.slice a N cap] 22) (.cells #[.pointer (some ⟨dk, 0, none⟩)] 89) (.cells #[Value.nilFunc, Value.nilFunc, Value.nilFunc, Value.nilFunc, Value.nilFunc, Value.nilFunc, Value.nilFunc, Value.nilFunc] 96)
    have bl := fun (p : Addr) (v : Value) (h : w.cell? p = some v) => (bb.cell (p := p) (World.block_lt_of_cell? w p h)).trans h
    refine ⟨?_, ?_, bl _ _ hp, bl _ _ ho, bl _ _ hl, ⟨_, _, _, _, _, _, _, _, ck_lit #[Value.nilFunc, Value.nilFunc, Value.nilFunc, Value.nilFunc, Value.nilFunc, Value.nilFunc, Value.nilFunc, Value.nilFunc] (heap3_2 w _ _ _)⟩, bb, by simp⟩
    · have := range_lit #[.slice a N cap] (heap3_0 w (.cells #[.slice a N cap] 22) (.cells #[.pointer (some ⟨dk, 0, none⟩)] 89) (.cells #[Value.nilFunc, Value.nilFunc, Value.nilFunc, Value.nilFunc, Value.nilFunc, Value.nilFunc, Value.nilFunc, Value.nilFunc] 96)) 0 _ rfl; exact this
    · have := range_lit #[.pointer (some ⟨dk, 0, none⟩)] (heap3_1 w (.cells #[.slice a N cap] 22) (.cells #[.pointer (some ⟨dk, 0, none⟩)] 89) (.cells #[Value.nilFunc, Value.nilFunc, Value.nilFunc, Value.nilFunc, Value.nilFunc, Value.nilFunc, Value.nilFunc, Value.nilFunc] 96)) 0 _ rfl; exact this
  clear hp ho hl
  go_enter Tryz.func68, Tryz.ntmps68
  go_wp2_with (fail)
  generalize ((w.alloc (.cells #[.slice a N cap] 22)).alloc (.cells #[.pointer (some ⟨dk, 0, none⟩)] 89)).alloc (.cells #[Value.nilFunc, Value.nilFunc, Value.nilFunc, Value.nilFunc, Value.nilFunc, Value.nilFunc, Value.nilFunc, Value.nilFunc] 96) = W at S0 ⊢
  have S1 := S0.drew
  clear S0
  refine wp_region_held_drew (S := QS w (.slice a N cap) dk xp xo xl) (by kernel_rfl) S1 (fun hS => ?_)
  clear S1
  refine tI 0 (v := .func (.func 102) #[] #[.pointer (some ⟨w.heap.size, 0, none⟩), .pointer (some ⟨w.heap.size + 1, 0, none⟩)]) (d := some 7) rfl rfl (fun w' hw => ?_) (by assumption) ?_
  · clear hw; go_simp
  simp only [Act.put, s1, s2, s3]
  refine tI 1 (v := .func (.func 99) #[] #[.pointer (some ⟨w.heap.size, 0, none⟩)]) (d := some 8) rfl rfl (fun w' hw => ?_) (by assumption) ?_
  · clear hw; go_simp
  simp only [Act.put, s1, s2, s3]
  refine tI 2 (v := .pointer (some ⟨dk, 0, none⟩)) (d := some 9) rfl rfl (fun w' hw => ?_) (by assumption) ?_
  · have q := hw.xd; clear hw; go_simp
  simp only [Act.put, s1, s2, s3]
  refine tI 3 (v := .pointer (some ⟨dk, 0, none⟩)) (d := some 10) rfl rfl (fun w' hw => ?_) (by assumption) ?_
  · clear hw; go_simp
  simp only [Act.put, s1, s2, s3]
  refine tI 4 (v := .pointer (some ⟨dk, 9, none⟩)) (d := some 11) rfl rfl (fun w' hw => ?_) (by assumption) ?_
  · clear hw; go_simp
  simp only [Act.put, s1, s2, s3]
  refine tI 5 (v := .slice (some ⟨dk, 9, none⟩) 4 4) (d := some 12) rfl rfl (fun w' hw => ?_) (by assumption) ?_
  · clear hw; go_simp
  simp only [Act.put, s1, s2, s3]
  refine tI 7 (v := .func (.func 99) #[] #[.pointer (some ⟨w.heap.size, 0, none⟩)]) (d := some 14) rfl rfl (fun w' hw => ?_) (by assumption) ?_
  · clear hw; go_simp
  simp only [Act.put, s1, s2, s3]
  refine tI 8 (v := .pointer (some ⟨dk, 0, none⟩)) (d := some 15) rfl rfl (fun w' hw => ?_) (by assumption) ?_
  · have q := hw.xd; clear hw; go_simp
  simp only [Act.put, s1, s2, s3]
  refine tI 9 (v := .pointer (some ⟨dk, 0, none⟩)) (d := some 16) rfl rfl (fun w' hw => ?_) (by assumption) ?_
  · clear hw; go_simp
  simp only [Act.put, s1, s2, s3]
  refine tI 10 (v := .pointer (some ⟨dk, 0, none⟩)) (d := some 17) rfl rfl (fun w' hw => ?_) (by assumption) ?_
  · clear hw; go_simp
  simp only [Act.put, s1, s2, s3]
  refine tI 11 (v := .pointer (some ⟨dk, 1, none⟩)) (d := some 18) rfl rfl (fun w' hw => ?_) (by assumption) ?_
  · clear hw; go_simp
  simp only [Act.put, s1, s2, s3]
  refine tI 12 (v := .slice xp.a xp.n xp.c) (d := some 19) rfl rfl (fun w' hw => ?_) (by assumption) ?_
  · have q := hw.p; clear hw; go_simp
  simp only [Act.put, s1, s2, s3]
  refine tI 14 (v := .func (.func 99) #[] #[.pointer (some ⟨w.heap.size, 0, none⟩)]) (d := some 21) rfl rfl (fun w' hw => ?_) (by assumption) ?_
  · clear hw; go_simp
  simp only [Act.put, s1, s2, s3]
  refine tI 15 (v := .pointer (some ⟨dk, 0, none⟩)) (d := some 22) rfl rfl (fun w' hw => ?_) (by assumption) ?_
  · have q := hw.xd; clear hw; go_simp
  simp only [Act.put, s1, s2, s3]
  refine tI 16 (v := .pointer (some ⟨dk, 0, none⟩)) (d := some 23) rfl rfl (fun w' hw => ?_) (by assumption) ?_
  · clear hw; go_simp
  simp only [Act.put, s1, s2, s3]
  refine tI 17 (v := .pointer (some ⟨dk, 0, none⟩)) (d := some 24) rfl rfl (fun w' hw => ?_) (by assumption) ?_
  · clear hw; go_simp
  simp only [Act.put, s1, s2, s3]
  refine tI 18 (v := .pointer (some ⟨dk, 6, none⟩)) (d := some 25) rfl rfl (fun w' hw => ?_) (by assumption) ?_
  · clear hw; go_simp
  simp only [Act.put, s1, s2, s3]
  refine tI 19 (v := .slice xo.a xo.n xo.c) (d := some 26) rfl rfl (fun w' hw => ?_) (by assumption) ?_
  · have q := hw.o; clear hw; go_simp
  simp only [Act.put, s1, s2, s3]
  refine tI 21 (v := .func (.func 99) #[] #[.pointer (some ⟨w.heap.size, 0, none⟩)]) (d := some 28) rfl rfl (fun w' hw => ?_) (by assumption) ?_
  · clear hw; go_simp
  simp only [Act.put, s1, s2, s3]
  refine tI 22 (v := .pointer (some ⟨dk, 0, none⟩)) (d := some 29) rfl rfl (fun w' hw => ?_) (by assumption) ?_
  · have q := hw.xd; clear hw; go_simp
  simp only [Act.put, s1, s2, s3]
  refine tI 23 (v := .pointer (some ⟨dk, 0, none⟩)) (d := some 30) rfl rfl (fun w' hw => ?_) (by assumption) ?_
  · clear hw; go_simp
  simp only [Act.put, s1, s2, s3]
  refine tI 24 (v := .pointer (some ⟨dk, 13, none⟩)) (d := some 31) rfl rfl (fun w' hw => ?_) (by assumption) ?_
  · clear hw; go_simp
  simp only [Act.put, s1, s2, s3]
  refine tI 25 (v := .slice xl.a xl.n xl.c) (d := some 32) rfl rfl (fun w' hw => ?_) (by assumption) ?_
  · have q := hw.l; clear hw; go_simp
  simp only [Act.put, s1, s2, s3]
  generalize World.drew _ = V0 at hS ⊢
  refine r1 6 rfl (fun K hK => ?_)
  have HS : Hid (QS _ _ _ _ _ _ _) := hS
  clear hS
  go_simp
  refine (rmk_any (⟨some ⟨dk, 9, none⟩, 4, 4, fun _ => 0⟩ : Sx) w.heap.size V0).mono ?_
  rintro e U ⟨rfl, rfl⟩
  have X0 : Hid (inBox V0.heap.size (⟨some ⟨dk, 9, none⟩, 4, 4, fun _ => 0⟩ : Sx) (V0.alloc (.cells #[.slice (some ⟨dk, 9, none⟩) 4 4] 27))) := inBox.new (⟨some ⟨dk, 9, none⟩, 4, 4, fun _ => 0⟩ : Sx) V0 27
  have SS : Hid (QS _ _ _ _ _ _ _) := HS.out.later (below1 V0 (.cells #[.slice (some ⟨dk, 9, none⟩) 4 4] 27))
  have y0 := HS.out.z
  clear HS
  go_simp
  refine hK.out _ _ SS.out (fun hS => ?_)
  clear hK K SS
  obtain ⟨l1, e1⟩ : ∃ l, l = V0.heap.size := ⟨_, rfl⟩
  rw [← e1] at X0 y0 ⊢
  clear e1
  generalize V0.alloc _ = V1 at X0 hS ⊢
  refine r1 13 rfl (fun K hK => ?_)
  have HS : Hid (QS _ _ _ _ _ _ _) := hS
  clear hS
  go_simp
  refine (rmk_any xp w.heap.size V1).mono ?_
  rintro e U ⟨rfl, rfl⟩
  have X1 : Hid (inBox V1.heap.size xp (V1.alloc (.cells #[.slice xp.a xp.n xp.c] 27))) := inBox.new xp V1 27
  have SS : Hid (QS _ _ _ _ _ _ _) := HS.out.later (below1 V1 (.cells #[.slice xp.a xp.n xp.c] 27))
  have y1 := HS.out.z
  clear HS
  go_simp
  refine hK.out _ _ SS.out (fun hS => ?_)
  clear hK K SS
  replace X0 : Hid (inBox l1 (⟨some ⟨dk, 9, none⟩, 4, 4, fun _ => 0⟩ : Sx) _) := X0.out.later (below1 V1 (.cells #[.slice xp.a xp.n xp.c] 27))
  obtain ⟨l2, e2⟩ : ∃ l, l = V1.heap.size := ⟨_, rfl⟩
  rw [← e2] at X1 y1 ⊢
  clear e2
  generalize V1.alloc _ = V2 at X0 X1 hS ⊢
  refine r1 20 rfl (fun K hK => ?_)
  have HS : Hid (QS _ _ _ _ _ _ _) := hS
  clear hS
  go_simp
  refine (rmk_any xo w.heap.size V2).mono ?_
  rintro e U ⟨rfl, rfl⟩
  have X2 : Hid (inBox V2.heap.size xo (V2.alloc (.cells #[.slice xo.a xo.n xo.c] 27))) := inBox.new xo V2 27
  have SS : Hid (QS _ _ _ _ _ _ _) := HS.out.later (below1 V2 (.cells #[.slice xo.a xo.n xo.c] 27))
  have y2 := HS.out.z
  clear HS
  go_simp
  refine hK.out _ _ SS.out (fun hS => ?_)
  clear hK K SS
  replace X0 : Hid (inBox l1 (⟨some ⟨dk, 9, none⟩, 4, 4, fun _ => 0⟩ : Sx) _) := X0.out.later (below1 V2 (.cells #[.slice xo.a xo.n xo.c] 27))
  replace X1 : Hid (inBox l2 xp _) := X1.out.later (below1 V2 (.cells #[.slice xo.a xo.n xo.c] 27))
  obtain ⟨l3, e3⟩ : ∃ l, l = V2.heap.size := ⟨_, rfl⟩
  rw [← e3] at X2 y2 ⊢
  clear e3
  generalize V2.alloc _ = V3 at X0 X1 X2 hS ⊢
  refine r1 26 rfl (fun K hK => ?_)
  have HS : Hid (QS _ _ _ _ _ _ _) := hS
  clear hS
  go_simp
  refine (rmk_any xl w.heap.size V3).mono ?_
  rintro e U ⟨rfl, rfl⟩
  have X3 : Hid (inBox V3.heap.size xl (V3.alloc (.cells #[.slice xl.a xl.n xl.c] 27))) := inBox.new xl V3 27
  have SS : Hid (QS _ _ _ _ _ _ _) := HS.out.later (below1 V3 (.cells #[.slice xl.a xl.n xl.c] 27))
  have y3 := HS.out.z
  clear HS
  go_simp
  refine hK.out _ _ SS.out (fun hS => ?_)
  clear hK K SS
  replace X0 : Hid (inBox l1 (⟨some ⟨dk, 9, none⟩, 4, 4, fun _ => 0⟩ : Sx) _) := X0.out.later (below1 V3 (.cells #[.slice xl.a xl.n xl.c] 27))
  replace X1 : Hid (inBox l2 xp _) := X1.out.later (below1 V3 (.cells #[.slice xl.a xl.n xl.c] 27))
  replace X2 : Hid (inBox l3 xo _) := X2.out.later (below1 V3 (.cells #[.slice xl.a xl.n xl.c] 27))
  obtain ⟨l4, e4⟩ : ∃ l, l = V3.heap.size := ⟨_, rfl⟩
  rw [← e4] at X3 y3 ⊢
  clear e4
  generalize V3.alloc _ = V4 at X0 X1 X2 X3 hS ⊢
  refine tI 27 (v := .agg #[Value.nilFunc, .func (.func 102) #[] #[.pointer (some ⟨w.heap.size, 0, none⟩), .pointer (some ⟨w.heap.size + 1, 0, none⟩)], Value.nilFunc, .func (.func 100) #[] #[.pointer (some ⟨w.heap.size, 0, none⟩), .pointer (some ⟨l1, 0, none⟩)], .func (.func 100) #[] #[.pointer (some ⟨w.heap.size, 0, none⟩), .pointer (some ⟨l2, 0, none⟩)], .func (.func 100) #[] #[.pointer (some ⟨w.heap.size, 0, none⟩), .pointer (some ⟨l3, 0, none⟩)], .func (.func 100) #[] #[.pointer (some ⟨w.heap.size, 0, none⟩), .pointer (some ⟨l4, 0, none⟩)], Value.nilFunc]) (d := some 34) rfl rfl (fun w' hw => ?_) (by assumption) ?_
  · clear hw; go_simp
  simp only [Act.put, s1, s2, s3]
  obtain ⟨c0, c1, c2, c3, c4, c5, c6, c7, ht⟩ := hS.t
  obtain ⟨ck, oy⟩ := put8 ht (Value.nilFunc) (.func (.func 102) #[] #[.pointer (some ⟨w.heap.size, 0, none⟩), .pointer (some ⟨w.heap.size + 1, 0, none⟩)]) (Value.nilFunc) (.func (.func 100) #[] #[.pointer (some ⟨w.heap.size, 0, none⟩), .pointer (some ⟨l1, 0, none⟩)]) (.func (.func 100) #[] #[.pointer (some ⟨w.heap.size, 0, none⟩), .pointer (some ⟨l2, 0, none⟩)]) (.func (.func 100) #[] #[.pointer (some ⟨w.heap.size, 0, none⟩), .pointer (some ⟨l3, 0, none⟩)]) (.func (.func 100) #[] #[.pointer (some ⟨w.heap.size, 0, none⟩), .pointer (some ⟨l4, 0, none⟩)]) (Value.nilFunc)
  have p0 := ht 0 _ rfl
  have p1 := ht 1 _ rfl
  have p2 := ht 2 _ rfl
  have p3 := ht 3 _ rfl
  have p4 := ht 4 _ rfl
  have p5 := ht 5 _ rfl
  have p6 := ht 6 _ rfl
  have p7 := ht 7 _ rfl
  have HS : Hid (QS _ _ _ _ _ _ _) := hS
  have CK : Hid (Ck _ _ _) := ck
  have OY : Hid (Only _ _ _ _) := oy
  have TH : Hid (V4.there (w.heap.size + 1 + 1) 0 8) := there8 ht
  clear hS ck oy ht
  refine r1 28 rfl (fun K hK => ?_)
  go_simp
  clear p0 p1 p2 p3 p4 p5 p6 p7
  have zz := HS.out.z
  have zo := OY.out.size
  have B9 : Below w.heap.size w _ := HS.out.b.trans (OY.out.below (by omega) |>.mono (by omega))
  have W9 : QS w (.slice a N cap) dk xp xo xl _ := ⟨(OY.out.cell (by omega) (.inl (by omega))).trans HS.out.xw, (OY.out.cell (by omega) (.inl (by omega))).trans HS.out.xd, (OY.out.cell (by omega) (.inl (by omega))).trans HS.out.p, (OY.out.cell (by omega) (.inl (by omega))).trans HS.out.o, (OY.out.cell (by omega) (.inl (by omega))).trans HS.out.l, ⟨_, _, _, _, _, _, _, _, CK.out⟩, B9, Nat.le_trans zz zo⟩
  have M0 : inBox l1 (⟨some ⟨dk, 9, none⟩, 4, 4, fun _ => 0⟩ : Sx) _ := (OY.out.cell (World.block_lt_of_cell? _ _ X0.out) (.inr (by omega))).trans X0.out
  have M1 : inBox l2 xp _ := (OY.out.cell (World.block_lt_of_cell? _ _ X1.out) (.inr (by omega))).trans X1.out
  have M2 : inBox l3 xo _ := (OY.out.cell (World.block_lt_of_cell? _ _ X2.out) (.inr (by omega))).trans X2.out
  have M3 : inBox l4 xl _ := (OY.out.cell (World.block_lt_of_cell? _ _ X3.out) (.inr (by omega))).trans X3.out
  refine hK.out _ _ W9 (fun hS => ?_)
  clear hK K hS
  have HM0 : Hid (inBox l1 (⟨some ⟨dk, 9, none⟩, 4, 4, fun _ => 0⟩ : Sx) _) := M0
  have HM1 : Hid (inBox l2 xp _) := M1
  have HM2 : Hid (inBox l3 xo _) := M2
  have HM3 : Hid (inBox l4 xl _) := M3
  have HW9 : Hid (QS w (.slice a N cap) dk xp xo xl _) := W9
  clear M0 M1 M2 M3 W9 B9
  refine wpAnyH_done (by kernel_rfl) ?_ _
  go_wp2_with (fail)
  exact bodyPost_ret (results_cell_mid rfl _ _ (w.heap.size + 1 + 1) 0 _ _ rfl CK.out.range Tryz.underlying96 rfl (by kernel_rfl)) rfl ⟨l1, l2, l3, l4, rfl, HW9.out.xw, HW9.out.xd, HM0.out, HM1.out, HM2.out, HM3.out, ⟨by omega, by omega, by omega, by omega⟩, HW9.out.b⟩

end Go.Proofs.YtgfbfgiohmdjmaaGreat.Book

/- Guests and worlds held against each other. Conditions: at most 10,000,000 guests, 1,000,000,000 words a list. -/
import Derived.Test.YtpfgldbmihbiiaaTgw
namespace Go.Proofs.Ytpfgldbmihbiiaa.Gs
open Go.ChangeShapes Go.WideShapes Go.ChangeAt Go.RowKit
open Go.Proofs.Ytpfgldbmihbiiaa.Aid Go.Proofs.Ytpfgldbmihbiiaa.Lst
open Go.Proofs.Ytpfgldbmihbiiaa.Book (Ck ck_lit Sx)
set_option maxRecDepth 100000
set_option linter.unusedVariables false

/- One cell of a range is loaded. -/
theorem rg_load {P : Program} {ops : Array Oper} {rest : List Oper} {op : Oper} {a : Act} {w : World} {Q : Exit → Act → World → Prop} {b : Nat} {src : List Value} (h : w.rangeAt b 0 src)
    (hgd : op.guard = none) (ty : TypeId) (x : Operand) (ho : op.op = .load ty x) (j : Nat) (hx : a.eval x = .pointer (some ⟨b, j, none⟩)) (v : Value) (hv : src[j]? = some v) (hu : (P.underlying ty).map TypeDesc.isRow = some false)
    (hk : wpList P ops Q rest (a.put op.dst v) w) : wpList P ops Q (op :: rest) a w :=
  wpList_plain hgd fun _ hK => by
    have hc : w.cell? ⟨b, j, none⟩ = some v := by have := h j v hv; rwa [Nat.zero_add] at this
    unfold Oper.wp execOp
    simp only [ho, hx, Instr.loadAt, Instr.sureAddr, Sem.run_bind, Sem.run_pure, Result.andThen_ok, run_loadVar_cell w _ ty v hc hu]
    exact hK _ _ hk
theorem rg_loads {P : Program} {ops : Array Oper} {rest : List Oper} {op : Oper} {a : Act} {w : World} {Q : Exit → Act → World → Prop} {b : Nat} {src : List Value} (h : w.rangeAt b 0 src)
    (hgd : op.guard = none) (ty : TypeId) (x : Operand) (ho : op.op = .load ty x) (j n : Nat) (hx : a.eval x = .pointer (some ⟨b, j, none⟩)) (hn : ((src.drop j).take n).length = n) (d : TypeDesc)
    (hu : P.underlying ty = some d) (hd : d.isRow = true) (hi : (P.info? ty).map (·.size) = some n)
    (hk : wpList P ops Q rest (a.put op.dst (.agg ((src.drop j).take n).toArray)) w) : wpList P ops Q (op :: rest) a w :=
  wpList_load_mid hgd ty x ho b j hx ((src.drop j).take n) d (fun i v hv => by
    rw [List.getElem?_take] at hv
    split at hv
    · rw [List.getElem?_drop] at hv
      have := h (j + i) v hv
      rwa [Nat.zero_add] at this
    · cases hv) hu hd (by rw [hn]; exact hi) hk

theorem eqop_at (a b c d : Int) (w : World) : Calls Try.prog 45 #[.agg #[.int .i64 a, .int .i64 b, .int .i64 c, .int .i64 d], .agg #[.int .i64 a, .int .i64 b, .int .i64 c, .int .i64 d]] w fun e w' => e = .returned (.bool true) ∧ Below w.heap.size w w' := by
  go_enter Try.func45, Try.ntmps45
  go_wp2_with (fail)
  go_ret
  exact ⟨rfl, below2 _ _ _⟩

set_option maxHeartbeats 16000000 in
theorem eqguest_at (g : Gx) (s p : Sx) (w : World) (h : g.At w) (h1 : Sl .u64 w s.a g.snap.n s.f) (h2 : Sl .u64 w p.a g.plan.n p.f) (hs : s.n = g.snap.n) (hp : p.n = g.plan.n) (e1 : ∀ j, j < g.snap.n → g.snap.f j = s.f j) (e2 : ∀ j, j < g.plan.n → g.plan.f j = p.f j) (l1 : g.snap.n ≤ 1000000000) (l2 : g.plan.n ≤ 1000000000) :
    Calls Try.prog 43 #[.agg g.cells.toArray, .agg ({ g with snap := s, plan := p } : Gx).cells.toArray] w fun e w' => e = .returned (.bool true) ∧ Below w.heap.size w w' := by
  obtain ⟨sa, sn, sc, sf⟩ := s
  obtain ⟨pa, pn, pc, pf⟩ := p
  obtain rfl : sn = g.snap.n := hs
  obtain rfl : pn = g.plan.n := hp
  have R1 : Hid (World.rangeAt _ w.heap.size 0 g.cells) := range_lit g.cells.toArray (heap2_0 w (.cells g.cells.toArray 53) (.cells ({ g with snap := ⟨sa, g.snap.n, sc, sf⟩, plan := ⟨pa, g.plan.n, pc, pf⟩ } : Gx).cells.toArray 53))
  have R2 : Hid (World.rangeAt _ (w.heap.size + 1) 0 ({ g with snap := ⟨sa, g.snap.n, sc, sf⟩, plan := ⟨pa, g.plan.n, pc, pf⟩ } : Gx).cells) := range_lit ({ g with snap := ⟨sa, g.snap.n, sc, sf⟩, plan := ⟨pa, g.plan.n, pc, pf⟩ } : Gx).cells.toArray (heap2_1 w (.cells g.cells.toArray 53) (.cells ({ g with snap := ⟨sa, g.snap.n, sc, sf⟩, plan := ⟨pa, g.plan.n, pc, pf⟩ } : Gx).cells.toArray 53))
  have B : Hid (Below w.heap.size w _) := below2 w (.cells g.cells.toArray 53) (.cells ({ g with snap := ⟨sa, g.snap.n, sc, sf⟩, plan := ⟨pa, g.plan.n, pc, pf⟩ } : Gx).cells.toArray 53)
  have Z : Hid (w.heap.size + 2 ≤ ((w.alloc (.cells g.cells.toArray 53)).alloc (.cells ({ g with snap := ⟨sa, g.snap.n, sc, sf⟩, plan := ⟨pa, g.plan.n, pc, pf⟩ } : Gx).cells.toArray 53)).heap.size) := by show _ ≤ _; simp
  have HA : Hid (g.At w) := h
  have H1 : Hid (Sl .u64 w sa g.snap.n sf) := h1
  have H2 : Hid (Sl .u64 w pa g.plan.n pf) := h2
  have E1 : Hid (∀ j, j < g.snap.n → g.snap.f j = sf j) := e1
  have E2 : Hid (∀ j, j < g.plan.n → g.plan.f j = pf j) := e2
  clear h h1 h2 e1 e2
  go_enter Try.func43, Try.ntmps43
  go_wp2_with (with_reducible refine halt_at (.fieldAddr 53 (.tmp 2) 0) rfl ?_)
  unfold Hid
  generalize (w.alloc (.cells g.cells.toArray 53)).alloc (.cells ({ g with snap := ⟨sa, g.snap.n, sc, sf⟩, plan := ⟨pa, g.plan.n, pc, pf⟩ } : Gx).cells.toArray 53) = W at R1 R2 B Z ⊢
  go_wp2_with (first
    | refine rg_load R1.out rfl 3 _ rfl _ rfl _ rfl (by kernel_rfl) ?_
    | refine rg_load R1.out rfl 4 _ rfl _ rfl _ rfl (by kernel_rfl) ?_
    | refine rg_load R2.out rfl 3 _ rfl _ rfl _ rfl (by kernel_rfl) ?_
    | refine rg_load R2.out rfl 4 _ rfl _ rfl _ rfl (by kernel_rfl) ?_
    | refine rg_loads R1.out rfl 50 _ rfl _ 4 rfl rfl _ Try.underlying50 rfl (by kernel_rfl) ?_
    | refine rg_loads R2.out rfl 50 _ rfl _ 4 rfl rfl _ Try.underlying50 rfl (by kernel_rfl) ?_)
  refine (eqop_at _ _ _ _ _).mono ?_
  rintro e w1 ⟨rfl, hb⟩
  have R1 : Hid (World.rangeAt w1 _ 0 g.cells) := range_below hb R1.out (by have := Z.out; omega)
  have R2 : Hid (World.rangeAt w1 _ 0 _) := range_below hb R2.out (by have := Z.out; omega)
  have B1 : Hid (Below w.heap.size w w1) := B.out.trans (hb.mono (by have := Z.out; omega))
  clear hb B Z
  go_wp2_with (first
    | refine rg_load R1.out rfl 3 _ rfl _ rfl _ rfl (by kernel_rfl) ?_
    | refine rg_load R2.out rfl 3 _ rfl _ rfl _ rfl (by kernel_rfl) ?_
    | refine rg_load R1.out rfl 4 _ rfl _ rfl _ rfl (by kernel_rfl) ?_
    | refine rg_load R2.out rfl 4 _ rfl _ rfl _ rfl (by kernel_rfl) ?_
    | refine rg_load R1.out rfl 51 _ rfl _ rfl _ rfl (by kernel_rfl) ?_
    | refine rg_load R2.out rfl 51 _ rfl _ rfl _ rfl (by kernel_rfl) ?_
    | refine rg_load R1.out rfl 22 _ rfl _ rfl _ rfl (by kernel_rfl) ?_
    | refine rg_load R2.out rfl 22 _ rfl _ rfl _ rfl (by kernel_rfl) ?_)
  refine (eqUint64_any _ _ g.snap.n _ _ _ _ _ (HA.out.1.later B1.out) (H1.out.later B1.out) E1.out l1).mono ?_
  rintro e w2 ⟨rfl, q, rfl⟩
  go_wp2_with (first
    | refine rg_load R1.out rfl 3 _ rfl _ rfl _ rfl (by kernel_rfl) ?_
    | refine rg_load R2.out rfl 3 _ rfl _ rfl _ rfl (by kernel_rfl) ?_
    | refine rg_load R1.out rfl 4 _ rfl _ rfl _ rfl (by kernel_rfl) ?_
    | refine rg_load R2.out rfl 4 _ rfl _ rfl _ rfl (by kernel_rfl) ?_
    | refine rg_load R1.out rfl 51 _ rfl _ rfl _ rfl (by kernel_rfl) ?_
    | refine rg_load R2.out rfl 51 _ rfl _ rfl _ rfl (by kernel_rfl) ?_
    | refine rg_load R1.out rfl 22 _ rfl _ rfl _ rfl (by kernel_rfl) ?_
    | refine rg_load R2.out rfl 22 _ rfl _ rfl _ rfl (by kernel_rfl) ?_)
  refine (eqUint64_any _ _ g.plan.n _ _ _ _ _ ((HA.out.2.later B1.out).drewN q) ((H2.out.later B1.out).drewN q) E2.out l2).mono ?_
  rintro e w3 ⟨rfl, q2, rfl⟩
  go_wp2_with (first
    | refine rg_load R1.out rfl 3 _ rfl _ rfl _ rfl (by kernel_rfl) ?_
    | refine rg_load R2.out rfl 3 _ rfl _ rfl _ rfl (by kernel_rfl) ?_
    | refine rg_load R1.out rfl 4 _ rfl _ rfl _ rfl (by kernel_rfl) ?_
    | refine rg_load R2.out rfl 4 _ rfl _ rfl _ rfl (by kernel_rfl) ?_
    | refine rg_load R1.out rfl 51 _ rfl _ rfl _ rfl (by kernel_rfl) ?_
    | refine rg_load R2.out rfl 51 _ rfl _ rfl _ rfl (by kernel_rfl) ?_
    | refine rg_load R1.out rfl 22 _ rfl _ rfl _ rfl (by kernel_rfl) ?_
    | refine rg_load R2.out rfl 22 _ rfl _ rfl _ rfl (by kernel_rfl) ?_)
  go_ret
  have hb := B1.out
  exact ⟨rfl, ⟨hb.os, hb.tape, hb.output, hb.size, hb.block⟩⟩

end Go.Proofs.Ytpfgldbmihbiiaa.Gs

import Derived.Test.YtbipolfbkemmpaaDoorM3

/- A struct that is copied cell by cell into new memory: the laws for its loads and stores, over no program. -/
namespace Go.Proofs.YtbipolfbkemmpaaDoor.Gs
open Go.ChangeShapes Go.WideShapes Go.ChangeAt Go.RowKit
open Aid Lst
open Book (Ck ck_lit)
set_option maxRecDepth 100000
set_option linter.unusedVariables false

/- What is copied lies at the block b; the copy's cells at o; what is answered goes to r; rs: lists of one's own that were made meanwhile. -/
structure Tw (w0 : World) (b : Nat) (src : List Value) (r o : Nat) (cs : List Value) (rs : List (Nat × Nat × (Nat → Int))) (w : World) : Prop where
  s : w.rangeAt b 0 src
  c : Ck w o cs
  t : w.there r 0 cs.length
  k : ∀ x ∈ rs, Fk .u64 x.2.1 w x.1 x.2.2 ∧ w0.heap.size ≤ x.1 ∧ x.1 ≠ o ∧ x.1 ≠ r ∧ x.1 < w.heap.size
  b0 : Below w0.heap.size w0 w
  lb : b < w.heap.size
  lr : r < w.heap.size
  lo : o < w.heap.size
  ob : o ≠ b
  or : o ≠ r
  ge : w0.heap.size ≤ o
  gr : w0.heap.size ≤ r

theorem Tw.start (w : World) (S Z : Array Value) (t t1 t2 : TypeId) : Tw w w.heap.size S.toList (w.heap.size + 1) (w.heap.size + 1 + 1) Z.toList [] (((w.alloc (.cells S t)).alloc (.cells Z t1)).alloc (.cells Z t2)) :=
  ⟨range_lit S (heap3_0 w _ _ _), ck_lit Z (heap3_2 w _ _ _), by have := there_lit Z (heap3_1 w (.cells S t) (.cells Z t1) (.cells Z t2)); simpa using this, fun x hx => by simp at hx, below3 w _ _ _, by simp <;> omega, by simp <;> omega, by simp, by omega, by omega, by omega, by omega⟩

theorem Tw.later {w0 w w1 : World} {b r o : Nat} {src cs : List Value} {rs : List (Nat × Nat × (Nat → Int))} (h : Tw w0 b src r o cs rs w) (hb : Below w.heap.size w w1) : Tw w0 b src r o cs rs w1 :=
  ⟨range_below hb h.s h.lb, h.c.below hb h.lo, there_below hb h.t h.lr, fun x hx => ⟨(h.k x hx).1.later hb, (h.k x hx).2.1, (h.k x hx).2.2.1, (h.k x hx).2.2.2.1, Nat.lt_of_lt_of_le (h.k x hx).2.2.2.2 hb.size⟩, h.b0.trans (hb.mono h.b0.size), Nat.lt_of_lt_of_le h.lb hb.size, Nat.lt_of_lt_of_le h.lr hb.size, Nat.lt_of_lt_of_le h.lo hb.size, h.ob, h.or, h.ge, h.gr⟩

theorem Tw.row {w0 w w1 : World} {b r o : Nat} {src cs : List Value} {rs : List (Nat × Nat × (Nat → Int))} (h : Tw w0 b src r o cs rs w) (hb : Below w.heap.size w w1) {n : Nat} {f : Nat → Int} (hf : Fk .u64 n w1 w.heap.size f) (hz : w.heap.size < w1.heap.size) : Tw w0 b src r o cs ((w.heap.size, n, f) :: rs) w1 := by
  have H := h.later hb
  refine ⟨H.s, H.c, H.t, fun x hx => ?_, H.b0, H.lb, H.lr, H.lo, H.ob, H.or, H.ge, H.gr⟩
  rcases List.mem_cons.1 hx with rfl | hx
  · exact ⟨hf, h.b0.size, (Nat.ne_of_lt h.lo).symm, (Nat.ne_of_lt h.lr).symm, hz⟩
  · exact H.k x hx

theorem there_setCell {w : World} {b o n : Nat} (h : w.there b o n) (p : Addr) (v : Value) : (w.setCell p v).there b o n := fun j hj => by
  have := World.there_setCells h p.block 0 []
  obtain ⟨h1, h2⟩ := h j hj
  obtain ⟨u, hu⟩ := Option.isSome_iff_exists.1 h1
  refine ⟨?_, by simp [h2]⟩
  by_cases e : p = ⟨b, o + j, none⟩
  · subst e; rw [World.cell?_setCell_same _ _ _ hu]; rfl
  · rw [World.cell?_setCell_other _ _ _ _ e, hu]; rfl

theorem Tw.put {w0 w : World} {b r o : Nat} {src cs : List Value} {rs : List (Nat × Nat × (Nat → Int))} (h : Tw w0 b src r o cs rs w) (j : Nat) (v : Value) : Tw w0 b src r o (cs.set j v) rs (w.setCell ⟨o, j, none⟩ v) := by
  have hz : (w.setCell ⟨o, j, none⟩ v).heap.size = w.heap.size := by simp [World.setCell]
  refine ⟨fun i u hu => ?_, h.c.set j v, by simpa using there_setCell h.t _ _, fun x hx => ?_, h.b0.setCell h.ge v, by rw [hz]; exact h.lb, by rw [hz]; exact h.lr, by rw [hz]; exact h.lo, h.ob, h.or, h.ge, h.gr⟩
  · rw [World.cell?_setCell_far _ _ _ _ h.ob]; exact h.s i u hu
  · obtain ⟨k1, k2, k3, k4, k5⟩ := h.k x hx
    exact ⟨k1.far _ (fun e => k3 e.symm) v, k2, k3, k4, by rw [hz]; exact k5⟩

def setL (cs : List Value) : Nat → List Value → List Value
  | _, [] => cs
  | j, v :: r => setL (cs.set j v) (j + 1) r
theorem Tw.puts {w0 : World} {b r o : Nat} {src : List Value} {rs : List (Nat × Nat × (Nat → Int))} : ∀ (vs : List Value) (j : Nat) (cs : List Value) (w : World), Tw w0 b src r o cs rs w → Tw w0 b src r o (setL cs j vs) rs (w.setCells o j vs)
  | [], _, _, _, h => h
  | v :: l, j, cs, w, h => Tw.puts l (j + 1) (cs.set j v) _ (h.put j v)

theorem fk_setCells_far {k : IntKind} {n c : Nat} {f : Nat → Int} {b : Nat} (hc : c ≠ b) : ∀ (vs : List Value) (o : Nat) (w : World), Fk k n w b f → Fk k n (w.setCells c o vs) b f
  | [], _, _, h => h
  | v :: r, o, w, h => fk_setCells_far hc r (o + 1) _ (h.far ⟨c, o, none⟩ hc v)

/- One cell is loaded. -/
theorem run_loadVar_cell {P : Program} (w : World) (x : Addr) (ty : TypeId) (v : Value) (hc : w.cell? x = some v) (hu : (P.underlying ty).map TypeDesc.isRow = some false) : (loadVar ty x).run P w = .ok v w := by
  obtain ⟨d, hd, hr⟩ := Option.map_eq_some_iff.1 hu
  have hagg : (isAgg ty).run P w = .ok false w := by
    unfold isAgg
    rw [Sem.run_bind, run_underlying hd w]
    cases d <;> simp_all
  simp [loadVar, Sem.run_bind, hagg, run_load, hc]

theorem tw_load {P : Program} {ops : Array Oper} {rest : List Oper} {op : Oper} {a : Act} {w w0 : World} {Q : Exit → Act → World → Prop} {b r o : Nat} {src cs : List Value} {rs : List (Nat × Nat × (Nat → Int))} (h : Tw w0 b src r o cs rs w)
    (hgd : op.guard = none) (ty : TypeId) (x : Operand) (ho : op.op = .load ty x) (j : Nat) (hx : a.eval x = .pointer (some ⟨b, j, none⟩)) (v : Value) (hv : src[j]? = some v) (hu : (P.underlying ty).map TypeDesc.isRow = some false)
    (hk : wpList P ops Q rest (a.put op.dst v) w) : wpList P ops Q (op :: rest) a w :=
  wpList_plain hgd fun _ hK => by
    have hc : w.cell? ⟨b, j, none⟩ = some v := by have := h.s j v hv; rwa [Nat.zero_add] at this
    unfold Oper.wp execOp
    simp only [ho, hx, Instr.loadAt, Instr.sureAddr, Sem.run_bind, Sem.run_pure, Result.andThen_ok, run_loadVar_cell w _ ty v hc hu]
    exact hK _ _ hk

/- Some cells of it are loaded. -/
theorem tw_loads {P : Program} {ops : Array Oper} {rest : List Oper} {op : Oper} {a : Act} {w w0 : World} {Q : Exit → Act → World → Prop} {b r o : Nat} {src cs : List Value} {rs : List (Nat × Nat × (Nat → Int))} (h : Tw w0 b src r o cs rs w)
    (hgd : op.guard = none) (ty : TypeId) (x : Operand) (ho : op.op = .load ty x) (j n : Nat) (hx : a.eval x = .pointer (some ⟨b, j, none⟩)) (hn : ((src.drop j).take n).length = n) (d : TypeDesc)
    (hu : P.underlying ty = some d) (hd : d.isRow = true) (hi : (P.info? ty).map (·.size) = some n)
    (hk : wpList P ops Q rest (a.put op.dst (.agg ((src.drop j).take n).toArray)) w) : wpList P ops Q (op :: rest) a w :=
  wpList_load_mid hgd ty x ho b j hx ((src.drop j).take n) d (fun i v hv => by
    rw [List.getElem?_take] at hv
    split at hv
    · rw [List.getElem?_drop] at hv
      have := h.s (j + i) v hv
      rwa [Nat.zero_add] at this
    · cases hv) hu hd (by rw [hn]; exact hi) hk

/- One cell is stored. -/
theorem tw_store {P : Program} {ops : Array Oper} {rest : List Oper} {op : Oper} {a : Act} {w w0 : World} {Q : Exit → Act → World → Prop} {b r o : Nat} {src cs : List Value} {rs : List (Nat × Nat × (Nat → Int))} (h : Tw w0 b src r o cs rs w)
    (hgd : op.guard = none) (ty : TypeId) (x : Operand) (i : Nat) (ho : op.op = .store ty x (.tmp i)) (j : Nat) (hx : a.eval x = .pointer (some ⟨o, j, none⟩)) (v : Value) (hv : a.tmps.toList[i]? = some v) (hj : j < cs.length) (hi : (P.info? ty).map (·.size) = some 1) (h1 : v.oneCell' = true)
    (hk : ∀ w', Tw w0 b src r o (cs.set j v) rs w' → wpList P ops Q rest (a.put op.dst undef) w') : wpList P ops Q (op :: rest) a w :=
  wpList_plain hgd fun _ hK => by
    have hy : a.eval (.tmp i) = v := by
      rw [Array.getElem?_toList] at hv
      simp [Act.eval, hv]
    have hc := h.c j _ (List.getElem?_eq_getElem hj)
    have ht : w.there o j 1 := fun i hi => by
      obtain rfl : i = 0 := by omega
      exact ⟨by rw [Nat.add_zero, hc.1]; rfl, hc.2⟩
    have hcs : v.cells = #[v] := by cases v <;> first | rfl | cases h1
    have hst : (storeVar ty ⟨o, j, none⟩ v).run P w = .ok () (w.setCell ⟨o, j, none⟩ v) := by
      have := run_storeCells_cells (P := P) o j [v] 0 w (fun i hi => by simpa using (ht i (by simpa using hi)).1) (fun i hi => by simpa using (ht i (by simpa using hi)).2) (fun u hu => by simp at hu; subst hu; exact h1)
      cases hq : P.info? ty with
      | none => simp [hq] at hi
      | some i =>
        have hs : i.size = 1 := by simpa [hq] using hi
        simp only [Nat.add_zero] at this
        simp [storeVar, sizeOf, typeInfo, hq, hcs, hs, this, World.setCells]
    unfold Oper.wp execOp
    simp only [ho, hx, hy, Instr.storeAt, Instr.sureAddr, Sem.run_bind, Sem.run_pure, Result.andThen_ok, hst]
    exact hK _ _ (hk _ (h.put j v))

/- Some cells are stored. -/
theorem tw_stores {P : Program} {ops : Array Oper} {rest : List Oper} {op : Oper} {a : Act} {w w0 : World} {Q : Exit → Act → World → Prop} {b r o : Nat} {src cs : List Value} {rs : List (Nat × Nat × (Nat → Int))} (h : Tw w0 b src r o cs rs w)
    (hgd : op.guard = none) (ty : TypeId) (x : Operand) (i : Nat) (ho : op.op = .store ty x (.tmp i)) (j : Nat) (hx : a.eval x = .pointer (some ⟨o, j, none⟩)) (vs : List Value) (hv : a.tmps.toList[i]? = some (.agg vs.toArray)) (hj : j + vs.length ≤ cs.length) (hi : (P.info? ty).map (·.size) = some vs.length) (h1 : vs.all (·.oneCell') = true)
    (hk : ∀ w', Tw w0 b src r o (setL cs j vs) rs w' → wpList P ops Q rest (a.put op.dst undef) w') : wpList P ops Q (op :: rest) a w := by
  have hy : a.eval (.tmp i) = .agg vs.toArray := by
    rw [Array.getElem?_toList] at hv
    simp [Act.eval, hv]
  refine wpList_store_mid hgd ty x (.tmp i) ho o j vs.toArray hx hy (fun k hk => ?_) (by simpa using hi) (by simpa using h1) (hk _ (h.puts _ _ _ _))
  have hl : k < vs.length := by simpa using hk
  have hc := h.c (j + k) _ (List.getElem?_eq_getElem (by omega))
  exact ⟨by rw [hc.1]; rfl, hc.2⟩

/- A row of structs is made. -/
theorem run_make_rows {P : Program} (t e : TypeId) (Z : Array Value) (c bytes : Nat) (ht : P.underlying t = some (.slice e)) (hinfo : (P.info? e).map (fun i => (i.zero, i.size, i.bytes)) = some (some (.agg Z), c, bytes))
    (kl kc : IntKind) (n : Nat) (hbytes : bytes * n ≤ 281474976710656) (h63 : n ≤ 9223372036854775807) (w : World) :
    (Instr.makeSlice t (.int kl (n : Int)) (.int kc (n : Int))).run P w = .ok (.slice (some ⟨w.heap.size, 0, none⟩) n n) (w.alloc (.cells (madeCells Z (n * c)) e)) := by
  obtain ⟨i, hi, hzz⟩ := Option.map_eq_some_iff.1 hinfo
  simp only [Prod.mk.injEq] at hzz
  obtain ⟨hz, hs, hb⟩ := hzz
  have hb' : (i.bytes : Int) * (n : Int) ≤ 281474976710656 := by
    have h : ((i.bytes * n : Nat) : Int) ≤ 281474976710656 := by rw [hb]; omega
    rwa [Int.natCast_mul] at h
  have hr := run_make (P := P) w t e i (.agg Z) ht hi hz kl kc n n (by omega) (Int.le_refl _) hb' (by omega)
  simp only [Int.toNat_natCast, hs, Value.cells] at hr
  exact hr

theorem there_made (w : World) (Z : Array Value) (c n : Nat) (t : TypeId) (j : Nat) (hj : j < n) : (w.alloc (.cells (madeCells Z (n * c)) t)).there w.heap.size (j * c) c := fun i hi => by
  have hlt : j * c + i < n * c := by
    have := Nat.mul_le_mul_right c (show j + 1 ≤ n from hj)
    rw [Nat.add_mul, Nat.one_mul] at this
    omega
  have h := there_lit (madeCells Z (n * c)) (heap1_0 w (.cells (madeCells Z (n * c)) t)) (j * c + i) (by rw [size_madeCells]; exact hlt)
  rwa [Nat.zero_add] at h

/- One cell of a range is loaded. -/
theorem rg_load {P : Program} {ops : Array Oper} {rest : List Oper} {op : Oper} {a : Act} {w : World} {Q : Exit → Act → World → Prop} {b : Nat} {src : List Value} (h : w.rangeAt b 0 src)
    (hgd : op.guard = none) (ty : TypeId) (x : Operand) (ho : op.op = .load ty x) (j : Nat) (hx : a.eval x = .pointer (some ⟨b, j, none⟩)) (v : Value) (hv : src[j]? = some v) (hu : (P.underlying ty).map TypeDesc.isRow = some false)
    (hk : wpList P ops Q rest (a.put op.dst v) w) : wpList P ops Q (op :: rest) a w :=
  wpList_plain hgd fun _ hK => by
    have hc : w.cell? ⟨b, j, none⟩ = some v := by have := h j v hv; rwa [Nat.zero_add] at this
    unfold Oper.wp execOp
    simp only [ho, hx, Instr.loadAt, Instr.sureAddr, Sem.run_bind, Sem.run_pure, Result.andThen_ok, run_loadVar_cell w _ ty v hc hu]
    exact hK _ _ hk
theorem rg_loads {P : Program} {ops : Array Oper} {rest : List Oper} {op : Oper} {a : Act} {w : World} {Q : Exit → Act → World → Prop} {b : Nat} {src : List Value} (h : w.rangeAt b 0 src)
    (hgd : op.guard = none) (ty : TypeId) (x : Operand) (ho : op.op = .load ty x) (j n : Nat) (hx : a.eval x = .pointer (some ⟨b, j, none⟩)) (hn : ((src.drop j).take n).length = n) (d : TypeDesc)
    (hu : P.underlying ty = some d) (hd : d.isRow = true) (hi : (P.info? ty).map (·.size) = some n)
    (hk : wpList P ops Q rest (a.put op.dst (.agg ((src.drop j).take n).toArray)) w) : wpList P ops Q (op :: rest) a w :=
  wpList_load_mid hgd ty x ho b j hx ((src.drop j).take n) d (fun i v hv => by
    rw [List.getElem?_take] at hv
    split at hv
    · rw [List.getElem?_drop] at hv
      have := h (j + i) v hv
      rwa [Nat.zero_add] at this
    · cases hv) hu hd (by rw [hn]; exact hi) hk

/- A walk is halted ahead of an operation: what follows is hidden. -/
theorem halt_at {P : Program} {ops : Array Oper} {Q : Exit → Act → World → Prop} {rest : List Oper} {o : Oper} {a : Act} {w : World} (x : Op) (_ho : o.op = x) (h : Hid (wpList P ops Q (o :: rest) a w)) : wpList P ops Q (o :: rest) a w := h.out

/- Guards for a hook: is the operation ahead a store, a load? -/
theorem on_store {P : Program} {ops : Array Oper} {Q : Exit → Act → World → Prop} {rest : List Oper} {d : Option Tmp} {ty : TypeId} {x y : Operand} {t : TypeId} {p : String} {af : Array Edge} {g : Option (Nat × Bool)} {a : Act} {w : World} (h : wpList P ops Q (⟨d, .store ty x y, t, p, af, g⟩ :: rest) a w) : wpList P ops Q (⟨d, .store ty x y, t, p, af, g⟩ :: rest) a w := h
theorem on_load {P : Program} {ops : Array Oper} {Q : Exit → Act → World → Prop} {rest : List Oper} {d : Option Tmp} {ty : TypeId} {x : Operand} {t : TypeId} {p : String} {af : Array Edge} {g : Option (Nat × Bool)} {a : Act} {w : World} (h : wpList P ops Q (⟨d, .load ty x, t, p, af, g⟩ :: rest) a w) : wpList P ops Q (⟨d, .load ty x, t, p, af, g⟩ :: rest) a w := h

/- A struct in a row of one's own whose cells are written. -/
structure Rk (w0 : World) (b o : Nat) (cs : List Value) (w : World) : Prop where
  r : w.rangeAt b o cs
  t : w.there b o cs.length
  bu : But b w0 w
  far : ∀ i, (i < o ∨ o + cs.length ≤ i) → w.cell? ⟨b, i, none⟩ = w0.cell? ⟨b, i, none⟩
  fz : ∀ i, w.frozen? ⟨b, i, none⟩ = w0.frozen? ⟨b, i, none⟩
theorem Rk.put {w0 w : World} {b o : Nat} {cs : List Value} (h : Rk w0 b o cs w) (j : Nat) (v : Value) (hj : j < cs.length) : Rk w0 b o (cs.set j v) (w.setCell ⟨b, o + j, none⟩ v) := by
  refine ⟨fun i u hu => ?_, by simpa using there_setCell h.t _ _, h.bu.setCell _ _, fun i hi => ?_, fun i => by simp [h.fz i]⟩
  · by_cases e : i = j
    · subst e
      rw [List.getElem?_set_self hj] at hu
      cases hu
      rw [World.cell?_setCell_same _ _ _ (h.r i _ (List.getElem?_eq_getElem hj))]
    · rw [List.getElem?_set_ne (Ne.symm e)] at hu
      rw [World.cell?_setCell_other _ _ _ _ (fun q => e (by injection q with _ q2 _; omega))]
      exact h.r i u hu
  · rw [List.length_set] at hi
    rw [World.cell?_setCell_other _ _ _ _ (fun q => by injection q with _ q2 _; omega)]
    exact h.far i hi
theorem rk_store {P : Program} {ops : Array Oper} {rest : List Oper} {op : Oper} {a : Act} {w w0 : World} {Q : Exit → Act → World → Prop} {b o : Nat} {cs : List Value} (h : Rk w0 b o cs w)
    (hgd : op.guard = none) (ty : TypeId) (x : Operand) (i : Nat) (ho : op.op = .store ty x (.tmp i)) (p : Nat) (hx : a.eval x = .pointer (some ⟨b, p, none⟩)) (j : Nat) (hp : p = o + j) (v : Value) (hv : a.tmps.toList[i]? = some v) (hj : j < cs.length) (hi : (P.info? ty).map (·.size) = some 1) (h1 : v.oneCell' = true)
    (hk : ∀ w', Rk w0 b o (cs.set j v) w' → wpList P ops Q rest (a.put op.dst undef) w') : wpList P ops Q (op :: rest) a w :=
  wpList_plain hgd fun _ hK => by
    subst hp
    have hy : a.eval (.tmp i) = v := by
      rw [Array.getElem?_toList] at hv
      simp [Act.eval, hv]
    have ht : w.there b (o + j) 1 := fun q hq => by
      obtain rfl : q = 0 := by omega
      exact h.t j hj
    have hcs : v.cells = #[v] := by cases v <;> first | rfl | cases h1
    have hst : (storeVar ty ⟨b, o + j, none⟩ v).run P w = .ok () (w.setCell ⟨b, o + j, none⟩ v) := by
      have := run_storeCells_cells (P := P) b (o + j) [v] 0 w (fun i hi => by simpa using (ht i (by simpa using hi)).1) (fun i hi => by simpa using (ht i (by simpa using hi)).2) (fun u hu => by simp at hu; subst hu; exact h1)
      cases hq : P.info? ty with
      | none => simp [hq] at hi
      | some i =>
        have hs : i.size = 1 := by simpa [hq] using hi
        simp only [Nat.add_zero] at this
        simp [storeVar, sizeOf, typeInfo, hq, hcs, hs, this, World.setCells]
    unfold Oper.wp execOp
    simp only [ho, hx, hy, Instr.storeAt, Instr.sureAddr, Sem.run_bind, Sem.run_pure, Result.andThen_ok, hst]
    exact hK _ _ (hk _ (h.put j v hj))
theorem rk_store0 {P : Program} {ops : Array Oper} {rest : List Oper} {op : Oper} {a : Act} {w w0 : World} {Q : Exit → Act → World → Prop} {b o : Nat} {cs : List Value} (h : Rk w0 b o cs w)
    (hgd : op.guard = none) (ty : TypeId) (x : Operand) (i : Nat) (ho : op.op = .store ty x (.tmp i)) (hx : a.eval x = .pointer (some ⟨b, o, none⟩)) (v : Value) (hv : a.tmps.toList[i]? = some v) (hj : 0 < cs.length) (hi : (P.info? ty).map (·.size) = some 1) (h1 : v.oneCell' = true)
    (hk : ∀ w', Rk w0 b o (cs.set 0 v) w' → wpList P ops Q rest (a.put op.dst undef) w') : wpList P ops Q (op :: rest) a w :=
  rk_store h hgd ty x i ho o hx 0 rfl v hv hj hi h1 hk
theorem rk_load {P : Program} {ops : Array Oper} {rest : List Oper} {op : Oper} {a : Act} {w : World} {Q : Exit → Act → World → Prop} {b o : Nat} {cs : List Value} (h : w.rangeAt b o cs)
    (hgd : op.guard = none) (ty : TypeId) (x : Operand) (ho : op.op = .load ty x) (p : Nat) (hx : a.eval x = .pointer (some ⟨b, p, none⟩)) (j : Nat) (hp : p = o + j) (v : Value) (hv : cs[j]? = some v) (hu : (P.underlying ty).map TypeDesc.isRow = some false)
    (hk : wpList P ops Q rest (a.put op.dst v) w) : wpList P ops Q (op :: rest) a w :=
  wpList_plain hgd fun _ hK => by
    subst hp
    have hc := h j v hv
    unfold Oper.wp execOp
    simp only [ho, hx, Instr.loadAt, Instr.sureAddr, Sem.run_bind, Sem.run_pure, Result.andThen_ok, run_loadVar_cell w _ ty v hc hu]
    exact hK _ _ hk
theorem rk_load0 {P : Program} {ops : Array Oper} {rest : List Oper} {op : Oper} {a : Act} {w : World} {Q : Exit → Act → World → Prop} {b o : Nat} {cs : List Value} (h : w.rangeAt b o cs)
    (hgd : op.guard = none) (ty : TypeId) (x : Operand) (ho : op.op = .load ty x) (hx : a.eval x = .pointer (some ⟨b, o, none⟩)) (v : Value) (hv : cs[0]? = some v) (hu : (P.underlying ty).map TypeDesc.isRow = some false)
    (hk : wpList P ops Q rest (a.put op.dst v) w) : wpList P ops Q (op :: rest) a w := rk_load h hgd ty x ho o hx 0 rfl v hv hu hk

end Go.Proofs.YtbipolfbkemmpaaDoor.Gs

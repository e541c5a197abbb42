import Derived.Test.YtoaopapnpndklaaDoorBk2
import Derived.Test.YtoaopapnpndklaaDoorM31
import Derived.Test.YtoaopapnpndklaaDoorM20

/- A struct that is copied cell by cell into new memory: the laws for its loads and stores, over no program. -/
namespace Go.Proofs.YtoaopapnpndklaaDoor.Gs
open Go.ChangeShapes Go.WideShapes Go.ChangeAt Go.RowKit
open Go.Proofs.YtoaopapnpndklaaDoor.Aid Go.Proofs.YtoaopapnpndklaaDoor.Lst
open Go.Proofs.YtoaopapnpndklaaDoor.Book (Ck ck_lit)
set_option maxRecDepth 100000
set_option linter.unusedVariables false

/- What is copied lies at the block b; the copy's cells at o; what is answered goes to r; rs: lists of one's own that were made meanwhile. -/
structure Tw (w0 : World) (b : Nat) (src : List Value) (r o : Nat) (cs : List Value) (rs : List (Nat × Nat × (Nat → Int))) (w : World) : Prop where
  s : w.rangeAt b 0 src
  c : Ck w o cs
  t : w.there r 0 cs.length
  k : ∀ x ∈ rs, Fk .u64 x.2.1 w x.1 x.2.2 ∧ w0.heap.size ≤ x.1 ∧ x.1 ≠ o ∧ x.1 ≠ r ∧ x.1 < w.heap.size
  b0 : Below w0.heap.size w0 w
  lb : b < w.heap.size
  lr : r < w.heap.size
  lo : o < w.heap.size
  ob : o ≠ b
  or : o ≠ r
  ge : w0.heap.size ≤ o
  gr : w0.heap.size ≤ r

theorem Tw.start (w : World) (S Z : Array Value) (t t1 t2 : TypeId) : Tw w w.heap.size S.toList (w.heap.size + 1) (w.heap.size + 1 + 1) Z.toList [] (((w.alloc (.cells S t)).alloc (.cells Z t1)).alloc (.cells Z t2)) :=
  ⟨range_lit S (heap3_0 w _ _ _), ck_lit Z (heap3_2 w _ _ _), by have := there_lit Z (heap3_1 w (.cells S t) (.cells Z t1) (.cells Z t2)); simpa using this, fun x hx => by simp at hx, below3 w _ _ _, by simp <;> omega, by simp <;> omega, by simp, by omega, by omega, by omega, by omega⟩

theorem Tw.later {w0 w w1 : World} {b r o : Nat} {src cs : List Value} {rs : List (Nat × Nat × (Nat → Int))} (h : Tw w0 b src r o cs rs w) (hb : Below w.heap.size w w1) : Tw w0 b src r o cs rs w1 :=
  ⟨range_below hb h.s h.lb, h.c.below hb h.lo, there_below hb h.t h.lr, fun x hx => ⟨(h.k x hx).1.later hb, (h.k x hx).2.1, (h.k x hx).2.2.1, (h.k x hx).2.2.2.1, Nat.lt_of_lt_of_le (h.k x hx).2.2.2.2 hb.size⟩, h.b0.trans (hb.mono h.b0.size), Nat.lt_of_lt_of_le h.lb hb.size, Nat.lt_of_lt_of_le h.lr hb.size, Nat.lt_of_lt_of_le h.lo hb.size, h.ob, h.or, h.ge, h.gr⟩

theorem Tw.row {w0 w w1 : World} {b r o : Nat} {src cs : List Value} {rs : List (Nat × Nat × (Nat → Int))} (h : Tw w0 b src r o cs rs w) (hb : Below w.heap.size w w1) {n : Nat} {f : Nat → Int} (hf : Fk .u64 n w1 w.heap.size f) (hz : w.heap.size < w1.heap.size) : Tw w0 b src r o cs ((w.heap.size, n, f) :: rs) w1 := by
  have H := h.later hb
  refine ⟨H.s, H.c, H.t, fun x hx => ?_, H.b0, H.lb, H.lr, H.lo, H.ob, H.or, H.ge, H.gr⟩
  rcases List.mem_cons.1 hx with rfl | hx
  · exact ⟨hf, h.b0.size, (Nat.ne_of_lt h.lo).symm, (Nat.ne_of_lt h.lr).symm, hz⟩
  · exact H.k x hx

theorem there_setCell {w : World} {b o n : Nat} (h : w.there b o n) (p : Addr) (v : Value) : (w.setCell p v).there b o n := fun j hj => by
  have := World.there_setCells h p.block 0 []
  obtain ⟨h1, h2⟩ := h j hj
  obtain ⟨u, hu⟩ := Option.isSome_iff_exists.1 h1
  refine ⟨?_, by simp [h2]⟩
  by_cases e : p = ⟨b, o + j, none⟩
  · subst e; rw [World.cell?_setCell_same _ _ _ hu]; rfl
  · rw [World.cell?_setCell_other _ _ _ _ e, hu]; rfl

theorem Tw.put {w0 w : World} {b r o : Nat} {src cs : List Value} {rs : List (Nat × Nat × (Nat → Int))} (h : Tw w0 b src r o cs rs w) (j : Nat) (v : Value) : Tw w0 b src r o (cs.set j v) rs (w.setCell ⟨o, j, none⟩ v) := by
  have hz : (w.setCell ⟨o, j, none⟩ v).heap.size = w.heap.size := by simp [World.setCell]
  refine ⟨fun i u hu => ?_, h.c.set j v, by simpa using there_setCell h.t _ _, fun x hx => ?_, h.b0.setCell h.ge v, by rw [hz]; exact h.lb, by rw [hz]; exact h.lr, by rw [hz]; exact h.lo, h.ob, h.or, h.ge, h.gr⟩
  · rw [World.cell?_setCell_far _ _ _ _ h.ob]; exact h.s i u hu
  · obtain ⟨k1, k2, k3, k4, k5⟩ := h.k x hx
    exact ⟨k1.far _ (fun e => k3 e.symm) v, k2, k3, k4, by rw [hz]; exact k5⟩

def setL (cs : List Value) : Nat → List Value → List Value
  | _, [] => cs
  | j, v :: r => setL (cs.set j v) (j + 1) r
theorem Tw.puts {w0 : World} {b r o : Nat} {src : List Value} {rs : List (Nat × Nat × (Nat → Int))} : ∀ (vs : List Value) (j : Nat) (cs : List Value) (w : World), Tw w0 b src r o cs rs w → Tw w0 b src r o (setL cs j vs) rs (w.setCells o j vs)
  | [], _, _, _, h => h
  | v :: l, j, cs, w, h => Tw.puts l (j + 1) (cs.set j v) _ (h.put j v)

theorem fk_setCells_far {k : IntKind} {n c : Nat} {f : Nat → Int} {b : Nat} (hc : c ≠ b) : ∀ (vs : List Value) (o : Nat) (w : World), Fk k n w b f → Fk k n (w.setCells c o vs) b f
  | [], _, _, h => h
  | v :: r, o, w, h => fk_setCells_far hc r (o + 1) _ (h.far ⟨c, o, none⟩ hc v)

/- One cell is loaded. -/
theorem run_loadVar_cell {P : Program} (w : World) (x : Addr) (ty : TypeId) (v : Value) (hc : w.cell? x = some v) (hu : (P.underlying ty).map TypeDesc.isRow = some false) : (loadVar ty x).run P w = .ok v w := by
  obtain ⟨d, hd, hr⟩ := Option.map_eq_some_iff.1 hu
  have hagg : (isAgg ty).run P w = .ok false w := by
    unfold isAgg
    rw [Sem.run_bind, run_underlying hd w]
    cases d <;> simp_all
  simp [loadVar, Sem.run_bind, hagg, run_load, hc]

theorem tw_load {P : Program} {ops : Array Oper} {rest : List Oper} {op : Oper} {a : Act} {w w0 : World} {Q : Exit → Act → World → Prop} {b r o : Nat} {src cs : List Value} {rs : List (Nat × Nat × (Nat → Int))} (h : Tw w0 b src r o cs rs w)
    (hgd : op.guard = none) (ty : TypeId) (x : Operand) (ho : op.op = .load ty x) (j : Nat) (hx : a.eval x = .pointer (some ⟨b, j, none⟩)) (v : Value) (hv : src[j]? = some v) (hu : (P.underlying ty).map TypeDesc.isRow = some false)
    (hk : wpList P ops Q rest (a.put op.dst v) w) : wpList P ops Q (op :: rest) a w :=
  wpList_plain hgd fun _ hK => by
    have hc : w.cell? ⟨b, j, none⟩ = some v := by have := h.s j v hv; rwa [Nat.zero_add] at this
    unfold Oper.wp execOp
    simp only [ho, hx, Instr.loadAt, Instr.sureAddr, Sem.run_bind, Sem.run_pure, Result.andThen_ok, run_loadVar_cell w _ ty v hc hu]
    exact hK _ _ hk

/- Some cells of it are loaded. -/
theorem tw_loads {P : Program} {ops : Array Oper} {rest : List Oper} {op : Oper} {a : Act} {w w0 : World} {Q : Exit → Act → World → Prop} {b r o : Nat} {src cs : List Value} {rs : List (Nat × Nat × (Nat → Int))} (h : Tw w0 b src r o cs rs w)
    (hgd : op.guard = none) (ty : TypeId) (x : Operand) (ho : op.op = .load ty x) (j n : Nat) (hx : a.eval x = .pointer (some ⟨b, j, none⟩)) (hn : ((src.drop j).take n).length = n) (d : TypeDesc)
    (hu : P.underlying ty = some d) (hd : d.isRow = true) (hi : (P.info? ty).map (·.size) = some n)
    (hk : wpList P ops Q rest (a.put op.dst (.agg ((src.drop j).take n).toArray)) w) : wpList P ops Q (op :: rest) a w :=
  wpList_load_mid hgd ty x ho b j hx ((src.drop j).take n) d (fun i v hv => by
    rw [List.getElem?_take] at hv
    split at hv
    · rw [List.getElem?_drop] at hv
      have := h.s (j + i) v hv
      rwa [Nat.zero_add] at this
    · cases hv) hu hd (by rw [hn]; exact hi) hk

/- One cell is stored. -/
theorem tw_store {P : Program} {ops : Array Oper} {rest : List Oper} {op : Oper} {a : Act} {w w0 : World} {Q : Exit → Act → World → Prop} {b r o : Nat} {src cs : List Value} {rs : List (Nat × Nat × (Nat → Int))} (h : Tw w0 b src r o cs rs w)
    (hgd : op.guard = none) (ty : TypeId) (x : Operand) (i : Nat) (ho : op.op = .store ty x (.tmp i)) (j : Nat) (hx : a.eval x = .pointer (some ⟨o, j, none⟩)) (v : Value) (hv : a.tmps.toList[i]? = some v) (hj : j < cs.length) (hi : (P.info? ty).map (·.size) = some 1) (h1 : v.oneCell' = true)
    (hk : ∀ w', Tw w0 b src r o (cs.set j v) rs w' → wpList P ops Q rest (a.put op.dst undef) w') : wpList P ops Q (op :: rest) a w :=
  wpList_plain hgd fun _ hK => by
    have hy : a.eval (.tmp i) = v := by
      rw [Array.getElem?_toList] at hv
      simp [Act.eval, hv]
    have hc := h.c j _ (List.getElem?_eq_getElem hj)
    have ht : w.there o j 1 := fun i hi => by
      obtain rfl : i = 0 := by omega
      exact ⟨by rw [Nat.add_zero, hc.1]; rfl, hc.2⟩
    have hcs : v.cells = #[v] := by cases v <;> first | rfl | cases h1
    have hst : (storeVar ty ⟨o, j, none⟩ v).run P w = .ok () (w.setCell ⟨o, j, none⟩ v) := by
      have := run_storeCells_cells (P := P) o j [v] 0 w (fun i hi => by simpa using (ht i (by simpa using hi)).1) (fun i hi => by simpa using (ht i (by simpa using hi)).2) (fun u hu => by simp at hu; subst hu; exact h1)
      cases hq : P.info? ty with
      | none => simp [hq] at hi
      | some i =>
        have hs : i.size = 1 := by simpa [hq] using hi
        simp only [Nat.add_zero] at this
        simp [storeVar, sizeOf, typeInfo, hq, hcs, hs, this, World.setCells]
    unfold Oper.wp execOp
    simp only [ho, hx, hy, Instr.storeAt, Instr.sureAddr, Sem.run_bind, Sem.run_pure, Result.andThen_ok, hst]
    exact hK _ _ (hk _ (h.put j v))

/- Some cells are stored. -/
theorem tw_stores {P : Program} {ops : Array Oper} {rest : List Oper} {op : Oper} {a : Act} {w w0 : World} {Q : Exit → Act → World → Prop} {b r o : Nat} {src cs : List Value} {rs : List (Nat × Nat × (Nat → Int))} (h : Tw w0 b src r o cs rs w)
    (hgd : op.guard = none) (ty : TypeId) (x : Operand) (i : Nat) (ho : op.op = .store ty x (.tmp i)) (j : Nat) (hx : a.eval x = .pointer (some ⟨o, j, none⟩)) (vs : List Value) (hv : a.tmps.toList[i]? = some (.agg vs.toArray)) (hj : j + vs.length ≤ cs.length) (hi : (P.info? ty).map (·.size) = some vs.length) (h1 : vs.all (·.oneCell') = true)
    (hk : ∀ w', Tw w0 b src r o (setL cs j vs) rs w' → wpList P ops Q rest (a.put op.dst undef) w') : wpList P ops Q (op :: rest) a w := by
  have hy : a.eval (.tmp i) = .agg vs.toArray := by
    rw [Array.getElem?_toList] at hv
    simp [Act.eval, hv]
  refine wpList_store_mid hgd ty x (.tmp i) ho o j vs.toArray hx hy (fun k hk => ?_) (by simpa using hi) (by simpa using h1) (hk _ (h.puts _ _ _ _))
  have hl : k < vs.length := by simpa using hk
  have hc := h.c (j + k) _ (List.getElem?_eq_getElem (by omega))
  exact ⟨by rw [hc.1]; rfl, hc.2⟩

/- A row of structs is made. -/
theorem run_make_rows {P : Program} (t e : TypeId) (Z : Array Value) (c bytes : Nat) (ht : P.underlying t = some (.slice e)) (hinfo : (P.info? e).map (fun i => (i.zero, i.size, i.bytes)) = some (some (.agg Z), c, bytes))
    (kl kc : IntKind) (n : Nat) (hbytes : bytes * n ≤ 281474976710656) (h63 : n ≤ 9223372036854775807) (w : World) :
    (Instr.makeSlice t (.int kl (n : Int)) (.int kc (n : Int))).run P w = .ok (.slice (some ⟨w.heap.size, 0, none⟩) n n) (w.alloc (.cells (madeCells Z (n * c)) e)) := by
  obtain ⟨i, hi, hzz⟩ := Option.map_eq_some_iff.1 hinfo
  simp only [Prod.mk.injEq] at hzz
  obtain ⟨hz, hs, hb⟩ := hzz
  have hb' : (i.bytes : Int) * (n : Int) ≤ 281474976710656 := by
    have h : ((i.bytes * n : Nat) : Int) ≤ 281474976710656 := by rw [hb]; omega
    rwa [Int.natCast_mul] at h
  have hr := run_make (P := P) w t e i (.agg Z) ht hi hz kl kc n n (by omega) (Int.le_refl _) hb' (by omega)
  simp only [Int.toNat_natCast, hs, Value.cells] at hr
  exact hr

theorem there_made (w : World) (Z : Array Value) (c n : Nat) (t : TypeId) (j : Nat) (hj : j < n) : (w.alloc (.cells (madeCells Z (n * c)) t)).there w.heap.size (j * c) c := fun i hi => by
  have hlt : j * c + i < n * c := by
    have := Nat.mul_le_mul_right c (show j + 1 ≤ n from hj)
    rw [Nat.add_mul, Nat.one_mul] at this
    omega
  have h := there_lit (madeCells Z (n * c)) (heap1_0 w (.cells (madeCells Z (n * c)) t)) (j * c + i) (by rw [size_madeCells]; exact hlt)
  rwa [Nat.zero_add] at h

/- One cell of a range is loaded. -/
theorem rg_load {P : Program} {ops : Array Oper} {rest : List Oper} {op : Oper} {a : Act} {w : World} {Q : Exit → Act → World → Prop} {b : Nat} {src : List Value} (h : w.rangeAt b 0 src)
    (hgd : op.guard = none) (ty : TypeId) (x : Operand) (ho : op.op = .load ty x) (j : Nat) (hx : a.eval x = .pointer (some ⟨b, j, none⟩)) (v : Value) (hv : src[j]? = some v) (hu : (P.underlying ty).map TypeDesc.isRow = some false)
    (hk : wpList P ops Q rest (a.put op.dst v) w) : wpList P ops Q (op :: rest) a w :=
  wpList_plain hgd fun _ hK => by
    have hc : w.cell? ⟨b, j, none⟩ = some v := by have := h j v hv; rwa [Nat.zero_add] at this
    unfold Oper.wp execOp
    simp only [ho, hx, Instr.loadAt, Instr.sureAddr, Sem.run_bind, Sem.run_pure, Result.andThen_ok, run_loadVar_cell w _ ty v hc hu]
    exact hK _ _ hk
theorem rg_loads {P : Program} {ops : Array Oper} {rest : List Oper} {op : Oper} {a : Act} {w : World} {Q : Exit → Act → World → Prop} {b : Nat} {src : List Value} (h : w.rangeAt b 0 src)
    (hgd : op.guard = none) (ty : TypeId) (x : Operand) (ho : op.op = .load ty x) (j n : Nat) (hx : a.eval x = .pointer (some ⟨b, j, none⟩)) (hn : ((src.drop j).take n).length = n) (d : TypeDesc)
    (hu : P.underlying ty = some d) (hd : d.isRow = true) (hi : (P.info? ty).map (·.size) = some n)
    (hk : wpList P ops Q rest (a.put op.dst (.agg ((src.drop j).take n).toArray)) w) : wpList P ops Q (op :: rest) a w :=
  wpList_load_mid hgd ty x ho b j hx ((src.drop j).take n) d (fun i v hv => by
    rw [List.getElem?_take] at hv
    split at hv
    · rw [List.getElem?_drop] at hv
      have := h (j + i) v hv
      rwa [Nat.zero_add] at this
    · cases hv) hu hd (by rw [hn]; exact hi) hk

/- A walk is halted ahead of an operation: what follows is hidden. -/
theorem halt_at {P : Program} {ops : Array Oper} {Q : Exit → Act → World → Prop} {rest : List Oper} {o : Oper} {a : Act} {w : World} (x : Op) (_ho : o.op = x) (h : Hid (wpList P ops Q (o :: rest) a w)) : wpList P ops Q (o :: rest) a w := h.out

/- Guards for a hook: is the operation ahead a store, a load? -/
theorem on_store {P : Program} {ops : Array Oper} {Q : Exit → Act → World → Prop} {rest : List Oper} {d : Option Tmp} {ty : TypeId} {x y : Operand} {t : TypeId} {p : String} {af : Array Edge} {g : Option (Nat × Bool)} {a : Act} {w : World} (h : wpList P ops Q (⟨d, .store ty x y, t, p, af, g⟩ :: rest) a w) : wpList P ops Q (⟨d, .store ty x y, t, p, af, g⟩ :: rest) a w := h
theorem on_load {P : Program} {ops : Array Oper} {Q : Exit → Act → World → Prop} {rest : List Oper} {d : Option Tmp} {ty : TypeId} {x : Operand} {t : TypeId} {p : String} {af : Array Edge} {g : Option (Nat × Bool)} {a : Act} {w : World} (h : wpList P ops Q (⟨d, .load ty x, t, p, af, g⟩ :: rest) a w) : wpList P ops Q (⟨d, .load ty x, t, p, af, g⟩ :: rest) a w := h

/- A struct in a row of one's own whose cells are written. -/
structure Rk (w0 : World) (b o : Nat) (cs : List Value) (w : World) : Prop where
  r : w.rangeAt b o cs
  t : w.there b o cs.length
  bu : But b w0 w
  far : ∀ i, (i < o ∨ o + cs.length ≤ i) → w.cell? ⟨b, i, none⟩ = w0.cell? ⟨b, i, none⟩
  fz : ∀ i, w.frozen? ⟨b, i, none⟩ = w0.frozen? ⟨b, i, none⟩
theorem Rk.put {w0 w : World} {b o : Nat} {cs : List Value} (h : Rk w0 b o cs w) (j : Nat) (v : Value) (hj : j < cs.length) : Rk w0 b o (cs.set j v) (w.setCell ⟨b, o + j, none⟩ v) := by
  refine ⟨fun i u hu => ?_, by simpa using there_setCell h.t _ _, h.bu.setCell _ _, fun i hi => ?_, fun i => by simp [h.fz i]⟩
  · by_cases e : i = j
    · subst e
      rw [List.getElem?_set_self hj] at hu
      cases hu
      rw [World.cell?_setCell_same _ _ _ (h.r i _ (List.getElem?_eq_getElem hj))]
    · rw [List.getElem?_set_ne (Ne.symm e)] at hu
      rw [World.cell?_setCell_other _ _ _ _ (fun q => e (by injection q with _ q2 _; omega))]
      exact h.r i u hu
  · rw [List.length_set] at hi
    rw [World.cell?_setCell_other _ _ _ _ (fun q => by injection q with _ q2 _; omega)]
    exact h.far i hi
theorem rk_store {P : Program} {ops : Array Oper} {rest : List Oper} {op : Oper} {a : Act} {w w0 : World} {Q : Exit → Act → World → Prop} {b o : Nat} {cs : List Value} (h : Rk w0 b o cs w)
    (hgd : op.guard = none) (ty : TypeId) (x : Operand) (i : Nat) (ho : op.op = .store ty x (.tmp i)) (p : Nat) (hx : a.eval x = .pointer (some ⟨b, p, none⟩)) (j : Nat) (hp : p = o + j) (v : Value) (hv : a.tmps.toList[i]? = some v) (hj : j < cs.length) (hi : (P.info? ty).map (·.size) = some 1) (h1 : v.oneCell' = true)
    (hk : ∀ w', Rk w0 b o (cs.set j v) w' → wpList P ops Q rest (a.put op.dst undef) w') : wpList P ops Q (op :: rest) a w :=
  wpList_plain hgd fun _ hK => by
    subst hp
    have hy : a.eval (.tmp i) = v := by
      rw [Array.getElem?_toList] at hv
      simp [Act.eval, hv]
    have ht : w.there b (o + j) 1 := fun q hq => by
      obtain rfl : q = 0 := by omega
      exact h.t j hj
    have hcs : v.cells = #[v] := by cases v <;> first | rfl | cases h1
    have hst : (storeVar ty ⟨b, o + j, none⟩ v).run P w = .ok () (w.setCell ⟨b, o + j, none⟩ v) := by
      have := run_storeCells_cells (P := P) b (o + j) [v] 0 w (fun i hi => by simpa using (ht i (by simpa using hi)).1) (fun i hi => by simpa using (ht i (by simpa using hi)).2) (fun u hu => by simp at hu; subst hu; exact h1)
      cases hq : P.info? ty with
      | none => simp [hq] at hi
      | some i =>
        have hs : i.size = 1 := by simpa [hq] using hi
        simp only [Nat.add_zero] at this
        simp [storeVar, sizeOf, typeInfo, hq, hcs, hs, this, World.setCells]
    unfold Oper.wp execOp
    simp only [ho, hx, hy, Instr.storeAt, Instr.sureAddr, Sem.run_bind, Sem.run_pure, Result.andThen_ok, hst]
    exact hK _ _ (hk _ (h.put j v hj))
theorem rk_store0 {P : Program} {ops : Array Oper} {rest : List Oper} {op : Oper} {a : Act} {w w0 : World} {Q : Exit → Act → World → Prop} {b o : Nat} {cs : List Value} (h : Rk w0 b o cs w)
    (hgd : op.guard = none) (ty : TypeId) (x : Operand) (i : Nat) (ho : op.op = .store ty x (.tmp i)) (hx : a.eval x = .pointer (some ⟨b, o, none⟩)) (v : Value) (hv : a.tmps.toList[i]? = some v) (hj : 0 < cs.length) (hi : (P.info? ty).map (·.size) = some 1) (h1 : v.oneCell' = true)
    (hk : ∀ w', Rk w0 b o (cs.set 0 v) w' → wpList P ops Q rest (a.put op.dst undef) w') : wpList P ops Q (op :: rest) a w :=
  rk_store h hgd ty x i ho o hx 0 rfl v hv hj hi h1 hk
theorem rk_load {P : Program} {ops : Array Oper} {rest : List Oper} {op : Oper} {a : Act} {w : World} {Q : Exit → Act → World → Prop} {b o : Nat} {cs : List Value} (h : w.rangeAt b o cs)
    (hgd : op.guard = none) (ty : TypeId) (x : Operand) (ho : op.op = .load ty x) (p : Nat) (hx : a.eval x = .pointer (some ⟨b, p, none⟩)) (j : Nat) (hp : p = o + j) (v : Value) (hv : cs[j]? = some v) (hu : (P.underlying ty).map TypeDesc.isRow = some false)
    (hk : wpList P ops Q rest (a.put op.dst v) w) : wpList P ops Q (op :: rest) a w :=
  wpList_plain hgd fun _ hK => by
    subst hp
    have hc := h j v hv
    unfold Oper.wp execOp
    simp only [ho, hx, Instr.loadAt, Instr.sureAddr, Sem.run_bind, Sem.run_pure, Result.andThen_ok, run_loadVar_cell w _ ty v hc hu]
    exact hK _ _ hk
theorem rk_load0 {P : Program} {ops : Array Oper} {rest : List Oper} {op : Oper} {a : Act} {w : World} {Q : Exit → Act → World → Prop} {b o : Nat} {cs : List Value} (h : w.rangeAt b o cs)
    (hgd : op.guard = none) (ty : TypeId) (x : Operand) (ho : op.op = .load ty x) (hx : a.eval x = .pointer (some ⟨b, o, none⟩)) (v : Value) (hv : cs[0]? = some v) (hu : (P.underlying ty).map TypeDesc.isRow = some false)
    (hk : wpList P ops Q rest (a.put op.dst v) w) : wpList P ops Q (op :: rest) a w := rk_load h hgd ty x ho o hx 0 rfl v hv hu hk

end Go.Proofs.YtoaopapnpndklaaDoor.Gs

/- What the law of BookDo rests on. -/
namespace Go.Proofs.YtoaopapnpndklaaDoor.Dra
open Go.ChangeShapes Go.WideShapes Go.ChangeAt Go.RowKit
open Go.Proofs.YtoaopapnpndklaaDoor.Aid Go.Proofs.YtoaopapnpndklaaDoor.Lst Go.Proofs.YtoaopapnpndklaaDoor.Book Go.Proofs.YtoaopapnpndklaaDoor.Rin
set_option maxRecDepth 100000
set_option linter.unusedVariables false
open Go.Proofs.YtoaopapnpndklaaDoor.Gs

theorem tobop_any (o : Ox) (w : World) : Calls Tryd.prog 7 #[.agg o.cells.toArray] w fun e w' => e = .returned (.agg o.cells.toArray) ∧ Below w.heap.size w w' := by
  obtain ⟨a, b, c, d⟩ := o
  simp only [Ox.cells]
  have HC : Hid (Tw w w.heap.size [.int .i64 a, .int .i64 b, .int .i64 c, .int .i64 d] (w.heap.size + 1) (w.heap.size + 1 + 1) [.int .i64 0, .int .i64 0, .int .i64 0, .int .i64 0] [] _) := Tw.start w #[.int .i64 a, .int .i64 b, .int .i64 c, .int .i64 d] #[.int .i64 0, .int .i64 0, .int .i64 0, .int .i64 0] 27 33 33
  go_enter Tryd.func7, Tryd.ntmps7
  go_wp2_with (first
    | refine tw_load HC.out rfl 3 _ rfl _ rfl _ rfl (by kernel_rfl) ?_
    | (refine tw_store HC.out rfl 3 _ _ rfl _ rfl _ rfl (Nat.le_of_ble_eq_true rfl) (by kernel_rfl) rfl ?_
       intro w' h
       simp only [List.set] at h
       replace HC : Hid _ := h
       clear h)
    | refine wpList_load_mid rfl 33 _ rfl (w.heap.size + 1 + 1) 0 rfl _ _ HC.out.c.range Tryd.underlying33 rfl (by kernel_rfl) ?_
    | refine wpList_store_mid rfl 33 _ _ rfl (w.heap.size + 1) 0 _ rfl rfl HC.out.t (by kernel_rfl) (by simp [Value.oneCell']) ?_)
  exact bodyPost_ret (results_cell_mid rfl _ _ (w.heap.size + 1) 0 _ _ rfl (World.rangeAt_setCells_same _ _ _ _ HC.out.t) Tryd.underlying33 rfl (by kernel_rfl)) rfl ⟨rfl, below_setCells HC.out.b0 HC.out.gr _ _⟩

theorem at_nil {b : Bx} {w : World} (h : b.At w) : ∀ x ∈ b.lists, x.a = none → x.n = 0 := fun x hx e => by
  rcases h x hx with q | ⟨k, o, e', _⟩
  · exact q
  · rw [e] at e'; cases e'
theorem trim_at {b : Bx} {w : World} (h : b.At w) : b.trim.At w := fun x hx => by
  simp only [Bx.trim, Bx.lists, List.mem_cons, List.not_mem_nil, or_false] at hx
  have key : ∀ z : Sx, z.At w → z.trim.At w := fun z hz => by
    rcases hz with q | ⟨k, o, e, g⟩
    · exact .inl q
    · refine .inr ⟨k, o, e, fun j hj => ?_⟩
      show _ = some (Value.int .i64 (if j < z.n then z.f j else 0))
      have hj' : j < z.n := hj
      rw [if_pos hj']
      exact g j hj'
  rcases hx with rfl | rfl | rfl | rfl | rfl | rfl | rfl | rfl
  all_goals exact key _ (h _ (by simp [Bx.lists]))
theorem eqt_any (x y : Bx) (w : World) (hx : x.At w) (hy : y.At w) (e : x.trim.m = y.trim.m) (hn : x.total ≤ 1000000000) :
    Calls Tryd.prog 9 #[.agg x.cells.toArray, .agg y.cells.toArray] w fun e w' => e = .returned (.bool true) ∧ Below w.heap.size w w' := Book.eq_any x.trim y.trim w (trim_at hx) (trim_at hy) e hn
theorem sbq_m {b c d : Bx} {o : Ox} {x y : Int} (e : c.m = b.m) (h : SbQ c o d x y) : SbQ b o d x y := by
  rcases h with ⟨n, h⟩ | ⟨k, d0, e0, h⟩
  · exact .inl ⟨fun q => n ((ok_m e).2 q), h⟩
  · exact .inr ⟨(ok_m e).1 k, d0, e0.trans e, h⟩
theorem bdq_sb {b c g d : Bx} {o : Ox} {x y x' y' : Int} (e : c.m = b.m) (h : BdQ c o g x y) (hs : SbQ b o d x' y') : g.trim.m = d.trim.m ∧ x = x' ∧ y = y' := met_all h (sbq_m e.symm hs)
theorem sbq_total {b d : Bx} {o : Ox} {x y : Int} (h : SbQ b o d x y) : d.total ≤ 1000 := by
  rcases h with ⟨_, e, _⟩ | ⟨k, d0, e0, h⟩
  · simp only [noneM, none1, Bx.m, Bm.mk.injEq, Sx.m, Prod.mk.injEq] at e
    obtain ⟨_, ⟨h1, _⟩, ⟨h2, _⟩, ⟨h3, _⟩, ⟨h4, _⟩, ⟨h5, _⟩, ⟨h6, _⟩, ⟨h7, _⟩, ⟨h8, _⟩⟩ := e
    simp only [Bx.total]
    omega
  · exact ok_total (Book.do_ok ((ok_m e0).2 k) h)
theorem trim_total {g d : Bx} (e : g.trim.m = d.trim.m) : g.total = d.total := Book.total_m (x := g.trim) (y := d.trim) e

structure Sb (w v : World) (rs : List (Nat × List Value)) (bs : List Bx) (W : World) : Prop where
  st : St w rs bs W
  be : Below v.heap.size v W
theorem Sb.r {w v W : World} {rs : List (Nat × List Value)} {bs : List Bx} (h : Sb w v rs bs W) : ∀ p ∈ rs, W.rangeAt p.1 0 p.2 ∧ p.1 < W.heap.size := h.st.r
theorem Sb.a {w v W : World} {rs : List (Nat × List Value)} {bs : List Bx} (h : Sb w v rs bs W) : ∀ b ∈ bs, b.At W := h.st.a
theorem Sb.b {w v W : World} {rs : List (Nat × List Value)} {bs : List Bx} (h : Sb w v rs bs W) : Below w.heap.size w W := h.st.b
theorem Sb.later {w v W W1 : World} {rs : List (Nat × List Value)} {bs : List Bx} (h : Sb w v rs bs W) (hb : Below W.heap.size W W1) : Sb w v rs bs W1 := ⟨h.st.later hb, h.be.trans (hb.mono h.be.size)⟩
theorem Sb.drew {w v W : World} {rs : List (Nat × List Value)} {bs : List Bx} (h : Sb w v rs bs W) : Sb w v rs bs W.drew := h.later ⟨rfl, rfl, rfl, Nat.le_refl _, fun _ _ => rfl⟩
theorem Sb.refl {w v : World} {rs : List (Nat × List Value)} {bs : List Bx} (h : St w rs bs v) : Sb w v rs bs v := ⟨h, Below.refl _ _⟩
theorem Sb.only {w v W W1 : World} {rs rs0 : List (Nat × List Value)} {bs : List Bx} {B C : Nat} (h0 : St w rs0 bs v) (h : Sb w v rs bs W) (ho : Only B C W W1) (hB : v.heap.size ≤ B) (hr : ∀ p ∈ rs, p.1 < B ∨ C ≤ p.1) : Sb w v rs bs W1 :=
  have be : Below v.heap.size v W1 := ⟨ho.os.trans h.be.os, ho.tape.trans h.be.tape, ho.output.trans h.be.output, Nat.le_trans h.be.size ho.size, fun k hk => by rw [ho.block k (Nat.lt_of_lt_of_le hk h.be.size) (.inl (by omega)), h.be.block k hk]⟩
  ⟨⟨fun p hp => ⟨fun j x hx => by rw [ho.cell (h.r p hp).2 (hr p hp)]; exact (h.r p hp).1 j x hx, Nat.lt_of_lt_of_le (h.r p hp).2 ho.size⟩, fun b hb => (h0.a b hb).later be, h0.b.trans (be.mono h0.b.size)⟩, be⟩
theorem Sb.stored {w v W : World} {rs : List (Nat × List Value)} {bs : List Bx} {r : Nat} {cs : List Value} (h0 : St w rs bs v) (h : Sb w v rs bs W) (hr : v.heap.size ≤ r) (hz : r < W.heap.size) (th : W.there r 0 cs.length) : Sb w v rs bs (W.setCells r 0 cs) ∧ Sb w v ((r, cs) :: rs) bs (W.setCells r 0 cs) ∧ Only r (r + 1) W (W.setCells r 0 cs) := by
  have OY : Only r (r + 1) W (W.setCells r 0 cs) := only_setCells (Nat.le_refl _) (by omega) _ _ _ (Only.refl _ _ _)
  have g := Sb.only h0 h OY hr (fun p hp => .inl (Nat.lt_of_lt_of_le (h0.r p hp).2 hr))
  refine ⟨g, ⟨⟨fun p hp => ?_, g.st.a, g.st.b⟩, g.be⟩, OY⟩
  rcases List.mem_cons.1 hp with rfl | hp
  · exact ⟨World.rangeAt_setCells_same _ _ _ _ th, Nat.lt_of_lt_of_le hz OY.size⟩
  · exact g.st.r p hp
theorem Sb.base {w v v' W : World} {rs : List (Nat × List Value)} {bs bs' : List Bx} (h : Sb w v' rs bs' W) (hv : Below v.heap.size v v') (hs : v.heap.size ≤ v'.heap.size) (hb : ∀ b ∈ bs, b ∈ bs') : Sb w v rs bs W := ⟨h.st.take (fun _ q => q) hb, hv.trans (h.be.mono hs)⟩
theorem hl_off {d : Bx} {B r : Nat} {W W1 : World} (h : d.Hl B W) (OY : Only r (r + 1) W W1) (hn : ∀ i, d.Lies i → i ≠ r) : d.Hl B W1 := ⟨fun z hz => (h.each z hz).same OY.size (fun k o hc e => by
  have h1 := hn k ⟨z, hz, hc, o, e⟩
  exact OY.block k (h.lies ⟨z, hz, hc, o, e⟩).2 (by omega)), h.apart⟩
structure F5 (w : World) (rs : List (Nat × List Value)) (b0 : Bx) (o : Ox) (d : Bx) (x y : Int) (r : Nat) (W : World) : Prop where
  q : SbQ b0 o d x y
  s : St w ((r, d.cells) :: rs) [d, b0] W
  g : w.heap.size + 2 ≤ r
structure F7 (w v : World) (rs : List (Nat × List Value)) (bs : List Bx) (b0 : Bx) (o : Ox) (c g : Bx) (B C : Nat) (x y : Int) (r : Nat) (W : World) : Prop where
  m : c.m = b0.m
  q : BdQ c o g x y
  s : Sb w v ((r, g.cells) :: rs) bs W
  g : g.Own B C W
  vB : v.heap.size ≤ B
  BC : B ≤ C
  CW : C ≤ W.heap.size
  rr : r < B ∨ C ≤ r
  vr : v.heap.size ≤ r
theorem load_want {Pr : Program} {ops : Array Oper} {rest : List Oper} {op : Oper} {a : Act} {w : World} {Q : Exit → Act → World → Prop} (hw : Region.wanted op (yielded ops a.tmps) = true) (ty : TypeId) (x : Operand) (ho : op.op = .load ty x)
    (b o : Nat) (hx : a.eval x = .pointer (some ⟨b, o, none⟩)) (cs : List Value) (d : TypeDesc) (hc : w.rangeAt b o cs)
    (hu : Pr.underlying ty = some d) (hd : d.isRow = true) (hi : (Pr.info? ty).map (·.size) = some cs.length)
    (h : wpList Pr ops Q rest (a.put op.dst (.agg cs.toArray)) w) : wpList Pr ops Q (op :: rest) a w :=
  BigFrame.wpList_want hw fun _ hK => wp_load_mid ty x ho b o hx cs d hc hu hd hi (hK _ _ h)
theorem via5 {P : Program} {K : Code} {Q : Exit → Act → World → Prop} {a : Act} {w : World} (F : Bx → Bx → Int → Int → Nat → World → Prop) (act : Bx → Bx → Int → Int → Nat → Act) (leaves : (∀ c d x y r w', F c d x y r w' → Q .normal (act c d x y r) w') → K.wp P Q a w) (tail : ∀ c d x y r w', F c d x y r w' → Q .normal (act c d x y r) w') : K.wp P Q a w := leaves tail
theorem via6 {P : Program} {K : Code} {Q : Exit → Act → World → Prop} {a : Act} {w : World} (F : Bx → Nat → Nat → Int → Int → Nat → World → Prop) (act : Bx → Int → Int → Nat → Act) (leaves : (∀ d B C x y r w', F d B C x y r w' → Q .normal (act d x y r) w') → K.wp P Q a w) (tail : ∀ d B C x y r w', F d B C x y r w' → Q .normal (act d x y r) w') : K.wp P Q a w := leaves tail
theorem via7 {P : Program} {K : Code} {Q : Exit → Act → World → Prop} {a : Act} {w : World} (F : Bx → Bx → Nat → Nat → Int → Int → Nat → World → Prop) (act : Bx → Bx → Int → Int → Nat → Act) (leaves : (∀ c d B C x y r w', F c d B C x y r w' → Q .normal (act c d x y r) w') → K.wp P Q a w) (tail : ∀ c d B C x y r w', F c d B C x y r w' → Q .normal (act c d x y r) w') : K.wp P Q a w := leaves tail
end Go.Proofs.YtoaopapnpndklaaDoor.Dra

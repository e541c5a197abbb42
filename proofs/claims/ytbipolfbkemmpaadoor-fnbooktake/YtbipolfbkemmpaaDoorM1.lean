import Derived.Test.YtbipolfbkemmpaaDoorRows
import Derived.WalkKit
import Derived.ProofKit
import Derived.OpenShut
import Derived.Below
import Derived.BigQuiet
import Derived.BigRegion
import Derived.Deep.QuietTactic
import Derived.Deep.RegionWith
import Derived.Deep.RegionHeld
import Derived.Deep.MidRow

/- Aids, over no program: ranges of cells, rows of ints, what lies in new blocks. -/
namespace Go.Proofs.YtbipolfbkemmpaaDoor.Aid
open Go.ChangeShapes Go.WideShapes Go.ChangeAt Go.RowKit

theorem bcell {W w1 : World} (hb : Below W.heap.size W w1) : (∀ b o, b < W.heap.size → w1.cell? ⟨b, o, none⟩ = W.cell? ⟨b, o, none⟩) ∧ (∀ b o, b < W.heap.size → w1.frozen? ⟨b, o, none⟩ = W.frozen? ⟨b, o, none⟩) :=
  ⟨fun b o h => hb.cell (p := ⟨b, o, none⟩) h, fun b o h => hb.frozen (p := ⟨b, o, none⟩) h⟩

theorem ret_bool {a b : Bool} (h : a = b) : Ending.returned (.bool a) = .returned (.bool b) := by rw [h]

/- A struct that is handed back out of memory, whatever its cells. -/
theorem results_cell_mid {P : Program} {fn : Func} {q : Tmp} {ty : TypeId} (h : fn.results = #[.cell q ty]) (tmps : Array Value) (w : World) (b o : Nat) (cs : List Value) (d : TypeDesc)
    (hp : tmps.getD q undef = .pointer (some ⟨b, o, none⟩)) (hc : w.rangeAt b o cs) (hu : P.underlying ty = some d) (hd : d.isRow = true) (hi : (P.info? ty).map (·.size) = some cs.length) :
    (results fn tmps).run P w = .ok (.agg cs.toArray) w := by
  have hp' : tmps[q]?.getD undef = .pointer (some ⟨b, o, none⟩) := by simpa using hp
  simp [results, h, hp', asAddr, run_loadVar_mid w b o ty cs d hc hu hd hi]

def ints (l : List Int) : List Value := l.map (Value.int .i64)
theorem ints_len (l : List Int) : (ints l).length = l.length := by simp [ints]
theorem ints_one (l : List Int) : (ints l).toArray.all (·.oneCell') = true := by
  rw [Array.all_eq_true_iff_forall_mem]; intro v hv; simp [ints] at hv; obtain ⟨n, _, rfl⟩ := hv; rfl
theorem ints_get (l : List Int) (j : Nat) (h : j < l.length) : (ints l)[j]? = some (.int .i64 (l.getD j 0)) := by simp [ints, h]

theorem below_setCells {B : Nat} {a w : World} (h : Below B a w) {b : Nat} (hb : B ≤ b) : ∀ (vs : List Value) (o : Nat), Below B a (w.setCells b o vs)
  | vs, o => by
    induction vs generalizing w o with
    | nil => exact h
    | cons v r ih => exact ih (h.setCell (p := ⟨b, o, none⟩) hb v) (o + 1)

theorem range_below {B : Nat} {W w1 : World} (hb : Below B W w1) {b o : Nat} {cs : List Value} (h : W.rangeAt b o cs) (hB : b < B) : w1.rangeAt b o cs := fun j v hv => by
  have := h j v hv
  rw [hb.cell (p := ⟨b, o + j, none⟩) hB]; exact this

theorem there_below {B : Nat} {W w1 : World} (hb : Below B W w1) {b o n : Nat} (h : W.there b o n) (hB : b < B) : w1.there b o n := fun j hj => by
  have := h j hj
  rw [hb.cell (p := ⟨b, o + j, none⟩) hB, hb.frozen (p := ⟨b, o + j, none⟩) hB]; exact this

theorem range_lit {w : World} {b : Nat} (C : Array Value) {t : TypeId} {fr : Nat × Nat} (hb : w.heap[b]? = some (.cells C t fr)) : w.rangeAt b 0 C.toList := fun j v hv => by
  rw [cell_of_row w b (0 + j) C t fr hb]; simpa using hv

theorem there_lit {w : World} {b : Nat} (C : Array Value) {t : TypeId} (hb : w.heap[b]? = some (.cells C t (0, 0))) : w.there b 0 C.size := fun j hj => by
  rw [cell_of_row w b (0 + j) C t (0, 0) hb, frozen_of_row w b (0 + j) C t hb]; simp [hj]

theorem heap1_0 (w : World) (A : Obj) : (w.alloc A).heap[w.heap.size]? = some A := heap_alloc_new w A
theorem heap2_0 (w : World) (A B : Obj) : ((w.alloc A).alloc B).heap[w.heap.size]? = some A := by
  rw [heap_alloc_old _ _ (by simp)]; exact heap_alloc_new w A
theorem heap2_1 (w : World) (A B : Obj) : ((w.alloc A).alloc B).heap[w.heap.size + 1]? = some B := by
  have := heap_alloc_new (w.alloc A) B; simpa using this
theorem heap3_0 (w : World) (A B C : Obj) : (((w.alloc A).alloc B).alloc C).heap[w.heap.size]? = some A := by
  rw [heap_alloc_old _ _ (by simp; omega)]; exact heap2_0 w A B
theorem heap3_1 (w : World) (A B C : Obj) : (((w.alloc A).alloc B).alloc C).heap[w.heap.size + 1]? = some B := by
  rw [heap_alloc_old _ _ (by simp)]; exact heap2_1 w A B
theorem heap3_2 (w : World) (A B C : Obj) : (((w.alloc A).alloc B).alloc C).heap[w.heap.size + 1 + 1]? = some C := by
  have := heap_alloc_new ((w.alloc A).alloc B) C; simpa using this

theorem below1 (w : World) (A : Obj) : Below w.heap.size w (w.alloc A) := (Below.refl _ _).alloc (Nat.le_refl _) _
theorem below2 (w : World) (A B : Obj) : Below w.heap.size w ((w.alloc A).alloc B) := (below1 w A).alloc (by simp) _
theorem below3 (w : World) (A B C : Obj) : Below w.heap.size w (((w.alloc A).alloc B).alloc C) := (below2 w A B).alloc (by simp; omega) _

/- The first n cells of a block are known ints and may be written. -/
def Full (n : Nat) (w : World) (b : Nat) (f : Nat → Int) : Prop := ∀ j, j < n → w.cell? ⟨b, j, none⟩ = some (.int .i64 (f j)) ∧ w.frozen? ⟨b, j, none⟩ = false

theorem Full.set {n : Nat} {w : World} {b : Nat} {f : Nat → Int} (h : Full n w b f) (k : Nat) (hk : k < n) (x : Int) (g : Nat → Int) (hg : g k = x) (ho : ∀ j, j < n → j ≠ k → g j = f j) : Full n (w.setCell ⟨b, k, none⟩ (.int .i64 x)) b g := fun j hj => by
  refine ⟨?_, ?_⟩
  · by_cases e : j = k
    · subst e
      rw [World.cell?_setCell_same _ _ _ (h j hj).1, hg]
    · have hne : (⟨b, k, none⟩ : Addr) ≠ ⟨b, j, none⟩ := fun h => e (by injection h with _ h2 _; exact h2.symm)
      rw [World.cell?_setCell_other _ _ _ _ hne, ho j hj e]; exact (h j hj).1
  · have := (h j hj).2
    simp [this]

theorem Full.drew {n : Nat} {w : World} {b : Nat} {f : Nat → Int} (h : Full n w b f) : Full n w.drew b f := h

theorem Full.congr {n : Nat} {w : World} {b : Nat} {f g : Nat → Int} (h : Full n w b f) (e : ∀ j, j < n → g j = f j) : Full n w b g := fun j hj => by rw [e j hj]; exact h j hj

theorem Full.range {n : Nat} {w : World} {b : Nat} {f : Nat → Int} (h : Full n w b f) : w.rangeAt b 0 (ints ((List.range n).map f)) := fun j v hv => by
  by_cases hj : j < n
  · rw [ints_get _ _ (by simpa using hj)] at hv
    simp [hj] at hv
    subst hv
    simpa using (h j hj).1
  · rw [List.getElem?_eq_none (by simp [ints]; omega)] at hv; cases hv

theorem Full.below {n : Nat} {B : Nat} {W w1 : World} (hb : Below B W w1) {b : Nat} {f : Nat → Int} (h : Full n W b f) (hB : b < B) : Full n w1 b f := fun j hj => by
  rw [hb.cell (p := ⟨b, j, none⟩) hB, hb.frozen (p := ⟨b, j, none⟩) hB]; exact h j hj

/- Short forms. -/
theorem at0 {w : World} {b : Nat} {cs : List Value} (h : w.rangeAt b 0 cs) (j : Nat) {v : Value} (hv : cs[j]? = some v) : w.cell? ⟨b, j, none⟩ = some v := by
  have := h j v hv
  rwa [Nat.zero_add] at this
theorem s1 {α : Type} (l : List α) (i : Nat) (x : α) : l.toArray.setIfInBounds i x = (l.set i x).toArray := List.setIfInBounds_toArray ..
theorem s2 {α : Type} (a b : α) (l : List α) : (a :: l).set 0 b = b :: l := rfl
theorem s3 {α : Type} (a b : α) (l : List α) (n : Nat) : (a :: l).set (n + 1) b = a :: l.set n b := rfl
theorem tB {P : Program} {md : Region.Mode} {ops : Array Oper} {Q : Exit → Act → World → Prop} {S : World → Prop} {oi : Oper} {v : Value} {d : Option Tmp} {fuel : Nat} {listed : Array Bool} {a : Act} {w : World} (i : Nat) (hi : ops[i]? = some oi) (hd : oi.dst = d) (hy : YieldsIf P ops S oi v a) (hS : S w)
    (h : wpAnyH P md ops Q S fuel (listed.setIfInBounds i true) (a.put d v) w)
    (hs : Region.noSelect ops = true := by kernel_rfl) (hf : Region.free md ops listed i = true := by kernel_rfl) (hr : (Region.ready md ops listed).contains i = true := by kernel_rfl)
    (hQ : ∀ c a w, Q (.panic c) (a.put d v) w → Q (.panic c) a w := by exact fun _ _ _ h => h) : wpAnyH P md ops Q S (fuel + 1) listed a w := by
  subst hd
  exact wpAnyH_take hi hs hf hr hQ hy hS h
theorem tS {P : Program} {md : Region.Mode} {ops : Array Oper} {Q : Exit → Act → World → Prop} {S : World → Prop} {oi : Oper} {d : Option Tmp} {fuel : Nat} {listed : Array Bool} {a : Act} {w : World} (i : Nat) (hi : ops[i]? = some oi) (hd : oi.dst = d) (hS : S w)
    (h : wpAnyH P md ops Q S fuel (listed.setIfInBounds i true) (a.put d undef) w) (hy : Region.wanted oi (yielded ops a.tmps) = false := by rfl)
    (hs : Region.noSelect ops = true := by kernel_rfl) (hf : Region.free md ops listed i = true := by kernel_rfl) (hr : (Region.ready md ops listed).contains i = true := by kernel_rfl)
    (hQ : ∀ c a w, Q (.panic c) (a.put d undef) w → Q (.panic c) a w := by exact fun _ _ _ h => h) : wpAnyH P md ops Q S (fuel + 1) listed a w := tB i hi hd (.inr ⟨hy, rfl⟩) hS h hs hf hr hQ
theorem tI {P : Program} {md : Region.Mode} {ops : Array Oper} {Q : Exit → Act → World → Prop} {S : World → Prop} {oi : Oper} {v : Value} {d : Option Tmp} {fuel : Nat} {listed : Array Bool} {a : Act} {w : World} (i : Nat) (hi : ops[i]? = some oi) (hd : oi.dst = d) (hy : ∀ w, S w → (execOp a.eval oi).run P w = .ok (.value v) w) (hS : S w)
    (h : wpAnyH P md ops Q S fuel (listed.setIfInBounds i true) (a.put d v) w) (hw : Region.wanted oi (yielded ops a.tmps) = true := by rfl)
    (hs : Region.noSelect ops = true := by kernel_rfl) (hf : Region.free md ops listed i = true := by kernel_rfl) (hr : (Region.ready md ops listed).contains i = true := by kernel_rfl)
    (hQ : ∀ c a w, Q (.panic c) (a.put d v) w → Q (.panic c) a w := by exact fun _ _ _ h => h) : wpAnyH P md ops Q S (fuel + 1) listed a w := tB i hi hd (.inl ⟨hw, hy⟩) hS h hs hf hr hQ
theorem r1 {P : Program} {md : Region.Mode} {ops : Array Oper} {Q : Exit → Act → World → Prop} {S : World → Prop} {fuel : Nat} {listed : Array Bool} {a : Act} {w : World} (i : Nat) {o : Oper} (ho : ops[i]? = some o)
    (h : ∀ K' : Act → World → Prop, Shut (∀ a w, S w → (S w → wpAnyH P md ops Q S fuel (listed.setIfInBounds i true) a w) → K' a w) → if Region.wanted o (yielded ops a.tmps) = true then Oper.wp P o a w K' Q else K' (a.put o.dst undef) w)
    (hr : Region.ready md ops listed = [i] := by kernel_rfl) : wpAnyH P md ops Q S (fuel + 1) listed a w := wpAnyH_ready hr (by simp) (AllReadyH.cons ho h AllReadyH.nil)

end Go.Proofs.YtbipolfbkemmpaaDoor.Aid
/- Rings of links: who is behind whom, and who is ahead: over no program and no memory. -/
namespace Go.Proofs.YtbipolfbkemmpaaDoor.Rin
set_option linter.unusedVariables false

def upd (f : Nat → Nat) (k v : Nat) : Nat → Nat := fun i => if i = k then v else f i
theorem upd_same (f : Nat → Nat) (k v : Nat) : upd f k v k = v := by simp [upd]
theorem upd_ne {f : Nat → Nat} {k v i : Nat} (h : i ≠ k) : upd f k v i = f i := by simp [upd, h]

/- From a through l to b: each one's next is the one behind it, whose prev is it. -/
def Dseg (nx pv : Nat → Nat) : Nat → List Nat → Nat → Prop
  | a, [], b => nx a = b ∧ pv b = a
  | a, x :: l, b => nx a = x ∧ pv x = a ∧ Dseg nx pv x l b

theorem dseg_app {nx pv : Nat → Nat} : ∀ {l1 : List Nat} {a x b : Nat} {l2 : List Nat}, Dseg nx pv a (l1 ++ x :: l2) b ↔ Dseg nx pv a l1 x ∧ Dseg nx pv x l2 b
  | [], a, x, b, l2 => by simp only [List.nil_append, Dseg]; exact ⟨fun ⟨h1, h2, h3⟩ => ⟨⟨h1, h2⟩, h3⟩, fun ⟨⟨h1, h2⟩, h3⟩ => ⟨h1, h2, h3⟩⟩
  | y :: r, a, x, b, l2 => by
    simp only [List.cons_append, Dseg, dseg_app (l1 := r)]
    exact ⟨fun ⟨h1, h2, h3, h4⟩ => ⟨⟨h1, h2, h3⟩, h4⟩, fun ⟨⟨h1, h2, h3⟩, h4⟩ => ⟨h1, h2, h3, h4⟩⟩

theorem dseg_congr {nx pv nx' pv' : Nat → Nat} : ∀ {l : List Nat} {a b : Nat}, Dseg nx pv a l b → (∀ i, i = a ∨ i ∈ l → nx' i = nx i) → (∀ i, i ∈ l ∨ i = b → pv' i = pv i) → Dseg nx' pv' a l b
  | [], a, b, h, hn, hp => ⟨(hn a (.inl rfl)).trans h.1, (hp b (.inr rfl)).trans h.2⟩
  | x :: r, a, b, h, hn, hp => ⟨(hn a (.inl rfl)).trans h.1, (hp x (.inl List.mem_cons_self)).trans h.2.1,
    dseg_congr h.2.2 (fun i hi => hn i (.inr (by rcases hi with rfl | hi; exact List.mem_cons_self; exact List.mem_cons_of_mem _ hi))) (fun i hi => hp i (by rcases hi with hi | hi; exact .inl (List.mem_cons_of_mem _ hi); exact .inr hi))⟩

/- A ring: from s through l back to s. -/
structure Ring (nx pv : Nat → Nat) (s : Nat) (l : List Nat) : Prop where
  d : Dseg nx pv s l s
  n : (s :: l).Nodup
theorem Ring.next {nx pv : Nat → Nat} {s : Nat} {l : List Nat} (h : Ring nx pv s l) : nx s = l.headD s := by
  have := h.d
  cases l with
  | nil => exact this.1
  | cons x r => exact this.1
theorem Ring.prev {nx pv : Nat → Nat} {s : Nat} {l : List Nat} (h : Ring nx pv s l) : pv s = l.getLastD s := by
  have := h.d
  rcases List.eq_nil_or_concat l with rfl | ⟨r, x, rfl⟩
  · exact this.2
  · rw [List.concat_eq_append] at this ⊢
    have := (dseg_app.1 this).2.2
    simpa using this

/- A link is put between a and b. -/
theorem dseg_put {nx pv : Nat → Nat} {l1 l2 : List Nat} {s a x : Nat} (hn : (s :: (l1 ++ l2)).Nodup) (hx : x ∉ s :: (l1 ++ l2)) (ha : a = l1.getLastD s) (hd : Dseg nx pv s (l1 ++ l2) s) :
    Dseg (upd (upd nx x (l2.headD s)) a x) (upd (upd pv x a) (l2.headD s) x) s (l1 ++ x :: l2) s := by
  have hxs : x ≠ s := fun e => hx (by rw [e]; exact List.mem_cons_self)
  have hx1 : ∀ i ∈ l1, i ≠ x := fun i hi e => hx (by rw [← e]; exact List.mem_cons_of_mem _ (List.mem_append_left _ hi))
  have hx2 : ∀ i ∈ l2, i ≠ x := fun i hi e => hx (by rw [← e]; exact List.mem_cons_of_mem _ (List.mem_append_right _ hi))
  rw [List.nodup_cons, List.nodup_append] at hn
  obtain ⟨hs, n1, n2, n3⟩ := hn
  have hs1 : s ∉ l1 := fun h => hs (List.mem_append_left _ h)
  have hs2 : s ∉ l2 := fun h => hs (List.mem_append_right _ h)
  refine dseg_app.2 ⟨?_, ?_⟩
  · -- from s through l1 to x
    rcases List.eq_nil_or_concat l1 with rfl | ⟨r, y, rfl⟩
    · simp only [List.getLastD_nil] at ha
      subst ha
      refine ⟨upd_same _ _ _, ?_⟩
      rw [upd_ne (show x ≠ l2.headD a from ?_), upd_same]
      cases l2 with
      | nil => exact hxs
      | cons z t => exact (hx2 z List.mem_cons_self).symm
    · simp only [List.concat_eq_append] at *
      have ey : a = y := by rw [ha]; simp
      subst ey
      rw [List.append_assoc, List.singleton_append] at hd
      have h1 := (dseg_app.1 hd).1
      refine dseg_app.2 ⟨dseg_congr h1 (fun i hi => ?_) (fun i hi => ?_), upd_same _ _ _, ?_⟩
      · have e1 : i ≠ x := by rcases hi with rfl | hi; exact hxs.symm; exact hx1 i (List.mem_append_left _ hi)
        have e2 : i ≠ a := by
          rcases hi with rfl | hi
          · exact fun e => hs1 (by rw [e]; simp)
          · rw [List.nodup_append] at n1; exact fun e => n1.2.2 i hi a (by simp) e
        rw [upd_ne e2, upd_ne e1]
      · have e1 : i ≠ x := by rcases hi with hi | rfl; exact hx1 i (List.mem_append_left _ hi); exact hx1 i (by simp)
        have m1 : i ∈ r ++ [a] := by rcases hi with hi | rfl; exact List.mem_append_left _ hi; simp
        have e2 : i ≠ l2.headD s := by
          cases l2 with
          | nil => exact fun e => hs1 (by simp only [List.headD_nil] at e; rw [← e]; exact m1)
          | cons z t => exact fun e => n3 i m1 z List.mem_cons_self e
        rw [upd_ne e2, upd_ne e1]
      · rw [upd_ne (show x ≠ l2.headD s from ?_), upd_same]
        cases l2 with
        | nil => exact hxs
        | cons z t => exact (hx2 z List.mem_cons_self).symm
  · -- from x through l2 to s
    have xa : x ≠ a := by
      rcases List.eq_nil_or_concat l1 with rfl | ⟨r, y, rfl⟩
      · simp only [List.getLastD_nil] at ha; rw [ha]; exact hxs
      · simp only [List.concat_eq_append] at ha hx1; rw [ha]; simp; exact (hx1 y (by simp)).symm
    have al : ∀ i ∈ l2, i ≠ a := by
      rcases List.eq_nil_or_concat l1 with rfl | ⟨r, y, rfl⟩
      · simp only [List.getLastD_nil] at ha; rw [ha]; exact fun i hi e => hs2 (by rw [← e]; exact hi)
      · simp only [List.concat_eq_append] at ha n3; rw [ha]; simp; exact fun i hi e => n3 y (by simp) i hi e.symm
    cases l2 with
    | nil => exact ⟨by rw [upd_ne xa, upd_same]; rfl, upd_same _ _ _⟩
    | cons z t =>
      have h2 : Dseg nx pv z t s := (dseg_app.1 hd).2
      refine ⟨by rw [upd_ne xa, upd_same]; rfl, upd_same _ _ _, dseg_congr h2 (fun i hi => ?_) (fun i hi => ?_)⟩
      · have m : i ∈ z :: t := by rcases hi with rfl | hi; exact List.mem_cons_self; exact List.mem_cons_of_mem _ hi
        rw [upd_ne (al i m), upd_ne (hx2 i m)]
      · have e1 : i ≠ x := by rcases hi with hi | rfl; exact hx2 i (List.mem_cons_of_mem _ hi); exact hxs.symm
        have e2 : i ≠ z := by
          rcases hi with hi | rfl
          · exact fun e => (List.nodup_cons.1 n2).1 (by rw [← e]; exact hi)
          · exact fun e => hs2 (by rw [e]; exact List.mem_cons_self)
        rw [upd_ne (show i ≠ (z :: t).headD s from e2), upd_ne e1]

theorem Ring.follow {nx pv : Nat → Nat} {s x : Nat} {l : List Nat} (h : Ring nx pv s l) (hx : x ∉ s :: l) : Ring (upd (upd nx x (nx s)) s x) (upd (upd pv x s) (nx s) x) s (x :: l) := by
  have := dseg_put (l1 := []) (l2 := l) (a := s) (x := x) h.n hx rfl h.d
  rw [h.next]
  refine ⟨this, ?_⟩
  have n := h.n
  rw [List.nodup_cons] at n ⊢
  refine ⟨fun m => ?_, List.nodup_cons.2 ⟨fun m => hx (List.mem_cons_of_mem _ m), n.2⟩⟩
  rcases List.mem_cons.1 m with e | m
  · exact hx (by rw [e]; exact List.mem_cons_self)
  · exact n.1 m
/- .. behind the last one: 'ring.prev.follow'. -/
theorem Ring.append {nx pv : Nat → Nat} {s x : Nat} {l : List Nat} (h : Ring nx pv s l) (hx : x ∉ s :: l) : nx (pv s) = s ∧ Ring (upd (upd nx x s) (pv s) x) (upd (upd pv x (pv s)) s x) s (l ++ [x]) := by
  have hd : Dseg nx pv s (l ++ []) s := by rw [List.append_nil]; exact h.d
  have := dseg_put (l1 := l) (l2 := []) (a := pv s) (x := x) (by rw [List.append_nil]; exact h.n) (by rw [List.append_nil]; exact hx) h.prev hd
  refine ⟨?_, this, ?_⟩
  · rw [h.prev]
    have d := h.d
    rcases List.eq_nil_or_concat l with rfl | ⟨r, y, rfl⟩
    · exact d.1
    · rw [List.concat_eq_append] at d ⊢
      have := (dseg_app.1 d).2.1
      simpa using this
  · have n := h.n
    rw [List.nodup_cons] at n ⊢
    refine ⟨fun m => ?_, List.nodup_append.2 ⟨n.2, by simp, fun i hi j hj e => ?_⟩⟩
    · rcases List.mem_append.1 m with m | m
      · exact n.1 m
      · simp at m; exact hx (by rw [m]; exact List.mem_cons_self)
    · simp at hj; subst hj; exact hx (by rw [← e]; exact List.mem_cons_of_mem _ hi)

/- A link is taken out: its own next and prev stay. -/
theorem Ring.leave {nx pv : Nat → Nat} {s x : Nat} {l1 l2 : List Nat} (h : Ring nx pv s (l1 ++ x :: l2)) :
    nx x = l2.headD s ∧ pv x = l1.getLastD s ∧ Ring (upd nx (pv x) (nx x)) (upd pv (nx x) (pv x)) s (l1 ++ l2) ∧ x ≠ pv x := by
  obtain ⟨d1, d2⟩ := dseg_app.1 h.d
  have n := h.n
  rw [List.nodup_cons, List.nodup_append] at n
  obtain ⟨hs, n1, n2, n3⟩ := n
  obtain ⟨n4, n5⟩ := List.nodup_cons.1 n2
  have hs1 : s ∉ l1 := fun m => hs (List.mem_append_left _ m)
  have hs2 : s ∉ l2 := fun m => hs (List.mem_append_right _ (List.mem_cons_of_mem _ m))
  have hxs : x ≠ s := fun e => hs (by rw [← e]; exact List.mem_append_right _ List.mem_cons_self)
  have hx1 : x ∉ l1 := fun m => n3 x m x List.mem_cons_self rfl
  have h12 : ∀ i ∈ l1, i ∉ l2 := fun i hi m => n3 i hi i (List.mem_cons_of_mem _ m) rfl
  have en : nx x = l2.headD s := by
    cases l2 with
    | nil => exact d2.1
    | cons z t => exact d2.1
  have ep : pv x = l1.getLastD s := by
    rcases List.eq_nil_or_concat l1 with rfl | ⟨r, y, rfl⟩
    · exact d1.2
    · rw [List.concat_eq_append] at d1 ⊢
      have := (dseg_app.1 d1).2.2
      simpa using this
  have xp : x ≠ l1.getLastD s := by
    rcases List.eq_nil_or_concat l1 with rfl | ⟨r, y, rfl⟩
    · simpa using hxs
    · rw [List.concat_eq_append] at hx1 ⊢
      simp at hx1 ⊢
      exact fun e => hx1.2 e
  rw [en, ep]
  refine ⟨rfl, rfl, ⟨?_, ?_⟩, xp⟩
  · -- the part behind, from p
    have tailD : ∀ p, (∀ i ∈ l2, i ≠ p) → Dseg (upd nx p (l2.headD s)) (upd pv (l2.headD s) p) p l2 s := by
      intro p hp
      cases l2 with
      | nil => exact ⟨upd_same _ _ _, upd_same _ _ _⟩
      | cons z t =>
        refine ⟨upd_same _ _ _, upd_same _ _ _, dseg_congr d2.2.2 (fun i hi => ?_) (fun i hi => ?_)⟩
        · have m : i ∈ z :: t := by rcases hi with rfl | hi; exact List.mem_cons_self; exact List.mem_cons_of_mem _ hi
          rw [upd_ne (hp i m)]
        · have e2 : i ≠ z := by
            rcases hi with hi | rfl
            · exact fun e => (List.nodup_cons.1 n5).1 (by rw [← e]; exact hi)
            · exact fun e => hs2 (by rw [e]; exact List.mem_cons_self)
          rw [upd_ne (show i ≠ (z :: t).headD s from e2)]
    rcases List.eq_nil_or_concat l1 with rfl | ⟨r, y, rfl⟩
    · simp only [List.getLastD_nil, List.nil_append]
      exact tailD s (fun i hi e => hs2 (by rw [← e]; exact hi))
    · simp only [List.concat_eq_append] at *
      have ey : (r ++ [y]).getLastD s = y := by simp
      rw [ey]
      rw [List.append_assoc, List.singleton_append]
      refine dseg_app.2 ⟨dseg_congr (dseg_app.1 d1).1 (fun i hi => ?_) (fun i hi => ?_), tailD y (fun i hi e => h12 y (by simp) (by rw [← e]; exact hi))⟩
      · have e1 : i ≠ y := by
          rcases hi with rfl | hi
          · exact fun e => hs1 (by rw [e]; simp)
          · rw [List.nodup_append] at n1; exact fun e => n1.2.2 i hi y (by simp) e
        rw [upd_ne e1]
      · have m1 : i ∈ r ++ [y] := by rcases hi with hi | rfl; exact List.mem_append_left _ hi; simp
        have e1 : i ≠ l2.headD s := by
          cases l2 with
          | nil => exact fun e => hs1 (by simp only [List.headD_nil] at e; rw [← e]; exact m1)
          | cons z t => exact fun e => h12 i m1 (by simp only [List.headD_cons] at e; rw [e]; exact List.mem_cons_self)
        rw [upd_ne e1]
  · refine List.nodup_cons.2 ⟨fun m => ?_, List.nodup_append.2 ⟨n1, n5, fun i hi j hj => n3 i hi j (List.mem_cons_of_mem _ hj)⟩⟩
    rcases List.mem_append.1 m with m | m
    · exact hs1 m
    · exact hs2 m

end Go.Proofs.YtbipolfbkemmpaaDoor.Rin

import Derived.Test.YtlhfkackchcncaaM1
import Derived.Deep.AppendSrc
import Derived.Test.YtlhfkackchcncaaM3

/- A region that draws its order, by what holds whatever has come up: over no program. -/
namespace Go.Proofs.Ytlhfkackchcncaa.Aid
open Go.ChangeShapes Go.WideShapes Go.ChangeAt Go.RowKit

def unl (l : Array Bool) : Nat := (l.toList.filter (fun b => !b)).length

theorem unl_set_aux : ∀ (l : List Bool) (i : Nat), l[i]? = some false → ((l.set i true).filter (fun b => !b)).length + 1 = (l.filter (fun b => !b)).length
  | [], i, h => by simp at h
  | b :: r, 0, h => by simp at h; subst h; simp
  | b :: r, i + 1, h => by
    have := unl_set_aux r i (by simpa using h)
    cases b <;> simp at * <;> omega

theorem unl_set {l : Array Bool} {i : Nat} (h : l.getD i true = false) : unl (l.setIfInBounds i true) + 1 = unl l := by
  unfold unl
  have h' : l.toList[i]? = some false := by
    rw [Array.getD_eq_getD_getElem?] at h
    cases e : l[i]? with
    | none => rw [e] at h; simp at h
    | some b => rw [e] at h; simp at h; subst h; simpa using e
  rw [Array.toList_setIfInBounds]
  exact unl_set_aux _ _ h'

theorem ready_unl {ops : Array Oper} {md : Region.Mode} {l : Array Bool} {i : Nat} (h : i ∈ Region.ready md ops l) : l.getD i true = false := by
  simp only [Region.ready, List.mem_filter, Bool.and_eq_true, Bool.not_eq_true'] at h
  exact h.2.1

/- A region in whatever order, by what holds whatever has come up. -/
theorem wpAnyH_inv {P : Program} {ops : Array Oper} {Q : Exit → Act → World → Prop} {md : Region.Mode} {S : World → Prop} (I : Array Bool → Act → World → Prop) (hS : ∀ l a w, I l a w → S w)
    (hd : ∀ l a w, I l a w → Region.ready md ops l = [] → Q .normal a w)
    (hs : ∀ l a w i, I l a w → i ∈ Region.ready md ops l → wpOp P ops Q i (I (l.setIfInBounds i true)) a w) :
    ∀ (fuel : Nat) (l : Array Bool) (a : Act) (w : World), unl l ≤ fuel → I l a w → wpAnyH P md ops Q S fuel l a w
  | 0, l, a, w, hu, h => by
    have hr : Region.ready md ops l = [] := List.eq_nil_iff_forall_not_mem.2 fun i hi => by
      have := unl_set (ready_unl hi); omega
    exact ⟨hr, hd l a w h hr⟩
  | fuel + 1, l, a, w, hu, h => ⟨hd l a w h, fun i hi => wpOp_mono (fun a' w' h' => ⟨hS _ _ _ h', wpAnyH_inv I hS hd hs fuel _ a' w' (by have := unl_set (ready_unl hi); omega) h'⟩) (hs l a w i h hi)⟩

end Go.Proofs.Ytlhfkackchcncaa.Aid

/- A book is copied, by the specification: each list by an append onto an empty one, in whatever order. -/
namespace Go.Proofs.Ytlhfkackchcncaa.Book
open Go.ChangeShapes Go.WideShapes Go.ChangeAt Go.RowKit
open Go.Proofs.Ytlhfkackchcncaa.Aid Go.Proofs.Ytlhfkackchcncaa.Lst
set_option maxRecDepth 100000
set_option linter.unusedVariables false

theorem intP {P : Program} {t : TypeId} (h : (P.info? t).map (fun i => (i.zero, i.size, i.bytes)) = some (some (.int .i64 0), 1, 8)) : ∃ i, P.info? t = some i ∧ i.zero = some (.int .i64 0) ∧ i.size = 1 ∧ i.bytes = 8 := by
  cases hi : P.info? t with
  | none => rw [hi] at h; cases h
  | some i =>
    rw [hi] at h
    simp only [Option.map_some, Option.some.injEq, Prod.mk.injEq] at h
    exact ⟨i, rfl, h.1, h.2.1, h.2.2⟩

def rowI (n : Nat) (f : Nat → Int) : List Value := (List.range n).map fun j => .int .i64 (f j)
theorem rowI_len (n : Nat) (f : Nat → Int) : (rowI n f).length = n := by simp [rowI]
theorem rowI_get (n : Nat) (f : Nat → Int) (j : Nat) (h : j < n) : (rowI n f)[j]? = some (.int .i64 (f j)) := by simp [rowI, h]
theorem rowI_one (n : Nat) (f : Nat → Int) : ∀ v ∈ rowI n f, v.oneCell' = true := by
  intro v hv; simp [rowI] at hv; obtain ⟨j, _, rfl⟩ := hv; rfl
theorem rowI_lt {n : Nat} {f : Nat → Int} {j : Nat} {v : Value} (h : (rowI n f)[j]? = some v) : j < n ∧ v = .int .i64 (f j) := by
  have hj : j < n := by
    have := (List.getElem?_eq_some_iff.1 h).1
    rwa [rowI_len] at this
  rw [rowI_get n f j hj] at h
  exact ⟨hj, by injection h with h; exact h.symm⟩

/- Cells that are there and may be written; a list's room. -/
def Fre (w : World) (k o c : Nat) : Prop := ∀ j, j < c → (w.cell? ⟨k, o + j, none⟩).isSome = true ∧ w.frozen? ⟨k, o + j, none⟩ = false
theorem Fre.later {w w1 : World} {k o c : Nat} (h : Fre w k o c) (hb : Below w.heap.size w w1) (hk : k < w.heap.size) : Fre w1 k o c := fun j hj => by
  rw [hb.cell (p := ⟨k, o + j, none⟩) hk, hb.frozen (p := ⟨k, o + j, none⟩) hk]; exact h j hj
theorem Fre.only {w w1 : World} {k o c i : Nat} (h : Fre w k o c) (ho : Only i (i + 1) w w1) (hk : k < w.heap.size) (hne : k ≠ i) : Fre w1 k o c := fun j hj => by
  rw [ho.cell hk (by omega), ho.frozen hk (by omega)]; exact h j hj
def Capd (m c : Nat) (w : World) (g : Nat) : Prop := m ≤ c ∧ (m = 0 → c = 0) ∧ (0 < m → Fre w g 0 c)
theorem Capd.later {m c g : Nat} {w w1 : World} (h : Capd m c w g) (hb : Below w.heap.size w w1) (hg : 0 < m → g < w.heap.size) : Capd m c w1 g := ⟨h.1, h.2.1, fun hp => (h.2.2 hp).later hb (hg hp)⟩
theorem Capd.only {m c g i : Nat} {w w1 : World} (h : Capd m c w g) (ho : Only i (i + 1) w w1) (hg : 0 < m → g < w.heap.size) (hne : 0 < m → g ≠ i) : Capd m c w1 g := ⟨h.1, h.2.1, fun hp => (h.2.2 hp).only ho (hg hp) (hne hp)⟩

/- What comes of an append onto an empty list: nothing new, or a new row. -/
def AppQ (k m : Nat) (f : Nat → Int) (w : World) (v : Value) (w' : World) : Prop :=
  (m = 0 ∧ v = .slice (some ⟨k, 0, none⟩) 0 0 ∧ w' = w) ∨
  (0 < m ∧ ∃ c, (m ≤ c ∧ Fre w' w.heap.size 0 c) ∧ v = .slice (some ⟨w.heap.size, 0, none⟩) m c ∧ Fk .i64 m w' w.heap.size f ∧ Below w.heap.size w w' ∧ w'.heap.size = w.heap.size + 1)

theorem app_run (k : Nat) (a : Option Addr) (m c : Nat) (f : Nat → Int) (w : World) (hs : Sl .i64 w a m f) (hnil : a = none → m = 0) (hn : m ≤ 1000000000) (ty : TypeId) :
    ∃ v' w', (Builtin.append_ #[23, 23] ty #[.slice (some ⟨k, 0, none⟩) 0 0, .slice a m c]).run Try.prog w = .ok v' w' ∧ AppQ k m f w v' w' := by
  obtain ⟨i0, hi0, hz0, hz1, hz2⟩ := intP infoInt
  by_cases hm : m = 0
  · subst hm
    have src : Src Try.prog i0.size 23 (.slice a 0 c) 0 [] w := by
      cases a with
      | none => exact Src.ofNil w Try.underlying23 c
      | some ad => exact Src.ofSlice w Try.underlying23 ad 0 c [] (by simp) (by simp) (by simp)
    refine ⟨_, _, run_append_room_src w 23 23 ty 3 i0 Try.underlying23 hi0 k 0 0 0 _ 0 [] src (Nat.le_refl _) (by simp) (by simp), .inl ⟨rfl, rfl, rfl⟩⟩
  · rcases hs with h | ⟨b, off, rfl, h⟩
    · exact absurd h hm
    have src : Src Try.prog i0.size 23 (.slice (some ⟨b, off, none⟩) m c) m (rowI m f) w := Src.ofSlice w Try.underlying23 ⟨b, off, none⟩ m c (rowI m f) (by rw [rowI_len, hz1, Nat.mul_one]) (fun j u hu => by
      obtain ⟨hj, rfl⟩ := rowI_lt hu
      rw [Addr.add_mid]; exact h j hj) (rowI_one m f)
    have hr := run_append_grow_src w 23 23 ty 3 i0 (.int .i64 0) Try.underlying23 hi0 hz0 (some ⟨k, 0, none⟩) 0 0 [] (by simp [Builtin.firstCells, loadCells, loadCellsFrom]) (.slice (some ⟨b, off, none⟩) m c) m (rowI m f) src (by omega) (by omega) (growslice_fits (by omega) (by rw [hz2]; omega))
    simp only [Nat.zero_add] at hr
    have ge := grownCap_ge w m 0 3
    generalize grownCap w m 0 3 = G at hr ge
    refine ⟨_, _, hr, .inr ⟨by omega, _, ⟨ge, fun j hj => ?_⟩, rfl, fun j hj => ?_, (below1 w.drew _ : Below w.heap.size w.drew _) |> fun hb => ⟨hb.os, hb.tape, hb.output, hb.size, hb.block⟩, by simp⟩⟩
    · have hb : (w.drew.alloc (.cells (([] ++ rowI m f).toArray ++ Builtin.zeroCells (Value.int .i64 0).cells (G - m)) 3)).heap[w.heap.size]? = _ := heap_alloc_new w.drew _
      rw [cell_of_row _ _ _ _ _ _ hb, frozen_of_row _ _ _ _ _ hb]
      refine ⟨?_, rfl⟩
      have sz : (([] ++ rowI m f).toArray ++ Builtin.zeroCells (Value.int .i64 0).cells (G - m)).size = G := by
        rw [Array.size_append, size_zeroCells, show (Value.int .i64 0).cells.size = 1 from rfl, List.size_toArray, List.length_append, rowI_len]
        simp only [List.length_nil]
        omega
      rw [Array.getElem?_eq_getElem (by rw [sz]; omega)]
      rfl
    · have hb : (w.drew.alloc (.cells (([] ++ rowI m f).toArray ++ Builtin.zeroCells (Value.int .i64 0).cells (G - m)) 3)).heap[w.heap.size]? = _ := heap_alloc_new w.drew _
      rw [cell_of_row _ _ j _ _ _ hb, frozen_of_row _ _ j _ _ hb]
      refine ⟨?_, rfl⟩
      rw [List.nil_append, Array.getElem?_append_left (by simp [rowI_len]; exact hj), List.getElem?_toArray]
      exact rowI_get m f j hj

theorem wp_app {o : Oper} {ac : Act} {K : Act → World → Prop} {Q : Exit → Act → World → Prop} (s x : Operand) (k : Nat) (a : Option Addr) (m c : Nat) (f : Nat → Int) (w : World)
    (ho : o.op = .call { callee := .builtin .append, args := #[s, x], argTypes := #[23, 23] }) (h1 : ac.eval s = .slice (some ⟨k, 0, none⟩) 0 0) (h2 : ac.eval x = .slice a m c)
    (hs : Sl .i64 w a m f) (hnil : a = none → m = 0) (hn : m ≤ 1000000000)
    (h : ∀ v' w', AppQ k m f w v' w' → K (ac.put o.dst v') w') : o.wp Try.prog ac w K Q := by
  obtain ⟨v', w', hr, hq⟩ := app_run k a m c f w hs hnil hn o.type
  unfold Oper.wp execOp
  simp only [ho, resolve, invoke, builtin, Sem.run_bind, Sem.run_pure, Result.andThen_ok, List.map_toArray, List.map_cons, List.map_nil, h1, h2, hr]
  exact h v' w' hq

theorem wpList_app {ops : Array Oper} {rest : List Oper} {o : Oper} {ac : Act} {Q : Exit → Act → World → Prop} (hgd : o.guard = none) (s x : Operand) (k : Nat) (a : Option Addr) (m c : Nat) (f : Nat → Int) (w : World)
    (ho : o.op = .call { callee := .builtin .append, args := #[s, x], argTypes := #[23, 23] }) (h1 : ac.eval s = .slice (some ⟨k, 0, none⟩) 0 0) (h2 : ac.eval x = .slice a m c)
    (hs : Sl .i64 w a m f) (hnil : a = none → m = 0) (hn : m ≤ 1000000000)
    (h : ∀ v' w', AppQ k m f w v' w' → wpList Try.prog ops Q rest (ac.put o.dst v') w') : wpList Try.prog ops Q (o :: rest) ac w :=
  wpList_plain hgd fun _ hK => wp_app s x k a m c f w ho h1 h2 hs hnil hn fun v' w' hq => hK _ _ (h v' w' hq)

/- Four lists that are copied, each as far as it has come. -/
def blk : Value → Nat
  | .slice (some a) _ _ => a.block
  | _ => 0

structure Cpd (B : Nat) (x : Sx) (v : Value) (w : World) : Prop where
  z : x.n = 0 → ∃ c, v = .slice (some ⟨blk v, 0, none⟩) 0 c ∧ c = 0
  p : 0 < x.n → ∃ c, Capd x.n c w (blk v) ∧ v = .slice (some ⟨blk v, 0, none⟩) x.n c ∧ B ≤ blk v ∧ blk v < w.heap.size ∧ Fk .i64 x.n w (blk v) x.f

theorem Cpd.later {B : Nat} {x : Sx} {v : Value} {w w1 : World} (h : Cpd B x v w) (hb : Below w.heap.size w w1) : Cpd B x v w1 :=
  ⟨h.z, fun hp => by obtain ⟨c, h1, h2, h3, h4, h5⟩ := h.p hp; exact ⟨c, h1.later hb (fun _ => h4), h2, h3, Nat.lt_of_lt_of_le h4 hb.size, h5.later hb⟩⟩

structure Cs (B : Nat) (sx : Fin 4 → Sx) (n a : Fin 4 → Bool) (x y : Fin 4 → Value) (ko : Nat) (w : World) : Prop where
  xs : ∀ j, n j = true → ∃ k, x j = .slice (some ⟨k, 0, none⟩) 0 0
  ys : ∀ j, a j = true → Cpd B (sx j) (y j) w
  d : ∀ i j, i ≠ j → a i = true → a j = true → 0 < (sx i).n → 0 < (sx j).n → blk (y i) ≠ blk (y j)
  o : ∀ j, a j = true → 0 < (sx j).n → blk (y j) ≠ ko

def up {α : Type} (f : Fin 4 → α) (j : Fin 4) (v : α) : Fin 4 → α := fun i => if i = j then v else f i
theorem up_same {α : Type} (f : Fin 4 → α) (j : Fin 4) (v : α) : up f j v j = v := by simp [up]
theorem up_other {α : Type} (f : Fin 4 → α) (j i : Fin 4) (v : α) (h : i ≠ j) : up f j v i = f i := by simp [up, h]

theorem Cs.later {B : Nat} {sx : Fin 4 → Sx} {n a : Fin 4 → Bool} {x y : Fin 4 → Value} {ko : Nat} {w w1 : World} (h : Cs B sx n a x y ko w) (hb : Below w.heap.size w w1) : Cs B sx n a x y ko w1 :=
  ⟨h.xs, fun j hj => (h.ys j hj).later hb, h.d, h.o⟩

theorem Cs.start (B : Nat) (sx : Fin 4 → Sx) (x y : Fin 4 → Value) (ko : Nat) (w : World) : Cs B sx (fun _ => false) (fun _ => false) x y ko w :=
  ⟨fun _ h => Bool.noConfusion h, fun _ h => Bool.noConfusion h, fun _ _ _ h => Bool.noConfusion h, fun _ h => Bool.noConfusion h⟩

theorem Cs.new {B : Nat} {sx : Fin 4 → Sx} {n a : Fin 4 → Bool} {x y : Fin 4 → Value} {ko : Nat} {w : World} (h : Cs B sx n a x y ko w) (j : Fin 4) (k : Nat) : Cs B sx (up n j true) a (up x j (.slice (some ⟨k, 0, none⟩) 0 0)) y ko w :=
  ⟨fun i hi => by
    by_cases e : i = j
    · subst e; rw [up_same]; exact ⟨k, rfl⟩
    · rw [up_other _ _ _ _ e] at hi ⊢; exact h.xs i hi, h.ys, h.d, h.o⟩

/- A new list. -/
def New (m : Nat) (f : Nat → Int) (w : World) (v : Value) (w' : World) : Prop := ∃ g c, v = .slice (some ⟨g, 0, none⟩) m c ∧ Capd m c w' g ∧ (0 < m → g = w.heap.size ∧ g < w'.heap.size ∧ Fk .i64 m w' g f) ∧ Below w.heap.size w w'
theorem AppQ.got {k m : Nat} {f : Nat → Int} {w w' : World} {v : Value} (h : AppQ k m f w v w') : New m f w v w' := by
  rcases h with ⟨rfl, rfl, rfl⟩ | ⟨hm, c, hc, rfl, hf, hb, hz⟩
  · exact ⟨k, 0, rfl, ⟨Nat.le_refl _, fun _ => rfl, fun h => absurd h (by omega)⟩, fun h => absurd h (by omega), Below.refl _ _⟩
  · exact ⟨_, c, rfl, ⟨hc.1, fun h => by omega, fun _ => hc.2⟩, fun _ => ⟨rfl, by omega, hf⟩, hb⟩

theorem Cs.app {B : Nat} {sx : Fin 4 → Sx} {n a : Fin 4 → Bool} {x y : Fin 4 → Value} {ko : Nat} {w w1 : World} {v : Value} (h : Cs B sx n a x y ko w) (j : Fin 4) (hB : B ≤ w.heap.size) (hko : ko < w.heap.size) (hq : New (sx j).n (sx j).f w v w1) :
    Cs B sx n (up a j true) x (up y j v) ko w1 ∧ Below w.heap.size w w1 := by
  obtain ⟨g, c, rfl, hc, hg, hb⟩ := hq
  have new : 0 < (sx j).n → blk (.slice (some ⟨g, 0, none⟩) (sx j).n c) = w.heap.size := fun hp => (hg hp).1
  have old : ∀ i, a i = true → 0 < (sx i).n → blk (y i) < w.heap.size := fun i hi hp => by
    obtain ⟨c, _, _, _, h4, _⟩ := (h.ys i hi).p hp
    exact h4
  refine ⟨⟨h.xs, fun i hi => ?_, fun i i' hne hi hi' p p' => ?_, fun i hi p => ?_⟩, hb⟩
  · by_cases e : i = j
    · subst e
      rw [up_same]
      exact ⟨fun h0 => ⟨c, by rw [h0]; rfl, hc.2.1 h0⟩, fun hp => ⟨c, hc, rfl, by rw [new hp]; exact hB, (hg hp).2.1, (hg hp).2.2⟩⟩
    · rw [up_other _ _ _ _ e] at hi ⊢; exact (h.ys i hi).later hb
  · by_cases e : i = j
    · subst e
      rw [up_same, up_other _ _ _ _ (Ne.symm hne), new p]
      rw [up_other _ _ _ _ (Ne.symm hne)] at hi'
      have := old i' hi' p'; omega
    · by_cases e' : i' = j
      · subst e'
        rw [up_same, up_other _ _ _ _ e, new p']
        rw [up_other _ _ _ _ e] at hi
        have := old i hi p; omega
      · rw [up_other _ _ _ _ e, up_other _ _ _ _ e']
        rw [up_other _ _ _ _ e] at hi
        rw [up_other _ _ _ _ e'] at hi'
        exact h.d i i' hne hi hi' p p'
  · by_cases e : i = j
    · subst e; rw [up_same, new p]; omega
    · rw [up_other _ _ _ _ e] at hi ⊢; exact h.o i hi p

end Go.Proofs.Ytlhfkackchcncaa.Book

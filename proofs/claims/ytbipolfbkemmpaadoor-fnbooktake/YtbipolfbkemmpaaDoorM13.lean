import Derived.Test.YtbipolfbkemmpaaDoorM12
import Derived.Deep.LoopGhost
import Derived.Test.YtbipolfbkemmpaaDoorM1
import Derived.Deep.AppendSrc
import Derived.Test.YtbipolfbkemmpaaDoorM3

/- The program's rings: the rooms of a page leave a ring. -/
namespace Go.Proofs.YtbipolfbkemmpaaDoor.Rin
open Go.ChangeShapes Go.WideShapes Go.ChangeAt Go.RowKit
open Aid Lst
set_option maxRecDepth 100000
set_option linter.unusedVariables false

/- Only the blocks of S, and new ones, have turned. -/
structure Fq (S : Nat → Prop) (w w' : World) : Prop where
  os : w'.os = w.os
  tape : w'.tape = w.tape
  output : w'.output = w.output
  size : w.heap.size ≤ w'.heap.size
  block : ∀ i, i < w.heap.size → ¬ S i → w'.heap[i]? = w.heap[i]?
theorem Fq.refl (S : Nat → Prop) (w : World) : Fq S w w := ⟨rfl, rfl, rfl, Nat.le_refl _, fun _ _ _ => rfl⟩
theorem Fq.of {S : Nat → Prop} {w w' : World} (h : Below w.heap.size w w') : Fq S w w' := ⟨h.os, h.tape, h.output, h.size, fun i hi _ => h.block i hi⟩
theorem Fq.trans {S S' : Nat → Prop} {w w1 w2 : World} (h : Fq S w w1) (g : Fq S' w1 w2) (hc : ∀ i, i < w.heap.size → S' i → S i) : Fq S w w2 :=
  ⟨g.os.trans h.os, g.tape.trans h.tape, g.output.trans h.output, Nat.le_trans h.size g.size, fun i hi hn => (g.block i (Nat.lt_of_lt_of_le hi h.size) (fun l => hn (hc i hi l))).trans (h.block i hi hn)⟩
theorem Fq.mono {S S' : Nat → Prop} {w w' : World} (h : Fq S w w') (hc : ∀ i, i < w.heap.size → S i → S' i) : Fq S' w w' :=
  ⟨h.os, h.tape, h.output, h.size, fun i hi hn => h.block i hi (fun l => hn (hc i hi l))⟩
theorem Fq.set (S : Nat → Prop) (w : World) (k o : Nat) (hk : S k) (v : Value) : Fq S w (w.setCell ⟨k, o, none⟩ v) :=
  ⟨rfl, rfl, rfl, by simp, fun i _ hn => Below.heap_setCell w ⟨k, o, none⟩ v i (fun e => hn (by rw [show i = k from e]; exact hk))⟩
theorem Fq.drewN {S : Nat → Prop} {w w' : World} (h : Fq S w w') (n : Nat) : Fq S w (w'.drewN n) := ⟨h.os, h.tape, h.output, h.size, h.block⟩
theorem Fq.cell {S : Nat → Prop} {w w' : World} (h : Fq S w w') {k o : Nat} (hk : k < w.heap.size) (hs : ¬ S k) : w'.cell? ⟨k, o, none⟩ = w.cell? ⟨k, o, none⟩ := World.cell?_of_block (w := w) (h.block k hk hs)
theorem Fq.below {S : Nat → Prop} {w w' : World} (h : Fq S w w') (B : Nat) (hB : B ≤ w.heap.size) (hs : ∀ i, S i → B ≤ i) : Below B w w' :=
  ⟨h.os, h.tape, h.output, h.size, fun i hi => h.block i (Nat.lt_of_lt_of_le hi hB) (fun l => by have := hs i l; omega)⟩
theorem Mem.drewN {w : World} {un : Nat → Int} {nx pv : Nat → Nat} {ks : List Nat} (h : Mem w un nx pv ks) (n : Nat) : Mem (w.drewN n) un nx pv ks := fun k hk => (h k hk).of_block rfl
theorem Rg.drewN {w : World} {B s : Nat} {U : List Int} {un : Nat → Int} {nx pv : Nat → Nat} {l : List Nat} (h : Rg w B s U un nx pv l) (n : Nat) : Rg (w.drewN n) B s U un nx pv l := ⟨h.r, h.m.drewN n, h.u, h.b⟩

def keepU (p : Nat) (U : List Int) : List Int := U.filter fun u => decide (u / 8 ≠ (p : Int))
theorem head_mem (s : Nat) (l : List Nat) : hd s l ∈ s :: l := by cases l <;> simp [hd]

/- One goes round: what is behind of it is l2. -/
structure Lp (B s p : Nat) (U : List Int) (un : Nat → Int) (l : List Nat) (w0 w : World) (n : Nat) (i : Value) (l1 l2 : List Nat) (nx pv : Nat → Nat) : Prop where
  g : Rg w B s ((l1 ++ l2).map un) un nx pv (l1 ++ l2)
  i : i = .pointer (some ⟨hd s l2, 0, none⟩)
  u : keepU p (l1.map un) = l1.map un ∧ keepU p U = l1.map un ++ keepU p (l2.map un)
  m : ∀ x ∈ l1 ++ l2, x ∈ l
  f : Fq (fun i => i ∈ s :: l) w0 w
  n : n = l2.length

set_option maxHeartbeats 4000000 in
theorem leavepage_any {B s : Nat} {U : List Int} {un : Nat → Int} {nx pv : Nat → Nat} {l : List Nat} (p : Nat) (w : World) (h : Rg w B s U un nx pv l) (hU : ∀ u ∈ U, 0 ≤ u ∧ u ≤ 1000) :
    Calls Tryd.prog 98 #[.pointer (some ⟨s, 0, none⟩), .int .i64 p] w fun e w' => e = .returned (.tuple #[]) ∧ (∃ nx' pv' l', Rg w' B s (keepU p U) un nx' pv' l' ∧ ∀ x ∈ l', x ∈ l) ∧ Fq (fun i => i ∈ s :: l) w w' := by
  have c1 : w.cell? ⟨s, 1, none⟩ = some (ptr (nx s)) := (h.m s List.mem_cons_self).n
  have en : nx s = l.headD s := h.r.next
  rw [en, hd_eq] at c1
  unfold ptr at c1
  have hu := h.u
  have S : Hid (∃ l1 l2 nx pv, Lp B s p U un l w w l.length (.pointer (some ⟨hd s l, 0, none⟩)) l1 l2 nx pv) :=
    ⟨[], l, nx, pv, ⟨by rw [List.nil_append, hu]; exact h, rfl, ⟨rfl, by rw [hu]; rfl⟩, fun x hx => hx, Fq.refl _ _, rfl⟩⟩
  have HU : Hid (∀ k ∈ l, 0 ≤ un k ∧ un k ≤ 1000) := fun k hk => hU _ (by rw [← hu]; exact List.mem_map_of_mem hk)
  clear h en hu hU
  go_enter Tryd.func98, Tryd.ntmps98
  go_wp2_with (fail)
  clear c1
  go_loopg [4] l.length (fun n i wr => ∃ l1 l2 nx pv, Lp B s p U un l w wr n i l1 l2 nx pv)
  case atStart => exact S.out
  case round =>
    clear S
    obtain ⟨l1, l2, nx, pv, hr⟩ := hrel
    obtain rfl := hr.i
    have HR : Hid (Lp B s p U un l w wr gk (.pointer (some ⟨hd s l2, 0, none⟩)) l1 l2 nx pv) := hr
    clear hr
    cases l2 with
    | nil =>
      rw [show hd s ([] : List Nat) = s from rfl]
      have q := run_neq_ptr (P := Tryd.prog) wr 65 s s (by kernel_rfl) (by kernel_rfl) (HR.out.g.m s List.mem_cons_self).o (HR.out.g.m s List.mem_cons_self).o
      simp only [decide_true, Bool.not_true] at q
      go_wp2_with (fail)
      have R := HR.out
      have g := R.g
      rw [List.append_nil] at g
      refine bodyPost_end (v := .tuple #[]) (by simp [results, Tryd.results98]) rfl ⟨rfl, ⟨nx, pv, l1, ?_, fun x hx => R.m x (by rw [List.append_nil]; exact hx)⟩, R.f⟩
      have e : keepU p U = l1.map un := by rw [R.u.2]; simp [keepU]
      rw [e]
      exact g
    | cons x t =>
      rw [show hd s (x :: t) = x from rfl]
      have mx : x ∈ s :: (l1 ++ x :: t) := by simp
      have xl : x ∈ l := HR.out.m x (by simp)
      have hxs : x ≠ s := fun e => by
        have n := HR.out.g.r.n
        rw [List.nodup_cons] at n
        exact n.1 (by rw [← e]; simp)
      have M := HR.out.g.m x mx
      have cu := M.u
      have L := HR.out.g.leave
      have cn : wr.cell? ⟨x, 1, none⟩ = some (.pointer (some ⟨hd s t, 0, none⟩)) := by
        have := M.n
        rw [L.1, hd_eq] at this
        exact this
      have u0 : 0 ≤ un x := (HU.out x xl).1
      have u1 : un x ≤ 1000 := (HU.out x xl).2
      clear M
      have q := run_neq_ptr (P := Tryd.prog) wr 65 x s (by kernel_rfl) (by kernel_rfl) (HR.out.g.m x mx).o (HR.out.g.m s List.mem_cons_self).o
      simp only [decide_eq_false hxs, Bool.not_false] at q
      by_cases he : un x / 8 = (p : Int)
      · have hb : (un x / 8 == (p : Int)) = true := by simpa using he
        have HE : Hid (un x / 8 = (p : Int)) := he
        have HL : Hid (nx x = t.headD s ∧ pv x = l1.getLastD s ∧ x ≠ pv x ∧ _) := L
        clear he L
        go_wp2_with (fail)
        have R := HR.out
        have L := HL.out
        have mp : pv x ∈ s :: (l1 ++ x :: t) := by
          rw [L.2.1]
          rcases List.mem_cons.1 (last_mem s l1) with e | e
          · rw [e]; exact List.mem_cons_self
          · exact List.mem_cons_of_mem _ (List.mem_append_left _ e)
        have mn : nx x ∈ s :: (l1 ++ x :: t) := by
          rw [L.1, hd_eq]
          rcases List.mem_cons.1 (head_mem s t) with e | e
          · rw [e]; exact List.mem_cons_self
          · exact List.mem_cons_of_mem _ (List.mem_append_right _ (List.mem_cons_of_mem _ e))
        have hxn : x ≠ nx x := fun e => by
          have n := R.g.r.n
          rw [List.nodup_cons, List.nodup_append] at n
          have n2 := (List.nodup_cons.1 n.2.2.1).1
          rw [L.1, hd_eq] at e
          rcases List.mem_cons.1 (head_mem s t) with q | q
          · exact hxs (e.trans q)
          · exact n2 (by rw [e]; exact q)
        refine (leave_at x (nx x) (pv x) _ _ wr (R.g.m x mx).n (R.g.m x mx).p (R.g.m _ mp).n (R.g.m _ mn).p (R.g.m _ mp).fn (R.g.m _ mn).fp L.2.2.1 hxn).mono ?_
        rintro e w1 ⟨rfl, qn, ew⟩
        have sub : ∀ i, i ∈ s :: (l1 ++ x :: t) → i ∈ s :: l := fun i hi => by
          rcases List.mem_cons.1 hi with e | e
          · rw [e]; exact List.mem_cons_self
          · exact List.mem_cons_of_mem _ (R.m i e)
        have HF : Hid (Fq (fun i => i ∈ s :: l) w w1) := by
          unfold Hid
          rw [ew]
          exact ((R.f.trans (Fq.set (fun i => i ∈ s :: l) wr (pv x) 1 (sub _ mp) _) (fun _ _ h => h)).trans (Fq.set (fun i => i ∈ s :: l) _ (nx x) 2 (sub _ mn) _) (fun _ _ h => h)).drewN qn
        have HN : Hid (Rg w1 B s ((l1 ++ t).map un) un (upd nx (pv x) (nx x)) (upd pv (nx x) (pv x)) (l1 ++ t)) := by
          unfold Hid
          rw [ew]
          exact L.2.2.2.drewN qn
        have c2 : w1.cell? ⟨x, 1, none⟩ = some (.pointer (some ⟨hd s t, 0, none⟩)) := by
          rw [ew]
          show World.cell? (World.setCell _ _ _) _ = _
          rw [World.cell?_setCell_other _ _ _ _ (by simp), World.cell?_setCell_other _ _ _ _ (fun e => L.2.2.1 (by injection e with e1 _ _; exact e1.symm))]
          exact cn
        clear cn cu q ew L R mp mn
        go_wp2_with (fail)
        go_roundg t.length
        case measure => have := HR.out.n; simp at this; omega
        case rel =>
          have R := HR.out
          refine ⟨l1, t, _, _, HN.out, rfl, ?_, fun y hy => R.m y ?_, HF.out, rfl⟩
          · have e1 := R.u.1
            have e2 := R.u.2
            have ne := HE.out
            refine ⟨e1, ?_⟩
            rw [e2]
            simp [keepU, ne]
          · rcases List.mem_append.1 hy with e | e
            · exact List.mem_append_left _ e
            · exact List.mem_append_right _ (List.mem_cons_of_mem _ e)
      · have hb : (un x / 8 == (p : Int)) = false := by simpa using he
        have HE : Hid (¬ un x / 8 = (p : Int)) := he
        clear he L
        go_wp2_with (fail)
        go_roundg t.length
        case measure => have := HR.out.n; simp at this; omega
        case rel =>
          have R := HR.out
          refine ⟨l1 ++ [x], t, nx, pv, by simpa using R.g, rfl, ?_, by simpa using R.m, R.f, rfl⟩
          have e1 := R.u.1
          have e2 := R.u.2
          have ne := HE.out
          constructor
          · simp only [keepU, List.map_append, List.filter_append] at e1 ⊢
            rw [e1]
            simp [ne]
          · rw [e2]
            simp [keepU, ne]

end Go.Proofs.YtbipolfbkemmpaaDoor.Rin
/- A region that draws its order, by what holds whatever has come up: over no program. -/
namespace Go.Proofs.YtbipolfbkemmpaaDoor.Aid
open Go.ChangeShapes Go.WideShapes Go.ChangeAt Go.RowKit

def unl (l : Array Bool) : Nat := (l.toList.filter (fun b => !b)).length

theorem unl_set_aux : ∀ (l : List Bool) (i : Nat), l[i]? = some false → ((l.set i true).filter (fun b => !b)).length + 1 = (l.filter (fun b => !b)).length
  | [], i, h => by simp at h
  | b :: r, 0, h => by simp at h; subst h; simp
  | b :: r, i + 1, h => by
    have := unl_set_aux r i (by simpa using h)
    cases b <;> simp at * <;> omega

theorem unl_set {l : Array Bool} {i : Nat} (h : l.getD i true = false) : unl (l.setIfInBounds i true) + 1 = unl l := by
  unfold unl
  have h' : l.toList[i]? = some false := by
    rw [Array.getD_eq_getD_getElem?] at h
    cases e : l[i]? with
    | none => rw [e] at h; simp at h
    | some b => rw [e] at h; simp at h; subst h; simpa using e
  rw [Array.toList_setIfInBounds]
  exact unl_set_aux _ _ h'

theorem ready_unl {ops : Array Oper} {md : Region.Mode} {l : Array Bool} {i : Nat} (h : i ∈ Region.ready md ops l) : l.getD i true = false := by
  simp only [Region.ready, List.mem_filter, Bool.and_eq_true, Bool.not_eq_true'] at h
  exact h.2.1

/- A region in whatever order, by what holds whatever has come up. -/
theorem wpAnyH_inv {P : Program} {ops : Array Oper} {Q : Exit → Act → World → Prop} {md : Region.Mode} {S : World → Prop} (I : Array Bool → Act → World → Prop) (hS : ∀ l a w, I l a w → S w)
    (hd : ∀ l a w, I l a w → Region.ready md ops l = [] → Q .normal a w)
    (hs : ∀ l a w i, I l a w → i ∈ Region.ready md ops l → wpOp P ops Q i (I (l.setIfInBounds i true)) a w) :
    ∀ (fuel : Nat) (l : Array Bool) (a : Act) (w : World), unl l ≤ fuel → I l a w → wpAnyH P md ops Q S fuel l a w
  | 0, l, a, w, hu, h => by
    have hr : Region.ready md ops l = [] := List.eq_nil_iff_forall_not_mem.2 fun i hi => by
      have := unl_set (ready_unl hi); omega
    exact ⟨hr, hd l a w h hr⟩
  | fuel + 1, l, a, w, hu, h => ⟨hd l a w h, fun i hi => wpOp_mono (fun a' w' h' => ⟨hS _ _ _ h', wpAnyH_inv I hS hd hs fuel _ a' w' (by have := unl_set (ready_unl hi); omega) h'⟩) (hs l a w i h hi)⟩

end Go.Proofs.YtbipolfbkemmpaaDoor.Aid
/- A book is copied, by the specification: each list by an append onto an empty one, in whatever order. -/
namespace Go.Proofs.YtbipolfbkemmpaaDoor.Book
open Go.ChangeShapes Go.WideShapes Go.ChangeAt Go.RowKit
open Aid Lst
set_option maxRecDepth 100000
set_option linter.unusedVariables false

theorem intP {P : Program} {t : TypeId} (h : (P.info? t).map (fun i => (i.zero, i.size, i.bytes)) = some (some (.int .i64 0), 1, 8)) : ∃ i, P.info? t = some i ∧ i.zero = some (.int .i64 0) ∧ i.size = 1 ∧ i.bytes = 8 := by
  cases hi : P.info? t with
  | none => rw [hi] at h; cases h
  | some i =>
    rw [hi] at h
    simp only [Option.map_some, Option.some.injEq, Prod.mk.injEq] at h
    exact ⟨i, rfl, h.1, h.2.1, h.2.2⟩

def rowI (n : Nat) (f : Nat → Int) : List Value := (List.range n).map fun j => .int .i64 (f j)
theorem rowI_len (n : Nat) (f : Nat → Int) : (rowI n f).length = n := by simp [rowI]
theorem rowI_get (n : Nat) (f : Nat → Int) (j : Nat) (h : j < n) : (rowI n f)[j]? = some (.int .i64 (f j)) := by simp [rowI, h]
theorem rowI_one (n : Nat) (f : Nat → Int) : ∀ v ∈ rowI n f, v.oneCell' = true := by
  intro v hv; simp [rowI] at hv; obtain ⟨j, _, rfl⟩ := hv; rfl
theorem rowI_lt {n : Nat} {f : Nat → Int} {j : Nat} {v : Value} (h : (rowI n f)[j]? = some v) : j < n ∧ v = .int .i64 (f j) := by
  have hj : j < n := by
    have := (List.getElem?_eq_some_iff.1 h).1
    rwa [rowI_len] at this
  rw [rowI_get n f j hj] at h
  exact ⟨hj, by injection h with h; exact h.symm⟩

/- Cells that are there and may be written; a list's room. -/
def Fre (w : World) (k o c : Nat) : Prop := ∀ j, j < c → (w.cell? ⟨k, o + j, none⟩).isSome = true ∧ w.frozen? ⟨k, o + j, none⟩ = false
theorem Fre.later {w w1 : World} {k o c : Nat} (h : Fre w k o c) (hb : Below w.heap.size w w1) (hk : k < w.heap.size) : Fre w1 k o c := fun j hj => by
  rw [hb.cell (p := ⟨k, o + j, none⟩) hk, hb.frozen (p := ⟨k, o + j, none⟩) hk]; exact h j hj
theorem Fre.only {w w1 : World} {k o c i : Nat} (h : Fre w k o c) (ho : Only i (i + 1) w w1) (hk : k < w.heap.size) (hne : k ≠ i) : Fre w1 k o c := fun j hj => by
  rw [ho.cell hk (by omega), ho.frozen hk (by omega)]; exact h j hj
def Capd (m c : Nat) (w : World) (g : Nat) : Prop := m ≤ c ∧ (m = 0 → c = 0) ∧ (0 < m → Fre w g 0 c)
theorem Capd.later {m c g : Nat} {w w1 : World} (h : Capd m c w g) (hb : Below w.heap.size w w1) (hg : 0 < m → g < w.heap.size) : Capd m c w1 g := ⟨h.1, h.2.1, fun hp => (h.2.2 hp).later hb (hg hp)⟩
theorem Capd.only {m c g i : Nat} {w w1 : World} (h : Capd m c w g) (ho : Only i (i + 1) w w1) (hg : 0 < m → g < w.heap.size) (hne : 0 < m → g ≠ i) : Capd m c w1 g := ⟨h.1, h.2.1, fun hp => (h.2.2 hp).only ho (hg hp) (hne hp)⟩

/- What comes of an append onto an empty list: nothing new, or a new row. -/
def AppQ (k m : Nat) (f : Nat → Int) (w : World) (v : Value) (w' : World) : Prop :=
  (m = 0 ∧ v = .slice (some ⟨k, 0, none⟩) 0 0 ∧ w' = w) ∨
  (0 < m ∧ ∃ c, (m ≤ c ∧ Fre w' w.heap.size 0 c) ∧ v = .slice (some ⟨w.heap.size, 0, none⟩) m c ∧ Fk .i64 m w' w.heap.size f ∧ Below w.heap.size w w' ∧ w'.heap.size = w.heap.size + 1)

theorem app_run (k : Nat) (a : Option Addr) (m c : Nat) (f : Nat → Int) (w : World) (hs : Sl .i64 w a m f) (hnil : a = none → m = 0) (hn : m ≤ 1000000000) (ty : TypeId) :
    ∃ v' w', (Builtin.append_ #[23, 23] ty #[.slice (some ⟨k, 0, none⟩) 0 0, .slice a m c]).run Tryd.prog w = .ok v' w' ∧ AppQ k m f w v' w' := by
  obtain ⟨i0, hi0, hz0, hz1, hz2⟩ := intP infoInt
  by_cases hm : m = 0
  · subst hm
    have src : Src Tryd.prog i0.size 23 (.slice a 0 c) 0 [] w := by
      cases a with
      | none => exact Src.ofNil w Tryd.underlying23 c
      | some ad => exact Src.ofSlice w Tryd.underlying23 ad 0 c [] (by simp) (by simp) (by simp)
    refine ⟨_, _, run_append_room_src w 23 23 ty 3 i0 Tryd.underlying23 hi0 k 0 0 0 _ 0 [] src (Nat.le_refl _) (by simp) (by simp), .inl ⟨rfl, rfl, rfl⟩⟩
  · rcases hs with h | ⟨b, off, rfl, h⟩
    · exact absurd h hm
    have src : Src Tryd.prog i0.size 23 (.slice (some ⟨b, off, none⟩) m c) m (rowI m f) w := Src.ofSlice w Tryd.underlying23 ⟨b, off, none⟩ m c (rowI m f) (by rw [rowI_len, hz1, Nat.mul_one]) (fun j u hu => by
      obtain ⟨hj, rfl⟩ := rowI_lt hu
      rw [Addr.add_mid]; exact h j hj) (rowI_one m f)
    have hr := run_append_grow_src w 23 23 ty 3 i0 (.int .i64 0) Tryd.underlying23 hi0 hz0 (some ⟨k, 0, none⟩) 0 0 [] (by simp [Builtin.firstCells, loadCells, loadCellsFrom]) (.slice (some ⟨b, off, none⟩) m c) m (rowI m f) src (by omega) (by omega) (growslice_fits (by omega) (by rw [hz2]; omega))
    simp only [Nat.zero_add] at hr
    have ge := grownCap_ge w m 0 3
    generalize grownCap w m 0 3 = G at hr ge
    refine ⟨_, _, hr, .inr ⟨by omega, _, ⟨ge, fun j hj => ?_⟩, rfl, fun j hj => ?_, (below1 w.drew _ : Below w.heap.size w.drew _) |> fun hb => ⟨hb.os, hb.tape, hb.output, hb.size, hb.block⟩, by simp⟩⟩
    · have hb : (w.drew.alloc (.cells (([] ++ rowI m f).toArray ++ Builtin.zeroCells (Value.int .i64 0).cells (G - m)) 3)).heap[w.heap.size]? = _ := heap_alloc_new w.drew _
      rw [cell_of_row _ _ _ _ _ _ hb, frozen_of_row _ _ _ _ _ hb]
      refine ⟨?_, rfl⟩
      have sz : (([] ++ rowI m f).toArray ++ Builtin.zeroCells (Value.int .i64 0).cells (G - m)).size = G := by
        rw [Array.size_append, size_zeroCells, show (Value.int .i64 0).cells.size = 1 from rfl, List.size_toArray, List.length_append, rowI_len]
        simp only [List.length_nil]
        omega
      rw [Array.getElem?_eq_getElem (by rw [sz]; omega)]
      rfl
    · have hb : (w.drew.alloc (.cells (([] ++ rowI m f).toArray ++ Builtin.zeroCells (Value.int .i64 0).cells (G - m)) 3)).heap[w.heap.size]? = _ := heap_alloc_new w.drew _
      rw [cell_of_row _ _ j _ _ _ hb, frozen_of_row _ _ j _ _ hb]
      refine ⟨?_, rfl⟩
      rw [List.nil_append, Array.getElem?_append_left (by simp [rowI_len]; exact hj), List.getElem?_toArray]
      exact rowI_get m f j hj

theorem wp_app {o : Oper} {ac : Act} {K : Act → World → Prop} {Q : Exit → Act → World → Prop} (s x : Operand) (k : Nat) (a : Option Addr) (m c : Nat) (f : Nat → Int) (w : World)
    (ho : o.op = .call { callee := .builtin .append, args := #[s, x], argTypes := #[23, 23] }) (h1 : ac.eval s = .slice (some ⟨k, 0, none⟩) 0 0) (h2 : ac.eval x = .slice a m c)
    (hs : Sl .i64 w a m f) (hnil : a = none → m = 0) (hn : m ≤ 1000000000)
    (h : ∀ v' w', AppQ k m f w v' w' → K (ac.put o.dst v') w') : o.wp Tryd.prog ac w K Q := by
  obtain ⟨v', w', hr, hq⟩ := app_run k a m c f w hs hnil hn o.type
  unfold Oper.wp execOp
  simp only [ho, resolve, invoke, builtin, Sem.run_bind, Sem.run_pure, Result.andThen_ok, List.map_toArray, List.map_cons, List.map_nil, h1, h2, hr]
  exact h v' w' hq

theorem wpList_app {ops : Array Oper} {rest : List Oper} {o : Oper} {ac : Act} {Q : Exit → Act → World → Prop} (hgd : o.guard = none) (s x : Operand) (k : Nat) (a : Option Addr) (m c : Nat) (f : Nat → Int) (w : World)
    (ho : o.op = .call { callee := .builtin .append, args := #[s, x], argTypes := #[23, 23] }) (h1 : ac.eval s = .slice (some ⟨k, 0, none⟩) 0 0) (h2 : ac.eval x = .slice a m c)
    (hs : Sl .i64 w a m f) (hnil : a = none → m = 0) (hn : m ≤ 1000000000)
    (h : ∀ v' w', AppQ k m f w v' w' → wpList Tryd.prog ops Q rest (ac.put o.dst v') w') : wpList Tryd.prog ops Q (o :: rest) ac w :=
  wpList_plain hgd fun _ hK => wp_app s x k a m c f w ho h1 h2 hs hnil hn fun v' w' hq => hK _ _ (h v' w' hq)

/- Four lists that are copied, each as far as it has come. -/
def blk : Value → Nat
  | .slice (some a) _ _ => a.block
  | _ => 0

structure Cpd (B : Nat) (x : Sx) (v : Value) (w : World) : Prop where
  z : x.n = 0 → ∃ c, v = .slice (some ⟨blk v, 0, none⟩) 0 c ∧ c = 0
  p : 0 < x.n → ∃ c, Capd x.n c w (blk v) ∧ v = .slice (some ⟨blk v, 0, none⟩) x.n c ∧ B ≤ blk v ∧ blk v < w.heap.size ∧ Fk .i64 x.n w (blk v) x.f

theorem Cpd.later {B : Nat} {x : Sx} {v : Value} {w w1 : World} (h : Cpd B x v w) (hb : Below w.heap.size w w1) : Cpd B x v w1 :=
  ⟨h.z, fun hp => by obtain ⟨c, h1, h2, h3, h4, h5⟩ := h.p hp; exact ⟨c, h1.later hb (fun _ => h4), h2, h3, Nat.lt_of_lt_of_le h4 hb.size, h5.later hb⟩⟩

structure Cs (B : Nat) (sx : Fin 4 → Sx) (n a : Fin 4 → Bool) (x y : Fin 4 → Value) (ko : Nat) (w : World) : Prop where
  xs : ∀ j, n j = true → ∃ k, x j = .slice (some ⟨k, 0, none⟩) 0 0
  ys : ∀ j, a j = true → Cpd B (sx j) (y j) w
  d : ∀ i j, i ≠ j → a i = true → a j = true → 0 < (sx i).n → 0 < (sx j).n → blk (y i) ≠ blk (y j)
  o : ∀ j, a j = true → 0 < (sx j).n → blk (y j) ≠ ko

def up {α : Type} (f : Fin 4 → α) (j : Fin 4) (v : α) : Fin 4 → α := fun i => if i = j then v else f i
theorem up_same {α : Type} (f : Fin 4 → α) (j : Fin 4) (v : α) : up f j v j = v := by simp [up]
theorem up_other {α : Type} (f : Fin 4 → α) (j i : Fin 4) (v : α) (h : i ≠ j) : up f j v i = f i := by simp [up, h]

theorem Cs.later {B : Nat} {sx : Fin 4 → Sx} {n a : Fin 4 → Bool} {x y : Fin 4 → Value} {ko : Nat} {w w1 : World} (h : Cs B sx n a x y ko w) (hb : Below w.heap.size w w1) : Cs B sx n a x y ko w1 :=
  ⟨h.xs, fun j hj => (h.ys j hj).later hb, h.d, h.o⟩

theorem Cs.start (B : Nat) (sx : Fin 4 → Sx) (x y : Fin 4 → Value) (ko : Nat) (w : World) : Cs B sx (fun _ => false) (fun _ => false) x y ko w :=
  ⟨fun _ h => Bool.noConfusion h, fun _ h => Bool.noConfusion h, fun _ _ _ h => Bool.noConfusion h, fun _ h => Bool.noConfusion h⟩

theorem Cs.new {B : Nat} {sx : Fin 4 → Sx} {n a : Fin 4 → Bool} {x y : Fin 4 → Value} {ko : Nat} {w : World} (h : Cs B sx n a x y ko w) (j : Fin 4) (k : Nat) : Cs B sx (up n j true) a (up x j (.slice (some ⟨k, 0, none⟩) 0 0)) y ko w :=
  ⟨fun i hi => by
    by_cases e : i = j
    · subst e; rw [up_same]; exact ⟨k, rfl⟩
    · rw [up_other _ _ _ _ e] at hi ⊢; exact h.xs i hi, h.ys, h.d, h.o⟩

/- A new list. -/
def New (m : Nat) (f : Nat → Int) (w : World) (v : Value) (w' : World) : Prop := ∃ g c, v = .slice (some ⟨g, 0, none⟩) m c ∧ Capd m c w' g ∧ (0 < m → g = w.heap.size ∧ g < w'.heap.size ∧ Fk .i64 m w' g f) ∧ Below w.heap.size w w'
theorem AppQ.got {k m : Nat} {f : Nat → Int} {w w' : World} {v : Value} (h : AppQ k m f w v w') : New m f w v w' := by
  rcases h with ⟨rfl, rfl, rfl⟩ | ⟨hm, c, hc, rfl, hf, hb, hz⟩
  · exact ⟨k, 0, rfl, ⟨Nat.le_refl _, fun _ => rfl, fun h => absurd h (by omega)⟩, fun h => absurd h (by omega), Below.refl _ _⟩
  · exact ⟨_, c, rfl, ⟨hc.1, fun h => by omega, fun _ => hc.2⟩, fun _ => ⟨rfl, by omega, hf⟩, hb⟩

theorem Cs.app {B : Nat} {sx : Fin 4 → Sx} {n a : Fin 4 → Bool} {x y : Fin 4 → Value} {ko : Nat} {w w1 : World} {v : Value} (h : Cs B sx n a x y ko w) (j : Fin 4) (hB : B ≤ w.heap.size) (hko : ko < w.heap.size) (hq : New (sx j).n (sx j).f w v w1) :
    Cs B sx n (up a j true) x (up y j v) ko w1 ∧ Below w.heap.size w w1 := by
  obtain ⟨g, c, rfl, hc, hg, hb⟩ := hq
  have new : 0 < (sx j).n → blk (.slice (some ⟨g, 0, none⟩) (sx j).n c) = w.heap.size := fun hp => (hg hp).1
  have old : ∀ i, a i = true → 0 < (sx i).n → blk (y i) < w.heap.size := fun i hi hp => by
    obtain ⟨c, _, _, _, h4, _⟩ := (h.ys i hi).p hp
    exact h4
  refine ⟨⟨h.xs, fun i hi => ?_, fun i i' hne hi hi' p p' => ?_, fun i hi p => ?_⟩, hb⟩
  · by_cases e : i = j
    · subst e
      rw [up_same]
      exact ⟨fun h0 => ⟨c, by rw [h0]; rfl, hc.2.1 h0⟩, fun hp => ⟨c, hc, rfl, by rw [new hp]; exact hB, (hg hp).2.1, (hg hp).2.2⟩⟩
    · rw [up_other _ _ _ _ e] at hi ⊢; exact (h.ys i hi).later hb
  · by_cases e : i = j
    · subst e
      rw [up_same, up_other _ _ _ _ (Ne.symm hne), new p]
      rw [up_other _ _ _ _ (Ne.symm hne)] at hi'
      have := old i' hi' p'; omega
    · by_cases e' : i' = j
      · subst e'
        rw [up_same, up_other _ _ _ _ e, new p']
        rw [up_other _ _ _ _ e] at hi
        have := old i hi p; omega
      · rw [up_other _ _ _ _ e, up_other _ _ _ _ e']
        rw [up_other _ _ _ _ e] at hi
        rw [up_other _ _ _ _ e'] at hi'
        exact h.d i i' hne hi hi' p p'
  · by_cases e : i = j
    · subst e; rw [up_same, new p]; omega
    · rw [up_other _ _ _ _ e] at hi ⊢; exact h.o i hi p

def upd (f : Nat → Int) (j : Nat) (v : Int) : Nat → Int := fun i => if i = j then v else f i
def Sx.put (x : Sx) (j : Nat) (v : Int) : Sx := ⟨x.a, x.n, x.c, upd x.f j v⟩

theorem apart_congr {x y x' y' : Sx} (h : Apart x y) (h1 : x'.n = x.n) (h2 : x'.a = x.a) (h3 : y'.n = y.n) (h4 : y'.a = y.a) : Apart x' y' := by
  rcases h with h | h | ⟨j, k, e1, e2, e3⟩
  · exact .inl (h1.trans h)
  · exact .inr (.inl (h3.trans h))
  · exact .inr (.inr ⟨j, k, h2.trans e1, h4.trans e2, e3⟩)
theorem apart_sym {x y : Sx} (h : Apart x y) : Apart y x := by
  rcases h with h | h | ⟨j, k, e1, e2, e3⟩
  · exact .inr (.inl h)
  · exact .inl h
  · exact .inr (.inr ⟨k, j, e2, e1, e3.symm⟩)

theorem Sx.Own.far {x : Sx} {B C : Nat} {w : World} (h : x.Own B C w) {y : Sx} (ha : Apart x y) (hy : 0 < y.n) {k : Nat} (hk : y.a = some ⟨k, 0, none⟩) (j : Nat) (v : Value) : x.Own B C (w.setCell ⟨k, j, none⟩ v) := by
  rcases h with h | ⟨g, e, h1, h2, h3⟩
  · exact .inl h
  · rcases ha with h | h | ⟨j', k', e1, e2, e3⟩
    · exact .inl h
    · omega
    · rw [hk] at e2
      rw [e] at e1
      cases e1
      cases e2
      exact .inr ⟨g, e, h1, h2, h3.far ⟨k, j, none⟩ (fun q => e3 q.symm) v⟩

theorem Sx.Own.put {x : Sx} {B C : Nat} {w : World} (h : x.Own B C w) {k : Nat} (hk : x.a = some ⟨k, 0, none⟩) (j : Nat) (hj : j < x.n) (v : Int) : (x.put j v).Own B C (w.setCell ⟨k, j, none⟩ (.int .i64 v)) := by
  rcases h with h | ⟨g, e, h1, h2, h3⟩
  · omega
  · rw [hk] at e
    cases e
    exact .inr ⟨k, hk, h1, h2, h3.set j v _ (by simp [Sx.put, upd]) (fun i _ hne => by simp [Sx.put, upd, hne])⟩

theorem Bx.Own.write {b b' : Bx} {B C : Nat} {w : World} (h : b.Own B C w) (q : Nat) (x : Sx) (hx : b.lists[q]? = some x) (k j : Nat) (ha : x.a = some ⟨k, 0, none⟩) (hj : j < x.n) (v : Int) (hl : b'.lists = b.lists.set q (x.put j v)) :
    b'.Own B C (w.setCell ⟨k, j, none⟩ (.int .i64 v)) := by
  obtain ⟨hq, hxe⟩ := List.getElem?_eq_some_iff.1 hx
  have hpw := List.pairwise_iff_getElem.1 h.apart
  have hap : ∀ p (hp : p < b.lists.length), p ≠ q → Apart b.lists[p] x := fun p hp hne => by
    rw [← hxe]
    by_cases hlt : p < q
    · exact hpw p q hp hq hlt
    · exact apart_sym (hpw q p hq hp (by omega))
  refine ⟨?_, ?_, ?_⟩
  · rw [hl]
    intro y hy
    obtain ⟨p, hp, rfl⟩ := List.getElem_of_mem hy
    rw [List.length_set] at hp
    rw [List.getElem_set]
    split
    · exact (h.each x (hxe ▸ List.getElem_mem hq)).put ha j hj v
    · rename_i hne
      exact (h.each _ (List.getElem_mem hp)).far (hap p hp (fun e => hne e.symm)) (by omega) ha j _
  · rw [hl, List.pairwise_iff_getElem]
    intro p p' hp hp' hlt
    rw [List.length_set] at hp hp'
    refine apart_congr (hpw p p' hp hp' hlt) ?_ ?_ ?_ ?_
    all_goals
      rw [List.getElem_set]
      split
      · rename_i e
        subst e
        rw [hxe]; rfl
      · rfl
  · rw [hl]
    intro y hy
    obtain ⟨p, hp, rfl⟩ := List.getElem_of_mem hy
    rw [List.length_set] at hp
    rw [List.getElem_set]
    split
    · exact h.caps x (hxe ▸ List.getElem_mem hq)
    · exact h.caps _ (List.getElem_mem hp)

end Go.Proofs.YtbipolfbkemmpaaDoor.Book

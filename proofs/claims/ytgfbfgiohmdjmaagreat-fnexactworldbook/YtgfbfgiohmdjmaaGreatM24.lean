import Derived.RangeFuncNested
import Derived.RangeFuncBound
import Derived.RangeFuncCalls
import Derived.RangeFuncLeaves
import Derived.Shelf.Abstract
import Derived.Shelf.RegionOpen
import Derived.WalkKit
import Derived.OwnWalkIn
import Derived.TacticsInMore
import Derived.LoopNIn
import Derived.LoopIn
import Derived.Deep.RegionHeld
import Derived.Test.YtgfbfgiohmdjmaaGreatCb5
import Derived.Test.YtgfbfgiohmdjmaaGreatM13

/- A range over a function whose invariant bounds the rounds: over no program. The iterator may know the caller's invariant, so that one that would go round for ever ends where the body leaves it. -/
namespace Go.Proofs.YtgfbfgiohmdjmaaGreat.Book
open Go.RowKit Go.Shelf
set_option linter.unusedVariables false

/- What a turn of a block that holds no cells, from B on, leaves. -/
def Firm (B : Nat) (p : World → Prop) : Prop := (∀ W l o o', p W → B ≤ l → W.heap[l]? = some o → o.isCells = false → p (W.putObj l o')) ∧ (∀ W o, p W → p (W.alloc o)) ∧ (∀ W, p W → p W.drew)

/- What the iterator is told: yield, and an invariant J that says at least what I says. -/
def Iter (P : Program) (n gf : Nat) (lb : Array Value) (I : List Int → World → Prop) (fin part : List Int → Prop) : Prop :=
  ∀ (l : Nat) (J Jx : List Int → World → Prop) (W : World), (∀ pre W, J pre W → I pre W) → (∀ pre W, J pre W → J pre W.drew) →
    (∀ pre x W1, J pre W1 → YieldAt Fence.wide (n - 1 - 1) P l #[.int .i64 x] W1 fun e W' => (e = .returned (.bool true) ∧ J (pre ++ [x]) W') ∨ (e = .returned (.bool false) ∧ Jx (pre ++ [x]) W')) →
    J [] W → CallsIn Fence.wide (n - 1) P gf (#[.func (.yield l) #[] #[]] ++ lb) W fun e W' => (∃ v, e = .returned v) ∧ ((∃ xs, fin xs ∧ J xs W') ∨ (∃ pre, part pre ∧ Jx pre W'))

/- How a round's body ends: off its end, or by a break. -/
def BodyEnd (B : Nat) (I Ix : List Int → World → Prop) (id : Nat) (xs : List Int) (W : World) : Exit → Act → World → Prop
  | .normal, _, W' => KeepsFrom B W W' ∧ I xs W'
  | .exit i, _, W' => i = id ∧ KeepsFrom B W W' ∧ Ix xs W'
  | _, _, _ => False

set_option maxHeartbeats 1000000 in
theorem over_iter {P : Program} {n : Nat} {g : Operand} {ps : Array Tmp} {assign body : Code} {Q : Exit → Act → World → Prop} {a : Act} {w : World} {gf : Nat} {lb : Array Value} (I Ix : List Int → World → Prop) (fin part : List Int → Prop) (id : Nat) (a₁ : Int → Act)
    (hg : a.eval g = .func (.func gf) #[] lb) (eg : ∀ args w, (callFunc gf args).run P w = .ok (.enter gf args) w) (hps : ps.size = 1)
    (fI : ∀ xs, Firm w.heap.size (I xs)) (fX : ∀ xs, Firm w.heap.size (Ix xs)) (it : Iter P n gf lb I fin part) (h0 : I [] w)
    (hassign : ∀ (l : Nat) (x : Int) (W : World) (K : Act → World → Prop), K (a₁ x) W → assign.wpIn (Fence.wide.inRound l) (n - 1 - 1) P (Exit.then K (fun _ _ _ => False)) { tmps := (ps.zip #[.int .i64 x]).foldl (fun t (p, v) => t.setIfInBounds p v) a.tmps, defers := [] } W)
    (hbody : ∀ (l : Nat) (pre : List Int) (x : Int) (W : World), I pre W → body.wpIn (Fence.wide.inRound l) (n - 1 - 1) P (BodyEnd w.heap.size I Ix id (pre ++ [x]) W) (a₁ x) W)
    (hdone : ∀ (xs : List Int) (W : World), fin xs → I xs W → W.heap[w.heap.size]? = some (.deferred (some [])) → w.heap.size ≤ W.heap.size → Q .normal { a with defers := { target := .collected w.heap.size, args := #[] } :: a.defers } W)
    (hstop : ∀ (pre : List Int) (W : World), part pre → Ix pre W → W.heap[w.heap.size]? = some (.deferred (some [])) → w.heap.size ≤ W.heap.size → (Code.exit id).wpIn Fence.wide n P Q { a with defers := { target := .collected w.heap.size, args := #[] } :: a.defers } W) :
    (Code.rangeFunc g ps assign body).wpIn Fence.wide n P Q a w := by
  refine wpIn_rangeFunc fun fn hfn => ?_
  obtain ⟨R, hR⟩ : ∃ R : LoopState → Option Code → Loop, R = fun s p => ⟨s, p, fn, a.tmps, ps, assign, body, w.heap.size⟩ := ⟨_, rfl⟩
  /- the record and the block for deferred calls, as they stand -/
  obtain ⟨Bk, hBk⟩ : ∃ Bk : LoopState → Option Code → World → Prop, Bk = fun s p W => W.heap[w.heap.size + 1]? = some (.loop (R s p)) ∧ W.heap[w.heap.size]? = some (.deferred (some [])) := ⟨_, rfl⟩
  have turn : ∀ s p s' p' W, Bk s p W → Bk s' p' (W.putObj (w.heap.size + 1) (.loop (R s' p'))) := fun s p s' p' W h => by
    rw [hBk] at h ⊢
    exact ⟨World.putObj_heap_same (Array.getElem?_eq_some_iff.1 h.1).1, (World.putObj_heap_other (by omega)).trans h.2⟩
  have kept : ∀ s p W W', Bk s p W → KeepsFrom w.heap.size W W' → Bk s p W' := fun s p W W' h k => by
    rw [hBk] at h ⊢
    exact ⟨k.same _ _ (by omega) h.1 rfl, k.same _ _ (Nat.le_refl _) h.2 rfl⟩
  have size : ∀ s p W, Bk s p W → w.heap.size ≤ W.heap.size := fun s p W h => by
    rw [hBk] at h
    have := (Array.getElem?_eq_some_iff.1 h.2).1
    omega
  have firm : ∀ (p : World → Prop) s q o' W, Firm w.heap.size p → Bk s q W → p W → p (W.putObj (w.heap.size + 1) o') := fun p s q o' W f h hp => by
    rw [hBk] at h
    exact f.1 W _ _ o' hp (by omega) h.1 rfl
  obtain ⟨W1, hW1⟩ : ∃ W1, W1 = (w.alloc (.deferred (some []))).alloc (.loop (R .ready none)) := ⟨_, rfl⟩
  have b1 : Bk .ready none W1 := by
    rw [hBk, hW1]
    refine ⟨?_, (Below.heap_alloc _ _ _ (by simp)).trans (World.alloc_heap_new w _)⟩
    have := World.alloc_heap_new (w.alloc (.deferred (some []))) (.loop (R .ready none))
    rw [World.size_alloc] at this
    exact this
  have i1 : I [] W1 := by rw [hW1]; exact (fI []).2.1 _ _ ((fI []).2.1 _ _ h0)
  refine ⟨w.heap.size + 1, [{ target := .collected w.heap.size, args := #[] }], W1, { target := .fn (.func gf) lb, args := #[.func (.yield (w.heap.size + 1)) #[] #[]] }, W1, gf, #[.func (.yield (w.heap.size + 1)) #[] #[]] ++ lb, W1, ?_, ?_, ?_, ?_, ?_, ?_⟩
  · rw [hW1, hR]; exact run_enterLoop_outer _ _ _ _ _
  · simp only [resolve, hg]
    simp [go_sem]
  · intro f' _; trivial
  · simp [invoke, go_sem, eg]
  · intro h; simp [Fence.wide] at h
  refine (it (w.heap.size + 1) (fun pre W => I pre W ∧ Bk .ready none W) (fun pre W => Ix pre W ∧ Bk .done (some (.exit id)) W) W1 (fun _ _ h => h.1) (fun pre W h => ⟨(fI pre).2.2 _ h.1, by have := h.2; rw [hBk] at this ⊢; exact this⟩) ?_ ⟨i1, b1⟩).mono ?_
  · rintro pre x W ⟨hi, hb⟩
    have hl : W.heap[w.heap.size + 1]? = some (.loop (R .ready none)) := by rw [hBk] at hb; exact hb.1
    have hy := run_yield (P := P) (args := #[.int .i64 x]) hl (by rw [hR]; exact hps.symm)
    have e3 : R .ready none = ⟨.ready, none, fn, a.tmps, ps, assign, body, w.heap.size⟩ := by rw [hR]
    rw [e3] at hy
    refine ⟨fn, _, assign, body, hy, roundIn_of_wpIn trivial (hassign _ x W _ ⟨_, run_beginRound hl (by rw [hR]), ?_⟩)⟩
    have e2 : ({ R .ready none with state := .busy } : Loop) = R .busy none := by rw [hR]
    rw [e2]
    have hb2 := turn _ _ .busy none W hb
    refine wpIn_mono (hbody _ pre x _ (firm _ _ _ _ W (fI pre) hb hi)) ?_
    rintro e a3 W3 hp
    cases e with
    | normal =>
      obtain ⟨hk, hi3⟩ := hp
      have hb3 := kept _ _ _ _ hb2 hk
      have hl3 : W3.heap[w.heap.size + 1]? = some (.loop (R .busy none)) := by rw [hBk] at hb3; exact hb3.1
      have he := run_endRound (P := P) none hl3
      have e4 : ({ R .busy none with state := if (none : Option Code).isNone then .ready else .done, pending := none } : Loop) = R .ready none := by rw [hR]; rfl
      rw [e4] at he
      exact ⟨_, _, he, .inl ⟨rfl, firm _ _ _ _ W3 (fI _) hb3 hi3, turn _ _ .ready none W3 hb3⟩⟩
    | exit i =>
      obtain ⟨rfl, hk, hi3⟩ := hp
      have hb3 := kept _ _ _ _ hb2 hk
      have hl3 : W3.heap[w.heap.size + 1]? = some (.loop (R .busy none)) := by rw [hBk] at hb3; exact hb3.1
      have he := run_endRound (P := P) (some (.exit i)) hl3
      have e4 : ({ R .busy none with state := if (some (Code.exit i)).isNone then .ready else .done, pending := some (.exit i) } : Loop) = R .done (some (.exit i)) := by rw [hR]; rfl
      rw [e4] at he
      exact ⟨_, _, he, .inr ⟨rfl, firm _ _ _ _ W3 (fX _) hb3 hi3, turn _ _ .done (some (.exit i)) W3 hb3⟩⟩
    | ret => exact hp.elim
    | goto t => exact hp.elim
    | panic ch => exact hp.elim
    | outgrown => exact hp.elim
  · rintro e W2 ⟨⟨v, rfl⟩, (⟨xs, hf, hi, hb⟩ | ⟨pre, hp, hi, hb⟩)⟩
    · have hl : W2.heap[w.heap.size + 1]? = some (.loop (R .ready none)) := by rw [hBk] at hb; exact hb.1
      have he := run_endLoop (P := P) hl (by rw [hR]; simp)
      have e4 : ({ R .ready none with state := .exhausted } : Loop) = R .exhausted none := by rw [hR]
      rw [e4] at he
      have hb4 := turn _ _ .exhausted none W2 hb
      refine ⟨none, _, by rw [he, hR], hdone xs _ hf (firm _ _ _ _ W2 (fI _) hb hi) ?_ (size _ _ _ hb4)⟩
      rw [hBk] at hb4
      exact hb4.2
    · have hl : W2.heap[w.heap.size + 1]? = some (.loop (R .done (some (.exit id)))) := by rw [hBk] at hb; exact hb.1
      have he := run_endLoop (P := P) hl (by rw [hR]; simp)
      have e4 : ({ R .done (some (.exit id)) with state := .exhausted } : Loop) = R .exhausted (some (.exit id)) := by rw [hR]
      rw [e4] at he
      have hb4 := turn _ _ .exhausted (some (.exit id)) W2 hb
      refine ⟨some (.exit id), _, by rw [he, hR], hstop pre _ hp (firm _ _ _ _ W2 (fX _) hb hi) ?_ (size _ _ _ hb4)⟩
      rw [hBk] at hb4
      exact hb4.2

/- The same, where the loop lies in a block of its own, which a break leaves. -/
theorem over_iter_block {P : Program} {n : Nat} {g : Operand} {ps : Array Tmp} {assign body : Code} {Q : Exit → Act → World → Prop} {a : Act} {w : World} {gf : Nat} {lb : Array Value} (I Ix : List Int → World → Prop) (fin part : List Int → Prop) (id : Nat) (a₁ : Int → Act)
    (hg : a.eval g = .func (.func gf) #[] lb) (eg : ∀ args w, (callFunc gf args).run P w = .ok (.enter gf args) w) (hps : ps.size = 1)
    (fI : ∀ xs, Firm w.heap.size (I xs)) (fX : ∀ xs, Firm w.heap.size (Ix xs)) (it : Iter P n gf lb I fin part) (h0 : I [] w)
    (hassign : ∀ (l : Nat) (x : Int) (W : World) (K : Act → World → Prop), K (a₁ x) W → assign.wpIn (Fence.wide.inRound l) (n - 1 - 1) P (Exit.then K (fun _ _ _ => False)) { tmps := (ps.zip #[.int .i64 x]).foldl (fun t (p, v) => t.setIfInBounds p v) a.tmps, defers := [] } W)
    (hbody : ∀ (l : Nat) (pre : List Int) (x : Int) (W : World), I pre W → body.wpIn (Fence.wide.inRound l) (n - 1 - 1) P (BodyEnd w.heap.size I Ix id (pre ++ [x]) W) (a₁ x) W)
    (hend : ∀ (xs : List Int) (W : World), (fin xs ∧ I xs W) ∨ (part xs ∧ Ix xs W) → W.heap[w.heap.size]? = some (.deferred (some [])) → Q .normal { a with defers := { target := .collected w.heap.size, args := #[] } :: a.defers } W) :
    (Code.rangeFunc g ps assign body).wpIn Fence.wide n P (Exit.inBlock id Q) a w := by
  refine over_iter I Ix fin part id a₁ hg eg hps fI fX it h0 hassign hbody ?_ ?_
  · intro xs W hf hi hD _
    exact hend xs W (.inl ⟨hf, hi⟩) hD
  · intro xs W hp hi hD _
    gi_wp2
    exact hend xs W (.inr ⟨hp, hi⟩) hD

/- A region that holds no deferring goes in a round as anywhere. -/
def Fence.at (ro : Option Nat) : Fence := { Fence.wide with round := ro }
theorem rows_at {n : Nat} {P : Program} {row : String} {args : Array Value} {w : World} {ro : Option Nat} {R : Value → World → Prop} (h : Rows P row args w R) : RowsIn (Fence.at ro) n P row args w R := fun c cs _ => by
  obtain ⟨v, w', r, s⟩ := h c cs
  exact ⟨v, w', r, stepsIn_wide.2 s⟩
theorem oper_at {n : Nat} {P : Program} {o : Oper} {a : Act} {w : World} {ro : Option Nat} {K K' : Act → World → Prop} {Q : Exit → Act → World → Prop} (hd : ∀ c, o.op ≠ .defer c) (hK : ∀ a w, K a w → K' a w) (h : o.wp P a w K Q) : o.wpIn (Fence.at ro) n P a w K' Q := by
  refine ⟨fun _ _ => trivial, ?_⟩
  have e : Oper.semAt (Fence.at ro).round a.eval o = execOp a.eval o := by
    cases ro with
    | none => rfl
    | some l => exact Oper.semAt_some l a.eval o hd
  rw [e]
  unfold Oper.wp at h
  generalize (execOp a.eval o).run P w = r at h ⊢
  cases r with
  | ok x w' =>
    cases x with
    | enter f args => exact ⟨fun q => by simp [Fence.at, Fence.wide] at q, callsIn_wide.2 (Calls.mono h fun e w'' he => by cases e <;> first | exact hK _ _ he | exact he)⟩
    | row row args => exact ⟨fun q => by simp [Fence.at, Fence.wide] at q, RowsIn.mono (rows_at h) fun _ _ he => hK _ _ he⟩
    | _ => first | exact hK _ _ h | exact h.elim
  | halt x w' => cases x <;> exact h
theorem any_at {n : Nat} {P : Program} {ops : Array Oper} {Q : Exit → Act → World → Prop} {md : Region.Mode} {ro : Option Nat} (hd : ∀ (i : Nat) (o : Oper) c, ops[i]? = some o → o.op ≠ .defer c) (hq : ¬ LetsOut Q) :
    ∀ (fuel : Nat) (listed : Array Bool) (a : Act) (w : World), wpAny P md ops Q fuel listed a w → wpAnyIn (Fence.at ro) n P md ops Q fuel listed a w
  | 0, _, _, _, h => h
  | fuel + 1, listed, a, w, h => by
    refine ⟨h.1, fun i hi => ?_⟩
    have hw := h.2 i hi
    unfold wpOp at hw
    unfold wpOpIn
    cases ho : ops[i]? with
    | none => simp only [ho] at hw ⊢; exact any_at hd hq fuel _ _ _ hw
    | some o =>
      simp only [ho] at hw ⊢
      split
      · rename_i g
        rw [if_pos g] at hw
        rcases hw with hw | hw
        · exact oper_at (hd i o · ho) (fun a w h => any_at hd hq fuel _ _ _ h) hw
        · exact absurd hw.2 hq
      · rename_i g
        rw [if_neg g] at hw
        exact ⟨fun _ _ => trivial, any_at hd hq fuel _ _ _ hw⟩
theorem region_at {n : Nat} {P : Program} {ops : Array Oper} {Q : Exit → Act → World → Prop} {S : World → Prop} {id : Nat} {a : Act} {w : World} {ro : Option Nat} (hm : P.follows .mixedOrders = true) (hd : ∀ (i : Nat) (o : Oper) c, ops[i]? = some o → o.op ≠ .defer c) (hq : ¬ LetsOut Q) (hS : S w.drew)
    (h : S w.drew → wpAnyH P .any ops Q S ops.size (Array.replicate ops.size false) a w.drew) : (Code.region id ops true).wpIn (Fence.at ro) n P Q a w :=
  wpIn_region_any hm (any_at hd hq _ _ _ _ (wpAny_of_held _ _ _ _ (h hS)))

end Go.Proofs.YtgfbfgiohmdjmaaGreat.Book
/- The lists of free rooms that words tell of are gathered, by the program: what holds meanwhile; the iterator. -/
namespace Go.Proofs.YtgfbfgiohmdjmaaGreat.Book
open Go.ChangeShapes Go.WideShapes Go.ChangeAt Go.RowKit Go.Shelf
open Aid Lst Words
set_option maxRecDepth 100000
set_option linter.unusedVariables false
attribute [local go_sem] Oper.semAt_some

def Z9 : List Value := [.int .i64 0, .slice none 0 0, .slice none 0 0, .slice none 0 0, .slice none 0 0, .slice none 0 0, .slice none 0 0, .slice none 0 0, .slice none 0 0]

/- What holds while the list of a kind is gathered. -/
structure Lp (w0 : World) (f : Nat → Int) (S P dk kl B C R0 : Nat) (b : Bx) (k kb l1 l2 : Nat) (Ds : List Nat) (v : Value) (xs : List Int) (W : World) : Prop where
  x : W.cell? ⟨w0.heap.size, 0, none⟩ = some (.pointer (some ⟨dk, 0, none⟩))
  t : Ck W (w0.heap.size + 1) Z9
  q : W.cell? ⟨kb, 0, none⟩ = some (.int .i64 k)
  q1 : W.cell? ⟨l1, 0, none⟩ = some (.pointer (some ⟨dk, 0, none⟩))
  q2 : W.cell? ⟨l2, 0, none⟩ = some (.int .i64 k)
  d : Ck W dk ((draftC f S P kl 4 b).set (2 + k) v)
  k : Fk .i64 (P * 8) W kl (wLk f S P)
  o : b.Own B C W
  r : W.ownsRow R0 3 1 v xs.length (vals xs)
  bw : Below B w0 W
  ds : ∀ D ∈ Ds, W.heap[D]? = some (.deferred (some []))
  sz : R0 ≤ W.heap.size
/- Where all of that lies. -/
structure LpS (w0 : World) (P dk kl B C R0 : Nat) (b : Bx) (kb l1 l2 : Nat) (Ds : List Nat) : Prop where
  fd : B ≤ dk ∧ dk < w0.heap.size
  fk : B ≤ kl ∧ kl < w0.heap.size
  ne : dk ≠ kl
  fR : w0.heap.size + 2 ≤ R0
  fC : C ≤ R0
  fB : B ≤ R0
  b1 : w0.heap.size + 2 ≤ kb ∧ kb < R0
  b2 : w0.heap.size + 2 ≤ l1 ∧ l1 < R0
  b3 : w0.heap.size + 2 ≤ l2 ∧ l2 < R0
  ad : Away b dk
  ak : Away b kl
  ds : ∀ D ∈ Ds, D < R0

theorem Lp.to {w0 : World} {f : Nat → Int} {S P dk kl B C R0 : Nat} {b : Bx} {k kb l1 l2 : Nat} {Ds : List Nat} {v : Value} {xs ys : List Int} {W W' : World} (s : LpS w0 P dk kl B C R0 b kb l1 l2 Ds) (hP : 0 < P) (h : Lp w0 f S P dk kl B C R0 b k kb l1 l2 Ds v xs W) (hb : Below R0 W W') {v' : Value} (hr : W'.ownsRow R0 3 1 v' ys.length (vals ys)) (hd : Ck W' dk ((draftC f S P kl 4 b).set (2 + k) v') ∨ v' = v) : Lp w0 f S P dk kl B C R0 b k kb l1 l2 Ds v' ys W' := by
  have s1 := s.fd; have s2 := s.fk; have s3 := s.fR; have s4 := s.fC; have s5 := s.fB; have s6 := s.b1; have s7 := s.b2; have s8 := s.b3
  have sb := hb.size
  have sz := h.sz
  refine ⟨(hb.cell (p := ⟨w0.heap.size, 0, none⟩) (show w0.heap.size < R0 by omega)).trans h.x, h.t.below hb (by omega), (hb.cell (p := ⟨kb, 0, none⟩) (show kb < R0 by omega)).trans h.q, (hb.cell (p := ⟨l1, 0, none⟩) (show l1 < R0 by omega)).trans h.q1, (hb.cell (p := ⟨l2, 0, none⟩) (show l2 < R0 by omega)).trans h.q2, ?_, ?_, ?_, hr, h.bw.trans (hb.mono s5), fun D hD => (hb.block D (s.ds D hD)).trans (h.ds D hD), by omega⟩
  · rcases hd with hd | rfl
    · exact hd
    · exact h.d.below hb (by omega)
  · exact Fk.below hb h.k (by omega)
  · exact ⟨fun x hx => by
      rcases h.o.each x hx with h0 | ⟨g, e, g1, g2, g3⟩
      · exact .inl h0
      · exact .inr ⟨g, e, g1, g2, Fk.below hb g3 (by omega)⟩, h.o.apart, h.o.caps⟩
theorem Lp.len {w0 : World} {f : Nat → Int} {S P dk kl B C R0 : Nat} {b : Bx} {k kb l1 l2 : Nat} {Ds : List Nat} {v : Value} {xs : List Int} {W : World} (h : Lp w0 f S P dk kl B C R0 b k kb l1 l2 Ds v xs W) : lenV v = xs.length := own_len h.r

/- One more: a store into the draft. -/
theorem Lp.put {w0 : World} {f : Nat → Int} {S P dk kl B C R0 : Nat} {b : Bx} {k kb l1 l2 : Nat} {Ds : List Nat} {v : Value} {xs ys : List Int} {W W' : World} (s : LpS w0 P dk kl B C R0 b kb l1 l2 Ds) (hP : 0 < P) (h : Lp w0 f S P dk kl B C R0 b k kb l1 l2 Ds v xs W) (hb : Below R0 W W') {v' : Value} (hr : W'.ownsRow R0 3 1 v' ys.length (vals ys)) : Lp w0 f S P dk kl B C R0 b k kb l1 l2 Ds v' ys (W'.setCell ⟨dk, 2 + k, none⟩ v') := by
  have s1 := s.fd; have s2 := s.fk; have s3 := s.fR; have s4 := s.fC; have s5 := s.fB; have s6 := s.b1; have s7 := s.b2; have s8 := s.b3
  have sb := hb.size
  have sz := h.sz
  have far : ∀ c v, c ≠ dk → W'.cell? ⟨c, 0, none⟩ = some v → (W'.setCell ⟨dk, 2 + k, none⟩ v').cell? ⟨c, 0, none⟩ = some v := fun c v hc hv => by
    rw [World.cell?_setCell_far _ _ _ _ (fun q => hc q.symm)]; exact hv
  refine ⟨far _ _ (by omega) ((hb.cell (p := ⟨w0.heap.size, 0, none⟩) (show w0.heap.size < R0 by omega)).trans h.x), (h.t.below hb (by omega)).far _ (fun q => by simp at q; omega) _, far _ _ (by omega) ((hb.cell (p := ⟨kb, 0, none⟩) (show kb < R0 by omega)).trans h.q), far _ _ (by omega) ((hb.cell (p := ⟨l1, 0, none⟩) (show l1 < R0 by omega)).trans h.q1), far _ _ (by omega) ((hb.cell (p := ⟨l2, 0, none⟩) (show l2 < R0 by omega)).trans h.q2), ?_, ?_, ?_, ?_, (h.bw.trans (hb.mono s5)).setCell (p := ⟨dk, 2 + k, none⟩) (show B ≤ dk by omega) _, ?_, by simp; omega⟩
  · have e := (h.d.below hb (by omega)).set (2 + k) v'
    rw [List.set_set] at e
    exact e
  · exact (Fk.below hb h.k (by omega)).far _ (fun q => s.ne q) _
  · exact (⟨fun x hx => by
      rcases h.o.each x hx with h0 | ⟨g, e, g1, g2, g3⟩
      · exact .inl h0
      · exact .inr ⟨g, e, g1, g2, Fk.below hb g3 (by omega)⟩, h.o.apart, h.o.caps⟩ : b.Own B C W').offb s.ad _ _
  · obtain ⟨q, g | ⟨g, cap, cur, e, hb', hg, r⟩⟩ := hr
    · exact ⟨q, .inl g⟩
    · refine ⟨q, .inr ⟨g, cap, cur, e, hb', ?_, r⟩⟩
      have oy : Only dk (dk + 1) W' (W'.setCell ⟨dk, 2 + k, none⟩ v') := (Only.refl _ _ _).setCell dk _ (Nat.le_refl _) (by omega) _
      rw [oy.block g (Nat.lt_of_not_le fun hle => by rw [Array.getElem?_eq_none hle] at hg; cases hg) (.inr (by omega))]
      exact hg
  · intro D hD
    have e := (hb.block D (s.ds D hD)).trans (h.ds D hD)
    have hlt : D < W'.heap.size := (Array.getElem?_eq_some_iff.1 e).1
    by_cases g : D = dk
    · exfalso
      subst g
      have c := (h.d.below hb (by omega) 0 (.int .i64 b.s) (by rw [List.getElem?_set_ne (by omega)]; rfl)).1
      unfold World.cell? at c
      simp [e] at c
    · have oy : Only dk (dk + 1) W' (W'.setCell ⟨dk, 2 + k, none⟩ v') := (Only.refl _ _ _).setCell dk _ (Nat.le_refl _) (by omega) _
      rw [oy.block D hlt (by omega)]
      exact e
theorem below_put {R0 l : Nat} {W : World} (h : R0 ≤ l) (o' : Obj) : Below R0 W (W.putObj l o') := ⟨rfl, rfl, rfl, Nat.le_of_eq (World.putObj_size).symm, fun j hj => World.putObj_heap_other (by omega)⟩
theorem below_drew {R0 : Nat} {W : World} : Below R0 W W.drew := ⟨rfl, rfl, rfl, Nat.le_refl _, fun _ _ => rfl⟩
theorem lp_firm {w0 : World} {f : Nat → Int} {S P dk kl B C R0 : Nat} {b : Bx} {k kb l1 l2 : Nat} {Ds : List Nat} {xs : List Int} (s : LpS w0 P dk kl B C R0 b kb l1 l2 Ds) (hP : 0 < P) (c : Prop) : Firm R0 (fun W => (∃ v, Lp w0 f S P dk kl B C R0 b k kb l1 l2 Ds v xs W) ∧ c) :=
  ⟨fun W l o o' ⟨⟨v, h⟩, hc⟩ hl ho hn => ⟨⟨v, h.to s hP (below_put hl o') (ownsRow_putObj h.r o' ho hn) (.inr rfl)⟩, hc⟩,
   fun W o ⟨⟨v, h⟩, hc⟩ => ⟨⟨v, h.to s hP ((Below.refl R0 W).alloc h.sz o) (h.r.alloc o) (.inr rfl)⟩, hc⟩,
   fun W ⟨⟨v, h⟩, hc⟩ => ⟨⟨v, h.to s hP below_drew h.r (.inr rfl)⟩, hc⟩⟩
def cntAt (dk k : Nat) (W : World) : Nat := match W.cell? ⟨dk, 2 + k, none⟩ with | some v => lenV v | none => 0
theorem Lp.cnt {w0 : World} {f : Nat → Int} {S P dk kl B C R0 : Nat} {b : Bx} {k kb l1 l2 : Nat} {Ds : List Nat} {v : Value} {xs : List Int} {W : World} (h : Lp w0 f S P dk kl B C R0 b k kb l1 l2 Ds v xs W) (hk : k < 4) : W.cell? ⟨dk, 2 + k, none⟩ = some v ∧ cntAt dk k W = xs.length := by
  have hl : 2 + k < (draftC f S P kl 4 b).length := by simp [draftC, Bx.cells, hdC]; omega
  have c := (h.d (2 + k) v (by rw [List.getElem?_set_self hl])).1
  refine ⟨c, ?_⟩
  unfold cntAt
  rw [c]
  exact h.len
theorem Lp.hd {w0 : World} {f : Nat → Int} {S P dk kl B C R0 : Nat} {b : Bx} {k kb l1 l2 : Nat} {Ds : List Nat} {v : Value} {xs : List Int} {W : World} (h : Lp w0 f S P dk kl B C R0 b k kb l1 l2 Ds v xs W) (hk : k < 4) : W.cell? ⟨dk, 9 + k, none⟩ = some (.int .i64 (wHd f S k)) ∧ W.cell? ⟨dk, 13, none⟩ = some (.slice (some ⟨kl, 0, none⟩) (P * 8) (P * 8)) := by
  refine ⟨(h.d (9 + k) _ ?_).1, (h.d 13 _ ?_).1⟩
  · rw [List.getElem?_set_ne (by omega), draft_get f S P kl 4 b k hk]
    unfold cutn
    rw [if_pos hk]
  · rw [List.getElem?_set_ne (by omega)]; rfl

end Go.Proofs.YtgfbfgiohmdjmaaGreat.Book
/- The lists of free rooms that words tell of, by the program: the iterator. -/
namespace Go.Proofs.YtgfbfgiohmdjmaaGreat.Book
open Go.ChangeShapes Go.WideShapes Go.ChangeAt Go.RowKit Go.Shelf
open Aid Lst Words
set_option maxRecDepth 100000
set_option linter.unusedVariables false
attribute [local go_sem] Oper.semAt_some

theorem region_wide {n : Nat} {P : Program} {ops : Array Oper} {Q : Exit → Act → World → Prop} {S : World → Prop} {id : Nat} {a : Act} {w : World} (hm : P.follows .mixedOrders = true) (hd : ∀ (i : Nat) (o : Oper) c, ops[i]? = some o → o.op ≠ .defer c) (hq : ¬ LetsOut Q) (hS : S w.drew)
    (h : S w.drew → wpAnyH P .any ops Q S ops.size (Array.replicate ops.size false) a w.drew) : (Code.region id ops true).wpIn Fence.wide n P Q a w := region_at (ro := none) hm hd hq hS h

def noDefer (ops : Array Oper) : Bool := ops.all fun o => match o.op with | .defer _ => false | _ => true
theorem noDefer_at {ops : Array Oper} (h : noDefer ops = true) (i : Nat) (o : Oper) (c : Call) (ho : ops[i]? = some o) : o.op ≠ .defer c := fun e => by
  obtain ⟨hi, rfl⟩ := Array.getElem?_eq_some_iff.1 ho
  have := Array.all_eq_true.1 h i hi
  simp [e] at this

set_option maxHeartbeats 4000000 in
theorem list_iter {w0 : World} {f : Nat → Int} {S P dk kl B C R0 : Nat} {b : Bx} {k kb l1 l2 : Nat} {Ds : List Nat} (s : LpS w0 P dk kl B C R0 b kb l1 l2 Ds) (hP : 0 < P) (hP6 : P ≤ 6) (hk : k < 4) :
    Iter Tryz.prog 9 128 #[.pointer (some ⟨l1, 0, none⟩), .pointer (some ⟨l2, 0, none⟩)] (fun xs W => (∃ v, Lp w0 f S P dk kl B C R0 b k kb l1 l2 Ds v xs W) ∧ xs.length ≤ P * 8) (fun xs => ∃ m, ListR (wHd f S k) (wLk f S P) (P * 8) m ∧ xs = pre (wHd f S k) (wLk f S P) m) (fun xs => ∃ i, (∀ j, j < i + 1 → inR (P * 8) (nxt (wHd f S k) (wLk f S P) j)) ∧ xs = pre (wHd f S k) (wLk f S P) (i + 1)) := by
  intro l J Jx W hJI hJd hY h0
  refine callsIn_of_wp Tryz.func128 rfl trivial ?_ rfl
  simp only [Tryz.ntmps128, List.size_toArray, List.length_cons, List.length_nil, Nat.reduceAdd, Nat.reduceSub, Array.replicate_succ, Array.replicate_zero, List.push_toArray, List.append_toArray, List.nil_append, List.cons_append]
  gi_wp2
  have hki : (k : Int) < 4 := by omega
  refine region_wide (S := J []) (by kernel_rfl) (noDefer_at (by kernel_rfl)) (fun ⟨_, _, h⟩ => by obtain ⟨⟨v, e⟩, _⟩ := (show (∃ v, Ending.outgrown = .returned v) ∧ _ from h); cases e) (hJd _ _ h0) (fun hS => ?_)
  refine tI 0 (v := .pointer (some ⟨dk, 0, none⟩)) (d := some 5) rfl rfl (fun w' hw => ?_) (by assumption) ?_
  · obtain ⟨⟨v, lp⟩, -⟩ := hJI _ _ hw; have q := lp.q1; clear hw lp; go_simp
  simp only [Act.put, s1, s2, s3]
  refine tI 1 (v := .int .i64 k) (d := some 6) rfl rfl (fun w' hw => ?_) (by assumption) ?_
  · obtain ⟨⟨v, lp⟩, -⟩ := hJI _ _ hw; have q := lp.q2; clear hw lp; go_simp
  simp only [Act.put, s1, s2, s3]
  refine tI 2 (v := .pointer (some ⟨dk, 0, none⟩)) (d := some 7) rfl rfl (fun w' hw => ?_) (by assumption) ?_
  · clear hw; go_simp
  simp only [Act.put, s1, s2, s3]
  refine tI 3 (v := .pointer (some ⟨dk, 9, none⟩)) (d := some 8) rfl rfl (fun w' hw => ?_) (by assumption) ?_
  · clear hw; go_simp
  simp only [Act.put, s1, s2, s3]
  refine tI 4 (v := .pointer (some ⟨dk, 9 + k, none⟩)) (d := some 9) rfl rfl (fun w' hw => ?_) (by assumption) ?_
  · clear hw; go_simp
  simp only [Act.put, s1, s2, s3]
  refine tI 5 (v := .int .i64 (wHd f S k)) (d := some 10) rfl rfl (fun w' hw => ?_) (by assumption) ?_
  · obtain ⟨⟨v, lp⟩, -⟩ := hJI _ _ hw; have q := (lp.hd hk).1; clear hw lp; go_simp
  simp only [Act.put, s1, s2, s3]
  refine tI 6 (v := .int .i64 (wHd f S k)) (d := some 4) rfl rfl (fun w' hw => ?_) (by assumption) ?_
  · clear hw; go_simp
  simp only [Act.put, s1, s2, s3]
  refine wpAnyH_done (by kernel_rfl) ?_ _
  have H0 : Hid (J [] W.drew) := hS
  have HI : Hid (∀ (pre : List Int) (W : World), J pre W → (∃ v, Lp w0 f S P dk kl B C R0 b k kb l1 l2 Ds v pre W) ∧ pre.length ≤ P * 8) := hJI
  have HYY : Hid (∀ (pre : List Int) (x : Int) (W1 : World), J pre W1 → YieldAt Fence.wide (9 - 1 - 1) Tryz.prog l #[.int .i64 x] W1 fun e W' => (e = .returned (.bool true) ∧ J (pre ++ [x]) W') ∨ (e = .returned (.bool false) ∧ Jx (pre ++ [x]) W')) := hY
  clear hS h0 hJI hJd hY
  gi_wp2
  generalize World.drew _ = V at H0 ⊢
  gi_loopw [4] (fun v wr => ∃ i : Nat, v = .int .i64 (nxt (wHd f S k) (wLk f S P) i) ∧ J (pre (wHd f S k) (wLk f S P) i) wr ∧ (∀ j, j < i → inR (P * 8) (nxt (wHd f S k) (wLk f S P) j))) (fun _ wr => P * 8 + 1 - cntAt dk k wr)
  case atStart => exact ⟨0, rfl, H0.out, fun j hj => absurd hj (Nat.not_lt_zero _)⟩
  case round =>
    obtain ⟨i, rfl, hj, hr⟩ := hrel
    clear H0
    obtain ⟨⟨v, lp⟩, ln⟩ := HI.out _ _ hj
    have ec := (lp.cnt hk).2
    rw [pre_len] at ln ec
    have q1 := lp.q1
    have q13 := (lp.hd hk).2
    have HJ : Hid (J (pre (wHd f S k) (wLk f S P) i) wr) := hj
    have HR : Hid (∀ j, j < i → inR (P * 8) (nxt (wHd f S k) (wLk f S P) j)) := hr
    have EC : Hid (cntAt dk k wr = i) := ec
    obtain ⟨n0, n1⟩ := nxt_w f S P k i
    clear hj hr lp ec
    by_cases g : 1 ≤ nxt (wHd f S k) (wLk f S P) i ∧ nxt (wHd f S k) (wLk f S P) i ≤ (P : Int) * 8
    case neg =>
      have gb : decide (1 ≤ nxt (wHd f S k) (wLk f S P) i ∧ nxt (wHd f S k) (wLk f S P) i ≤ (P : Int) * 8) = false := decide_eq_false g
      have NR : Hid (¬ inR (P * 8) (nxt (wHd f S k) (wLk f S P) i)) := fun q => g ⟨by have := q.1; omega, by have := q.2; omega⟩
      clear g
      gi_wp2
      refine ⟨trivial, ?_⟩
      refine (callsIn_wide.2 (within_any (nxt (wHd f S k) (wLk f S P) i) 1 ((P : Int) * 8) wr)).mono ?_
      rintro e w' ⟨rfl, rfl⟩
      rw [gb]
      gi_wp2
      refine ⟨fun _ h => (by cases h), ?_⟩
      gi_wp2
      go_end0
      exact ⟨⟨_, rfl⟩, .inl ⟨_, ⟨i, ⟨by omega, HR.out, .inr NR.out⟩, rfl⟩, HJ.out⟩⟩
    obtain ⟨g1, g2⟩ := g
    obtain ⟨y, hy⟩ : ∃ y : Nat, nxt (wHd f S k) (wLk f S P) i = (y : Int) + 1 := ⟨(nxt (wHd f S k) (wLk f S P) i - 1).toNat, by omega⟩
    have HR2 : Hid (∀ j, j < i + 1 → inR (P * 8) (nxt (wHd f S k) (wLk f S P) j)) := fun j hj => by
      by_cases e : j = i
      · rw [e]; exact ⟨by omega, by omega⟩
      · exact HR.out j (by omega)
    have EP : Hid (pre (wHd f S k) (wLk f S P) i ++ [(y : Int)] = pre (wHd f S k) (wLk f S P) (i + 1)) := by
      unfold Hid
      simp only [pre]
      rw [hy]
      simp
    have EN : Hid (wLk f S P y = nxt (wHd f S k) (wLk f S P) (i + 1)) := by
      unfold Hid
      simp only [nxt]
      rw [hy]
      congr 1
      omega
    obtain ⟨fn, tmps, assign, body, hy2, hR⟩ := HYY.out _ (y : Int) wr HJ.out
    have yl : y < P * 8 := by omega
    have yi : (y : Int) < P * 8 := by omega
    rw [hy]
    have gb : decide ((1 : Int) ≤ (y : Int) + 1 ∧ (y : Int) + 1 ≤ (P : Int) * 8) = true := decide_eq_true ⟨by omega, by omega⟩
    clear HJ HR hy n0 n1 g1 g2
    gi_wp2
    refine ⟨trivial, ?_⟩
    refine (callsIn_wide.2 (within_any ((y : Int) + 1) 1 ((P : Int) * 8) wr)).mono ?_
    rintro e w' ⟨rfl, rfl⟩
    rw [gb]
    gi_wp2
    refine hR.mono ?_
    rintro e W3 (⟨rfl, hJ3⟩ | ⟨rfl, hJx3⟩)
    · rw [EP.out] at hJ3
      obtain ⟨⟨v3, lp⟩, ln3⟩ := HI.out _ _ hJ3
      have ec3 := (lp.cnt hk).2
      rw [pre_len] at ec3 ln3
      have r1 := lp.q1
      have r13 := (lp.hd hk).2
      have ry := (lp.k y yl).1
      have HJ3 : Hid (J (pre (wHd f S k) (wLk f S P) (i + 1)) W3) := hJ3
      have EC3 : Hid (cntAt dk k W3 = i + 1) := ec3
      clear lp hJ3 ec3 gb
      gi_wp2
      go_roundw
      case rel => exact ⟨i + 1, by rw [EN.out], HJ3.out, HR2.out⟩
      case measure => rw [EC3.out, EC.out]; omega
    · gi_wp2
      go_end0
      exact ⟨⟨_, rfl⟩, .inr ⟨_, ⟨i, HR2.out, EP.out⟩, hJx3⟩⟩

end Go.Proofs.YtgfbfgiohmdjmaaGreat.Book

import Derived.Test.YtbeamigbcfkjjaaGreatDoorRows
import Derived.WalkKit
import Derived.ProofKit
import Derived.OpenShut
import Derived.Below
import Derived.BigQuiet
import Derived.BigRegion
import Derived.Deep.QuietTactic
import Derived.Deep.RegionWith
import Derived.Deep.RegionHeld
import Derived.Deep.MidRow
import Derived.Deep.OwnRows

/- Aids, over no program: ranges of cells, rows of ints, what lies in new blocks. -/
namespace Go.Proofs.YtbeamigbcfkjjaaGreatDoor.Aid
open Go.ChangeShapes Go.WideShapes Go.ChangeAt Go.RowKit

theorem bcell {W w1 : World} (hb : Below W.heap.size W w1) : (∀ b o, b < W.heap.size → w1.cell? ⟨b, o, none⟩ = W.cell? ⟨b, o, none⟩) ∧ (∀ b o, b < W.heap.size → w1.frozen? ⟨b, o, none⟩ = W.frozen? ⟨b, o, none⟩) :=
  ⟨fun b o h => hb.cell (p := ⟨b, o, none⟩) h, fun b o h => hb.frozen (p := ⟨b, o, none⟩) h⟩

theorem ret_bool {a b : Bool} (h : a = b) : Ending.returned (.bool a) = .returned (.bool b) := by rw [h]

/- A struct that is handed back out of memory, whatever its cells. -/
theorem results_cell_mid {P : Program} {fn : Func} {q : Tmp} {ty : TypeId} (h : fn.results = #[.cell q ty]) (tmps : Array Value) (w : World) (b o : Nat) (cs : List Value) (d : TypeDesc)
    (hp : tmps.getD q undef = .pointer (some ⟨b, o, none⟩)) (hc : w.rangeAt b o cs) (hu : P.underlying ty = some d) (hd : d.isRow = true) (hi : (P.info? ty).map (·.size) = some cs.length) :
    (results fn tmps).run P w = .ok (.agg cs.toArray) w := by
  have hp' : tmps[q]?.getD undef = .pointer (some ⟨b, o, none⟩) := by simpa using hp
  simp [results, h, hp', asAddr, run_loadVar_mid w b o ty cs d hc hu hd hi]

def ints (l : List Int) : List Value := l.map (Value.int .i64)
theorem ints_len (l : List Int) : (ints l).length = l.length := by simp [ints]
theorem ints_one (l : List Int) : (ints l).toArray.all (·.oneCell') = true := by
  rw [Array.all_eq_true_iff_forall_mem]; intro v hv; simp [ints] at hv; obtain ⟨n, _, rfl⟩ := hv; rfl
theorem ints_get (l : List Int) (j : Nat) (h : j < l.length) : (ints l)[j]? = some (.int .i64 (l.getD j 0)) := by simp [ints, h]

theorem below_setCells {B : Nat} {a w : World} (h : Below B a w) {b : Nat} (hb : B ≤ b) : ∀ (vs : List Value) (o : Nat), Below B a (w.setCells b o vs)
  | vs, o => by
    induction vs generalizing w o with
    | nil => exact h
    | cons v r ih => exact ih (h.setCell (p := ⟨b, o, none⟩) hb v) (o + 1)

theorem range_below {B : Nat} {W w1 : World} (hb : Below B W w1) {b o : Nat} {cs : List Value} (h : W.rangeAt b o cs) (hB : b < B) : w1.rangeAt b o cs := fun j v hv => by
  have := h j v hv
  rw [hb.cell (p := ⟨b, o + j, none⟩) hB]; exact this

theorem there_below {B : Nat} {W w1 : World} (hb : Below B W w1) {b o n : Nat} (h : W.there b o n) (hB : b < B) : w1.there b o n := fun j hj => by
  have := h j hj
  rw [hb.cell (p := ⟨b, o + j, none⟩) hB, hb.frozen (p := ⟨b, o + j, none⟩) hB]; exact this

theorem range_lit {w : World} {b : Nat} (C : Array Value) {t : TypeId} {fr : Nat × Nat} (hb : w.heap[b]? = some (.cells C t fr)) : w.rangeAt b 0 C.toList := fun j v hv => by
  rw [cell_of_row w b (0 + j) C t fr hb]; simpa using hv

theorem there_lit {w : World} {b : Nat} (C : Array Value) {t : TypeId} (hb : w.heap[b]? = some (.cells C t (0, 0))) : w.there b 0 C.size := fun j hj => by
  rw [cell_of_row w b (0 + j) C t (0, 0) hb, frozen_of_row w b (0 + j) C t hb]; simp [hj]

theorem heap1_0 (w : World) (A : Obj) : (w.alloc A).heap[w.heap.size]? = some A := heap_alloc_new w A
theorem heap2_0 (w : World) (A B : Obj) : ((w.alloc A).alloc B).heap[w.heap.size]? = some A := by
  rw [heap_alloc_old _ _ (by simp)]; exact heap_alloc_new w A
theorem heap2_1 (w : World) (A B : Obj) : ((w.alloc A).alloc B).heap[w.heap.size + 1]? = some B := by
  have := heap_alloc_new (w.alloc A) B; simpa using this
theorem heap3_0 (w : World) (A B C : Obj) : (((w.alloc A).alloc B).alloc C).heap[w.heap.size]? = some A := by
  rw [heap_alloc_old _ _ (by simp; omega)]; exact heap2_0 w A B
theorem heap3_1 (w : World) (A B C : Obj) : (((w.alloc A).alloc B).alloc C).heap[w.heap.size + 1]? = some B := by
  rw [heap_alloc_old _ _ (by simp)]; exact heap2_1 w A B
theorem heap3_2 (w : World) (A B C : Obj) : (((w.alloc A).alloc B).alloc C).heap[w.heap.size + 1 + 1]? = some C := by
  have := heap_alloc_new ((w.alloc A).alloc B) C; simpa using this

theorem below1 (w : World) (A : Obj) : Below w.heap.size w (w.alloc A) := (Below.refl _ _).alloc (Nat.le_refl _) _
theorem below2 (w : World) (A B : Obj) : Below w.heap.size w ((w.alloc A).alloc B) := (below1 w A).alloc (by simp) _
theorem below3 (w : World) (A B C : Obj) : Below w.heap.size w (((w.alloc A).alloc B).alloc C) := (below2 w A B).alloc (by simp; omega) _

/- The first n cells of a block are known ints and may be written. -/
def Full (n : Nat) (w : World) (b : Nat) (f : Nat → Int) : Prop := ∀ j, j < n → w.cell? ⟨b, j, none⟩ = some (.int .i64 (f j)) ∧ w.frozen? ⟨b, j, none⟩ = false

theorem Full.set {n : Nat} {w : World} {b : Nat} {f : Nat → Int} (h : Full n w b f) (k : Nat) (hk : k < n) (x : Int) (g : Nat → Int) (hg : g k = x) (ho : ∀ j, j < n → j ≠ k → g j = f j) : Full n (w.setCell ⟨b, k, none⟩ (.int .i64 x)) b g := fun j hj => by
  refine ⟨?_, ?_⟩
  · by_cases e : j = k
    · subst e
      rw [World.cell?_setCell_same _ _ _ (h j hj).1, hg]
    · have hne : (⟨b, k, none⟩ : Addr) ≠ ⟨b, j, none⟩ := fun h => e (by injection h with _ h2 _; exact h2.symm)
      rw [World.cell?_setCell_other _ _ _ _ hne, ho j hj e]; exact (h j hj).1
  · have := (h j hj).2
    simp [this]

theorem Full.drew {n : Nat} {w : World} {b : Nat} {f : Nat → Int} (h : Full n w b f) : Full n w.drew b f := h

theorem Full.congr {n : Nat} {w : World} {b : Nat} {f g : Nat → Int} (h : Full n w b f) (e : ∀ j, j < n → g j = f j) : Full n w b g := fun j hj => by rw [e j hj]; exact h j hj

theorem Full.range {n : Nat} {w : World} {b : Nat} {f : Nat → Int} (h : Full n w b f) : w.rangeAt b 0 (ints ((List.range n).map f)) := fun j v hv => by
  by_cases hj : j < n
  · rw [ints_get _ _ (by simpa using hj)] at hv
    simp [hj] at hv
    subst hv
    simpa using (h j hj).1
  · rw [List.getElem?_eq_none (by simp [ints]; omega)] at hv; cases hv

theorem Full.below {n : Nat} {B : Nat} {W w1 : World} (hb : Below B W w1) {b : Nat} {f : Nat → Int} (h : Full n W b f) (hB : b < B) : Full n w1 b f := fun j hj => by
  rw [hb.cell (p := ⟨b, j, none⟩) hB, hb.frozen (p := ⟨b, j, none⟩) hB]; exact h j hj

end Go.Proofs.YtbeamigbcfkjjaaGreatDoor.Aid

/- Lists of words and of ints in memory: copied, held against each other, marked. Conditions: at most 1,000,000,000 elements. -/
namespace Go.Proofs.YtbeamigbcfkjjaaGreatDoor.Lst
open Go.ChangeShapes Go.WideShapes Go.ChangeAt Go.RowKit
open Go.Proofs.YtbeamigbcfkjjaaGreatDoor.Aid

/- The first n cells of a block are the numbers f and may be written. -/
def Fk (k : IntKind) (n : Nat) (w : World) (b : Nat) (f : Nat → Int) : Prop := ∀ j, j < n → w.cell? ⟨b, j, none⟩ = some (.int k (f j)) ∧ w.frozen? ⟨b, j, none⟩ = false

/- A slice that leads to the numbers f. -/
def Sl (k : IntKind) (w : World) (a : Option Addr) (n : Nat) (f : Nat → Int) : Prop := n = 0 ∨ ∃ b off, a = some ⟨b, off, none⟩ ∧ ∀ j, j < n → w.cell? ⟨b, off + j, none⟩ = some (.int k (f j))

theorem Fk.set {k : IntKind} {n : Nat} {w : World} {b : Nat} {f : Nat → Int} (h : Fk k n w b f) (i : Nat) (x : Int) (g : Nat → Int) (hg : g i = x) (ho : ∀ j, j < n → j ≠ i → g j = f j) : Fk k n (w.setCell ⟨b, i, none⟩ (.int k x)) b g := fun j hj => by
  refine ⟨?_, ?_⟩
  · by_cases e : j = i
    · subst e
      rw [World.cell?_setCell_same _ _ _ (h j hj).1, hg]
    · have hne : (⟨b, i, none⟩ : Addr) ≠ ⟨b, j, none⟩ := fun h => e (by injection h with _ h2 _; exact h2.symm)
      rw [World.cell?_setCell_other _ _ _ _ hne, ho j hj e]; exact (h j hj).1
  · have := (h j hj).2
    simp [this]

theorem Fk.far {k : IntKind} {n : Nat} {w : World} {b : Nat} {f : Nat → Int} (h : Fk k n w b f) (p : Addr) (hp : p.block ≠ b) (x : Value) : Fk k n (w.setCell p x) b f := fun j hj => by
  refine ⟨?_, ?_⟩
  · rw [World.cell?_setCell_far _ _ _ _ hp]; exact (h j hj).1
  · have := (h j hj).2
    simp [this]

theorem Fk.drew {k : IntKind} {n : Nat} {w : World} {b : Nat} {f : Nat → Int} (h : Fk k n w b f) : Fk k n w.drew b f := h
theorem Fk.drewN {k : IntKind} {n : Nat} {w : World} {b : Nat} {f : Nat → Int} (h : Fk k n w b f) (q : Nat) : Fk k n (w.drewN q) b f := h
theorem Fk.congr {k : IntKind} {n : Nat} {w : World} {b : Nat} {f g : Nat → Int} (h : Fk k n w b f) (e : ∀ j, j < n → g j = f j) : Fk k n w b g := fun j hj => by rw [e j hj]; exact h j hj
theorem Fk.sl {k : IntKind} {n : Nat} {w : World} {b : Nat} {f : Nat → Int} (h : Fk k n w b f) : Sl k w (some ⟨b, 0, none⟩) n f := .inr ⟨b, 0, rfl, fun j hj => by simpa using (h j hj).1⟩

theorem Fk.below {k : IntKind} {n B : Nat} {W w1 : World} (hb : Below B W w1) {b : Nat} {f : Nat → Int} (h : Fk k n W b f) (hB : b < B) : Fk k n w1 b f := fun j hj => by
  rw [hb.cell (p := ⟨b, j, none⟩) hB, hb.frozen (p := ⟨b, j, none⟩) hB]; exact h j hj

theorem Fk.later {k : IntKind} {n : Nat} {W w1 : World} {b : Nat} {f : Nat → Int} (h : Fk k n W b f) (hb : Below W.heap.size W w1) : Fk k n w1 b f := fun j hj => by
  have hlt := World.block_lt_of_cell? W _ (h j hj).1
  rw [hb.cell (p := ⟨b, j, none⟩) hlt, hb.frozen (p := ⟨b, j, none⟩) hlt]; exact h j hj

theorem Fk.alloc {k : IntKind} {n : Nat} {w : World} {b : Nat} {f : Nat → Int} (h : Fk k n w b f) (o : Obj) : Fk k n (w.alloc o) b f := h.later (below1 w o)

theorem Sl.later {k : IntKind} {W w1 : World} {a : Option Addr} {n : Nat} {f : Nat → Int} (h : Sl k W a n f) (hb : Below W.heap.size W w1) : Sl k w1 a n f := by
  rcases h with h | ⟨b, off, e, h⟩
  · exact .inl h
  · exact .inr ⟨b, off, e, fun j hj => by
      have := h j hj
      rw [hb.cell (p := ⟨b, off + j, none⟩) (World.block_lt_of_cell? W _ this)]; exact this⟩

theorem Sl.congr {k : IntKind} {w : World} {a : Option Addr} {n : Nat} {f g : Nat → Int} (h : Sl k w a n f) (e : ∀ j, j < n → g j = f j) : Sl k w a n g := by
  rcases h with h | ⟨b, off, ea, h⟩
  · exact .inl h
  · exact .inr ⟨b, off, ea, fun j hj => by rw [e j hj]; exact h j hj⟩

theorem Sl.drewN {k : IntKind} {w : World} {a : Option Addr} {n : Nat} {f : Nat → Int} (h : Sl k w a n f) (q : Nat) : Sl k (w.drewN q) a n f := h

/- Only block b has turned, and nothing was made. -/
structure But (b : Nat) (w w' : World) : Prop where
  os : w'.os = w.os
  tape : w'.tape = w.tape
  output : w'.output = w.output
  size : w'.heap.size = w.heap.size
  block : ∀ i, i ≠ b → w'.heap[i]? = w.heap[i]?

theorem But.refl (b : Nat) (w : World) : But b w w := ⟨rfl, rfl, rfl, rfl, fun _ _ => rfl⟩
theorem But.setCell {b : Nat} {w w' : World} (h : But b w w') (o : Nat) (x : Value) : But b w (w'.setCell ⟨b, o, none⟩ x) :=
  ⟨h.os, h.tape, h.output, by rw [← h.size]; simp [World.setCell], fun i hi => (Below.heap_setCell w' ⟨b, o, none⟩ x i hi).trans (h.block i hi)⟩
theorem But.drewN {b : Nat} {w w' : World} (h : But b w w') (q : Nat) : But b w (w'.drewN q) := ⟨h.os, h.tape, h.output, h.size, h.block⟩
theorem But.below {b B : Nat} {w w' : World} (h : But b w w') (hB : B ≤ b) : Below B w w' := ⟨h.os, h.tape, h.output, Nat.le_of_eq h.size.symm, fun k hk => h.block k (by omega)⟩
theorem But.fk {k : IntKind} {n b c : Nat} {w w' : World} {f : Nat → Int} (h : But b w w') (hc : c ≠ b) (hf : Fk k n w c f) : Fk k n w' c f := fun j hj => by
  rw [show w'.cell? ⟨c, j, none⟩ = w.cell? ⟨c, j, none⟩ from World.cell?_of_block (w := w) (h.block c hc), show w'.frozen? ⟨c, j, none⟩ = w.frozen? ⟨c, j, none⟩ from World.frozen?_of_block (w := w) (h.block c hc)]; exact hf j hj
theorem But.sl {k : IntKind} {n b : Nat} {w w' : World} {a : Option Addr} {f : Nat → Int} (h : But b w w') (hc : ∀ x, a = some x → x.block ≠ b) (hf : Sl k w a n f) : Sl k w' a n f := by
  rcases hf with hf | ⟨c, off, e, hf⟩
  · exact .inl hf
  · exact .inr ⟨c, off, e, fun j hj => by
      rw [show w'.cell? ⟨c, off + j, none⟩ = w.cell? ⟨c, off + j, none⟩ from World.cell?_of_block (w := w) (h.block c (hc _ e))]; exact hf j hj⟩

theorem made_get (z : Value) (n j : Nat) (h : j < n) : (madeCells #[z] n)[j]? = some z := by
  unfold madeCells
  rw [Array.getElem?_map, Array.getElem?_range]
  simp [h, Nat.mod_one]

theorem fk_made (k : IntKind) (w : World) (n : Nat) (t : TypeId) : Fk k n (w.alloc (.cells (madeCells #[.int k 0] n) t)) w.heap.size (fun _ => 0) := fun j hj => by
  rw [cell_of_row _ _ j _ _ _ (heap1_0 w _), frozen_of_row _ _ j _ _ (heap1_0 w _)]; exact ⟨made_get _ _ _ hj, rfl⟩

/- What a row that came in is. -/
theorem sl_of {k : IntKind} {w : World} {a : Option Addr} {len cap : Nat} {zs : List Int} (h : (a = none ∧ len = 0 ∧ cap = 0 ∧ zs = []) ∨
    ∃ x, a = some x ∧ len ≤ cap ∧ cap ≤ maxLen ∧ zs.length = cap ∧ (∀ i, i < zs.length → w.cell? (x.add i) = some (.int k (zs.getD i 0))) ∧ ∀ n ∈ zs, (Lit.int k n).wf = true) :
    Sl k w a len (fun j => zs.getD j 0) ∧ len ≤ maxLen ∧ ∀ j, (Lit.int k (zs.getD j 0)).wf = true := by
  rcases h with ⟨rfl, rfl, rfl, rfl⟩ | ⟨x, rfl, hl, hm, hz, hc, hw⟩
  · exact ⟨.inl rfl, Nat.zero_le _, fun j => by cases k <;> rfl⟩
  · refine ⟨?_, Nat.le_trans hl hm, fun j => ?_⟩
    · by_cases h0 : len = 0
      · exact .inl h0
      · obtain ⟨b, off, spot⟩ := x
        have h1 := hc 0 (by omega)
        have hspot : spot = none := by simpa [Addr.add] using World.cell?_spot h1
        subst hspot
        exact .inr ⟨b, off, rfl, fun i hi => by have := hc i (by omega); simp only [Addr.add] at this; split at this <;> simp_all⟩
    · by_cases hj : j < zs.length
      · exact hw _ (by simp [hj])
      · rw [List.getD_eq_getElem?_getD, List.getElem?_eq_none (by omega)]; cases k <;> rfl

theorem infoInt : (Tryz.prog.info? 3).map (fun i => (i.zero, i.size, i.bytes)) = some (some (.int .i64 0), 1, 8) := by kernel_rfl

set_option maxHeartbeats 1000000 in
theorem toInt_any (a : Option Addr) (n cap : Nat) (f : Nat → Int) (w : World) (h : Sl .i64 w a n f) (hn : n ≤ 1000000000) :
    Calls Tryz.prog 21 #[.slice a n cap] w fun e w' => e = .returned (.slice (some ⟨w.heap.size, 0, none⟩) n n) ∧ Fk .i64 n w' w.heap.size f ∧ Below w.heap.size w w' ∧ w.heap.size < w'.heap.size := by
  have hmk := fun w => run_make_row' (P := Tryz.prog) 22 3 (.int .i64 0) 8 Tryz.underlying22 infoInt rfl .i64 .i64 n (by omega) (by omega) w
  have f0 := fk_made .i64 w n 3
  have hb0 := below1 w (.cells (madeCells #[.int .i64 0] n) 3)
  have hz0 : w.heap.size < (w.alloc (.cells (madeCells #[.int .i64 0] n) 3)).heap.size := by simp
  go_enter Tryz.func21, Tryz.ntmps21
  go_wp2_with (fail)
  generalize w.alloc (.cells (madeCells #[.int .i64 0] n) 3) = W at f0 hb0 hz0 ⊢
  clear hmk
  go_loopw [4] (fun i wr => ∃ k : Nat, k ≤ n ∧ i = .int .i64 k ∧ Fk .i64 n wr w.heap.size (fun j => if j < k then f j else 0) ∧ Below w.heap.size w wr ∧ w.heap.size < wr.heap.size) (fun i _ => n - (intOf i).toNat)
  case atStart => exact ⟨0, by omega, rfl, f0.congr (fun j _ => by simp), hb0, hz0⟩
  case round =>
    obtain ⟨k, hk, rfl, hf, hb, hz⟩ := hrel
    clear f0 hb0 hz0
    by_cases hlt : (k : Int) < n
    · rcases h with h | ⟨b, off, rfl, h⟩
      · omega
      have g := hf k (by omega)
      have hs := h k (by omega)
      have c := (hb.cell (p := ⟨b, off + k, none⟩) (World.block_lt_of_cell? w _ hs)).trans hs
      have hfH : Hid (Fk .i64 n wr w.heap.size (fun j => if j < k then f j else 0)) := hf
      clear h hs hf
      go_wp2_with (fail)
      go_roundw
      case rel =>
        refine ⟨k + 1, by omega, by go_num, hfH.out.set k (f k) _ (by simp) (fun j hj hne => ?_), hb.setCell (Nat.le_refl _) _, by simpa [World.setCell] using hz⟩
        by_cases e : j < k
        · rw [if_pos (by omega), if_pos e]
        · rw [if_neg (by omega), if_neg e]
      case measure => simp [intOf]; omega
    · have e : k = n := by omega
      subst e
      go_wp2_with (fail)
      go_ret
      exact ⟨rfl, hf.congr (fun j hj => by rw [if_pos hj]), hb, hz⟩

set_option maxHeartbeats 1000000 in
theorem eqInt_any (a b : Option Addr) (n c d : Nat) (f g : Nat → Int) (w : World) (h : Sl .i64 w a n f) (h' : Sl .i64 w b n g) (hfg : ∀ j, j < n → f j = g j) (hn : n ≤ 1000000000) :
    Calls Tryz.prog 27 #[.slice a n c, .slice b n d] w fun e w' => e = .returned (.bool true) ∧ ∃ q, w' = w.drewN q := by
  go_enter Tryz.func27, Tryz.ntmps27
  go_wp2_with (fail)
  go_loopw [5] (fun i wr => ∃ k : Nat, k ≤ n ∧ i = .int .i64 k ∧ ∃ q, wr = w.drewN q) (fun i _ => n - (intOf i).toNat)
  case atStart => exact ⟨0, by omega, rfl, 0, rfl⟩
  case round =>
    obtain ⟨k, hk, rfl, q, rfl⟩ := hrel
    by_cases hlt : (k : Int) < n
    · rcases h with h | ⟨b1, o1, rfl, h⟩
      · omega
      rcases h' with h' | ⟨b2, o2, rfl, h'⟩
      · omega
      have e := hfg k (by omega)
      have c1 : (w.drewN q).cell? ⟨b1, o1 + k, none⟩ = some (.int .i64 (g k)) := by rw [← e]; exact h k (by omega)
      have c2 : (w.drewN q).cell? ⟨b2, o2 + k, none⟩ = some (.int .i64 (g k)) := h' k (by omega)
      generalize hW : w.drewN q = W at c1 c2 ⊢
      have HW : Hid (w.drewN q = W) := hW
      clear h h' hfg e hW
      go_wp2_with (fail)
      go_quiet (fail)
      go_wp2_with (fail)
      go_roundw
      case rel => exact ⟨k + 1, by omega, by go_num, q + nq, by rw [← HW.out]; exact World.drewN_drewN _ _ _⟩
      case measure => simp [intOf]; omega
    · go_wp2_with (fail)
      go_ret
      exact ⟨rfl, q, rfl⟩

set_option maxHeartbeats 1000000 in
theorem markInt_any (b n cap : Nat) (f : Nat → Int) (k0 : Int) (w : World) (h : Fk .i64 n w b f) (hn : n ≤ 1000000000) (h0 : 0 ≤ k0) (h1 : k0 ≤ 1000000000000000) :
    Calls Tryz.prog 30 #[.slice (some ⟨b, 0, none⟩) n cap, .int .i64 k0] w fun e w' => e = .returned (.int .i64 (k0 + n)) ∧ Fk .i64 n w' b (fun j => k0 + j) ∧ But b w w' := by
  go_enter Tryz.func30, Tryz.ntmps30
  go_wp2_with (fail)
  go_loopw [1, 5] (fun kk i wr => ∃ k : Nat, k ≤ n ∧ i = .int .i64 k ∧ kk = .int .i64 (k0 + k) ∧ Fk .i64 n wr b (fun j => if j < k then k0 + j else f j) ∧ But b w wr) (fun _ i _ => n - (intOf i).toNat)
  case atStart => exact ⟨0, by omega, rfl, by simp, h.congr (fun j _ => by simp), But.refl _ _⟩
  case round =>
    obtain ⟨k, hk, rfl, rfl, hf, hb⟩ := hrel
    clear h
    by_cases hlt : (k : Int) < n
    · have g := hf k (by omega)
      have hfH : Hid (Fk .i64 n wr b (fun j => if j < k then k0 + j else f j)) := hf
      clear hf
      go_wp2_with (fail)
      go_roundw
      case rel =>
        refine ⟨k + 1, by omega, by go_num, by go_num, hfH.out.set k (k0 + k) _ (by simp) (fun j hj hne => ?_), hb.setCell _ _⟩
        by_cases e : j < k
        · rw [if_pos (by omega), if_pos e]
        · rw [if_neg (by omega), if_neg e]
      case measure => simp [intOf]; omega
    · have e : k = n := by omega
      subst e
      go_wp2_with (fail)
      go_ret
      exact ⟨rfl, hf.congr (fun j hj => by rw [if_pos hj]), hb⟩

theorem markInt_none (a : Option Addr) (cap : Nat) (k0 : Int) (w : World) :
    Calls Tryz.prog 30 #[.slice a 0 cap, .int .i64 k0] w fun e w' => e = .returned (.int .i64 k0) ∧ w' = w := by
  go_enter Tryz.func30, Tryz.ntmps30
  go_wp2_with (fail)
  refine wp_loop_rounds 1 ?_
  rw [rounds_succ]
  go_wp2_with (fail)
  go_ret
  exact ⟨rfl, rfl⟩

set_option maxHeartbeats 1000000 in
theorem heldInt_any (a : Option Addr) (n cap : Nat) (k0 : Int) (w : World) (h : Sl .i64 w a n (fun j => k0 + j)) (hn : n ≤ 1000000000) (h0 : 0 ≤ k0) (h1 : k0 ≤ 1000000000000000) :
    Calls Tryz.prog 32 #[.slice a n cap, .int .i64 k0] w fun e w' => e = .returned (.int .i64 (k0 + n)) ∧ w' = w := by
  go_enter Tryz.func32, Tryz.ntmps32
  go_wp2_with (fail)
  go_loop [1, 5] (fun kk i => ∃ k : Nat, k ≤ n ∧ i = .int .i64 k ∧ kk = .int .i64 (k0 + k)) (fun _ i => n - (intOf i).toNat)
  case atStart => exact ⟨0, by omega, rfl, by simp⟩
  case round =>
    obtain ⟨k, hk, rfl, rfl⟩ := hrel
    by_cases hlt : (k : Int) < n
    · rcases h with h | ⟨b1, o1, rfl, h⟩
      · omega
      have c1 := h k (by omega)
      clear h
      go_wp2_with (fail)
      go_round
      case rel => exact ⟨k + 1, by omega, by go_num, by go_num⟩
      case measure => simp [intOf]; omega
    · have e : k = n := by omega
      subst e
      go_wp2_with (fail)
      go_ret
      exact ⟨rfl, rfl⟩

end Go.Proofs.YtbeamigbcfkjjaaGreatDoor.Lst

/- Books in memory: what comes in, measured; copied, held against each other, marked. Conditions: at most 1,048,576 numbers in all where it is said. -/
namespace Go.Proofs.YtbeamigbcfkjjaaGreatDoor.Book
open Go.ChangeShapes Go.WideShapes Go.ChangeAt Go.RowKit
open Go.Proofs.YtbeamigbcfkjjaaGreatDoor.Aid Go.Proofs.YtbeamigbcfkjjaaGreatDoor.Lst

/- A list: where it lies, how long it is, its numbers. -/
structure Sx where
  a : Option Addr
  n : Nat
  c : Nat
  f : Nat → Int

/- A book: a number and eight lists. -/
structure Bx where
  s : Int
  p : Sx
  h0 : Sx
  h1 : Sx
  h2 : Sx
  h3 : Sx
  o : Sx
  i : Sx
  e : Sx

def Sx.At (x : Sx) (w : World) : Prop := Sl .i64 w x.a x.n x.f
theorem Sx.At.later {x : Sx} {w w1 : World} (h : x.At w) (hb : Below w.heap.size w w1) : x.At w1 := Sl.later h hb
theorem Sx.At.drewN {x : Sx} {w : World} (h : x.At w) (q : Nat) : x.At (w.drewN q) := Sl.drewN h q

def Bx.lists (b : Bx) : List Sx := [b.p, b.h0, b.h1, b.h2, b.h3, b.o, b.i, b.e]
def Bx.At (b : Bx) (w : World) : Prop := ∀ x ∈ b.lists, x.At w
theorem Bx.At.later {b : Bx} {w w1 : World} (h : b.At w) (hb : Below w.heap.size w w1) : b.At w1 := fun x hx => (h x hx).later hb
theorem Bx.At.drewN {b : Bx} {w : World} (h : b.At w) (q : Nat) : b.At (w.drewN q) := fun x hx => (h x hx).drewN q
def Bx.cells (b : Bx) : List Value := [.int .i64 b.s, .slice b.p.a b.p.n b.p.c, .slice b.h0.a b.h0.n b.h0.c, .slice b.h1.a b.h1.n b.h1.c, .slice b.h2.a b.h2.n b.h2.c, .slice b.h3.a b.h3.n b.h3.c, .slice b.o.a b.o.n b.o.c, .slice b.i.a b.i.n b.i.c, .slice b.e.a b.e.n b.e.c]

/- What a book is, wherever it lies. -/
structure Bm where
  s : Int
  p : Nat × (Nat → Int)
  h0 : Nat × (Nat → Int)
  h1 : Nat × (Nat → Int)
  h2 : Nat × (Nat → Int)
  h3 : Nat × (Nat → Int)
  o : Nat × (Nat → Int)
  i : Nat × (Nat → Int)
  e : Nat × (Nat → Int)
def Sx.m (x : Sx) : Nat × (Nat → Int) := (x.n, x.f)
def Bx.m (b : Bx) : Bm := ⟨b.s, b.p.m, b.h0.m, b.h1.m, b.h2.m, b.h3.m, b.o.m, b.i.m, b.e.m⟩

/- A list in memory of its own, in blocks from B on, below C. -/
def Sx.Own (x : Sx) (B C : Nat) (w : World) : Prop := x.n = 0 ∨ ∃ k, x.a = some ⟨k, 0, none⟩ ∧ B ≤ k ∧ k < C ∧ Fk .i64 x.n w k x.f
def Apart (x y : Sx) : Prop := x.n = 0 ∨ y.n = 0 ∨ ∃ j k, x.a = some ⟨j, 0, none⟩ ∧ y.a = some ⟨k, 0, none⟩ ∧ j ≠ k
structure Bx.Own (b : Bx) (B C : Nat) (w : World) : Prop where
  each : ∀ x ∈ b.lists, x.Own B C w
  apart : b.lists.Pairwise Apart
  caps : ∀ x ∈ b.lists, x.n ≤ x.c

theorem Sx.Own.at {x : Sx} {B C : Nat} {w : World} (h : x.Own B C w) : x.At w := by
  rcases h with h | ⟨k, e, _, _, h⟩
  · exact .inl h
  · unfold Sx.At; rw [e]; exact h.sl
theorem Bx.Own.at {b : Bx} {B C : Nat} {w : World} (h : b.Own B C w) : b.At w := fun x hx => (h.each x hx).at

/- Only blocks from B on, below C, have turned, of those that were there. -/
structure Only (B C : Nat) (w w' : World) : Prop where
  os : w'.os = w.os
  tape : w'.tape = w.tape
  output : w'.output = w.output
  size : w.heap.size ≤ w'.heap.size
  block : ∀ i, i < w.heap.size → (i < B ∨ C ≤ i) → w'.heap[i]? = w.heap[i]?

theorem Only.cell {B C : Nat} {w w' : World} (h : Only B C w w') {k o : Nat} (hk : k < w.heap.size) (ho : k < B ∨ C ≤ k) : w'.cell? ⟨k, o, none⟩ = w.cell? ⟨k, o, none⟩ := World.cell?_of_block (w := w) (h.block k hk ho)
theorem Only.frozen {B C : Nat} {w w' : World} (h : Only B C w w') {k o : Nat} (hk : k < w.heap.size) (ho : k < B ∨ C ≤ k) : w'.frozen? ⟨k, o, none⟩ = w.frozen? ⟨k, o, none⟩ := World.frozen?_of_block (w := w) (h.block k hk ho)
theorem Only.below {B C : Nat} {w w' : World} (h : Only B C w w') (hB : B ≤ w.heap.size) : Below B w w' := ⟨h.os, h.tape, h.output, h.size, fun k hk => h.block k (by omega) (.inl hk)⟩
theorem Only.of {B C : Nat} {w w' : World} (h : Below w.heap.size w w') : Only B C w w' := ⟨h.os, h.tape, h.output, h.size, fun k hk _ => h.block k hk⟩
theorem Only.trans {B C : Nat} {a w w' : World} (h : Only B C a w) (h' : Only B C w w') : Only B C a w' := ⟨h'.os.trans h.os, h'.tape.trans h.tape, h'.output.trans h.output, Nat.le_trans h.size h'.size, fun k hk ho => (h'.block k (Nat.lt_of_lt_of_le hk h.size) ho).trans (h.block k hk ho)⟩
theorem Only.mono {B C B' C' : Nat} {w w' : World} (h : Only B C w w') (hB : B' ≤ B) (hC : C ≤ C') : Only B' C' w w' := ⟨h.os, h.tape, h.output, h.size, fun k hk ho => h.block k hk (by omega)⟩
theorem Only.but {b : Nat} {w w' : World} (h : But b w w') : Only b (b + 1) w w' := ⟨h.os, h.tape, h.output, Nat.le_of_eq h.size.symm, fun k _ ho => h.block k (by omega)⟩
theorem Only.fk {B C n k : Nat} {w w' : World} {f : Nat → Int} (h : Only B C w w') (ho : k < B ∨ C ≤ k) (hf : Fk .i64 n w k f) : Fk .i64 n w' k f := fun j hj => by
  have hlt := World.block_lt_of_cell? w _ (hf j hj).1
  rw [h.cell hlt ho, h.frozen hlt ho]; exact hf j hj
theorem Sx.Own.only {x : Sx} {B C B' C' : Nat} {w w' : World} (hx : x.Own B C w) (h : Only B' C' w w') (ho : C ≤ B' ∨ C' ≤ B) : x.Own B C w' := by
  rcases hx with hx | ⟨k, e, h1, h2, hx⟩
  · exact .inl hx
  · exact .inr ⟨k, e, h1, h2, h.fk (by omega) hx⟩
theorem Bx.Own.only {b : Bx} {B C B' C' : Nat} {w w' : World} (hx : b.Own B C w) (h : Only B' C' w w') (ho : C ≤ B' ∨ C' ≤ B) : b.Own B C w' := ⟨fun x hi => (hx.each x hi).only h ho, hx.apart, hx.caps⟩
theorem Bx.Own.later {b : Bx} {B C : Nat} {w w' : World} (hx : b.Own B C w) (h : Below w.heap.size w w') : b.Own B C w' := hx.only (Only.of (B := C) (C := C) h) (.inl (Nat.le_refl _))
theorem Bx.Own.drewN {b : Bx} {B C : Nat} {w : World} (hx : b.Own B C w) (q : Nat) : b.Own B C (w.drewN q) := ⟨fun x hi => by
  rcases hx.each x hi with h | ⟨k, e, h1, h2, h⟩
  · exact .inl h
  · exact .inr ⟨k, e, h1, h2, h.drewN q⟩, hx.apart, hx.caps⟩
theorem Bx.Own.mono {b : Bx} {B C B' C' : Nat} {w : World} (hx : b.Own B C w) (hB : B' ≤ B) (hC : C ≤ C') : b.Own B' C' w := ⟨fun x hi => by
  rcases hx.each x hi with h | ⟨k, e, h1, h2, h⟩
  · exact .inl h
  · exact .inr ⟨k, e, by omega, by omega, h⟩, hx.apart, hx.caps⟩

/- Not too long, all of it. -/
def Bx.total (b : Bx) : Nat := b.p.n + b.h0.n + b.h1.n + b.h2.n + b.h3.n + b.o.n + b.i.n + b.e.n

def szM (l n : Int) : Int := if l - n < 0 then -1 else l - n

theorem sz1_any (x : Option Addr) (n c : Nat) (l : Int) (w : World) (hn : (n : Int) ≤ maxLen) (h0 : 0 ≤ l) (h1 : l ≤ 1048576) :
    Calls Tryz.prog 15 #[.slice x n c, .int .i64 l] w fun e w' => e = .returned (.int .i64 (szM l n)) ∧ w' = w := by
  have hm : (maxLen : Int) ≤ 9223372036854775807 := by decide
  by_cases h : l - n < 0
  all_goals
    go_enter Tryz.func15, Tryz.ntmps15
    go_wp2_with (fail)
    go_ret
    exact ⟨by simp only [szM]; first | (rw [if_pos h]; rfl) | (rw [if_neg (by omega)]; rfl), rfl⟩

theorem szM_neg {l n : Int} (h : l < n) : szM l n = -1 := by simp only [szM]; rw [if_pos (by omega)]
theorem szM_pos {l n : Int} (h : ¬ l < n) : szM l n = l - n := by simp only [szM]; rw [if_neg (by omega)]

set_option maxHeartbeats 1000000 in
theorem sz4_any (x0 x1 x2 x3 : Option Addr) (n0 c0 n1 c1 n2 c2 n3 c3 : Nat) (l : Int) (w : World) (hn0 : (n0 : Int) ≤ maxLen) (hn1 : (n1 : Int) ≤ maxLen) (hn2 : (n2 : Int) ≤ maxLen) (hn3 : (n3 : Int) ≤ maxLen) (h0 : 0 ≤ l) (h1 : l ≤ 1048576) :
    Calls Tryz.prog 16 #[.agg #[.slice x0 n0 c0, .slice x1 n1 c1, .slice x2 n2 c2, .slice x3 n3 c3], .int .i64 l] w fun e w' => (∃ r, e = .returned (.int .i64 r) ∧ (0 ≤ r → r + n0 + n1 + n2 + n3 = l) ∧ r ≤ l ∧ -1 ≤ r) ∧ Below w.heap.size w w' := by
  go_enter Tryz.func16, Tryz.ntmps16
  go_wp2_with (fail)
  refine wp_loop_rounds 5 ?_
  rw [rounds_succ]
  go_wp2_with (fail)
  refine (sz1_any _ _ _ _ _ hn0 h0 h1).mono ?_
  rintro e w1 ⟨rfl, rfl⟩
  by_cases e0 : l < n0
  · rw [szM_neg e0]
    go_wp2_with (fail)
    go_ret
    exact ⟨⟨-1, rfl, fun h => by omega, by omega, by omega⟩, below1 _ _⟩
  rw [szM_pos e0]
  go_wp2_with (fail)
  rw [rounds_succ]
  go_wp2_with (fail)
  refine (sz1_any _ _ _ _ _ hn1 (by omega) (by omega)).mono ?_
  rintro e w1 ⟨rfl, rfl⟩
  by_cases e1 : l - n0 < n1
  · rw [szM_neg e1]
    go_wp2_with (fail)
    go_ret
    exact ⟨⟨-1, rfl, fun h => by omega, by omega, by omega⟩, below1 _ _⟩
  rw [szM_pos e1]
  go_wp2_with (fail)
  rw [rounds_succ]
  go_wp2_with (fail)
  refine (sz1_any _ _ _ _ _ hn2 (by omega) (by omega)).mono ?_
  rintro e w1 ⟨rfl, rfl⟩
  by_cases e2 : l - n0 - n1 < n2
  · rw [szM_neg e2]
    go_wp2_with (fail)
    go_ret
    exact ⟨⟨-1, rfl, fun h => by omega, by omega, by omega⟩, below1 _ _⟩
  rw [szM_pos e2]
  go_wp2_with (fail)
  rw [rounds_succ]
  go_wp2_with (fail)
  refine (sz1_any _ _ _ _ _ hn3 (by omega) (by omega)).mono ?_
  rintro e w1 ⟨rfl, rfl⟩
  by_cases e3 : l - n0 - n1 - n2 < n3
  · rw [szM_neg e3]
    go_wp2_with (fail)
    go_ret
    exact ⟨⟨-1, rfl, fun h => by omega, by omega, by omega⟩, below1 _ _⟩
  rw [szM_pos e3]
  go_wp2_with (fail)
  rw [rounds_succ]
  go_wp2_with (fail)
  go_ret
  exact ⟨⟨_, rfl, fun h => by omega, by omega, by omega⟩, below1 _ _⟩

set_option maxHeartbeats 2000000 in
theorem sz_any (b : Bx) (l : Int) (w : World) (hn : ∀ x ∈ b.lists, (x.n : Int) ≤ maxLen) (h0 : 0 ≤ l) (h1 : l ≤ 1048576) :
    Calls Tryz.prog 4 #[.agg b.cells.toArray, .int .i64 l] w fun e w' => (∃ r, e = .returned (.int .i64 r) ∧ (0 ≤ r → r + b.total = l) ∧ r ≤ l ∧ -1 ≤ r) ∧ Below w.heap.size w w' := by
  obtain ⟨bs, ⟨pa, pn, pc, pf⟩, ⟨a0, n0, c0, f0⟩, ⟨a1, n1, c1, f1⟩, ⟨a2, n2, c2, f2⟩, ⟨a3, n3, c3, f3⟩, ⟨oa, on, oc, of⟩, ⟨ia, in_, ic, if_⟩, ⟨ea, en, ec, ef⟩⟩ := b
  simp only [Bx.lists, List.forall_mem_cons, List.not_mem_nil, false_implies, implies_true, and_true] at hn
  obtain ⟨hp, hh0, hh1, hh2, hh3, ho, hi, he⟩ := hn
  simp only [Bx.cells, Bx.total]
  go_enter Tryz.func4, Tryz.ntmps4
  go_wp2_with (fail)
  refine (sz1_any _ _ _ _ _ hp h0 h1).mono ?_
  rintro e w1 ⟨rfl, rfl⟩
  by_cases e0 : l < pn
  · rw [szM_neg e0]
    go_wp2_with (fail)
    go_ret
    exact ⟨⟨-1, rfl, fun h => by omega, by omega, by omega⟩, below1 _ _⟩
  rw [szM_pos e0]
  go_wp2_with (fail)
  refine (sz4_any _ _ _ _ _ _ _ _ _ _ _ _ _ _ hh0 hh1 hh2 hh3 (by omega) (by omega)).mono ?_
  rintro e w2 ⟨⟨r, rfl, hr, hr1, hr2⟩, hb⟩
  have B2 : Below w.heap.size w w2 := (below1 _ _).trans (hb.mono (by simp))
  have R : w2.rangeAt w.heap.size 0 [.int .i64 bs, .slice pa pn pc, .slice a0 n0 c0, .slice a1 n1 c1, .slice a2 n2 c2, .slice a3 n3 c3, .slice oa on oc, .slice ia in_ ic, .slice ea en ec] := range_below hb (range_lit #[.int .i64 bs, .slice pa pn pc, .slice a0 n0 c0, .slice a1 n1 c1, .slice a2 n2 c2, .slice a3 n3 c3, .slice oa on oc, .slice ia in_ ic, .slice ea en ec] (heap1_0 _ _)) (by simp)
  have q6 : w2.cell? ⟨w.heap.size, 6, none⟩ = some (.slice oa on oc) := R 6 _ rfl
  have q7 : w2.cell? ⟨w.heap.size, 7, none⟩ = some (.slice ia in_ ic) := R 7 _ rfl
  have q8 : w2.cell? ⟨w.heap.size, 8, none⟩ = some (.slice ea en ec) := R 8 _ rfl
  clear hb R
  by_cases g0 : r < 0
  · go_wp2_with (fail)
    go_ret
    exact ⟨⟨-1, rfl, fun h => by omega, by omega, by omega⟩, B2⟩
  have hr := hr (by omega)
  go_wp2_with (fail)
  refine (sz1_any _ _ _ _ _ ho (by omega) (by omega)).mono ?_
  rintro e w3 ⟨rfl, rfl⟩
  by_cases e1 : r < on
  · rw [szM_neg e1]
    go_wp2_with (fail)
    go_ret
    exact ⟨⟨-1, rfl, fun h => by omega, by omega, by omega⟩, B2⟩
  rw [szM_pos e1]
  go_wp2_with (fail)
  refine (sz1_any _ _ _ _ _ hi (by omega) (by omega)).mono ?_
  rintro e w3 ⟨rfl, rfl⟩
  by_cases e2 : r - on < in_
  · rw [szM_neg e2]
    go_wp2_with (fail)
    go_ret
    exact ⟨⟨-1, rfl, fun h => by omega, by omega, by omega⟩, B2⟩
  rw [szM_pos e2]
  go_wp2_with (fail)
  refine (sz1_any _ _ _ _ _ he (by omega) (by omega)).mono ?_
  rintro e w3 ⟨rfl, rfl⟩
  by_cases e3 : r - on - in_ < en
  · rw [szM_neg e3]
    go_wp2_with (fail)
    go_ret
    exact ⟨⟨-1, rfl, fun h => by omega, by omega, by omega⟩, B2⟩
  rw [szM_pos e3]
  go_wp2_with (fail)
  go_ret
  exact ⟨⟨_, rfl, fun h => by omega, by omega, by omega⟩, B2⟩

end Go.Proofs.YtbeamigbcfkjjaaGreatDoor.Book

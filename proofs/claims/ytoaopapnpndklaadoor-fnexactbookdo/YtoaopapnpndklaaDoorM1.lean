import Derived.Test.YtoaopapnpndklaaDoorRows
import Derived.WalkKit
import Derived.ProofKit
import Derived.OpenShut
import Derived.Below
import Derived.BigQuiet
import Derived.BigRegion
import Derived.Deep.QuietTactic
import Derived.Deep.RegionWith
import Derived.Deep.RegionHeld
import Derived.Deep.MidRow
import Derived.Deep.OwnRows

/- Aids, over no program: ranges of cells, rows of ints, what lies in new blocks. -/
namespace Go.Proofs.YtoaopapnpndklaaDoor.Aid
open Go.ChangeShapes Go.WideShapes Go.ChangeAt Go.RowKit

theorem bcell {W w1 : World} (hb : Below W.heap.size W w1) : (∀ b o, b < W.heap.size → w1.cell? ⟨b, o, none⟩ = W.cell? ⟨b, o, none⟩) ∧ (∀ b o, b < W.heap.size → w1.frozen? ⟨b, o, none⟩ = W.frozen? ⟨b, o, none⟩) :=
  ⟨fun b o h => hb.cell (p := ⟨b, o, none⟩) h, fun b o h => hb.frozen (p := ⟨b, o, none⟩) h⟩

theorem ret_bool {a b : Bool} (h : a = b) : Ending.returned (.bool a) = .returned (.bool b) := by rw [h]

/- A struct that is handed back out of memory, whatever its cells. -/
theorem results_cell_mid {P : Program} {fn : Func} {q : Tmp} {ty : TypeId} (h : fn.results = #[.cell q ty]) (tmps : Array Value) (w : World) (b o : Nat) (cs : List Value) (d : TypeDesc)
    (hp : tmps.getD q undef = .pointer (some ⟨b, o, none⟩)) (hc : w.rangeAt b o cs) (hu : P.underlying ty = some d) (hd : d.isRow = true) (hi : (P.info? ty).map (·.size) = some cs.length) :
    (results fn tmps).run P w = .ok (.agg cs.toArray) w := by
  have hp' : tmps[q]?.getD undef = .pointer (some ⟨b, o, none⟩) := by simpa using hp
  simp [results, h, hp', asAddr, run_loadVar_mid w b o ty cs d hc hu hd hi]

def ints (l : List Int) : List Value := l.map (Value.int .i64)
theorem ints_len (l : List Int) : (ints l).length = l.length := by simp [ints]
theorem ints_one (l : List Int) : (ints l).toArray.all (·.oneCell') = true := by
  rw [Array.all_eq_true_iff_forall_mem]; intro v hv; simp [ints] at hv; obtain ⟨n, _, rfl⟩ := hv; rfl
theorem ints_get (l : List Int) (j : Nat) (h : j < l.length) : (ints l)[j]? = some (.int .i64 (l.getD j 0)) := by simp [ints, h]

theorem below_setCells {B : Nat} {a w : World} (h : Below B a w) {b : Nat} (hb : B ≤ b) : ∀ (vs : List Value) (o : Nat), Below B a (w.setCells b o vs)
  | vs, o => by
    induction vs generalizing w o with
    | nil => exact h
    | cons v r ih => exact ih (h.setCell (p := ⟨b, o, none⟩) hb v) (o + 1)

theorem range_below {B : Nat} {W w1 : World} (hb : Below B W w1) {b o : Nat} {cs : List Value} (h : W.rangeAt b o cs) (hB : b < B) : w1.rangeAt b o cs := fun j v hv => by
  have := h j v hv
  rw [hb.cell (p := ⟨b, o + j, none⟩) hB]; exact this

theorem there_below {B : Nat} {W w1 : World} (hb : Below B W w1) {b o n : Nat} (h : W.there b o n) (hB : b < B) : w1.there b o n := fun j hj => by
  have := h j hj
  rw [hb.cell (p := ⟨b, o + j, none⟩) hB, hb.frozen (p := ⟨b, o + j, none⟩) hB]; exact this

theorem range_lit {w : World} {b : Nat} (C : Array Value) {t : TypeId} {fr : Nat × Nat} (hb : w.heap[b]? = some (.cells C t fr)) : w.rangeAt b 0 C.toList := fun j v hv => by
  rw [cell_of_row w b (0 + j) C t fr hb]; simpa using hv

theorem there_lit {w : World} {b : Nat} (C : Array Value) {t : TypeId} (hb : w.heap[b]? = some (.cells C t (0, 0))) : w.there b 0 C.size := fun j hj => by
  rw [cell_of_row w b (0 + j) C t (0, 0) hb, frozen_of_row w b (0 + j) C t hb]; simp [hj]

theorem heap1_0 (w : World) (A : Obj) : (w.alloc A).heap[w.heap.size]? = some A := heap_alloc_new w A
theorem heap2_0 (w : World) (A B : Obj) : ((w.alloc A).alloc B).heap[w.heap.size]? = some A := by
  rw [heap_alloc_old _ _ (by simp)]; exact heap_alloc_new w A
theorem heap2_1 (w : World) (A B : Obj) : ((w.alloc A).alloc B).heap[w.heap.size + 1]? = some B := by
  have := heap_alloc_new (w.alloc A) B; simpa using this
theorem heap3_0 (w : World) (A B C : Obj) : (((w.alloc A).alloc B).alloc C).heap[w.heap.size]? = some A := by
  rw [heap_alloc_old _ _ (by simp; omega)]; exact heap2_0 w A B
theorem heap3_1 (w : World) (A B C : Obj) : (((w.alloc A).alloc B).alloc C).heap[w.heap.size + 1]? = some B := by
  rw [heap_alloc_old _ _ (by simp)]; exact heap2_1 w A B
theorem heap3_2 (w : World) (A B C : Obj) : (((w.alloc A).alloc B).alloc C).heap[w.heap.size + 1 + 1]? = some C := by
  have := heap_alloc_new ((w.alloc A).alloc B) C; simpa using this

theorem below1 (w : World) (A : Obj) : Below w.heap.size w (w.alloc A) := (Below.refl _ _).alloc (Nat.le_refl _) _
theorem below2 (w : World) (A B : Obj) : Below w.heap.size w ((w.alloc A).alloc B) := (below1 w A).alloc (by simp) _
theorem below3 (w : World) (A B C : Obj) : Below w.heap.size w (((w.alloc A).alloc B).alloc C) := (below2 w A B).alloc (by simp; omega) _

/- The first n cells of a block are known ints and may be written. -/
def Full (n : Nat) (w : World) (b : Nat) (f : Nat → Int) : Prop := ∀ j, j < n → w.cell? ⟨b, j, none⟩ = some (.int .i64 (f j)) ∧ w.frozen? ⟨b, j, none⟩ = false

theorem Full.set {n : Nat} {w : World} {b : Nat} {f : Nat → Int} (h : Full n w b f) (k : Nat) (hk : k < n) (x : Int) (g : Nat → Int) (hg : g k = x) (ho : ∀ j, j < n → j ≠ k → g j = f j) : Full n (w.setCell ⟨b, k, none⟩ (.int .i64 x)) b g := fun j hj => by
  refine ⟨?_, ?_⟩
  · by_cases e : j = k
    · subst e
      rw [World.cell?_setCell_same _ _ _ (h j hj).1, hg]
    · have hne : (⟨b, k, none⟩ : Addr) ≠ ⟨b, j, none⟩ := fun h => e (by injection h with _ h2 _; exact h2.symm)
      rw [World.cell?_setCell_other _ _ _ _ hne, ho j hj e]; exact (h j hj).1
  · have := (h j hj).2
    simp [this]

theorem Full.drew {n : Nat} {w : World} {b : Nat} {f : Nat → Int} (h : Full n w b f) : Full n w.drew b f := h

theorem Full.congr {n : Nat} {w : World} {b : Nat} {f g : Nat → Int} (h : Full n w b f) (e : ∀ j, j < n → g j = f j) : Full n w b g := fun j hj => by rw [e j hj]; exact h j hj

theorem Full.range {n : Nat} {w : World} {b : Nat} {f : Nat → Int} (h : Full n w b f) : w.rangeAt b 0 (ints ((List.range n).map f)) := fun j v hv => by
  by_cases hj : j < n
  · rw [ints_get _ _ (by simpa using hj)] at hv
    simp [hj] at hv
    subst hv
    simpa using (h j hj).1
  · rw [List.getElem?_eq_none (by simp [ints]; omega)] at hv; cases hv

theorem Full.below {n : Nat} {B : Nat} {W w1 : World} (hb : Below B W w1) {b : Nat} {f : Nat → Int} (h : Full n W b f) (hB : b < B) : Full n w1 b f := fun j hj => by
  rw [hb.cell (p := ⟨b, j, none⟩) hB, hb.frozen (p := ⟨b, j, none⟩) hB]; exact h j hj

end Go.Proofs.YtoaopapnpndklaaDoor.Aid

/- Lists of words and of ints in memory: copied, held against each other, marked. Conditions: at most 1,000,000,000 elements. -/
namespace Go.Proofs.YtoaopapnpndklaaDoor.Lst
open Go.ChangeShapes Go.WideShapes Go.ChangeAt Go.RowKit
open Go.Proofs.YtoaopapnpndklaaDoor.Aid

/- The first n cells of a block are the numbers f and may be written. -/
def Fk (k : IntKind) (n : Nat) (w : World) (b : Nat) (f : Nat → Int) : Prop := ∀ j, j < n → w.cell? ⟨b, j, none⟩ = some (.int k (f j)) ∧ w.frozen? ⟨b, j, none⟩ = false

/- A slice that leads to the numbers f. -/
def Sl (k : IntKind) (w : World) (a : Option Addr) (n : Nat) (f : Nat → Int) : Prop := n = 0 ∨ ∃ b off, a = some ⟨b, off, none⟩ ∧ ∀ j, j < n → w.cell? ⟨b, off + j, none⟩ = some (.int k (f j))

theorem Fk.set {k : IntKind} {n : Nat} {w : World} {b : Nat} {f : Nat → Int} (h : Fk k n w b f) (i : Nat) (x : Int) (g : Nat → Int) (hg : g i = x) (ho : ∀ j, j < n → j ≠ i → g j = f j) : Fk k n (w.setCell ⟨b, i, none⟩ (.int k x)) b g := fun j hj => by
  refine ⟨?_, ?_⟩
  · by_cases e : j = i
    · subst e
      rw [World.cell?_setCell_same _ _ _ (h j hj).1, hg]
    · have hne : (⟨b, i, none⟩ : Addr) ≠ ⟨b, j, none⟩ := fun h => e (by injection h with _ h2 _; exact h2.symm)
      rw [World.cell?_setCell_other _ _ _ _ hne, ho j hj e]; exact (h j hj).1
  · have := (h j hj).2
    simp [this]

theorem Fk.far {k : IntKind} {n : Nat} {w : World} {b : Nat} {f : Nat → Int} (h : Fk k n w b f) (p : Addr) (hp : p.block ≠ b) (x : Value) : Fk k n (w.setCell p x) b f := fun j hj => by
  refine ⟨?_, ?_⟩
  · rw [World.cell?_setCell_far _ _ _ _ hp]; exact (h j hj).1
  · have := (h j hj).2
    simp [this]

theorem Fk.drew {k : IntKind} {n : Nat} {w : World} {b : Nat} {f : Nat → Int} (h : Fk k n w b f) : Fk k n w.drew b f := h
theorem Fk.drewN {k : IntKind} {n : Nat} {w : World} {b : Nat} {f : Nat → Int} (h : Fk k n w b f) (q : Nat) : Fk k n (w.drewN q) b f := h
theorem Fk.congr {k : IntKind} {n : Nat} {w : World} {b : Nat} {f g : Nat → Int} (h : Fk k n w b f) (e : ∀ j, j < n → g j = f j) : Fk k n w b g := fun j hj => by rw [e j hj]; exact h j hj
theorem Fk.sl {k : IntKind} {n : Nat} {w : World} {b : Nat} {f : Nat → Int} (h : Fk k n w b f) : Sl k w (some ⟨b, 0, none⟩) n f := .inr ⟨b, 0, rfl, fun j hj => by simpa using (h j hj).1⟩

theorem Fk.below {k : IntKind} {n B : Nat} {W w1 : World} (hb : Below B W w1) {b : Nat} {f : Nat → Int} (h : Fk k n W b f) (hB : b < B) : Fk k n w1 b f := fun j hj => by
  rw [hb.cell (p := ⟨b, j, none⟩) hB, hb.frozen (p := ⟨b, j, none⟩) hB]; exact h j hj

theorem Fk.later {k : IntKind} {n : Nat} {W w1 : World} {b : Nat} {f : Nat → Int} (h : Fk k n W b f) (hb : Below W.heap.size W w1) : Fk k n w1 b f := fun j hj => by
  have hlt := World.block_lt_of_cell? W _ (h j hj).1
  rw [hb.cell (p := ⟨b, j, none⟩) hlt, hb.frozen (p := ⟨b, j, none⟩) hlt]; exact h j hj

theorem Fk.alloc {k : IntKind} {n : Nat} {w : World} {b : Nat} {f : Nat → Int} (h : Fk k n w b f) (o : Obj) : Fk k n (w.alloc o) b f := h.later (below1 w o)

theorem Sl.later {k : IntKind} {W w1 : World} {a : Option Addr} {n : Nat} {f : Nat → Int} (h : Sl k W a n f) (hb : Below W.heap.size W w1) : Sl k w1 a n f := by
  rcases h with h | ⟨b, off, e, h⟩
  · exact .inl h
  · exact .inr ⟨b, off, e, fun j hj => by
      have := h j hj
      rw [hb.cell (p := ⟨b, off + j, none⟩) (World.block_lt_of_cell? W _ this)]; exact this⟩

theorem Sl.congr {k : IntKind} {w : World} {a : Option Addr} {n : Nat} {f g : Nat → Int} (h : Sl k w a n f) (e : ∀ j, j < n → g j = f j) : Sl k w a n g := by
  rcases h with h | ⟨b, off, ea, h⟩
  · exact .inl h
  · exact .inr ⟨b, off, ea, fun j hj => by rw [e j hj]; exact h j hj⟩

theorem Sl.drewN {k : IntKind} {w : World} {a : Option Addr} {n : Nat} {f : Nat → Int} (h : Sl k w a n f) (q : Nat) : Sl k (w.drewN q) a n f := h

/- Only block b has turned, and nothing was made. -/
structure But (b : Nat) (w w' : World) : Prop where
  os : w'.os = w.os
  tape : w'.tape = w.tape
  output : w'.output = w.output
  size : w'.heap.size = w.heap.size
  block : ∀ i, i ≠ b → w'.heap[i]? = w.heap[i]?

theorem But.refl (b : Nat) (w : World) : But b w w := ⟨rfl, rfl, rfl, rfl, fun _ _ => rfl⟩
theorem But.setCell {b : Nat} {w w' : World} (h : But b w w') (o : Nat) (x : Value) : But b w (w'.setCell ⟨b, o, none⟩ x) :=
  ⟨h.os, h.tape, h.output, by rw [← h.size]; simp [World.setCell], fun i hi => (Below.heap_setCell w' ⟨b, o, none⟩ x i hi).trans (h.block i hi)⟩
theorem But.drewN {b : Nat} {w w' : World} (h : But b w w') (q : Nat) : But b w (w'.drewN q) := ⟨h.os, h.tape, h.output, h.size, h.block⟩
theorem But.below {b B : Nat} {w w' : World} (h : But b w w') (hB : B ≤ b) : Below B w w' := ⟨h.os, h.tape, h.output, Nat.le_of_eq h.size.symm, fun k hk => h.block k (by omega)⟩
theorem But.fk {k : IntKind} {n b c : Nat} {w w' : World} {f : Nat → Int} (h : But b w w') (hc : c ≠ b) (hf : Fk k n w c f) : Fk k n w' c f := fun j hj => by
  rw [show w'.cell? ⟨c, j, none⟩ = w.cell? ⟨c, j, none⟩ from World.cell?_of_block (w := w) (h.block c hc), show w'.frozen? ⟨c, j, none⟩ = w.frozen? ⟨c, j, none⟩ from World.frozen?_of_block (w := w) (h.block c hc)]; exact hf j hj
theorem But.sl {k : IntKind} {n b : Nat} {w w' : World} {a : Option Addr} {f : Nat → Int} (h : But b w w') (hc : ∀ x, a = some x → x.block ≠ b) (hf : Sl k w a n f) : Sl k w' a n f := by
  rcases hf with hf | ⟨c, off, e, hf⟩
  · exact .inl hf
  · exact .inr ⟨c, off, e, fun j hj => by
      rw [show w'.cell? ⟨c, off + j, none⟩ = w.cell? ⟨c, off + j, none⟩ from World.cell?_of_block (w := w) (h.block c (hc _ e))]; exact hf j hj⟩

theorem made_get (z : Value) (n j : Nat) (h : j < n) : (madeCells #[z] n)[j]? = some z := by
  unfold madeCells
  rw [Array.getElem?_map, Array.getElem?_range]
  simp [h, Nat.mod_one]

theorem fk_made (k : IntKind) (w : World) (n : Nat) (t : TypeId) : Fk k n (w.alloc (.cells (madeCells #[.int k 0] n) t)) w.heap.size (fun _ => 0) := fun j hj => by
  rw [cell_of_row _ _ j _ _ _ (heap1_0 w _), frozen_of_row _ _ j _ _ (heap1_0 w _)]; exact ⟨made_get _ _ _ hj, rfl⟩

/- What a row that came in is. -/
theorem sl_of {k : IntKind} {w : World} {a : Option Addr} {len cap : Nat} {zs : List Int} (h : (a = none ∧ len = 0 ∧ cap = 0 ∧ zs = []) ∨
    ∃ x, a = some x ∧ len ≤ cap ∧ cap ≤ maxLen ∧ zs.length = cap ∧ (∀ i, i < zs.length → w.cell? (x.add i) = some (.int k (zs.getD i 0))) ∧ ∀ n ∈ zs, (Lit.int k n).wf = true) :
    Sl k w a len (fun j => zs.getD j 0) ∧ len ≤ maxLen ∧ ∀ j, (Lit.int k (zs.getD j 0)).wf = true := by
  rcases h with ⟨rfl, rfl, rfl, rfl⟩ | ⟨x, rfl, hl, hm, hz, hc, hw⟩
  · exact ⟨.inl rfl, Nat.zero_le _, fun j => by cases k <;> rfl⟩
  · refine ⟨?_, Nat.le_trans hl hm, fun j => ?_⟩
    · by_cases h0 : len = 0
      · exact .inl h0
      · obtain ⟨b, off, spot⟩ := x
        have h1 := hc 0 (by omega)
        have hspot : spot = none := by simpa [Addr.add] using World.cell?_spot h1
        subst hspot
        exact .inr ⟨b, off, rfl, fun i hi => by have := hc i (by omega); simp only [Addr.add] at this; split at this <;> simp_all⟩
    · by_cases hj : j < zs.length
      · exact hw _ (by simp [hj])
      · rw [List.getD_eq_getElem?_getD, List.getElem?_eq_none (by omega)]; cases k <;> rfl

theorem infoInt : (Tryd.prog.info? 3).map (fun i => (i.zero, i.size, i.bytes)) = some (some (.int .i64 0), 1, 8) := by kernel_rfl

set_option maxHeartbeats 1000000 in
theorem toInt_any (a : Option Addr) (n cap : Nat) (f : Nat → Int) (w : World) (h : Sl .i64 w a n f) (hn : n ≤ 1000000000) :
    Calls Tryd.prog 17 #[.slice a n cap] w fun e w' => e = .returned (.slice (some ⟨w.heap.size, 0, none⟩) n n) ∧ Fk .i64 n w' w.heap.size f ∧ Below w.heap.size w w' ∧ w.heap.size < w'.heap.size := by
  have hmk := fun w => run_make_row' (P := Tryd.prog) 22 3 (.int .i64 0) 8 Tryd.underlying22 infoInt rfl .i64 .i64 n (by omega) (by omega) w
  have f0 := fk_made .i64 w n 3
  have hb0 := below1 w (.cells (madeCells #[.int .i64 0] n) 3)
  have hz0 : w.heap.size < (w.alloc (.cells (madeCells #[.int .i64 0] n) 3)).heap.size := by simp
  go_enter Tryd.func17, Tryd.ntmps17
  go_wp2_with (fail)
  generalize w.alloc (.cells (madeCells #[.int .i64 0] n) 3) = W at f0 hb0 hz0 ⊢
  clear hmk
  go_loopw [4] (fun i wr => ∃ k : Nat, k ≤ n ∧ i = .int .i64 k ∧ Fk .i64 n wr w.heap.size (fun j => if j < k then f j else 0) ∧ Below w.heap.size w wr ∧ w.heap.size < wr.heap.size) (fun i _ => n - (intOf i).toNat)
  case atStart => exact ⟨0, by omega, rfl, f0.congr (fun j _ => by simp), hb0, hz0⟩
  case round =>
    obtain ⟨k, hk, rfl, hf, hb, hz⟩ := hrel
    clear f0 hb0 hz0
    by_cases hlt : (k : Int) < n
    · rcases h with h | ⟨b, off, rfl, h⟩
      · omega
      have g := hf k (by omega)
      have hs := h k (by omega)
      have c := (hb.cell (p := ⟨b, off + k, none⟩) (World.block_lt_of_cell? w _ hs)).trans hs
      have hfH : Hid (Fk .i64 n wr w.heap.size (fun j => if j < k then f j else 0)) := hf
      clear h hs hf
      go_wp2_with (fail)
      go_roundw
      case rel =>
        refine ⟨k + 1, by omega, by go_num, hfH.out.set k (f k) _ (by simp) (fun j hj hne => ?_), hb.setCell (Nat.le_refl _) _, by simpa [World.setCell] using hz⟩
        by_cases e : j < k
        · rw [if_pos (by omega), if_pos e]
        · rw [if_neg (by omega), if_neg e]
      case measure => simp [intOf]; omega
    · have e : k = n := by omega
      subst e
      go_wp2_with (fail)
      go_ret
      exact ⟨rfl, hf.congr (fun j hj => by rw [if_pos hj]), hb, hz⟩

set_option maxHeartbeats 1000000 in
theorem eqInt_any (a b : Option Addr) (n c d : Nat) (f g : Nat → Int) (w : World) (h : Sl .i64 w a n f) (h' : Sl .i64 w b n g) (hfg : ∀ j, j < n → f j = g j) (hn : n ≤ 1000000000) :
    Calls Tryd.prog 24 #[.slice a n c, .slice b n d] w fun e w' => e = .returned (.bool true) ∧ ∃ q, w' = w.drewN q := by
  go_enter Tryd.func24, Tryd.ntmps24
  go_wp2_with (fail)
  go_loopw [5] (fun i wr => ∃ k : Nat, k ≤ n ∧ i = .int .i64 k ∧ ∃ q, wr = w.drewN q) (fun i _ => n - (intOf i).toNat)
  case atStart => exact ⟨0, by omega, rfl, 0, rfl⟩
  case round =>
    obtain ⟨k, hk, rfl, q, rfl⟩ := hrel
    by_cases hlt : (k : Int) < n
    · rcases h with h | ⟨b1, o1, rfl, h⟩
      · omega
      rcases h' with h' | ⟨b2, o2, rfl, h'⟩
      · omega
      have e := hfg k (by omega)
      have c1 : (w.drewN q).cell? ⟨b1, o1 + k, none⟩ = some (.int .i64 (g k)) := by rw [← e]; exact h k (by omega)
      have c2 : (w.drewN q).cell? ⟨b2, o2 + k, none⟩ = some (.int .i64 (g k)) := h' k (by omega)
      generalize hW : w.drewN q = W at c1 c2 ⊢
      have HW : Hid (w.drewN q = W) := hW
      clear h h' hfg e hW
      go_wp2_with (fail)
      go_quiet (fail)
      go_wp2_with (fail)
      go_roundw
      case rel => exact ⟨k + 1, by omega, by go_num, q + nq, by rw [← HW.out]; exact World.drewN_drewN _ _ _⟩
      case measure => simp [intOf]; omega
    · go_wp2_with (fail)
      go_ret
      exact ⟨rfl, q, rfl⟩

set_option maxHeartbeats 1000000 in
theorem markInt_any (b n cap : Nat) (f : Nat → Int) (k0 : Int) (w : World) (h : Fk .i64 n w b f) (hn : n ≤ 1000000000) (h0 : 0 ≤ k0) (h1 : k0 ≤ 1000000000000000) :
    Calls Tryd.prog 26 #[.slice (some ⟨b, 0, none⟩) n cap, .int .i64 k0] w fun e w' => e = .returned (.int .i64 (k0 + n)) ∧ Fk .i64 n w' b (fun j => k0 + j) ∧ But b w w' := by
  go_enter Tryd.func26, Tryd.ntmps26
  go_wp2_with (fail)
  go_loopw [1, 5] (fun kk i wr => ∃ k : Nat, k ≤ n ∧ i = .int .i64 k ∧ kk = .int .i64 (k0 + k) ∧ Fk .i64 n wr b (fun j => if j < k then k0 + j else f j) ∧ But b w wr) (fun _ i _ => n - (intOf i).toNat)
  case atStart => exact ⟨0, by omega, rfl, by simp, h.congr (fun j _ => by simp), But.refl _ _⟩
  case round =>
    obtain ⟨k, hk, rfl, rfl, hf, hb⟩ := hrel
    clear h
    by_cases hlt : (k : Int) < n
    · have g := hf k (by omega)
      have hfH : Hid (Fk .i64 n wr b (fun j => if j < k then k0 + j else f j)) := hf
      clear hf
      go_wp2_with (fail)
      go_roundw
      case rel =>
        refine ⟨k + 1, by omega, by go_num, by go_num, hfH.out.set k (k0 + k) _ (by simp) (fun j hj hne => ?_), hb.setCell _ _⟩
        by_cases e : j < k
        · rw [if_pos (by omega), if_pos e]
        · rw [if_neg (by omega), if_neg e]
      case measure => simp [intOf]; omega
    · have e : k = n := by omega
      subst e
      go_wp2_with (fail)
      go_ret
      exact ⟨rfl, hf.congr (fun j hj => by rw [if_pos hj]), hb⟩

theorem markInt_none (a : Option Addr) (cap : Nat) (k0 : Int) (w : World) :
    Calls Tryd.prog 26 #[.slice a 0 cap, .int .i64 k0] w fun e w' => e = .returned (.int .i64 k0) ∧ w' = w := by
  go_enter Tryd.func26, Tryd.ntmps26
  go_wp2_with (fail)
  refine wp_loop_rounds 1 ?_
  rw [rounds_succ]
  go_wp2_with (fail)
  go_ret
  exact ⟨rfl, rfl⟩

set_option maxHeartbeats 1000000 in
theorem heldInt_any (a : Option Addr) (n cap : Nat) (k0 : Int) (w : World) (h : Sl .i64 w a n (fun j => k0 + j)) (hn : n ≤ 1000000000) (h0 : 0 ≤ k0) (h1 : k0 ≤ 1000000000000000) :
    Calls Tryd.prog 28 #[.slice a n cap, .int .i64 k0] w fun e w' => e = .returned (.int .i64 (k0 + n)) ∧ w' = w := by
  go_enter Tryd.func28, Tryd.ntmps28
  go_wp2_with (fail)
  go_loop [1, 5] (fun kk i => ∃ k : Nat, k ≤ n ∧ i = .int .i64 k ∧ kk = .int .i64 (k0 + k)) (fun _ i => n - (intOf i).toNat)
  case atStart => exact ⟨0, by omega, rfl, by simp⟩
  case round =>
    obtain ⟨k, hk, rfl, rfl⟩ := hrel
    by_cases hlt : (k : Int) < n
    · rcases h with h | ⟨b1, o1, rfl, h⟩
      · omega
      have c1 := h k (by omega)
      clear h
      go_wp2_with (fail)
      go_round
      case rel => exact ⟨k + 1, by omega, by go_num, by go_num⟩
      case measure => simp [intOf]; omega
    · have e : k = n := by omega
      subst e
      go_wp2_with (fail)
      go_ret
      exact ⟨rfl, rfl⟩

end Go.Proofs.YtoaopapnpndklaaDoor.Lst

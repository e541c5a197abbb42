/- Lists of words and of ints in memory: copied, held against each other, marked. Conditions: at most 1,000,000,000 elements. -/
import Derived.Test.YtpfgldbmihbiiaaAid
import Derived.Deep.OwnRows
namespace Go.Proofs.Ytpfgldbmihbiiaa.Lst
open Go.ChangeShapes Go.WideShapes Go.ChangeAt Go.RowKit
open Go.Proofs.Ytpfgldbmihbiiaa.Aid

/- The first n cells of a block are the numbers f and may be written. -/
def Fk (k : IntKind) (n : Nat) (w : World) (b : Nat) (f : Nat → Int) : Prop := ∀ j, j < n → w.cell? ⟨b, j, none⟩ = some (.int k (f j)) ∧ w.frozen? ⟨b, j, none⟩ = false

/- A slice that leads to the numbers f. -/
def Sl (k : IntKind) (w : World) (a : Option Addr) (n : Nat) (f : Nat → Int) : Prop := n = 0 ∨ ∃ b off, a = some ⟨b, off, none⟩ ∧ ∀ j, j < n → w.cell? ⟨b, off + j, none⟩ = some (.int k (f j))

theorem Fk.set {k : IntKind} {n : Nat} {w : World} {b : Nat} {f : Nat → Int} (h : Fk k n w b f) (i : Nat) (x : Int) (g : Nat → Int) (hg : g i = x) (ho : ∀ j, j < n → j ≠ i → g j = f j) : Fk k n (w.setCell ⟨b, i, none⟩ (.int k x)) b g := fun j hj => by
  refine ⟨?_, ?_⟩
  · by_cases e : j = i
    · subst e
      rw [World.cell?_setCell_same _ _ _ (h j hj).1, hg]
    · have hne : (⟨b, i, none⟩ : Addr) ≠ ⟨b, j, none⟩ := fun h => e (by injection h with _ h2 _; exact h2.symm)
      rw [World.cell?_setCell_other _ _ _ _ hne, ho j hj e]; exact (h j hj).1
  · have := (h j hj).2
    simp [this]

theorem Fk.far {k : IntKind} {n : Nat} {w : World} {b : Nat} {f : Nat → Int} (h : Fk k n w b f) (p : Addr) (hp : p.block ≠ b) (x : Value) : Fk k n (w.setCell p x) b f := fun j hj => by
  refine ⟨?_, ?_⟩
  · rw [World.cell?_setCell_far _ _ _ _ hp]; exact (h j hj).1
  · have := (h j hj).2
    simp [this]

theorem Fk.drew {k : IntKind} {n : Nat} {w : World} {b : Nat} {f : Nat → Int} (h : Fk k n w b f) : Fk k n w.drew b f := h
theorem Fk.drewN {k : IntKind} {n : Nat} {w : World} {b : Nat} {f : Nat → Int} (h : Fk k n w b f) (q : Nat) : Fk k n (w.drewN q) b f := h
theorem Fk.congr {k : IntKind} {n : Nat} {w : World} {b : Nat} {f g : Nat → Int} (h : Fk k n w b f) (e : ∀ j, j < n → g j = f j) : Fk k n w b g := fun j hj => by rw [e j hj]; exact h j hj
theorem Fk.sl {k : IntKind} {n : Nat} {w : World} {b : Nat} {f : Nat → Int} (h : Fk k n w b f) : Sl k w (some ⟨b, 0, none⟩) n f := .inr ⟨b, 0, rfl, fun j hj => by simpa using (h j hj).1⟩

theorem Fk.below {k : IntKind} {n B : Nat} {W w1 : World} (hb : Below B W w1) {b : Nat} {f : Nat → Int} (h : Fk k n W b f) (hB : b < B) : Fk k n w1 b f := fun j hj => by
  rw [hb.cell (p := ⟨b, j, none⟩) hB, hb.frozen (p := ⟨b, j, none⟩) hB]; exact h j hj

theorem Fk.later {k : IntKind} {n : Nat} {W w1 : World} {b : Nat} {f : Nat → Int} (h : Fk k n W b f) (hb : Below W.heap.size W w1) : Fk k n w1 b f := fun j hj => by
  have hlt := World.block_lt_of_cell? W _ (h j hj).1
  rw [hb.cell (p := ⟨b, j, none⟩) hlt, hb.frozen (p := ⟨b, j, none⟩) hlt]; exact h j hj

theorem Fk.alloc {k : IntKind} {n : Nat} {w : World} {b : Nat} {f : Nat → Int} (h : Fk k n w b f) (o : Obj) : Fk k n (w.alloc o) b f := h.later (below1 w o)

theorem Sl.later {k : IntKind} {W w1 : World} {a : Option Addr} {n : Nat} {f : Nat → Int} (h : Sl k W a n f) (hb : Below W.heap.size W w1) : Sl k w1 a n f := by
  rcases h with h | ⟨b, off, e, h⟩
  · exact .inl h
  · exact .inr ⟨b, off, e, fun j hj => by
      have := h j hj
      rw [hb.cell (p := ⟨b, off + j, none⟩) (World.block_lt_of_cell? W _ this)]; exact this⟩

theorem Sl.congr {k : IntKind} {w : World} {a : Option Addr} {n : Nat} {f g : Nat → Int} (h : Sl k w a n f) (e : ∀ j, j < n → g j = f j) : Sl k w a n g := by
  rcases h with h | ⟨b, off, ea, h⟩
  · exact .inl h
  · exact .inr ⟨b, off, ea, fun j hj => by rw [e j hj]; exact h j hj⟩

theorem Sl.drewN {k : IntKind} {w : World} {a : Option Addr} {n : Nat} {f : Nat → Int} (h : Sl k w a n f) (q : Nat) : Sl k (w.drewN q) a n f := h

/- Only block b has turned, and nothing was made. -/
structure But (b : Nat) (w w' : World) : Prop where
  os : w'.os = w.os
  tape : w'.tape = w.tape
  output : w'.output = w.output
  size : w'.heap.size = w.heap.size
  block : ∀ i, i ≠ b → w'.heap[i]? = w.heap[i]?

theorem But.refl (b : Nat) (w : World) : But b w w := ⟨rfl, rfl, rfl, rfl, fun _ _ => rfl⟩
theorem But.setCell {b : Nat} {w w' : World} (h : But b w w') (o : Nat) (x : Value) : But b w (w'.setCell ⟨b, o, none⟩ x) :=
  ⟨h.os, h.tape, h.output, by rw [← h.size]; simp [World.setCell], fun i hi => (Below.heap_setCell w' ⟨b, o, none⟩ x i hi).trans (h.block i hi)⟩
theorem But.drewN {b : Nat} {w w' : World} (h : But b w w') (q : Nat) : But b w (w'.drewN q) := ⟨h.os, h.tape, h.output, h.size, h.block⟩
theorem But.below {b B : Nat} {w w' : World} (h : But b w w') (hB : B ≤ b) : Below B w w' := ⟨h.os, h.tape, h.output, Nat.le_of_eq h.size.symm, fun k hk => h.block k (by omega)⟩
theorem But.fk {k : IntKind} {n b c : Nat} {w w' : World} {f : Nat → Int} (h : But b w w') (hc : c ≠ b) (hf : Fk k n w c f) : Fk k n w' c f := fun j hj => by
  rw [show w'.cell? ⟨c, j, none⟩ = w.cell? ⟨c, j, none⟩ from World.cell?_of_block (w := w) (h.block c hc), show w'.frozen? ⟨c, j, none⟩ = w.frozen? ⟨c, j, none⟩ from World.frozen?_of_block (w := w) (h.block c hc)]; exact hf j hj
theorem But.sl {k : IntKind} {n b : Nat} {w w' : World} {a : Option Addr} {f : Nat → Int} (h : But b w w') (hc : ∀ x, a = some x → x.block ≠ b) (hf : Sl k w a n f) : Sl k w' a n f := by
  rcases hf with hf | ⟨c, off, e, hf⟩
  · exact .inl hf
  · exact .inr ⟨c, off, e, fun j hj => by
      rw [show w'.cell? ⟨c, off + j, none⟩ = w.cell? ⟨c, off + j, none⟩ from World.cell?_of_block (w := w) (h.block c (hc _ e))]; exact hf j hj⟩

theorem made_get (z : Value) (n j : Nat) (h : j < n) : (madeCells #[z] n)[j]? = some z := by
  unfold madeCells
  rw [Array.getElem?_map, Array.getElem?_range]
  simp [h, Nat.mod_one]

theorem fk_made (k : IntKind) (w : World) (n : Nat) (t : TypeId) : Fk k n (w.alloc (.cells (madeCells #[.int k 0] n) t)) w.heap.size (fun _ => 0) := fun j hj => by
  rw [cell_of_row _ _ j _ _ _ (heap1_0 w _), frozen_of_row _ _ j _ _ (heap1_0 w _)]; exact ⟨made_get _ _ _ hj, rfl⟩

/- What a row that came in is. -/
theorem sl_of {k : IntKind} {w : World} {a : Option Addr} {len cap : Nat} {zs : List Int} (h : (a = none ∧ len = 0 ∧ cap = 0 ∧ zs = []) ∨
    ∃ x, a = some x ∧ len ≤ cap ∧ cap ≤ maxLen ∧ zs.length = cap ∧ (∀ i, i < zs.length → w.cell? (x.add i) = some (.int k (zs.getD i 0))) ∧ ∀ n ∈ zs, (Lit.int k n).wf = true) :
    Sl k w a len (fun j => zs.getD j 0) ∧ len ≤ maxLen ∧ ∀ j, (Lit.int k (zs.getD j 0)).wf = true := by
  rcases h with ⟨rfl, rfl, rfl, rfl⟩ | ⟨x, rfl, hl, hm, hz, hc, hw⟩
  · exact ⟨.inl rfl, Nat.zero_le _, fun j => by cases k <;> rfl⟩
  · refine ⟨?_, Nat.le_trans hl hm, fun j => ?_⟩
    · by_cases h0 : len = 0
      · exact .inl h0
      · obtain ⟨b, off, spot⟩ := x
        have h1 := hc 0 (by omega)
        have hspot : spot = none := by simpa [Addr.add] using World.cell?_spot h1
        subst hspot
        exact .inr ⟨b, off, rfl, fun i hi => by have := hc i (by omega); simp only [Addr.add] at this; split at this <;> simp_all⟩
    · by_cases hj : j < zs.length
      · exact hw _ (by simp [hj])
      · rw [List.getD_eq_getElem?_getD, List.getElem?_eq_none (by omega)]; cases k <;> rfl

theorem infoUint64 : (Try.prog.info? 51).map (fun i => (i.zero, i.size, i.bytes)) = some (some (.int .u64 0), 1, 8) := by kernel_rfl

set_option maxHeartbeats 1000000 in
theorem toUint64_any (a : Option Addr) (n cap : Nat) (f : Nat → Int) (w : World) (h : Sl .u64 w a n f) (hn : n ≤ 1000000000) :
    Calls Try.prog 21 #[.slice a n cap] w fun e w' => e = .returned (.slice (some ⟨w.heap.size, 0, none⟩) n n) ∧ Fk .u64 n w' w.heap.size f ∧ Below w.heap.size w w' ∧ w.heap.size < w'.heap.size := by
  have hmk := fun w => run_make_row' (P := Try.prog) 22 51 (.int .u64 0) 8 Try.underlying22 infoUint64 rfl .i64 .i64 n (by omega) (by omega) w
  have f0 := fk_made .u64 w n 51
  have hb0 := below1 w (.cells (madeCells #[.int .u64 0] n) 51)
  have hz0 : w.heap.size < (w.alloc (.cells (madeCells #[.int .u64 0] n) 51)).heap.size := by simp
  go_enter Try.func21, Try.ntmps21
  go_wp2_with (fail)
  generalize w.alloc (.cells (madeCells #[.int .u64 0] n) 51) = W at f0 hb0 hz0 ⊢
  clear hmk
  go_loopw [4] (fun i wr => ∃ k : Nat, k ≤ n ∧ i = .int .i64 k ∧ Fk .u64 n wr w.heap.size (fun j => if j < k then f j else 0) ∧ Below w.heap.size w wr ∧ w.heap.size < wr.heap.size) (fun i _ => n - (intOf i).toNat)
  case atStart => exact ⟨0, by omega, rfl, f0.congr (fun j _ => by simp), hb0, hz0⟩
  case round =>
    obtain ⟨k, hk, rfl, hf, hb, hz⟩ := hrel
    clear f0 hb0 hz0
    by_cases hlt : (k : Int) < n
    · rcases h with h | ⟨b, off, rfl, h⟩
      · omega
      have g := hf k (by omega)
      have hs := h k (by omega)
      have c := (hb.cell (p := ⟨b, off + k, none⟩) (World.block_lt_of_cell? w _ hs)).trans hs
      have hfH : Hid (Fk .u64 n wr w.heap.size (fun j => if j < k then f j else 0)) := hf
      clear h hs hf
      go_wp2_with (fail)
      go_roundw
      case rel =>
        refine ⟨k + 1, by omega, by go_num, hfH.out.set k (f k) _ (by simp) (fun j hj hne => ?_), hb.setCell (Nat.le_refl _) _, by simpa [World.setCell] using hz⟩
        by_cases e : j < k
        · rw [if_pos (by omega), if_pos e]
        · rw [if_neg (by omega), if_neg e]
      case measure => simp [intOf]; omega
    · have e : k = n := by omega
      subst e
      go_wp2_with (fail)
      go_ret
      exact ⟨rfl, hf.congr (fun j hj => by rw [if_pos hj]), hb, hz⟩

set_option maxHeartbeats 1000000 in
theorem eqUint64_any (a b : Option Addr) (n c d : Nat) (f g : Nat → Int) (w : World) (h : Sl .u64 w a n f) (h' : Sl .u64 w b n g) (hfg : ∀ j, j < n → f j = g j) (hn : n ≤ 1000000000) :
    Calls Try.prog 25 #[.slice a n c, .slice b n d] w fun e w' => e = .returned (.bool true) ∧ ∃ q, w' = w.drewN q := by
  go_enter Try.func25, Try.ntmps25
  go_wp2_with (fail)
  go_loopw [5] (fun i wr => ∃ k : Nat, k ≤ n ∧ i = .int .i64 k ∧ ∃ q, wr = w.drewN q) (fun i _ => n - (intOf i).toNat)
  case atStart => exact ⟨0, by omega, rfl, 0, rfl⟩
  case round =>
    obtain ⟨k, hk, rfl, q, rfl⟩ := hrel
    by_cases hlt : (k : Int) < n
    · rcases h with h | ⟨b1, o1, rfl, h⟩
      · omega
      rcases h' with h' | ⟨b2, o2, rfl, h'⟩
      · omega
      have e := hfg k (by omega)
      have c1 : (w.drewN q).cell? ⟨b1, o1 + k, none⟩ = some (.int .u64 (g k)) := by rw [← e]; exact h k (by omega)
      have c2 : (w.drewN q).cell? ⟨b2, o2 + k, none⟩ = some (.int .u64 (g k)) := h' k (by omega)
      generalize hW : w.drewN q = W at c1 c2 ⊢
      have HW : Hid (w.drewN q = W) := hW
      clear h h' hfg e hW
      go_wp2_with (fail)
      go_quiet (fail)
      go_wp2_with (fail)
      go_roundw
      case rel => exact ⟨k + 1, by omega, by go_num, q + nq, by rw [← HW.out]; exact World.drewN_drewN _ _ _⟩
      case measure => simp [intOf]; omega
    · go_wp2_with (fail)
      go_ret
      exact ⟨rfl, q, rfl⟩

theorem infoInt : (Try.prog.info? 3).map (fun i => (i.zero, i.size, i.bytes)) = some (some (.int .i64 0), 1, 8) := by kernel_rfl

end Go.Proofs.Ytpfgldbmihbiiaa.Lst

import Derived.Test.YtbipolfbkemmpaaDoorM46
import Derived.Test.YtbipolfbkemmpaaDoorM2
import Derived.Defers
import Derived.Recover
import Derived.Laws.Panics
import Derived.Laws.CopyOwn
import Derived.Test.YtbipolfbkemmpaaDoorM1

/- Reading a code: opening it; a number about some bounds; a value and a stamp. Conditions: the code is a slice of bytes that can be read. -/
namespace Go.Proofs.YtbipolfbkemmpaaDoor.Draw
open Go.ChangeShapes Go.WideShapes Go.ChangeAt Go.RowKit

/- A slice of bytes that came in: it is empty, or leads to a row of bytes. -/
def Row (w : World) (a : Option Addr) (len cap : Nat) (zs : List Int) : Prop :=
  len ≤ maxLen ∧ (len = 0 ∨ ∃ b off, a = some ⟨b, off, none⟩ ∧ len ≤ cap ∧ zs.length = cap ∧ cap ≤ maxLen ∧ (∀ i, i < zs.length → w.cell? ⟨b, off + i, none⟩ = some (.int .u8 (zs.getD i 0))) ∧ ∀ n ∈ zs, (Lit.int .u8 n).wf = true)

theorem row_of {w : World} {a : Option Addr} {len cap : Nat} {zs : List Int} (h : (a = none ∧ len = 0 ∧ cap = 0 ∧ zs = []) ∨
    ∃ x, a = some x ∧ len ≤ cap ∧ cap ≤ maxLen ∧ zs.length = cap ∧ (∀ i, i < zs.length → w.cell? (x.add i) = some (.int .u8 (zs.getD i 0))) ∧ ∀ n ∈ zs, (Lit.int .u8 n).wf = true) : Row w a len cap zs := by
  rcases h with ⟨rfl, rfl, rfl, rfl⟩ | ⟨x, rfl, hl, hm, hz, hc, hw⟩
  · exact ⟨Nat.zero_le _, .inl rfl⟩
  · refine ⟨Nat.le_trans hl hm, ?_⟩
    by_cases h0 : len = 0
    · exact .inl h0
    · obtain ⟨b, off, spot⟩ := x
      have h1 := hc 0 (by omega)
      have hspot : spot = none := by simpa [Addr.add] using World.cell?_spot h1
      subst hspot
      exact .inr ⟨b, off, rfl, hl, hz, hm, fun i hi => by have := hc i hi; simp only [Addr.add] at this; split at this <;> simp_all, hw⟩

theorem Row.below {w w' : World} {a : Option Addr} {len cap : Nat} {zs : List Int} (h : Row w a len cap zs) (hb : Below w.heap.size w w') : Row w' a len cap zs := by
  obtain ⟨hm, h | ⟨b, off, e, hl, hz, hc, hx, hw⟩⟩ := h
  · exact ⟨hm, .inl h⟩
  · refine ⟨hm, .inr ⟨b, off, e, hl, hz, hc, fun i hi => ?_, hw⟩⟩
    have := hx i hi
    rw [hb.cell (p := ⟨b, off + i, none⟩) (World.block_lt_of_cell? w _ this)]; exact this

theorem open_any (a : Option Addr) (len cap : Nat) (zs : List Int) (w : World) (h : Row w a len cap zs) :
    Calls Tryd.prog 24 #[.slice a len cap] w fun e w' => e = .returned (.pointer (some ⟨w.heap.size, 0, none⟩)) ∧ (∃ n c, Rd w' w.heap.size a n c zs 0) ∧ Below w.heap.size w w' := by
  obtain ⟨hm, h | ⟨b, off, rfl, hl, hz, hc, hx, hw⟩⟩ := h
  · subst h
    go_enter Tryd.func24, Tryd.ntmps24
    go_wp2
    all_goals go_ret
    refine ⟨rfl, ⟨0, cap, ?_, ?_, ?_, by omega, by omega, by omega, .inl rfl⟩, (Below.refl _ _).alloc (Nat.le_refl _) _⟩
    all_goals go_simp
  · unfold maxLen at hm hc
    have hxH : Hid (∀ i, i < zs.length → w.cell? ⟨b, off + i, none⟩ = some (.int .u8 (zs.getD i 0))) := hx
    have hwH : Hid (∀ n ∈ zs, (Lit.int .u8 n).wf = true) := hw
    clear hx hw
    by_cases h2 : (2000 : Int) < len
    · go_enter Tryd.func24, Tryd.ntmps24
      go_wp2
      go_ret
      refine ⟨rfl, ⟨2000, cap, ?_, ?_, ?_, by omega, by omega, by omega, .inr ⟨b, off, rfl, ?_, by omega, fun i hi => ?_, hwH.out⟩⟩, (Below.refl _ _).alloc (Nat.le_refl _) _⟩
      · go_simp
      · go_simp
      · go_simp
      · have := World.block_lt_of_cell? w _ (hxH.out 0 (by omega)); simp at this; omega
      · have hi' := hxH.out i hi
        rw [World.cell?_alloc_lt _ _ _ (World.block_lt_of_cell? w _ hi')]; exact hi'
    · by_cases h0 : len = 0
      · subst h0
        go_enter Tryd.func24, Tryd.ntmps24
        go_wp2
        go_ret
        refine ⟨rfl, ⟨0, cap, ?_, ?_, ?_, by omega, by omega, by omega, .inl rfl⟩, (Below.refl _ _).alloc (Nat.le_refl _) _⟩
        all_goals go_simp
      · go_enter Tryd.func24, Tryd.ntmps24
        go_wp2
        go_ret
        refine ⟨rfl, ⟨len, cap, ?_, ?_, ?_, by omega, by omega, by omega, .inr ⟨b, off, rfl, ?_, by omega, fun i hi => ?_, hwH.out⟩⟩, (Below.refl _ _).alloc (Nat.le_refl _) _⟩
        · go_simp
        · go_simp
        · go_simp
        · have := World.block_lt_of_cell? w _ (hxH.out 0 (by omega)); simp at this; omega
        · have hi' := hxH.out i hi
          rw [World.cell?_alloc_lt _ _ _ (World.block_lt_of_cell? w _ hi')]; exact hi'

theorem Save.frozen {r : Nat} {w w' : World} (h : Save r w w') {q : Addr} (hq : q.block ≠ r) (hs : q.block < w.heap.size) : w'.frozen? q = w.frozen? q := World.frozen?_of_block (w := w) (h.block q.block hq hs)

theorem Rd.data_ne {w : World} {r : Nat} {a : Option Addr} {len cap : Nat} {zs : List Int} {p : Int} (h : Rd w r a len cap zs p) (o : Obj) : Rd (w.alloc o) r a len cap zs p := by
  have hlt := h.lt
  refine ⟨?_, ?_, ?_, h.p0, h.p1, h.l1, ?_⟩
  · rw [World.cell?_alloc_lt _ _ _ hlt]; exact h.sl
  · rw [World.cell?_alloc_lt _ _ _ hlt]; exact h.pl
  · have := h.fz
    rw [World.frozen?_of_block (w := w) (Below.heap_alloc w o r hlt)]; exact this
  · rcases h.row with h0 | ⟨b, off, e, hb, hl, hc, hw⟩
    · exact .inl h0
    · refine .inr ⟨b, off, e, hb, hl, fun i hi => ?_, hw⟩
      have hci := hc i hi
      rw [World.cell?_alloc_lt _ _ _ (World.block_lt_of_cell? w _ hci)]; exact hci

end Go.Proofs.YtbipolfbkemmpaaDoor.Draw
/- One word is sought: the program's way by a recovered panic, and the specification's. Conditions: none. -/
namespace Go.Proofs.YtbipolfbkemmpaaDoor.Plat
open Go.ChangeShapes Go.WideShapes Go.ChangeAt Go.RowKit
open Aid Lst

theorem bounds_out {α : Type} (P : Program) (w : World) (k : IntKind) (x y : Int) (code : BoundsCode) :
    ∃ s q, (boundsPanic k x y code : Sem α).run P w = .halt (.panic (boundsValue P (IntKind.i64.wrap x) y s code.toNat)) (w.drewN q) := by
  unfold boundsPanic boundsValue
  split
  · have h : ∃ s, ((do let signed ← (· == 1) <$> choose (.extern "runtime.boundsError.signed" 2); runtimePanic (.bounds (IntKind.i64.wrap x) y signed code)) : Sem α).run P w = .halt (.panic (.iface P.rt.boundsError (.agg #[.int .i64 (IntKind.i64.wrap x), .int .i64 y, .bool s, .int .u8 code.toNat]))) w.drew := by
      simp [runtimePanic, goPanic, go_sem]
    obtain ⟨s, h⟩ := h
    exact ⟨s, 1, h⟩
  · refine ⟨(k != .u64), 0, ?_⟩
    simp [runtimePanic, goPanic, go_sem]
    rfl

theorem index_out {P : Program} (w : World) (t : TypeId) (a0 : Option Addr) (len cap : Nat) (k : IntKind) (i : Int) (h : P.underlying t = some (.slice (P.elem t))) (hnil : a0 = none → len = 0) (ho : i < 0 ∨ (len : Int) ≤ i) :
    ∃ s q, (Instr.indexAt t (.slice a0 len cap) (.int k i)).run P w = .halt (.panic (boundsValue P (IntKind.i64.wrap i) len s 0)) (w.drewN q) := by
  cases a0 with
  | some a =>
    rw [run_indexAt_slice (h := h), if_neg (by omega)]
    exact bounds_out P w k i len .index
  | none =>
    obtain rfl := hnil rfl
    have e : (Instr.indexAt t (.slice none 0 cap) (.int k i)).run P w = (boundsPanic k i 0 .index).run P w := by
      simp [Instr.indexAt, run_underlying h, asIntOf]
    rw [e]
    exact bounds_out P w k i 0 .index

/- What a list has at a place; 0, if there is none. -/
def getF (n : Nat) (f : Nat → Int) (i : Int) : Int := if 0 ≤ i ∧ i < n then f i.toNat else 0
def inB (n : Nat) (i : Int) : Bool := decide (0 ≤ i ∧ i < n)

def rowOf (n : Nat) (f : Nat → Int) : List Value := (List.range n).map fun j => .int .u64 (f j)
theorem rowOf_len (n : Nat) (f : Nat → Int) : (rowOf n f).length = n := by simp [rowOf]
theorem rowOf_get (n : Nat) (f : Nat → Int) (j : Nat) (h : j < n) : (rowOf n f)[j]? = some (.int .u64 (f j)) := by simp [rowOf, h]
theorem rowOf_one (n : Nat) (f : Nat → Int) : ∀ v ∈ rowOf n f, v.oneCell' = true := by
  intro v hv; simp [rowOf] at hv; obtain ⟨j, _, rfl⟩ := hv; rfl
theorem rowOf_lt {n : Nat} {f : Nat → Int} {j : Nat} {v : Value} (h : (rowOf n f)[j]? = some v) : j < n ∧ v = .int .u64 (f j) := by
  have hj : j < n := by
    have := (List.getElem?_eq_some_iff.1 h).1
    rwa [rowOf_len] at this
  rw [rowOf_get n f j hj] at h
  exact ⟨hj, by injection h with h; exact h.symm⟩

theorem fk_of_row {w : World} {b n : Nat} {f : Nat → Int} {t : TypeId} {cur : Array Value} (h : w.heap[b]? = some (.cells cur t (0, 0))) (hc : ∀ j, j < n → cur[j]? = some (.int .u64 (f j))) : Fk .u64 n w b f := fun j hj => by
  rw [cell_of_row w b j cur t (0, 0) h, frozen_of_row w b j cur t h]; exact ⟨hc j hj, rfl⟩

def hit (n : Nat) (f : Nat → Int) (i old : Int) : Bool := decide (0 ≤ i ∧ i < n ∧ f i.toNat = old)
def swF (n : Nat) (f : Nat → Int) (i old now : Int) (j : Nat) : Int := if hit n f i old = true ∧ j = i.toNat then now else f j

theorem hit_f {n : Nat} {f : Nat → Int} {i old : Int} (h : ¬ (0 ≤ i ∧ i < n ∧ f i.toNat = old)) : hit n f i old = false := decide_eq_false h
theorem hit_t {n : Nat} {f : Nat → Int} {i old : Int} (h : 0 ≤ i ∧ i < n ∧ f i.toNat = old) : hit n f i old = true := decide_eq_true h
theorem swF_f {n : Nat} {f : Nat → Int} {i old now : Int} (h : hit n f i old = false) (j : Nat) : swF n f i old now j = f j := by unfold swF; rw [h]; simp

/- What is owned is a row of new memory. -/
theorem own_fk {w : World} {base n : Nat} {v : Value} {f : Nat → Int} {t : TypeId} (h : w.ownsRow base t 1 v n (rowOf n f)) (hv : ¬ v = .slice none 0 0) : ∃ g c, v = .slice (some ⟨g, 0, none⟩) n c ∧ base ≤ g ∧ g < w.heap.size ∧ Fk .u64 n w g f := by
  obtain ⟨_, h | ⟨g, cap, cur, rfl, hb, hg, _, _, _, ht⟩⟩ := h
  · exact absurd h.1 hv
  · refine ⟨g, cap, rfl, hb, ?_, fk_of_row hg (fun j hj => ?_)⟩
    · exact Nat.lt_of_not_le fun hle => by rw [Array.getElem?_eq_none hle] at hg; cases hg
    · have := rowOf_get n f j hj
      rw [← ht, Nat.mul_one, List.getElem?_take, if_pos hj] at this
      simpa using this

theorem own_nil (w : World) (t : TypeId) : (w.alloc (.cells #[] t)).ownsRow w.heap.size t 1 (.slice (some ⟨w.heap.size, 0, none⟩) 0 0) 0 [] :=
  ⟨rfl, .inr ⟨w.heap.size, 0, #[], rfl, Nat.le_refl _, heap1_0 _ _, Nat.le_refl _, Nat.zero_le _, rfl, rfl⟩⟩

end Go.Proofs.YtbipolfbkemmpaaDoor.Plat
/- Reading a code: words, an address and two words; a house. Conditions: the code is a slice of bytes that can be read. -/
namespace Go.Proofs.YtbipolfbkemmpaaDoor.Draw
open Go.ChangeShapes Go.WideShapes Go.ChangeAt Go.RowKit
open Aid Lst Plat

theorem results_tmp4 {fn : Func} {t u v x : Tmp} (h : fn.results = #[.tmp t, .tmp u, .tmp v, .tmp x]) (tmps : Array Value) (P : Program) (w : World) :
    (results fn tmps).run P w = .ok (.tuple #[tmps.getD t undef, tmps.getD u undef, tmps.getD v undef, tmps.getD x undef]) w := by
  simp [results, h]

/- What is owned is so still where only the reader has turned. -/
theorem own_save {w w' : World} {r base n : Nat} {e : TypeId} {v : Value} {xs : List Value} (h : w.ownsRow base e 1 v n xs) (hs : Save r w w') (hr : r < base) : w'.ownsRow base e 1 v n xs := by
  obtain ⟨hl, h | ⟨g, cap, cur, hv, hb, hg, h1, h2, h3, h4⟩⟩ := h
  · exact ⟨hl, .inl h⟩
  · have hlt : g < w.heap.size := Nat.lt_of_not_le fun hle => by rw [Array.getElem?_eq_none hle] at hg; cases hg
    exact ⟨hl, .inr ⟨g, cap, cur, hv, hb, by rw [hs.block g (by omega) hlt]; exact hg, h1, h2, h3, h4⟩⟩

theorem save_grown {w w' : World} {g : Nat} (h : w.grownBy w' (some g)) : Save g w w' :=
  ⟨h.os, h.tape, h.output, h.size, fun k hk hs => h.block k hs (fun e => hk (by injection e with e))⟩

theorem own_block {w : World} {base n : Nat} {e : TypeId} {v : Value} {xs : List Value} (h : w.ownsRow base e 1 v n xs) (hv : ¬ v = .slice none 0 0) : ∃ g, Hid (v.ownBlock = some g) ∧ base ≤ g ∧ g < w.heap.size := by
  obtain ⟨_, h | ⟨g, cap, cur, rfl, hb, hg, _⟩⟩ := h
  · exact absurd h.1 hv
  · exact ⟨g, rfl, hb, Nat.lt_of_not_le fun hle => by rw [Array.getElem?_eq_none hle] at hg; cases hg⟩

/- The code's bytes lie below some block. -/
def Old (a : Option Addr) (len B : Nat) : Prop := len = 0 ∨ ∀ x, a = some x → x.block < B
theorem Rd.old {w : World} {r : Nat} {a : Option Addr} {len cap : Nat} {zs : List Int} {p : Int} (h : Rd w r a len cap zs p) : Old a len w.heap.size := by
  rcases h.row with h0 | ⟨b, off, e, hb, hl, hc, hw⟩
  · exact .inl h0
  · by_cases h0 : len = 0
    · exact .inl h0
    · exact .inr fun x hx => by
        rw [e] at hx; cases hx
        exact World.block_lt_of_cell? w _ (hc 0 (by omega))
theorem Rd.carry2 {w w' : World} {r : Nat} {a : Option Addr} {len cap : Nat} {zs : List Int} {p : Int} (h : Rd w r a len cap zs p) {s B : Nat} (hs : Save s w w') (hr : s ≠ r) (ho : Old a len B) (hB : B ≤ s) : Rd w' r a len cap zs p := by
  rcases ho with h0 | ho
  · have hlt := h.lt
    refine ⟨?_, ?_, ?_, h.p0, h.p1, h.l1, .inl h0⟩
    · rw [hs.cell (q := ⟨r, 0, none⟩) (Ne.symm hr) hlt]; exact h.sl
    · rw [hs.cell (q := ⟨r, 1, none⟩) (Ne.symm hr) hlt]; exact h.pl
    · have := h.fz
      rw [World.frozen?_of_block (w := w) (hs.block r (Ne.symm hr) hlt)]; exact this
  · exact h.carry hs hr (fun x hx => by have := ho x hx; omega)

theorem rowOf_snoc (m : Nat) (f : Nat → Int) (x : Int) : rowOf m f ++ [.int .u64 x] = rowOf (m + 1) (fun j => if j < m then f j else x) := by
  unfold rowOf
  rw [List.range_succ, List.map_append]
  congr 1
  · apply List.map_congr_left
    intro j hj
    rw [List.mem_range] at hj
    show _ = Value.int .u64 (if j < m then f j else x)
    rw [if_pos hj]
  · simp

theorem one_cell (w : World) (t : TypeId) (x : Int) : ∀ j u, ([.int .u64 x] : List Value)[j]? = some u → (w.alloc (.cells #[.int .u64 x] t)).cell? ((⟨w.heap.size, 0, none⟩ : Addr).add j) = some u := fun j u hu => by
  match j, hu with
  | 0, hu => simp at hu; subst hu; rw [Addr.add_mid, cell_of_row _ _ _ _ _ _ (heap1_0 w _)]; rfl

open Aid
theorem save_below {r : Nat} {w w' : World} (h : Save r w w') {B : Nat} (hr : B ≤ r) (hB : B ≤ w.heap.size) : Below B w w' := h.below hr hB

theorem three_get (w : World) (t : TypeId) (x y z : Int) : ∀ i, i < 3 → (w.alloc (.cells #[.int .i64 x, .int .i64 y, .int .i64 z] t)).cell? ⟨w.heap.size, i, none⟩ = some (.int .i64 (([x, y, z] : List Int).getD i 0)) := fun i hi => by
  match i, hi with
  | 0, _ => go_simp
  | 1, _ => go_simp
  | 2, _ => go_simp

theorem there_save {r : Nat} {w w' : World} (h : Save r w w') {b o n : Nat} (ht : w.there b o n) (hb : b ≠ r) (hs : b < w.heap.size) : w'.there b o n := fun j hj => by
  have := ht j hj
  rw [h.cell (q := ⟨b, o + j, none⟩) hb hs, show w'.frozen? ⟨b, o + j, none⟩ = w.frozen? ⟨b, o + j, none⟩ from World.frozen?_of_block (w := w) (h.block b hb hs)]; exact this
theorem range_save {r : Nat} {w w' : World} (h : Save r w w') {b o : Nat} {cs : List Value} (ht : w.rangeAt b o cs) (hb : b ≠ r) (hs : b < w.heap.size) : w'.rangeAt b o cs := fun j v hv => by
  rw [h.cell (q := ⟨b, o + j, none⟩) hb hs]; exact ht j v hv
theorem three_cell {w : World} {b : Nat} {x y z : Int} (r : w.rangeAt b 0 (ints [x, y, z])) : w.cell? ⟨b, 0, none⟩ = some (.int .i64 x) ∧ w.cell? ⟨b, 1, none⟩ = some (.int .i64 y) ∧ w.cell? ⟨b, 2, none⟩ = some (.int .i64 z) := ⟨r 0 _ rfl, r 1 _ rfl, r 2 _ rfl⟩

theorem three_done {w w2 : World} {b B : Nat} (t : w2.there b 0 3) (h : Below B w w2) (hb : B ≤ b) (x y z : Int) :
    (((w2.setCell ⟨b, 0, none⟩ (.int .i64 x)).setCell ⟨b, 1, none⟩ (.int .i64 y)).setCell ⟨b, 2, none⟩ (.int .i64 z)).rangeAt b 0 (ints [x, y, z]) ∧
    Below B w (((w2.setCell ⟨b, 0, none⟩ (.int .i64 x)).setCell ⟨b, 1, none⟩ (.int .i64 y)).setCell ⟨b, 2, none⟩ (.int .i64 z)) :=
  ⟨World.rangeAt_setCells_same w2 b 0 (ints [x, y, z]) t, ((h.setCell hb _).setCell hb _).setCell hb _⟩

end Go.Proofs.YtbipolfbkemmpaaDoor.Draw
/- A call is drawn for a book that is only read: what it rests on while it goes: over no program. -/
namespace Go.Proofs.YtbipolfbkemmpaaDoor.Book
open Go.ChangeShapes Go.WideShapes Go.ChangeAt Go.RowKit
open Aid Lst Draw
set_option maxRecDepth 100000
set_option linter.unusedVariables false

/- A book that lies below a block, and not in the reader's. -/
def Bx.Off (b : Bx) (r N : Nat) : Prop := ∀ x ∈ b.lists, 0 < x.n → ∀ k o, x.a = some ⟨k, o, none⟩ → k ≠ r ∧ k < N
theorem at_save {b : Bx} {r : Nat} {w w' : World} (h : b.At w) (hs : Save r w w') (ho : b.Off r w.heap.size) : b.At w' := fun x hx => by
  by_cases h0 : x.n = 0
  · exact .inl h0
  rcases h x hx with g | ⟨k, o, e, g⟩
  · exact absurd g h0
  · obtain ⟨k1, k2⟩ := ho x hx (by omega) k o e
    exact .inr ⟨k, o, e, fun j hj => by rw [hs.cell (q := ⟨k, o + j, none⟩) k1 k2]; exact g j hj⟩
theorem off_of {b : Bx} {r : Nat} {w : World} (h : b.At w) (hr : ∀ x ∈ b.lists, 0 < x.n → ∀ k o, x.a = some ⟨k, o, none⟩ → k ≠ r) : b.Off r w.heap.size := fun x hx hn k o e => by
  refine ⟨hr x hx hn k o e, ?_⟩
  rcases h x hx with g | ⟨k', o', e', g⟩
  · omega
  · rw [e] at e'
    cases e'
    exact World.block_lt_of_cell? w _ (g 0 hn)

theorem save_of {s : Nat} {w w' : World} (h : Below w.heap.size w w') : Save s w w' := ⟨h.os, h.tape, h.output, h.size, fun k _ hk => h.block k hk⟩
theorem rd_later {w w' : World} {r : Nat} {a : Option Addr} {len cap : Nat} {zs : List Int} {p : Int} (h : Rd w r a len cap zs p) (hb : Below w.heap.size w w') : Rd w' r a len cap zs p :=
  h.carry2 (s := w.heap.size) (B := w.heap.size) (save_of hb) (by have := h.lt; omega) h.old (Nat.le_refl _)
theorem ck_save {w w' : World} {r k : Nat} {cs : List Value} (h : Ck w k cs) (hs : Save r w w') (hk : k ≠ r) (hl : k < w.heap.size) : Ck w' k cs := ck_block h (hs.block k hk hl)

theorem save_setCells {b : Nat} {a : World} : ∀ (vs : List Value) (o : Nat) (w : World), Save b a w → Save b a (w.setCells b o vs)
  | [], _, _, h => h
  | v :: r, o, w, h => save_setCells r (o + 1) _ (h.setCell (q := ⟨b, o, none⟩) rfl v)
def z4 : List Value := [.int .i64 0, .int .i64 0, .int .i64 0, .int .i64 0]
structure Lo (w0 : World) (r : Nat) (ra : Option Addr) (rl rc : Nat) (zs : List Int) (P : Int) (b : Bx) (v : Nat) (o : Ox) (w : World) : Prop where
  e : w.rangeAt w0.heap.size 0 b.cells
  t : Ck w (w0.heap.size + 1) z4
  p : Ck w v o.cells
  d : ∃ p, p ≤ P ∧ Rd w r ra rl rc zs p
  s : Save r w0 w
  v0 : w0.heap.size + 2 ≤ v
  v1 : v < w.heap.size
  q : Old ra rl w0.heap.size
  r0 : r < w0.heap.size

theorem Lo.later {w0 w w1 : World} {r : Nat} {ra : Option Addr} {rl rc : Nat} {zs : List Int} {P : Int} {b : Bx} {v : Nat} {o : Ox} (h : Lo w0 r ra rl rc zs P b v o w) (hb : Below w.heap.size w w1) : Lo w0 r ra rl rc zs P b v o w1 := by
  have := h.v0
  have := h.v1
  obtain ⟨p, p1, hd⟩ := h.d
  exact ⟨range_below hb h.e (by omega), h.t.below hb (by omega), h.p.below hb h.v1, ⟨p, p1, rd_later hd hb⟩, h.s.trans (save_of hb), h.v0, Nat.lt_of_lt_of_le h.v1 hb.size, h.q, h.r0⟩
theorem Lo.read {w0 w w1 : World} {r : Nat} {ra : Option Addr} {rl rc : Nat} {zs : List Int} {P p : Int} {b : Bx} {v : Nat} {o : Ox} (h : Lo w0 r ra rl rc zs P b v o w) (hs : Save r w w1) (hd : Rd w1 r ra rl rc zs p) (hp : p ≤ P + 1) : Lo w0 r ra rl rc zs (P + 1) b v o w1 := by
  have := h.v0
  have := h.v1
  have := h.r0
  exact ⟨range_save hs h.e (by omega) (by omega), ck_save h.t hs (by omega) (by omega), ck_save h.p hs (by omega) h.v1, ⟨p, hp, hd⟩, h.s.trans hs, h.v0, Nat.lt_of_lt_of_le h.v1 hs.size, h.q, h.r0⟩
/- A number of what is called is written. -/
theorem Lo.set {w0 w : World} {r : Nat} {ra : Option Addr} {rl rc : Nat} {zs : List Int} {P : Int} {b : Bx} {v : Nat} {o o' : Ox} (h : Lo w0 r ra rl rc zs P b v o w) (j : Nat) (x : Int) (ho : o'.cells = o.cells.set j (.int .i64 x)) : Lo w0 r ra rl rc zs P b v o' (w.setCell ⟨v, j, none⟩ (.int .i64 x)) := by
  have := h.v0
  have := h.v1
  have := h.r0
  have sv : Save v w (w.setCell ⟨v, j, none⟩ (.int .i64 x)) := (Save.refl v w).setCell rfl _
  obtain ⟨p, p1, hd⟩ := h.d
  refine ⟨range_save sv h.e (by omega) (by omega), ck_save h.t sv (by omega) (by omega), by rw [ho]; exact h.p.set j _, ⟨p, p1, hd.carry2 (B := w0.heap.size) sv (by omega) h.q (by omega)⟩, ⟨sv.os.trans h.s.os, sv.tape.trans h.s.tape, sv.output.trans h.s.output, Nat.le_trans h.s.size sv.size, fun k hk hl => (sv.block k (by omega) (by have := h.s.size; omega)).trans (h.s.block k hk hl)⟩, h.v0, by simpa [World.setCell] using h.v1, h.q, h.r0⟩
theorem Lo.at {w0 w : World} {r : Nat} {ra : Option Addr} {rl rc : Nat} {zs : List Int} {P : Int} {b : Bx} {v : Nat} {o : Ox} (h : Lo w0 r ra rl rc zs P b v o w) (ha : b.At w0) (ho : b.Off r w0.heap.size) : b.At w := at_save ha h.s ho

/- The answer. -/
def OpQ (w0 : World) (r : Nat) (ra : Option Addr) (rl rc : Nat) (zs : List Int) (P : Int) (e : Ending) (w' : World) : Prop := ∃ o : Ox, e = .returned (.agg o.cells.toArray) ∧ (∃ p, p ≤ P ∧ Rd w' r ra rl rc zs p) ∧ Save r w0 w'
theorem Lo.ans {w0 w : World} {r : Nat} {ra : Option Addr} {rl rc : Nat} {zs : List Int} {P : Int} {b : Bx} {v : Nat} {o : Ox} (h : Lo w0 r ra rl rc zs P b v o w) :
    (w.setCells (w0.heap.size + 1) 0 o.cells.toArray.toList).rangeAt (w0.heap.size + 1) 0 o.cells ∧ (∃ p, p ≤ P ∧ Rd (w.setCells (w0.heap.size + 1) 0 o.cells.toArray.toList) r ra rl rc zs p) ∧ Save r w0 (w.setCells (w0.heap.size + 1) 0 o.cells.toArray.toList) ∧ w.there (w0.heap.size + 1) 0 4 := by
  have := h.v0
  have := h.v1
  have := h.r0
  have th : w.there (w0.heap.size + 1) 0 4 := fun j hj => by
    have g := h.t j _ (List.getElem?_eq_getElem (show j < z4.length from hj))
    rw [Nat.zero_add, g.1]
    exact ⟨rfl, g.2⟩
  have sv : Save (w0.heap.size + 1) w (w.setCells (w0.heap.size + 1) 0 o.cells.toArray.toList) := by
    exact save_setCells _ _ _ (Save.refl _ w)
  obtain ⟨p, p1, hd⟩ := h.d
  exact ⟨World.rangeAt_setCells_same _ _ _ _ th, ⟨p, p1, hd.carry2 (B := w0.heap.size) sv (by omega) h.q (by omega)⟩, ⟨sv.os.trans h.s.os, sv.tape.trans h.s.tape, sv.output.trans h.s.output, Nat.le_trans h.s.size sv.size, fun k hk hl => (sv.block k (by omega) (by have := h.s.size; omega)).trans (h.s.block k hk hl)⟩, th⟩
theorem ox_one (o : Ox) : o.cells.toArray.all (·.oneCell') = true := by simp [Ox.cells, Value.oneCell']
theorem lit_get (w : World) (t : TypeId) (xs : List Int) : ∀ i, i < xs.length → (w.alloc (.cells (ints xs).toArray t)).cell? ⟨w.heap.size, i, none⟩ = some (.int .i64 (xs.getD i 0)) := fun i hi => by
  have := range_lit (ints xs).toArray (heap1_0 w (.cells (ints xs).toArray t)) i _ (ints_get xs i hi)
  rwa [Nat.zero_add] at this

end Go.Proofs.YtbipolfbkemmpaaDoor.Book

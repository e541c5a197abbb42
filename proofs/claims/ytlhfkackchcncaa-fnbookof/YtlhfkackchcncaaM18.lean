import Derived.Test.YtlhfkackchcncaaM16
import Derived.Test.YtlhfkackchcncaaM17
import Derived.Test.YtlhfkackchcncaaM1
import Derived.Test.YtlhfkackchcncaaM15

/- Reading a code: words, an address and two words; a house. Conditions: the code is a slice of bytes that can be read. -/
namespace Go.Proofs.Ytlhfkackchcncaa.Draw
open Go.ChangeShapes Go.WideShapes Go.ChangeAt Go.RowKit
open Go.Proofs.Ytlhfkackchcncaa.Aid Go.Proofs.Ytlhfkackchcncaa.Lst Go.Proofs.Ytlhfkackchcncaa.Plat

theorem results_tmp4 {fn : Func} {t u v x : Tmp} (h : fn.results = #[.tmp t, .tmp u, .tmp v, .tmp x]) (tmps : Array Value) (P : Program) (w : World) :
    (results fn tmps).run P w = .ok (.tuple #[tmps.getD t undef, tmps.getD u undef, tmps.getD v undef, tmps.getD x undef]) w := by
  simp [results, h]

/- What is owned is so still where only the reader has turned. -/
theorem own_save {w w' : World} {r base n : Nat} {e : TypeId} {v : Value} {xs : List Value} (h : w.ownsRow base e 1 v n xs) (hs : Save r w w') (hr : r < base) : w'.ownsRow base e 1 v n xs := by
  obtain ⟨hl, h | ⟨g, cap, cur, hv, hb, hg, h1, h2, h3, h4⟩⟩ := h
  · exact ⟨hl, .inl h⟩
  · have hlt : g < w.heap.size := Nat.lt_of_not_le fun hle => by rw [Array.getElem?_eq_none hle] at hg; cases hg
    exact ⟨hl, .inr ⟨g, cap, cur, hv, hb, by rw [hs.block g (by omega) hlt]; exact hg, h1, h2, h3, h4⟩⟩

theorem save_grown {w w' : World} {g : Nat} (h : w.grownBy w' (some g)) : Save g w w' :=
  ⟨h.os, h.tape, h.output, h.size, fun k hk hs => h.block k hs (fun e => hk (by injection e with e))⟩

theorem own_block {w : World} {base n : Nat} {e : TypeId} {v : Value} {xs : List Value} (h : w.ownsRow base e 1 v n xs) (hv : ¬ v = .slice none 0 0) : ∃ g, Hid (v.ownBlock = some g) ∧ base ≤ g ∧ g < w.heap.size := by
  obtain ⟨_, h | ⟨g, cap, cur, rfl, hb, hg, _⟩⟩ := h
  · exact absurd h.1 hv
  · exact ⟨g, rfl, hb, Nat.lt_of_not_le fun hle => by rw [Array.getElem?_eq_none hle] at hg; cases hg⟩

/- The code's bytes lie below some block. -/
def Old (a : Option Addr) (len B : Nat) : Prop := len = 0 ∨ ∀ x, a = some x → x.block < B
theorem Rd.old {w : World} {r : Nat} {a : Option Addr} {len cap : Nat} {zs : List Int} {p : Int} (h : Rd w r a len cap zs p) : Old a len w.heap.size := by
  rcases h.row with h0 | ⟨b, off, e, hb, hl, hc, hw⟩
  · exact .inl h0
  · by_cases h0 : len = 0
    · exact .inl h0
    · exact .inr fun x hx => by
        rw [e] at hx; cases hx
        exact World.block_lt_of_cell? w _ (hc 0 (by omega))
theorem Rd.carry2 {w w' : World} {r : Nat} {a : Option Addr} {len cap : Nat} {zs : List Int} {p : Int} (h : Rd w r a len cap zs p) {s B : Nat} (hs : Save s w w') (hr : s ≠ r) (ho : Old a len B) (hB : B ≤ s) : Rd w' r a len cap zs p := by
  rcases ho with h0 | ho
  · have hlt := h.lt
    refine ⟨?_, ?_, ?_, h.p0, h.p1, h.l1, .inl h0⟩
    · rw [hs.cell (q := ⟨r, 0, none⟩) (Ne.symm hr) hlt]; exact h.sl
    · rw [hs.cell (q := ⟨r, 1, none⟩) (Ne.symm hr) hlt]; exact h.pl
    · have := h.fz
      rw [World.frozen?_of_block (w := w) (hs.block r (Ne.symm hr) hlt)]; exact this
  · exact h.carry hs hr (fun x hx => by have := ho x hx; omega)

theorem rowOf_snoc (m : Nat) (f : Nat → Int) (x : Int) : rowOf m f ++ [.int .u64 x] = rowOf (m + 1) (fun j => if j < m then f j else x) := by
  unfold rowOf
  rw [List.range_succ, List.map_append]
  congr 1
  · apply List.map_congr_left
    intro j hj
    rw [List.mem_range] at hj
    show _ = Value.int .u64 (if j < m then f j else x)
    rw [if_pos hj]
  · simp

theorem one_cell (w : World) (t : TypeId) (x : Int) : ∀ j u, ([.int .u64 x] : List Value)[j]? = some u → (w.alloc (.cells #[.int .u64 x] t)).cell? ((⟨w.heap.size, 0, none⟩ : Addr).add j) = some u := fun j u hu => by
  match j, hu with
  | 0, hu => simp at hu; subst hu; rw [Addr.add_mid, cell_of_row _ _ _ _ _ _ (heap1_0 w _)]; rfl

end Go.Proofs.Ytlhfkackchcncaa.Draw

/- Reading a code: a house, bent or not. Conditions: the code is a slice of bytes that can be read. -/
namespace Go.Proofs.Ytlhfkackchcncaa.Draw
open Go.ChangeShapes Go.WideShapes Go.ChangeAt Go.RowKit
open Go.Proofs.Ytlhfkackchcncaa.Aid

theorem save_below {r : Nat} {w w' : World} (h : Save r w w') {B : Nat} (hr : B ≤ r) (hB : B ≤ w.heap.size) : Below B w w' := h.below hr hB

theorem three_get (w : World) (t : TypeId) (x y z : Int) : ∀ i, i < 3 → (w.alloc (.cells #[.int .i64 x, .int .i64 y, .int .i64 z] t)).cell? ⟨w.heap.size, i, none⟩ = some (.int .i64 (([x, y, z] : List Int).getD i 0)) := fun i hi => by
  match i, hi with
  | 0, _ => go_simp
  | 1, _ => go_simp
  | 2, _ => go_simp

theorem there_save {r : Nat} {w w' : World} (h : Save r w w') {b o n : Nat} (ht : w.there b o n) (hb : b ≠ r) (hs : b < w.heap.size) : w'.there b o n := fun j hj => by
  have := ht j hj
  rw [h.cell (q := ⟨b, o + j, none⟩) hb hs, show w'.frozen? ⟨b, o + j, none⟩ = w.frozen? ⟨b, o + j, none⟩ from World.frozen?_of_block (w := w) (h.block b hb hs)]; exact this
theorem range_save {r : Nat} {w w' : World} (h : Save r w w') {b o : Nat} {cs : List Value} (ht : w.rangeAt b o cs) (hb : b ≠ r) (hs : b < w.heap.size) : w'.rangeAt b o cs := fun j v hv => by
  rw [h.cell (q := ⟨b, o + j, none⟩) hb hs]; exact ht j v hv
theorem three_cell {w : World} {b : Nat} {x y z : Int} (r : w.rangeAt b 0 (ints [x, y, z])) : w.cell? ⟨b, 0, none⟩ = some (.int .i64 x) ∧ w.cell? ⟨b, 1, none⟩ = some (.int .i64 y) ∧ w.cell? ⟨b, 2, none⟩ = some (.int .i64 z) := ⟨r 0 _ rfl, r 1 _ rfl, r 2 _ rfl⟩

theorem three_done {w w2 : World} {b B : Nat} (t : w2.there b 0 3) (h : Below B w w2) (hb : B ≤ b) (x y z : Int) :
    (((w2.setCell ⟨b, 0, none⟩ (.int .i64 x)).setCell ⟨b, 1, none⟩ (.int .i64 y)).setCell ⟨b, 2, none⟩ (.int .i64 z)).rangeAt b 0 (ints [x, y, z]) ∧
    Below B w (((w2.setCell ⟨b, 0, none⟩ (.int .i64 x)).setCell ⟨b, 1, none⟩ (.int .i64 y)).setCell ⟨b, 2, none⟩ (.int .i64 z)) :=
  ⟨World.rangeAt_setCells_same w2 b 0 (ints [x, y, z]) t, ((h.setCell hb _).setCell hb _).setCell hb _⟩

end Go.Proofs.Ytlhfkackchcncaa.Draw

/- A call is drawn for a book that is only read: what it rests on while it goes: over no program. -/
namespace Go.Proofs.Ytlhfkackchcncaa.Book
open Go.ChangeShapes Go.WideShapes Go.ChangeAt Go.RowKit
open Go.Proofs.Ytlhfkackchcncaa.Aid Go.Proofs.Ytlhfkackchcncaa.Lst Go.Proofs.Ytlhfkackchcncaa.Draw
set_option maxRecDepth 100000
set_option linter.unusedVariables false

/- A book that lies below a block, and not in the reader's. -/
def Bx.Off (b : Bx) (r N : Nat) : Prop := ∀ x ∈ b.lists, 0 < x.n → ∀ k o, x.a = some ⟨k, o, none⟩ → k ≠ r ∧ k < N
theorem at_save {b : Bx} {r : Nat} {w w' : World} (h : b.At w) (hs : Save r w w') (ho : b.Off r w.heap.size) : b.At w' := fun x hx => by
  by_cases h0 : x.n = 0
  · exact .inl h0
  rcases h x hx with g | ⟨k, o, e, g⟩
  · exact absurd g h0
  · obtain ⟨k1, k2⟩ := ho x hx (by omega) k o e
    exact .inr ⟨k, o, e, fun j hj => by rw [hs.cell (q := ⟨k, o + j, none⟩) k1 k2]; exact g j hj⟩
theorem off_of {b : Bx} {r : Nat} {w : World} (h : b.At w) (hr : ∀ x ∈ b.lists, 0 < x.n → ∀ k o, x.a = some ⟨k, o, none⟩ → k ≠ r) : b.Off r w.heap.size := fun x hx hn k o e => by
  refine ⟨hr x hx hn k o e, ?_⟩
  rcases h x hx with g | ⟨k', o', e', g⟩
  · omega
  · rw [e] at e'
    cases e'
    exact World.block_lt_of_cell? w _ (g 0 hn)

theorem save_of {s : Nat} {w w' : World} (h : Below w.heap.size w w') : Save s w w' := ⟨h.os, h.tape, h.output, h.size, fun k _ hk => h.block k hk⟩
theorem rd_later {w w' : World} {r : Nat} {a : Option Addr} {len cap : Nat} {zs : List Int} {p : Int} (h : Rd w r a len cap zs p) (hb : Below w.heap.size w w') : Rd w' r a len cap zs p :=
  h.carry2 (s := w.heap.size) (B := w.heap.size) (save_of hb) (by have := h.lt; omega) h.old (Nat.le_refl _)
theorem ck_save {w w' : World} {r k : Nat} {cs : List Value} (h : Ck w k cs) (hs : Save r w w') (hk : k ≠ r) (hl : k < w.heap.size) : Ck w' k cs := ck_block h (hs.block k hk hl)

theorem save_setCells {b : Nat} {a : World} : ∀ (vs : List Value) (o : Nat) (w : World), Save b a w → Save b a (w.setCells b o vs)
  | [], _, _, h => h
  | v :: r, o, w, h => save_setCells r (o + 1) _ (h.setCell (q := ⟨b, o, none⟩) rfl v)
def z4 : List Value := [.int .i64 0, .int .i64 0, .int .i64 0, .int .i64 0]
structure Lo (w0 : World) (r : Nat) (ra : Option Addr) (rl rc : Nat) (zs : List Int) (P : Int) (b : Bx) (v : Nat) (o : Ox) (w : World) : Prop where
  e : w.rangeAt w0.heap.size 0 b.cells
  t : Ck w (w0.heap.size + 1) z4
  p : Ck w v o.cells
  d : ∃ p, p ≤ P ∧ Rd w r ra rl rc zs p
  s : Save r w0 w
  v0 : w0.heap.size + 2 ≤ v
  v1 : v < w.heap.size
  q : Old ra rl w0.heap.size
  r0 : r < w0.heap.size

theorem Lo.later {w0 w w1 : World} {r : Nat} {ra : Option Addr} {rl rc : Nat} {zs : List Int} {P : Int} {b : Bx} {v : Nat} {o : Ox} (h : Lo w0 r ra rl rc zs P b v o w) (hb : Below w.heap.size w w1) : Lo w0 r ra rl rc zs P b v o w1 := by
  have := h.v0
  have := h.v1
  obtain ⟨p, p1, hd⟩ := h.d
  exact ⟨range_below hb h.e (by omega), h.t.below hb (by omega), h.p.below hb h.v1, ⟨p, p1, rd_later hd hb⟩, h.s.trans (save_of hb), h.v0, Nat.lt_of_lt_of_le h.v1 hb.size, h.q, h.r0⟩
theorem Lo.read {w0 w w1 : World} {r : Nat} {ra : Option Addr} {rl rc : Nat} {zs : List Int} {P p : Int} {b : Bx} {v : Nat} {o : Ox} (h : Lo w0 r ra rl rc zs P b v o w) (hs : Save r w w1) (hd : Rd w1 r ra rl rc zs p) (hp : p ≤ P + 1) : Lo w0 r ra rl rc zs (P + 1) b v o w1 := by
  have := h.v0
  have := h.v1
  have := h.r0
  exact ⟨range_save hs h.e (by omega) (by omega), ck_save h.t hs (by omega) (by omega), ck_save h.p hs (by omega) h.v1, ⟨p, hp, hd⟩, h.s.trans hs, h.v0, Nat.lt_of_lt_of_le h.v1 hs.size, h.q, h.r0⟩
/- A number of what is called is written. -/
theorem Lo.set {w0 w : World} {r : Nat} {ra : Option Addr} {rl rc : Nat} {zs : List Int} {P : Int} {b : Bx} {v : Nat} {o o' : Ox} (h : Lo w0 r ra rl rc zs P b v o w) (j : Nat) (x : Int) (ho : o'.cells = o.cells.set j (.int .i64 x)) : Lo w0 r ra rl rc zs P b v o' (w.setCell ⟨v, j, none⟩ (.int .i64 x)) := by
  have := h.v0
  have := h.v1
  have := h.r0
  have sv : Save v w (w.setCell ⟨v, j, none⟩ (.int .i64 x)) := (Save.refl v w).setCell rfl _
  obtain ⟨p, p1, hd⟩ := h.d
  refine ⟨range_save sv h.e (by omega) (by omega), ck_save h.t sv (by omega) (by omega), by rw [ho]; exact h.p.set j _, ⟨p, p1, hd.carry2 (B := w0.heap.size) sv (by omega) h.q (by omega)⟩, ⟨sv.os.trans h.s.os, sv.tape.trans h.s.tape, sv.output.trans h.s.output, Nat.le_trans h.s.size sv.size, fun k hk hl => (sv.block k (by omega) (by have := h.s.size; omega)).trans (h.s.block k hk hl)⟩, h.v0, by simpa [World.setCell] using h.v1, h.q, h.r0⟩
theorem Lo.at {w0 w : World} {r : Nat} {ra : Option Addr} {rl rc : Nat} {zs : List Int} {P : Int} {b : Bx} {v : Nat} {o : Ox} (h : Lo w0 r ra rl rc zs P b v o w) (ha : b.At w0) (ho : b.Off r w0.heap.size) : b.At w := at_save ha h.s ho

/- The answer. -/
def OpQ (w0 : World) (r : Nat) (ra : Option Addr) (rl rc : Nat) (zs : List Int) (P : Int) (e : Ending) (w' : World) : Prop := ∃ o : Ox, e = .returned (.agg o.cells.toArray) ∧ (∃ p, p ≤ P ∧ Rd w' r ra rl rc zs p) ∧ Save r w0 w'
theorem Lo.ans {w0 w : World} {r : Nat} {ra : Option Addr} {rl rc : Nat} {zs : List Int} {P : Int} {b : Bx} {v : Nat} {o : Ox} (h : Lo w0 r ra rl rc zs P b v o w) :
    (w.setCells (w0.heap.size + 1) 0 o.cells.toArray.toList).rangeAt (w0.heap.size + 1) 0 o.cells ∧ (∃ p, p ≤ P ∧ Rd (w.setCells (w0.heap.size + 1) 0 o.cells.toArray.toList) r ra rl rc zs p) ∧ Save r w0 (w.setCells (w0.heap.size + 1) 0 o.cells.toArray.toList) ∧ w.there (w0.heap.size + 1) 0 4 := by
  have := h.v0
  have := h.v1
  have := h.r0
  have th : w.there (w0.heap.size + 1) 0 4 := fun j hj => by
    have g := h.t j _ (List.getElem?_eq_getElem (show j < z4.length from hj))
    rw [Nat.zero_add, g.1]
    exact ⟨rfl, g.2⟩
  have sv : Save (w0.heap.size + 1) w (w.setCells (w0.heap.size + 1) 0 o.cells.toArray.toList) := by
    exact save_setCells _ _ _ (Save.refl _ w)
  obtain ⟨p, p1, hd⟩ := h.d
  exact ⟨World.rangeAt_setCells_same _ _ _ _ th, ⟨p, p1, hd.carry2 (B := w0.heap.size) sv (by omega) h.q (by omega)⟩, ⟨sv.os.trans h.s.os, sv.tape.trans h.s.tape, sv.output.trans h.s.output, Nat.le_trans h.s.size sv.size, fun k hk hl => (sv.block k (by omega) (by have := h.s.size; omega)).trans (h.s.block k hk hl)⟩, th⟩
theorem ox_one (o : Ox) : o.cells.toArray.all (·.oneCell') = true := by simp [Ox.cells, Value.oneCell']
theorem lit_get (w : World) (t : TypeId) (xs : List Int) : ∀ i, i < xs.length → (w.alloc (.cells (ints xs).toArray t)).cell? ⟨w.heap.size, i, none⟩ = some (.int .i64 (xs.getD i 0)) := fun i hi => by
  have := range_lit (ints xs).toArray (heap1_0 w (.cells (ints xs).toArray t)) i _ (ints_get xs i hi)
  rwa [Nat.zero_add] at this

end Go.Proofs.Ytlhfkackchcncaa.Book

/- A world that is handed in, opened: its words, and its guests one behind the other in a row. -/
import Derived.Test.YtpfgldbmihbiiaaGop
import Derived.Deep.Slices
namespace Go.Proofs.Ytpfgldbmihbiiaa.Gs
open Go.ChangeShapes Go.WideShapes Go.ChangeAt Go.RowKit
open Go.Proofs.Ytpfgldbmihbiiaa.Aid Go.Proofs.Ytpfgldbmihbiiaa.Lst Go.Proofs.Ytpfgldbmihbiiaa.Plat
open Go.Proofs.Ytpfgldbmihbiiaa.Book (Sx)
set_option maxRecDepth 100000
set_option linter.unusedVariables false

/- A world: its words; where its guests lie, how many they are, and each. -/
structure Wx where
  ws : Sx
  a : Option Addr
  n : Nat
  c : Nat
  g : Nat → Gx

def Wx.cells (x : Wx) : List Value := [.slice x.ws.a x.ws.n x.ws.c, .slice x.a x.n x.c]
/- Guests in a row, 26 cells each. -/
def RowG (w : World) (a : Option Addr) (n : Nat) (g : Nat → Gx) : Prop := n = 0 ∨ ∃ b off, a = some ⟨b, off, none⟩ ∧ ∀ j, j < n → w.rangeAt b (off + j * 26) (g j).cells
structure Wx.At (x : Wx) (w : World) : Prop where
  ws : Sl .u64 w x.ws.a x.ws.n x.ws.f
  row : RowG w x.a x.n x.g
  each : ∀ j, j < x.n → (x.g j).At w
structure Wx.Good (x : Wx) (w : World) : Prop where
  ws : Good64 x.ws w
  row : RowG w x.a x.n x.g
  each : ∀ j, j < x.n → (x.g j).Good w
  lim : x.n ≤ maxLen
theorem Wx.Good.at {x : Wx} {w : World} (h : x.Good w) : x.At w := ⟨h.ws.1, h.row, fun j hj => (h.each j hj).at⟩

theorem RowG.later {w w1 : World} {a : Option Addr} {n : Nat} {g : Nat → Gx} (h : RowG w a n g) (hb : Below w.heap.size w w1) : RowG w1 a n g := by
  rcases h with h | ⟨b, off, e, h⟩
  · exact .inl h
  · refine .inr ⟨b, off, e, fun j hj => range_below hb (h j hj) ?_⟩
    exact World.block_lt_of_cell? w _ (h j hj 0 _ rfl)
theorem Wx.At.later {x : Wx} {w w1 : World} (h : x.At w) (hb : Below w.heap.size w w1) : x.At w1 := ⟨h.ws.later hb, h.row.later hb, fun j hj => (h.each j hj).later hb⟩

theorem open_world {H : Type} {enc : TypeId × Value → H} {w : World} {r : Reach} {b0 : Nat} {v : Value} {d : DataW H} {p : List MemPlace} (hv : Value.okWide Try.prog w r b0 25 v) (h : DataW.Trod enc Try.prog w 0 (fun _ => true) true 25 v d p) :
    ∃ x : Wx, v = .agg x.cells.toArray ∧ x.Good w := by
  obtain ⟨cs, rfl, hsz⟩ := okWide_struct Try.underlying25 hv
  have h2 : cs.size = 2 := hsz.trans (by kernel_rfl)
  obtain ⟨c0, c1, rfl⟩ : ∃ c0 c1, cs = #[c0, c1] := by
    obtain ⟨l⟩ := cs
    match l, h2 with
    | [c0, c1], _ => exact ⟨c0, c1, rfl⟩
  obtain ⟨fuel, hf⟩ := h
  obtain ⟨xs, n, _, _, _, hlen, hfl⟩ := DataW.trod_struct Try.underlying25 hf
  match xs, hlen with
  | [y0, y1], _ =>
    have k1 : Try.prog.cellsOf 22 = 1 := by kernel_rfl
    have k2 : Try.prog.cellsOf 23 = 1 := by kernel_rfl
    have k3 : Try.prog.cellsOf 67 = 26 := by kernel_rfl
    have g0 := hfl 0 _ rfl
    have g1 := hfl 1 _ rfl
    simp [Value.cells, k1, k2] at g0 g1
    obtain ⟨ws, rfl, hw⟩ := open_words g0
    haveI : Inhabited Gx := ⟨⟨false, 0, 0, false, 0, 0, 0, 0, 0, 0, 0, 0, 0, 0, 0, false, 0, 0, 0, 0, 0, ⟨none, 0, 0, fun _ => 0⟩, ⟨none, 0, 0, fun _ => 0⟩, 0, 0, 0⟩⟩
    rcases Go.Deep.open_slice Try.underlying23 g1 with ⟨hcs, _⟩ | ⟨a, len, cap, m, fu, D, Pl, hcs, -, hl, hm, hmm, -, hx⟩
    · simp at hcs
      subst hcs
      exact ⟨⟨ws, none, 0, 0, fun _ => default⟩, rfl, ⟨hw, .inl rfl, fun j hj => absurd hj (Nat.not_lt_zero j), Nat.zero_le _⟩⟩
    · simp at hcs hmm
      subst hcs hmm
      rw [k3] at hx
      obtain ⟨g, hg⟩ := Go.Deep.choose_lt (α := Gx) (p := fun i g => (∀ j v, g.cells[j]? = some v → w.cell? ((a.add (i * 26)).add j) = some v) ∧ g.Good w) (fun i hi => by
        obtain ⟨cs', h1, h2⟩ := hx i hi
        obtain ⟨_, hlen', hcell⟩ := World.cells?_some h1
        obtain ⟨g, rfl, gg⟩ := open_guest hlen' h2
        refine ⟨g, fun j v hj => ?_, gg⟩
        have hj26 : j < 26 := by
          rcases Nat.lt_or_ge j 26 with h | h
          · exact h
          · rw [List.getElem?_eq_none (by rw [Gx.len]; exact h)] at hj; cases hj
        rw [hcell j hj26]
        exact hj)
      refine ⟨⟨ws, some a, len, m, g⟩, rfl, ⟨hw, ?_, fun j hj => (hg j (Nat.lt_of_lt_of_le (show j < len from hj) hl)).2, by simp only; omega⟩⟩
      by_cases h0 : len = 0
      · exact .inl h0
      · have c := (hg 0 (by omega)).1 0 _ rfl
        obtain ⟨b, off, spot⟩ := a
        have hs : spot = none := by simpa [Addr.add] using World.cell?_spot c
        subst hs
        refine .inr ⟨b, off, rfl, fun j hj i u hu => ?_⟩
        have q := (hg j (Nat.lt_of_lt_of_le (show j < len from hj) hl)).1 i u hu
        rw [Addr.add_mid, Addr.add_mid] at q
        exact q

end Go.Proofs.Ytpfgldbmihbiiaa.Gs

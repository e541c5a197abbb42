/- Reading a code: opening it; a number about some bounds; a value and a stamp. Conditions: the code is a slice of bytes that can be read. -/
import Derived.Test.YtfijhclocncplaaDraw
namespace Go.Proofs.Ytfijhclocncplaa.Draw
open Go.ChangeShapes Go.WideShapes Go.ChangeAt Go.RowKit

/- A slice of bytes that came in: it is empty, or leads to a row of bytes. -/
def Row (w : World) (a : Option Addr) (len cap : Nat) (zs : List Int) : Prop :=
  len ≤ maxLen ∧ (len = 0 ∨ ∃ b off, a = some ⟨b, off, none⟩ ∧ len ≤ cap ∧ zs.length = cap ∧ cap ≤ maxLen ∧ (∀ i, i < zs.length → w.cell? ⟨b, off + i, none⟩ = some (.int .u8 (zs.getD i 0))) ∧ ∀ n ∈ zs, (Lit.int .u8 n).wf = true)

theorem row_of {w : World} {a : Option Addr} {len cap : Nat} {zs : List Int} (h : (a = none ∧ len = 0 ∧ cap = 0 ∧ zs = []) ∨
    ∃ x, a = some x ∧ len ≤ cap ∧ cap ≤ maxLen ∧ zs.length = cap ∧ (∀ i, i < zs.length → w.cell? (x.add i) = some (.int .u8 (zs.getD i 0))) ∧ ∀ n ∈ zs, (Lit.int .u8 n).wf = true) : Row w a len cap zs := by
  rcases h with ⟨rfl, rfl, rfl, rfl⟩ | ⟨x, rfl, hl, hm, hz, hc, hw⟩
  · exact ⟨Nat.zero_le _, .inl rfl⟩
  · refine ⟨Nat.le_trans hl hm, ?_⟩
    by_cases h0 : len = 0
    · exact .inl h0
    · obtain ⟨b, off, spot⟩ := x
      have h1 := hc 0 (by omega)
      have hspot : spot = none := by simpa [Addr.add] using World.cell?_spot h1
      subst hspot
      exact .inr ⟨b, off, rfl, hl, hz, hm, fun i hi => by have := hc i hi; simp only [Addr.add] at this; split at this <;> simp_all, hw⟩

theorem Row.below {w w' : World} {a : Option Addr} {len cap : Nat} {zs : List Int} (h : Row w a len cap zs) (hb : Below w.heap.size w w') : Row w' a len cap zs := by
  obtain ⟨hm, h | ⟨b, off, e, hl, hz, hc, hx, hw⟩⟩ := h
  · exact ⟨hm, .inl h⟩
  · refine ⟨hm, .inr ⟨b, off, e, hl, hz, hc, fun i hi => ?_, hw⟩⟩
    have := hx i hi
    rw [hb.cell (p := ⟨b, off + i, none⟩) (World.block_lt_of_cell? w _ this)]; exact this

theorem open_any (a : Option Addr) (len cap : Nat) (zs : List Int) (w : World) (h : Row w a len cap zs) :
    Calls Try.prog 53 #[.slice a len cap] w fun e w' => e = .returned (.pointer (some ⟨w.heap.size, 0, none⟩)) ∧ (∃ n c, Rd w' w.heap.size a n c zs 0) ∧ Below w.heap.size w w' := by
  obtain ⟨hm, h | ⟨b, off, rfl, hl, hz, hc, hx, hw⟩⟩ := h
  · subst h
    go_enter Try.func53, Try.ntmps53
    go_wp2
    all_goals go_ret
    refine ⟨rfl, ⟨0, cap, ?_, ?_, ?_, by omega, by omega, by omega, .inl rfl⟩, (Below.refl _ _).alloc (Nat.le_refl _) _⟩
    all_goals go_simp
  · unfold maxLen at hm hc
    have hxH : Hid (∀ i, i < zs.length → w.cell? ⟨b, off + i, none⟩ = some (.int .u8 (zs.getD i 0))) := hx
    have hwH : Hid (∀ n ∈ zs, (Lit.int .u8 n).wf = true) := hw
    clear hx hw
    by_cases h2 : (2000 : Int) < len
    · go_enter Try.func53, Try.ntmps53
      go_wp2
      go_ret
      refine ⟨rfl, ⟨2000, cap, ?_, ?_, ?_, by omega, by omega, by omega, .inr ⟨b, off, rfl, ?_, by omega, fun i hi => ?_, hwH.out⟩⟩, (Below.refl _ _).alloc (Nat.le_refl _) _⟩
      · go_simp
      · go_simp
      · go_simp
      · have := World.block_lt_of_cell? w _ (hxH.out 0 (by omega)); simp at this; omega
      · have hi' := hxH.out i hi
        rw [World.cell?_alloc_lt _ _ _ (World.block_lt_of_cell? w _ hi')]; exact hi'
    · by_cases h0 : len = 0
      · subst h0
        go_enter Try.func53, Try.ntmps53
        go_wp2
        go_ret
        refine ⟨rfl, ⟨0, cap, ?_, ?_, ?_, by omega, by omega, by omega, .inl rfl⟩, (Below.refl _ _).alloc (Nat.le_refl _) _⟩
        all_goals go_simp
      · go_enter Try.func53, Try.ntmps53
        go_wp2
        go_ret
        refine ⟨rfl, ⟨len, cap, ?_, ?_, ?_, by omega, by omega, by omega, .inr ⟨b, off, rfl, ?_, by omega, fun i hi => ?_, hwH.out⟩⟩, (Below.refl _ _).alloc (Nat.le_refl _) _⟩
        · go_simp
        · go_simp
        · go_simp
        · have := World.block_lt_of_cell? w _ (hxH.out 0 (by omega)); simp at this; omega
        · have hi' := hxH.out i hi
          rw [World.cell?_alloc_lt _ _ _ (World.block_lt_of_cell? w _ hi')]; exact hi'

theorem Save.frozen {r : Nat} {w w' : World} (h : Save r w w') {q : Addr} (hq : q.block ≠ r) (hs : q.block < w.heap.size) : w'.frozen? q = w.frozen? q := World.frozen?_of_block (w := w) (h.block q.block hq hs)

theorem Rd.data_ne {w : World} {r : Nat} {a : Option Addr} {len cap : Nat} {zs : List Int} {p : Int} (h : Rd w r a len cap zs p) (o : Obj) : Rd (w.alloc o) r a len cap zs p := by
  have hlt := h.lt
  refine ⟨?_, ?_, ?_, h.p0, h.p1, h.l1, ?_⟩
  · rw [World.cell?_alloc_lt _ _ _ hlt]; exact h.sl
  · rw [World.cell?_alloc_lt _ _ _ hlt]; exact h.pl
  · have := h.fz
    rw [World.frozen?_of_block (w := w) (Below.heap_alloc w o r hlt)]; exact this
  · rcases h.row with h0 | ⟨b, off, e, hb, hl, hc, hw⟩
    · exact .inl h0
    · refine .inr ⟨b, off, e, hb, hl, fun i hi => ?_, hw⟩
      have hci := hc i hi
      rw [World.cell?_alloc_lt _ _ _ (World.block_lt_of_cell? w _ hci)]; exact hci
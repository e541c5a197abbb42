/- Reading a code: opening it; a number about some bounds; a value and a stamp. Conditions: the code is a slice of bytes that can be read. -/
import Derived.Test.YtfeoihpjlgigkaaDraw
namespace Go.Proofs.Ytfeoihpjlgigkaa.Draw
open Go.ChangeShapes Go.WideShapes Go.ChangeAt Go.RowKit

/- A slice of bytes that came in: it is empty, or leads to a row of bytes. -/
def Row (w : World) (a : Option Addr) (len cap : Nat) (zs : List Int) : Prop :=
  len ≤ maxLen ∧ (len = 0 ∨ ∃ b off, a = some ⟨b, off, none⟩ ∧ len ≤ cap ∧ zs.length = cap ∧ cap ≤ maxLen ∧ (∀ i, i < zs.length → w.cell? ⟨b, off + i, none⟩ = some (.int .u8 (zs.getD i 0))) ∧ ∀ n ∈ zs, (Lit.int .u8 n).wf = true)

theorem row_of {w : World} {a : Option Addr} {len cap : Nat} {zs : List Int} (h : (a = none ∧ len = 0 ∧ cap = 0 ∧ zs = []) ∨
    ∃ x, a = some x ∧ len ≤ cap ∧ cap ≤ maxLen ∧ zs.length = cap ∧ (∀ i, i < zs.length → w.cell? (x.add i) = some (.int .u8 (zs.getD i 0))) ∧ ∀ n ∈ zs, (Lit.int .u8 n).wf = true) : Row w a len cap zs := by
  rcases h with ⟨rfl, rfl, rfl, rfl⟩ | ⟨x, rfl, hl, hm, hz, hc, hw⟩
  · exact ⟨Nat.zero_le _, .inl rfl⟩
  · refine ⟨Nat.le_trans hl hm, ?_⟩
    by_cases h0 : len = 0
    · exact .inl h0
    · obtain ⟨b, off, spot⟩ := x
      have h1 := hc 0 (by omega)
      have hspot : spot = none := by simpa [Addr.add] using World.cell?_spot h1
      subst hspot
      exact .inr ⟨b, off, rfl, hl, hz, hm, fun i hi => by have := hc i hi; simp only [Addr.add] at this; split at this <;> simp_all, hw⟩

theorem Row.below {w w' : World} {a : Option Addr} {len cap : Nat} {zs : List Int} (h : Row w a len cap zs) (hb : Below w.heap.size w w') : Row w' a len cap zs := by
  obtain ⟨hm, h | ⟨b, off, e, hl, hz, hc, hx, hw⟩⟩ := h
  · exact ⟨hm, .inl h⟩
  · refine ⟨hm, .inr ⟨b, off, e, hl, hz, hc, fun i hi => ?_, hw⟩⟩
    have := hx i hi
    rw [hb.cell (p := ⟨b, off + i, none⟩) (World.block_lt_of_cell? w _ this)]; exact this

theorem open_any (a : Option Addr) (len cap : Nat) (zs : List Int) (w : World) (h : Row w a len cap zs) :
    Calls Try.prog 21 #[.slice a len cap] w fun e w' => e = .returned (.pointer (some ⟨w.heap.size, 0, none⟩)) ∧ (∃ n c, Rd w' w.heap.size a n c zs 0) ∧ Below w.heap.size w w' := by
  obtain ⟨hm, h | ⟨b, off, rfl, hl, hz, hc, hx, hw⟩⟩ := h
  · subst h
    go_enter Try.func21, Try.ntmps21
    go_wp2
    all_goals go_ret
    refine ⟨rfl, ⟨0, cap, ?_, ?_, ?_, by omega, by omega, by omega, .inl rfl⟩, (Below.refl _ _).alloc (Nat.le_refl _) _⟩
    all_goals go_simp
  · unfold maxLen at hm hc
    have hxH : Hid (∀ i, i < zs.length → w.cell? ⟨b, off + i, none⟩ = some (.int .u8 (zs.getD i 0))) := hx
    have hwH : Hid (∀ n ∈ zs, (Lit.int .u8 n).wf = true) := hw
    clear hx hw
    by_cases h2 : (2000 : Int) < len
    · go_enter Try.func21, Try.ntmps21
      go_wp2
      go_ret
      refine ⟨rfl, ⟨2000, cap, ?_, ?_, ?_, by omega, by omega, by omega, .inr ⟨b, off, rfl, ?_, by omega, fun i hi => ?_, hwH.out⟩⟩, (Below.refl _ _).alloc (Nat.le_refl _) _⟩
      · go_simp
      · go_simp
      · go_simp
      · have := World.block_lt_of_cell? w _ (hxH.out 0 (by omega)); simp at this; omega
      · have hi' := hxH.out i hi
        rw [World.cell?_alloc_lt _ _ _ (World.block_lt_of_cell? w _ hi')]; exact hi'
    · by_cases h0 : len = 0
      · subst h0
        go_enter Try.func21, Try.ntmps21
        go_wp2
        go_ret
        refine ⟨rfl, ⟨0, cap, ?_, ?_, ?_, by omega, by omega, by omega, .inl rfl⟩, (Below.refl _ _).alloc (Nat.le_refl _) _⟩
        all_goals go_simp
      · go_enter Try.func21, Try.ntmps21
        go_wp2
        go_ret
        refine ⟨rfl, ⟨len, cap, ?_, ?_, ?_, by omega, by omega, by omega, .inr ⟨b, off, rfl, ?_, by omega, fun i hi => ?_, hwH.out⟩⟩, (Below.refl _ _).alloc (Nat.le_refl _) _⟩
        · go_simp
        · go_simp
        · go_simp
        · have := World.block_lt_of_cell? w _ (hxH.out 0 (by omega)); simp at this; omega
        · have hi' := hxH.out i hi
          rw [World.cell?_alloc_lt _ _ _ (World.block_lt_of_cell? w _ hi')]; exact hi'

theorem Save.frozen {r : Nat} {w w' : World} (h : Save r w w') {q : Addr} (hq : q.block ≠ r) (hs : q.block < w.heap.size) : w'.frozen? q = w.frozen? q := World.frozen?_of_block (w := w) (h.block q.block hq hs)

theorem Rd.data_ne {w : World} {r : Nat} {a : Option Addr} {len cap : Nat} {zs : List Int} {p : Int} (h : Rd w r a len cap zs p) (o : Obj) : Rd (w.alloc o) r a len cap zs p := by
  have hlt := h.lt
  refine ⟨?_, ?_, ?_, h.p0, h.p1, h.l1, ?_⟩
  · rw [World.cell?_alloc_lt _ _ _ hlt]; exact h.sl
  · rw [World.cell?_alloc_lt _ _ _ hlt]; exact h.pl
  · have := h.fz
    rw [World.frozen?_of_block (w := w) (Below.heap_alloc w o r hlt)]; exact this
  · rcases h.row with h0 | ⟨b, off, e, hb, hl, hc, hw⟩
    · exact .inl h0
    · refine .inr ⟨b, off, e, hb, hl, fun i hi => ?_, hw⟩
      have hci := hc i hi
      rw [World.cell?_alloc_lt _ _ _ (World.block_lt_of_cell? w _ hci)]; exact hci

set_option maxHeartbeats 400000 in
theorem l1num_any (r : Nat) (a : Option Addr) (len cap : Nat) (zs : List Int) (p most : Int) (w : World) (h : Rd w r a len cap zs p) (hp : p < 100000000000) (m0 : 0 ≤ most) (m1 : most ≤ 4294967295) :
    Calls Try.prog 22 #[.pointer (some ⟨r, 0, none⟩), .int .i64 most] w fun e w' => ∃ k : Int, e = .returned (.int .i64 k) ∧ -1 ≤ k ∧ k ≤ most + 256 ∧ Rd w' r a len cap zs (p + 2) ∧ Save r w w' := by
  go_enter Try.func22, Try.ntmps22
  go_wp2_with (fail)
  refine (pick_on r a len cap zs p 256 w h (by omega)).mono ?_
  rintro e w1 ⟨k, rfl, k0, k1, -, hr, hs⟩
  have k1' := k1 (by omega)
  clear k1
  go_wp2_with (fail)
  have hlt := hr.lt
  refine (num_any r a len cap zs (p + 1) _ (hr.data_ne _) (by omega) w1.heap.size 10 10 [-1, 0, 1, 2, 3, 5, k, most - 1, most, most + 1] (by omega) (by omega) (by omega) ?_).mono ?_
  · intro i hi
    match i, hi with
    | 0, _ => go_simp
    | 1, _ => go_simp
    | 2, _ => go_simp
    | 3, _ => go_simp
    | 4, _ => go_simp
    | 5, _ => go_simp
    | 6, _ => go_simp
    | 7, _ => go_simp
    | 8, _ => go_simp
    | 9, _ => go_simp
  · rintro e w2 ⟨j, hj, rfl, hr2, hs2⟩
    have hb : -1 ≤ ([-1, 0, 1, 2, 3, 5, k, most - 1, most, most + 1] : List Int).getD j 0 ∧ ([-1, 0, 1, 2, 3, 5, k, most - 1, most, most + 1] : List Int).getD j 0 ≤ most + 256 := by
      match j, hj with
      | 0, _ => constructor <;> simp <;> omega
      | 1, _ => constructor <;> simp <;> omega
      | 2, _ => constructor <;> simp <;> omega
      | 3, _ => constructor <;> simp <;> omega
      | 4, _ => constructor <;> simp <;> omega
      | 5, _ => constructor <;> simp <;> omega
      | 6, _ => constructor <;> simp <;> omega
      | 7, _ => constructor <;> simp <;> omega
      | 8, _ => constructor <;> simp <;> omega
      | 9, _ => constructor <;> simp <;> omega
    generalize ([-1, 0, 1, 2, 3, 5, k, most - 1, most, most + 1] : List Int).getD j 0 = v at hb
    go_wp2_with (fail)
    go_ret
    refine ⟨v, rfl, hb.1, hb.2, ?_, ?_⟩
    · have e2 : p + 1 + 1 = p + 2 := by omega
      rw [e2] at hr2; exact hr2
    · exact hs.trans (((Save.refl r w1).alloc _).trans hs2)

set_option maxHeartbeats 400000 in
theorem drawPack_any (a : Option Addr) (len cap : Nat) (zs : List Int) (w : World) (h : Row w a len cap zs) :
    Calls Try.prog 5 #[.slice a len cap] w fun e w' => ∃ v s : Int, e = .returned (.tuple #[.int .i64 v, .int .i64 s]) ∧ -1 ≤ v ∧ v ≤ 4294967551 ∧ -1 ≤ s ∧ s ≤ 4294967551 ∧ Below w.heap.size w w' := by
  go_enter Try.func5, Try.ntmps5
  go_wp2_with (fail)
  refine (open_any a len cap zs w h).mono ?_
  rintro e w1 ⟨rfl, ⟨n, c, hr⟩, hb⟩
  go_wp2_with (fail)
  refine (l1num_any _ a n c zs 0 4294967295 w1 hr (by omega) (by omega) (by omega)).mono ?_
  rintro e w2 ⟨v, rfl, v0, v1, hr2, hs2⟩
  go_wp2_with (fail)
  refine (l1num_any _ a n c zs (0 + 2) 4294967295 w2 hr2 (by omega) (by omega) (by omega)).mono ?_
  rintro e w3 ⟨s, rfl, s0, s1, hr3, hs3⟩
  go_wp2_with (fail)
  go_ret2
  exact ⟨v, s, rfl, v0, by omega, s0, by omega, hb.trans ((hs2.trans hs3).below (Nat.le_refl _) hb.size)⟩
end Go.Proofs.Ytfeoihpjlgigkaa.Draw

/- WorldOpen of both, and worlds without guests held against each other. Conditions: none. -/
import Derived.Test.YtokmaanahbeheaaFmt
import Derived.Test.YtokmaanahbeheaaRw
namespace Go.Proofs.Ytokmaanahbeheaa.Plat
open Go.ChangeShapes Go.WideShapes Go.ChangeAt Go.RowKit
open Go.Proofs.Ytokmaanahbeheaa.Words Go.Proofs.Ytokmaanahbeheaa.Aid Go.Proofs.Ytokmaanahbeheaa.Lst
set_option maxRecDepth 100000
set_option linter.unusedVariables false

/- The words of an empty house, or nothing. -/
structure Fm (s p l : Int) (w0 w : World) (x : Option Addr) (n : Nat) : Prop where
  sl : Sl .u64 w x n (fmtF s p l)
  len : n = if okB s p l = true then szN s p else 0
  own : (n = 0 ∧ x = none) ∨ ∃ b, x = some ⟨b, 0, none⟩ ∧ w0.heap.size ≤ b ∧ b < w.heap.size ∧ Fk .u64 n w b (fmtF s p l)
  lim : n ≤ 201

theorem Fm.later {s p l : Int} {w0 w w1 : World} {x : Option Addr} {n : Nat} (h : Fm s p l w0 w x n) (hb : Below w.heap.size w w1) : Fm s p l w0 w1 x n :=
  ⟨h.sl.later hb, h.len, by
    rcases h.own with g | ⟨b, e, h1, h2, h3⟩
    · exact .inl g
    · exact .inr ⟨b, e, h1, Nat.lt_of_lt_of_le h2 hb.size, h3.later hb⟩, h.lim⟩

theorem fmt_any (s p l : Int) (w : World) :
    Calls Try.prog 16 #[.agg #[.int .i64 s, .int .i64 p, .int .i64 l]] w fun e w' => ∃ x n, e = .returned (.slice x n n) ∧ Fm s p l w w' x n ∧ Below w.heap.size w w' := by
  by_cases h : okB s p l = true
  · have hN := szN_bd h
    refine (fmt_ok s p l w h).mono ?_
    rintro e w1 ⟨b, h1, h2, rfl, f, hb⟩
    exact ⟨_, _, rfl, ⟨f.sl, by rw [if_pos h], .inr ⟨b, rfl, h1, h2, f⟩, by omega⟩, hb⟩
  · refine (fmt_bad s p l w (by simpa using h)).mono ?_
    rintro e w1 ⟨rfl, hb⟩
    exact ⟨none, 0, rfl, ⟨.inl rfl, by rw [if_neg h], .inl ⟨rfl, rfl⟩, by omega⟩, hb⟩

theorem sfmt_any (s p l : Int) (w : World) :
    Calls Try.prog 15 #[.agg #[.int .i64 s, .int .i64 p, .int .i64 l]] w fun e w' => ∃ x n, e = .returned (.slice x n n) ∧ Fm s p l w w' x n ∧ Below w.heap.size w w' := by
  by_cases h : okB s p l = true
  · have hN := szN_bd h
    refine (sfmt_ok s p l w h).mono ?_
    rintro e w1 ⟨b, h1, h2, rfl, f, hb⟩
    exact ⟨_, _, rfl, ⟨f.sl, by rw [if_pos h], .inr ⟨b, rfl, h1, h2, f⟩, by omega⟩, hb⟩
  · refine (sfmt_bad s p l w (by simpa using h)).mono ?_
    rintro e w1 ⟨rfl, hb⟩
    exact ⟨none, 0, rfl, ⟨.inl rfl, by rw [if_neg h], .inl ⟨rfl, rfl⟩, by omega⟩, hb⟩

theorem _root_.Go.Proofs.Ytokmaanahbeheaa.Lst.Fk.setCells_far {k : IntKind} {n : Nat} {w : World} {b : Nat} {f : Nat → Int} (h : Fk k n w b f) {c : Nat} (vs : List Value) (o : Nat) (hc : c ≠ b) : Fk k n (w.setCells c o vs) b f := by
  induction vs generalizing w o with
  | nil => exact h
  | cons v r ih => exact ih (h.far ⟨c, o, none⟩ hc v) (o + 1)

set_option maxHeartbeats 1000000 in
theorem wopen_any (s p l : Int) (w : World) :
    Calls Try.prog 7 #[.agg #[.int .i64 s, .int .i64 p, .int .i64 l]] w fun e w' => ∃ x n, e = .returned (.agg #[.slice x n n, .slice none 0 0]) ∧ Fm s p l w w' x n ∧ Below w.heap.size w w' := by
  have z2 : ((w.alloc (.cells #[.int .i64 s, .int .i64 p, .int .i64 l] 29)).alloc (.cells #[.slice none 0 0, .slice none 0 0] 27)).heap.size = w.heap.size + 2 := by simp
  have T2 := there_lit #[.slice none 0 0, .slice none 0 0] (heap2_1 w (.cells #[.int .i64 s, .int .i64 p, .int .i64 l] 29) (.cells #[.slice none 0 0, .slice none 0 0] 27))
  have B2 := below2 w (.cells #[.int .i64 s, .int .i64 p, .int .i64 l] 29) (.cells #[.slice none 0 0, .slice none 0 0] 27)
  go_enter Try.func7, Try.ntmps7
  go_wp2_with (fail)
  refine (fmt_any s p l _).mono ?_
  rintro e w1 ⟨x, n, rfl, f, hb⟩
  have z1 := hb.size
  rw [z2] at z1
  have HT : Hid (w1.there (w.heap.size + 1) 0 2) := there_below hb T2 (by rw [z2]; omega)
  have B1 := B2.trans (hb.mono (by omega))
  have HR : Hid ((w1.setCells (w.heap.size + 1) 0 [.slice x n n, .slice none 0 0]).rangeAt (w.heap.size + 1) 0 [.slice x n n, .slice none 0 0]) := World.rangeAt_setCells_same _ _ _ _ HT.out
  have hb2 : Below (w.heap.size + 1) w1 (w1.setCells (w.heap.size + 1) 0 [.slice x n n, .slice none 0 0]) := below_setCells (Below.refl _ _) (Nat.le_refl _) _ _
  have HQ : Hid (Fm s p l w (w1.setCells (w.heap.size + 1) 0 [.slice x n n, .slice none 0 0]) x n ∧ Below w.heap.size w (w1.setCells (w.heap.size + 1) 0 [.slice x n n, .slice none 0 0])) := by
    refine ⟨⟨?_, f.len, ?_, f.lim⟩, B1.trans (hb2.mono (by omega))⟩
    · rcases f.own with ⟨g, -⟩ | ⟨b, rfl, h1, h2, h3⟩
      · exact .inl g
      · exact (h3.setCells_far _ _ (by omega)).sl
    · rcases f.own with g | ⟨b, rfl, h1, h2, h3⟩
      · exact .inl g
      · exact .inr ⟨b, rfl, by omega, by have := hb2.size; omega, h3.setCells_far _ _ (by omega)⟩
  clear T2 B2 hb f B1 hb2 z2
  go_wp2_with (refine wpList_store_mid rfl 27 _ _ rfl (w.heap.size + 1) 0 #[.slice x n n, .slice none 0 0] rfl rfl HT.out (by kernel_rfl) (by simp [Value.oneCell']) ?_)
  exact bodyPost_ret (results_cell_mid rfl _ _ (w.heap.size + 1) 0 _ _ rfl HR.out Try.underlying27 rfl (by kernel_rfl)) rfl ⟨x, n, rfl, HQ.out⟩

set_option maxHeartbeats 1000000 in
theorem swopen_any (s p l : Int) (w : World) :
    Calls Try.prog 5 #[.agg #[.int .i64 s, .int .i64 p, .int .i64 l]] w fun e w' => ∃ x n, e = .returned (.agg #[.slice x n n, .slice none 0 0]) ∧ Fm s p l w w' x n ∧ Below w.heap.size w w' := by
  have z2 : ((w.alloc (.cells #[.int .i64 s, .int .i64 p, .int .i64 l] 29)).alloc (.cells #[.slice none 0 0, .slice none 0 0] 27)).heap.size = w.heap.size + 2 := by simp
  have T2 := there_lit #[.slice none 0 0, .slice none 0 0] (heap2_1 w (.cells #[.int .i64 s, .int .i64 p, .int .i64 l] 29) (.cells #[.slice none 0 0, .slice none 0 0] 27))
  have B2 := below2 w (.cells #[.int .i64 s, .int .i64 p, .int .i64 l] 29) (.cells #[.slice none 0 0, .slice none 0 0] 27)
  go_enter Try.func5, Try.ntmps5
  go_wp2_with (fail)
  refine (sfmt_any s p l _).mono ?_
  rintro e w1 ⟨x, n, rfl, f, hb⟩
  have z1 := hb.size
  rw [z2] at z1
  have HT : Hid (w1.there (w.heap.size + 1) 0 2) := there_below hb T2 (by rw [z2]; omega)
  have B1 := B2.trans (hb.mono (by omega))
  have HR : Hid ((w1.setCells (w.heap.size + 1) 0 [.slice x n n, .slice none 0 0]).rangeAt (w.heap.size + 1) 0 [.slice x n n, .slice none 0 0]) := World.rangeAt_setCells_same _ _ _ _ HT.out
  have hb2 : Below (w.heap.size + 1) w1 (w1.setCells (w.heap.size + 1) 0 [.slice x n n, .slice none 0 0]) := below_setCells (Below.refl _ _) (Nat.le_refl _) _ _
  have HQ : Hid (Fm s p l w (w1.setCells (w.heap.size + 1) 0 [.slice x n n, .slice none 0 0]) x n ∧ Below w.heap.size w (w1.setCells (w.heap.size + 1) 0 [.slice x n n, .slice none 0 0])) := by
    refine ⟨⟨?_, f.len, ?_, f.lim⟩, B1.trans (hb2.mono (by omega))⟩
    · rcases f.own with ⟨g, -⟩ | ⟨b, rfl, h1, h2, h3⟩
      · exact .inl g
      · exact (h3.setCells_far _ _ (by omega)).sl
    · rcases f.own with g | ⟨b, rfl, h1, h2, h3⟩
      · exact .inl g
      · exact .inr ⟨b, rfl, by omega, by have := hb2.size; omega, h3.setCells_far _ _ (by omega)⟩
  clear T2 B2 hb f B1 hb2 z2
  go_wp2_with (refine wpList_store_mid rfl 27 _ _ rfl (w.heap.size + 1) 0 #[.slice x n n, .slice none 0 0] rfl rfl HT.out (by kernel_rfl) (by simp [Value.oneCell']) ?_)
  exact bodyPost_ret (results_cell_mid rfl _ _ (w.heap.size + 1) 0 _ _ rfl HR.out Try.underlying27 rfl (by kernel_rfl)) rfl ⟨x, n, rfl, HQ.out⟩

end Go.Proofs.Ytokmaanahbeheaa.Plat

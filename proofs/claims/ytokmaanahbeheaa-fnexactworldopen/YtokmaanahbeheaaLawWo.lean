/- WorldOpen held against the specification, whatever house. Conditions: none. -/
import Derived.Test.YtokmaanahbeheaaWop2
namespace Go.Proofs.Ytokmaanahbeheaa.Plat
open Go.ChangeShapes Go.WideShapes Go.ChangeAt Go.RowKit
open Go.Proofs.Ytokmaanahbeheaa.Words Go.Proofs.Ytokmaanahbeheaa.Aid Go.Proofs.Ytokmaanahbeheaa.Lst
open Go.Proofs.Ytokmaanahbeheaa.Book (Only)
set_option maxRecDepth 100000
set_option linter.unusedVariables false

/- Words of one's own: nothing, or a block from B on, below C. -/
def Wn (w : World) (B C : Nat) (x : Option Addr) (n : Nat) (f : Nat → Int) : Prop := (n = 0 ∧ x = none) ∨ ∃ b, x = some ⟨b, 0, none⟩ ∧ B ≤ b ∧ b < C ∧ Fk .u64 n w b f
theorem Wn.later {w w1 : World} {B C : Nat} {x : Option Addr} {n : Nat} {f : Nat → Int} (h : Wn w B C x n f) (hb : Below w.heap.size w w1) : Wn w1 B C x n f := by
  rcases h with g | ⟨b, e, h1, h2, h3⟩
  · exact .inl g
  · exact .inr ⟨b, e, h1, h2, h3.later hb⟩
theorem Wn.sl {w : World} {B C : Nat} {x : Option Addr} {n : Nat} {f : Nat → Int} (h : Wn w B C x n f) : Sl .u64 w x n f := by
  rcases h with ⟨g, -⟩ | ⟨b, rfl, _, _, g⟩
  · exact .inl g
  · exact g.sl
theorem Fm.wn {s p l : Int} {w0 w : World} {x : Option Addr} {n : Nat} (h : Fm s p l w0 w x n) : Wn w w0.heap.size w.heap.size x n (fmtF s p l) := h.own
theorem rw_only {w0 w w' : World} {rs : List (Nat × List Value)} {B C : Nat} (h : Rw w0 rs w) (o : Only B C w w') (hB : w0.heap.size ≤ B) (hne : ∀ p ∈ rs, p.1 < B ∨ C ≤ p.1) : Rw w0 rs w' :=
  ⟨fun p hp => ⟨fun j v hv => by rw [o.cell (h.r p hp).2 (hne p hp)]; exact (h.r p hp).1 j v hv, Nat.lt_of_lt_of_le (h.r p hp).2 o.size⟩, ⟨o.os.trans h.b.os, o.tape.trans h.b.tape, o.output.trans h.b.output, Nat.le_trans h.b.size o.size, fun k hk => (o.block k (Nat.lt_of_lt_of_le hk h.b.size) (.inl (by omega))).trans (h.b.block k hk)⟩⟩

theorem rw_row {w0 w : World} {rs : List (Nat × List Value)} (h : Rw w0 rs w) (C : Array Value) (t : TypeId) : Rw w0 ((w.heap.size, C.toList) :: rs) (w.alloc (.cells C t)) :=
  ⟨fun p hp => by
    rcases List.mem_cons.1 hp with rfl | hp
    · exact ⟨range_lit C (heap1_0 _ _), by simp⟩
    · exact (h.later (below1 w _)).r p hp, (h.later (below1 w _)).b⟩

/- A world is marked: its own words turn, and nothing else. -/
theorem markw0_any (f : Nat → Int) (B C : Nat) (x : Option Addr) (n : Nat) (w : World) (h : Wn w B C x n f) (hn : n ≤ 201) (hC : C ≤ w.heap.size) :
    Calls Try.prog 9 #[.agg #[.slice x n n, .slice none 0 0], .int .i64 1] w fun e w' => e = .returned (.int .i64 (1 + n)) ∧ Wn w' B C x n (fun j => 1 + (j : Int)) ∧ Only B C w w' := by
  rcases h with ⟨rfl, rfl⟩ | ⟨b, rfl, h1, h2, h3⟩
  · refine (markw0_none 1 w).mono ?_
    rintro e w' ⟨rfl, hb⟩
    exact ⟨by simp, .inl ⟨rfl, rfl⟩, Only.of hb⟩
  · refine (markw0_own b n f 1 w h3 (by omega) (by omega) (by omega) (by omega)).mono ?_
    rintro e w' ⟨rfl, h4, ho⟩
    exact ⟨rfl, .inr ⟨b, rfl, h1, h2, h4⟩, ho.mono h1 (by omega)⟩

set_option maxHeartbeats 4000000 in
theorem law_wo (s p l : Int) (w : World) : Calls Try.prog 3 #[.agg #[.int .i64 s, .int .i64 p, .int .i64 l]] w fun e w' => e = .returned (.bool true) ∧ Below w.heap.size w w' := by
  have R : Rw w [(w.heap.size, [.int .i64 s, .int .i64 p, .int .i64 l])] (w.alloc (.cells #[.int .i64 s, .int .i64 p, .int .i64 l] 23)) := ⟨fun p hp => by
    simp at hp
    subst hp
    exact ⟨range_lit #[.int .i64 s, .int .i64 p, .int .i64 l] (heap1_0 w _), by simp⟩, below1 w _⟩
  have z0 : (w.alloc (.cells #[.int .i64 s, .int .i64 p, .int .i64 l] 23)).heap.size = w.heap.size + 1 := by simp
  go_enter Try.func3, Try.ntmps3
  go_wp2_with (fail)
  generalize w.alloc (.cells #[.int .i64 s, .int .i64 p, .int .i64 l] 23) = u0 at R z0 ⊢
  refine (to_any s p l u0).mono ?_
  rintro e w1 ⟨rfl, hb⟩
  replace R := R.later hb
  have z1 := hb.size
  clear hb
  go_wp2_with (fail)
  refine (swopen_any s p l w1).mono ?_
  rintro e w2 ⟨x1, n, rfl, f1, hb⟩
  replace R := R.later hb
  have z2 := hb.size
  have hn := f1.lim
  have hnl : Hid (n = if okB s p l = true then szN s p else 0) := f1.len
  have hf1 := f1.wn
  clear hb f1
  have q0' : w2.cell? ⟨w.heap.size, 0, none⟩ = some (.int .i64 s) := (R.r (w.heap.size, [.int .i64 s, .int .i64 p, .int .i64 l]) (by simp)).1 0 _ rfl
  have q1' : w2.cell? ⟨w.heap.size, 1, none⟩ = some (.int .i64 p) := (R.r (w.heap.size, [.int .i64 s, .int .i64 p, .int .i64 l]) (by simp)).1 1 _ rfl
  have q2' : w2.cell? ⟨w.heap.size, 2, none⟩ = some (.int .i64 l) := (R.r (w.heap.size, [.int .i64 s, .int .i64 p, .int .i64 l]) (by simp)).1 2 _ rfl
  have R := rw_row R #[.slice x1 n n, .slice none 0 0] 27
  have hb := below1 w2 (.cells #[.slice x1 n n, .slice none 0 0] 27)
  have z3 : w2.heap.size + 1 ≤ (w2.alloc (.cells #[.slice x1 n n, .slice none 0 0] 27)).heap.size := by simp
  replace hf1 := hf1.later hb
  clear hb
  have q0 : (w2.alloc (.cells #[.slice x1 n n, .slice none 0 0] 27)).cell? ⟨w.heap.size, 0, none⟩ = some (.int .i64 s) := (R.r (w.heap.size, [.int .i64 s, .int .i64 p, .int .i64 l]) (by simp)).1 0 _ rfl
  have q1 : (w2.alloc (.cells #[.slice x1 n n, .slice none 0 0] 27)).cell? ⟨w.heap.size, 1, none⟩ = some (.int .i64 p) := (R.r (w.heap.size, [.int .i64 s, .int .i64 p, .int .i64 l]) (by simp)).1 1 _ rfl
  have q2 : (w2.alloc (.cells #[.slice x1 n n, .slice none 0 0] 27)).cell? ⟨w.heap.size, 2, none⟩ = some (.int .i64 l) := (R.r (w.heap.size, [.int .i64 s, .int .i64 p, .int .i64 l]) (by simp)).1 2 _ rfl
  go_wp2_with (fail)
  generalize w2.alloc (.cells #[.slice x1 n n, .slice none 0 0] 27) = v2 at * 
  clear q0 q1 q2 q0' q1' q2'
  refine (to_any s p l v2).mono ?_
  rintro e w3 ⟨rfl, hb⟩
  replace R := R.later hb
  replace hf1 := hf1.later hb
  have z4 := hb.size
  clear hb
  go_wp2_with (fail)
  refine (wopen_any s p l w3).mono ?_
  rintro e w4 ⟨x2, n', rfl, f2, hb⟩
  obtain rfl : n = n' := by rw [hnl.out, f2.len]
  replace R := R.later hb
  replace hf1 := hf1.later hb
  have z5 := hb.size
  have hf2 := f2.wn
  clear hb f2
  have c0' : w4.cell? ⟨w2.heap.size, 0, none⟩ = some (.slice x1 n n) := (R.r (w2.heap.size, [.slice x1 n n, .slice none 0 0]) (by simp)).1 0 _ rfl
  have c1' : w4.cell? ⟨w2.heap.size, 1, none⟩ = some (.slice none 0 0) := (R.r (w2.heap.size, [.slice x1 n n, .slice none 0 0]) (by simp)).1 1 _ rfl
  have R := rw_row R #[.slice x2 n n, .slice none 0 0] 27
  have hb := below1 w4 (.cells #[.slice x2 n n, .slice none 0 0] 27)
  have z6 : w4.heap.size + 1 ≤ (w4.alloc (.cells #[.slice x2 n n, .slice none 0 0] 27)).heap.size := by simp
  replace hf1 := hf1.later hb
  replace hf2 := hf2.later hb
  clear hb
  have c0 : (w4.alloc (.cells #[.slice x2 n n, .slice none 0 0] 27)).cell? ⟨w2.heap.size, 0, none⟩ = some (.slice x1 n n) := (R.r (w2.heap.size, [.slice x1 n n, .slice none 0 0]) (by simp)).1 0 _ rfl
  have c1 : (w4.alloc (.cells #[.slice x2 n n, .slice none 0 0] 27)).cell? ⟨w2.heap.size, 1, none⟩ = some (.slice none 0 0) := (R.r (w2.heap.size, [.slice x1 n n, .slice none 0 0]) (by simp)).1 1 _ rfl
  have d0 : (w4.alloc (.cells #[.slice x2 n n, .slice none 0 0] 27)).cell? ⟨w4.heap.size, 0, none⟩ = some (.slice x2 n n) := (R.r (w4.heap.size, [.slice x2 n n, .slice none 0 0]) (by simp)).1 0 _ rfl
  have d1 : (w4.alloc (.cells #[.slice x2 n n, .slice none 0 0] 27)).cell? ⟨w4.heap.size, 1, none⟩ = some (.slice none 0 0) := (R.r (w4.heap.size, [.slice x2 n n, .slice none 0 0]) (by simp)).1 1 _ rfl
  go_wp2_with (fail)
  generalize w4.alloc (.cells #[.slice x2 n n, .slice none 0 0] 27) = v4 at * 
  clear c0 c1 d0 d1 c0' c1'
  refine (eqw0 x2 x1 n _ v4 hf2.sl hf1.sl (by omega)).mono ?_
  rintro e w5 ⟨rfl, hb⟩
  replace R := R.later hb
  replace hf1 := hf1.later hb
  replace hf2 := hf2.later hb
  have z7 := hb.size
  clear hb
  have d0 : w5.cell? ⟨w4.heap.size, 0, none⟩ = some (.slice x2 n n) := (R.r (w4.heap.size, [.slice x2 n n, .slice none 0 0]) (by simp)).1 0 _ rfl
  have d1 : w5.cell? ⟨w4.heap.size, 1, none⟩ = some (.slice none 0 0) := (R.r (w4.heap.size, [.slice x2 n n, .slice none 0 0]) (by simp)).1 1 _ rfl
  go_wp2_with (fail)
  clear d0 d1
  refine (markw0_any _ _ _ x2 n w5 hf2 (by omega) (by omega)).mono ?_
  rintro e w6 ⟨rfl, hm, ho⟩
  replace R := rw_only R ho (by omega) (by simp; omega)
  replace hf1 : Wn w6 w1.heap.size w2.heap.size x1 n (fmtF s p l) := by
    rcases hf1 with g | ⟨b, e, h1, h2, h3⟩
    · exact .inl g
    · exact .inr ⟨b, e, h1, h2, fun j hj => by
        have := h3 j hj
        rw [ho.cell (by omega) (by omega), ho.frozen (by omega) (by omega)]; exact this⟩
  have z8 := ho.size
  clear ho hf2
  have d0 : w6.cell? ⟨w4.heap.size, 0, none⟩ = some (.slice x2 n n) := (R.r (w4.heap.size, [.slice x2 n n, .slice none 0 0]) (by simp)).1 0 _ rfl
  have d1 : w6.cell? ⟨w4.heap.size, 1, none⟩ = some (.slice none 0 0) := (R.r (w4.heap.size, [.slice x2 n n, .slice none 0 0]) (by simp)).1 1 _ rfl
  go_wp2_with (fail)
  clear d0 d1
  refine (heldw0 x2 n 1 w6 hm.sl (by omega) (by omega) (by omega)).mono ?_
  rintro e w7 ⟨rfl, hb⟩
  replace R := R.later hb
  replace hf1 := hf1.later hb
  replace hm := hm.later hb
  have z9 := hb.size
  clear hb
  have q0 : w7.cell? ⟨w.heap.size, 0, none⟩ = some (.int .i64 s) := (R.r (w.heap.size, [.int .i64 s, .int .i64 p, .int .i64 l]) (by simp)).1 0 _ rfl
  have q1 : w7.cell? ⟨w.heap.size, 1, none⟩ = some (.int .i64 p) := (R.r (w.heap.size, [.int .i64 s, .int .i64 p, .int .i64 l]) (by simp)).1 1 _ rfl
  have q2 : w7.cell? ⟨w.heap.size, 2, none⟩ = some (.int .i64 l) := (R.r (w.heap.size, [.int .i64 s, .int .i64 p, .int .i64 l]) (by simp)).1 2 _ rfl
  go_wp2_with (fail)
  clear q0 q1 q2
  refine (to_any s p l w7).mono ?_
  rintro e w8 ⟨rfl, hb⟩
  replace R := R.later hb
  replace hf1 := hf1.later hb
  replace hm := hm.later hb
  have z10 := hb.size
  clear hb
  go_wp2_with (fail)
  refine (wopen_any s p l w8).mono ?_
  rintro e w9 ⟨x3, n', rfl, f3, hb⟩
  obtain rfl : n = n' := by rw [hnl.out, f3.len]
  replace R := R.later hb
  replace hf1 := hf1.later hb
  replace hm := hm.later hb
  have z11 := hb.size
  have hf3 := f3.wn
  clear hb f3
  have c0' : w9.cell? ⟨w2.heap.size, 0, none⟩ = some (.slice x1 n n) := (R.r (w2.heap.size, [.slice x1 n n, .slice none 0 0]) (by simp)).1 0 _ rfl
  have c1' : w9.cell? ⟨w2.heap.size, 1, none⟩ = some (.slice none 0 0) := (R.r (w2.heap.size, [.slice x1 n n, .slice none 0 0]) (by simp)).1 1 _ rfl
  have R := rw_row R #[.slice x3 n n, .slice none 0 0] 27
  have hb := below1 w9 (.cells #[.slice x3 n n, .slice none 0 0] 27)
  have z12 : w9.heap.size + 1 ≤ (w9.alloc (.cells #[.slice x3 n n, .slice none 0 0] 27)).heap.size := by simp
  replace hf1 := hf1.later hb
  replace hm := hm.later hb
  replace hf3 := hf3.later hb
  clear hb
  have c0 : (w9.alloc (.cells #[.slice x3 n n, .slice none 0 0] 27)).cell? ⟨w2.heap.size, 0, none⟩ = some (.slice x1 n n) := (R.r (w2.heap.size, [.slice x1 n n, .slice none 0 0]) (by simp)).1 0 _ rfl
  have c1 : (w9.alloc (.cells #[.slice x3 n n, .slice none 0 0] 27)).cell? ⟨w2.heap.size, 1, none⟩ = some (.slice none 0 0) := (R.r (w2.heap.size, [.slice x1 n n, .slice none 0 0]) (by simp)).1 1 _ rfl
  have d0 : (w9.alloc (.cells #[.slice x3 n n, .slice none 0 0] 27)).cell? ⟨w9.heap.size, 0, none⟩ = some (.slice x3 n n) := (R.r (w9.heap.size, [.slice x3 n n, .slice none 0 0]) (by simp)).1 0 _ rfl
  have d1 : (w9.alloc (.cells #[.slice x3 n n, .slice none 0 0] 27)).cell? ⟨w9.heap.size, 1, none⟩ = some (.slice none 0 0) := (R.r (w9.heap.size, [.slice x3 n n, .slice none 0 0]) (by simp)).1 1 _ rfl
  go_wp2_with (fail)
  generalize w9.alloc (.cells #[.slice x3 n n, .slice none 0 0] 27) = v9 at * 
  clear c0 c1 d0 d1 c0' c1'
  refine (eqw0 x3 x1 n _ v9 hf3.sl hf1.sl (by omega)).mono ?_
  rintro e w10 ⟨rfl, hb⟩
  replace R := R.later hb
  replace hm := hm.later hb
  clear hb hf1 hf3
  have d0 : w10.cell? ⟨w4.heap.size, 0, none⟩ = some (.slice x2 n n) := (R.r (w4.heap.size, [.slice x2 n n, .slice none 0 0]) (by simp)).1 0 _ rfl
  have d1 : w10.cell? ⟨w4.heap.size, 1, none⟩ = some (.slice none 0 0) := (R.r (w4.heap.size, [.slice x2 n n, .slice none 0 0]) (by simp)).1 1 _ rfl
  go_wp2_with (fail)
  clear d0 d1
  refine (heldw0 x2 n 1 w10 hm.sl (by omega) (by omega) (by omega)).mono ?_
  rintro e w11 ⟨rfl, hb⟩
  replace R := R.later hb
  go_wp2_with (fail)
  go_ret
  exact ⟨rfl, R.b⟩

end Go.Proofs.Ytokmaanahbeheaa.Plat

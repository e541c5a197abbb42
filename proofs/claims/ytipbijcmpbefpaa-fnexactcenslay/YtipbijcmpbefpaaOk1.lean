/- What the specification asks of a page: its parts. -/
import Derived.Test.YtipbijcmpbefpaaLaw
import Derived.Test.YtipbijcmpbefpaaKind
namespace Go.Proofs.Ytipbijcmpbefpaa.Book
open Go.ChangeShapes Go.WideShapes Go.ChangeAt Go.RowKit
open Go.Proofs.Ytipbijcmpbefpaa.Aid Go.Proofs.Ytipbijcmpbefpaa.Lst
set_option maxRecDepth 100000

/- A call with a book as its first argument: the book in a struct of its own. -/
structure Ent (w : World) (b : Bx) (W : World) : Prop where
  r : W.rangeAt w.heap.size 0 b.cells
  a : b.At W
  b : Below w.heap.size w W
  lt : w.heap.size < W.heap.size

theorem Ent.start {w : World} {b : Bx} (h : b.At w) (t : TypeId) : Ent w b (w.alloc (.cells b.cells.toArray t)) := ⟨range_lit b.cells.toArray (heap1_0 _ _), h.later (below1 _ _), below1 _ _, by simp⟩
theorem Ent.later {w : World} {b : Bx} {W W1 : World} (h : Ent w b W) (hb : Below W.heap.size W W1) : Ent w b W1 := ⟨range_below hb h.r h.lt, h.a.later hb, h.b.trans (hb.mono h.b.size), Nat.lt_of_lt_of_le h.lt hb.size⟩
theorem Ent.drewN {w : World} {b : Bx} {W : World} (h : Ent w b W) (q : Nat) : Ent w b (W.drewN q) := ⟨h.r, h.a, ⟨h.b.os, h.b.tape, h.b.output, h.b.size, h.b.block⟩, h.lt⟩

/- A list that is not empty, in memory. -/
theorem Sx.At.cells {x : Sx} {w : World} (h : x.At w) (hn : 0 < x.n) : ∃ k o, x.a = some ⟨k, o, none⟩ ∧ ∀ j, j < x.n → w.cell? ⟨k, o + j, none⟩ = some (.int .i64 (x.f j)) := by
  rcases h with h | ⟨k, o, e, h⟩
  · omega
  · exact ⟨k, o, e, h⟩
theorem Bx.At.p {b : Bx} {w : World} (h : b.At w) : b.p.At w := h _ (by simp [Bx.lists])
theorem Bx.At.h0 {b : Bx} {w : World} (h : b.At w) : b.h0.At w := h _ (by simp [Bx.lists])
theorem Bx.At.h1 {b : Bx} {w : World} (h : b.At w) : b.h1.At w := h _ (by simp [Bx.lists])
theorem Bx.At.h2 {b : Bx} {w : World} (h : b.At w) : b.h2.At w := h _ (by simp [Bx.lists])
theorem Bx.At.h3 {b : Bx} {w : World} (h : b.At w) : b.h3.At w := h _ (by simp [Bx.lists])
theorem Bx.At.o {b : Bx} {w : World} (h : b.At w) : b.o.At w := h _ (by simp [Bx.lists])
theorem Bx.At.i {b : Bx} {w : World} (h : b.At w) : b.i.At w := h _ (by simp [Bx.lists])
theorem Bx.At.e {b : Bx} {w : World} (h : b.At w) : b.e.At w := h _ (by simp [Bx.lists])

def kdM (s : Int) : Int := if 1 ≤ s ∧ s ≤ 4 then s - 1 else -1
theorem kd_any (s : Int) (w : World) : Calls Try.prog 78 #[.int .i64 s] w fun e w' => e = .returned (.int .i64 (kdM s)) ∧ w' = w := by
  by_cases h1 : s < 1
  · go_enter Try.func78, Try.ntmps78
    go_wp2_with (fail)
    go_ret
    exact ⟨by simp only [kdM]; rw [if_neg (by omega)]; rfl, rfl⟩
  · by_cases h2 : s > 4
    · go_enter Try.func78, Try.ntmps78
      go_wp2_with (fail)
      go_ret
      exact ⟨by simp only [kdM]; rw [if_neg (by omega)]; rfl, rfl⟩
    · go_enter Try.func78, Try.ntmps78
      go_wp2_with (fail)
      go_ret
      exact ⟨by simp only [kdM]; rw [if_pos (by omega)]; rfl, rfl⟩

/- How often a number stands in a list. -/
def cnt (f : Nat → Int) (at_ : Int) : Nat → Nat
  | 0 => 0
  | n + 1 => cnt f at_ n + (if f n = at_ then 1 else 0)
theorem cnt_le (f : Nat → Int) (at_ : Int) : ∀ n, cnt f at_ n ≤ n
  | 0 => Nat.le_refl _
  | n + 1 => by have := cnt_le f at_ n; simp only [cnt]; split <;> omega

set_option maxHeartbeats 1000000 in
theorem in_any (x : Sx) (at_ : Int) (w : World) (h : x.At w) (hn : x.n ≤ 1000000000) :
    Calls Try.prog 127 #[.slice x.a x.n x.c, .int .i64 at_] w fun e w' => e = .returned (.int .i64 (cnt x.f at_ x.n)) ∧ w' = w := by
  obtain ⟨xa, n, xc, f⟩ := x
  simp only [Sx.At] at h hn ⊢
  go_enter Try.func127, Try.ntmps127
  go_wp2_with (fail)
  go_loop [5, 6] (fun kk i => ∃ k : Nat, k ≤ n ∧ i = .int .i64 k ∧ kk = .int .i64 (cnt f at_ k)) (fun _ i => n - (intOf i).toNat)
  case atStart => exact ⟨0, by omega, rfl, rfl⟩
  case round =>
    obtain ⟨k, hk, rfl, rfl⟩ := hrel
    have hc := cnt_le f at_ k
    by_cases hlt : (k : Int) < n
    · rcases h with h | ⟨b1, o1, rfl, h⟩
      · omega
      have c1 := h k (by omega)
      clear h
      by_cases e : f k = at_
      · go_wp2_with (fail)
        go_round
        case rel => exact ⟨k + 1, by omega, by go_num, by simp only [cnt, if_pos e]; go_num⟩
        case measure => simp [intOf]; omega
      · go_wp2_with (fail)
        go_round
        case rel => exact ⟨k + 1, by omega, by go_num, by simp only [cnt, if_neg e]; go_num⟩
        case measure => simp [intOf]; omega
    · have e : k = n := by omega
      subst e
      go_wp2_with (fail)
      go_ret
      exact ⟨rfl, rfl⟩

end Go.Proofs.Ytipbijcmpbefpaa.Book

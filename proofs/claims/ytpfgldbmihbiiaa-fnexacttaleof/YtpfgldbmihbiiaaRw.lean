/- What a law rests on while it goes: structs of its own in memory: over no program. -/
import Derived.Test.YtpfgldbmihbiiaaAid
namespace Go.Proofs.Ytpfgldbmihbiiaa.Aid
open Go.ChangeShapes Go.WideShapes Go.ChangeAt Go.RowKit

structure Rw (w0 : World) (rs : List (Nat × List Value)) (w : World) : Prop where
  r : ∀ p ∈ rs, w.rangeAt p.1 0 p.2 ∧ p.1 < w.heap.size
  b : Below w0.heap.size w0 w

theorem Rw.start (w : World) : Rw w [] w := ⟨fun p hp => by simp at hp, Below.refl _ _⟩
theorem Rw.later {w0 w w1 : World} {rs : List (Nat × List Value)} (h : Rw w0 rs w) (hb : Below w.heap.size w w1) : Rw w0 rs w1 :=
  ⟨fun p hp => ⟨range_below hb (h.r p hp).1 (h.r p hp).2, Nat.lt_of_lt_of_le (h.r p hp).2 hb.size⟩, h.b.trans (hb.mono h.b.size)⟩
theorem setCells_size (b : Nat) : ∀ (vs : List Value) (o : Nat) (w : World), (w.setCells b o vs).heap.size = w.heap.size
  | [], _, _ => rfl
  | v :: r, o, w => by rw [World.setCells, setCells_size b r]; simp [World.setCell]
theorem there_new (w : World) (Z : Array Value) (t : TypeId) (n : Nat) (hn : Z.size = n) : (w.alloc (.cells Z t)).there w.heap.size 0 n := by
  subst hn; exact there_lit Z (heap1_0 _ _)
theorem Rw.put {w0 w : World} {rs : List (Nat × List Value)} (h : Rw w0 rs w) (Z C : Array Value) (t : TypeId) (hn : Z.size = C.size) : Rw w0 ((w.heap.size, C.toList) :: rs) ((w.alloc (.cells Z t)).setCells w.heap.size 0 C.toList) := by
  have hl := h.later (below1 w (.cells Z t))
  have ht := there_new w Z t C.toList.length (by rw [hn]; simp)
  have hb := below_setCells (below1 w (.cells Z t)) (Nat.le_refl _) C.toList 0
  have hs := hb.size
  have z : w.heap.size < ((w.alloc (.cells Z t)).setCells w.heap.size 0 C.toList).heap.size := by
    have : ((w.alloc (.cells Z t)).setCells w.heap.size 0 C.toList).heap.size = (w.alloc (.cells Z t)).heap.size := setCells_size _ _ _ _
    rw [this]; simp
  refine ⟨fun p hp => ?_, (h.later hb).b⟩
  rcases List.mem_cons.1 hp with rfl | hp
  · exact ⟨World.rangeAt_setCells_same _ _ _ _ ht, z⟩
  · exact (h.later hb).r p hp

end Go.Proofs.Ytpfgldbmihbiiaa.Aid

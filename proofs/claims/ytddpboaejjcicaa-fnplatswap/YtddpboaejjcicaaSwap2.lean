/- One word is swapped: the specification's way (append). Conditions: at most 1,000,000,000 words. -/
import Derived.Test.YtddpboaejjcicaaSwap
namespace Go.Proofs.Ytddpboaejjcicaa.Plat
open Go.ChangeShapes Go.WideShapes Go.ChangeAt Go.RowKit
open Go.Proofs.Ytddpboaejjcicaa.Aid Go.Proofs.Ytddpboaejjcicaa.Lst

/- What is owned is a row of new memory. -/
theorem own_fk {w : World} {base n : Nat} {v : Value} {f : Nat → Int} {t : TypeId} (h : w.ownsRow base t 1 v n (rowOf n f)) (hv : ¬ v = .slice none 0 0) : ∃ g c, v = .slice (some ⟨g, 0, none⟩) n c ∧ base ≤ g ∧ g < w.heap.size ∧ Fk .u64 n w g f := by
  obtain ⟨_, h | ⟨g, cap, cur, rfl, hb, hg, _, _, _, ht⟩⟩ := h
  · exact absurd h.1 hv
  · refine ⟨g, cap, rfl, hb, ?_, fk_of_row hg (fun j hj => ?_)⟩
    · exact Nat.lt_of_not_le fun hle => by rw [Array.getElem?_eq_none hle] at hg; cases hg
    · have := rowOf_get n f j hj
      rw [← ht, Nat.mul_one, List.getElem?_take, if_pos hj] at this
      simpa using this

theorem own_nil (w : World) (t : TypeId) : (w.alloc (.cells #[] t)).ownsRow w.heap.size t 1 (.slice (some ⟨w.heap.size, 0, none⟩) 0 0) 0 [] :=
  ⟨rfl, .inr ⟨w.heap.size, 0, #[], rfl, Nat.le_refl _, heap1_0 _ _, Nat.le_refl _, Nat.zero_le _, rfl, rfl⟩⟩

set_option maxHeartbeats 2000000 in
theorem sswap_any (b0 off n cap : Nat) (f : Nat → Int) (i old now : Int) (w : World) (h : ∀ j, j < n → w.cell? ⟨b0, off + j, none⟩ = some (.int .u64 (f j))) (hn : n ≤ 1000000000) :
    Calls Try.prog 33 #[.slice (some ⟨b0, off, none⟩) n cap, .int .i64 i, .int .u64 old, .int .u64 now] w fun e w' => ∃ g c, w.heap.size ≤ g ∧ g < w'.heap.size ∧ e = .returned (.tuple #[.slice (some ⟨g, 0, none⟩) n c, .bool (hit n f i old)]) ∧ Fk .u64 n w' g (swF n f i old now) ∧ Below w.heap.size w w' := by
  obtain ⟨i0, hi0, hz0, hz1, hz2⟩ := info_parts infoUint64
  have hnews : ∀ j u, (rowOf n f)[j]? = some u → (w.alloc (.cells #[] 35)).cell? ((⟨b0, off, none⟩ : Addr).add j) = some u := fun j u hu => by
    obtain ⟨hj, rfl⟩ := rowOf_lt hu
    rw [Addr.add_mid, World.cell?_alloc_lt _ _ _ (World.block_lt_of_cell? w _ (h j hj))]; exact h j hj
  go_enter Try.func33, Try.ntmps33
  go_wp2_with (refine wpList_append_own _ rfl _ _ 26 rfl w.heap.size 35 i0 (.int .u64 0) 1 8 Try.underlying26 hi0 hz0 hz1 hz2 rfl (by decide) _ 0 [] rfl (own_nil w 35) ⟨b0, off, none⟩ n _ (rowOf n f) rfl (by rw [rowOf_len]; omega) hnews (rowOf_one n f) (by unfold maxLen; omega) (by omega) (by simp) ?_)
  intro v w1 hown hgrow hiff
  obtain ⟨g, c, rfl, hbg, hgs, f1⟩ := own_fk hown hiff
  have B1 : Below w.heap.size w w1 := (below1 w _).grown hgrow (by simp) (fun k hk => by simp [Value.ownBlock] at hk; omega)
  clear hown hgrow hiff hnews hi0 hz0 hz1 hz2
  by_cases hi : 0 ≤ i ∧ i < n
  · obtain ⟨j, rfl⟩ := Int.eq_ofNat_of_zero_le hi.1
    have hlt : (j : Int) < n := hi.2
    have h1 : decide ((j : Int) < 0) = false := by simp
    have h2 : decide ((n : Int) ≤ j) = false := by simp; omega
    have hc : w1.cell? ⟨b0, off + j, none⟩ = some (.int .u64 (f j)) := by
      have hs := h j (by omega)
      rw [B1.cell (p := ⟨b0, off + j, none⟩) (World.block_lt_of_cell? w _ hs)]; exact hs
    have gg := f1 j (by omega)
    clear h
    by_cases ho : f j = old
    · have hh : hit n f j old = true := hit_t ⟨hi.1, hi.2, by simpa using ho⟩
      have hobn : (f j != old) = false := by simp [ho]
      have HO : Hid (f j = old) := ho
      clear ho
      go_wp2_with (fail)
      go_ret2
      refine ⟨g, c, hbg, by simpa [World.setCell] using hgs, by rw [hh]; rfl, f1.set j now _ ?_ (fun k _ hk => ?_), B1.setCell (by simpa using hbg) _⟩
      · unfold swF; rw [if_pos ⟨hh, by simp⟩]
      · unfold swF; rw [if_neg (fun h => hk (by simpa using h.2))]
    · have hh : hit n f j old = false := hit_f (fun h => ho (by simpa using h.2.2))
      have hobn : (f j != old) = true := by simp [ho]
      go_wp2_with (fail)
      go_ret2
      exact ⟨g, c, hbg, hgs, by rw [hh]; rfl, f1.congr (fun k _ => swF_f hh k), B1⟩
  · have hh : hit n f i old = false := hit_f (fun h => hi ⟨h.1, h.2.1⟩)
    by_cases h1 : i < 0
    · have h1' : decide (i < 0) = true := by simpa using h1
      clear h
      go_wp2_with (fail)
      go_ret2
      exact ⟨g, c, hbg, hgs, by rw [hh]; rfl, f1.congr (fun k _ => swF_f hh k), B1⟩
    · have h1' : decide (i < 0) = false := by simpa using h1
      have h2 : decide ((n : Int) ≤ i) = true := by simp; omega
      have HH : Hid (hit n f i old = false) := hh
      clear h hh hi h1
      go_wp2_with (fail)
      go_ret2
      exact ⟨g, c, hbg, hgs, by rw [HH.out]; rfl, f1.congr (fun k _ => swF_f HH.out k), B1⟩

end Go.Proofs.Ytddpboaejjcicaa.Plat

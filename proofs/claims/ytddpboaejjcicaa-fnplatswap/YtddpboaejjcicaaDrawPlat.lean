/- Reading a code: words, an address and two words; a house. Conditions: the code is a slice of bytes that can be read. -/
import Derived.Test.YtddpboaejjcicaaOpen
import Derived.Test.YtddpboaejjcicaaSwap2
namespace Go.Proofs.Ytddpboaejjcicaa.Draw
open Go.ChangeShapes Go.WideShapes Go.ChangeAt Go.RowKit
open Go.Proofs.Ytddpboaejjcicaa.Aid Go.Proofs.Ytddpboaejjcicaa.Lst Go.Proofs.Ytddpboaejjcicaa.Plat

theorem results_tmp4 {fn : Func} {t u v x : Tmp} (h : fn.results = #[.tmp t, .tmp u, .tmp v, .tmp x]) (tmps : Array Value) (P : Program) (w : World) :
    (results fn tmps).run P w = .ok (.tuple #[tmps.getD t undef, tmps.getD u undef, tmps.getD v undef, tmps.getD x undef]) w := by
  simp [results, h]

/- What is owned is so still where only the reader has turned. -/
theorem own_save {w w' : World} {r base n : Nat} {e : TypeId} {v : Value} {xs : List Value} (h : w.ownsRow base e 1 v n xs) (hs : Save r w w') (hr : r < base) : w'.ownsRow base e 1 v n xs := by
  obtain ⟨hl, h | ⟨g, cap, cur, hv, hb, hg, h1, h2, h3, h4⟩⟩ := h
  · exact ⟨hl, .inl h⟩
  · have hlt : g < w.heap.size := Nat.lt_of_not_le fun hle => by rw [Array.getElem?_eq_none hle] at hg; cases hg
    exact ⟨hl, .inr ⟨g, cap, cur, hv, hb, by rw [hs.block g (by omega) hlt]; exact hg, h1, h2, h3, h4⟩⟩

theorem save_grown {w w' : World} {g : Nat} (h : w.grownBy w' (some g)) : Save g w w' :=
  ⟨h.os, h.tape, h.output, h.size, fun k hk hs => h.block k hs (fun e => hk (by injection e with e))⟩

theorem own_block {w : World} {base n : Nat} {e : TypeId} {v : Value} {xs : List Value} (h : w.ownsRow base e 1 v n xs) (hv : ¬ v = .slice none 0 0) : ∃ g, Hid (v.ownBlock = some g) ∧ base ≤ g ∧ g < w.heap.size := by
  obtain ⟨_, h | ⟨g, cap, cur, rfl, hb, hg, _⟩⟩ := h
  · exact absurd h.1 hv
  · exact ⟨g, rfl, hb, Nat.lt_of_not_le fun hle => by rw [Array.getElem?_eq_none hle] at hg; cases hg⟩

/- The code's bytes lie below some block. -/
def Old (a : Option Addr) (len B : Nat) : Prop := len = 0 ∨ ∀ x, a = some x → x.block < B
theorem Rd.old {w : World} {r : Nat} {a : Option Addr} {len cap : Nat} {zs : List Int} {p : Int} (h : Rd w r a len cap zs p) : Old a len w.heap.size := by
  rcases h.row with h0 | ⟨b, off, e, hb, hl, hc, hw⟩
  · exact .inl h0
  · by_cases h0 : len = 0
    · exact .inl h0
    · exact .inr fun x hx => by
        rw [e] at hx; cases hx
        exact World.block_lt_of_cell? w _ (hc 0 (by omega))
theorem Rd.carry2 {w w' : World} {r : Nat} {a : Option Addr} {len cap : Nat} {zs : List Int} {p : Int} (h : Rd w r a len cap zs p) {s B : Nat} (hs : Save s w w') (hr : s ≠ r) (ho : Old a len B) (hB : B ≤ s) : Rd w' r a len cap zs p := by
  rcases ho with h0 | ho
  · have hlt := h.lt
    refine ⟨?_, ?_, ?_, h.p0, h.p1, h.l1, .inl h0⟩
    · rw [hs.cell (q := ⟨r, 0, none⟩) (Ne.symm hr) hlt]; exact h.sl
    · rw [hs.cell (q := ⟨r, 1, none⟩) (Ne.symm hr) hlt]; exact h.pl
    · have := h.fz
      rw [World.frozen?_of_block (w := w) (hs.block r (Ne.symm hr) hlt)]; exact this
  · exact h.carry hs hr (fun x hx => by have := ho x hx; omega)

theorem rowOf_snoc (m : Nat) (f : Nat → Int) (x : Int) : rowOf m f ++ [.int .u64 x] = rowOf (m + 1) (fun j => if j < m then f j else x) := by
  unfold rowOf
  rw [List.range_succ, List.map_append]
  congr 1
  · apply List.map_congr_left
    intro j hj
    rw [List.mem_range] at hj
    show _ = Value.int .u64 (if j < m then f j else x)
    rw [if_pos hj]
  · simp

theorem one_cell (w : World) (t : TypeId) (x : Int) : ∀ j u, ([.int .u64 x] : List Value)[j]? = some u → (w.alloc (.cells #[.int .u64 x] t)).cell? ((⟨w.heap.size, 0, none⟩ : Addr).add j) = some u := fun j u hu => by
  match j, hu with
  | 0, hu => simp at hu; subst hu; rw [Addr.add_mid, cell_of_row _ _ _ _ _ _ (heap1_0 w _)]; rfl

set_option maxHeartbeats 2000000 in
theorem drawSwap_any (a : Option Addr) (len cap : Nat) (zs : List Int) (w : World) (h : Row w a len cap zs) :
    Calls Try.prog 31 #[.slice a len cap] w fun e w' => ∃ (g n c : Nat) (f : Nat → Int) (i old now : Int), e = .returned (.tuple #[.slice (some ⟨g, 0, none⟩) n c, .int .i64 i, .int .u64 old, .int .u64 now]) ∧ n ≤ 5 ∧ Fk .u64 n w' g f ∧ -1 ≤ i ∧ i ≤ 6 ∧ w.heap.size ≤ g ∧ g < w'.heap.size ∧ Below w.heap.size w w' := by
  obtain ⟨i0, hi0, hz0, hz1, hz2⟩ := info_parts infoUint64
  go_enter Try.func31, Try.ntmps31
  go_wp2_with (fail)
  refine (open_any a len cap zs w h).mono ?_
  rintro e w1 ⟨rfl, ⟨ln, cp, hr⟩, hb⟩
  have hlt := hr.lt
  go_wp2_with (fail)
  have hold := hr.old
  have hr1 := hr.data_ne (.cells #[] 35)
  have ho1 := own_nil w1 35
  have B1 := hb.alloc (by omega) (.cells #[] 35)
  have hz : w.heap.size + 1 ≤ w1.heap.size := hlt
  have hy : (w1.alloc (.cells #[] 35)).heap.size = w1.heap.size + 1 := by simp
  generalize hv0 : Value.slice (some ⟨w1.heap.size, 0, none⟩) 0 0 = v0 at ho1 ⊢
  generalize w1.alloc (.cells #[] 35) = W at ho1 hr1 B1 hy ⊢
  refine (pick_on w.heap.size a ln cp zs 0 6 W hr1 (by omega)).mono ?_
  rintro e w2 ⟨k0, rfl, k00, k01, -, hr2, hs2⟩
  have k01' := k01 (by omega)
  obtain ⟨k, rfl⟩ := Int.eq_ofNat_of_zero_le k00
  have ho2 : w2.ownsRow w1.heap.size 35 1 v0 0 (rowOf 0 fun _ => 0) := own_save ho1 hs2 (by omega)
  have B2 : Below w.heap.size w w2 := B1.trans (hs2.below (Nat.le_refl _) (by omega))
  have hnn : ¬ v0 = .slice none 0 0 := by rw [← hv0]; intro e; cases e
  have hz2' := hs2.size
  clear ho1 hr1 hr hb hv0 k01 k00 hs2 B1
  go_wp2_with (fail)
  go_loopw [7, 8] (fun v i wr => ∃ (t m : Nat) (f : Nat → Int), t + m ≤ 5 ∧ i = .int .i64 t ∧ wr.ownsRow w1.heap.size 35 1 v m (rowOf m f) ∧ ¬ v = .slice none 0 0 ∧ (∃ p, 0 ≤ p ∧ p ≤ 100 + (5 - (t : Int)) ∧ Rd wr w.heap.size a ln cp zs p) ∧ Below w.heap.size w wr) (fun _ i _ => (intOf i).toNat)
  case atStart => exact ⟨k, 0, _, by omega, rfl, ho2, hnn, ⟨_, by omega, by omega, hr2⟩, B2⟩
  case round =>
    obtain ⟨t, m, f, htm, rfl, ho, hn, ⟨p, p0, p1, hr⟩, hB⟩ := hrel
    clear ho2 hnn hr2 B2
    by_cases ht : (0 : Int) < t
    · go_wp2_with (fail)
      refine (pick_on w.heap.size a ln cp zs p 3 wr hr (by omega)).mono ?_
      rintro e w3 ⟨x, rfl, x0, x1, -, hr3, hs3⟩
      have x1' := x1 (by omega)
      have ho3 := own_save ho hs3 (by omega)
      have B3 := hB.trans (hs3.below (Nat.le_refl _) hB.size)
      have hz3 := hr3.lt
      obtain ⟨g, EG, gb, gl⟩ := own_block ho3 hn
      clear x1 ho hB hr hs3
      go_wp2_with (refine wpList_append_own _ rfl _ _ 26 rfl w1.heap.size 35 i0 (.int .u64 0) 1 8 Try.underlying26 hi0 hz0 hz1 hz2 rfl (by decide) _ m (rowOf m f) rfl (ho3.alloc _) ⟨w3.heap.size, 0, none⟩ 1 1 [.int .u64 x] rfl rfl (one_cell w3 35 x) (by intro u hu; simp at hu; subst hu; rfl) (by unfold maxLen; omega) (by omega) (by simp; omega) ?_)
      intro v' w4 hown hgrow hiff
      rw [rowOf_snoc] at hown
      rw [EG.out] at hgrow
      have hs4 := save_grown hgrow
      have hr4 := (hr3.data_ne (.cells #[.int .u64 x] 35)).carry2 hs4 (by omega) hold gb
      have B4 : Below w.heap.size w w4 := (B3.alloc (by omega) _).trans (hs4.below (by omega) (by simp; omega))
      have hn' : ¬ v' = .slice none 0 0 := hiff
      clear hgrow hiff ho3 hr3 B3 hs4
      go_wp2_with (fail)
      go_roundw
      case rel => exact ⟨t - 1, m + 1, _, by omega, by go_num, hown, hn', ⟨p + 1, by omega, by omega, hr4⟩, B4⟩
      case measure => simp [intOf]; omega
    · have e0 : t = 0 := by omega
      subst e0
      go_wp2_with (fail)
      refine (pick_on w.heap.size a ln cp zs p 8 wr hr (by omega)).mono ?_
      rintro e w3 ⟨x, rfl, x0, x1, -, hr3, hs3⟩
      have x1' := x1 (by omega)
      have ho3 := own_save ho hs3 (by omega)
      have B3 := hB.trans (hs3.below (Nat.le_refl _) hB.size)
      clear x1 ho hB hr hs3
      go_wp2_with (fail)
      refine (pick_on w.heap.size a ln cp zs (p + 1) 3 w3 hr3 (by omega)).mono ?_
      rintro e w4 ⟨y, rfl, y0, y1, -, hr4, hs4⟩
      have y1' := y1 (by omega)
      have ho4 := own_save ho3 hs4 (by omega)
      have B4 := B3.trans (hs4.below (Nat.le_refl _) B3.size)
      clear y1 ho3 B3 hr3 hs4
      go_wp2_with (fail)
      refine (pick_on w.heap.size a ln cp zs (p + 1 + 1) 3 w4 hr4 (by omega)).mono ?_
      rintro e w5 ⟨z, rfl, z0, z1, -, hr5, hs5⟩
      have z1' := z1 (by omega)
      have ho5 := own_save ho4 hs5 (by omega)
      have B5 := B4.trans (hs5.below (Nat.le_refl _) B4.size)
      clear z1 ho4 B4 hr4 hs5
      go_wp2_with (fail)
      obtain ⟨g, c, rfl, hbg, hgs, f5⟩ := own_fk ho5 hn
      refine bodyPost_ret (results_tmp4 rfl _ _ _) rfl ?_
      exact ⟨g, m, c, f, x - 1, y, z, rfl, by omega, f5, by omega, by omega, by omega, hgs, B5⟩

end Go.Proofs.Ytddpboaejjcicaa.Draw

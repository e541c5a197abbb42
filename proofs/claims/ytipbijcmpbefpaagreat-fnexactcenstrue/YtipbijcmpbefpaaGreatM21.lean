import Derived.Test.YtipbijcmpbefpaaGreatM20
import Derived.Test.YtipbijcmpbefpaaGreatM9

/- What is done is carried out, by the program. Conditions: at most 1,000,000,000 words, each of 64 bits. -/
namespace Go.Proofs.YtipbijcmpbefpaaGreat.Plat
open Go.ChangeShapes Go.WideShapes Go.ChangeAt Go.RowKit
open Go.Proofs.YtipbijcmpbefpaaGreat.Words Go.Proofs.YtipbijcmpbefpaaGreat.Aid Go.Proofs.YtipbijcmpbefpaaGreat.Lst
set_option maxRecDepth 100000
set_option linter.unusedVariables false

theorem desk_no (b off n cap : Nat) (f : Nat → Int) (s p l : Int) (w : World) (h : ∀ j, j < n → w.cell? ⟨b, off + j, none⟩ = some (.int .u64 (f j))) (hb : b < w.heap.size) (hok : okB s p l = true) (hn : (n : Int) = 7 + s * 23 + p * 17) (hcap : n ≤ cap) (hw : W64 f) (hd : ¬ DoneP f s (dk s p l (f 2))) :
    Calls Tryz.prog 70 #[.slice (some ⟨b, off, none⟩) n cap, .agg #[.int .i64 s, .int .i64 p, .int .i64 l]] w fun e w' => e = .returned (.tuple #[.slice none 0 0, .bool false]) ∧ Below w.heap.size w w' := by
  by_cases h1 : lo32 (f 2) % 4 = 2
  · by_cases h2 : sl8 (f 2) < s
    · obtain ⟨d, e, d3, d21⟩ := dk_bd hok h2
      have ed : (dk s p l (f 2)).toNat = d := by rw [e]; rfl
      by_cases h3 : f d / 4294967296 = f 2 / 4294967296
      · by_cases h4 : lo32 (f d) ≤ 20
        · exact absurd ⟨h1, h2, by rw [ed]; exact h3, by rw [ed]; exact h4⟩ hd
        · exact desk_mn b off n cap f s p l w h hb hok hn hcap hw h1 d e d3 (by omega) h3 h4
      · exact desk_sm b off n cap f s p l w h hb hok hn hcap hw h1 d e d3 (by omega) h3
    · exact desk_slot b off n cap f s p l w h hb hok hn hcap hw h1 h2
  · exact desk_state b off n cap f s p l w h hb hok hn hcap hw h1

/- The words, so many changes having been carried out. -/
def allF (n : Nat) (f : Nat → Int) (d : Nat) (st : Int) : Nat → Nat → Int
  | 0 => f
  | i + 1 => if f (d + 1 + i) / 4294967296 = st then putF n (allF n f d st i) (f (d + 1 + i)) else allF n f d st i
theorem allF_w {n : Nat} {f : Nat → Int} (h : W64 f) (d : Nat) (st : Int) : ∀ i, W64 (allF n f d st i)
  | 0 => h
  | i + 1 => by
    unfold allF
    split
    · exact putF_w (allF_w h d st i) _
    · exact allF_w h d st i
theorem allF_yes {n : Nat} {f : Nat → Int} {d : Nat} {st : Int} {i : Nat} (h : f (d + 1 + i) / 4294967296 = st) : allF n f d st (i + 1) = putF n (allF n f d st i) (f (d + 1 + i)) := by
  simp only [allF]; rw [if_pos h]
theorem allF_no {n : Nat} {f : Nat → Int} {d : Nat} {st : Int} {i : Nat} (h : ¬ f (d + 1 + i) / 4294967296 = st) : allF n f d st (i + 1) = allF n f d st i := by
  simp only [allF]; rw [if_neg h]
def gD (n : Nat) (f : Nat → Int) : Int := dk (gS n f) (gP n f) (gL n f) (f 2)
def IsDone (n : Nat) (f : Nat → Int) : Prop := gd n f = true ∧ DoneP f (gS n f) (gD n f)
def endF (n : Nat) (f : Nat → Int) : Nat → Int := fun j => if j = 2 then pack (doorV 0 0 0) (f 2 / 4294967296 + 1) else allF n f (gD n f).toNat (f 2 / 4294967296) (lo32 (f (gD n f).toNat)).toNat j
def DnQ (n : Nat) (f g : Nat → Int) : Prop := (IsDone n f ∧ g = endF n f) ∨ (¬ IsDone n f ∧ g = f)
theorem dnq_one {n : Nat} {f g g' : Nat → Int} (h : DnQ n f g) (h' : DnQ n f g') : g = g' := by
  rcases h with ⟨h, rfl⟩ | ⟨h, rfl⟩ <;> rcases h' with ⟨h', rfl⟩ | ⟨h', rfl⟩
  · rfl
  · exact absurd h h'
  · exact absurd h' h
  · rfl
theorem gd_ok {n : Nat} {f : Nat → Int} (h : gd n f = true) : okB (gS n f) (gP n f) (gL n f) = true ∧ (n : Int) = 7 + gS n f * 23 + gP n f * 17 := by
  have h' : 0 < n ∧ f 0 / 4294967296 = 201115 ∧ (n : Int) = size (cS (f 0)) (cP (f 0)) (cL (f 0)) := of_decide_eq_true h
  have e1 : gS n f = cS (f 0) := by unfold gS; rw [if_pos h]
  have e2 : gP n f = cP (f 0) := by unfold gP; rw [if_pos h]
  have e3 : gL n f = cL (f 0) := by unfold gL; rw [if_pos h]
  rw [e1, e2, e3]
  have h3 := h'.2.2
  unfold size at h3
  split at h3
  · rename_i ok
    exact ⟨ok, h3⟩
  · omega

set_option maxHeartbeats 4000000 in
theorem done_any (a : Option Addr) (n cap : Nat) (f : Nat → Int) (w : World) (h : Sl .u64 w a n f) (hn : n ≤ 1000000000) (hcap : n ≤ cap) (hw : W64 f) :
    Calls Tryz.prog 19 #[.slice a n cap] w fun e w' => ∃ g, e = .returned (.slice (some ⟨w.heap.size, 0, none⟩) n n) ∧ DnQ n f g ∧ Fk .u64 n w' w.heap.size g ∧ Below w.heap.size w w' ∧ w.heap.size < w'.heap.size := by
  have HW : Hid (W64 f) := hw
  have HS : Hid (Sl .u64 w a n f) := h
  go_enter Tryz.func19, Tryz.ntmps19
  go_wp2_with (fail)
  refine (copy_any a n cap f w h hn).mono ?_
  rintro e w1 ⟨rfl, f1, B1, z1⟩
  clear h hw
  go_wp2_with (fail)
  refine (check_all a n cap f w1 (HS.out.later B1) hn (fun j _ => HW.out j)).mono ?_
  rintro e w2 ⟨rfl, B2⟩
  have f2 := f1.later B2
  have C2 := B1.trans (B2.mono (by omega))
  have z2 := B2.size
  clear B2 f1 B1
  by_cases hg : gd n f = true
  case neg =>
    have hg' : gd n f = false := by simpa using hg
    have ND : Hid (¬ IsDone n f) := fun g => hg g.1
    rw [hg']
    clear hg hg'
    have HF : Hid (Fk .u64 n w2 w.heap.size f) := f2
    clear f2
    go_wp2_with (fail)
    go_ret
    exact ⟨f, rfl, .inr ⟨ND.out, rfl⟩, HF.out.later (below1 _ _), C2.alloc (by omega) _, by simp; omega⟩
  obtain ⟨ok, en⟩ := gd_ok hg
  rw [hg]
  have HD0 : Hid (∀ q, q ↔ DoneP f (gS n f) (gD n f)) ∨ True := .inr trivial
  clear HD0
  by_cases hd : DoneP f (gS n f) (gD n f)
  case neg =>
    have ND : Hid (¬ IsDone n f) := fun g => hd g.2
    rcases HS.out with h0 | ⟨b, off, rfl, hc⟩
    · obtain ⟨k1, k2, k3, k4, _, _⟩ := okB_of ok
      omega
    have hb : b < w.heap.size := World.block_lt_of_cell? w _ (hc 0 (by obtain ⟨k1, k2, k3, k4, _, _⟩ := okB_of ok; omega))
    have HC : Hid (∀ j, j < n → w.cell? ⟨b, off + j, none⟩ = some (.int .u64 (f j))) := hc
    have HD : Hid (¬ DoneP f (gS n f) (dk (gS n f) (gP n f) (gL n f) (f 2))) := hd
    have OK : Hid (okB (gS n f) (gP n f) (gL n f) = true) := ok
    have EN : Hid ((n : Int) = 7 + gS n f * 23 + gP n f * 17) := en
    have HF : Hid (Fk .u64 n w2 w.heap.size f) := f2
    clear hc hd hg ok en f2
    generalize gS n f = s, gP n f = p, gL n f = l at *
    have b3 := below1 w2 (.cells #[.int .i64 s, .int .i64 p, .int .i64 l] 24)
    have C3 := C2.trans (b3.mono (by omega))
    have F3 : Hid (Fk .u64 n _ w.heap.size f) := HF.out.later b3
    have z3 : w2.heap.size < (w2.alloc (.cells #[.int .i64 s, .int .i64 p, .int .i64 l] 24)).heap.size := by simp
    go_wp2_with (fail)
    generalize w2.alloc (.cells #[.int .i64 s, .int .i64 p, .int .i64 l] 24) = w3 at b3 C3 F3 z3 ⊢
    refine (desk_no b off n cap f s p l w3 (fun j hj => (C3.cell (p := ⟨b, off + j, none⟩) hb).trans (HC.out j hj)) (by omega) OK.out EN.out hcap HW.out HD.out).mono ?_
    rintro e w4 ⟨rfl, B4⟩
    have F4 : Hid (Fk .u64 n w4 w.heap.size f) := F3.out.later B4
    have C4 := C3.trans (B4.mono (by omega))
    have z4 := B4.size
    clear B4 C3 F3 b3 C2 HF
    go_wp2_with (fail)
    go_ret
    exact ⟨f, rfl, .inr ⟨ND.out, rfl⟩, F4.out, C4, by omega⟩
  have ID : Hid (IsDone n f) := ⟨hg, hd⟩
  obtain ⟨d, ed, d3, d21⟩ := dk_bd ok hd.sl
  have eD : (gD n f).toNat = d := by unfold gD; rw [ed]; rfl
  obtain ⟨m, em⟩ := Int.eq_ofNat_of_zero_le (lo32_lo (f d))
  have sm : f d / 4294967296 = f 2 / 4294967296 := by have := hd.sm; rwa [eD] at this
  have m20 : m ≤ 20 := by have := hd.mn; rw [eD, em] at this; omega
  have EE : Hid (endF n f = fun j => if j = 2 then pack (doorV 0 0 0) (f 2 / 4294967296 + 1) else allF n f d (f 2 / 4294967296) m j) := by unfold Hid endF; rw [eD, em]; rfl
  have hs2 := hd.st
  rcases HS.out with h0 | ⟨b, off, rfl, hc⟩
  · obtain ⟨k1, k2, k3, k4, _, _⟩ := okB_of ok
    omega
  have hb : b < w.heap.size := World.block_lt_of_cell? w _ (hc 0 (by obtain ⟨k1, k2, k3, k4, _, _⟩ := okB_of ok; omega))
  have HC : Hid (∀ j, j < n → w.cell? ⟨b, off + j, none⟩ = some (.int .u64 (f j))) := hc
  have OK : Hid (okB (gS n f) (gP n f) (gL n f) = true) := ok
  have EN : Hid ((n : Int) = 7 + gS n f * 23 + gP n f * 17) := en
  have ED : Hid (dk (gS n f) (gP n f) (gL n f) (f 2) = d) := ed
  have EM : Hid (lo32 (f d) = m) := em
  have SM : Hid (f d / 4294967296 = f 2 / 4294967296) := sm
  have S2 : Hid (lo32 (f 2) % 4 = 2) := hs2
  have HF : Hid (Fk .u64 n w2 w.heap.size f) := f2
  have dn : d + 21 ≤ n := by omega
  have n2 : 2 < n := by omega
  clear hc hd hg ok en f2 ed em sm hs2 eD d21
  generalize gS n f = s, gP n f = p, gL n f = l at *
  have b3 := below1 w2 (.cells #[.int .i64 s, .int .i64 p, .int .i64 l] 24)
  have C3 := C2.trans (b3.mono (by omega))
  have F3 : Hid (Fk .u64 n _ w.heap.size f) := HF.out.later b3
  have z3 : w2.heap.size < (w2.alloc (.cells #[.int .i64 s, .int .i64 p, .int .i64 l] 24)).heap.size := by simp
  go_wp2_with (fail)
  generalize w2.alloc (.cells #[.int .i64 s, .int .i64 p, .int .i64 l] 24) = w3 at b3 C3 F3 z3 ⊢
  refine (desk_ok b off n cap f s p l w3 (fun j hj => (C3.cell (p := ⟨b, off + j, none⟩) hb).trans (HC.out j hj)) (by omega) OK.out EN.out hcap HW.out S2.out d ED.out d3 dn SM.out m EM.out m20).mono ?_
  rintro e w4 ⟨⟨c, rfl⟩, B4⟩
  have F4 : Hid (Fk .u64 n w4 w.heap.size f) := F3.out.later B4
  have C4 := C3.trans (B4.mono (by omega))
  have z4 := B4.size
  have c2 : w4.cell? ⟨b, off + 2, none⟩ = some (.int .u64 (f 2)) := (C4.cell (p := ⟨b, off + 2, none⟩) hb).trans (HC.out 2 n2)
  obtain ⟨x0, x1⟩ := HW.out 2
  have n2i : (2 : Int) < n := by omega
  clear B4 C3 F3 b3 C2 HF
  go_wp2_with (go_at_call 26; refine (st_any (f 2) w4 x0 x1).mono ?_; rintro e w4 ⟨rfl, rfl⟩)
  have st0 : 0 ≤ f 2 / 4294967296 := by omega
  have st1 : f 2 / 4294967296 ≤ 4294967295 := by omega
  clear c2 x0 x1
  generalize hst : f 2 / 4294967296 = st at *
  clear hst
  go_loopw [36] (fun i wr => ∃ k : Nat, k ≤ m ∧ i = .int .i64 k ∧ Fk .u64 n wr w.heap.size (allF n f d st k) ∧ Below w.heap.size w wr ∧ w.heap.size < wr.heap.size) (fun i _ => m - (intOf i).toNat)
  case atStart => exact ⟨0, by omega, rfl, F4.out, C4, by omega⟩
  case round =>
    obtain ⟨k, hk, rfl, fk, C5, z5⟩ := hrel
    have FK : Hid (Fk .u64 n wr w.heap.size (allF n f d st k)) := fk
    clear F4 C4 z4 fk
    by_cases lt : (k : Int) < m
    · have ltn : k < m := by omega
      have ck : wr.cell? ⟨b, off + (d + 1) + k, none⟩ = some (.int .u64 (f (d + 1 + k))) := by
        rw [show off + (d + 1) + k = off + (d + 1 + k) by omega]
        exact (C5.cell (p := ⟨b, off + (d + 1 + k), none⟩) hb).trans (HC.out (d + 1 + k) (by omega))
      obtain ⟨y0, y1⟩ := HW.out (d + 1 + k)
      by_cases eq : f (d + 1 + k) / 4294967296 = st
      · have FN : Hid (allF n f d st (k + 1) = putF n (allF n f d st k) (f (d + 1 + k))) := allF_yes eq
        have eqb : (f (d + 1 + k) / 4294967296 == st) = true := by simpa using eq
        clear eq
        go_wp2_with (go_at_call 26; refine (st_any (f (d + 1 + k)) wr y0 y1).mono ?_; rintro e wr ⟨rfl, rfl⟩)
        refine (carry_any w.heap.size n n (allF n f d st k) (f (d + 1 + k)) wr FK.out z5 hn (allF_w HW.out d st k) y0 y1).mono ?_
        rintro e w5 ⟨rfl, f5, B5⟩
        have F5 : Hid (Fk .u64 n w5 w.heap.size (allF n f d st (k + 1))) := by unfold Hid; rw [FN.out]; exact f5
        have C6 := C5.trans B5
        have z6 := B5.size
        clear f5 B5 FN eqb ck
        go_wp2_with (fail)
        go_roundw
        case rel => exact ⟨k + 1, by omega, by go_num, F5.out, C6, by omega⟩
        case measure => simp [intOf]; omega
      · have FN : Hid (allF n f d st (k + 1) = allF n f d st k) := allF_no eq
        have eqb : (f (d + 1 + k) / 4294967296 == st) = false := by simpa using eq
        have F5 : Hid (Fk .u64 n wr w.heap.size (allF n f d st (k + 1))) := by unfold Hid; rw [FN.out]; exact FK.out
        clear FN FK
        go_wp2_with (go_at_call 26; refine (st_any (f (d + 1 + k)) wr y0 y1).mono ?_; rintro e wr ⟨rfl, rfl⟩)
        go_roundw
        case rel => exact ⟨k + 1, by omega, by go_num, F5.out, C5, z5⟩
        case measure => simp [intOf]; omega
    · have ek : k = m := by omega
      subst ek
      have cc := FK.out 2 n2
      go_wp2_with (go_at_call 51; refine (door_any 0 0 0 (st + 1) wr).mono ?_; rintro e wr ⟨rfl, rfl⟩)
      go_ret
      refine ⟨endF n f, rfl, .inl ⟨ID.out, rfl⟩, ?_, C5.setCell (Nat.le_refl _) _, by simpa [World.setCell] using z5⟩
      rw [EE.out]
      exact FK.out.set 2 _ _ (by simp) (fun j _ hne => by simp [hne])

end Go.Proofs.YtipbijcmpbefpaaGreat.Plat

/- Where each word lies: the specification's address of a desk. Conditions: none. -/
namespace Go.Proofs.YtipbijcmpbefpaaGreat.Plat
open Go.ChangeShapes Go.WideShapes Go.ChangeAt Go.RowKit
open Go.Proofs.YtipbijcmpbefpaaGreat.Words Go.Proofs.YtipbijcmpbefpaaGreat.Aid

set_option maxHeartbeats 8000000 in
theorem sdesk_any (s p l n : Int) (w : World) :
    Calls Tryz.prog 74 #[.agg #[.int .i64 s, .int .i64 p, .int .i64 l], .int .i64 n] w fun e w' => e = .returned (.int .i64 (addr s p l s 21 (3 + s + s + 4 + p + p * 8 + p * 8) n)) ∧ Below w.heap.size w w' := by
  by_cases h : okB s p l = true
  · have hk := okB_of h
    go_enter Tryz.func74, Tryz.ntmps74
    go_wp2_with (fail)
    go_region_with (first | (go_at_call 105; refine (sHouse_ok s p l _ hk).mono ?_; rintro e w' ⟨rfl, rfl⟩) | (go_at_call 121; refine (sAt_ok s p l _ n _ _ _ h (by omega) (by omega) (by omega) (by omega) (by omega) (by omega)).mono ?_; rintro e w' ⟨rfl, rfl⟩))
    all_goals go_wp2_with (fail)
    all_goals go_ret
    all_goals exact ⟨ret_int (by unfold addr; rw [if_pos h]; all_goals (congr 1 <;> omega)), by repeat (first | exact Below.refl _ _ | refine Below.alloc ?_ (by simp <;> omega) _ | apply Below.drew)⟩
  · have h' : okB s p l = false := by simpa using h
    go_enter Tryz.func74, Tryz.ntmps74
    go_wp2_with (fail)
    go_region_with (first | (go_at_call 105; refine (sHouse_any s p l _).mono ?_; rintro e w' ⟨⟨x, rfl⟩, rfl⟩) | (go_at_call 121; refine (sAt_bad s p l _ n _ _ _ h').mono ?_; rintro e w' ⟨rfl, rfl⟩))
    all_goals go_wp2_with (fail)
    all_goals go_ret
    all_goals exact ⟨ret_int (by unfold addr; rw [if_neg h]), by repeat (first | exact Below.refl _ _ | refine Below.alloc ?_ (by simp <;> omega) _ | apply Below.drew)⟩

end Go.Proofs.YtipbijcmpbefpaaGreat.Plat

/- What is done is carried out, by the specification. Conditions: at most 1,000,000,000 words, each of 64 bits. -/
namespace Go.Proofs.YtipbijcmpbefpaaGreat.Plat
open Go.ChangeShapes Go.WideShapes Go.ChangeAt Go.RowKit
open Go.Proofs.YtipbijcmpbefpaaGreat.Words Go.Proofs.YtipbijcmpbefpaaGreat.Aid Go.Proofs.YtipbijcmpbefpaaGreat.Lst
set_option maxRecDepth 100000
set_option linter.unusedVariables false

theorem allF_yes' {n : Nat} {f : Nat → Int} {d : Nat} {st : Int} {j : Nat} (hj : 1 ≤ j) (h : f (d + j) / 4294967296 = st) : allF n f d st j = putF n (allF n f d st (j - 1)) (f (d + j)) := by
  obtain ⟨k, rfl⟩ : ∃ k, j = k + 1 := ⟨j - 1, by omega⟩
  have e : d + (k + 1) = d + 1 + k := by omega
  rw [e] at h ⊢
  exact allF_yes h
theorem allF_no' {n : Nat} {f : Nat → Int} {d : Nat} {st : Int} {j : Nat} (hj : 1 ≤ j) (h : ¬ f (d + j) / 4294967296 = st) : allF n f d st j = allF n f d st (j - 1) := by
  obtain ⟨k, rfl⟩ : ∃ k, j = k + 1 := ⟨j - 1, by omega⟩
  have e : d + (k + 1) = d + 1 + k := by omega
  rw [e] at h
  exact allF_no h

set_option maxHeartbeats 8000000 in
theorem sdone_any (b off n cap : Nat) (f : Nat → Int) (w : World) (h : ∀ j, j < n → w.cell? ⟨b, off + j, none⟩ = some (.int .u64 (f j))) (hb : 0 < n → b < w.heap.size) (hn : n ≤ 1000000000) (hw : W64 f) :
    Calls Tryz.prog 20 #[.slice (some ⟨b, off, none⟩) n cap] w fun e w' => ∃ g q c, w.heap.size ≤ q ∧ q < w'.heap.size ∧ e = .returned (.slice (some ⟨q, 0, none⟩) n c) ∧ DnQ n f g ∧ Fk .u64 n w' q g ∧ Below w.heap.size w w' := by
  obtain ⟨i0, hi0, hz0, hz1, hz2⟩ := info_parts infoUint64
  have HW : Hid (W64 f) := hw
  have HC : Hid (∀ j, j < n → w.cell? ⟨b, off + j, none⟩ = some (.int .u64 (f j))) := h
  clear h hw
  go_enter Tryz.func20, Tryz.ntmps20
  go_wp2_with (fail)
  refine (scheck_all _ n cap f w (.inr ⟨b, off, rfl, HC.out⟩) (fun j _ => HW.out j)).mono ?_
  rintro e w1 ⟨rfl, B1⟩
  generalize hS : gS n f = s
  generalize hP : gP n f = p
  generalize hL : gL n f = l
  have GS : Hid (gS n f = s) := hS
  have GP : Hid (gP n f = p) := hP
  have GL : Hid (gL n f = l) := hL
  clear hS hP hL
  have z1 := B1.size
  have b2 := below1 w1 (.cells #[.int .i64 s, .int .i64 p, .int .i64 l] 24)
  have r2 := range_lit (ints [s, p, l]).toArray (heap1_0 w1 (.cells #[.int .i64 s, .int .i64 p, .int .i64 l] 24))
  have z2 : w1.heap.size + 1 ≤ (w1.alloc (.cells #[.int .i64 s, .int .i64 p, .int .i64 l] 24)).heap.size := by simp
  have C2 := B1.trans (b2.mono z1)
  have OB : Hid (∀ V : World, Below w.heap.size w V → ∀ j u, (rowOf n f)[j]? = some u → V.cell? ((⟨b, off, none⟩ : Addr).add j) = some u) := fun V hV j u hu => by
    obtain ⟨hj, rfl⟩ := rowOf_lt hu
    rw [Addr.add_mid]
    exact (hV.cell (p := ⟨b, off + j, none⟩) (hb (by omega))).trans (HC.out j hj)
  have HR : Hid (World.rangeAt _ _ _ _) := r2
  have HB : Hid (Below w.heap.size w _) := C2
  clear B1 b2 r2 C2
  have OO : Hid ((((w1.alloc (.cells #[.int .i64 s, .int .i64 p, .int .i64 l] 24))).alloc (.cells #[] 44)).ownsRow (w1.heap.size + 1) 44 1 (.slice (some ⟨w1.heap.size + 1, 0, none⟩) 0 0) 0 []) := ⟨rfl, .inr ⟨w1.heap.size + 1, 0, #[], rfl, Nat.le_refl _, heap2_1 w1 _ _, Nat.le_refl _, Nat.zero_le _, rfl, rfl⟩⟩
  have B3 : Hid (Below w.heap.size w (((w1.alloc (.cells #[.int .i64 s, .int .i64 p, .int .i64 l] 24))).alloc (.cells #[] 44))) := HB.out.alloc (by omega) _
  have R3 : Hid ((((w1.alloc (.cells #[.int .i64 s, .int .i64 p, .int .i64 l] 24))).alloc (.cells #[] 44)).rangeAt w1.heap.size 0 (ints [s, p, l])) := range_below (below1 _ _) HR.out (by simp)
  have z3 : w1.heap.size + 2 ≤ (((w1.alloc (.cells #[.int .i64 s, .int .i64 p, .int .i64 l] 24))).alloc (.cells #[] 44)).heap.size := by simp
  clear HR HB z2
  go_wp2_with (refine wpList_append_own _ rfl _ _ 34 rfl (w1.heap.size + 1) 44 i0 (.int .u64 0) 1 8 Tryz.underlying34 hi0 hz0 hz1 hz2 rfl (by decide) _ 0 [] rfl OO.out ⟨b, off, none⟩ n _ (rowOf n f) rfl (by rw [rowOf_len]; omega) (OB.out _ B3.out) (rowOf_one n f) (by unfold maxLen; omega) (by omega) (by omega) ?_)
  intro v w4 hown hgrow hiff
  obtain ⟨q, c, rfl, hbq, hqs, f4⟩ := own_fk hown hiff
  have C4 : Below w.heap.size w w4 := B3.out.grown hgrow (by omega) (fun k hk => by simp [Value.ownBlock] at hk; omega)
  have r4 : w4.rangeAt w1.heap.size 0 (ints [s, p, l]) := fun j u hu => by
    refine hgrow.cell (R3.out j u hu) ?_
    simp [Value.ownBlock]
  have z4 := hgrow.size
  have hq1 : w1.heap.size < q := by omega
  clear hown hgrow hiff OO B3 R3 OB hi0 hz0 hz1 hz2
  have zq : w.heap.size ≤ q := by omega
  have l1 : w1.heap.size < w4.heap.size := by omega
  clear z3 z4
  have HF : Hid (Fk .u64 n w4 q f) := f4
  have HR : Hid (w4.rangeAt w1.heap.size 0 (ints [s, p, l])) := r4
  clear f4 r4
  by_cases hg : gd n f = true
  case neg =>
    have hg' : gd n f = false := by simpa using hg
    have ND : Hid (¬ IsDone n f) := fun g => hg g.1
    rw [hg']
    clear hg hg'
    go_wp2_with (fail)
    go_ret
    exact ⟨f, q, c, zq, hqs, rfl, .inr ⟨ND.out, rfl⟩, HF.out, C4⟩
  obtain ⟨ok, en⟩ := gd_ok hg
  rw [GS.out, GP.out, GL.out] at ok
  rw [GS.out, GP.out] at en
  rw [hg]
  obtain ⟨k1, k2, k3, k4, k5, k6⟩ := okB_of ok
  have n2 : 2 < n := by omega
  have n2i : (2 : Int) < n := by omega
  have hb' : b < w.heap.size := hb (by omega)
  have c2 : w4.cell? ⟨b, off + 2, none⟩ = some (.int .u64 (f 2)) := (C4.cell (p := ⟨b, off + 2, none⟩) hb').trans (HC.out 2 n2)
  obtain ⟨x0, x1⟩ := HW.out 2
  have r0 : w4.cell? ⟨w1.heap.size, 0, none⟩ = some (.int .i64 s) := HR.out 0 _ rfl
  have r1 : w4.cell? ⟨w1.heap.size, 1, none⟩ = some (.int .i64 p) := HR.out 1 _ rfl
  have r2 : w4.cell? ⟨w1.heap.size, 2, none⟩ = some (.int .i64 l) := HR.out 2 _ rfl
  have NG : Hid (IsDone n f ↔ DoneP f s (dk s p l (f 2))) := by
    unfold Hid IsDone gD
    rw [GS.out, GP.out, GL.out]
    exact ⟨fun g => g.2, fun g => ⟨hg, g⟩⟩
  have EN : Hid ((n : Int) = 7 + s * 23 + p * 17) := en
  have OK : Hid (okB s p l = true) := ok
  clear hg en ok
  by_cases h1 : lo32 (f 2) % 4 = 2
  case neg =>
    have h1b : (lo32 (f 2) % 4 != 2) = true := by simpa using h1
    have ND : Hid (¬ IsDone n f) := fun g => h1 (NG.out.1 g).st
    clear h1
    go_wp2_with (go_at_call 73; refine (sdoorOf_any (f 2) w4 x0 x1).mono ?_; rintro e w4 ⟨rfl, rfl⟩)
    go_ret
    exact ⟨f, q, c, zq, hqs, rfl, .inr ⟨ND.out, rfl⟩, HF.out, C4⟩
  have h1b : (lo32 (f 2) % 4 != 2) = false := by simp [h1]
  have H1 : Hid (lo32 (f 2) % 4 = 2) := h1
  clear h1
  by_cases h2 : lo32 (f 2) / 4 % 8 < s
  case neg =>
    have h2b : decide (s ≤ lo32 (f 2) / 4 % 8) = true := by simp; omega
    have h2c : s ≤ lo32 (f 2) / 4 % 8 := by omega
    have ND : Hid (¬ IsDone n f) := fun g => h2 (NG.out.1 g).sl
    clear h2
    go_wp2_with (go_at_call 73; refine (sdoorOf_any (f 2) w4 x0 x1).mono ?_; rintro e w4 ⟨rfl, rfl⟩)
    go_ret
    exact ⟨f, q, c, zq, hqs, rfl, .inr ⟨ND.out, rfl⟩, HF.out, C4⟩
  have h2c : ¬ s ≤ lo32 (f 2) / 4 % 8 := by omega
  have h2b : decide (s ≤ lo32 (f 2) / 4 % 8) = false := by simp; omega
  obtain ⟨d, ed, d3, d21⟩ := dk_bd OK.out (x := f 2) h2
  have ED : Hid (dk s p l (f 2) = d) := ed
  have H2 : Hid (sl8 (f 2) < s) := h2
  have dn : d + 21 ≤ n := by have := EN.out; omega
  clear h2 ed d21
  go_wp2_with (go_at_call 73; refine (sdoorOf_any (f 2) w4 x0 x1).mono ?_; rintro e w4 ⟨rfl, rfl⟩)
  refine (sdesk_any s p l (lo32 (f 2) / 4 % 8) w4).mono ?_
  rintro e w5 ⟨rfl, B5⟩
  have eA : addr s p l s 21 (3 + s + s + 4 + p + p * 8 + p * 8) (lo32 (f 2) / 4 % 8) = d := ED.out
  rw [eA]
  have F5 : Hid (Fk .u64 n w5 q f) := HF.out.later B5
  have C5 := C4.trans (B5.mono (by omega))
  have z5 := B5.size
  have cd : w5.cell? ⟨b, off + d, none⟩ = some (.int .u64 (f d)) := (C5.cell (p := ⟨b, off + d, none⟩) hb').trans (HC.out d (by omega))
  obtain ⟨y0, y1⟩ := HW.out d
  have hdn : d < n := by omega
  have hdi : (d : Int) < n := by omega
  have d300 : (d : Int) ≤ 300 := by have := EN.out; omega
  have d300' : d ≤ 300 := by omega
  clear B5 C4 HF HR r0 r1 r2 c2 eA h1b h2b h2c
  have ed2 : (dk s p l (f 2)).toNat = d := by rw [ED.out]; rfl
  have E2 : Hid ((dk s p l (f 2)).toNat = d) := ed2
  clear ed2
  by_cases h3 : f d / 4294967296 = f 2 / 4294967296
  case neg =>
    have h3b : (f d / 4294967296 != f 2 / 4294967296) = true := by simpa using h3
    have ND : Hid (¬ IsDone n f) := fun g => h3 (by have := (NG.out.1 g).sm; rwa [E2.out] at this)
    clear h3
    go_wp2_with (first | (go_at_call 62; refine (sval_any (f d) w5 y0 y1).mono ?_; rintro e w5 ⟨rfl, rfl⟩) | (go_at_call 75; refine (sst_any _ w5 ?_ ?_).mono ?_; (assumption); (assumption); rintro e w5 ⟨rfl, rfl⟩))
    go_ret
    exact ⟨f, q, c, zq, by omega, rfl, .inr ⟨ND.out, rfl⟩, F5.out, C5⟩
  have h3b : (f d / 4294967296 != f 2 / 4294967296) = false := by simp [h3]
  have H3 : Hid (f d / 4294967296 = f 2 / 4294967296) := h3
  clear h3
  by_cases h4 : lo32 (f d) ≤ 20
  case neg =>
    have h4b : decide (20 < lo32 (f d)) = true := by simp; omega
    have h4c : 20 < lo32 (f d) := by omega
    have ND : Hid (¬ IsDone n f) := fun g => h4 (by have := (NG.out.1 g).mn; rwa [E2.out] at this)
    clear h4
    go_wp2_with (first | (go_at_call 62; refine (sval_any (f d) w5 y0 y1).mono ?_; rintro e w5 ⟨rfl, rfl⟩) | (go_at_call 75; refine (sst_any _ w5 ?_ ?_).mono ?_; (assumption); (assumption); rintro e w5 ⟨rfl, rfl⟩))
    go_ret
    exact ⟨f, q, c, zq, by omega, rfl, .inr ⟨ND.out, rfl⟩, F5.out, C5⟩
  have h4c : ¬ 20 < lo32 (f d) := by omega
  have h4b : decide (20 < lo32 (f d)) = false := by simp; omega
  obtain ⟨m, em⟩ := Int.eq_ofNat_of_zero_le (lo32_lo (f d))
  have EM : Hid (lo32 (f d) = m) := em
  have m20 : m ≤ 20 := by omega
  have ID : Hid (IsDone n f) := NG.out.2 ⟨H1.out, H2.out, by rw [E2.out]; exact H3.out, by rw [E2.out]; exact h4⟩
  have EE : Hid (endF n f = fun j => if j = 2 then pack (doorV 0 0 0) (f 2 / 4294967296 + 1) else allF n f d (f 2 / 4294967296) m j) := by
    unfold Hid endF gD
    rw [GS.out, GP.out, GL.out, E2.out, EM.out]
    rfl
  clear em h4
  go_wp2_with (first | (go_at_call 62; refine (sval_any (f d) w5 y0 y1).mono ?_; rintro e w5 ⟨rfl, rfl⟩; rw [EM.out]) | (go_at_call 75; refine (sst_any _ w5 ?_ ?_).mono ?_; (assumption); (assumption); rintro e w5 ⟨rfl, rfl⟩))
  have st0 : 0 ≤ f 2 / 4294967296 := by omega
  have st1 : f 2 / 4294967296 ≤ 4294967295 := by omega
  go_loopw [5, 12] (fun v i wr => ∃ j : Nat, 1 ≤ j ∧ j ≤ m + 1 ∧ i = .int .i64 j ∧ v = .slice (some ⟨q, 0, none⟩) n c ∧ Fk .u64 n wr q (allF n f d (f 2 / 4294967296) (j - 1)) ∧ Below w.heap.size w wr ∧ q < wr.heap.size) (fun _ i _ => m + 1 - (intOf i).toNat)
  case atStart => exact ⟨1, by omega, by omega, rfl, rfl, F5.out, C5, by omega⟩
  case round =>
    obtain ⟨j, j1, j2, rfl, rfl, fk, C6, z6⟩ := hrel
    have FK : Hid (Fk .u64 n wr q (allF n f d (f 2 / 4294967296) (j - 1))) := fk
    clear F5 C5 z5 fk cd h3b h4c h4b
    by_cases lt : (j : Int) ≤ m
    · have ltn : j ≤ m := by omega
      have ck : wr.cell? ⟨b, off + (d + j), none⟩ = some (.int .u64 (f (d + j))) := (C6.cell (p := ⟨b, off + (d + j), none⟩) hb').trans (HC.out (d + j) (by omega))
      obtain ⟨y2, y3⟩ := HW.out (d + j)
      have dj : d + j < n := by omega
      have dji : (d : Int) + j < n := by omega
      by_cases eq : f (d + j) / 4294967296 = f 2 / 4294967296
      · have FN : Hid (allF n f d (f 2 / 4294967296) j = putF n (allF n f d (f 2 / 4294967296) (j - 1)) (f (d + j))) := allF_yes' j1 eq
        have eqb : (f (d + j) / 4294967296 == f 2 / 4294967296) = true := by simpa using eq
        clear eq
        go_wp2_with (first | (go_at_call 75; refine (sst_any (f (d + j)) wr y2 y3).mono ?_; rintro e wr ⟨rfl, rfl⟩) | (go_at_call 75; refine (sst_any (f 2) wr x0 x1).mono ?_; rintro e wr ⟨rfl, rfl⟩))
        refine (sput_any q n c (allF n f d (f 2 / 4294967296) (j - 1)) (f (d + j)) wr FK.out z6 hn (allF_w HW.out d _ _) y2 y3).mono ?_
        rintro e w7 ⟨rfl, f7, B7⟩
        have F7 : Hid (Fk .u64 n w7 q (allF n f d (f 2 / 4294967296) (j + 1 - 1))) := by unfold Hid; rw [Nat.add_sub_cancel, FN.out]; exact f7
        have C7 := C6.trans (B7.mono zq)
        have z7 := B7.size
        clear f7 B7 FN eqb ck
        go_wp2_with (fail)
        go_roundw
        case rel => exact ⟨j + 1, by omega, by omega, by go_num, rfl, F7.out, C7, by omega⟩
        case measure => simp [intOf]; omega
      · have FN : Hid (allF n f d (f 2 / 4294967296) j = allF n f d (f 2 / 4294967296) (j - 1)) := allF_no' j1 eq
        have eqb : (f (d + j) / 4294967296 == f 2 / 4294967296) = false := by simpa using eq
        have F7 : Hid (Fk .u64 n wr q (allF n f d (f 2 / 4294967296) (j + 1 - 1))) := by unfold Hid; rw [Nat.add_sub_cancel, FN.out]; exact FK.out
        clear FN FK
        go_wp2_with (first | (go_at_call 75; refine (sst_any (f (d + j)) wr y2 y3).mono ?_; rintro e wr ⟨rfl, rfl⟩) | (go_at_call 75; refine (sst_any (f 2) wr x0 x1).mono ?_; rintro e wr ⟨rfl, rfl⟩))
        go_roundw
        case rel => exact ⟨j + 1, by omega, by omega, by go_num, rfl, F7.out, C6, z6⟩
        case measure => simp [intOf]; omega
    · have ek : j - 1 = m := by omega
      have ltb : ¬ (j : Int) ≤ m := lt
      have ltn : ¬ j ≤ m := by omega
      have FM : Hid (Fk .u64 n wr q (allF n f d (f 2 / 4294967296) m)) := by unfold Hid; rw [← ek]; exact FK.out
      have cc := FM.out 2 n2
      clear ek FK lt
      go_wp2_with (first | (go_at_call 75; refine (sst_any (f 2) wr x0 x1).mono ?_; rintro e wr ⟨rfl, rfl⟩) | (go_at_call 77; refine (sdoor_any 0 0 0 (f 2 / 4294967296 + 1) wr).mono ?_; rintro e wr ⟨rfl, rfl⟩))
      go_ret
      refine ⟨endF n f, q, c, zq, by simpa [World.setCell] using z6, rfl, .inl ⟨ID.out, rfl⟩, ?_, C6.setCell zq _⟩
      rw [EE.out]
      exact FM.out.set 2 _ _ (by simp) (fun j _ hne => by simp [hne])

end Go.Proofs.YtipbijcmpbefpaaGreat.Plat

import Derived.Test.YtgfbfgiohmdjmaaGreatM19
import Derived.Test.YtgfbfgiohmdjmaaGreatLay9
import Derived.Test.YtgfbfgiohmdjmaaGreatM8
import Derived.Test.YtgfbfgiohmdjmaaGreatM9
import Derived.Test.YtgfbfgiohmdjmaaGreatM22
import Derived.Test.YtgfbfgiohmdjmaaGreatM18

/- The lists of free rooms that words tell of; by the specification. Conditions: the words are those of a house, without their desks at least. -/
namespace Go.Proofs.YtgfbfgiohmdjmaaGreat.Book
open Go.ChangeShapes Go.WideShapes Go.ChangeAt Go.RowKit
open Aid Lst Words
open Plat (okB okB_of getF W64)
set_option maxRecDepth 100000
set_option linter.unusedVariables false

/- What leads on in a list of rooms; the rooms, so many of them; how many there are: as far as it goes, and at most one more than there are units. -/
def nxt (hd : Int) (lk : Nat → Int) : Nat → Int
  | 0 => hd
  | i + 1 => lk (nxt hd lk i - 1).toNat
def pre (hd : Int) (lk : Nat → Int) : Nat → List Int
  | 0 => []
  | i + 1 => pre hd lk i ++ [nxt hd lk i - 1]
theorem pre_len (hd : Int) (lk : Nat → Int) : ∀ i, (pre hd lk i).length = i
  | 0 => rfl
  | i + 1 => by simp only [pre, List.length_append, pre_len hd lk i]; rfl
def inR (N : Nat) (x : Int) : Prop := 0 < x ∧ x ≤ N
def ListR (hd : Int) (lk : Nat → Int) (N n : Nat) : Prop := n ≤ N + 1 ∧ (∀ j, j < n → inR N (nxt hd lk j)) ∧ (n = N + 1 ∨ ¬ inR N (nxt hd lk n))
theorem listR_one {hd : Int} {lk : Nat → Int} {N n n' : Nat} (h : ListR hd lk N n) (h' : ListR hd lk N n') : n = n' := by
  obtain ⟨a1, a2, a3⟩ := h
  obtain ⟨b1, b2, b3⟩ := h'
  rcases Nat.lt_trichotomy n n' with lt | e | lt
  · rcases a3 with a3 | a3
    · omega
    · exact absurd (b2 n lt) a3
  · exact e
  · rcases b3 with b3 | b3
    · omega
    · exact absurd (a2 n' lt) b3

/- The head of a kind, the links. -/
def wHd (f : Nat → Int) (S : Nat) (k : Nat) : Int := lo32 (f (3 + S + S + k))
def wLk (f : Nat → Int) (S P : Nat) (u : Nat) : Int := lo32 (f (3 + S + S + 4 + P + P * 8 + u))
theorem lo_w {f : Nat → Int} (j : Nat) : 0 ≤ lo32 (f j) ∧ lo32 (f j) < 4294967296 := ⟨lo32_lo _, lo32_hi _⟩
theorem nxt_w (f : Nat → Int) (S P k : Nat) : ∀ i, 0 ≤ nxt (wHd f S k) (wLk f S P) i ∧ nxt (wHd f S k) (wLk f S P) i < 4294967296
  | 0 => lo_w _
  | i + 1 => lo_w _

theorem sl4val_any (a : Option Addr) (n cap : Nat) (f : Nat → Int) (i : Nat) (w : World) (h : Sl .u64 w a n f) (hn : n ≤ 1000000000) (hw : W64 f) (hi : i < n) :
    Calls Tryz.prog 84 #[.slice a n cap, .int .i64 i] w fun e w' => e = .returned (.int .i64 (lo32 (f i))) ∧ w' = w := by
  obtain ⟨g0, g1⟩ := hw i
  have hg : getF n f i = f i := by unfold getF; rw [if_pos ⟨by omega, by omega⟩]; rfl
  go_enter Tryz.func84, Tryz.ntmps84
  go_wp2_with (fail)
  refine (Plat.sload_any a n cap f i w h hn).mono ?_
  rintro e w1 ⟨rfl, rfl⟩
  rw [hg]
  go_wp2_with (go_at_call 42; refine (sval_any (f i) w1 g0 g1).mono ?_; rintro e w1 ⟨rfl, rfl⟩)
  go_ret
  exact ⟨rfl, rfl⟩

def lenV : Value → Nat
  | .slice _ n _ => n
  | _ => 0
theorem own_len {w : World} {base n : Nat} {e : TypeId} {v : Value} {xs : List Value} (h : w.ownsRow base e 1 v n xs) : lenV v = n := by
  obtain ⟨_, ⟨rfl, h⟩ | ⟨g, cap, cur, rfl, _⟩⟩ := h
  · exact h.symm
  · rfl
theorem own_slice {w : World} {base n : Nat} {e : TypeId} {v : Value} {xs : List Value} (h : w.ownsRow base e 1 v n xs) : ∃ a c, v = .slice a n c := by
  obtain ⟨_, ⟨rfl, h⟩ | ⟨g, cap, cur, rfl, _⟩⟩ := h
  · exact ⟨none, 0, by rw [h]⟩
  · exact ⟨_, _, rfl⟩
theorem own_later {w w1 : World} {base n : Nat} {e : TypeId} {v : Value} {xs : List Value} (h : w.ownsRow base e 1 v n xs) (hb : Below w.heap.size w w1) : w1.ownsRow base e 1 v n xs := by
  obtain ⟨q, g | ⟨g, cap, cur, e, hb', hg, r⟩⟩ := h
  · exact ⟨q, .inl g⟩
  · have hlt : g < w.heap.size := Nat.lt_of_not_le fun hle => by rw [Array.getElem?_eq_none hle] at hg; cases hg
    exact ⟨q, .inr ⟨g, cap, cur, e, hb', by rw [hb.block g hlt]; exact hg, r⟩⟩

set_option maxHeartbeats 2000000 in
theorem slist_any (S P k : Nat) (l : Int) (a : Option Addr) (n cap : Nat) (f : Nat → Int) (w : World) (h : Sl .u64 w a n f) (hn : n ≤ 1000000000) (hw : W64 f) (ok : okB S P l = true) (hk : k < 4) (hH : 3 + S + S + 4 + P + P * 8 + P * 8 ≤ n) :
    Calls Tryz.prog 87 #[.slice a n cap, .agg #[.int .i64 S, .int .i64 P, .int .i64 l], .int .i64 k] w fun e w' => ∃ v m, e = .returned v ∧ ListR (wHd f S k) (wLk f S P) (P * 8) m ∧ w'.ownsRow (w.heap.size + 1) 3 1 v m (vals (pre (wHd f S k) (wLk f S P) m)) ∧ Below w.heap.size w w' := by
  obtain ⟨i0, hi0, hz0, hz1, hz2⟩ := int_parts infoInt
  obtain ⟨k1, k2, k3, k4, k5, k6⟩ := okB_of ok
  have OK : Hid (okB S P l = true) := ok
  have HW : Hid (W64 f) := hw
  have R0 : Hid ((w.alloc (.cells #[.int .i64 S, .int .i64 P, .int .i64 l] 62)).rangeAt w.heap.size 0 (ints [(S : Int), (P : Int), l])) := range_lit (ints [(S : Int), (P : Int), l]).toArray (heap1_0 w _)
  have HS0 : Hid (Sl .u64 (w.alloc (.cells #[.int .i64 S, .int .i64 P, .int .i64 l] 62)) a n f) := h.later (below1 _ _)
  have B0 : Hid (Below w.heap.size w (w.alloc (.cells #[.int .i64 S, .int .i64 P, .int .i64 l] 62))) := below1 _ _
  have y0 : w.heap.size + 1 ≤ (w.alloc (.cells #[.int .i64 S, .int .i64 P, .int .i64 l] 62)).heap.size := by simp
  have x0 : (w.alloc (.cells #[.int .i64 S, .int .i64 P, .int .i64 l] 62)).heap.size ≤ w.heap.size + 1 := by simp
  have O : Hid (((w.alloc (.cells #[.int .i64 S, .int .i64 P, .int .i64 l] 62)).alloc (.cells #[] 3)).ownsRow (w.heap.size + 1) 3 1 (.slice (some ⟨w.heap.size + 1, 0, none⟩) 0 0) 0 []) := ⟨rfl, .inr ⟨w.heap.size + 1, 0, #[], rfl, Nat.le_refl _, heap2_1 w _ _, Nat.le_refl _, Nat.zero_le _, rfl, rfl⟩⟩
  have D1 : Hid (Below (w.alloc (.cells #[.int .i64 S, .int .i64 P, .int .i64 l] 62)).heap.size (w.alloc (.cells #[.int .i64 S, .int .i64 P, .int .i64 l] 62)) ((w.alloc (.cells #[.int .i64 S, .int .i64 P, .int .i64 l] 62)).alloc (.cells #[] 3))) := below1 _ _
  clear ok hw h
  go_enter Tryz.func87, Tryz.ntmps87
  go_wp2_with (fail)
  generalize hW1 : (w.alloc (.cells #[.int .i64 S, .int .i64 P, .int .i64 l] 62)).alloc (.cells #[] 3) = W1 at O D1 ⊢
  clear hW1
  generalize w.alloc (.cells #[.int .i64 S, .int .i64 P, .int .i64 l] 62) = W0 at R0 HS0 B0 y0 x0 D1 ⊢
  refine (Plat.shead_any S P l k W1).mono ?_
  rintro e W2 ⟨rfl, hb⟩
  have ea : Plat.addr (S : Int) P l 4 1 (3 + S + S) k = ((3 + S + S + k : Nat) : Int) := by rw [addr_in OK.out (by omega) (by omega)]; omega
  rw [ea]
  have O2 : Hid (W2.ownsRow (w.heap.size + 1) 3 1 (.slice (some ⟨w.heap.size + 1, 0, none⟩) 0 0) 0 []) := own_later O.out hb
  have D2 : Hid (Below W0.heap.size W0 W2) := D1.out.trans (hb.mono D1.out.size)
  clear O D1 hb ea
  go_wp2_with (fail)
  refine (sl4val_any a n cap f (3 + S + S + k) W2 (HS0.out.later D2.out) hn HW.out (by omega)).mono ?_
  rintro e W2 ⟨rfl, rfl⟩
  go_wp2_with (fail)
  go_loopw [7, 8] (fun v x wr => ∃ i : Nat, i ≤ P * 8 + 1 ∧ (∀ j, j < i → inR (P * 8) (nxt (wHd f S k) (wLk f S P) j)) ∧ x = .int .i64 (nxt (wHd f S k) (wLk f S P) i) ∧ wr.ownsRow (w.heap.size + 1) 3 1 v i (vals (pre (wHd f S k) (wLk f S P) i)) ∧ Below W0.heap.size W0 wr) (fun v _ _ => P * 8 + 1 - lenV v)
  case atStart => exact ⟨0, by omega, fun j hj => absurd hj (Nat.not_lt_zero _), rfl, O2.out, D2.out⟩
  case round =>
    obtain ⟨i, hi, hr, rfl, ho, D⟩ := hrel
    clear O2 D2
    have HO : Hid (wr.ownsRow (w.heap.size + 1) 3 1 u7 i (vals (pre (wHd f S k) (wLk f S P) i))) := ho
    have HR : Hid (∀ j, j < i → inR (P * 8) (nxt (wHd f S k) (wLk f S P) j)) := hr
    have HD : Hid (Below W0.heap.size W0 wr) := D
    have q1 : wr.cell? ⟨w.heap.size, 1, none⟩ = some (.int .i64 P) := range_below D R0.out (by omega) 1 _ rfl
    obtain ⟨n0, n1⟩ := nxt_w f S P k i
    obtain ⟨xa, xc, rfl⟩ := own_slice ho
    clear ho hr D
    by_cases g1 : 0 < nxt (wHd f S k) (wLk f S P) i
    case neg =>
      have g1' : decide (0 < nxt (wHd f S k) (wLk f S P) i) = false := by simpa using g1
      have NR : Hid (¬ inR (P * 8) (nxt (wHd f S k) (wLk f S P) i)) := fun g => g1 g.1
      clear g1
      go_wp2_with (fail)
      go_ret
      exact ⟨_, i, rfl, ⟨hi, HR.out, .inr NR.out⟩, HO.out, B0.out.trans (HD.out.mono (by omega))⟩
    have g1' : decide (0 < nxt (wHd f S k) (wLk f S P) i) = true := by simpa using g1
    by_cases g2 : nxt (wHd f S k) (wLk f S P) i ≤ P * 8
    case neg =>
      have g2' : decide (nxt (wHd f S k) (wLk f S P) i ≤ P * 8) = false := by simpa using g2
      have NR : Hid (¬ inR (P * 8) (nxt (wHd f S k) (wLk f S P) i)) := fun g => g2 (by have := g.2; omega)
      clear g2
      go_wp2_with (fail)
      go_ret
      exact ⟨_, i, rfl, ⟨hi, HR.out, .inr NR.out⟩, HO.out, B0.out.trans (HD.out.mono (by omega))⟩
    have g2' : decide (nxt (wHd f S k) (wLk f S P) i ≤ P * 8) = true := by simpa using g2
    by_cases g3 : i ≤ P * 8
    case neg =>
      have g3' : ¬ (i : Int) ≤ P * 8 := by omega
      have EI : Hid (i = P * 8 + 1) := by unfold Hid; omega
      clear g3
      go_wp2_with (fail)
      go_ret
      exact ⟨_, rfl, i, ⟨hi, HR.out, .inl EI.out⟩, HO.out, B0.out.trans (HD.out.mono (by omega))⟩
    have g3' : (i : Int) ≤ P * 8 := by omega
    have OUT : Hid (∀ g, (Value.slice xa i xc).ownBlock = some g → w.heap.size < g) := own_out HO.out (Nat.lt_succ_self w.heap.size)
    generalize hx : nxt (wHd f S k) (wLk f S P) i = x at *
    have HX : Hid (nxt (wHd f S k) (wLk f S P) i = x) := hx
    generalize hL : vals (pre (wHd f S k) (wLk f S P) i) = L at *
    have HL : Hid (vals (pre (wHd f S k) (wLk f S P) i) = L) := hL
    clear hx hL
    have yd := HD.out.size
    go_wp2_with (refine wpList_append_own _ rfl _ _ 27 rfl (w.heap.size + 1) 3 i0 (.int .i64 0) 1 8 Tryz.underlying27 hi0 hz0 hz1 hz2 rfl (by decide) _ i L rfl (HO.out.alloc _) ⟨wr.heap.size, 0, none⟩ 1 1 [.int .i64 (x - 1)] rfl rfl (one_int wr 3 (x - 1)) (by intro u hu; simp at hu; subst hu; rfl) (by unfold maxLen; omega) (by omega) (by simp; omega) ?_)
    intro v' w4 hown hgrow hiff
    have D4 : Below W0.heap.size W0 w4 := (HD.out.trans ((below1 wr (.cells #[.int .i64 (x - 1)] 3)).mono yd)).grown hgrow (by simp; omega) (fun g hg => by have := OUT.out g hg; omega)
    have HO2 : Hid (w4.ownsRow (w.heap.size + 1) 3 1 v' (i + 1) (vals (pre (wHd f S k) (wLk f S P) (i + 1)))) := by
      unfold Hid
      simp only [pre]
      rw [HX.out]
      simp only [vals, List.map_append, List.map_cons, List.map_nil]
      have e := HL.out
      simp only [vals] at e
      rw [e]
      exact hown
    clear hown hgrow hiff HO OUT HL
    have q0' : w4.cell? ⟨w.heap.size, 0, none⟩ = some (.int .i64 S) := range_below D4 R0.out (by omega) 0 _ rfl
    have q1' : w4.cell? ⟨w.heap.size, 1, none⟩ = some (.int .i64 P) := range_below D4 R0.out (by omega) 1 _ rfl
    have q2' : w4.cell? ⟨w.heap.size, 2, none⟩ = some (.int .i64 l) := range_below D4 R0.out (by omega) 2 _ rfl
    have HD4 : Hid (Below W0.heap.size W0 w4) := D4
    clear D4
    go_wp2_with (fail)
    refine (Plat.slink_any S P l (x - 1) w4).mono ?_
    rintro e w5 ⟨rfl, hb⟩
    obtain ⟨A, hA⟩ : ∃ A : Nat, A = 3 + S + S + 4 + P + P * 8 + (x - 1).toNat := ⟨_, rfl⟩
    have lA : A < n := by omega
    have ea : Plat.addr (S : Int) P l (P * 8) 1 (3 + S + S + 4 + P + P * 8) (x - 1) = (A : Int) := by rw [addr_in OK.out (by omega) (by omega)]; omega
    have HA : Hid (A = 3 + S + S + 4 + P + P * 8 + (x - 1).toNat) := hA
    clear hA
    rw [ea]
    have HO5 : Hid (w5.ownsRow (w.heap.size + 1) 3 1 v' (i + 1) (vals (pre (wHd f S k) (wLk f S P) (i + 1)))) := own_later HO2.out hb
    have D5 : Hid (Below W0.heap.size W0 w5) := HD4.out.trans (hb.mono HD4.out.size)
    clear hb ea HO2 HD4 q0' q1' q2' q1 HD
    go_wp2_with (fail)
    refine (sl4val_any a n cap f A w5 (HS0.out.later D5.out) hn HW.out lA).mono ?_
    rintro e w5 ⟨rfl, rfl⟩
    have HR2 : Hid (∀ j, j < i + 1 → inR (P * 8) (nxt (wHd f S k) (wLk f S P) j)) := fun j hj => by
      by_cases e : j = i
      · rw [e, HX.out]; exact ⟨g1, by omega⟩
      · exact HR.out j (by omega)
    have el : Hid (lenV v' = i + 1) := own_len HO5.out
    have EN : Hid (lo32 (f A) = nxt (wHd f S k) (wLk f S P) (i + 1)) := by
      unfold Hid
      simp only [nxt]
      rw [HX.out, HA.out]
      rfl
    clear HR g1 g2 g1' g2'
    go_wp2_with (fail)
    go_roundw
    case rel => exact ⟨i + 1, by omega, HR2.out, by rw [EN.out], HO5.out, D5.out⟩
    case measure => rw [el.out]; simp only [lenV]; omega

/- The first so many numbers. -/
def cutn (n : Nat) (v : Nat → Int) (j : Nat) : Int := if j < n then v j else 0
theorem cutn_upd (n : Nat) (v : Nat → Int) : upd (cutn n v) n (v n) = cutn (n + 1) v := by
  funext j
  unfold upd cutn
  by_cases e : j = n
  · subst e; rw [if_pos rfl, if_pos (by omega)]
  · rw [if_neg e]
    by_cases g : j < n
    · rw [if_pos g, if_pos (by omega)]
    · rw [if_neg g, if_neg (by omega)]
theorem cutn_zero (v : Nat → Int) : cutn 0 v = fun _ => 0 := by funext j; unfold cutn; rw [if_neg (by omega)]
theorem cutn_bd {n : Nat} {v : Nat → Int} (h : ∀ j, 0 ≤ v j ∧ v j < 4294967296) (j : Nat) : 0 ≤ cutn n v j ∧ cutn n v j < 4294967296 := by
  unfold cutn
  split
  · exact h j
  · omega
def rI (f : Nat → Int) (j : Nat) : Int := lo32 (f (3 + j)) % 4
def rE (f : Nat → Int) (j : Nat) : Int := lo32 (f (3 + j)) / 4
def rP (f : Nat → Int) (S j : Nat) : Int := lo32 (f (3 + S + S + 4 + j))
def rO (f : Nat → Int) (S P j : Nat) : Int := lo32 (f (3 + S + S + 4 + P + j))
def rH (f : Nat → Int) (S P k n : Nat) : Nat × (Nat → Int) := (n, fun j => (pre (wHd f S k) (wLk f S P) n).getD j 0)
/- The book, read as far as so many slots, pages, units. -/
def stM (f : Nat → Int) (S P t1 t2 t3 : Nat) (h0 h1 h2 h3 : Nat × (Nat → Int)) : Bm := ⟨S, (P, cutn t2 (rP f S)), h0, h1, h2, h3, (P * 8, cutn t3 (rO f S P)), (S, cutn t1 (rI f)), (S, cutn t1 (rE f))⟩
/- All of it. -/
def RdM (f : Nat → Int) (S P : Nat) (m : Bm) : Prop := ∃ n0 n1 n2 n3, (ListR (wHd f S 0) (wLk f S P) (P * 8) n0 ∧ ListR (wHd f S 1) (wLk f S P) (P * 8) n1 ∧ ListR (wHd f S 2) (wLk f S P) (P * 8) n2 ∧ ListR (wHd f S 3) (wLk f S P) (P * 8) n3) ∧ m = stM f S P S P (P * 8) (rH f S P 0 n0) (rH f S P 1 n1) (rH f S P 2 n2) (rH f S P 3 n3)
theorem rdm_one {f : Nat → Int} {S P : Nat} {m m' : Bm} (h : RdM f S P m) (h' : RdM f S P m') : m = m' := by
  obtain ⟨n0, n1, n2, n3, ⟨a0, a1, a2, a3⟩, rfl⟩ := h
  obtain ⟨m0, m1, m2, m3, ⟨b0, b1, b2, b3⟩, rfl⟩ := h'
  rw [listR_one a0 b0, listR_one a1 b1, listR_one a2 b2, listR_one a3 b3]
theorem pre_mem (f : Nat → Int) (S P k : Nat) : ∀ n, ∀ x ∈ pre (wHd f S k) (wLk f S P) n, -1 ≤ x ∧ x < 4294967296
  | 0, x, hx => by simp [pre] at hx
  | n + 1, x, hx => by
    have := nxt_w f S P k n
    simp only [pre, List.mem_append, List.mem_singleton] at hx
    rcases hx with hx | hx
    · exact pre_mem f S P k n x hx
    · omega
theorem pre_bd (f : Nat → Int) (S P k n j : Nat) : -1 ≤ (pre (wHd f S k) (wLk f S P) n).getD j 0 ∧ (pre (wHd f S k) (wLk f S P) n).getD j 0 < 4294967296 := by
  rw [List.getD_eq_getElem?_getD]
  cases h : (pre (wHd f S k) (wLk f S P) n)[j]? with
  | none => simp
  | some x => exact pre_mem f S P k n x (List.mem_of_getElem? h)
theorem rd_wf {f : Nat → Int} {S P : Nat} {c : Bx} (h : RdM f S P c.m) : c.Wf := by
  obtain ⟨n0, n1, n2, n3, -, e⟩ := h
  have b0 : ∀ j, 0 ≤ rI f j ∧ rI f j < 4294967296 := fun j => by unfold rI; have := lo_w (f := f) (3 + j); omega
  have b1 : ∀ j, 0 ≤ rE f j ∧ rE f j < 4294967296 := fun j => by unfold rE; have := lo_w (f := f) (3 + j); omega
  have b2 : ∀ j, 0 ≤ rP f S j ∧ rP f S j < 4294967296 := fun j => lo_w _
  have b3 : ∀ j, 0 ≤ rO f S P j ∧ rO f S P j < 4294967296 := fun j => lo_w _
  have ep : c.p.f = cutn P (rP f S) := congrArg (fun m => m.p.2) e
  have eo : c.o.f = cutn (P * 8) (rO f S P) := congrArg (fun m => m.o.2) e
  have ei : c.i.f = cutn S (rI f) := congrArg (fun m => m.i.2) e
  have ee : c.e.f = cutn S (rE f) := congrArg (fun m => m.e.2) e
  have e0 : c.h0.f = (rH f S P 0 n0).2 := congrArg (fun m => m.h0.2) e
  have e1 : c.h1.f = (rH f S P 1 n1).2 := congrArg (fun m => m.h1.2) e
  have e2 : c.h2.f = (rH f S P 2 n2).2 := congrArg (fun m => m.h2.2) e
  have e3 : c.h3.f = (rH f S P 3 n3).2 := congrArg (fun m => m.h3.2) e
  unfold Bx.Wf
  simp only [Bx.lists, List.forall_mem_cons, List.not_mem_nil, false_implies, implies_true, and_true]
  rw [ep, eo, ei, ee, e0, e1, e2, e3]
  refine ⟨fun j => ?_, fun j => ?_, fun j => ?_, fun j => ?_, fun j => ?_, fun j => ?_, fun j => ?_, fun j => ?_⟩
  · have := cutn_bd (n := P) b2 j; omega
  · have := pre_bd f S P 0 n0 j; simp only [rH]; omega
  · have := pre_bd f S P 1 n1 j; simp only [rH]; omega
  · have := pre_bd f S P 2 n2 j; simp only [rH]; omega
  · have := pre_bd f S P 3 n3 j; simp only [rH]; omega
  · have := cutn_bd (n := P * 8) b3 j; omega
  · have := cutn_bd (n := S) b0 j; omega
  · have := cutn_bd (n := S) b1 j; omega
theorem rd_total {f : Nat → Int} {S P : Nat} {c : Bx} (h : RdM f S P c.m) (hS : S ≤ 4) (hP : P ≤ 6) : c.total ≤ 1000 := by
  obtain ⟨n0, n1, n2, n3, ⟨a0, a1, a2, a3⟩, e⟩ := h
  have ep : c.p.n = P := congrArg (fun m => m.p.1) e
  have eo : c.o.n = P * 8 := congrArg (fun m => m.o.1) e
  have ei : c.i.n = S := congrArg (fun m => m.i.1) e
  have ee : c.e.n = S := congrArg (fun m => m.e.1) e
  have e0 : c.h0.n = n0 := congrArg (fun m => m.h0.1) e
  have e1 : c.h1.n = n1 := congrArg (fun m => m.h1.1) e
  have e2 : c.h2.n = n2 := congrArg (fun m => m.h2.1) e
  have e3 : c.h3.n = n3 := congrArg (fun m => m.h3.1) e
  have := a0.1; have := a1.1; have := a2.1; have := a3.1
  unfold Bx.total
  omega

/- No list of free rooms at all. -/
def NilH (b : Bx) : Prop := (b.h0 = ⟨none, 0, 0, fun _ => 0⟩ ∧ b.h1 = ⟨none, 0, 0, fun _ => 0⟩) ∧ (b.h2 = ⟨none, 0, 0, fun _ => 0⟩ ∧ b.h3 = ⟨none, 0, 0, fun _ => 0⟩)

/- A list in memory of its own that has been gathered. -/
theorem row_sx {w : World} {base n : Nat} {v : Value} {L : List Int} (hl : L.length = n) (h : w.ownsRow base 3 1 v n (vals L)) : ∃ x : Sx, v = .slice x.a x.n x.c ∧ x.m = (n, fun j => L.getD j 0) ∧ x.Own base w.heap.size w ∧ x.n ≤ x.c := by
  subst hl
  obtain ⟨q, ⟨rfl, h0⟩ | ⟨g, cap, cur, rfl, hb, hg, h1, h2, h3, h4⟩⟩ := h
  · refine ⟨⟨none, 0, 0, fun j => L.getD j 0⟩, rfl, ?_, .inl rfl, Nat.le_refl _⟩
    show (0, fun j => L.getD j 0) = _
    rw [h0]
  · refine ⟨⟨some ⟨g, 0, none⟩, L.length, cap, fun j => L.getD j 0⟩, rfl, rfl, .inr ⟨g, rfl, hb, Nat.lt_of_not_le fun hle => (by rw [Array.getElem?_eq_none hle] at hg; cases hg), fun j hj => ?_⟩, h1⟩
    rw [cell_of_row _ _ j _ _ _ hg, frozen_of_row _ _ j _ _ hg]
    refine ⟨?_, rfl⟩
    have hj : j < L.length := hj
    have e : (cur.toList.take (L.length * 1))[j]? = (vals L)[j]? := by rw [h4]
    rw [List.getElem?_take_of_lt (by omega)] at e
    rw [← Array.getElem?_toList, e]
    simp [vals, hj]

/- A list of a book is another one now, that lies behind all the others. -/
theorem Bx.Own.head {b b' : Bx} {B C C' D : Nat} {w : World} (h : b.Own B C w) (q : Nat) (hq : q < b.lists.length) (x : Sx) (hx : x.Own C' D w) (hc : x.n ≤ x.c) (hC : C ≤ C') (hD : C ≤ D) (hB : B ≤ C') (hl : b'.lists = b.lists.set q x) : b'.Own B D w := by
  have hpw := List.pairwise_iff_getElem.1 h.apart
  have hap : ∀ y ∈ b.lists, Apart x y := fun y hy => by
    rcases hx with hx | ⟨k, e, h1, h2, h3⟩
    · exact .inl hx
    · rcases h.each y hy with hy | ⟨j, e', g1, g2, g3⟩
      · exact .inr (.inl hy)
      · exact .inr (.inr ⟨k, j, e, e', by omega⟩)
  refine ⟨?_, ?_, ?_⟩
  · rw [hl]
    intro y hy
    obtain ⟨p, hp, rfl⟩ := List.getElem_of_mem hy
    rw [List.length_set] at hp
    rw [List.getElem_set]
    split
    · rcases hx with hx | ⟨k, e, h1, h2, h3⟩
      · exact .inl hx
      · exact .inr ⟨k, e, by omega, h2, h3⟩
    · rcases h.each _ (List.getElem_mem hp) with hy | ⟨j, e', g1, g2, g3⟩
      · exact .inl hy
      · exact .inr ⟨j, e', g1, by omega, g3⟩
  · rw [hl, List.pairwise_iff_getElem]
    intro p p' hp hp' hlt
    rw [List.length_set] at hp hp'
    rw [List.getElem_set, List.getElem_set]
    split
    · split
      · omega
      · exact hap _ (List.getElem_mem hp')
    · split
      · exact apart_sym (hap _ (List.getElem_mem hp))
      · exact hpw p p' hp hp' hlt
  · rw [hl]
    intro y hy
    obtain ⟨p, hp, rfl⟩ := List.getElem_of_mem hy
    rw [List.length_set] at hp
    rw [List.getElem_set]
    split
    · exact hc
    · exact h.caps _ (List.getElem_mem hp)

end Go.Proofs.YtgfbfgiohmdjmaaGreat.Book

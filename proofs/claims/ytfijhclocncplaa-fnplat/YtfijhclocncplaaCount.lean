/- Every word of a house is counted once: the reckoning, and the memory that it lies in. No walk. -/
import Derived.Test.YtfijhclocncplaaPlat2
import Derived.Test.YtfijhclocncplaaLst
import Derived.Deep.RegionHeld
namespace Go.Proofs.Ytfijhclocncplaa.Plat
open Go.ChangeShapes Go.WideShapes Go.ChangeAt Go.RowKit
open Go.Proofs.Ytfijhclocncplaa.Words Go.Proofs.Ytfijhclocncplaa.Aid Go.Proofs.Ytfijhclocncplaa.Lst

def ind (lo x a : Nat) : Int := if lo ≤ a ∧ a < lo + x then 1 else 0
theorem ind_succ (lo x a : Nat) : ind lo (x + 1) a = ind lo x a + (if a = lo + x then 1 else 0) := by
  unfold ind; split <;> split <;> split <;> omega
theorem ind_bd (lo x a : Nat) : 0 ≤ ind lo x a ∧ ind lo x a ≤ 1 := by unfold ind; split <;> omega
theorem ind_zero (lo a : Nat) : ind lo 0 a = 0 := by unfold ind; rw [if_neg (by omega)]

def cnt (S P r b h g t k d a : Nat) : Int :=
  ind 0 3 a + ind 3 r a + ind (3 + S) b a + ind (3 + S + S) h a + ind (3 + S + S + 4) g a + ind (3 + S + S + 4 + P) t a + ind (3 + S + S + 4 + P + P * 8) k a + ind (3 + S + S + 4 + P + P * 8 + P * 8) d a

theorem cnt_bd (S P r b h g t k d a : Nat) : 0 ≤ cnt S P r b h g t k d a ∧ cnt S P r b h g t k d a ≤ 8 := by
  unfold cnt
  have := ind_bd 0 3 a
  have := ind_bd 3 r a
  have := ind_bd (3 + S) b a
  have := ind_bd (3 + S + S) h a
  have := ind_bd (3 + S + S + 4) g a
  have := ind_bd (3 + S + S + 4 + P) t a
  have := ind_bd (3 + S + S + 4 + P + P * 8) k a
  have := ind_bd (3 + S + S + 4 + P + P * 8 + P * 8) d a
  omega

theorem cnt_r (S P r b h g t k d a : Nat) : cnt S P (r + 1) b h g t k d a = cnt S P r b h g t k d a + (if a = 3 + r then 1 else 0) := by unfold cnt; have := ind_succ 3 r a; omega
theorem cnt_b (S P r b h g t k d a : Nat) : cnt S P r (b + 1) h g t k d a = cnt S P r b h g t k d a + (if a = 3 + S + b then 1 else 0) := by unfold cnt; have := ind_succ (3 + S) b a; omega
theorem cnt_h (S P r b h g t k d a : Nat) : cnt S P r b (h + 1) g t k d a = cnt S P r b h g t k d a + (if a = 3 + S + S + h then 1 else 0) := by unfold cnt; have := ind_succ (3 + S + S) h a; omega
theorem cnt_g (S P r b h g t k d a : Nat) : cnt S P r b h (g + 1) t k d a = cnt S P r b h g t k d a + (if a = 3 + S + S + 4 + g then 1 else 0) := by unfold cnt; have := ind_succ (3 + S + S + 4) g a; omega
theorem cnt_t (S P r b h g t k d a : Nat) : cnt S P r b h g (t + 1) k d a = cnt S P r b h g t k d a + (if a = 3 + S + S + 4 + P + t then 1 else 0) := by unfold cnt; have := ind_succ (3 + S + S + 4 + P) t a; omega
theorem cnt_k (S P r b h g t k d a : Nat) : cnt S P r b h g t (k + 1) d a = cnt S P r b h g t k d a + (if a = 3 + S + S + 4 + P + P * 8 + k then 1 else 0) := by unfold cnt; have := ind_succ (3 + S + S + 4 + P + P * 8) k a; omega
theorem cnt_d (S P r b h g t k d a : Nat) : cnt S P r b h g t k (d + 1) a = cnt S P r b h g t k d a + (if a = 3 + S + S + 4 + P + P * 8 + P * 8 + d then 1 else 0) := by unfold cnt; have := ind_succ (3 + S + S + 4 + P + P * 8 + P * 8) d a; omega

theorem ind_in {lo x a : Nat} (h : lo ≤ a ∧ a < lo + x) : ind lo x a = 1 := if_pos h
theorem ind_out {lo x a : Nat} (h : ¬ (lo ≤ a ∧ a < lo + x)) : ind lo x a = 0 := if_neg h

theorem cnt_full (S P a : Nat) (h : a < 7 + S * 23 + P * 17) : cnt S P S S 4 P (P * 8) (P * 8) (S * 21) a = 1 := by
  unfold cnt
  rcases (by omega : a < 3 ∨ (3 ≤ a ∧ a < 3 + S) ∨ (3 + S ≤ a ∧ a < 3 + S + S) ∨ (3 + S + S ≤ a ∧ a < 3 + S + S + 4) ∨ (3 + S + S + 4 ≤ a ∧ a < 3 + S + S + 4 + P) ∨ (3 + S + S + 4 + P ≤ a ∧ a < 3 + S + S + 4 + P + P * 8) ∨ (3 + S + S + 4 + P + P * 8 ≤ a ∧ a < 3 + S + S + 4 + P + P * 8 + P * 8) ∨ 3 + S + S + 4 + P + P * 8 + P * 8 ≤ a) with c | c | c | c | c | c | c | c
  · rw [ind_in (lo := 0) (by omega), ind_out (by omega), ind_out (by omega), ind_out (by omega), ind_out (by omega), ind_out (by omega), ind_out (by omega), ind_out (by omega)]; rfl
  · rw [ind_out (lo := 0) (by omega), ind_in (lo := 3) c, ind_out (by omega), ind_out (by omega), ind_out (by omega), ind_out (by omega), ind_out (by omega), ind_out (by omega)]; rfl
  · rw [ind_out (lo := 0) (by omega), ind_out (lo := 3) (by omega), ind_in (lo := 3 + S) c, ind_out (by omega), ind_out (by omega), ind_out (by omega), ind_out (by omega), ind_out (by omega)]; rfl
  · rw [ind_out (lo := 0) (by omega), ind_out (lo := 3) (by omega), ind_out (lo := 3 + S) (by omega), ind_in (lo := 3 + S + S) c, ind_out (by omega), ind_out (by omega), ind_out (by omega), ind_out (by omega)]; rfl
  · rw [ind_out (lo := 0) (by omega), ind_out (lo := 3) (by omega), ind_out (lo := 3 + S) (by omega), ind_out (lo := 3 + S + S) (by omega), ind_in (lo := 3 + S + S + 4) c, ind_out (by omega), ind_out (by omega), ind_out (by omega)]; rfl
  · rw [ind_out (lo := 0) (by omega), ind_out (lo := 3) (by omega), ind_out (lo := 3 + S) (by omega), ind_out (lo := 3 + S + S) (by omega), ind_out (lo := 3 + S + S + 4) (by omega), ind_in (lo := 3 + S + S + 4 + P) c, ind_out (by omega), ind_out (by omega)]; rfl
  · rw [ind_out (lo := 0) (by omega), ind_out (lo := 3) (by omega), ind_out (lo := 3 + S) (by omega), ind_out (lo := 3 + S + S) (by omega), ind_out (lo := 3 + S + S + 4) (by omega), ind_out (lo := 3 + S + S + 4 + P) (by omega), ind_in (lo := 3 + S + S + 4 + P + P * 8) c, ind_out (by omega)]; rfl
  · rw [ind_out (lo := 0) (by omega), ind_out (lo := 3) (by omega), ind_out (lo := 3 + S) (by omega), ind_out (lo := 3 + S + S) (by omega), ind_out (lo := 3 + S + S + 4) (by omega), ind_out (lo := 3 + S + S + 4 + P) (by omega), ind_out (lo := 3 + S + S + 4 + P + P * 8) (by omega), ind_in (lo := 3 + S + S + 4 + P + P * 8 + P * 8) (by omega)]; rfl

/- The house's struct at block cb, the counts at block nb; nothing old has turned. -/
structure PS (w0 : World) (cb nb N : Nat) (s p l : Int) (f : Nat → Int) (w : World) : Prop where
  r : w.rangeAt cb 0 (ints [s, p, l])
  c : Fk .i64 N w nb f
  b : Below w0.heap.size w0 w
  zc : cb < w.heap.size
  zn : nb < w.heap.size
  ne : cb ≠ nb
  oc : w0.heap.size ≤ cb
  on : w0.heap.size ≤ nb

theorem PS.drew {w0 : World} {cb nb N : Nat} {s p l : Int} {f : Nat → Int} {w : World} (h : PS w0 cb nb N s p l f w) : PS w0 cb nb N s p l f w.drew := ⟨h.r, h.c, h.b.drew, h.zc, h.zn, h.ne, h.oc, h.on⟩
theorem PS.later {w0 : World} {cb nb N : Nat} {s p l : Int} {f : Nat → Int} {w w1 : World} (h : PS w0 cb nb N s p l f w) (hb : Below w.heap.size w w1) : PS w0 cb nb N s p l f w1 :=
  ⟨range_below hb h.r h.zc, h.c.later hb, h.b.trans (hb.mono (by have := h.zc; have := h.oc; omega)), Nat.lt_of_lt_of_le h.zc hb.size, Nat.lt_of_lt_of_le h.zn hb.size, h.ne, h.oc, h.on⟩
theorem PS.bump {w0 : World} {cb nb N : Nat} {s p l : Int} {f : Nat → Int} {w : World} (h : PS w0 cb nb N s p l f w) (A : Nat) (g : Nat → Int) (hg : ∀ a, g a = f a + (if a = A then 1 else 0)) : PS w0 cb nb N s p l g (w.setCell ⟨nb, A, none⟩ (.int .i64 (f A + 1))) :=
  ⟨fun j v hv => by rw [World.cell?_setCell_far _ _ _ _ (by simpa using Ne.symm h.ne)]; exact h.r j v hv,
   h.c.set A (f A + 1) g (by rw [hg, if_pos rfl]) (fun j _ hj => by rw [hg, if_neg hj]; omega), h.b.setCell (by simpa using h.on) _,
   by simpa [World.setCell] using h.zc, by simpa [World.setCell] using h.zn, h.ne, h.oc, h.on⟩
theorem PS.store {w0 : World} {cb nb N : Nat} {s p l : Int} {f : Nat → Int} {w : World} (h : PS w0 cb nb N s p l f w) (A : Nat) (x : Int) (g : Nat → Int) (hA : g A = x) (hg : ∀ a, a ≠ A → g a = f a) : PS w0 cb nb N s p l g (w.setCell ⟨nb, A, none⟩ (.int .i64 x)) :=
  ⟨fun j v hv => by rw [World.cell?_setCell_far _ _ _ _ (by simpa using Ne.symm h.ne)]; exact h.r j v hv,
   h.c.set A x g hA (fun j _ hj => hg j hj), h.b.setCell (by simpa using h.on) _,
   by simpa [World.setCell] using h.zc, by simpa [World.setCell] using h.zn, h.ne, h.oc, h.on⟩
theorem PS.congr {w0 : World} {cb nb N : Nat} {s p l : Int} {f g : Nat → Int} {w : World} (h : PS w0 cb nb N s p l f w) (e : ∀ a, a < N → g a = f a) : PS w0 cb nb N s p l g w := ⟨h.r, h.c.congr e, h.b, h.zc, h.zn, h.ne, h.oc, h.on⟩
theorem PS.drewN {w0 : World} {cb nb N : Nat} {s p l : Int} {f : Nat → Int} {w : World} (h : PS w0 cb nb N s p l f w) (q : Nat) : PS w0 cb nb N s p l f (w.drewN q) := ⟨h.r, h.c, ⟨h.b.os, h.b.tape, h.b.output, h.b.size, h.b.block⟩, h.zc, h.zn, h.ne, h.oc, h.on⟩

theorem addr_in {s p l m d a n : Int} (hok : okB s p l = true) (h : 0 ≤ n ∧ n < m) : addr s p l m d a n = a + n * d := by
  unfold addr fnd; rw [if_pos hok, if_neg (by omega)]
theorem addr_out {s p l m d a n : Int} (h : n < 0 ∨ m ≤ n) : addr s p l m d a n = 0 := by
  unfold addr fnd; rw [if_pos h]; split <;> rfl
theorem addr_bad {s p l m d a n : Int} (hok : okB s p l = false) : addr s p l m d a n = 0 := by
  unfold addr; rw [hok]; rfl

theorem takeH' {P : Program} {md : Region.Mode} {ops : Array Oper} {Q : Exit → Act → World → Prop} {S : World → Prop} {i : Nat} {oi : Oper} {v : Value} {d : Option Tmp} {fuel : Nat} {listed : Array Bool} {a : Act} {w : World} (hi : ops[i]? = some oi) (hd : oi.dst = d)
    (hs : Region.noSelect ops = true) (hf : Region.free md ops listed i = true) (hr : (Region.ready md ops listed).contains i = true)
    (hQ : ∀ c a w, Q (.panic c) (a.put d v) w → Q (.panic c) a w) (hy : YieldsIf P ops S oi v a) (hS : S w)
    (h : wpAnyH P md ops Q S fuel (listed.setIfInBounds i true) (a.put d v) w) : wpAnyH P md ops Q S (fuel + 1) listed a w := by
  subst hd
  exact wpAnyH_take hi hs hf hr hQ hy hS h

end Go.Proofs.Ytfijhclocncplaa.Plat

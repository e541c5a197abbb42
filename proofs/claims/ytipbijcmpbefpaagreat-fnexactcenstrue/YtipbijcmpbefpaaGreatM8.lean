import Derived.Test.YtipbijcmpbefpaaGreatM7
import Derived.Test.YtipbijcmpbefpaaGreatM3
import Derived.Laws.AppendOwn
import Derived.Test.YtipbijcmpbefpaaGreatRows
import Derived.WalkKit
import Derived.ProofKit
import Derived.OpenShut
import Derived.Deep.RegionWith
import Derived.Laws.BitsLemmas

/- The size of a room, of both. -/
namespace Go.Proofs.YtipbijcmpbefpaaGreat.Book
open Go.ChangeShapes Go.WideShapes Go.ChangeAt Go.RowKit
open Go.Proofs.YtipbijcmpbefpaaGreat.Aid Go.Proofs.YtipbijcmpbefpaaGreat.Lst
set_option maxRecDepth 100000
set_option linter.unusedVariables false

def RoomR (b : Bx) (u r : Int) : Prop :=
  ((u < 0 ∨ (b.o.n : Int) ≤ u ∨ b.o.f u.toNat = 0) ∧ r = 0) ∨
  ((0 ≤ u ∧ u < b.o.n ∧ ¬ b.o.f u.toNat = 0) ∧ ((∃ m : Nat, m < 4 ∧ b.p.f (u / 8).toNat = m + 1 ∧ r = sz m) ∨ ((10 ≤ b.p.f (u / 8).toNat ∧ b.p.f (u / 8).toNat ≤ 12) ∧ r = (b.p.f (u / 8).toNat - 8) * 8)))
theorem room_one {b : Bx} {u r r' : Int} (h : RoomR b u r) (h' : RoomR b u r') : r = r' := by
  rcases h with ⟨h, rfl⟩ | ⟨h, g⟩ <;> rcases h' with ⟨h', rfl⟩ | ⟨h', g'⟩
  · rfl
  · clear g'; omega
  · clear g; omega
  · rcases g with ⟨m, m4, e, rfl⟩ | ⟨e, rfl⟩ <;> rcases g' with ⟨m', m4', e', rfl⟩ | ⟨e', rfl⟩
    · obtain rfl : m = m' := by omega
      rfl
    · omega
    · omega
    · rfl
theorem room_norm (b : Bx) (u r : Int) : RoomR b.norm u r ↔ RoomR b u r := Iff.rfl
theorem room_m {b c : Bx} (h : b.m = c.m) (u r : Int) : RoomR b u r ↔ RoomR c u r := by rw [← room_norm b, ← room_norm c, norm_m h]

theorem OkP.nums {b : Bx} (h : OkP b) : b.o.n ≤ b.p.n * 8 ∧ b.p.n * 8 ≤ b.o.n ∧ b.p.n ≤ 6 ∧ 1 ≤ b.p.n ∧ b.o.n ≤ 48 := by
  obtain ⟨l1, l2, l3, l4, l5, l6, l7⟩ := h.1.1
  omega

theorem owner_page {b : Bx} (h : OkP b) {u : Int} (h0 : 0 ≤ u) (h1 : u < b.o.n) (hz : ¬ b.o.f u.toNat = 0) :
    (∃ m : Nat, m < 4 ∧ b.p.f (u / 8).toNat = m + 1) ∨ (10 ≤ b.p.f (u / 8).toNat ∧ b.p.f (u / 8).toNat ≤ 12) := by
  obtain ⟨n1, n2, n3, n4, n5⟩ := h.nums
  have hp := (h.1.2.2 u.toNat (by omega)).1
  have eu : (u / 8).toNat * 8 + (u % 8).toNat = u.toNat := by omega
  have nf : ¬ FreeP b.o.f (u / 8).toNat 0 := fun g => by
    have := g (u % 8).toNat (Nat.zero_le _) (by omega)
    rw [eu] at this
    omega
  rcases h.2.2 (u / 8).toNat (by omega) with g | ⟨m, m4, e, g⟩ | g | g
  · exact absurd g.2 nf
  · exact .inl ⟨m, m4, e⟩
  · exact absurd g.2.2.2 nf
  · exact .inr ⟨g.1, g.2.1⟩

set_option maxRecDepth 100000 in
set_option maxHeartbeats 8000000 in
theorem sunits_any (b : Bx) (u : Int) (w : World) (h : b.At w) (hok : OkP b) :
    Calls Tryz.prog 162 #[.agg b.cells.toArray, .int .i64 u] w fun e w' => (∃ r, e = .returned (.int .i64 r) ∧ RoomR b u r) ∧ Below w.heap.size w w' := by
  obtain ⟨n1, n2, n3, n4, n5⟩ := hok.nums
  by_cases h1 : u < 0
  case pos =>
    simp only [Bx.cells]
    go_enter Tryz.func162, Tryz.ntmps162
    go_wp2_with (fail)
    go_ret
    exact ⟨⟨0, rfl, .inl ⟨.inl h1, rfl⟩⟩, below1 _ _⟩
  by_cases h2 : u ≥ b.o.n
  case pos =>
    simp only [Bx.cells]
    go_enter Tryz.func162, Tryz.ntmps162
    go_wp2_with (fail)
    go_ret
    exact ⟨⟨0, rfl, .inl ⟨.inr (.inl h2), rfl⟩⟩, below1 _ _⟩
  have OP : Hid (¬ b.o.f u.toNat = 0 → (∃ m : Nat, m < 4 ∧ b.p.f (u / 8).toNat = m + 1) ∨ (10 ≤ b.p.f (u / 8).toNat ∧ b.p.f (u / 8).toNat ≤ 12)) := fun g => owner_page hok (by omega) (by omega) g
  clear hok
  obtain ⟨k, o, ea, hc⟩ := h.p.cells (by omega)
  obtain ⟨k', o', ea', hc'⟩ := h.o.cells (by omega)
  obtain ⟨bs, ⟨pa, pn, pc, pf⟩, h0, h1', h2', h3, ⟨oa, on, oc, of⟩, i_, e_⟩ := b
  simp only at ea ea' hc hc' n1 n2 n3 n4 n5 h2 OP
  subst ea
  subst ea'
  have E : Ent w ⟨bs, ⟨some ⟨k, o, none⟩, pn, pc, pf⟩, h0, h1', h2', h3, ⟨some ⟨k', o', none⟩, on, oc, of⟩, i_, e_⟩ (w.alloc (.cells #[.int .i64 bs, .slice (some ⟨k, o, none⟩) pn pc, .slice h0.a h0.n h0.c, .slice h1'.a h1'.n h1'.c, .slice h2'.a h2'.n h2'.c, .slice h3.a h3.n h3.c, .slice (some ⟨k', o', none⟩) on oc, .slice i_.a i_.n i_.c, .slice e_.a e_.n e_.c] 28)) := Ent.start h 28
  have i1 : u < on := by omega
  have i2 : u / 8 < pn := by omega
  have i3 : 0 ≤ u / 8 := by omega
  have i4 : u ≤ 10000 := by omega
  have i0 : 0 ≤ u := by omega
  have c1 : (w.alloc (.cells #[.int .i64 bs, .slice (some ⟨k, o, none⟩) pn pc, .slice h0.a h0.n h0.c, .slice h1'.a h1'.n h1'.c, .slice h2'.a h2'.n h2'.c, .slice h3.a h3.n h3.c, .slice (some ⟨k', o', none⟩) on oc, .slice i_.a i_.n i_.c, .slice e_.a e_.n e_.c] 28)).cell? ⟨k, o + (u / 8).toNat, none⟩ = some (.int .i64 (pf (u / 8).toNat)) := by
    have e := hc (u / 8).toNat (by omega)
    rw [(below1 w _).cell (p := ⟨k, o + (u / 8).toNat, none⟩) (World.block_lt_of_cell? w _ e)]; exact e
  have c2 : (w.alloc (.cells #[.int .i64 bs, .slice (some ⟨k, o, none⟩) pn pc, .slice h0.a h0.n h0.c, .slice h1'.a h1'.n h1'.c, .slice h2'.a h2'.n h2'.c, .slice h3.a h3.n h3.c, .slice (some ⟨k', o', none⟩) on oc, .slice i_.a i_.n i_.c, .slice e_.a e_.n e_.c] 28)).cell? ⟨k', o' + u.toNat, none⟩ = some (.int .i64 (of u.toNat)) := by
    have e := hc' u.toNat (by omega)
    rw [(below1 w _).cell (p := ⟨k', o' + u.toNat, none⟩) (World.block_lt_of_cell? w _ e)]; exact e
  clear hc hc' n1 n2 n3 n4 n5
  have RY : Hid (¬ of u.toNat = 0 → ∀ r, ((∃ m : Nat, m < 4 ∧ pf (u / 8).toNat = m + 1 ∧ r = sz m) ∨ ((10 ≤ pf (u / 8).toNat ∧ pf (u / 8).toNat ≤ 12) ∧ r = (pf (u / 8).toNat - 8) * 8)) → RoomR ⟨bs, ⟨some ⟨k, o, none⟩, pn, pc, pf⟩, h0, h1', h2', h3, ⟨some ⟨k', o', none⟩, on, oc, of⟩, i_, e_⟩ u r) := fun g r x => .inr ⟨⟨by omega, i1, g⟩, x⟩
  simp only [Bx.cells]
  by_cases z : of u.toNat = 0
  case pos =>
    have RZ : Hid (RoomR ⟨bs, ⟨some ⟨k, o, none⟩, pn, pc, pf⟩, h0, h1', h2', h3, ⟨some ⟨k', o', none⟩, on, oc, of⟩, i_, e_⟩ u 0) := .inl ⟨.inr (.inr z), rfl⟩
    rw [z] at c2
    clear z OP RY
    go_enter Tryz.func162, Tryz.ntmps162
    go_wp2_with (fail)
    go_ret
    exact ⟨⟨0, rfl, RZ.out⟩, E.b⟩
  have bz : (of u.toNat == 0) = false := by simp [z]
  have Z : Hid (¬ of u.toNat = 0) := z
  rcases OP.out z with ⟨m, m4, em⟩ | ⟨e10, e12⟩
  · have RM : Hid (RoomR ⟨bs, ⟨some ⟨k, o, none⟩, pn, pc, pf⟩, h0, h1', h2', h3, ⟨some ⟨k', o', none⟩, on, oc, of⟩, i_, e_⟩ u (sz m)) := RY.out z _ (.inl ⟨m, m4, em, rfl⟩)
    have ek : kdM (pf (u / 8).toNat) = m := (kdM_iff _ m m4).2 em
    clear z OP RY em
    go_enter Tryz.func162, Tryz.ntmps162
    go_wp2_with (fail)
    refine (kd_any _ _).mono ?_
    rintro e w1 ⟨rfl, rfl⟩
    rw [ek]
    have HEK : Hid (kdM (pf (u / 8).toNat) = m) := ek
    clear ek
    go_wp2_with (fail)
    refine (kd_any _ _).mono ?_
    rintro e w1 ⟨rfl, rfl⟩
    rw [HEK.out]
    go_wp2_with (fail)
    refine (size_any m (by omega) (by omega) _).mono ?_
    rintro e w1 ⟨rfl, hb⟩
    have F := E.later hb
    go_wp2_with (fail)
    go_ret
    exact ⟨⟨_, rfl, RM.out⟩, F.b⟩
  · have RM : Hid (RoomR ⟨bs, ⟨some ⟨k, o, none⟩, pn, pc, pf⟩, h0, h1', h2', h3, ⟨some ⟨k', o', none⟩, on, oc, of⟩, i_, e_⟩ u ((pf (u / 8).toNat - 8) * 8)) := RY.out z _ (.inr ⟨⟨e10, e12⟩, rfl⟩)
    have ek : kdM (pf (u / 8).toNat) = -1 := by simp only [kdM]; rw [if_neg (by omega)]
    clear z OP RY
    go_enter Tryz.func162, Tryz.ntmps162
    go_wp2_with (fail)
    refine (kd_any _ _).mono ?_
    rintro e w1 ⟨rfl, rfl⟩
    rw [ek]
    clear ek
    go_wp2_with (fail)
    go_ret
    exact ⟨⟨_, rfl, RM.out⟩, E.b⟩

def RoomQ (b : Bx) (u r : Int) : Prop := (OkP b ∧ RoomR b u r) ∨ (¬ OkP b ∧ r = 0)
theorem roomq_one {b : Bx} {u r r' : Int} (h : RoomQ b u r) (h' : RoomQ b u r') : r = r' := by
  rcases h with ⟨h, g⟩ | ⟨h, rfl⟩ <;> rcases h' with ⟨h', g'⟩ | ⟨h', rfl⟩
  · exact room_one g g'
  · exact absurd h h'
  · exact absurd h' h
  · rfl
theorem roomq_m {b c : Bx} (h : b.m = c.m) (u r : Int) : RoomQ b u r ↔ RoomQ c u r := by
  unfold RoomQ
  rw [ok_m h, room_m h]

end Go.Proofs.YtipbijcmpbefpaaGreat.Book

/- The rooms of a slot, by the program. -/
namespace Go.Proofs.YtipbijcmpbefpaaGreat.Book
open Go.ChangeShapes Go.WideShapes Go.ChangeAt Go.RowKit
open Go.Proofs.YtipbijcmpbefpaaGreat.Aid Go.Proofs.YtipbijcmpbefpaaGreat.Lst
set_option maxRecDepth 100000
set_option linter.unusedVariables false

def selL (o : Nat → Int) (t : Int) : Nat → List Int
  | 0 => []
  | n + 1 => if o n = t then selL o t n ++ [(n : Int)] else selL o t n
theorem selL_len (o : Nat → Int) (t : Int) : ∀ n, (selL o t n).length ≤ n
  | 0 => Nat.le_refl _
  | n + 1 => by
    have := selL_len o t n
    simp only [selL]
    split
    · simp; omega
    · omega
def vals (l : List Int) : List Value := l.map (Value.int .i64)

theorem own_out {w : World} {base n B : Nat} {e : TypeId} {v : Value} {xs : List Value} (h : w.ownsRow base e 1 v n xs) (hB : B < base) : ∀ g, v.ownBlock = some g → B < g := by
  obtain ⟨_, ⟨rfl, _⟩ | ⟨g, cap, cur, rfl, hb, _⟩⟩ := h
  · intro g hg; cases hg
  · intro g' hg
    simp only [Value.ownBlock, Option.some.injEq] at hg
    omega
theorem Ent.grown {w : World} {b : Bx} {W W1 : World} {row : Option Nat} (E : Ent w b W) (h : b.At w) (hg : W.grownBy W1 row) (hr : ∀ g, row = some g → w.heap.size < g) : Ent w b W1 := by
  have hb : Below w.heap.size w W1 := ⟨hg.os.trans E.b.os, hg.tape.trans E.b.tape, hg.output.trans E.b.output, Nat.le_trans E.b.size hg.size, fun k hk => (hg.block k (Nat.lt_of_lt_of_le hk E.b.size) (fun e => by have := hr k e.symm; omega)).trans (E.b.block k hk)⟩
  refine ⟨fun j x hx => ?_, h.later hb, hb, Nat.lt_of_lt_of_le E.lt hg.size⟩
  exact hg.cell (E.r j x hx) (fun e => by have := hr w.heap.size e.symm; omega)
theorem one_int (w : World) (t : TypeId) (x : Int) : ∀ j u, ([.int .i64 x] : List Value)[j]? = some u → (w.alloc (.cells #[.int .i64 x] t)).cell? ((⟨w.heap.size, 0, none⟩ : Addr).add j) = some u := fun j u hu => by
  match j, hu with
  | 0, hu => simp at hu; subst hu; rw [Addr.add_mid, cell_of_row _ _ _ _ _ _ (heap1_0 w _)]; rfl
theorem int_parts {P : Program} {t : TypeId} (h : (P.info? t).map (fun i => (i.zero, i.size, i.bytes)) = some (some (.int .i64 0), 1, 8)) : ∃ i, P.info? t = some i ∧ i.zero = some (.int .i64 0) ∧ i.size = 1 ∧ i.bytes = 8 := by
  cases hi : P.info? t with
  | none => rw [hi] at h; cases h
  | some i =>
    rw [hi] at h
    simp only [Option.map_some, Option.some.injEq, Prod.mk.injEq] at h
    exact ⟨i, rfl, h.1, h.2.1, h.2.2⟩

def OfR (b : Bx) (t : Int) (base : Nat) (w' : World) (e : Ending) : Prop := ∃ v, e = .returned v ∧ w'.ownsRow base 3 1 v (selL b.o.f (t + 1) b.o.n).length (vals (selL b.o.f (t + 1) b.o.n))

end Go.Proofs.YtipbijcmpbefpaaGreat.Book

/- A number of a list of a book of one's own is written: over no program. -/
namespace Go.Proofs.YtipbijcmpbefpaaGreat.Book
open Go.ChangeShapes Go.WideShapes Go.ChangeAt Go.RowKit
open Go.Proofs.YtipbijcmpbefpaaGreat.Aid Go.Proofs.YtipbijcmpbefpaaGreat.Lst
set_option linter.unusedVariables false

def upd (f : Nat → Int) (j : Nat) (v : Int) : Nat → Int := fun i => if i = j then v else f i
def Sx.put (x : Sx) (j : Nat) (v : Int) : Sx := ⟨x.a, x.n, x.c, upd x.f j v⟩

theorem apart_congr {x y x' y' : Sx} (h : Apart x y) (h1 : x'.n = x.n) (h2 : x'.a = x.a) (h3 : y'.n = y.n) (h4 : y'.a = y.a) : Apart x' y' := by
  rcases h with h | h | ⟨j, k, e1, e2, e3⟩
  · exact .inl (h1.trans h)
  · exact .inr (.inl (h3.trans h))
  · exact .inr (.inr ⟨j, k, h2.trans e1, h4.trans e2, e3⟩)
theorem apart_sym {x y : Sx} (h : Apart x y) : Apart y x := by
  rcases h with h | h | ⟨j, k, e1, e2, e3⟩
  · exact .inr (.inl h)
  · exact .inl h
  · exact .inr (.inr ⟨k, j, e2, e1, e3.symm⟩)

theorem Sx.Own.far {x : Sx} {B C : Nat} {w : World} (h : x.Own B C w) {y : Sx} (ha : Apart x y) (hy : 0 < y.n) {k : Nat} (hk : y.a = some ⟨k, 0, none⟩) (j : Nat) (v : Value) : x.Own B C (w.setCell ⟨k, j, none⟩ v) := by
  rcases h with h | ⟨g, e, h1, h2, h3⟩
  · exact .inl h
  · rcases ha with h | h | ⟨j', k', e1, e2, e3⟩
    · exact .inl h
    · omega
    · rw [hk] at e2
      rw [e] at e1
      cases e1
      cases e2
      exact .inr ⟨g, e, h1, h2, h3.far ⟨k, j, none⟩ (fun q => e3 q.symm) v⟩

theorem Sx.Own.put {x : Sx} {B C : Nat} {w : World} (h : x.Own B C w) {k : Nat} (hk : x.a = some ⟨k, 0, none⟩) (j : Nat) (hj : j < x.n) (v : Int) : (x.put j v).Own B C (w.setCell ⟨k, j, none⟩ (.int .i64 v)) := by
  rcases h with h | ⟨g, e, h1, h2, h3⟩
  · omega
  · rw [hk] at e
    cases e
    exact .inr ⟨k, hk, h1, h2, h3.set j v _ (by simp [Sx.put, upd]) (fun i _ hne => by simp [Sx.put, upd, hne])⟩

theorem Bx.Own.write {b b' : Bx} {B C : Nat} {w : World} (h : b.Own B C w) (q : Nat) (x : Sx) (hx : b.lists[q]? = some x) (k j : Nat) (ha : x.a = some ⟨k, 0, none⟩) (hj : j < x.n) (v : Int) (hl : b'.lists = b.lists.set q (x.put j v)) :
    b'.Own B C (w.setCell ⟨k, j, none⟩ (.int .i64 v)) := by
  obtain ⟨hq, hxe⟩ := List.getElem?_eq_some_iff.1 hx
  have hpw := List.pairwise_iff_getElem.1 h.apart
  have hap : ∀ p (hp : p < b.lists.length), p ≠ q → Apart b.lists[p] x := fun p hp hne => by
    rw [← hxe]
    by_cases hlt : p < q
    · exact hpw p q hp hq hlt
    · exact apart_sym (hpw q p hq hp (by omega))
  refine ⟨?_, ?_, ?_⟩
  · rw [hl]
    intro y hy
    obtain ⟨p, hp, rfl⟩ := List.getElem_of_mem hy
    rw [List.length_set] at hp
    rw [List.getElem_set]
    split
    · exact (h.each x (hxe ▸ List.getElem_mem hq)).put ha j hj v
    · rename_i hne
      exact (h.each _ (List.getElem_mem hp)).far (hap p hp (fun e => hne e.symm)) (by omega) ha j _
  · rw [hl, List.pairwise_iff_getElem]
    intro p p' hp hp' hlt
    rw [List.length_set] at hp hp'
    refine apart_congr (hpw p p' hp hp' hlt) ?_ ?_ ?_ ?_
    all_goals
      rw [List.getElem_set]
      split
      · rename_i e
        subst e
        rw [hxe]; rfl
      · rfl
  · rw [hl]
    intro y hy
    obtain ⟨p, hp, rfl⟩ := List.getElem_of_mem hy
    rw [List.length_set] at hp
    rw [List.getElem_set]
    split
    · exact h.caps x (hxe ▸ List.getElem_mem hq)
    · exact h.caps _ (List.getElem_mem hp)

end Go.Proofs.YtipbijcmpbefpaaGreat.Book

/- The words of a house: what each function of layer 1 (the program's and the specification's) answers, as numbers. No conditions but that a word is one of 64 bits. -/
namespace Go.Proofs.YtipbijcmpbefpaaGreat.Words
open Go.ChangeShapes Go.WideShapes Go.ChangeAt Go.RowKit

def fit (n m : Int) : Int := if n < 0 then 0 else if m < n then m else n

theorem fit_lo (n m : Int) (h : 0 ≤ m) : 0 ≤ fit n m := by unfold fit; split <;> (try split) <;> omega
theorem fit_hi (n m : Int) (h : 0 ≤ m) : fit n m ≤ m := by unfold fit; split <;> (try split) <;> omega

theorem ret_int {k : IntKind} {a b : Int} (h : a = b) : Ending.returned (.int k a) = .returned (.int k b) := by rw [h]

theorem wraps_u64 (n : Int) (h₀ : 0 ≤ n) (h₁ : n < 2 ^ 64) : IntKind.u64.wrap n = n := by
  simp [IntKind.wrap, IntKind.bits, IntKind.signed]; omega
theorem wraps_i64 (n : Int) (h₀ : 0 ≤ n) (h₁ : n < 2 ^ 63) : IntKind.i64.wrap n = n := by rw [IntKind.wrap_i64]; omega

theorem and_u64 (x : Int) (h₀ : 0 ≤ x) (h₁ : x < 18446744073709551616) : bits .and .u64 x 4294967295 = x % 4294967296 :=
  bits_mask .u64 64 (by decide) wraps_u64 32 (by decide) x h₀ h₁
theorem and3 (x : Int) (h₀ : 0 ≤ x) (h₁ : x < 4294967296) : bits .and .i64 x 3 = x % 4 :=
  bits_mask .i64 63 (by decide) wraps_i64 2 (by decide) x h₀ (by omega)
theorem and7 (x : Int) (h₀ : 0 ≤ x) (h₁ : x < 4294967296) : bits .and .i64 x 7 = x % 8 :=
  bits_mask .i64 63 (by decide) wraps_i64 3 (by decide) x h₀ (by omega)
theorem and20 (x : Int) (h₀ : 0 ≤ x) (h₁ : x < 4294967296) : bits .and .i64 x 1048575 = x % 1048576 :=
  bits_mask .i64 63 (by decide) wraps_i64 20 (by decide) x h₀ (by omega)

theorem or_u64 (x y : Int) (hx : 0 ≤ x) (hx1 : x ≤ 4294967295) (hy : 0 ≤ y) (hy1 : y ≤ 4294967295) :
    bits .or .u64 (x * 4294967296) y = x * 4294967296 + y :=
  bits_join .u64 64 (by decide) wraps_u64 32 _ y (by omega) (by omega) (by omega) hy (by omega) (by omega)

/- 'or' of a low part and a part above it. -/
theorem bits_join_low (i : Nat) (hi : i ≤ 63) (x y : Int) (hx₀ : 0 ≤ x) (hx : x < 2 ^ i) (hy₀ : 0 ≤ y) (hy : y % 2 ^ i = 0) (hy₁ : y < 2 ^ 63) :
    bits .or .i64 x y = x + y := by
  have hp : (2 : Int) ^ i ≤ 2 ^ 63 := by exact_mod_cast Nat.pow_le_pow_right (by decide) hi
  have hx₁ : x < 2 ^ 63 := Int.lt_of_lt_of_le hx hp
  have e : bits .or .i64 x y = bits .or .i64 y x := by
    obtain ⟨a, rfl⟩ := Int.eq_ofNat_of_zero_le hx₀
    obtain ⟨b, rfl⟩ := Int.eq_ofNat_of_zero_le hy₀
    have ha : a < 2 ^ 63 := by exact_mod_cast hx₁
    have hb : b < 2 ^ 63 := by exact_mod_cast hy₁
    have c1 := (bits_nat .i64 63 (by decide) wraps_i64 a b ha hb).2
    have c2 := (bits_nat .i64 63 (by decide) wraps_i64 b a hb ha).2
    show bits .or .i64 (a : Int) (b : Int) = bits .or .i64 (b : Int) (a : Int)
    rw [c1, c2, Nat.or_comm]
  rw [e, bits_join .i64 63 (by decide) wraps_i64 i y x hy₀ hy hy₁ hx₀ hx hx₁]
  omega

theorem or_low2 (x y : Int) (hx : 0 ≤ x) (hx1 : x ≤ 2) (hy : 0 ≤ y) (hy1 : y ≤ 4095) : bits .or .i64 x (y * 4) = x + y * 4 :=
  bits_join_low 2 (by decide) x _ hx (by omega) (by omega) (by omega) (by omega)
theorem or_low5 (x y : Int) (hx : 0 ≤ x) (hx1 : x ≤ 31) (hy : 0 ≤ y) (hy1 : y ≤ 4095) : bits .or .i64 x (y * 32) = x + y * 32 :=
  bits_join_low 5 (by decide) x _ hx (by omega) (by omega) (by omega) (by omega)
theorem or_high20 (x y : Int) (hx : 0 ≤ x) (hx1 : x ≤ 4095) (hy : 0 ≤ y) (hy1 : y ≤ 1048575) : bits .or .i64 (x * 1048576) y = x * 1048576 + y :=
  bits_join .i64 63 (by decide) wraps_i64 20 _ y (by omega) (by omega) (by omega) hy (by omega) (by omega)

theorem low_any (n m : Int) (w : World) :
    Calls Tryz.prog 111 #[.int .i64 n, .int .i64 m] w fun e w' => e = .returned (.int .i64 (fit n m)) ∧ w' = w := by
  go_enter Tryz.func111, Tryz.ntmps111
  go_wp2
  all_goals go_ret
  all_goals (refine ⟨ret_int ?_, rfl⟩; unfold fit; (repeat' split) <;> omega)

theorem fit_any (n m : Int) (w : World) (h : 0 ≤ m) :
    Calls Tryz.prog 103 #[.int .i64 n, .int .i64 m] w fun e w' => e = .returned (.int .i64 (fit n m)) ∧ w' = w := by
  go_enter Tryz.func103, Tryz.ntmps103
  go_wp2
  all_goals go_ret
  all_goals (refine ⟨ret_int ?_, rfl⟩; unfold fit; (repeat' split) <;> omega)

/- What it says that a number is a word's. -/
theorem wf64 {n : Int} (h : (Lit.int .u64 n).wf = true) : 0 ≤ n ∧ n < 18446744073709551616 := by
  simp [Lit.wf, IntKind.min, IntKind.max, IntKind.signed, IntKind.bits] at h; omega

def lo32 (n : Int) : Int := n % 4294967296
theorem lo32_lo (n : Int) : 0 ≤ lo32 n := by unfold lo32; omega
theorem lo32_hi (n : Int) : lo32 n < 4294967296 := by unfold lo32; omega

theorem value_any (n : Int) (w : World) (h0 : 0 ≤ n) (h1 : n < 18446744073709551616) :
    Calls Tryz.prog 78 #[.int .u64 n] w fun e w' => e = .returned (.int .i64 (lo32 n)) ∧ w' = w := by
  go_enter Tryz.func78, Tryz.ntmps78
  go_wp2
  all_goals go_ret
  refine ⟨ret_int ?_, rfl⟩
  rw [and_u64 n h0 h1]
  simp only [wrap64, lo32]; omega

theorem stamp_any (n : Int) (w : World) (h0 : 0 ≤ n) (h1 : n < 18446744073709551616) :
    Calls Tryz.prog 81 #[.int .u64 n] w fun e w' => e = .returned (.int .i64 (n / 4294967296)) ∧ w' = w := by
  go_enter Tryz.func81, Tryz.ntmps81
  go_wp2
  all_goals go_ret
  exact ⟨rfl, rfl⟩

def pack (v s : Int) : Int := fit s 4294967295 * 4294967296 + fit v 4294967295

theorem pack_lo (v s : Int) : 0 ≤ pack v s := by
  have := fit_lo v 4294967295 (by omega); have := fit_lo s 4294967295 (by omega); unfold pack; omega
theorem pack_hi (v s : Int) : pack v s < 18446744073709551616 := by
  have := fit_hi v 4294967295 (by omega); have := fit_hi s 4294967295 (by omega); unfold pack; omega

theorem spack_any (v s : Int) (w : World) :
    Calls Tryz.prog 56 #[.int .i64 v, .int .i64 s] w fun e w' => e = .returned (.int .u64 (pack v s)) ∧ w' = w := by
  have a1 := fit_lo v 4294967295 (by omega)
  have a2 := fit_hi v 4294967295 (by omega)
  have a3 := fit_lo s 4294967295 (by omega)
  have a4 := fit_hi s 4294967295 (by omega)
  go_enter Tryz.func56, Tryz.ntmps56
  go_wp2_with (go_at_call 111; refine (low_any _ _ _).mono ?_; rintro e w' ⟨rfl, rfl⟩)
  all_goals go_ret
  exact ⟨rfl, rfl⟩

theorem make_any (v s : Int) (w : World) :
    Calls Tryz.prog 80 #[.int .i64 v, .int .i64 s] w fun e w' => e = .returned (.int .u64 (pack v s)) ∧ w' = w := by
  have a1 := fit_lo v 4294967295 (by omega)
  have a2 := fit_hi v 4294967295 (by omega)
  have a3 := fit_lo s 4294967295 (by omega)
  have a4 := fit_hi s 4294967295 (by omega)
  go_enter Tryz.func80, Tryz.ntmps80
  go_wp2_with (go_at_call 103; refine (fit_any _ _ _ (by omega)).mono ?_; rintro e w' ⟨rfl, rfl⟩)
  all_goals go_ret
  exact ⟨ret_int (or_u64 _ _ a3 a4 a1 a2), rfl⟩

theorem pack_any (v s : Int) (w : World) :
    Calls Tryz.prog 25 #[.int .i64 v, .int .i64 s] w fun e w' => e = .returned (.int .u64 (pack v s)) ∧ w' = w := by
  go_enter Tryz.func25, Tryz.ntmps25
  go_wp2_with (go_at_call 80; refine (make_any _ _ _).mono ?_; rintro e w' ⟨rfl, rfl⟩)
  all_goals go_ret
  exact ⟨rfl, rfl⟩

theorem val_any (n : Int) (w : World) (h0 : 0 ≤ n) (h1 : n < 18446744073709551616) :
    Calls Tryz.prog 22 #[.int .u64 n] w fun e w' => e = .returned (.int .i64 (lo32 n)) ∧ w' = w := by
  go_enter Tryz.func22, Tryz.ntmps22
  go_wp2_with (go_at_call 78; refine (value_any _ _ h0 h1).mono ?_; rintro e w' ⟨rfl, rfl⟩)
  all_goals go_ret
  exact ⟨rfl, rfl⟩

theorem st_any (n : Int) (w : World) (h0 : 0 ≤ n) (h1 : n < 18446744073709551616) :
    Calls Tryz.prog 26 #[.int .u64 n] w fun e w' => e = .returned (.int .i64 (n / 4294967296)) ∧ w' = w := by
  go_enter Tryz.func26, Tryz.ntmps26
  go_wp2_with (go_at_call 81; refine (stamp_any _ _ h0 h1).mono ?_; rintro e w' ⟨rfl, rfl⟩)
  all_goals go_ret
  exact ⟨rfl, rfl⟩
end Go.Proofs.YtipbijcmpbefpaaGreat.Words

import Derived.Test.YtgfbfgiohmdjmaaGreatM18
import Derived.Test.YtgfbfgiohmdjmaaGreatM13
import Derived.Laws.AppendOwn
import Derived.Test.YtgfbfgiohmdjmaaGreatM2
import Derived.Test.YtgfbfgiohmdjmaaGreatM6

/- The rooms of a slot, by the program. -/
namespace Go.Proofs.YtgfbfgiohmdjmaaGreat.Book
open Go.ChangeShapes Go.WideShapes Go.ChangeAt Go.RowKit
open Aid Lst
set_option maxRecDepth 100000
set_option linter.unusedVariables false

def selL (o : Nat → Int) (t : Int) : Nat → List Int
  | 0 => []
  | n + 1 => if o n = t then selL o t n ++ [(n : Int)] else selL o t n
theorem selL_len (o : Nat → Int) (t : Int) : ∀ n, (selL o t n).length ≤ n
  | 0 => Nat.le_refl _
  | n + 1 => by
    have := selL_len o t n
    simp only [selL]
    split
    · simp; omega
    · omega
def vals (l : List Int) : List Value := l.map (Value.int .i64)

theorem own_out {w : World} {base n B : Nat} {e : TypeId} {v : Value} {xs : List Value} (h : w.ownsRow base e 1 v n xs) (hB : B < base) : ∀ g, v.ownBlock = some g → B < g := by
  obtain ⟨_, ⟨rfl, _⟩ | ⟨g, cap, cur, rfl, hb, _⟩⟩ := h
  · intro g hg; cases hg
  · intro g' hg
    simp only [Value.ownBlock, Option.some.injEq] at hg
    omega
theorem Ent.grown {w : World} {b : Bx} {W W1 : World} {row : Option Nat} (E : Ent w b W) (h : b.At w) (hg : W.grownBy W1 row) (hr : ∀ g, row = some g → w.heap.size < g) : Ent w b W1 := by
  have hb : Below w.heap.size w W1 := ⟨hg.os.trans E.b.os, hg.tape.trans E.b.tape, hg.output.trans E.b.output, Nat.le_trans E.b.size hg.size, fun k hk => (hg.block k (Nat.lt_of_lt_of_le hk E.b.size) (fun e => by have := hr k e.symm; omega)).trans (E.b.block k hk)⟩
  refine ⟨fun j x hx => ?_, h.later hb, hb, Nat.lt_of_lt_of_le E.lt hg.size⟩
  exact hg.cell (E.r j x hx) (fun e => by have := hr w.heap.size e.symm; omega)
theorem one_int (w : World) (t : TypeId) (x : Int) : ∀ j u, ([.int .i64 x] : List Value)[j]? = some u → (w.alloc (.cells #[.int .i64 x] t)).cell? ((⟨w.heap.size, 0, none⟩ : Addr).add j) = some u := fun j u hu => by
  match j, hu with
  | 0, hu => simp at hu; subst hu; rw [Addr.add_mid, cell_of_row _ _ _ _ _ _ (heap1_0 w _)]; rfl
theorem int_parts {P : Program} {t : TypeId} (h : (P.info? t).map (fun i => (i.zero, i.size, i.bytes)) = some (some (.int .i64 0), 1, 8)) : ∃ i, P.info? t = some i ∧ i.zero = some (.int .i64 0) ∧ i.size = 1 ∧ i.bytes = 8 := by
  cases hi : P.info? t with
  | none => rw [hi] at h; cases h
  | some i =>
    rw [hi] at h
    simp only [Option.map_some, Option.some.injEq, Prod.mk.injEq] at h
    exact ⟨i, rfl, h.1, h.2.1, h.2.2⟩

def OfR (b : Bx) (t : Int) (base : Nat) (w' : World) (e : Ending) : Prop := ∃ v, e = .returned v ∧ w'.ownsRow base 3 1 v (selL b.o.f (t + 1) b.o.n).length (vals (selL b.o.f (t + 1) b.o.n))

def upd (f : Nat → Int) (j : Nat) (v : Int) : Nat → Int := fun i => if i = j then v else f i
def Sx.put (x : Sx) (j : Nat) (v : Int) : Sx := ⟨x.a, x.n, x.c, upd x.f j v⟩

theorem apart_congr {x y x' y' : Sx} (h : Apart x y) (h1 : x'.n = x.n) (h2 : x'.a = x.a) (h3 : y'.n = y.n) (h4 : y'.a = y.a) : Apart x' y' := by
  rcases h with h | h | ⟨j, k, e1, e2, e3⟩
  · exact .inl (h1.trans h)
  · exact .inr (.inl (h3.trans h))
  · exact .inr (.inr ⟨j, k, h2.trans e1, h4.trans e2, e3⟩)
theorem apart_sym {x y : Sx} (h : Apart x y) : Apart y x := by
  rcases h with h | h | ⟨j, k, e1, e2, e3⟩
  · exact .inr (.inl h)
  · exact .inl h
  · exact .inr (.inr ⟨k, j, e2, e1, e3.symm⟩)

theorem Sx.Own.far {x : Sx} {B C : Nat} {w : World} (h : x.Own B C w) {y : Sx} (ha : Apart x y) (hy : 0 < y.n) {k : Nat} (hk : y.a = some ⟨k, 0, none⟩) (j : Nat) (v : Value) : x.Own B C (w.setCell ⟨k, j, none⟩ v) := by
  rcases h with h | ⟨g, e, h1, h2, h3⟩
  · exact .inl h
  · rcases ha with h | h | ⟨j', k', e1, e2, e3⟩
    · exact .inl h
    · omega
    · rw [hk] at e2
      rw [e] at e1
      cases e1
      cases e2
      exact .inr ⟨g, e, h1, h2, h3.far ⟨k, j, none⟩ (fun q => e3 q.symm) v⟩

theorem Sx.Own.put {x : Sx} {B C : Nat} {w : World} (h : x.Own B C w) {k : Nat} (hk : x.a = some ⟨k, 0, none⟩) (j : Nat) (hj : j < x.n) (v : Int) : (x.put j v).Own B C (w.setCell ⟨k, j, none⟩ (.int .i64 v)) := by
  rcases h with h | ⟨g, e, h1, h2, h3⟩
  · omega
  · rw [hk] at e
    cases e
    exact .inr ⟨k, hk, h1, h2, h3.set j v _ (by simp [Sx.put, upd]) (fun i _ hne => by simp [Sx.put, upd, hne])⟩

theorem Bx.Own.write {b b' : Bx} {B C : Nat} {w : World} (h : b.Own B C w) (q : Nat) (x : Sx) (hx : b.lists[q]? = some x) (k j : Nat) (ha : x.a = some ⟨k, 0, none⟩) (hj : j < x.n) (v : Int) (hl : b'.lists = b.lists.set q (x.put j v)) :
    b'.Own B C (w.setCell ⟨k, j, none⟩ (.int .i64 v)) := by
  obtain ⟨hq, hxe⟩ := List.getElem?_eq_some_iff.1 hx
  have hpw := List.pairwise_iff_getElem.1 h.apart
  have hap : ∀ p (hp : p < b.lists.length), p ≠ q → Apart b.lists[p] x := fun p hp hne => by
    rw [← hxe]
    by_cases hlt : p < q
    · exact hpw p q hp hq hlt
    · exact apart_sym (hpw q p hq hp (by omega))
  refine ⟨?_, ?_, ?_⟩
  · rw [hl]
    intro y hy
    obtain ⟨p, hp, rfl⟩ := List.getElem_of_mem hy
    rw [List.length_set] at hp
    rw [List.getElem_set]
    split
    · exact (h.each x (hxe ▸ List.getElem_mem hq)).put ha j hj v
    · rename_i hne
      exact (h.each _ (List.getElem_mem hp)).far (hap p hp (fun e => hne e.symm)) (by omega) ha j _
  · rw [hl, List.pairwise_iff_getElem]
    intro p p' hp hp' hlt
    rw [List.length_set] at hp hp'
    refine apart_congr (hpw p p' hp hp' hlt) ?_ ?_ ?_ ?_
    all_goals
      rw [List.getElem_set]
      split
      · rename_i e
        subst e
        rw [hxe]; rfl
      · rfl
  · rw [hl]
    intro y hy
    obtain ⟨p, hp, rfl⟩ := List.getElem_of_mem hy
    rw [List.length_set] at hp
    rw [List.getElem_set]
    split
    · exact h.caps x (hxe ▸ List.getElem_mem hq)
    · exact h.caps _ (List.getElem_mem hp)

theorem next_in (x : Sx) (j : Nat) (w : World) (h : x.At w) (hj : j < x.n) (hn : x.n ≤ 1000) (h0 : 0 ≤ x.f j) (h1 : x.f j ≤ 1000) :
    Calls Tryz.prog 137 #[.slice x.a x.n x.c, .int .i64 j] w fun e w' => e = .returned (.int .i64 (x.f j + 1)) ∧ w' = w := by
  obtain ⟨k, o, ea, hc⟩ := h.cells (by omega)
  have c := hc j hj
  rw [ea]
  have hji : (j : Int) < x.n := by omega
  have hjn : ¬ x.n ≤ j := by omega
  have hjb : decide ((x.n : Int) ≤ j) = false := by simp; omega
  clear h hc ea
  go_enter Tryz.func137, Tryz.ntmps137
  go_wp2_with (fail)
  go_ret
  exact ⟨rfl, rfl⟩
theorem next_out (x : Sx) (j : Nat) (w : World) (hj : ¬ j < x.n) :
    Calls Tryz.prog 137 #[.slice x.a x.n x.c, .int .i64 j] w fun e w' => e = .returned (.int .i64 0) ∧ w' = w := by
  have hjn : x.n ≤ j := by omega
  have hjb : decide ((x.n : Int) ≤ j) = true := by simp; omega
  go_enter Tryz.func137, Tryz.ntmps137
  go_wp2_with (fail)
  go_ret
  exact ⟨rfl, rfl⟩
def nx (x : Sx) (j : Nat) : Int := if j < x.n then x.f j + 1 else 0
theorem next_any (x : Sx) (j : Nat) (w : World) (h : x.At w) (hn : x.n ≤ 1000) (hb : ∀ i, i < x.n → 0 ≤ x.f i ∧ x.f i ≤ 1000) :
    Calls Tryz.prog 137 #[.slice x.a x.n x.c, .int .i64 j] w fun e w' => e = .returned (.int .i64 (nx x j)) ∧ w' = w := by
  unfold nx
  by_cases hj : j < x.n
  · rw [if_pos hj]; exact next_in x j w h hj hn (hb j hj).1 (hb j hj).2
  · rw [if_neg hj]; exact next_out x j w hj

/- What a function of a visitor rests on: a list in a box, or a book in one, and the values in another. -/
structure VB (vb vk H : Nat) (F : Nat → Int) (w : World) : Prop where
  b : w.cell? ⟨vb, 0, none⟩ = some (.slice (some ⟨vk, 0, none⟩) H H)
  f : Fk .i64 H w vk F
theorem VB.drew {vb vk H : Nat} {F : Nat → Int} {w : World} (h : VB vb vk H F w) : VB vb vk H F w.drew := ⟨h.b, h.f⟩
theorem VB.later {vb vk H : Nat} {F : Nat → Int} {w w1 : World} (h : VB vb vk H F w) (hb : Below w.heap.size w w1) : VB vb vk H F w1 :=
  ⟨(hb.cell (p := ⟨vb, 0, none⟩) (World.block_lt_of_cell? w _ h.b)).trans h.b, h.f.later hb⟩
structure LB (lb : Nat) (x : Sx) (w : World) : Prop where
  b : w.cell? ⟨lb, 0, none⟩ = some (.slice x.a x.n x.c)
  a : x.At w

set_option maxHeartbeats 2000000 in
theorem wcopy_any (lb vb vk H n at_ : Nat) (x : Sx) (F : Nat → Int) (w : World) (hl : LB lb x w) (hv : VB vb vk H F w) (hn : n < x.n) (hx : x.n ≤ 1000) (ha : at_ < H) (hH : H ≤ 1000) (e1 : lb ≠ vk) (e2 : vb ≠ vk) (e3 : ∀ k o, x.a = some ⟨k, o, none⟩ → k ≠ vk) :
    Calls Tryz.prog 134 #[.int .i64 n, .int .i64 at_, .pointer (some ⟨lb, 0, none⟩), .pointer (some ⟨vb, 0, none⟩)] w fun e w' => e = .returned (.tuple #[]) ∧ Fk .i64 H w' vk (upd F at_ (x.f n)) ∧ Only vk (vk + 1) w w' := by
  obtain ⟨k, o, ea, hc⟩ := hl.a.cells (by omega)
  have c := hc n hn
  have lbx := hl.b
  rw [ea] at lbx
  have S0 : (fun w' : World => w'.cell? ⟨lb, 0, none⟩ = some (.slice (some ⟨k, o, none⟩) x.n x.c) ∧ w'.cell? ⟨k, o + n, none⟩ = some (.int .i64 (x.f n)) ∧ w'.cell? ⟨vb, 0, none⟩ = some (.slice (some ⟨vk, 0, none⟩) H H)) w.drew := ⟨lbx, c, hv.b⟩
  have hni : (n : Int) < x.n := by omega
  have hai : (at_ : Int) < H := by omega
  have OD : Hid (Only vk (vk + 1) w w.drew) := ⟨rfl, rfl, rfl, Nat.le_refl _, fun _ _ _ => rfl⟩
  have HF : Hid (Fk .i64 H w.drew vk F) := hv.f
  have e3' : k ≠ vk := e3 k o ea
  clear hl hv hc ea c lbx e3
  go_enter Tryz.func134, Tryz.ntmps134
  refine wp_region_held_drew (S := fun w' : World => w'.cell? ⟨lb, 0, none⟩ = some (.slice (some ⟨k, o, none⟩) x.n x.c) ∧ w'.cell? ⟨k, o + n, none⟩ = some (.int .i64 (x.f n)) ∧ w'.cell? ⟨vb, 0, none⟩ = some (.slice (some ⟨vk, 0, none⟩) H H)) (by kernel_rfl) S0 (fun hS => ?_)
  clear S0
  refine tI 0 (v := .slice (some ⟨vk, 0, none⟩) H H) (d := some 6) rfl rfl (fun w' hw => ?_) (by assumption) ?_
  · have q := hw.2.2; clear hw; go_simp
  simp only [Act.put, s1, s2, s3]
  refine tI 1 (v := .int .i64 at_) (d := some 7) rfl rfl (fun w' hw => ?_) (by assumption) ?_
  · go_simp
  simp only [Act.put, s1, s2, s3]
  refine tI 2 (v := .slice (some ⟨k, o, none⟩) x.n x.c) (d := some 8) rfl rfl (fun w' hw => ?_) (by assumption) ?_
  · have q := hw.1; clear hw; go_simp
  simp only [Act.put, s1, s2, s3]
  refine tI 3 (v := .int .i64 n) (d := some 9) rfl rfl (fun w' hw => ?_) (by assumption) ?_
  · go_simp
  simp only [Act.put, s1, s2, s3]
  refine tI 4 (v := .pointer (some ⟨k, o + n, none⟩)) (d := some 10) rfl rfl (fun w' hw => ?_) (by assumption) ?_
  · clear hw; go_simp
  simp only [Act.put, s1, s2, s3]
  refine tI 5 (v := .int .i64 (x.f n)) (d := some 11) rfl rfl (fun w' hw => ?_) (by assumption) ?_
  · have q := hw.2.1; clear hw; go_simp
  simp only [Act.put, s1, s2, s3]
  refine tI 6 (v := .pointer (some ⟨vk, at_, none⟩)) (d := some 12) rfl rfl (fun w' hw => ?_) (by assumption) ?_
  · clear hw; go_simp
  simp only [Act.put, s1, s2, s3]
  refine r1 7 rfl (fun K hK => ?_)
  have HS : Hid (_ ∧ _) := hS
  clear hS
  generalize World.drew w = V at HS HF OD ⊢
  have cd := HF.out at_ ha
  go_simp
  refine hK.out _ _ ⟨?_, ?_, ?_⟩ (fun hS => ?_)
  · rw [World.cell?_setCell_far _ _ _ _ (fun h => e1 h.symm)]; exact HS.out.1
  · rw [World.cell?_setCell_far _ _ _ _ (fun h => e3' h.symm)]; exact HS.out.2.1
  · rw [World.cell?_setCell_far _ _ _ _ (fun h => e2 h.symm)]; exact HS.out.2.2
  clear hK K
  refine wpAnyH_done (by kernel_rfl) ?_ _
  go_wp2_with (fail)
  exact bodyPost_end (v := .tuple #[]) (by simp [results, Tryz.results134]) rfl ⟨rfl, HF.out.set at_ _ _ (by simp [upd]) (fun i _ hne => by simp [upd, hne]), OD.out.setCell vk at_ (Nat.le_refl _) (by omega) _⟩

/- A book in a box. -/
structure BB (bb : Nat) (b : Bx) (w : World) : Prop where
  r : w.rangeAt bb 0 b.cells
  a : b.At w
def Away (b : Bx) (vk : Nat) : Prop := ∀ x ∈ b.lists, ∀ k o, x.a = some ⟨k, o, none⟩ → 0 < x.n → k ≠ vk

set_option maxHeartbeats 4000000 in
theorem wreg_any (bb vb vk H n at_ : Nat) (b : Bx) (F : Nat → Int) (w : World) (hb : BB bb b w) (hv : VB vb vk H F w) (hn : n < b.i.n) (hn' : n < b.e.n) (hx : b.i.n ≤ 1000) (hx' : b.e.n ≤ 1000) (ha : at_ < H) (hH : H ≤ 1000) (e1 : bb ≠ vk) (e2 : vb ≠ vk) (e3 : Away b vk) (i0 : 0 ≤ b.i.f n) (i1 : b.i.f n ≤ 2) (p0 : 0 ≤ b.e.f n) (p1 : b.e.f n ≤ 4095) :
    Calls Tryz.prog 135 #[.int .i64 n, .int .i64 at_, .pointer (some ⟨bb, 0, none⟩), .pointer (some ⟨vb, 0, none⟩)] w fun e w' => e = .returned (.tuple #[]) ∧ Fk .i64 H w' vk (upd F at_ (b.i.f n + b.e.f n * 4)) ∧ Only vk (vk + 1) w w' := by
  obtain ⟨ki, oi, ei, hi⟩ := (hb.a b.i (by simp [Bx.lists])).cells (by omega)
  obtain ⟨ke, oe, ee, he⟩ := (hb.a b.e (by simp [Bx.lists])).cells (by omega)
  have ci := hi n hn
  have ce := he n hn'
  obtain ⟨-, -, -, -, -, -, -, r7, r8⟩ := nine hb.r
  rw [ei] at r7
  rw [ee] at r8
  have S0 : (fun w' : World => w'.cell? ⟨bb, 7, none⟩ = some (.slice (some ⟨ki, oi, none⟩) b.i.n b.i.c) ∧ w'.cell? ⟨bb, 8, none⟩ = some (.slice (some ⟨ke, oe, none⟩) b.e.n b.e.c) ∧ w'.cell? ⟨ki, oi + n, none⟩ = some (.int .i64 (b.i.f n)) ∧ w'.cell? ⟨ke, oe + n, none⟩ = some (.int .i64 (b.e.f n)) ∧ w'.cell? ⟨vb, 0, none⟩ = some (.slice (some ⟨vk, 0, none⟩) H H)) w.drew := ⟨r7, r8, ci, ce, hv.b⟩
  have hni : (n : Int) < b.i.n := by omega
  have hne : (n : Int) < b.e.n := by omega
  have hai : (at_ : Int) < H := by omega
  have OD : Hid (Only vk (vk + 1) w w.drew) := ⟨rfl, rfl, rfl, Nat.le_refl _, fun _ _ _ => rfl⟩
  have HF : Hid (Fk .i64 H w.drew vk F) := hv.f
  have q1 : ki ≠ vk := e3 b.i (by simp [Bx.lists]) ki oi ei (by omega)
  have q2 : ke ≠ vk := e3 b.e (by simp [Bx.lists]) ke oe ee (by omega)
  have ob := Words.or_low2 (b.i.f n) (b.e.f n) i0 i1 p0 p1
  clear hb hv hi he ei ee ci ce r7 r8 e3
  go_enter Tryz.func135, Tryz.ntmps135
  refine wp_region_held_drew (S := fun w' : World => w'.cell? ⟨bb, 7, none⟩ = some (.slice (some ⟨ki, oi, none⟩) b.i.n b.i.c) ∧ w'.cell? ⟨bb, 8, none⟩ = some (.slice (some ⟨ke, oe, none⟩) b.e.n b.e.c) ∧ w'.cell? ⟨ki, oi + n, none⟩ = some (.int .i64 (b.i.f n)) ∧ w'.cell? ⟨ke, oe + n, none⟩ = some (.int .i64 (b.e.f n)) ∧ w'.cell? ⟨vb, 0, none⟩ = some (.slice (some ⟨vk, 0, none⟩) H H)) (by kernel_rfl) S0 (fun hS => ?_)
  clear S0
  refine tI 0 (v := .slice (some ⟨vk, 0, none⟩) H H) (d := some 6) rfl rfl (fun w' hw => ?_) (by assumption) ?_
  · have q := hw.2.2.2.2; clear hw; go_simp
  simp only [Act.put, s1, s2, s3]
  refine tI 1 (v := .int .i64 at_) (d := some 7) rfl rfl (fun w' hw => ?_) (by assumption) ?_
  · go_simp
  simp only [Act.put, s1, s2, s3]
  refine tI 2 (v := .pointer (some ⟨bb, 7, none⟩)) (d := some 8) rfl rfl (fun w' hw => ?_) (by assumption) ?_
  · clear hw; go_simp
  simp only [Act.put, s1, s2, s3]
  refine tI 3 (v := .slice (some ⟨ki, oi, none⟩) b.i.n b.i.c) (d := some 9) rfl rfl (fun w' hw => ?_) (by assumption) ?_
  · have q := hw.1; clear hw; go_simp
  simp only [Act.put, s1, s2, s3]
  refine tI 4 (v := .int .i64 n) (d := some 10) rfl rfl (fun w' hw => ?_) (by assumption) ?_
  · go_simp
  simp only [Act.put, s1, s2, s3]
  refine tI 5 (v := .pointer (some ⟨ki, oi + n, none⟩)) (d := some 11) rfl rfl (fun w' hw => ?_) (by assumption) ?_
  · clear hw; go_simp
  simp only [Act.put, s1, s2, s3]
  refine tI 6 (v := .int .i64 (b.i.f n)) (d := some 12) rfl rfl (fun w' hw => ?_) (by assumption) ?_
  · have q := hw.2.2.1; clear hw; go_simp
  simp only [Act.put, s1, s2, s3]
  refine tI 7 (v := .int .i64 (b.i.f n)) (d := some 13) rfl rfl (fun w' hw => ?_) (by assumption) ?_
  · clear hw; have w1 : IntKind.i64.wrap (b.i.f n) = b.i.f n := (by rw [IntKind.wrap_i64]; omega); go_simp
  simp only [Act.put, s1, s2, s3]
  refine tI 8 (v := .pointer (some ⟨bb, 8, none⟩)) (d := some 14) rfl rfl (fun w' hw => ?_) (by assumption) ?_
  · clear hw; go_simp
  simp only [Act.put, s1, s2, s3]
  refine tI 9 (v := .slice (some ⟨ke, oe, none⟩) b.e.n b.e.c) (d := some 15) rfl rfl (fun w' hw => ?_) (by assumption) ?_
  · have q := hw.2.1; clear hw; go_simp
  simp only [Act.put, s1, s2, s3]
  refine tI 10 (v := .int .i64 n) (d := some 16) rfl rfl (fun w' hw => ?_) (by assumption) ?_
  · go_simp
  simp only [Act.put, s1, s2, s3]
  refine tI 11 (v := .pointer (some ⟨ke, oe + n, none⟩)) (d := some 17) rfl rfl (fun w' hw => ?_) (by assumption) ?_
  · clear hw; go_simp
  simp only [Act.put, s1, s2, s3]
  refine tI 12 (v := .int .i64 (b.e.f n)) (d := some 18) rfl rfl (fun w' hw => ?_) (by assumption) ?_
  · have q := hw.2.2.2.1; clear hw; go_simp
  simp only [Act.put, s1, s2, s3]
  refine tI 13 (v := .int .i64 (b.e.f n * 4)) (d := some 19) rfl rfl (fun w' hw => ?_) (by assumption) ?_
  · clear hw; have w1 : IntKind.i64.wrap (b.e.f n * 4) = b.e.f n * 4 := (by rw [IntKind.wrap_i64]; omega); go_simp
  simp only [Act.put, s1, s2, s3]
  refine tI 14 (v := .int .i64 (b.i.f n + b.e.f n * 4)) (d := some 20) rfl rfl (fun w' hw => ?_) (by assumption) ?_
  · clear hw; go_simp
  simp only [Act.put, s1, s2, s3]
  refine tI 15 (v := .pointer (some ⟨vk, at_, none⟩)) (d := some 21) rfl rfl (fun w' hw => ?_) (by assumption) ?_
  · clear hw; go_simp
  simp only [Act.put, s1, s2, s3]
  refine r1 16 rfl (fun K hK => ?_)
  have HS : Hid (_ ∧ _) := hS
  clear hS
  generalize World.drew w = V at HS HF OD ⊢
  have cd := HF.out at_ ha
  go_simp
  refine hK.out _ _ ⟨?_, ?_, ?_, ?_, ?_⟩ (fun hS => ?_)
  · rw [World.cell?_setCell_far _ _ _ _ (fun h => e1 h.symm)]; exact HS.out.1
  · rw [World.cell?_setCell_far _ _ _ _ (fun h => e1 h.symm)]; exact HS.out.2.1
  · rw [World.cell?_setCell_far _ _ _ _ (fun h => q1 h.symm)]; exact HS.out.2.2.1
  · rw [World.cell?_setCell_far _ _ _ _ (fun h => q2 h.symm)]; exact HS.out.2.2.2.1
  · rw [World.cell?_setCell_far _ _ _ _ (fun h => e2 h.symm)]; exact HS.out.2.2.2.2
  clear hK K
  refine wpAnyH_done (by kernel_rfl) ?_ _
  go_wp2_with (fail)
  exact bodyPost_end (v := .tuple #[]) (by simp [results, Tryz.results135]) rfl ⟨rfl, HF.out.set at_ _ _ (by simp [upd]) (fun i _ hne => by simp [upd, hne]), OD.out.setCell vk at_ (Nat.le_refl _) (by omega) _⟩

set_option maxHeartbeats 4000000 in
theorem whead_any (bb vb vk H n at_ : Nat) (b : Bx) (F : Nat → Int) (w : World) (hb : BB bb b w) (hv : VB vb vk H F w) (hn : n < 4) (hx : (b.hd n).n ≤ 1000) (hr : ∀ i, i < (b.hd n).n → 0 ≤ (b.hd n).f i ∧ (b.hd n).f i ≤ 1000) (ha : at_ < H) (hH : H ≤ 1000) (e1 : bb ≠ vk) (e2 : vb ≠ vk) (e3 : Away b vk) :
    Calls Tryz.prog 136 #[.int .i64 n, .int .i64 at_, .pointer (some ⟨bb, 0, none⟩), .pointer (some ⟨vb, 0, none⟩)] w fun e w' => e = .returned (.tuple #[]) ∧ Fk .i64 H w' vk (upd F at_ (nx (b.hd n) 0)) ∧ Only vk (vk + 1) w w' := by
  have rh : w.cell? ⟨bb, 2 + n, none⟩ = some (.slice (b.hd n).a (b.hd n).n (b.hd n).c) := by
    obtain ⟨-, -, r2, r3, r4, r5, -, -, -⟩ := nine hb.r
    match n, hn with
    | 0, _ => exact r2
    | 1, _ => exact r3
    | 2, _ => exact r4
    | 3, _ => exact r5
  have aw : ∀ k o, (b.hd n).a = some ⟨k, o, none⟩ → 0 < (b.hd n).n → k ≠ vk := e3 (b.hd n) (b.hd_mem n)
  have S0 : (fun w' : World => w'.cell? ⟨bb, 2 + n, none⟩ = some (.slice (b.hd n).a (b.hd n).n (b.hd n).c) ∧ (b.hd n).At w' ∧ w'.cell? ⟨vb, 0, none⟩ = some (.slice (some ⟨vk, 0, none⟩) H H)) w.drew := ⟨rh, hb.a _ (b.hd_mem n), hv.b⟩
  have hni : (n : Int) < 4 := by omega
  have hai : (at_ : Int) < H := by omega
  have OD : Hid (Only vk (vk + 1) w w.drew) := ⟨rfl, rfl, rfl, Nat.le_refl _, fun _ _ _ => rfl⟩
  have HF : Hid (Fk .i64 H w.drew vk F) := hv.f
  generalize b.hd n = x at *
  have HR : Hid (∀ i, i < x.n → 0 ≤ x.f i ∧ x.f i ≤ 1000) := hr
  have AW : Hid (∀ k o, x.a = some ⟨k, o, none⟩ → 0 < x.n → k ≠ vk) := aw
  clear hb hv rh e3 hr aw
  go_enter Tryz.func136, Tryz.ntmps136
  refine wp_region_held_drew (S := fun w' : World => w'.cell? ⟨bb, 2 + n, none⟩ = some (.slice x.a x.n x.c) ∧ x.At w' ∧ w'.cell? ⟨vb, 0, none⟩ = some (.slice (some ⟨vk, 0, none⟩) H H)) (by kernel_rfl) S0 (fun hS => ?_)
  clear S0
  refine tI 0 (v := .slice (some ⟨vk, 0, none⟩) H H) (d := some 6) rfl rfl (fun w' hw => ?_) (by assumption) ?_
  · have q := hw.2.2; clear hw; go_simp
  simp only [Act.put, s1, s2, s3]
  refine tI 1 (v := .int .i64 at_) (d := some 7) rfl rfl (fun w' hw => ?_) (by assumption) ?_
  · go_simp
  simp only [Act.put, s1, s2, s3]
  refine tI 2 (v := .int .i64 n) (d := some 8) rfl rfl (fun w' hw => ?_) (by assumption) ?_
  · go_simp
  simp only [Act.put, s1, s2, s3]
  refine tI 3 (v := .pointer (some ⟨bb, 2, none⟩)) (d := some 9) rfl rfl (fun w' hw => ?_) (by assumption) ?_
  · clear hw; go_simp
  simp only [Act.put, s1, s2, s3]
  refine tI 4 (v := .pointer (some ⟨bb, 2 + n, none⟩)) (d := some 10) rfl rfl (fun w' hw => ?_) (by assumption) ?_
  · clear hw; go_simp
  simp only [Act.put, s1, s2, s3]
  refine tI 5 (v := .slice x.a x.n x.c) (d := some 11) rfl rfl (fun w' hw => ?_) (by assumption) ?_
  · have q := hw.1; clear hw; go_simp
  simp only [Act.put, s1, s2, s3]
  refine r1 6 rfl (fun K hK => ?_)
  have HS : Hid (_ ∧ _) := hS
  clear hS
  generalize World.drew w = V at HS HF OD ⊢
  go_simp
  refine (next_any x 0 V HS.out.2.1 hx HR.out).mono ?_
  rintro e V ⟨rfl, rfl⟩
  go_simp
  refine hK.out _ _ HS.out (fun hS => ?_)
  clear hK K HS
  refine tI 7 (v := .pointer (some ⟨vk, at_, none⟩)) (d := some 13) rfl rfl (fun w' hw => ?_) (by assumption) ?_
  · clear hw; go_simp
  simp only [Act.put, s1, s2, s3]
  refine r1 8 rfl (fun K hK => ?_)
  have HS : Hid (_ ∧ _) := hS
  clear hS
  have cd := HF.out at_ ha
  go_simp
  refine hK.out _ _ ⟨?_, ?_, ?_⟩ (fun hS => ?_)
  · rw [World.cell?_setCell_far _ _ _ _ (fun h => e1 h.symm)]; exact HS.out.1
  · rcases HS.out.2.1 with h0 | ⟨k, o, ea, hc⟩
    · exact .inl h0
    · exact .inr ⟨k, o, ea, fun j hj => by rw [World.cell?_setCell_far _ _ _ _ (fun h => AW.out k o ea (by omega) h.symm)]; exact hc j hj⟩
  · rw [World.cell?_setCell_far _ _ _ _ (fun h => e2 h.symm)]; exact HS.out.2.2
  clear hK K
  refine wpAnyH_done (by kernel_rfl) ?_ _
  go_wp2_with (fail)
  exact bodyPost_end (v := .tuple #[]) (by simp [results, Tryz.results136]) rfl ⟨rfl, HF.out.set at_ _ _ (by simp [upd]) (fun i _ hne => by simp [upd, hne]), OD.out.setCell vk at_ (Nat.le_refl _) (by omega) _⟩

end Go.Proofs.YtgfbfgiohmdjmaaGreat.Book

import Derived.Test.YtbipolfbkemmpaaDoorM3
import Derived.Test.YtbipolfbkemmpaaDoorM11
import Derived.Laws.AppendOwn
import Derived.LaidEql

/- Books that are marked and looked at. Conditions: at most 1,000,000,000 numbers in all. -/
namespace Go.Proofs.YtbipolfbkemmpaaDoor.Book
open Go.ChangeShapes Go.WideShapes Go.ChangeAt Go.RowKit
open Aid Lst
set_option maxRecDepth 100000
set_option linter.unusedVariables false

/- Only the blocks of these lists have turned, of those that were there. -/
structure Sp (xs : List Sx) (w w' : World) : Prop where
  os : w'.os = w.os
  tape : w'.tape = w.tape
  output : w'.output = w.output
  size : w.heap.size ≤ w'.heap.size
  block : ∀ i, i < w.heap.size → (∀ x ∈ xs, x.n ≠ 0 → ∀ k, x.a = some ⟨k, 0, none⟩ → i ≠ k) → w'.heap[i]? = w.heap[i]?

theorem Sp.refl (xs : List Sx) (w : World) : Sp xs w w := ⟨rfl, rfl, rfl, Nat.le_refl _, fun _ _ _ => rfl⟩
theorem Sp.of {xs : List Sx} {w w' : World} (h : Below w.heap.size w w') : Sp xs w w' := ⟨h.os, h.tape, h.output, h.size, fun i hi _ => h.block i hi⟩
theorem Sp.trans {xs : List Sx} {a w w' : World} (h : Sp xs a w) (h' : Sp xs w w') : Sp xs a w' := ⟨h'.os.trans h.os, h'.tape.trans h.tape, h'.output.trans h.output, Nat.le_trans h.size h'.size, fun i hi hx => (h'.block i (Nat.lt_of_lt_of_le hi h.size) hx).trans (h.block i hi hx)⟩
theorem Sp.mono {xs ys : List Sx} {w w' : World} (h : Sp xs w w') (hs : ∀ x ∈ xs, x ∈ ys) : Sp ys w w' := ⟨h.os, h.tape, h.output, h.size, fun i hi hx => h.block i hi (fun x hm => hx x (hs x hm))⟩
theorem Apart.symm {x y : Sx} (h : Apart x y) : Apart y x := by
  rcases h with h | h | ⟨j, k, h1, h2, h3⟩
  · exact .inr (.inl h)
  · exact .inl h
  · exact .inr (.inr ⟨k, j, h2, h1, h3.symm⟩)
theorem Sp.own {xs : List Sx} {w w' : World} (h : Sp xs w w') {y : Sx} {B C : Nat} (hy : y.Own B C w) (ha : ∀ x ∈ xs, Apart y x) : y.Own B C w' := by
  rcases hy with hy | ⟨k, e, h1, h2, hy⟩
  · exact .inl hy
  · by_cases y0 : y.n = 0
    · exact .inl y0
    refine .inr ⟨k, e, h1, h2, fun j hj => ?_⟩
    have hlt := World.block_lt_of_cell? w _ (hy j hj).1
    have hbl : w'.heap[k]? = w.heap[k]? := h.block k hlt (fun x hx xn k' ek => by
      rcases ha x hx with g | g | ⟨p, q, g1, g2, g3⟩
      · exact absurd g y0
      · exact absurd g xn
      · rw [e] at g1; rw [ek] at g2
        simp only [Option.some.injEq, Addr.mk.injEq, and_true] at g1 g2
        omega)
    rw [show w'.cell? ⟨k, j, none⟩ = w.cell? ⟨k, j, none⟩ from World.cell?_of_block (w := w) hbl, show w'.frozen? ⟨k, j, none⟩ = w.frozen? ⟨k, j, none⟩ from World.frozen?_of_block (w := w) hbl]
    exact hy j hj
theorem Sp.only {xs : List Sx} {w w' v : World} (h : Sp xs w w') {B C : Nat} (hx : ∀ x ∈ xs, x.Own B C v) : Only B C w w' := ⟨h.os, h.tape, h.output, h.size, fun i hi ho => h.block i hi (fun x hm xn k ek => by
  rcases hx x hm with g | ⟨k', e, h1, h2, _⟩
  · exact absurd g xn
  · rw [e] at ek
    simp only [Option.some.injEq, Addr.mk.injEq, and_true] at ek
    omega)⟩

/- A list as it is once it is marked from k on. -/
def Sx.mk' (x : Sx) (k : Int) : Sx := ⟨x.a, x.n, x.c, fun j => k + j⟩

def Bx.mkd (b : Bx) (k0 : Int) : Bx := ⟨b.s, b.p.mk' (k0), b.h0.mk' (k0 + b.p.n), b.h1.mk' (k0 + b.p.n + b.h0.n), b.h2.mk' (k0 + b.p.n + b.h0.n + b.h1.n), b.h3.mk' (k0 + b.p.n + b.h0.n + b.h1.n + b.h2.n), b.o.mk' (k0 + b.p.n + b.h0.n + b.h1.n + b.h2.n + b.h3.n), b.i.mk' (k0 + b.p.n + b.h0.n + b.h1.n + b.h2.n + b.h3.n + b.o.n), b.e.mk' (k0 + b.p.n + b.h0.n + b.h1.n + b.h2.n + b.h3.n + b.o.n + b.i.n)⟩
theorem nine' {w : World} {k : Nat} {x : Bx} (h : w.rangeAt k 0 x.cells) : w.cell? ⟨k, 1, none⟩ = some (.slice x.p.a x.p.n x.p.c) ∧ w.cell? ⟨k, 2, none⟩ = some (.slice x.h0.a x.h0.n x.h0.c) ∧ w.cell? ⟨k, 3, none⟩ = some (.slice x.h1.a x.h1.n x.h1.c) ∧ w.cell? ⟨k, 4, none⟩ = some (.slice x.h2.a x.h2.n x.h2.c) ∧ w.cell? ⟨k, 5, none⟩ = some (.slice x.h3.a x.h3.n x.h3.c) ∧ w.cell? ⟨k, 6, none⟩ = some (.slice x.o.a x.o.n x.o.c) ∧ w.cell? ⟨k, 7, none⟩ = some (.slice x.i.a x.i.n x.i.c) ∧ w.cell? ⟨k, 8, none⟩ = some (.slice x.e.a x.e.n x.e.c) :=
  ⟨h 1 _ rfl, h 2 _ rfl, h 3 _ rfl, h 4 _ rfl, h 5 _ rfl, h 6 _ rfl, h 7 _ rfl, h 8 _ rfl⟩

def selL (o : Nat → Int) (t : Int) : Nat → List Int
  | 0 => []
  | n + 1 => if o n = t then selL o t n ++ [(n : Int)] else selL o t n
theorem selL_len (o : Nat → Int) (t : Int) : ∀ n, (selL o t n).length ≤ n
  | 0 => Nat.le_refl _
  | n + 1 => by
    have := selL_len o t n
    simp only [selL]
    split
    · simp; omega
    · omega
def vals (l : List Int) : List Value := l.map (Value.int .i64)

theorem own_out {w : World} {base n B : Nat} {e : TypeId} {v : Value} {xs : List Value} (h : w.ownsRow base e 1 v n xs) (hB : B < base) : ∀ g, v.ownBlock = some g → B < g := by
  obtain ⟨_, ⟨rfl, _⟩ | ⟨g, cap, cur, rfl, hb, _⟩⟩ := h
  · intro g hg; cases hg
  · intro g' hg
    simp only [Value.ownBlock, Option.some.injEq] at hg
    omega
theorem Ent.grown {w : World} {b : Bx} {W W1 : World} {row : Option Nat} (E : Ent w b W) (h : b.At w) (hg : W.grownBy W1 row) (hr : ∀ g, row = some g → w.heap.size < g) : Ent w b W1 := by
  have hb : Below w.heap.size w W1 := ⟨hg.os.trans E.b.os, hg.tape.trans E.b.tape, hg.output.trans E.b.output, Nat.le_trans E.b.size hg.size, fun k hk => (hg.block k (Nat.lt_of_lt_of_le hk E.b.size) (fun e => by have := hr k e.symm; omega)).trans (E.b.block k hk)⟩
  refine ⟨fun j x hx => ?_, h.later hb, hb, Nat.lt_of_lt_of_le E.lt hg.size⟩
  exact hg.cell (E.r j x hx) (fun e => by have := hr w.heap.size e.symm; omega)
theorem one_int (w : World) (t : TypeId) (x : Int) : ∀ j u, ([.int .i64 x] : List Value)[j]? = some u → (w.alloc (.cells #[.int .i64 x] t)).cell? ((⟨w.heap.size, 0, none⟩ : Addr).add j) = some u := fun j u hu => by
  match j, hu with
  | 0, hu => simp at hu; subst hu; rw [Addr.add_mid, cell_of_row _ _ _ _ _ _ (heap1_0 w _)]; rfl
theorem int_parts {P : Program} {t : TypeId} (h : (P.info? t).map (fun i => (i.zero, i.size, i.bytes)) = some (some (.int .i64 0), 1, 8)) : ∃ i, P.info? t = some i ∧ i.zero = some (.int .i64 0) ∧ i.size = 1 ∧ i.bytes = 8 := by
  cases hi : P.info? t with
  | none => rw [hi] at h; cases h
  | some i =>
    rw [hi] at h
    simp only [Option.map_some, Option.some.injEq, Prod.mk.injEq] at h
    exact ⟨i, rfl, h.1, h.2.1, h.2.2⟩

def OfR (b : Bx) (t : Int) (base : Nat) (w' : World) (e : Ending) : Prop := ∃ v, e = .returned v ∧ w'.ownsRow base 3 1 v (selL b.o.f (t + 1) b.o.n).length (vals (selL b.o.f (t + 1) b.o.n))

set_option maxRecDepth 100000 in
set_option maxHeartbeats 8000000 in
theorem rooms_in (b : Bx) (t : Int) (w : World) (h : b.At w) (hok : OkP b) (h0 : 0 ≤ t) (h1 : t < b.s) :
    Calls Tryd.prog 44 #[.agg b.cells.toArray, .int .i64 t] w fun e w' => OfR b t (w.heap.size + 1) w' e ∧ Below w.heap.size w w' := by
  obtain ⟨n1, n2, n3, n4, n5⟩ := hok.nums
  have s4 : b.s ≤ 4 := hok.1.1.2.1
  obtain ⟨i0, hi0, hz0, hz1, hz2⟩ := int_parts infoInt
  have E : Ent w b (w.alloc (.cells #[.int .i64 b.s, .slice b.p.a b.p.n b.p.c, .slice b.h0.a b.h0.n b.h0.c, .slice b.h1.a b.h1.n b.h1.c, .slice b.h2.a b.h2.n b.h2.c, .slice b.h3.a b.h3.n b.h3.c, .slice b.o.a b.o.n b.o.c, .slice b.i.a b.i.n b.i.c, .slice b.e.a b.e.n b.e.c] 26)) := Ent.start h 26
  clear hok
  simp only [Bx.cells]
  go_enter Tryd.func44, Tryd.ntmps44
  go_wp2_with (fail)
  generalize w.alloc (.cells #[.int .i64 b.s, .slice b.p.a b.p.n b.p.c, .slice b.h0.a b.h0.n b.h0.c, .slice b.h1.a b.h1.n b.h1.c, .slice b.h2.a b.h2.n b.h2.c, .slice b.h3.a b.h3.n b.h3.c, .slice b.o.a b.o.n b.o.c, .slice b.i.a b.i.n b.i.c, .slice b.e.a b.e.n b.e.c] 26) = W at E ⊢
  refine (isslot_any b t W).mono ?_
  rintro e w1 ⟨⟨r, rfl, hr⟩, hb⟩
  replace E := E.later hb
  clear hb
  cases r
  · exact absurd ⟨h0, h1⟩ hr.f
  clear hr
  obtain ⟨u0, u1, u2, u3, u4, u5, u6, u7, u8⟩ := nine E.r
  go_wp2_with (fail)
  clear u0 u1 u2 u3 u4 u5 u6 u7 u8
  go_loopw [5, 16] (fun v i wr => ∃ u : Nat, u ≤ b.o.n ∧ i = .int .i64 u ∧ wr.ownsRow (w.heap.size + 1) 3 1 v (selL b.o.f (t + 1) u).length (vals (selL b.o.f (t + 1) u)) ∧ Ent w b wr) (fun _ i _ => b.o.n - (intOf i).toNat)
  case atStart => exact ⟨0, by omega, rfl, ⟨rfl, .inl ⟨rfl, rfl⟩⟩, E⟩
  case round =>
    obtain ⟨u, hu, rfl, ho, F⟩ := hrel
    clear E
    by_cases lt : (u : Int) < b.o.n
    · obtain ⟨k, o, ea, hc⟩ := F.a.o.cells (by omega)
      have c1 := hc u (by omega)
      rw [ea]
      have EA : Hid (b.o.a = some ⟨k, o, none⟩) := ea
      clear ea hc
      have ll := selL_len b.o.f (t + 1) u
      have out := own_out ho (Nat.lt_succ_self w.heap.size)
      have OUT : Hid (∀ g, u5.ownBlock = some g → w.heap.size < g) := out
      clear out
      have HO : Hid (wr.ownsRow (w.heap.size + 1) 3 1 u5 (selL b.o.f (t + 1) u).length (vals (selL b.o.f (t + 1) u))) := ho
      clear ho
      by_cases e : b.o.f u = t + 1
      · have SE : Hid (selL b.o.f (t + 1) (u + 1) = selL b.o.f (t + 1) u ++ [(u : Int)]) := by unfold Hid; simp only [selL, if_pos e]
        rw [e] at c1
        clear e
        generalize selL b.o.f (t + 1) u = L at HO ll SE
        have fl := F.lt
        go_wp2_with (refine wpList_append_own _ rfl _ _ 23 rfl (w.heap.size + 1) 3 i0 (.int .i64 0) 1 8 Tryd.underlying23 hi0 hz0 hz1 hz2 rfl (by decide) _ L.length (vals L) rfl (HO.out.alloc _) ⟨wr.heap.size, 0, none⟩ 1 1 [.int .i64 u] rfl rfl (one_int wr 3 u) (by intro u hu; simp at hu; subst hu; rfl) (by unfold maxLen; omega) (by omega) (by simp; omega) ?_)
        intro v' w4 hown hgrow hiff
        have G := (F.later (below1 wr (.cells #[.int .i64 u] 3))).grown h hgrow OUT.out
        have HO2 : Hid (w4.ownsRow (w.heap.size + 1) 3 1 v' (selL b.o.f (t + 1) (u + 1)).length (vals (selL b.o.f (t + 1) (u + 1)))) := by
          unfold Hid
          rw [SE.out]
          simpa [vals] using hown
        clear hown hgrow hiff HO SE OUT F fl
        go_wp2_with (fail)
        go_roundw
        case rel => exact ⟨u + 1, by omega, by go_num, HO2.out, G⟩
        case measure => simp [intOf]; omega
      · have HO2 : Hid (wr.ownsRow (w.heap.size + 1) 3 1 u5 (selL b.o.f (t + 1) (u + 1)).length (vals (selL b.o.f (t + 1) (u + 1)))) := by
          unfold Hid
          simp only [selL, if_neg e]
          exact HO.out
        have eb : (b.o.f u == t + 1) = false := by simp [e]
        clear HO OUT e
        go_wp2_with (fail)
        go_roundw
        case rel => exact ⟨u + 1, by omega, by go_num, HO2.out, F⟩
        case measure => simp [intOf]; omega
    · have eu : u = b.o.n := by omega
      have HO2 : Hid (wr.ownsRow (w.heap.size + 1) 3 1 u5 (selL b.o.f (t + 1) b.o.n).length (vals (selL b.o.f (t + 1) b.o.n))) := by unfold Hid; rw [← eu]; exact ho
      clear eu ho
      go_wp2_with (fail)
      go_ret
      exact ⟨⟨_, rfl, HO2.out⟩, F.b⟩

end Go.Proofs.YtbipolfbkemmpaaDoor.Book
/- The program's rings: the rooms of a ring. -/
namespace Go.Proofs.YtbipolfbkemmpaaDoor.Rin
open Go.ChangeShapes Go.WideShapes Go.ChangeAt Go.RowKit
open Aid Lst
open Book (takeB vals one_int int_parts)
set_option maxRecDepth 100000
set_option linter.unusedVariables false

def hd (s : Nat) : List Nat → Nat
  | [] => s
  | x :: _ => x
theorem hd_eq (s : Nat) (l : List Nat) : l.headD s = hd s l := by cases l <;> rfl
theorem run_equalIn_ptr {P : Program} (w : World) (d : Nat) (t : TypeId) (x s : Nat) (h : P.underlying t = some (.pointer (P.pointee t))) (hs : (P.info? (P.pointee t)).map (·.size) = some 3) (hx : ∃ C t, w.heap[x]? = some (.cells C t (0, 0))) (hs' : ∃ C t, w.heap[s]? = some (.cells C t (0, 0))) : (Op.equalIn (d + 1) t (.pointer (some ⟨x, 0, none⟩)) (.pointer (some ⟨s, 0, none⟩))).run P w = .ok (decide (x = s)) w := by
  obtain ⟨i, hi, hz⟩ := Option.map_eq_some_iff.1 hs
  obtain ⟨C, tc, hc⟩ := hx
  obtain ⟨D, td, hd⟩ := hs'
  have e3 : (sizeOf (P.pointee t)).run P w = .ok 3 w := by simp [sizeOf, typeInfo, hi, hz]
  by_cases e : x = s
  · simp [Op.equalIn, run_underlying h, e, e3, sameAddr]
  · have q := run_sameAddr_other (P := P) w (a := ⟨x, 0, none⟩) (b := ⟨s, 0, none⟩) (fun q => e (by injection q)) hc hd
    simp [Op.equalIn, run_underlying h, e, e3, q]
theorem run_neq_ptr {P : Program} (w : World) (t : TypeId) (x s : Nat) (h : P.underlying t = some (.pointer (P.pointee t))) (hs : (P.info? (P.pointee t)).map (·.size) = some 3) (hx : ∃ C t, w.heap[x]? = some (.cells C t (0, 0))) (hs' : ∃ C t, w.heap[s]? = some (.cells C t (0, 0))) : (binOp .neq t (.pointer (some ⟨x, 0, none⟩)) (.pointer (some ⟨s, 0, none⟩))).run P w = .ok (.bool (!decide (x = s))) w := by
  have e : (Op.equal t (.pointer (some ⟨x, 0, none⟩)) (.pointer (some ⟨s, 0, none⟩))).run P w = .ok (decide (x = s)) w := run_equalIn_ptr w 9999 t x s h hs hx hs'
  simp only [binOp]
  simp [e]

def lenV : Value → Nat
  | .slice _ n _ => n
  | _ => 0
theorem own_lenV {w : World} {base size n : Nat} {e : TypeId} {v : Value} {xs : List Value} (h : w.ownsRow base e size v n xs) : lenV v = n := by
  obtain ⟨_, ⟨rfl, rfl⟩ | ⟨g, cap, cur, rfl, _⟩⟩ := h <;> rfl
theorem own_geV {w : World} {base size n : Nat} {e : TypeId} {v : Value} {xs : List Value} (h : w.ownsRow base e size v n xs) : ∀ g, v.ownBlock = some g → base ≤ g := by
  obtain ⟨_, ⟨rfl, _⟩ | ⟨g, cap, cur, rfl, hb, _⟩⟩ := h
  · intro g hg; cases hg
  · intro g' hg
    simp only [Value.ownBlock, Option.some.injEq] at hg
    omega
theorem grown_below {w W W1 : World} {row : Option Nat} (h : Below w.heap.size w W) (hg : W.grownBy W1 row) (hr : ∀ g, row = some g → w.heap.size ≤ g) : Below w.heap.size w W1 :=
  ⟨hg.os.trans h.os, hg.tape.trans h.tape, hg.output.trans h.output, Nat.le_trans h.size hg.size, fun k hk => (hg.block k (Nat.lt_of_lt_of_le hk h.size) (fun e => by have := hr k e.symm; omega)).trans (h.block k hk)⟩

set_option maxHeartbeats 2000000 in
theorem units_any {B s : Nat} {U : List Int} {un : Nat → Int} {nx pv : Nat → Nat} {l : List Nat} (w : World) (h : Rg w B s U un nx pv l) (hl : l.length ≤ 1000) :
    Calls Tryd.prog 53 #[.pointer (some ⟨s, 0, none⟩)] w fun e w' => (∃ v, e = .returned v ∧ w'.ownsRow w.heap.size 3 1 v U.length (vals U)) ∧ Below w.heap.size w w' := by
  obtain ⟨i0, hi0, hz0, hz1, hz2⟩ := int_parts infoInt
  have HR : Hid (Rg w B s U un nx pv l) := h
  have c1 : w.cell? ⟨s, 1, none⟩ = some (ptr (nx s)) := (h.m s List.mem_cons_self).n
  have en : nx s = l.headD s := h.r.next
  rw [en, hd_eq] at c1
  unfold ptr at c1
  clear h en
  go_enter Tryd.func53, Tryd.ntmps53
  go_wp2_with (fail)
  clear c1
  go_loopw [3, 4] (fun v i wr => ∃ l1 l2 : List Nat, l = l1 ++ l2 ∧ i = .pointer (some ⟨hd s l2, 0, none⟩) ∧ wr.ownsRow w.heap.size 3 1 v l1.length (vals (l1.map un)) ∧ Below w.heap.size w wr) (fun v _ _ => l.length - lenV v)
  case atStart => exact ⟨[], l, rfl, rfl, ⟨rfl, .inl ⟨rfl, rfl⟩⟩, Below.refl _ _⟩
  case round =>
    obtain ⟨l1, l2, el, rfl, ho, hb⟩ := hrel
    have HO : Hid (wr.ownsRow w.heap.size 3 1 u3 l1.length (vals (l1.map un))) := ho
    have HB : Hid (Below w.heap.size w wr) := hb
    have EL : Hid (l = l1 ++ l2) := el
    have lv := own_lenV ho
    have ll : l.length = l1.length + l2.length := by rw [el]; simp
    clear ho hb el
    cases l2 with
    | nil =>
      rw [show hd s ([] : List Nat) = s from rfl]
      have q := run_neq_ptr (P := Tryd.prog) wr 65 s s (by kernel_rfl) (by kernel_rfl) (HR.out.m.later HB.out s List.mem_cons_self).o (HR.out.m.later HB.out s List.mem_cons_self).o
      simp only [decide_true, Bool.not_true] at q
      go_wp2_with (fail)
      go_ret
      refine ⟨⟨u3, rfl, ?_⟩, HB.out⟩
      have e := HR.out.u
      rw [EL.out, List.append_nil] at e
      have := HO.out
      rw [e] at this
      rw [← e, List.length_map, e]
      exact this
    | cons x t =>
      rw [show hd s (x :: t) = x from rfl]
      have mx : x ∈ s :: l := List.mem_cons_of_mem _ (by rw [EL.out]; exact List.mem_append_right _ List.mem_cons_self)
      have hxs : x ≠ s := fun e => by
        have n := HR.out.r.n
        rw [List.nodup_cons] at n
        exact n.1 (by rw [← e, EL.out]; exact List.mem_append_right _ List.mem_cons_self)
      have M := HR.out.m.later HB.out x mx
      have cu := M.u
      have cn : wr.cell? ⟨x, 1, none⟩ = some (.pointer (some ⟨hd s t, 0, none⟩)) := by
        have e := (Ring.leave (show Ring nx pv s (l1 ++ x :: t) by rw [← EL.out]; exact HR.out.r)).1
        have := M.n
        rw [e, hd_eq] at this
        exact this
      clear M
      have q := run_neq_ptr (P := Tryd.prog) wr 65 x s (by kernel_rfl) (by kernel_rfl) (HR.out.m.later HB.out x mx).o (HR.out.m.later HB.out s List.mem_cons_self).o
      simp only [decide_eq_false hxs, Bool.not_false] at q
      have fl : l1.length < l.length := by rw [ll]; simp
      have hz := HB.out.size
      go_wp2_with (refine wpList_append_own _ rfl _ _ 23 rfl w.heap.size 3 i0 (.int .i64 0) 1 8 Tryd.underlying23 hi0 hz0 hz1 hz2 rfl (by decide) _ l1.length (vals (l1.map un)) rfl (HO.out.alloc _) ⟨wr.heap.size, 0, none⟩ 1 1 [.int .i64 (un x)] rfl rfl (one_int wr 3 (un x)) (by intro u hu; simp at hu; subst hu; rfl) (by unfold maxLen; omega) (by omega) (by simp; omega) ?_)
      intro v' w4 hown hgrow hiff
      have HB4 : Hid (Below w.heap.size w w4) := grown_below (HB.out.trans ((below1 wr _).mono HB.out.size)) hgrow (own_geV HO.out)
      have HO4 : Hid (w4.ownsRow w.heap.size 3 1 v' (l1 ++ [x]).length (vals ((l1 ++ [x]).map un))) := by
        unfold Hid
        simpa [vals] using hown
      have EL4 : Hid (l = (l1 ++ [x]) ++ t) := by unfold Hid; rw [EL.out]; simp
      have lv4 := own_lenV HO4.out
      rw [List.length_append, List.length_singleton] at lv4
      have CN : Hid (w4.cell? ⟨x, 1, none⟩ = some (.pointer (some ⟨hd s t, 0, none⟩))) := by
        have l0 := World.block_lt_of_cell? w _ (HR.out.m x (List.mem_cons_of_mem _ (by rw [EL.out]; exact List.mem_append_right _ List.mem_cons_self))).u
        unfold Hid
        rw [HB4.out.cell (p := ⟨x, 1, none⟩) l0]
        rw [HB.out.cell (p := ⟨x, 1, none⟩) l0] at cn
        exact cn
      have c4 := CN.out
      clear hown hgrow hiff cn cu HO HB EL hz
      go_wp2_with (fail)
      go_roundw
      case rel => exact ⟨l1 ++ [x], t, EL4.out, rfl, HO4.out, HB4.out⟩
      case measure => rw [lv, lv4]; omega

def rowU (f : Nat → Int) : Nat → List Int
  | 0 => []
  | k + 1 => rowU f k ++ [f k]
theorem last_mem (s : Nat) (l : List Nat) : l.getLastD s ∈ s :: l := by
  rcases List.eq_nil_or_concat l with rfl | ⟨r, y, rfl⟩
  · exact List.mem_cons_self
  · rw [List.concat_eq_append]
    simp
theorem Rg.one (w : World) (t : TypeId) : Rg (w.alloc (.cells #[.int .i64 (-1), .pointer (some ⟨w.heap.size, 0, none⟩), .pointer (some ⟨w.heap.size, 0, none⟩)] t)) w.heap.size w.heap.size [] (fun _ => -1) (fun _ => w.heap.size) (fun _ => w.heap.size) [] := by
  have hb := heap1_0 w (.cells #[.int .i64 (-1), .pointer (some ⟨w.heap.size, 0, none⟩), .pointer (some ⟨w.heap.size, 0, none⟩)] t)
  refine ⟨⟨⟨rfl, rfl⟩, by simp⟩, fun k hk => ?_, rfl, fun k hk => ?_⟩
  · simp only [List.mem_cons, List.not_mem_nil, or_false] at hk
    subst hk
    exact ⟨by rw [cell_of_row _ _ 0 _ _ _ hb]; rfl, by rw [cell_of_row _ _ 1 _ _ _ hb]; rfl, by rw [cell_of_row _ _ 2 _ _ _ hb]; rfl, frozen_of_row _ _ 1 _ _ hb, frozen_of_row _ _ 2 _ _ hb, ⟨_, _, hb⟩⟩
  · simp only [List.mem_cons, List.not_mem_nil, or_false] at hk
    omega

set_option maxHeartbeats 2000000 in
theorem ringof_any (a : Option Addr) (n c : Nat) (f : Nat → Int) (w : World) (h : Sl .i64 w a n f) (hn : n ≤ 1000) :
    Calls Tryd.prog 50 #[.slice a n c] w fun e w' => e = .returned (.pointer (some ⟨w.heap.size, 0, none⟩)) ∧ (∃ un nx pv l, Rg w' w.heap.size w.heap.size (rowU f n) un nx pv l) ∧ Below w.heap.size w w' ∧ w.heap.size < w'.heap.size := by
  have HS : Hid (Sl .i64 w a n f) := h
  have O := Rg.one w 84
  have B0 := below1 w (.cells #[.int .i64 (-1), .pointer (some ⟨w.heap.size, 0, none⟩), .pointer (some ⟨w.heap.size, 0, none⟩)] 84)
  have z0 : w.heap.size < (w.alloc (.cells #[.int .i64 (-1), .pointer (some ⟨w.heap.size, 0, none⟩), .pointer (some ⟨w.heap.size, 0, none⟩)] 84)).heap.size := by simp
  clear h
  go_enter Tryd.func50, Tryd.ntmps50
  go_wp2_with (fail)
  generalize w.alloc (.cells #[.int .i64 (-1), .pointer (some ⟨w.heap.size, 0, none⟩), .pointer (some ⟨w.heap.size, 0, none⟩)] 84) = W at O B0 z0 ⊢
  obtain ⟨s, es⟩ : ∃ s, s = w.heap.size := ⟨_, rfl⟩
  have HO : Hid (∃ un nx pv l, Rg W w.heap.size s (rowU f 0) un nx pv l) := ⟨_, _, _, _, by rw [es]; exact O⟩
  rw [← es]
  have ES : Hid (s = w.heap.size) := es
  clear O es
  go_loopw [18] (fun i wr => ∃ k : Nat, k ≤ n ∧ i = .int .i64 k ∧ (∃ un nx pv l, Rg wr w.heap.size s (rowU f k) un nx pv l) ∧ Below w.heap.size w wr ∧ w.heap.size < wr.heap.size) (fun i _ => n - (intOf i).toNat)
  case atStart => exact ⟨0, by omega, rfl, HO.out, B0, z0⟩
  case round =>
    obtain ⟨k, hk, rfl, ⟨un, nx, pv, l, hr⟩, hb, hz⟩ := hrel
    have HR : Hid (Rg wr w.heap.size s (rowU f k) un nx pv l) := hr
    have HB : Hid (Below w.heap.size w wr) := hb
    have HZ : Hid (w.heap.size < wr.heap.size) := hz
    clear hr hb hz HO B0 z0
    by_cases hlt : (k : Int) < n
    · rcases HS.out with h | ⟨b, off, rfl, h⟩
      · omega
      have c0 : wr.cell? ⟨b, off + k, none⟩ = some (.int .i64 (f k)) := (HB.out.cell (p := ⟨b, off + k, none⟩) (World.block_lt_of_cell? w _ (h k (by omega)))).trans (h k (by omega))
      have c2 : wr.cell? ⟨s, 2, none⟩ = some (.pointer (some ⟨pv s, 0, none⟩)) := (HR.out.m s List.mem_cons_self).p
      clear h
      go_wp2_with (fail)
      have ms : pv s ∈ s :: l := by rw [HR.out.r.prev]; exact last_mem s l
      have A := HR.out.append (Nat.le_of_lt HZ.out) (f k) 84
      refine (follow_at (pv s) s (f k) (ptr (pv s)) wr (by have := (HR.out.m (pv s) ms).n; rw [A.1] at this; exact this) (HR.out.m s List.mem_cons_self).p (HR.out.m (pv s) ms).fn (HR.out.m s List.mem_cons_self).fp).mono ?_
      rintro e w1 ⟨rfl, e1⟩
      have HR1 : Hid (∃ un nx pv l, Rg w1 w.heap.size s (rowU f (k + 1)) un nx pv l) := ⟨_, _, _, _, by rw [e1]; exact A.2⟩
      have HB1 : Hid (Below w.heap.size w w1 ∧ w.heap.size < w1.heap.size) := by
        have hb := ((below1 wr (.cells #[.int .i64 (f k), ptr s, ptr (pv s)] 84)).mono HB.out.size).setCell (p := ⟨s, 2, none⟩) (by rw [← ES.out]; exact Nat.le_refl _) (ptr wr.heap.size) |>.setCell (p := ⟨pv s, 1, none⟩) (HR.out.b _ ms) (ptr wr.heap.size)
        rw [← e1] at hb
        exact ⟨HB.out.trans hb, Nat.lt_of_lt_of_le HZ.out hb.size⟩
      clear A e1 ms c0 c2 HR HB HZ
      go_wp2_with (fail)
      go_roundw
      case rel => exact ⟨k + 1, by omega, by go_num, HR1.out, HB1.out.1, HB1.out.2⟩
      case measure => simp [intOf]; omega
    · obtain rfl : k = n := by omega
      go_wp2_with (fail)
      go_ret
      have r := HR.out
      exact ⟨by show Ending.returned (.pointer (some ⟨s, 0, none⟩)) = _; rw [ES.out], ⟨un, nx, pv, l, by rw [← ES.out]; rw [← ES.out] at r; exact r⟩, HB.out, HZ.out⟩

end Go.Proofs.YtbipolfbkemmpaaDoor.Rin

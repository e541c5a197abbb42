/- The rooms of a slot, by the program. -/
import Derived.Test.YtoloaghjgheomaaRoom
import Derived.Test.YtoloaghjgheomaaBk5
import Derived.Laws.AppendOwn
namespace Go.Proofs.Ytoloaghjgheomaa.Book
open Go.ChangeShapes Go.WideShapes Go.ChangeAt Go.RowKit
open Go.Proofs.Ytoloaghjgheomaa.Aid Go.Proofs.Ytoloaghjgheomaa.Lst
set_option linter.unusedVariables false

def selL (o : Nat → Int) (t : Int) : Nat → List Int
  | 0 => []
  | n + 1 => if o n = t then selL o t n ++ [(n : Int)] else selL o t n
theorem selL_len (o : Nat → Int) (t : Int) : ∀ n, (selL o t n).length ≤ n
  | 0 => Nat.le_refl _
  | n + 1 => by
    have := selL_len o t n
    simp only [selL]
    split
    · simp; omega
    · omega
def vals (l : List Int) : List Value := l.map (Value.int .i64)

theorem own_out {w : World} {base n B : Nat} {e : TypeId} {v : Value} {xs : List Value} (h : w.ownsRow base e 1 v n xs) (hB : B < base) : ∀ g, v.ownBlock = some g → B < g := by
  obtain ⟨_, ⟨rfl, _⟩ | ⟨g, cap, cur, rfl, hb, _⟩⟩ := h
  · intro g hg; cases hg
  · intro g' hg
    simp only [Value.ownBlock, Option.some.injEq] at hg
    omega
theorem Ent.grown {w : World} {b : Bx} {W W1 : World} {row : Option Nat} (E : Ent w b W) (h : b.At w) (hg : W.grownBy W1 row) (hr : ∀ g, row = some g → w.heap.size < g) : Ent w b W1 := by
  have hb : Below w.heap.size w W1 := ⟨hg.os.trans E.b.os, hg.tape.trans E.b.tape, hg.output.trans E.b.output, Nat.le_trans E.b.size hg.size, fun k hk => (hg.block k (Nat.lt_of_lt_of_le hk E.b.size) (fun e => by have := hr k e.symm; omega)).trans (E.b.block k hk)⟩
  refine ⟨fun j x hx => ?_, h.later hb, hb, Nat.lt_of_lt_of_le E.lt hg.size⟩
  exact hg.cell (E.r j x hx) (fun e => by have := hr w.heap.size e.symm; omega)
theorem one_int (w : World) (t : TypeId) (x : Int) : ∀ j u, ([.int .i64 x] : List Value)[j]? = some u → (w.alloc (.cells #[.int .i64 x] t)).cell? ((⟨w.heap.size, 0, none⟩ : Addr).add j) = some u := fun j u hu => by
  match j, hu with
  | 0, hu => simp at hu; subst hu; rw [Addr.add_mid, cell_of_row _ _ _ _ _ _ (heap1_0 w _)]; rfl
theorem int_parts {P : Program} {t : TypeId} (h : (P.info? t).map (fun i => (i.zero, i.size, i.bytes)) = some (some (.int .i64 0), 1, 8)) : ∃ i, P.info? t = some i ∧ i.zero = some (.int .i64 0) ∧ i.size = 1 ∧ i.bytes = 8 := by
  cases hi : P.info? t with
  | none => rw [hi] at h; cases h
  | some i =>
    rw [hi] at h
    simp only [Option.map_some, Option.some.injEq, Prod.mk.injEq] at h
    exact ⟨i, rfl, h.1, h.2.1, h.2.2⟩

def OfR (b : Bx) (t : Int) (base : Nat) (w' : World) (e : Ending) : Prop := ∃ v, e = .returned v ∧ w'.ownsRow base 3 1 v (selL b.o.f (t + 1) b.o.n).length (vals (selL b.o.f (t + 1) b.o.n))

set_option maxRecDepth 100000 in
set_option maxHeartbeats 8000000 in
theorem rooms_in (b : Bx) (t : Int) (w : World) (h : b.At w) (hok : OkP b) (h0 : 0 ≤ t) (h1 : t < b.s) :
    Calls Try.prog 45 #[.agg b.cells.toArray, .int .i64 t] w fun e w' => OfR b t (w.heap.size + 1) w' e ∧ Below w.heap.size w w' := by
  obtain ⟨n1, n2, n3, n4, n5⟩ := hok.nums
  have s4 : b.s ≤ 4 := hok.1.1.2.1
  obtain ⟨i0, hi0, hz0, hz1, hz2⟩ := int_parts infoInt
  have E : Ent w b (w.alloc (.cells #[.int .i64 b.s, .slice b.p.a b.p.n b.p.c, .slice b.h0.a b.h0.n b.h0.c, .slice b.h1.a b.h1.n b.h1.c, .slice b.h2.a b.h2.n b.h2.c, .slice b.h3.a b.h3.n b.h3.c, .slice b.o.a b.o.n b.o.c, .slice b.i.a b.i.n b.i.c, .slice b.e.a b.e.n b.e.c] 26)) := Ent.start h 26
  clear hok
  simp only [Bx.cells]
  go_enter Try.func45, Try.ntmps45
  go_wp2_with (fail)
  generalize w.alloc (.cells #[.int .i64 b.s, .slice b.p.a b.p.n b.p.c, .slice b.h0.a b.h0.n b.h0.c, .slice b.h1.a b.h1.n b.h1.c, .slice b.h2.a b.h2.n b.h2.c, .slice b.h3.a b.h3.n b.h3.c, .slice b.o.a b.o.n b.o.c, .slice b.i.a b.i.n b.i.c, .slice b.e.a b.e.n b.e.c] 26) = W at E ⊢
  refine (isslot_any b t W).mono ?_
  rintro e w1 ⟨⟨r, rfl, hr⟩, hb⟩
  replace E := E.later hb
  clear hb
  cases r
  · exact absurd ⟨h0, h1⟩ hr.f
  clear hr
  obtain ⟨u0, u1, u2, u3, u4, u5, u6, u7, u8⟩ := nine E.r
  go_wp2_with (fail)
  clear u0 u1 u2 u3 u4 u5 u6 u7 u8
  go_loopw [5, 16] (fun v i wr => ∃ u : Nat, u ≤ b.o.n ∧ i = .int .i64 u ∧ wr.ownsRow (w.heap.size + 1) 3 1 v (selL b.o.f (t + 1) u).length (vals (selL b.o.f (t + 1) u)) ∧ Ent w b wr) (fun _ i _ => b.o.n - (intOf i).toNat)
  case atStart => exact ⟨0, by omega, rfl, ⟨rfl, .inl ⟨rfl, rfl⟩⟩, E⟩
  case round =>
    obtain ⟨u, hu, rfl, ho, F⟩ := hrel
    clear E
    by_cases lt : (u : Int) < b.o.n
    · obtain ⟨k, o, ea, hc⟩ := F.a.o.cells (by omega)
      have c1 := hc u (by omega)
      rw [ea]
      have EA : Hid (b.o.a = some ⟨k, o, none⟩) := ea
      clear ea hc
      have ll := selL_len b.o.f (t + 1) u
      have out := own_out ho (Nat.lt_succ_self w.heap.size)
      have OUT : Hid (∀ g, u5.ownBlock = some g → w.heap.size < g) := out
      clear out
      have HO : Hid (wr.ownsRow (w.heap.size + 1) 3 1 u5 (selL b.o.f (t + 1) u).length (vals (selL b.o.f (t + 1) u))) := ho
      clear ho
      by_cases e : b.o.f u = t + 1
      · have SE : Hid (selL b.o.f (t + 1) (u + 1) = selL b.o.f (t + 1) u ++ [(u : Int)]) := by unfold Hid; simp only [selL, if_pos e]
        rw [e] at c1
        clear e
        generalize selL b.o.f (t + 1) u = L at HO ll SE
        have fl := F.lt
        go_wp2_with (refine wpList_append_own _ rfl _ _ 23 rfl (w.heap.size + 1) 3 i0 (.int .i64 0) 1 8 Try.underlying23 hi0 hz0 hz1 hz2 rfl (by decide) _ L.length (vals L) rfl (HO.out.alloc _) ⟨wr.heap.size, 0, none⟩ 1 1 [.int .i64 u] rfl rfl (one_int wr 3 u) (by intro u hu; simp at hu; subst hu; rfl) (by unfold maxLen; omega) (by omega) (by simp; omega) ?_)
        intro v' w4 hown hgrow hiff
        have G := (F.later (below1 wr (.cells #[.int .i64 u] 3))).grown h hgrow OUT.out
        have HO2 : Hid (w4.ownsRow (w.heap.size + 1) 3 1 v' (selL b.o.f (t + 1) (u + 1)).length (vals (selL b.o.f (t + 1) (u + 1)))) := by
          unfold Hid
          rw [SE.out]
          simpa [vals] using hown
        clear hown hgrow hiff HO SE OUT F fl
        go_wp2_with (fail)
        go_roundw
        case rel => exact ⟨u + 1, by omega, by go_num, HO2.out, G⟩
        case measure => simp [intOf]; omega
      · have HO2 : Hid (wr.ownsRow (w.heap.size + 1) 3 1 u5 (selL b.o.f (t + 1) (u + 1)).length (vals (selL b.o.f (t + 1) (u + 1)))) := by
          unfold Hid
          simp only [selL, if_neg e]
          exact HO.out
        have eb : (b.o.f u == t + 1) = false := by simp [e]
        clear HO OUT e
        go_wp2_with (fail)
        go_roundw
        case rel => exact ⟨u + 1, by omega, by go_num, HO2.out, F⟩
        case measure => simp [intOf]; omega
    · have eu : u = b.o.n := by omega
      have HO2 : Hid (wr.ownsRow (w.heap.size + 1) 3 1 u5 (selL b.o.f (t + 1) b.o.n).length (vals (selL b.o.f (t + 1) b.o.n))) := by unfold Hid; rw [← eu]; exact ho
      clear eu ho
      go_wp2_with (fail)
      go_ret
      exact ⟨⟨_, rfl, HO2.out⟩, F.b⟩

end Go.Proofs.Ytoloaghjgheomaa.Book

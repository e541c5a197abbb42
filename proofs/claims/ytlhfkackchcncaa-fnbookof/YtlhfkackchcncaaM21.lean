import Derived.Test.YtlhfkackchcncaaM11
import Derived.Test.YtlhfkackchcncaaM5
import Derived.Laws.AppendOwn

/- The rooms of a slot, by the program. -/
namespace Go.Proofs.Ytlhfkackchcncaa.Book
open Go.ChangeShapes Go.WideShapes Go.ChangeAt Go.RowKit
open Go.Proofs.Ytlhfkackchcncaa.Aid Go.Proofs.Ytlhfkackchcncaa.Lst
set_option maxRecDepth 100000
set_option linter.unusedVariables false

def selL (o : Nat → Int) (t : Int) : Nat → List Int
  | 0 => []
  | n + 1 => if o n = t then selL o t n ++ [(n : Int)] else selL o t n
theorem selL_len (o : Nat → Int) (t : Int) : ∀ n, (selL o t n).length ≤ n
  | 0 => Nat.le_refl _
  | n + 1 => by
    have := selL_len o t n
    simp only [selL]
    split
    · simp; omega
    · omega
def vals (l : List Int) : List Value := l.map (Value.int .i64)

theorem own_out {w : World} {base n B : Nat} {e : TypeId} {v : Value} {xs : List Value} (h : w.ownsRow base e 1 v n xs) (hB : B < base) : ∀ g, v.ownBlock = some g → B < g := by
  obtain ⟨_, ⟨rfl, _⟩ | ⟨g, cap, cur, rfl, hb, _⟩⟩ := h
  · intro g hg; cases hg
  · intro g' hg
    simp only [Value.ownBlock, Option.some.injEq] at hg
    omega
theorem Ent.grown {w : World} {b : Bx} {W W1 : World} {row : Option Nat} (E : Ent w b W) (h : b.At w) (hg : W.grownBy W1 row) (hr : ∀ g, row = some g → w.heap.size < g) : Ent w b W1 := by
  have hb : Below w.heap.size w W1 := ⟨hg.os.trans E.b.os, hg.tape.trans E.b.tape, hg.output.trans E.b.output, Nat.le_trans E.b.size hg.size, fun k hk => (hg.block k (Nat.lt_of_lt_of_le hk E.b.size) (fun e => by have := hr k e.symm; omega)).trans (E.b.block k hk)⟩
  refine ⟨fun j x hx => ?_, h.later hb, hb, Nat.lt_of_lt_of_le E.lt hg.size⟩
  exact hg.cell (E.r j x hx) (fun e => by have := hr w.heap.size e.symm; omega)
theorem one_int (w : World) (t : TypeId) (x : Int) : ∀ j u, ([.int .i64 x] : List Value)[j]? = some u → (w.alloc (.cells #[.int .i64 x] t)).cell? ((⟨w.heap.size, 0, none⟩ : Addr).add j) = some u := fun j u hu => by
  match j, hu with
  | 0, hu => simp at hu; subst hu; rw [Addr.add_mid, cell_of_row _ _ _ _ _ _ (heap1_0 w _)]; rfl
theorem int_parts {P : Program} {t : TypeId} (h : (P.info? t).map (fun i => (i.zero, i.size, i.bytes)) = some (some (.int .i64 0), 1, 8)) : ∃ i, P.info? t = some i ∧ i.zero = some (.int .i64 0) ∧ i.size = 1 ∧ i.bytes = 8 := by
  cases hi : P.info? t with
  | none => rw [hi] at h; cases h
  | some i =>
    rw [hi] at h
    simp only [Option.map_some, Option.some.injEq, Prod.mk.injEq] at h
    exact ⟨i, rfl, h.1, h.2.1, h.2.2⟩

def OfR (b : Bx) (t : Int) (base : Nat) (w' : World) (e : Ending) : Prop := ∃ v, e = .returned v ∧ w'.ownsRow base 3 1 v (selL b.o.f (t + 1) b.o.n).length (vals (selL b.o.f (t + 1) b.o.n))

set_option maxRecDepth 100000 in
set_option maxHeartbeats 8000000 in
theorem rooms_in (b : Bx) (t : Int) (w : World) (h : b.At w) (hok : OkP b) (h0 : 0 ≤ t) (h1 : t < b.s) :
    Calls Try.prog 20 #[.agg b.cells.toArray, .int .i64 t] w fun e w' => OfR b t (w.heap.size + 1) w' e ∧ Below w.heap.size w w' := by
  obtain ⟨n1, n2, n3, n4, n5⟩ := hok.nums
  have s4 : b.s ≤ 4 := hok.1.1.2.1
  obtain ⟨i0, hi0, hz0, hz1, hz2⟩ := int_parts infoInt
  have E : Ent w b (w.alloc (.cells #[.int .i64 b.s, .slice b.p.a b.p.n b.p.c, .slice b.h0.a b.h0.n b.h0.c, .slice b.h1.a b.h1.n b.h1.c, .slice b.h2.a b.h2.n b.h2.c, .slice b.h3.a b.h3.n b.h3.c, .slice b.o.a b.o.n b.o.c, .slice b.i.a b.i.n b.i.c, .slice b.e.a b.e.n b.e.c] 26)) := Ent.start h 26
  clear hok
  simp only [Bx.cells]
  go_enter Try.func20, Try.ntmps20
  go_wp2_with (fail)
  generalize w.alloc (.cells #[.int .i64 b.s, .slice b.p.a b.p.n b.p.c, .slice b.h0.a b.h0.n b.h0.c, .slice b.h1.a b.h1.n b.h1.c, .slice b.h2.a b.h2.n b.h2.c, .slice b.h3.a b.h3.n b.h3.c, .slice b.o.a b.o.n b.o.c, .slice b.i.a b.i.n b.i.c, .slice b.e.a b.e.n b.e.c] 26) = W at E ⊢
  refine (isslot_any b t W).mono ?_
  rintro e w1 ⟨⟨r, rfl, hr⟩, hb⟩
  replace E := E.later hb
  clear hb
  cases r
  · exact absurd ⟨h0, h1⟩ hr.f
  clear hr
  obtain ⟨u0, u1, u2, u3, u4, u5, u6, u7, u8⟩ := nine E.r
  go_wp2_with (fail)
  clear u0 u1 u2 u3 u4 u5 u6 u7 u8
  go_loopw [5, 16] (fun v i wr => ∃ u : Nat, u ≤ b.o.n ∧ i = .int .i64 u ∧ wr.ownsRow (w.heap.size + 1) 3 1 v (selL b.o.f (t + 1) u).length (vals (selL b.o.f (t + 1) u)) ∧ Ent w b wr) (fun _ i _ => b.o.n - (intOf i).toNat)
  case atStart => exact ⟨0, by omega, rfl, ⟨rfl, .inl ⟨rfl, rfl⟩⟩, E⟩
  case round =>
    obtain ⟨u, hu, rfl, ho, F⟩ := hrel
    clear E
    by_cases lt : (u : Int) < b.o.n
    · obtain ⟨k, o, ea, hc⟩ := F.a.o.cells (by omega)
      have c1 := hc u (by omega)
      rw [ea]
      have EA : Hid (b.o.a = some ⟨k, o, none⟩) := ea
      clear ea hc
      have ll := selL_len b.o.f (t + 1) u
      have out := own_out ho (Nat.lt_succ_self w.heap.size)
      have OUT : Hid (∀ g, u5.ownBlock = some g → w.heap.size < g) := out
      clear out
      have HO : Hid (wr.ownsRow (w.heap.size + 1) 3 1 u5 (selL b.o.f (t + 1) u).length (vals (selL b.o.f (t + 1) u))) := ho
      clear ho
      by_cases e : b.o.f u = t + 1
      · have SE : Hid (selL b.o.f (t + 1) (u + 1) = selL b.o.f (t + 1) u ++ [(u : Int)]) := by unfold Hid; simp only [selL, if_pos e]
        rw [e] at c1
        clear e
        generalize selL b.o.f (t + 1) u = L at HO ll SE
        have fl := F.lt
        go_wp2_with (refine wpList_append_own _ rfl _ _ 23 rfl (w.heap.size + 1) 3 i0 (.int .i64 0) 1 8 Try.underlying23 hi0 hz0 hz1 hz2 rfl (by decide) _ L.length (vals L) rfl (HO.out.alloc _) ⟨wr.heap.size, 0, none⟩ 1 1 [.int .i64 u] rfl rfl (one_int wr 3 u) (by intro u hu; simp at hu; subst hu; rfl) (by unfold maxLen; omega) (by omega) (by simp; omega) ?_)
        intro v' w4 hown hgrow hiff
        have G := (F.later (below1 wr (.cells #[.int .i64 u] 3))).grown h hgrow OUT.out
        have HO2 : Hid (w4.ownsRow (w.heap.size + 1) 3 1 v' (selL b.o.f (t + 1) (u + 1)).length (vals (selL b.o.f (t + 1) (u + 1)))) := by
          unfold Hid
          rw [SE.out]
          simpa [vals] using hown
        clear hown hgrow hiff HO SE OUT F fl
        go_wp2_with (fail)
        go_roundw
        case rel => exact ⟨u + 1, by omega, by go_num, HO2.out, G⟩
        case measure => simp [intOf]; omega
      · have HO2 : Hid (wr.ownsRow (w.heap.size + 1) 3 1 u5 (selL b.o.f (t + 1) (u + 1)).length (vals (selL b.o.f (t + 1) (u + 1)))) := by
          unfold Hid
          simp only [selL, if_neg e]
          exact HO.out
        have eb : (b.o.f u == t + 1) = false := by simp [e]
        clear HO OUT e
        go_wp2_with (fail)
        go_roundw
        case rel => exact ⟨u + 1, by omega, by go_num, HO2.out, F⟩
        case measure => simp [intOf]; omega
    · have eu : u = b.o.n := by omega
      have HO2 : Hid (wr.ownsRow (w.heap.size + 1) 3 1 u5 (selL b.o.f (t + 1) b.o.n).length (vals (selL b.o.f (t + 1) b.o.n))) := by unfold Hid; rw [← eu]; exact ho
      clear eu ho
      go_wp2_with (fail)
      go_ret
      exact ⟨⟨_, rfl, HO2.out⟩, F.b⟩

end Go.Proofs.Ytlhfkackchcncaa.Book

/- BookOf, of both. -/
namespace Go.Proofs.Ytlhfkackchcncaa.Book
open Go.ChangeShapes Go.WideShapes Go.ChangeAt Go.RowKit
open Go.Proofs.Ytlhfkackchcncaa.Aid Go.Proofs.Ytlhfkackchcncaa.Lst
set_option maxRecDepth 100000
set_option linter.unusedVariables false

/- The rooms of a slot of a book. -/
def OfL (b : Bx) (t : Int) (L : List Int) : Prop := (OkP b ∧ ((0 ≤ t ∧ t < b.s) ∧ L = selL b.o.f (t + 1) b.o.n ∨ ¬ (0 ≤ t ∧ t < b.s) ∧ L = [])) ∨ (¬ OkP b ∧ L = [])
theorem ofl_one {b : Bx} {t : Int} {L M : List Int} (h : OfL b t L) (g : OfL b t M) : L = M := by
  rcases h with ⟨h, ⟨h1, rfl⟩ | ⟨h1, rfl⟩⟩ | ⟨h, rfl⟩ <;> rcases g with ⟨g, ⟨g1, rfl⟩ | ⟨g1, rfl⟩⟩ | ⟨g, rfl⟩
  · rfl
  · exact absurd h1 g1
  · exact absurd h g
  · exact absurd g1 h1
  · rfl
  · exact absurd h g
  · exact absurd g h
  · exact absurd g h
  · rfl
theorem ofl_m {b c : Bx} (h : b.m = c.m) (t : Int) (L : List Int) : OfL b t L ↔ OfL c t L := by
  have e := norm_m h
  have es : b.s = c.s := congrArg (·.s) e
  have ef : b.o.f = c.o.f := congrArg (·.o.f) e
  have en : b.o.n = c.o.n := congrArg (·.o.n) e
  unfold OfL
  rw [ok_m h, es, ef, en]

def OfQ (b : Bx) (t : Int) (base : Nat) (w' : World) (e : Ending) : Prop := ∃ v L, e = .returned v ∧ w'.ownsRow base 3 1 v L.length (vals L) ∧ OfL b t L

set_option maxRecDepth 100000 in
set_option maxHeartbeats 8000000 in
theorem rooms_out (b : Bx) (t : Int) (w : World) (h : b.At w) (ht : ¬ (0 ≤ t ∧ t < b.s)) :
    Calls Try.prog 20 #[.agg b.cells.toArray, .int .i64 t] w fun e w' => e = .returned (.slice none 0 0) ∧ Below w.heap.size w w' := by
  have E : Ent w b (w.alloc (.cells #[.int .i64 b.s, .slice b.p.a b.p.n b.p.c, .slice b.h0.a b.h0.n b.h0.c, .slice b.h1.a b.h1.n b.h1.c, .slice b.h2.a b.h2.n b.h2.c, .slice b.h3.a b.h3.n b.h3.c, .slice b.o.a b.o.n b.o.c, .slice b.i.a b.i.n b.i.c, .slice b.e.a b.e.n b.e.c] 26)) := Ent.start h 26
  simp only [Bx.cells]
  go_enter Try.func20, Try.ntmps20
  go_wp2_with (fail)
  generalize w.alloc (.cells #[.int .i64 b.s, .slice b.p.a b.p.n b.p.c, .slice b.h0.a b.h0.n b.h0.c, .slice b.h1.a b.h1.n b.h1.c, .slice b.h2.a b.h2.n b.h2.c, .slice b.h3.a b.h3.n b.h3.c, .slice b.o.a b.o.n b.o.c, .slice b.i.a b.i.n b.i.c, .slice b.e.a b.e.n b.e.c] 26) = W at E ⊢
  refine (isslot_any b t W).mono ?_
  rintro e w1 ⟨⟨r, rfl, hr⟩, hb⟩
  replace E := E.later hb
  clear hb
  cases r
  · go_wp2_with (fail)
    go_ret
    exact ⟨rfl, E.b⟩
  · exact absurd hr.t ht

set_option maxRecDepth 100000 in
set_option maxHeartbeats 8000000 in
theorem of_any (b : Bx) (t : Int) (w : World) (h : b.At w) (hn : b.total ≤ 1000000000) (hcap : b.o.n ≤ b.o.c) :
    Calls Try.prog 7 #[.agg b.cells.toArray, .int .i64 t] w fun e w' => OfQ b t w.heap.size w' e ∧ Below w.heap.size w w' := by
  have E : Ent w b (w.alloc (.cells #[.int .i64 b.s, .slice b.p.a b.p.n b.p.c, .slice b.h0.a b.h0.n b.h0.c, .slice b.h1.a b.h1.n b.h1.c, .slice b.h2.a b.h2.n b.h2.c, .slice b.h3.a b.h3.n b.h3.c, .slice b.o.a b.o.n b.o.c, .slice b.i.a b.i.n b.i.c, .slice b.e.a b.e.n b.e.c] 26)) := Ent.start h 26
  simp only [Bx.cells]
  go_enter Try.func7, Try.ntmps7
  go_wp2_with (fail)
  generalize w.alloc (.cells #[.int .i64 b.s, .slice b.p.a b.p.n b.p.c, .slice b.h0.a b.h0.n b.h0.c, .slice b.h1.a b.h1.n b.h1.c, .slice b.h2.a b.h2.n b.h2.c, .slice b.h3.a b.h3.n b.h3.c, .slice b.o.a b.o.n b.o.c, .slice b.i.a b.i.n b.i.c, .slice b.e.a b.e.n b.e.c] 26) = W at E ⊢
  refine (ok_any b W E.a hn hcap).mono ?_
  rintro e w1 ⟨⟨r, rfl, hr⟩, hb⟩
  replace E := E.later hb
  clear hb
  cases r
  · go_wp2_with (fail)
    go_ret
    exact ⟨⟨_, [], rfl, ⟨rfl, .inl ⟨rfl, rfl⟩⟩, .inr ⟨hr.f, rfl⟩⟩, E.b⟩
  have OK : Hid (OkP b) := hr.t
  clear hr
  obtain ⟨u0, u1, u2, u3, u4, u5, u6, u7, u8⟩ := nine E.r
  go_wp2_with (fail)
  by_cases ht : 0 ≤ t ∧ t < b.s
  · refine (rooms_in b t _ E.a OK.out ht.1 ht.2).mono ?_
    rintro e w2 ⟨⟨v, rfl, ho⟩, hb⟩
    have F := E.later hb
    have zz := E.b.size
    go_wp2_with (fail)
    go_ret
    refine ⟨⟨v, selL b.o.f (t + 1) b.o.n, rfl, ⟨ho.1, ?_⟩, .inl ⟨OK.out, .inl ⟨ht, rfl⟩⟩⟩, F.b⟩
    rcases ho.2 with g | ⟨g, cap, cur, e, hb, r⟩
    · exact .inl g
    · exact .inr ⟨g, cap, cur, e, by omega, r⟩
  · refine (rooms_out b t _ E.a ht).mono ?_
    rintro e w2 ⟨rfl, hb⟩
    have F := E.later hb
    go_wp2_with (fail)
    go_ret
    exact ⟨⟨_, [], rfl, ⟨rfl, .inl ⟨rfl, rfl⟩⟩, .inl ⟨OK.out, .inr ⟨ht, rfl⟩⟩⟩, F.b⟩

end Go.Proofs.Ytlhfkackchcncaa.Book

/- BookOf of the specification. -/
namespace Go.Proofs.Ytlhfkackchcncaa.Book
open Go.ChangeShapes Go.WideShapes Go.ChangeAt Go.RowKit
open Go.Proofs.Ytlhfkackchcncaa.Aid Go.Proofs.Ytlhfkackchcncaa.Lst
set_option maxRecDepth 100000
set_option linter.unusedVariables false

def selQ (b : Bx) (t : Int) (u : Nat) : List Int := if 0 ≤ t ∧ t < b.s then selL b.o.f (t + 1) u else []
theorem selQ_len (b : Bx) (t : Int) (u : Nat) : (selQ b t u).length ≤ u := by
  unfold selQ
  split
  · exact selL_len _ _ _
  · exact Nat.zero_le _
theorem selQ_no (b : Bx) (t : Int) (u : Nat) (h : ¬ ((0 ≤ t ∧ t < b.s) ∧ b.o.f u = t + 1)) : selQ b t (u + 1) = selQ b t u := by
  unfold selQ
  split
  · rename_i g
    simp only [selL]
    rw [if_neg (fun e => h ⟨g, e⟩)]
  · rfl
theorem selQ_yes (b : Bx) (t : Int) (u : Nat) (g : 0 ≤ t ∧ t < b.s) (e : b.o.f u = t + 1) : selQ b t (u + 1) = selQ b t u ++ [(u : Int)] := by
  unfold selQ
  rw [if_pos g, if_pos g]
  simp only [selL]
  rw [if_pos e]
theorem own_later {w w1 : World} {base n : Nat} {e : TypeId} {v : Value} {xs : List Value} (h : w.ownsRow base e 1 v n xs) (hb : Below w.heap.size w w1) : w1.ownsRow base e 1 v n xs := by
  obtain ⟨q, g | ⟨g, cap, cur, e, hb', hg, r⟩⟩ := h
  · exact ⟨q, .inl g⟩
  · have hlt : g < w.heap.size := Nat.lt_of_not_le fun hle => by rw [Array.getElem?_eq_none hle] at hg; cases hg
    exact ⟨q, .inr ⟨g, cap, cur, e, hb', by rw [hb.block g hlt]; exact hg, r⟩⟩

set_option maxRecDepth 100000 in
set_option maxHeartbeats 16000000 in
theorem sof_any (b : Bx) (t : Int) (w : World) (h : b.At w) (hn : b.total ≤ 1000000000) (hw : b.Wf) (t0 : -9223372036854775808 ≤ t) (t1 : t ≤ 9223372036854775807) :
    Calls Try.prog 8 #[.agg b.cells.toArray, .int .i64 t] w fun e w' => OfQ b t w.heap.size w' e ∧ Below w.heap.size w w' := by
  obtain ⟨i0, hi0, hz0, hz1, hz2⟩ := int_parts infoInt
  have E : Ent w b ((w.alloc (.cells #[.int .i64 b.s, .slice b.p.a b.p.n b.p.c, .slice b.h0.a b.h0.n b.h0.c, .slice b.h1.a b.h1.n b.h1.c, .slice b.h2.a b.h2.n b.h2.c, .slice b.h3.a b.h3.n b.h3.c, .slice b.o.a b.o.n b.o.c, .slice b.i.a b.i.n b.i.c, .slice b.e.a b.e.n b.e.c] 26)).alloc (.cells #[] 3)) := (Ent.start h 26).later (below1 _ _)
  have O : ((w.alloc (.cells #[.int .i64 b.s, .slice b.p.a b.p.n b.p.c, .slice b.h0.a b.h0.n b.h0.c, .slice b.h1.a b.h1.n b.h1.c, .slice b.h2.a b.h2.n b.h2.c, .slice b.h3.a b.h3.n b.h3.c, .slice b.o.a b.o.n b.o.c, .slice b.i.a b.i.n b.i.c, .slice b.e.a b.e.n b.e.c] 26)).alloc (.cells #[] 3)).ownsRow (w.heap.size + 1) 3 1 (.slice (some ⟨w.heap.size + 1, 0, none⟩) 0 0) 0 [] := ⟨rfl, .inr ⟨w.heap.size + 1, 0, #[], rfl, Nat.le_refl _, heap2_1 w _ _, Nat.le_refl _, Nat.zero_le _, rfl, rfl⟩⟩
  simp only [Bx.cells]
  go_enter Try.func8, Try.ntmps8
  go_wp2_with (fail)
  generalize (w.alloc (.cells #[.int .i64 b.s, .slice b.p.a b.p.n b.p.c, .slice b.h0.a b.h0.n b.h0.c, .slice b.h1.a b.h1.n b.h1.c, .slice b.h2.a b.h2.n b.h2.c, .slice b.h3.a b.h3.n b.h3.c, .slice b.o.a b.o.n b.o.c, .slice b.i.a b.i.n b.i.c, .slice b.e.a b.e.n b.e.c] 26)).alloc (.cells #[] 3) = W at E O ⊢
  by_cases ok : OkP b
  case neg =>
    refine wp_loop_rounds 1 ?_
    rw [rounds_succ]
    obtain ⟨u0, u1, u2, u3, u4, u5, u6, u7, u8⟩ := nine E.r
    go_wp2_with (fail)
    refine (sok_any b W E.a hn hw).mono ?_
    rintro e w1 ⟨⟨r, rfl, hr⟩, hb⟩
    have O1 : w1.ownsRow (w.heap.size + 1) 3 1 (.slice (some ⟨w.heap.size + 1, 0, none⟩) 0 0) 0 [] := by
      obtain ⟨q, ⟨e, _⟩ | ⟨g, cap, cur, e, hb', hg, r⟩⟩ := O
      · cases e
      · have hlt : g < W.heap.size := Nat.lt_of_not_le fun hle => by rw [Array.getElem?_eq_none hle] at hg; cases hg
        exact ⟨q, .inr ⟨g, cap, cur, e, hb', by rw [hb.block g hlt]; exact hg, r⟩⟩
    have F := E.later hb
    clear hb O E u0 u1 u2 u3 u4 u5 u6 u7 u8
    cases r
    · go_wp2_with (fail)
      go_ret
      refine ⟨⟨_, [], rfl, ⟨rfl, ?_⟩, .inr ⟨ok, rfl⟩⟩, F.b⟩
      rcases O1.2 with g | ⟨g, cap, cur, e, hb', r⟩
      · exact .inl g
      · exact .inr ⟨g, cap, cur, e, by omega, r⟩
    · exact absurd hr.t ok
  have OK : Hid (OkP b) := ok
  obtain ⟨n1, n2, n3, n4, n5⟩ := ok.nums
  have OW : Hid (OwnsP b b.o.n) := ok.1.2.2
  have s4 : b.s ≤ 4 := ok.1.1.2.1
  have s1 : 1 ≤ b.s := ok.1.1.1
  clear ok
  go_loopw [5, 6] (fun v i wr => ∃ u : Nat, u ≤ b.o.n ∧ i = .int .i64 u ∧ wr.ownsRow (w.heap.size + 1) 3 1 v (selQ b t u).length (vals (selQ b t u)) ∧ Ent w b wr) (fun _ i _ => b.o.n - (intOf i).toNat)
  case atStart =>
    have e0 : selQ b t 0 = [] := by unfold selQ; split <;> rfl
    exact ⟨0, by omega, rfl, by rw [e0]; exact O, E⟩
  case round =>
    obtain ⟨u, hu, rfl, ho, F⟩ := hrel
    clear E O
    have HO : Hid (wr.ownsRow (w.heap.size + 1) 3 1 u5 (selQ b t u).length (vals (selQ b t u))) := ho
    clear ho
    obtain ⟨u0, u1, u2, u3, u4, u5', u6', u7, u8⟩ := nine F.r
    go_wp2_with (fail)
    refine (sok_any b wr F.a hn hw).mono ?_
    rintro e w1 ⟨⟨r, rfl, hr⟩, hb⟩
    have HO1 : Hid (w1.ownsRow (w.heap.size + 1) 3 1 u5 (selQ b t u).length (vals (selQ b t u))) := own_later HO.out hb
    have G := F.later hb
    clear hb F HO u0 u1 u2 u3 u4 u5' u6' u7 u8
    cases r
    · exact absurd OK.out hr.f
    clear hr
    obtain ⟨-, -, -, -, -, -, v6, -, -⟩ := nine G.r
    by_cases lt : (u : Int) < b.o.n
    · obtain ⟨k, o, ea, hc⟩ := G.a.o.cells (by omega)
      have c1 := hc u (by omega)
      rw [ea] at v6
      clear ea hc
      have ll := selQ_len b t u
      obtain ⟨w0', w1', w2'⟩ := OW.out u (by omega)
      clear w2'
      have OUT : Hid (∀ g, u5.ownBlock = some g → w.heap.size < g) := own_out HO1.out (Nat.lt_succ_self w.heap.size)
      by_cases ta : t < 0
      · have tb : ¬ t ≥ 0 := by omega
        by_cases e : b.o.f u = t + 1
        · have HO2 : Hid (w1.ownsRow (w.heap.size + 1) 3 1 u5 (selQ b t (u + 1)).length (vals (selQ b t (u + 1)))) := by
            unfold Hid
            rw [selQ_no b t u (by omega)]
            exact HO1.out
          clear HO1 OUT
          go_wp2_with (fail)
          go_roundw
          case rel => exact ⟨u + 1, by omega, by go_num, HO2.out, G⟩
          case measure => simp [intOf]; omega
        · have eb : (b.o.f u == t + 1) = false := by simp [e]
          have HO2 : Hid (w1.ownsRow (w.heap.size + 1) 3 1 u5 (selQ b t (u + 1)).length (vals (selQ b t (u + 1)))) := by
            unfold Hid
            rw [selQ_no b t u (by omega)]
            exact HO1.out
          clear HO1 OUT
          go_wp2_with (fail)
          go_roundw
          case rel => exact ⟨u + 1, by omega, by go_num, HO2.out, G⟩
          case measure => simp [intOf]; omega
      · by_cases tc : t < b.s
        · by_cases e : b.o.f u = t + 1
          · have SE : Hid (selQ b t (u + 1) = selQ b t u ++ [(u : Int)]) := selQ_yes b t u ⟨by omega, tc⟩ e
            rw [e] at c1
            clear e
            generalize selQ b t u = L at HO1 ll SE
            have fl := G.lt
            go_wp2_with (refine wpList_append_own _ rfl _ _ 23 rfl (w.heap.size + 1) 3 i0 (.int .i64 0) 1 8 Try.underlying23 hi0 hz0 hz1 hz2 rfl (by decide) _ L.length (vals L) rfl (HO1.out.alloc _) ⟨w1.heap.size, 0, none⟩ 1 1 [.int .i64 u] rfl rfl (one_int w1 3 u) (by intro u hu; simp at hu; subst hu; rfl) (by unfold maxLen; omega) (by omega) (by simp; omega) ?_)
            intro v' w4 hown hgrow hiff
            have G2 := (G.later (below1 w1 (.cells #[.int .i64 u] 3))).grown h hgrow OUT.out
            have HO2 : Hid (w4.ownsRow (w.heap.size + 1) 3 1 v' (selQ b t (u + 1)).length (vals (selQ b t (u + 1)))) := by
              unfold Hid
              rw [SE.out]
              simpa [vals] using hown
            clear hown hgrow hiff HO1 SE OUT G fl
            go_wp2_with (fail)
            go_roundw
            case rel => exact ⟨u + 1, by omega, by go_num, HO2.out, G2⟩
            case measure => simp [intOf]; omega
          · have eb : (b.o.f u == t + 1) = false := by simp [e]
            have HO2 : Hid (w1.ownsRow (w.heap.size + 1) 3 1 u5 (selQ b t (u + 1)).length (vals (selQ b t (u + 1)))) := by
              unfold Hid
              rw [selQ_no b t u (by omega)]
              exact HO1.out
            clear HO1 OUT
            go_wp2_with (fail)
            go_roundw
            case rel => exact ⟨u + 1, by omega, by go_num, HO2.out, G⟩
            case measure => simp [intOf]; omega
        · by_cases tm : t = 9223372036854775807
          · subst tm
            have eb : (b.o.f u == -9223372036854775808) = false := by simp; omega
            have wv : wrap64 9223372036854775808 = -9223372036854775808 := by unfold wrap64; omega
            have wv2 : wrap64 (9223372036854775807 + 1) = -9223372036854775808 := by unfold wrap64; omega
            have ne : ¬ b.o.f u = -9223372036854775808 := by omega
            have HO2 : Hid (w1.ownsRow (w.heap.size + 1) 3 1 u5 (selQ b 9223372036854775807 (u + 1)).length (vals (selQ b 9223372036854775807 (u + 1)))) := by
              unfold Hid
              rw [selQ_no b 9223372036854775807 u (by omega)]
              exact HO1.out
            clear HO1 OUT
            go_wp2_with (fail)
            go_roundw
            case rel => exact ⟨u + 1, by omega, by go_num, HO2.out, G⟩
            case measure => simp [intOf]; omega
          · have eb : (b.o.f u == t + 1) = false := by simp; omega
            have HO2 : Hid (w1.ownsRow (w.heap.size + 1) 3 1 u5 (selQ b t (u + 1)).length (vals (selQ b t (u + 1)))) := by
              unfold Hid
              rw [selQ_no b t u (by omega)]
              exact HO1.out
            clear HO1 OUT
            go_wp2_with (fail)
            go_roundw
            case rel => exact ⟨u + 1, by omega, by go_num, HO2.out, G⟩
            case measure => simp [intOf]; omega
    · have eu : u = b.o.n := by omega
      have HO2 : Hid (w1.ownsRow (w.heap.size + 1) 3 1 u5 (selQ b t b.o.n).length (vals (selQ b t b.o.n))) := by unfold Hid; rw [← eu]; exact HO1.out
      clear eu HO1
      go_wp2_with (fail)
      go_ret
      refine ⟨⟨_, selQ b t b.o.n, rfl, ⟨HO2.out.1, ?_⟩, .inl ⟨OK.out, ?_⟩⟩, G.b⟩
      · rcases HO2.out.2 with g | ⟨g, cap, cur, e, hb', r⟩
        · exact .inl g
        · exact .inr ⟨g, cap, cur, e, by omega, r⟩
      · unfold selQ
        by_cases g : 0 ≤ t ∧ t < b.s
        · rw [if_pos g]; exact .inl ⟨g, rfl⟩
        · rw [if_neg g]; exact .inr ⟨g, rfl⟩

end Go.Proofs.Ytlhfkackchcncaa.Book

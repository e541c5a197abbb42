import Derived.Test.YtbipolfbkemmpaaDoorM43
import Derived.Test.YtbipolfbkemmpaaDoorM23
import Derived.Test.YtbipolfbkemmpaaDoorM44
import Derived.Test.YtbipolfbkemmpaaDoorM6
import Derived.Test.YtbipolfbkemmpaaDoorM11

/- What the law of BookDo rests on. -/
namespace Go.Proofs.YtbipolfbkemmpaaDoor.Dra
open Go.ChangeShapes Go.WideShapes Go.ChangeAt Go.RowKit
open Aid Lst Book Rin
set_option maxRecDepth 100000
set_option linter.unusedVariables false
open Gs

theorem at_nil {b : Bx} {w : World} (h : b.At w) : ∀ x ∈ b.lists, x.a = none → x.n = 0 := fun x hx e => by
  rcases h x hx with q | ⟨k, o, e', _⟩
  · exact q
  · rw [e] at e'; cases e'
theorem trim_at {b : Bx} {w : World} (h : b.At w) : b.trim.At w := fun x hx => by
  simp only [Bx.trim, Bx.lists, List.mem_cons, List.not_mem_nil, or_false] at hx
  have key : ∀ z : Sx, z.At w → z.trim.At w := fun z hz => by
    rcases hz with q | ⟨k, o, e, g⟩
    · exact .inl q
    · refine .inr ⟨k, o, e, fun j hj => ?_⟩
      show _ = some (Value.int .i64 (if j < z.n then z.f j else 0))
      have hj' : j < z.n := hj
      rw [if_pos hj']
      exact g j hj'
  rcases hx with rfl | rfl | rfl | rfl | rfl | rfl | rfl | rfl
  all_goals exact key _ (h _ (by simp [Bx.lists]))

theorem sbq_m {b c d : Bx} {o : Ox} {x y : Int} (e : c.m = b.m) (h : SbQ c o d x y) : SbQ b o d x y := by
  rcases h with ⟨n, h⟩ | ⟨k, d0, e0, h⟩
  · exact .inl ⟨fun q => n ((ok_m e).2 q), h⟩
  · exact .inr ⟨(ok_m e).1 k, d0, e0.trans e, h⟩
theorem bdq_sb {b c g d : Bx} {o : Ox} {x y x' y' : Int} (e : c.m = b.m) (h : BdQ c o g x y) (hs : SbQ b o d x' y') : g.trim.m = d.trim.m ∧ x = x' ∧ y = y' := met_all h (sbq_m e.symm hs)
theorem sbq_total {b d : Bx} {o : Ox} {x y : Int} (h : SbQ b o d x y) : d.total ≤ 1000 := by
  rcases h with ⟨_, e, _⟩ | ⟨k, d0, e0, h⟩
  · simp only [noneM, none1, Bx.m, Bm.mk.injEq, Sx.m, Prod.mk.injEq] at e
    obtain ⟨_, ⟨h1, _⟩, ⟨h2, _⟩, ⟨h3, _⟩, ⟨h4, _⟩, ⟨h5, _⟩, ⟨h6, _⟩, ⟨h7, _⟩, ⟨h8, _⟩⟩ := e
    simp only [Bx.total]
    omega
  · exact ok_total (Book.do_ok ((ok_m e0).2 k) h)
theorem trim_total {g d : Bx} (e : g.trim.m = d.trim.m) : g.total = d.total := Book.total_m (x := g.trim) (y := d.trim) e

structure Sb (w v : World) (rs : List (Nat × List Value)) (bs : List Bx) (W : World) : Prop where
  st : St w rs bs W
  be : Below v.heap.size v W
theorem Sb.r {w v W : World} {rs : List (Nat × List Value)} {bs : List Bx} (h : Sb w v rs bs W) : ∀ p ∈ rs, W.rangeAt p.1 0 p.2 ∧ p.1 < W.heap.size := h.st.r
theorem Sb.a {w v W : World} {rs : List (Nat × List Value)} {bs : List Bx} (h : Sb w v rs bs W) : ∀ b ∈ bs, b.At W := h.st.a
theorem Sb.b {w v W : World} {rs : List (Nat × List Value)} {bs : List Bx} (h : Sb w v rs bs W) : Below w.heap.size w W := h.st.b
theorem Sb.later {w v W W1 : World} {rs : List (Nat × List Value)} {bs : List Bx} (h : Sb w v rs bs W) (hb : Below W.heap.size W W1) : Sb w v rs bs W1 := ⟨h.st.later hb, h.be.trans (hb.mono h.be.size)⟩
theorem Sb.drew {w v W : World} {rs : List (Nat × List Value)} {bs : List Bx} (h : Sb w v rs bs W) : Sb w v rs bs W.drew := h.later ⟨rfl, rfl, rfl, Nat.le_refl _, fun _ _ => rfl⟩
theorem Sb.refl {w v : World} {rs : List (Nat × List Value)} {bs : List Bx} (h : St w rs bs v) : Sb w v rs bs v := ⟨h, Below.refl _ _⟩
theorem Sb.only {w v W W1 : World} {rs rs0 : List (Nat × List Value)} {bs : List Bx} {B C : Nat} (h0 : St w rs0 bs v) (h : Sb w v rs bs W) (ho : Only B C W W1) (hB : v.heap.size ≤ B) (hr : ∀ p ∈ rs, p.1 < B ∨ C ≤ p.1) : Sb w v rs bs W1 :=
  have be : Below v.heap.size v W1 := ⟨ho.os.trans h.be.os, ho.tape.trans h.be.tape, ho.output.trans h.be.output, Nat.le_trans h.be.size ho.size, fun k hk => by rw [ho.block k (Nat.lt_of_lt_of_le hk h.be.size) (.inl (by omega)), h.be.block k hk]⟩
  ⟨⟨fun p hp => ⟨fun j x hx => by rw [ho.cell (h.r p hp).2 (hr p hp)]; exact (h.r p hp).1 j x hx, Nat.lt_of_lt_of_le (h.r p hp).2 ho.size⟩, fun b hb => (h0.a b hb).later be, h0.b.trans (be.mono h0.b.size)⟩, be⟩
theorem Sb.stored {w v W : World} {rs : List (Nat × List Value)} {bs : List Bx} {r : Nat} {cs : List Value} (h0 : St w rs bs v) (h : Sb w v rs bs W) (hr : v.heap.size ≤ r) (hz : r < W.heap.size) (th : W.there r 0 cs.length) : Sb w v rs bs (W.setCells r 0 cs) ∧ Sb w v ((r, cs) :: rs) bs (W.setCells r 0 cs) ∧ Only r (r + 1) W (W.setCells r 0 cs) := by
  have OY : Only r (r + 1) W (W.setCells r 0 cs) := only_setCells (Nat.le_refl _) (by omega) _ _ _ (Only.refl _ _ _)
  have g := Sb.only h0 h OY hr (fun p hp => .inl (Nat.lt_of_lt_of_le (h0.r p hp).2 hr))
  refine ⟨g, ⟨⟨fun p hp => ?_, g.st.a, g.st.b⟩, g.be⟩, OY⟩
  rcases List.mem_cons.1 hp with rfl | hp
  · exact ⟨World.rangeAt_setCells_same _ _ _ _ th, Nat.lt_of_lt_of_le hz OY.size⟩
  · exact g.st.r p hp
theorem Sb.base {w v v' W : World} {rs : List (Nat × List Value)} {bs bs' : List Bx} (h : Sb w v' rs bs' W) (hv : Below v.heap.size v v') (hs : v.heap.size ≤ v'.heap.size) (hb : ∀ b ∈ bs, b ∈ bs') : Sb w v rs bs W := ⟨h.st.take (fun _ q => q) hb, hv.trans (h.be.mono hs)⟩
theorem hl_off {d : Bx} {B r : Nat} {W W1 : World} (h : d.Hl B W) (OY : Only r (r + 1) W W1) (hn : ∀ i, d.Lies i → i ≠ r) : d.Hl B W1 := ⟨fun z hz => (h.each z hz).same OY.size (fun k o hc e => by
  have h1 := hn k ⟨z, hz, hc, o, e⟩
  exact OY.block k (h.lies ⟨z, hz, hc, o, e⟩).2 (by omega)), h.apart⟩
structure F5 (w : World) (rs : List (Nat × List Value)) (b0 : Bx) (o : Ox) (d : Bx) (x y : Int) (r : Nat) (W : World) : Prop where
  q : SbQ b0 o d x y
  s : St w ((r, d.cells) :: rs) [d, b0] W
  g : w.heap.size + 2 ≤ r
structure F7 (w v : World) (rs : List (Nat × List Value)) (bs : List Bx) (b0 : Bx) (o : Ox) (c g : Bx) (B C : Nat) (x y : Int) (r : Nat) (W : World) : Prop where
  m : c.m = b0.m
  q : BdQ c o g x y
  s : Sb w v ((r, g.cells) :: rs) bs W
  g : g.Own B C W
  vB : v.heap.size ≤ B
  BC : B ≤ C
  CW : C ≤ W.heap.size
  rr : r < B ∨ C ≤ r
  vr : v.heap.size ≤ r
theorem load_want {Pr : Program} {ops : Array Oper} {rest : List Oper} {op : Oper} {a : Act} {w : World} {Q : Exit → Act → World → Prop} (hw : Region.wanted op (yielded ops a.tmps) = true) (ty : TypeId) (x : Operand) (ho : op.op = .load ty x)
    (b o : Nat) (hx : a.eval x = .pointer (some ⟨b, o, none⟩)) (cs : List Value) (d : TypeDesc) (hc : w.rangeAt b o cs)
    (hu : Pr.underlying ty = some d) (hd : d.isRow = true) (hi : (Pr.info? ty).map (·.size) = some cs.length)
    (h : wpList Pr ops Q rest (a.put op.dst (.agg cs.toArray)) w) : wpList Pr ops Q (op :: rest) a w :=
  BigFrame.wpList_want hw fun _ hK => wp_load_mid ty x ho b o hx cs d hc hu hd hi (hK _ _ h)
theorem via5 {P : Program} {K : Code} {Q : Exit → Act → World → Prop} {a : Act} {w : World} (F : Bx → Bx → Int → Int → Nat → World → Prop) (act : Bx → Bx → Int → Int → Nat → Act) (leaves : (∀ c d x y r w', F c d x y r w' → Q .normal (act c d x y r) w') → K.wp P Q a w) (tail : ∀ c d x y r w', F c d x y r w' → Q .normal (act c d x y r) w') : K.wp P Q a w := leaves tail
theorem via6 {P : Program} {K : Code} {Q : Exit → Act → World → Prop} {a : Act} {w : World} (F : Bx → Nat → Nat → Int → Int → Nat → World → Prop) (act : Bx → Int → Int → Nat → Act) (leaves : (∀ d B C x y r w', F d B C x y r w' → Q .normal (act d x y r) w') → K.wp P Q a w) (tail : ∀ d B C x y r w', F d B C x y r w' → Q .normal (act d x y r) w') : K.wp P Q a w := leaves tail
theorem via7 {P : Program} {K : Code} {Q : Exit → Act → World → Prop} {a : Act} {w : World} (F : Bx → Bx → Nat → Nat → Int → Int → Nat → World → Prop) (act : Bx → Bx → Int → Int → Nat → Act) (leaves : (∀ c d B C x y r w', F c d B C x y r w' → Q .normal (act c d x y r) w') → K.wp P Q a w) (tail : ∀ c d B C x y r w', F c d B C x y r w' → Q .normal (act c d x y r) w') : K.wp P Q a w := leaves tail

open Aid Lst Book
set_option linter.unusedSimpArgs false
theorem sx_trim {x y : Sx} (e : x.trim.m = y.trim.m) : x.n = y.n ∧ ∀ j, j < x.n → x.f j = y.f j := by
  simp only [Sx.m, Sx.trim, Prod.mk.injEq] at e
  obtain ⟨e1, e2⟩ := e
  refine ⟨e1, fun j hj => ?_⟩
  have q : (if j < x.n then x.f j else 0) = (if j < y.n then y.f j else 0) := congrFun e2 j
  rw [if_pos hj, if_pos (by omega)] at q
  exact q
theorem bx_trim {x y : Bx} (e : x.trim.m = y.trim.m) : x.s = y.s ∧ x.p.trim.m = y.p.trim.m ∧ x.h0.trim.m = y.h0.trim.m ∧ x.h1.trim.m = y.h1.trim.m ∧ x.h2.trim.m = y.h2.trim.m ∧ x.h3.trim.m = y.h3.trim.m ∧ x.o.trim.m = y.o.trim.m ∧ x.i.trim.m = y.i.trim.m ∧ x.e.trim.m = y.e.trim.m := by
  simp only [Bx.m, Bx.trim, Bm.mk.injEq] at e
  exact e
theorem sameM_trim {x y : Bx} (e : x.trim.m = y.trim.m) : sameM x.m y.m = true := by
  obtain ⟨e0, e1, e2, e3, e4, e5, e6, e7, e8⟩ := bx_trim e
  have key : ∀ {a b : Sx}, a.trim.m = b.trim.m → eqL a.m b.m = true := fun h => by
    obtain ⟨h1, h2⟩ := sx_trim h
    unfold eqL
    exact decide_eq_true ⟨h1, h2⟩
  simp [sameM, Bx.m, key e1, key e2, key e3, key e4, key e5, key e6, key e7, key e8, e0]
theorem hd_trim {x y : Bx} (e : x.trim.m = y.trim.m) (k : Nat) : (x.hd k).trim.m = (y.hd k).trim.m := by
  obtain ⟨e0, e1, e2, e3, e4, e5, e6, e7, e8⟩ := bx_trim e
  unfold Bx.hd
  repeat' split
  all_goals assumption
theorem trim_m {b c : Bx} (e : b.m = c.m) : b.trim.m = c.trim.m := by
  simp only [Bx.m, Bm.mk.injEq, Sx.m, Prod.mk.injEq] at e
  obtain ⟨a0, ⟨a1, a2⟩, ⟨a3, a4⟩, ⟨a5, a6⟩, ⟨a7, a8⟩, ⟨a9, a10⟩, ⟨a11, a12⟩, ⟨a13, a14⟩, ⟨a15, a16⟩⟩ := e
  simp only [Bx.trim, Sx.trim, Bx.m, Sx.m, a0, a1, a2, a3, a4, a5, a6, a7, a8, a9, a10, a11, a12, a13, a14, a15, a16]

/- What a call's code may be, and what is so where it is not done. -/
theorem pag_code {b c : Bx} {t n : Nat} {x y : Int} (h : PagP b t n c x y) : x = 0 ∨ (x = 2 ∧ c = b) := by
  rcases h with ⟨p, _, _, _, _, h, _⟩ | ⟨_, h1, h2, _⟩
  · exact .inl h
  · exact .inr ⟨h2, h1⟩
theorem tak_code {b c : Bx} {t : Nat} {u x y : Int} (h : TakP b t u c x y) : x = 0 ∨ ((x = 1 ∨ x = 2) ∧ c = b) := by
  rcases h with ⟨_, h1, h2, _⟩ | ⟨_, h⟩ | ⟨k, _, _, ⟨_, _, h, _⟩ | ⟨_, _, h1, h2, _⟩ | ⟨_, p, _, _, _, _, h, _⟩⟩
  · exact .inr ⟨.inl h2, h1⟩
  · rcases pag_code h with h | ⟨h1, h2⟩
    · exact .inl h
    · exact .inr ⟨.inr h1, h2⟩
  · exact .inl h
  · exact .inr ⟨.inr h2, h1⟩
  · exact .inl h
theorem who_code {b : Bx} {s u r : Int} (h : WhoP b s u r) : r = 0 ∨ r = 3 ∨ r = 4 := by
  rcases h with ⟨_, h⟩ | ⟨_, ⟨_, h⟩ | ⟨_, h⟩⟩ <;> omega
theorem rea_code {b c : Bx} {s x y : Int} (h : ReaP b s c x y) : x = 0 ∨ x = 10 ∨ ((x = 8 ∨ x = 9) ∧ c = b) := by
  rcases h with ⟨_, h1, h2, _⟩ | ⟨t, _, _, _, ⟨_, h1, h2, _⟩ | ⟨_, ⟨_, _, h, _⟩ | ⟨A, _, _, _, _, h, _⟩⟩⟩
  · exact .inr (.inr ⟨.inr h2, h1⟩)
  · exact .inr (.inr ⟨.inl h2, h1⟩)
  · exact .inl h
  · exact .inr (.inl h)
theorem do_code {b c : Bx} {o : Ox} {x y : Int} (h : DoP b o c x y) : 0 ≤ x ∧ x ≤ 13 ∧ (x = 0 ∨ x = 10 ∨ c = b) := by
  rcases h with ⟨_, h1, h2, _⟩ | ⟨t, _, _, ⟨_, ⟨_, h1, h2, _⟩ | ⟨_, _, h1, h2, _⟩ | ⟨_, _, _, h2, _⟩⟩ | ⟨_, ⟨_, h1, h2, _⟩ | ⟨_, h⟩⟩⟩
  · exact ⟨by omega, by omega, .inr (.inr h1)⟩
  · exact ⟨by omega, by omega, .inr (.inr h1)⟩
  · exact ⟨by omega, by omega, .inr (.inr h1)⟩
  · exact ⟨by omega, by omega, .inl h2⟩
  · exact ⟨by omega, by omega, .inr (.inr h1)⟩
  · rcases h with ⟨_, h⟩ | ⟨_, ⟨r, w, _, h1, h2, _⟩ | ⟨_, A, _, _, h, _⟩⟩ | ⟨_, ⟨r, w, _, h1, h2, _⟩ | ⟨_, ⟨_, h1, h2, _⟩ | ⟨A, q, _, _, _, _, _, h, _⟩⟩⟩ | ⟨_, ⟨_, h1, h2, _⟩ | ⟨_, _, h, _⟩⟩ | ⟨_, h⟩ | ⟨_, h1, h2, _⟩
    · rcases tak_code h with h | ⟨h, h1⟩
      · exact ⟨by omega, by omega, .inl h⟩
      · exact ⟨by omega, by omega, .inr (.inr h1)⟩
    · have := who_code w
      exact ⟨by omega, by omega, .inr (.inr h1)⟩
    · exact ⟨by omega, by omega, .inl h⟩
    · have := who_code w
      exact ⟨by omega, by omega, .inr (.inr h1)⟩
    · exact ⟨by omega, by omega, .inr (.inr h1)⟩
    · exact ⟨by omega, by omega, .inl h⟩
    · exact ⟨by omega, by omega, .inr (.inr h1)⟩
    · exact ⟨by omega, by omega, .inl h⟩
    · rcases rea_code h with h | h | ⟨h, h1⟩
      · exact ⟨by omega, by omega, .inl h⟩
      · exact ⟨by omega, by omega, .inr (.inl h)⟩
      · exact ⟨by omega, by omega, .inr (.inr h1)⟩
    · exact ⟨by omega, by omega, .inr (.inr h1)⟩

/- A room's size is told by what is within the lists' ends. -/
theorem room_trim {b : Bx} (h : OkP b) {u r : Int} : RoomR b.trim u r ↔ RoomR b u r := by
  have l := h.1.1
  unfold LensP at l
  unfold RoomR
  have key : 0 ≤ u → u < b.o.n → b.trim.o.f u.toNat = b.o.f u.toNat ∧ b.trim.p.f (u / 8).toNat = b.p.f (u / 8).toNat := fun h0 h1 => ⟨trim_f b.o (by omega), trim_f b.p (by omega)⟩
  have on : b.trim.o.n = b.o.n := rfl
  by_cases h0 : 0 ≤ u
  · by_cases h1 : u < b.o.n
    · obtain ⟨k1, k2⟩ := key h0 h1
      rw [k1, k2, on]
    · constructor
      · rintro (⟨_, e⟩ | ⟨⟨_, q, _⟩, _⟩)
        · exact .inl ⟨.inr (.inl (by omega)), e⟩
        · rw [on] at q; omega
      · rintro (⟨_, e⟩ | ⟨⟨_, q, _⟩, _⟩)
        · exact .inl ⟨.inr (.inl (by rw [on]; omega)), e⟩
        · omega
  · constructor
    · rintro (⟨_, e⟩ | ⟨⟨q, _, _⟩, _⟩)
      · exact .inl ⟨.inl (by omega), e⟩
      · omega
    · rintro (⟨_, e⟩ | ⟨⟨q, _, _⟩, _⟩)
      · exact .inl ⟨.inl (by omega), e⟩
      · omega

/- A room is handed on, and handed back. -/
theorem own_own {b : Bx} {A : Nat} {v x : Int} (h : b.o.f A = x) : ((b.own A v).own A x).m = b.m := by
  simp only [Bx.own, Bx.m, Sx.put, Sx.m, Bm.mk.injEq, Prod.mk.injEq, true_and, and_true]
  funext j
  unfold Book.upd
  by_cases e : j = A
  · subst e; simp [h]
  · simp [e]
theorem own_f {b : Bx} {A : Nat} {v : Int} (j : Nat) : (b.own A v).o.f j = if j = A then v else b.o.f j := by
  simp only [Bx.own, Sx.put, Book.upd]
theorem hand_back {b c : Bx} {o : Ox} {x y : Int} (hk : o.k = 4) (h : DoP b o c x y) (h0 : x = 0) :
    ∃ t A q : Nat, o.s = t ∧ o.a = A ∧ o.b = q ∧ (t : Int) < b.s ∧ (q : Int) < b.s ∧ A < b.o.n ∧ b.o.f A = (t : Int) + 1 ∧ b.i.f t ≠ 0 ∧ b.i.f q ≠ 0 ∧ c = b.own A ((q : Int) + 1) := by
  rcases h with ⟨_, _, h2, _⟩ | ⟨t, es, ht, ⟨h1, _⟩ | ⟨_, ⟨_, _, h2, _⟩ | ⟨hi, h⟩⟩⟩
  · omega
  · omega
  · omega
  · rcases h with ⟨e, _⟩ | ⟨e, _⟩ | ⟨_, ⟨r, w, r0, _, h2, _⟩ | ⟨w, ⟨_, _, h2, _⟩ | ⟨A, q, ea, eb, hq, iq, ec, _⟩⟩⟩ | ⟨e, _⟩ | ⟨e, _⟩ | ⟨e, _⟩
    · omega
    · omega
    · omega
    · omega
    · have z := who_zero w
      rw [ea] at z
      exact ⟨t, A, q, es, ea, eb, ht, hq, by omega, by simpa using z.2.2.2, hi, iq, ec⟩
    · omega
    · omega
    · omega
theorem hand_do {b : Bx} {t A q : Nat} (ht : (t : Int) < b.s) (hq : (q : Int) < b.s) (hA : A < b.o.n) (ho : b.o.f A = (t : Int) + 1) (hi : b.i.f t ≠ 0) (iq : b.i.f q ≠ 0) :
    DoP (b.own A ((q : Int) + 1)) ⟨4, q, A, t⟩ ((b.own A ((q : Int) + 1)).own A ((t : Int) + 1)) 0 0 := by
  refine .inr ⟨q, rfl, hq, .inr ⟨by show (4 : Int) ≠ 1; decide, .inr ⟨iq, ?_⟩⟩⟩
  refine .inr (.inr (.inl ⟨rfl, .inr ⟨?_, .inr ⟨A, t, rfl, rfl, ht, hi, rfl, rfl, rfl⟩⟩⟩))
  refine .inr ⟨⟨by show (0 : Int) ≤ (A : Int); omega, by show (A : Int) < (b.o.n : Int); omega, ?_⟩, .inr ⟨?_, rfl⟩⟩
  · show ¬ (b.own A ((q : Int) + 1)).o.f ((A : Int)).toNat = 0
    rw [own_f]
    simp
    omega
  · show (b.own A ((q : Int) + 1)).o.f ((A : Int)).toNat = (q : Int) + 1
    rw [own_f]
    simp
theorem hand_room {b : Bx} {A : Nat} {v r : Int} (hA : A < b.o.n) (h : b.o.f A ≠ 0) (hv : v ≠ 0) : RoomR (b.own A v) A r ↔ RoomR b A r := by
  unfold RoomR
  have e : (b.own A v).o.f ((A : Int)).toNat = v := by rw [own_f]; simp
  rw [e]
  have e1 : b.o.f ((A : Int)).toNat = b.o.f A := by simp
  have e2 : (b.own A v).o.n = b.o.n := rfl
  have e3 : (b.own A v).p = b.p := rfl
  rw [e1, e2, e3]
  constructor
  · rintro (⟨q, _⟩ | ⟨_, g⟩)
    · omega
    · exact .inr ⟨⟨by omega, by omega, h⟩, g⟩
  · rintro (⟨q, _⟩ | ⟨_, g⟩)
    · omega
    · exact .inr ⟨⟨by omega, by omega, hv⟩, g⟩

/- Who gives back a room of a page that stays open is given that one next. -/
theorem last_back {b c : Bx} {o : Ox} {x y r : Int} (hok : OkP b) (hk : o.k = 3) (h : DoP b o c x y) (h0 : x = 0) (hr : RoomR b o.a r) (h8 : r ≤ 8) (hp : c.p.f (o.a / 8).toNat ≠ 0) :
    ∃ d, DoP c ⟨2, o.s, r, 0⟩ d 0 o.a ∧ d.m = b.m := by
  rcases h with ⟨_, _, h2, _⟩ | ⟨t, es, ht, ⟨h1, _⟩ | ⟨_, ⟨_, _, h2, _⟩ | ⟨hi, h⟩⟩⟩
  · omega
  · omega
  · omega
  rcases h with ⟨e, _⟩ | ⟨_, ⟨r, w, r0, _, h2, _⟩ | ⟨w, A, ea, hb, _, _⟩⟩ | ⟨e, _⟩ | ⟨e, _⟩ | ⟨e, _⟩ | ⟨e, _⟩
  · omega
  · omega
  · have z := who_zero w
    rw [ea] at z hr hp
    have hA : A < b.o.n := by omega
    have ho : b.o.f A = (t : Int) + 1 := by simpa using z.2.2.2
    have e8 : ((A : Int) / 8).toNat = A / 8 := by omega
    rw [e8] at hp
    rcases hr with ⟨q, _⟩ | ⟨_, hr⟩
    · have : b.o.f ((A : Int)).toNat = b.o.f A := by simp
      omega
    rw [e8] at hr
    rcases hb with ⟨n, n1, hn, _⟩ | ⟨k, hk4, hpk, ⟨hf, x, xn, xf, ec⟩ | ⟨_, y, _, ec⟩⟩
    · exfalso
      rcases hr with ⟨m, hm, e1, _⟩ | ⟨e1, e2⟩ <;> omega
    · have er : r = sz k := by
        rcases hr with ⟨m, hm, e1, e2⟩ | ⟨e1, e2⟩
        · have : m = k := by omega
          rw [e2, this]
        · omega
      have kk : kindM r = k := by
        rw [er]
        obtain rfl | rfl | rfl | rfl : k = 0 ∨ k = 1 ∨ k = 2 ∨ k = 3 := by omega
        all_goals decide
      have hx : c.hd k = x := by
        rw [ec]
        have : ((b.seth k x).own A 0).hd k = (b.seth k x).hd k := rfl
        rw [this, hd_seth b x hk4 hk4, if_pos rfl]
      have x0 : x.f 0 = A := by rw [xf]; rfl
      refine ⟨(c.seth k ((c.hd k).drop none)).own ((c.hd k).f 0).toNat ((t : Int) + 1), .inr ⟨t, es, by rw [ec]; exact ht, .inr ⟨by show (2 : Int) ≠ 1; decide, .inr ⟨by rw [ec]; exact hi, .inl ⟨rfl, .inr (.inr ⟨k, hk4, kk, .inl ⟨by rw [hx]; omega, ⟨none, rfl⟩, rfl, by rw [hx, x0]; exact ea⟩⟩)⟩⟩⟩⟩, ?_⟩
      rw [hx, x0, ec]
      have dn : (x.drop none).m = (b.hd k).m := by
        simp only [Sx.drop, Sx.m, xn, xf, Prod.mk.injEq]
        refine ⟨by omega, ?_⟩
        funext j
        rfl
      have oo : ((b.o.put A 0).put A ((t : Int) + 1)).m = b.o.m := by
        simp only [Sx.put, Sx.m, Prod.mk.injEq, true_and]
        funext j
        unfold Book.upd
        by_cases e : j = A
        · subst e; simp [ho]
        · simp [e]
      have et : ((A : Int)).toNat = A := by simp
      rw [et]
      simp only [Bx.own, Bx.seth, Bx.m, oo]
      obtain rfl | rfl | rfl | rfl : k = 0 ∨ k = 1 ∨ k = 2 ∨ k = 3 := by omega
      all_goals simp [Bx.hd] at dn ⊢
      all_goals exact dn
    · exfalso
      apply hp
      rw [ec]
      show Book.upd b.p.f (A / 8) 0 (A / 8) = 0
      simp [Book.upd]
  · omega
  · omega
  · omega
  · omega

theorem give_at {b c : Bx} {o : Ox} {x y : Int} (hk : o.k = 3) (h : DoP b o c x y) (h0 : x = 0) : ∃ A : Nat, o.a = A ∧ A < b.o.n ∧ c.o.n = b.o.n := by
  rcases h with ⟨_, _, h2, _⟩ | ⟨t, es, ht, ⟨h1, _⟩ | ⟨_, ⟨_, _, h2, _⟩ | ⟨hi, h⟩⟩⟩
  · omega
  · omega
  · omega
  rcases h with ⟨e, _⟩ | ⟨_, ⟨r, w, r0, _, h2, _⟩ | ⟨w, A, ea, hb, _, _⟩⟩ | ⟨e, _⟩ | ⟨e, _⟩ | ⟨e, _⟩ | ⟨e, _⟩
  · omega
  · omega
  · have z := who_zero w
    rw [ea] at z
    refine ⟨A, ea, by omega, ?_⟩
    rcases hb with ⟨n, _, _, ec⟩ | ⟨k, _, _, ⟨_, x, _, _, ec⟩ | ⟨_, y, _, ec⟩⟩
    all_goals rw [ec]; rfl
  all_goals omega

/- A row of empty pages. -/
def rowE (P : Nat → Int) : Nat → Nat × Nat
  | 0 => (0, 0)
  | p + 1 => let r := if P p = 0 then (rowE P p).1 + 1 else 0; (r, max (rowE P p).2 r)
theorem rowE_row (P : Nat → Int) : ∀ p, (rowE P p).1 ≤ p ∧ (∀ j, p - (rowE P p).1 ≤ j → j < p → P j = 0) ∧ ((rowE P p).1 < p → P (p - (rowE P p).1 - 1) ≠ 0)
  | 0 => ⟨Nat.le_refl _, fun j _ h => by omega, fun h => by simp [rowE] at h⟩
  | p + 1 => by
    obtain ⟨h1, h2, h3⟩ := rowE_row P p
    by_cases e : P p = 0
    · have q : (rowE P (p + 1)).1 = (rowE P p).1 + 1 := by simp [rowE, e]
      rw [q]
      refine ⟨by omega, fun j hj hl => ?_, fun hl => ?_⟩
      · by_cases ej : j = p
        · rw [ej]; exact e
        · exact h2 j (by omega) (by omega)
      · have := h3 (by omega)
        have e2 : p + 1 - ((rowE P p).1 + 1) - 1 = p - (rowE P p).1 - 1 := by omega
        rw [e2]; exact this
    · have q : (rowE P (p + 1)).1 = 0 := by simp [rowE, e]
      rw [q]
      exact ⟨by omega, fun j hj hl => by omega, fun _ => by simpa using e⟩
theorem rowE_most (P : Nat → Int) (n : Nat) (hn : 1 ≤ n) : ∀ p, n ≤ (rowE P p).2 ↔ ∃ q, q + n ≤ p ∧ EmpP P q n
  | 0 => ⟨fun h => by simp [rowE] at h; omega, fun ⟨q, h, _⟩ => by omega⟩
  | p + 1 => by
    have ih := rowE_most P n hn p
    obtain ⟨h1, h2, h3⟩ := rowE_row P (p + 1)
    have e : (rowE P (p + 1)).2 = max (rowE P p).2 (rowE P (p + 1)).1 := rfl
    rw [e]
    constructor
    · intro h
      by_cases c : n ≤ (rowE P p).2
      · obtain ⟨q, g1, g2⟩ := ih.1 c
        exact ⟨q, by omega, g2⟩
      · refine ⟨p + 1 - n, by omega, fun i hi => h2 _ (by omega) (by omega)⟩
    · rintro ⟨q, g1, g2⟩
      by_cases c : q + n ≤ p
      · have := ih.2 ⟨q, c, g2⟩
        omega
      · have : n ≤ (rowE P (p + 1)).1 := by
          by_cases d : n ≤ (rowE P (p + 1)).1
          · exact d
          · exfalso
            have l := h3 (by omega)
            apply l
            have := g2 (p + 1 - (rowE P (p + 1)).1 - 1 - q) (by omega)
            have e2 : q + (p + 1 - (rowE P (p + 1)).1 - 1 - q) = p + 1 - (rowE P (p + 1)).1 - 1 := by omega
            rwa [e2] at this
        omega
theorem take_tak {b c : Bx} {o : Ox} {x y : Int} (hk : o.k = 2) (h : DoP b o c x y) (hx : x = 0 ∨ x = 2) : ∃ t : Nat, TakP b t o.a c x y := by
  rcases h with ⟨_, _, h2, _⟩ | ⟨t, es, ht, ⟨h1, _⟩ | ⟨_, ⟨_, _, h2, _⟩ | ⟨hi, h⟩⟩⟩
  · omega
  · omega
  · omega
  · rcases h with ⟨_, h⟩ | ⟨e, _⟩ | ⟨e, _⟩ | ⟨e, _⟩ | ⟨e, _⟩ | ⟨e, _⟩
    · exact ⟨t, h⟩
    all_goals omega
theorem full_at {b c : Bx} {o : Ox} {x y : Int} (hk : o.k = 2) (h : DoP b o c x y) (hx : x = 0 ∨ x = 2) :
    (kindM o.a = 4 ∧ (x = 2 ↔ ((rowE b.p.f b.p.n).2 : Int) * 8 < o.a)) ∨ ∃ k : Nat, k < 4 ∧ kindM o.a = k ∧ (x = 2 ↔ (rowE b.p.f b.p.n).2 = 0 ∧ (b.hd k).n = 0) := by
  obtain ⟨t, h⟩ := take_tak hk h hx
  rcases h with ⟨_, h1, h2, _⟩ | ⟨k4, h⟩ | ⟨k, hk4, ek, h⟩
  · omega
  · have hu : 8 < o.a ∧ o.a ≤ 32 := by
      unfold kindM at k4
      split at k4
      · omega
      · split at k4
        · omega
        · split at k4
          · omega
          · split at k4
            · omega
            · split at k4
              · omega
              · omega
    refine .inl ⟨k4, ?_⟩
    have m := rowE_most b.p.f ((o.a + 7) / 8).toNat (by omega) b.p.n
    rcases h with ⟨p, g1, g2, _, _, h, _⟩ | ⟨g, _, h, _⟩
    · have := m.2 ⟨p, g1, g2⟩
      constructor
      · intro e; omega
      · intro e; omega
    · have : ¬ ((o.a + 7) / 8).toNat ≤ (rowE b.p.f b.p.n).2 := fun l => by
        obtain ⟨q, l1, l2⟩ := m.1 l
        exact g q l1 l2
      constructor
      · intro _; omega
      · intro _; exact h
  · refine .inr ⟨k, hk4, ek, ?_⟩
    have m := rowE_most b.p.f 1 (by omega) b.p.n
    rcases h with ⟨h1, _, h, _⟩ | ⟨h1, g, _, h, _⟩ | ⟨h1, p, g1, g2, _, _, h, _⟩
    · constructor
      · intro e; omega
      · intro e; omega
    · constructor
      · intro _
        refine ⟨?_, h1⟩
        by_cases z : 1 ≤ (rowE b.p.f b.p.n).2
        · obtain ⟨q, l1, l2⟩ := m.1 z
          exact absurd l2 (g q l1)
        · omega
      · intro _; exact h
    · have := m.2 ⟨p, g1, g2⟩
      constructor
      · intro e; omega
      · intro e; omega
theorem rowE_trim {P Q : Nat → Int} : ∀ {n : Nat}, (∀ j, j < n → P j = Q j) → rowE P n = rowE Q n
  | 0, _ => rfl
  | n + 1, h => by
    have := rowE_trim (n := n) (fun j hj => h j (by omega))
    simp only [rowE, this, h n (by omega)]

end Go.Proofs.YtbipolfbkemmpaaDoor.Dra

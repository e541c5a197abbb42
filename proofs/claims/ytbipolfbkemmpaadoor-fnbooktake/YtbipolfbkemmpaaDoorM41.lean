import Derived.Test.YtbipolfbkemmpaaDoorM31
import Derived.Test.YtbipolfbkemmpaaDoorM38
import Derived.Test.YtbipolfbkemmpaaDoorM40
import Derived.Test.YtbipolfbkemmpaaDoorChecked
import Derived.WalkKit
import Derived.LaidEql
import Derived.Stop.Asserts
import Derived.RowKitTokens
import Derived.Test.YtbipolfbkemmpaaDoorM26

/- The program's call of a draft is the specification's call of a book: over no program. -/
namespace Go.Proofs.YtbipolfbkemmpaaDoor.Dra
open Go.ChangeShapes Go.WideShapes Go.ChangeAt Go.RowKit
open Aid Lst Book Rin
set_option maxRecDepth 100000
set_option linter.unusedVariables false

def SE (x y : Sx) : Prop := x.n = y.n ∧ x.f = y.f
def HE (L : List Int) (x : Sx) : Prop := x.n = L.length ∧ ∀ j, j < x.n → x.f j = L.getD j 0
structure Pair (b : Bx) (U : Nat → List Int) (d : Bx) : Prop where
  s : b.s = d.s
  p : SE b.p d.p
  o : SE b.o d.o
  i : SE b.i d.i
  e : SE b.e d.e
  h : ∀ k, k < 4 → HE (U k) (d.hd k)
theorem SE.put {x y : Sx} (h : SE x y) (j : Nat) (v : Int) : SE (x.put j v) (y.put j v) := ⟨h.1, by simp only [Sx.put, h.2]⟩
theorem Pair.own {b d : Bx} {U : Nat → List Int} (h : Pair b U d) (A : Nat) (v : Int) : Pair (b.own A v) U (d.own A v) := ⟨h.s, h.p, h.o.put A v, h.i, h.e, h.h⟩
theorem Pair.seti {b d : Bx} {U : Nat → List Int} (h : Pair b U d) (A : Nat) (v : Int) : Pair (b.seti A v) U (d.seti A v) := ⟨h.s, h.p, h.o, h.i.put A v, h.e, h.h⟩
theorem Pair.ine {b d : Bx} {U : Nat → List Int} (h : Pair b U d) (A : Nat) (v e : Int) : Pair (b.ine A v e) U (d.ine A v e) := ⟨h.s, h.p, h.o, h.i.put A v, h.e.put A e, h.h⟩
theorem Pair.pag {b d : Bx} {U : Nat → List Int} (h : Pair b U d) (A : Nat) (v : Int) : Pair (b.pag A v) U (d.pag A v) := ⟨h.s, h.p.put A v, h.o, h.i, h.e, h.h⟩
theorem Pair.wide {b d : Bx} {U : Nat → List Int} (h : Pair b U d) (p n t : Nat) : Pair (b.wide p n t) U (d.wide p n t) := ⟨h.s, ⟨h.p.1, by simp only [Bx.wide, h.p.2]⟩, h.o.put _ _, h.i, h.e, h.h⟩
theorem Pair.unwide {b d : Bx} {U : Nat → List Int} (h : Pair b U d) (p n : Nat) : Pair (b.unwide p n) U (d.unwide p n) := ⟨h.s, ⟨h.p.1, by simp only [Bx.unwide, h.p.2]⟩, h.o.put _ _, h.i, h.e, h.h⟩
theorem Pair.seth {b d : Bx} {U : Nat → List Int} (h : Pair b U d) (k : Nat) (hk : k < 4) {L : List Int} {y : Sx} (hy : HE L y) : Pair b (updL U k L) (d.seth k y) := ⟨h.s, h.p, h.o, h.i, h.e, fun m hm => by
  rw [hd_seth d y hk hm]
  by_cases e : m = k
  · subst e; rw [if_pos rfl, updL_same]; exact hy
  · rw [if_neg e, updL_ne e]; exact h.h m hm⟩

theorem rowU_get (f : Nat → Int) : ∀ n j, j < n → (rowU f n).getD j 0 = f j
  | n + 1, j, hj => by
    have hl : (rowU f n).length = n := rowU_len f n
    simp only [rowU]
    by_cases e : j = n
    · subst e
      rw [List.getD_eq_getElem?_getD, List.getElem?_append_right (by omega), hl]
      simp
    · rw [List.getD_eq_getElem?_getD, List.getElem?_append_left (by omega), ← List.getD_eq_getElem?_getD]
      exact rowU_get f n j (by omega)
where
  rowU_len (f : Nat → Int) : ∀ n, (rowU f n).length = n
    | 0 => rfl
    | n + 1 => by simp [rowU, rowU_len f n]
theorem rowU_length (f : Nat → Int) : ∀ n, (rowU f n).length = n
  | 0 => rfl
  | n + 1 => by simp [rowU, rowU_length f n]
theorem HE.row (x : Sx) : HE (rowU x.f x.n) x := ⟨(rowU_length _ _).symm, fun j hj => (rowU_get _ _ _ hj).symm⟩
theorem HE.eq {L : List Int} {x : Sx} (h : HE L x) : L = rowU x.f x.n := by
  apply List.ext_getElem?
  intro j
  by_cases hj : j < x.n
  · have e1 := h.2 j hj
    have e2 := rowU_get x.f x.n j hj
    rw [List.getD_eq_getElem?_getD, List.getElem?_eq_getElem (by rw [← h.1]; exact hj)] at e1
    rw [List.getD_eq_getElem?_getD, List.getElem?_eq_getElem (by rw [rowU_length]; exact hj)] at e2
    rw [List.getElem?_eq_getElem (by rw [← h.1]; exact hj), List.getElem?_eq_getElem (by rw [rowU_length]; exact hj)]
    simp only [Option.getD_some] at e1 e2
    rw [← e1, ← e2]
  · rw [List.getElem?_eq_none (by rw [← h.1]; omega), List.getElem?_eq_none (by rw [rowU_length]; omega)]
theorem kept_row (f : Nat → Int) (p : Nat) : ∀ n, kept f (p : Int) n = keepU p (rowU f n)
  | 0 => rfl
  | n + 1 => by
    have ih := kept_row f p n
    simp only [kept, rowU, keepU, List.filter_append] at ih ⊢
    rw [ih]
    by_cases e : f n / 8 = (p : Int)
    · simp [e]
    · simp [e]
theorem row_cons (f : Nat → Int) (a : Int) : ∀ n, rowU (consF f a) (n + 1) = a :: rowU f n
  | 0 => rfl
  | n + 1 => by
    have ih := row_cons f a n
    show rowU (consF f a) (n + 1) ++ [consF f a (n + 1)] = a :: (rowU f n ++ [f n])
    rw [ih]; rfl
theorem HE.cons {L : List Int} {x y : Sx} {a : Int} (h : HE L x) (yn : y.n = x.n + 1) (yf : y.f = consF x.f a) : HE (a :: L) y := by
  have e := HE.row y
  rw [yn, yf, row_cons, ← h.eq] at e
  exact e

def Met (c : Bx) (V : Nat → List Int) (x : Nat) (y : Int) (d : Bx) (x' y' : Int) : Prop := Pair c V d ∧ (x : Int) = x' ∧ y = y'
theorem HE.nil {L : List Int} {x : Sx} (h : HE L x) : L = [] ↔ x.n = 0 := by
  rw [h.1]; exact List.length_eq_zero_iff.symm
theorem HE.head {A : Int} {r : List Int} {x : Sx} (h : HE (A :: r) x) : x.f 0 = A ∧ 0 < x.n := by
  have h0 : 0 < x.n := by rw [h.1]; simp
  exact ⟨by rw [h.2 0 h0]; rfl, h0⟩
theorem HE.drop {A : Int} {r : List Int} {x : Sx} (h : HE (A :: r) x) (a : Option Addr) : HE r (x.drop a) := by
  have hl := h.1
  simp only [List.length_cons] at hl
  refine ⟨by simp only [Sx.drop]; omega, fun j hj => ?_⟩
  simp only [Sx.drop] at hj ⊢
  rw [h.2 (j + 1) (by omega)]; rfl
theorem first_one {P : Nat → Int} {n p p' : Nat} (h1 : EmpP P p n) (h2 : ∀ q, q < p → ¬ EmpP P q n) (h1' : EmpP P p' n) (h2' : ∀ q, q < p' → ¬ EmpP P q n) : p = p' := by
  by_cases e : p < p'
  · exact absurd h1 (h2' p e)
  · by_cases e' : p' < p
    · exact absurd h1' (h2 p' e')
    · omega
theorem car_he {p k : Nat} {a : Sx} (hk : k < 4) (h : CarP p k a) (o : Option Addr) : HE (carL p k).tail (a.drop o) := by
  have e : carL p k = rowU (carF p (2 ^ k)) (8 / 2 ^ k) := rfl
  have hz : sz k = (2 ^ k : Nat) := by
    obtain rfl | rfl | rfl | rfl : k = 0 ∨ k = 1 ∨ k = 2 ∨ k = 3 := by omega
    all_goals rfl
  have hn : a.n = 8 / 2 ^ k := by
    have := h.1
    rw [hz] at this
    obtain rfl | rfl | rfl | rfl : k = 0 ∨ k = 1 ∨ k = 2 ∨ k = 3 := by omega
    all_goals simp at this ⊢; omega
  have hhe : HE (carL p k) a := by
    refine ⟨by rw [e, rowU_length, hn], fun j hj => ?_⟩
    rw [e, rowU_get _ _ _ (by omega), h.2 j hj, hz]
    rfl
  rw [carL_cons p k hk] at hhe
  exact hhe.drop o
theorem take_met {b d d' c : Bx} {U V : Nat → List Int} {t : Nat} {u : Int} {x : Nat} {y x' y' : Int} (h : Pair b U d) (h1 : TaQ b U t u c V x y) (h2 : TakP d t u d' x' y') : Met c V x y d' x' y' := by
  obtain ⟨pn, pf⟩ := h.p
  rcases h1 with ⟨k1, rfl, rfl, rfl, rfl⟩ | ⟨k1, rfl, hp⟩ | ⟨k, hk, k1, hr⟩
  · rcases h2 with ⟨_, rfl, rfl, rfl⟩ | ⟨k2, _⟩ | ⟨m, hm, k2, _⟩
    · exact ⟨h, rfl, rfl⟩
    · omega
    · omega
  · rcases h2 with ⟨k2, _⟩ | ⟨_, hp2⟩ | ⟨m, hm, k2, _⟩
    · omega
    · generalize ((u + 7) / 8).toNat = n at hp hp2
      rcases hp with ⟨p, a1, a2, a3, rfl, rfl, rfl⟩ | ⟨a1, rfl, rfl, rfl⟩
      · rcases hp2 with ⟨p', b1, b2, b3, rfl, rfl, rfl⟩ | ⟨b1, _⟩
        · rw [pf] at a2 a3
          obtain rfl := first_one a2 a3 b2 b3
          exact ⟨h.wide _ _ _, rfl, rfl⟩
        · rw [pf] at a2
          exact absurd a2 (b1 p (by omega))
      · rcases hp2 with ⟨p', b1, b2, b3, _⟩ | ⟨b1, rfl, rfl, rfl⟩
        · rw [pf] at a1
          exact absurd b2 (a1 p' (by omega))
        · exact ⟨h, rfl, rfl⟩
    · omega
  · rcases h2 with ⟨k2, _⟩ | ⟨k2, _⟩ | ⟨m, hm, k2, hr2⟩
    · omega
    · omega
    · obtain rfl : k = m := by omega
      have hh := h.h k hk
      rcases hr with ⟨A, r, a1, rfl, rfl, rfl, rfl⟩ | ⟨a1, a2, rfl, rfl, rfl, rfl⟩ | ⟨a1, p, a2, a3, a4, rfl, rfl, rfl, rfl⟩
      · rw [a1] at hh
        obtain ⟨f0, n0⟩ := hh.head
        rcases hr2 with ⟨_, ⟨a, rfl⟩, rfl, rfl⟩ | ⟨q, _⟩ | ⟨q, _⟩
        · refine ⟨?_, rfl, f0.symm⟩
          rw [f0, Int.toNat_natCast]
          exact (h.seth k hk (hh.drop a)).own A _
        · omega
        · omega
      · have n0 := hh.nil.1 a1
        rcases hr2 with ⟨q, _⟩ | ⟨_, _, rfl, rfl, rfl⟩ | ⟨_, p', b1, b2, _⟩
        · omega
        · exact ⟨h, rfl, rfl⟩
        · rw [pf] at a2
          exact absurd b2 (a2 p' (by omega))
      · have n0 := hh.nil.1 a1
        rcases hr2 with ⟨q, _⟩ | ⟨_, b1, _⟩ | ⟨_, p', b1, b2, b3, ⟨a, o, hc, rfl⟩, rfl, rfl⟩
        · omega
        · rw [pf] at a3
          exact absurd a3 (b1 p (by omega))
        · rw [pf] at a3 a4
          obtain rfl := first_one a3 a4 b2 b3
          exact ⟨((h.pag p _).seth k hk (car_he hk hc o)).own (p * 8) _, rfl, by simp⟩

theorem free_eq {o o' : Nat → Int} (e : o = o') (q n : Nat) : FreeP o q n ↔ FreeP o' q n := by rw [e]
theorem give_met {b d d' c : Bx} {U V : Nat → List Int} {A : Nat} (h : Pair b U d) (h1 : GvQ b U A c V (.tuple #[])) (h2 : BakP d A d') : Pair c V d' := by
  obtain ⟨pn, pf⟩ := h.p
  have fe : (b.o.put A 0).f = (d.o.put A 0).f := (h.o.put A 0).2
  rcases h1.2 with ⟨n, n1, hn, rfl, rfl⟩ | ⟨k, hk, hp, hr⟩
  · rcases h2 with ⟨n', n1', hn', rfl⟩ | ⟨k', hk', hp', _⟩
    · rw [pf] at hn
      obtain rfl : n = n' := by omega
      exact h.unwide _ _
    · rw [pf] at hn; omega
  · rw [pf] at hp
    rcases h2 with ⟨n', n1', hn', rfl⟩ | ⟨k', hk', hp', hr2⟩
    · omega
    · obtain rfl : k = k' := by omega
      have hh := h.h k hk
      rw [fe] at hr
      rcases hr with ⟨f1, rfl, rfl⟩ | ⟨f1, rfl, rfl⟩
      · rcases hr2 with ⟨_, x, xn, xf, rfl⟩ | ⟨f2, _⟩
        · exact (h.seth k hk (hh.cons xn xf)).own A 0
        · exact absurd f2 f1
      · rcases hr2 with ⟨f2, _⟩ | ⟨_, y, hy, rfl⟩
        · exact absurd f1 f2
        · refine ((h.pag (A / 8) 0).seth k hk ?_).own A 0
          have e1 : ((A : Int) :: U k) = rowU (consF (d.hd k).f A) ((d.hd k).n + 1) := by rw [row_cons, ← hh.eq]
          have e2 := kept_row (consF (d.hd k).f A) (A / 8) ((d.hd k).n + 1)
          rw [e1, ← e2]
          exact hy

theorem who_to {b d : Bx} {U : Nat → List Int} (h : Pair b U d) {s u r : Int} (hw : WhoP b s u r) : WhoP d s u r := by
  obtain ⟨on, of⟩ := h.o
  unfold WhoP at hw ⊢
  rw [on, of] at hw
  exact hw
theorem who_one {b : Bx} {s u r r' : Int} (h : WhoP b s u r) (h' : WhoP b s u r') : r = r' := by
  rcases h with ⟨h, rfl⟩ | ⟨⟨a1, a2, a3⟩, ⟨a4, rfl⟩ | ⟨a4, rfl⟩⟩ <;> rcases h' with ⟨h', rfl⟩ | ⟨⟨b1, b2, b3⟩, ⟨b4, rfl⟩ | ⟨b4, rfl⟩⟩
  · rfl
  · rcases h with h | h | h <;> first | omega | exact absurd h b3
  · rcases h with h | h | h <;> first | omega | exact absurd h b3
  · rcases h' with h | h | h <;> first | omega | exact absurd h a3
  · rfl
  · exact absurd b4 a4
  · rcases h' with h | h | h <;> first | omega | exact absurd h a3
  · exact absurd a4 b4
  · rfl
theorem rea_met {b d d' c : Bx} {U V : Nat → List Int} {s : Int} {x : Nat} {y x' y' : Int} (h : Pair b U d) (h1 : RpQ b U s c V x y) (h2 : ReaP d s d' x' y') : Met c V x y d' x' y' := by
  obtain ⟨on, of⟩ := h.o
  obtain ⟨i_n, i_f⟩ := h.i
  have es := h.s
  rcases h1 with ⟨g, rfl, rfl, rfl, rfl⟩ | ⟨p, rfl, hp, hi, hr⟩
  · rcases h2 with ⟨_, rfl, rfl, rfl⟩ | ⟨p, rfl, hp, hi, _⟩
    · exact ⟨h, rfl, rfl⟩
    · rw [i_f, Int.toNat_natCast] at g
      rcases g with g | g | g
      · omega
      · omega
      · exact absurd g hi
  · rcases h2 with ⟨g, _⟩ | ⟨p', ep, hp', hi', hr2⟩
    · rw [Int.toNat_natCast] at g
      rw [i_f] at hi
      rcases g with g | g | g
      · omega
      · omega
      · exact absurd g hi
    · obtain rfl : p = p' := by omega
      rw [i_f] at hr
      rw [on, of] at hr
      rcases hr with ⟨g, rfl, rfl, rfl, rfl⟩ | ⟨g, hr⟩
      · rcases hr2 with ⟨_, rfl, rfl, rfl⟩ | ⟨g', _⟩
        · exact ⟨h, rfl, rfl⟩
        · exact absurd g g'
      · rcases hr2 with ⟨g', _⟩ | ⟨_, hr2⟩
        · exact absurd g' g
        · rcases hr with ⟨f1, rfl, rfl, rfl, rfl⟩ | ⟨A, a1, a2, a3, hg, rfl, rfl⟩
          · rcases hr2 with ⟨_, rfl, rfl, rfl⟩ | ⟨A, b1, b2, _⟩
            · exact ⟨h.seti p 0, rfl, rfl⟩
            · exact absurd b2 (f1 A b1)
          · rcases hr2 with ⟨f2, _⟩ | ⟨A', b1, b2, b3, hb, rfl, rfl⟩
            · exact absurd a2 (f2 A a1)
            · obtain rfl : A = A' := by
                by_cases e : A < A'
                · exact absurd a2 (b3 A e)
                · by_cases e' : A' < A
                  · exact absurd b2 (a3 A' e')
                  · omega
              exact ⟨give_met h hg hb, rfl, rfl⟩

end Go.Proofs.YtbipolfbkemmpaaDoor.Dra
/- errors.Is at the package's sentinels: Go's own text of it, walked. -/
namespace Go.Proofs.YtbipolfbkemmpaaDoor.Isx
open Go.RowKit Go.Extern.Stop Go.Stop Go.Extern
set_option linter.unusedVariables false
set_option maxRecDepth 100000

theorem typeOf_at (v : Value) (w : World) : (Extern.ReflectliteType.typeOf #[.iface 112 v]).run Tryd.prog w = .ok (.iface 100 (.agg #[.pointer (some ⟨12, 112, none⟩)])) w := by kernel_rfl

def cmpF : TypeId → Sem Value := fun t => do Extern.Rtype.noPackHeld "Comparable" t; pure (.bool (← typeInfo t).comparable)

theorem comparable_at (w : World) : (Extern.ReflectliteType.method cmpF #[.agg #[.pointer (some ⟨12, 112, none⟩)]]).run Tryd.prog w = .ok (.bool true) w := by kernel_rfl

theorem method_at (v : Value) (w : World) : (Go.method 252 100 v "Comparable").run Tryd.prog w = .ok (118, v) w := by kernel_rfl

theorem info_p : (Tryd.prog.info? 112).map (·.comparable) = some true := by kernel_rfl

theorem info_e : (Tryd.prog.info? 139).map (·.size) = some 1 := by kernel_rfl

theorem noIs (v : Value) (xT : TypeId) (w : World) : (Instr.typeAssert (.iface 112 v) xT 102 true).run Tryd.prog w = .ok (.tuple #[.nilIface, .bool false]) w := run_typeAssert_lacksB Tryd.underlying102 (by kernel_rfl) (by kernel_rfl) v xT w

theorem noUnwrap (v : Value) (xT : TypeId) (w : World) : (Instr.typeAssert (.iface 112 v) xT 105 true).run Tryd.prog w = .ok (.tuple #[.nilIface, .bool false]) w := run_typeAssert_lacksB Tryd.underlying105 (by kernel_rfl) (by kernel_rfl) v xT w

theorem noUnwraps (v : Value) (xT : TypeId) (w : World) : (Instr.typeAssert (.iface 112 v) xT 107 true).run Tryd.prog w = .ok (.tuple #[.nilIface, .bool false]) w := run_typeAssert_lacksB Tryd.underlying107 (by kernel_rfl) (by kernel_rfl) v xT w

/- errors.Is(x, x). -/
theorem is_same (a : Addr) (w : World) :
    Calls Tryd.prog 54 #[.iface 112 (.pointer (some a)), .iface 112 (.pointer (some a))] w fun e w' => e = .returned (.bool true) ∧ w' = w := by
  obtain ⟨i, hi, hcmp⟩ := Option.map_eq_some_iff.1 info_p
  obtain ⟨j, hj, hjs⟩ := Option.map_eq_some_iff.1 info_e
  have h8 := @run_callFunc_extern Tryd.prog 73 _ Extern.ReflectliteType.typeOf Tryd.func73 (by kernel_rfl) (by kernel_rfl) (by kernel_rfl) (by kernel_rfl)
  have h32 := @run_callFunc_extern Tryd.prog 118 _ (Extern.ReflectliteType.method cmpF) Tryd.func118 (by kernel_rfl) (by kernel_rfl) (by kernel_rfl) (by kernel_rfl)
  have tT := typeOf_at
  have cT := comparable_at
  have mR := method_at
  have heq := run_eql_iface_ptr_same (P := Tryd.prog) w a Tryd.underlying49 Tryd.underlying112 hi hcmp hj
  go_enter Tryd.func54, Tryd.ntmps54
  go_wp2
  refine wp_loop_rounds 1 ?_
  rw [rounds_succ]
  go_wp2
  go_ret
  exact ⟨rfl, rfl⟩

/- errors.Is(x, y), two different ones. -/
theorem is_other (a b : Addr) (ca cb : Array Value) (ta tb : TypeId) (w : World) (hne : a ≠ b) (ha : w.heap[a.block]? = some (.cells ca ta (0, 0))) (hb : w.heap[b.block]? = some (.cells cb tb (0, 0))) :
    Calls Tryd.prog 54 #[.iface 112 (.pointer (some a)), .iface 112 (.pointer (some b))] w fun e w' => e = .returned (.bool false) ∧ w' = w := by
  obtain ⟨i, hi, hcmp⟩ := Option.map_eq_some_iff.1 info_p
  obtain ⟨j, hj, hjs⟩ := Option.map_eq_some_iff.1 info_e
  have h8 := @run_callFunc_extern Tryd.prog 73 _ Extern.ReflectliteType.typeOf Tryd.func73 (by kernel_rfl) (by kernel_rfl) (by kernel_rfl) (by kernel_rfl)
  have h32 := @run_callFunc_extern Tryd.prog 118 _ (Extern.ReflectliteType.method cmpF) Tryd.func118 (by kernel_rfl) (by kernel_rfl) (by kernel_rfl) (by kernel_rfl)
  have tT := typeOf_at
  have cT := comparable_at
  have mR := method_at
  have nE := noIs
  have uE := noUnwrap
  have vE := noUnwraps
  have heq := run_eql_iface_ptr_other (P := Tryd.prog) w Tryd.underlying49 Tryd.underlying112 hi hcmp hj (by rw [hjs]; decide) hne ha hb
  go_enter Tryd.func54, Tryd.ntmps54
  go_wp2
  refine wp_loop_rounds 1 ?_
  rw [rounds_succ]
  go_wp2
  go_ret
  exact ⟨rfl, rfl⟩

end Go.Proofs.YtbipolfbkemmpaaDoor.Isx
/- The program's code of an error. -/
namespace Go.Proofs.YtbipolfbkemmpaaDoor.Dra
open Go.ChangeShapes Go.WideShapes Go.ChangeAt Go.RowKit
open Aid Lst Book Rin
set_option maxRecDepth 100000
set_option linter.unusedVariables false

def codes : List Nat := [1, 2, 3, 4, 5, 6, 7, 8, 9, 10, 12, 13]
/- The errors, apart from each other. -/
structure Ea (a : Nat → Addr) (w : World) : Prop where
  er : Er a w
  ne : ∀ x y, x ∈ codes → y ∈ codes → x ≠ y → a x ≠ a y
  bk : ∀ x, x ∈ codes → ∃ C t, w.heap[(a x).block]? = some (.cells C t (0, 0))
theorem lt_of_get {α : Type} {A : Array α} {i : Nat} {x : α} (h : A[i]? = some x) : i < A.size := Nat.lt_of_not_le fun hle => by rw [Array.getElem?_eq_none hle] at h; cases h
theorem Ea.later {a : Nat → Addr} {w w1 : World} (h : Ea a w) (hb : Below w.heap.size w w1) : Ea a w1 := ⟨h.er.later hb, h.ne, fun x hx => by
  obtain ⟨C, t, e⟩ := h.bk x hx
  exact ⟨C, t, by rw [hb.block _ (lt_of_get e)]; exact e⟩⟩
theorem run_eql_iface_nil {P : Program} {ti : TypeId} {ms : Array (String × TypeId)} (w : World) (tp : TypeId) (v : Value) (hi : P.underlying ti = some (.interface ms)) : (binOp .eql ti (.iface tp v) .nilIface).run P w = .ok (.bool false) w := by
  have h : ∀ d : Nat, (Op.equalIn (d + 1) ti (.iface tp v) .nilIface).run P w = .ok false w := fun d => by simp [Op.equalIn, run_underlying hi]
  simp only [binOp]
  simp [Op.equal, Op.maxDepth, h 9999]
theorem run_eql_nil_nil {P : Program} {ti : TypeId} {ms : Array (String × TypeId)} (w : World) (hi : P.underlying ti = some (.interface ms)) : (binOp .eql ti .nilIface .nilIface).run P w = .ok (.bool true) w := by
  have h : ∀ d : Nat, (Op.equalIn (d + 1) ti .nilIface .nilIface).run P w = .ok true w := fun d => by simp [Op.equalIn, run_underlying hi]
  simp only [binOp]
  simp [Op.equal, Op.maxDepth, h 9999]

theorem is_code {a : Nat → Addr} {w : World} (h : Ea a w) (x y : Nat) (hx : x ∈ codes) (hy : y ∈ codes) :
    Calls Tryd.prog 54 #[.iface 112 (.pointer (some (a x))), .iface 112 (.pointer (some (a y)))] w fun e w' => e = .returned (.bool (decide (x = y))) ∧ w' = w := by
  by_cases e : x = y
  · subst e
    rw [decide_eq_true rfl]
    exact Isx.is_same (a x) w
  · rw [decide_eq_false e]
    obtain ⟨C, t, e1⟩ := h.bk x hx
    obtain ⟨C', t', e2⟩ := h.bk y hy
    exact Isx.is_other (a x) (a y) C C' t t' w (h.ne x y hx hy e) e1 e2

set_option maxHeartbeats 4000000 in
theorem code_nil (w : World) : Calls Tryd.prog 30 #[.nilIface] w fun e w' => e = .returned (.int .i64 0) ∧ w' = w := by
  have q := run_eql_nil_nil (P := Tryd.prog) w Tryd.underlying49
  go_enter Tryd.func30, Tryd.ntmps30
  go_wp2_with (fail)
  go_ret
  exact ⟨rfl, rfl⟩

set_option maxHeartbeats 8000000 in
theorem code_any {a : Nat → Addr} {w : World} (h : Ea a w) (x : Nat) (hx : x ∈ codes) :
    Calls Tryd.prog 30 #[ev a x] w fun e w' => e = .returned (.int .i64 x) ∧ w' = w := by
  have HA : Hid (Ea a w) := h
  have HX : Hid (x ∈ codes) := hx
  have q := run_eql_iface_nil (P := Tryd.prog) w 112 (.pointer (some (a x))) Tryd.underlying49
  clear h hx
  unfold ev
  go_enter Tryd.func30, Tryd.ntmps30
  have g1 : w.cell? ⟨2, 0, none⟩ = some (.iface 112 (.pointer (some (a 1)))) := HA.out.er.h _ _ (by simp [erl])
  go_wp2_with (fail)
  refine (is_code HA.out x 1 HX.out (by simp [codes])).mono ?_
  rintro e w ⟨rfl, rfl⟩
  clear g1 q
  by_cases h1 : x = 1
  · rw [decide_eq_true h1]
    subst h1
    go_wp2_with (fail)
    go_ret
    exact ⟨rfl, rfl⟩
  rw [decide_eq_false h1]
  have H1 : Hid (x ≠ 1) := h1
  clear h1
  have g2 : w.cell? ⟨3, 0, none⟩ = some (.iface 112 (.pointer (some (a 2)))) := HA.out.er.h _ _ (by simp [erl])
  go_wp2_with (fail)
  refine (is_code HA.out x 2 HX.out (by simp [codes])).mono ?_
  rintro e w ⟨rfl, rfl⟩
  clear g2
  by_cases h2 : x = 2
  · rw [decide_eq_true h2]
    subst h2
    go_wp2_with (fail)
    go_ret
    exact ⟨rfl, rfl⟩
  rw [decide_eq_false h2]
  have H2 : Hid (x ≠ 2) := h2
  clear h2
  have g3 : w.cell? ⟨4, 0, none⟩ = some (.iface 112 (.pointer (some (a 3)))) := HA.out.er.h _ _ (by simp [erl])
  go_wp2_with (fail)
  refine (is_code HA.out x 3 HX.out (by simp [codes])).mono ?_
  rintro e w ⟨rfl, rfl⟩
  clear g3
  by_cases h3 : x = 3
  · rw [decide_eq_true h3]
    subst h3
    go_wp2_with (fail)
    go_ret
    exact ⟨rfl, rfl⟩
  rw [decide_eq_false h3]
  have H3 : Hid (x ≠ 3) := h3
  clear h3
  have g4 : w.cell? ⟨5, 0, none⟩ = some (.iface 112 (.pointer (some (a 4)))) := HA.out.er.h _ _ (by simp [erl])
  go_wp2_with (fail)
  refine (is_code HA.out x 4 HX.out (by simp [codes])).mono ?_
  rintro e w ⟨rfl, rfl⟩
  clear g4
  by_cases h4 : x = 4
  · rw [decide_eq_true h4]
    subst h4
    go_wp2_with (fail)
    go_ret
    exact ⟨rfl, rfl⟩
  rw [decide_eq_false h4]
  have H4 : Hid (x ≠ 4) := h4
  clear h4
  have g5 : w.cell? ⟨6, 0, none⟩ = some (.iface 112 (.pointer (some (a 5)))) := HA.out.er.h _ _ (by simp [erl])
  go_wp2_with (fail)
  refine (is_code HA.out x 5 HX.out (by simp [codes])).mono ?_
  rintro e w ⟨rfl, rfl⟩
  clear g5
  by_cases h5 : x = 5
  · rw [decide_eq_true h5]
    subst h5
    go_wp2_with (fail)
    go_ret
    exact ⟨rfl, rfl⟩
  rw [decide_eq_false h5]
  have H5 : Hid (x ≠ 5) := h5
  clear h5
  have g6 : w.cell? ⟨7, 0, none⟩ = some (.iface 112 (.pointer (some (a 6)))) := HA.out.er.h _ _ (by simp [erl])
  go_wp2_with (fail)
  refine (is_code HA.out x 6 HX.out (by simp [codes])).mono ?_
  rintro e w ⟨rfl, rfl⟩
  clear g6
  by_cases h6 : x = 6
  · rw [decide_eq_true h6]
    subst h6
    go_wp2_with (fail)
    go_ret
    exact ⟨rfl, rfl⟩
  rw [decide_eq_false h6]
  have H6 : Hid (x ≠ 6) := h6
  clear h6
  have g7 : w.cell? ⟨8, 0, none⟩ = some (.iface 112 (.pointer (some (a 7)))) := HA.out.er.h _ _ (by simp [erl])
  go_wp2_with (fail)
  refine (is_code HA.out x 7 HX.out (by simp [codes])).mono ?_
  rintro e w ⟨rfl, rfl⟩
  clear g7
  by_cases h7 : x = 7
  · rw [decide_eq_true h7]
    subst h7
    go_wp2_with (fail)
    go_ret
    exact ⟨rfl, rfl⟩
  rw [decide_eq_false h7]
  have H7 : Hid (x ≠ 7) := h7
  clear h7
  have g8 : w.cell? ⟨9, 0, none⟩ = some (.iface 112 (.pointer (some (a 8)))) := HA.out.er.h _ _ (by simp [erl])
  go_wp2_with (fail)
  refine (is_code HA.out x 8 HX.out (by simp [codes])).mono ?_
  rintro e w ⟨rfl, rfl⟩
  clear g8
  by_cases h8 : x = 8
  · rw [decide_eq_true h8]
    subst h8
    go_wp2_with (fail)
    go_ret
    exact ⟨rfl, rfl⟩
  rw [decide_eq_false h8]
  have H8 : Hid (x ≠ 8) := h8
  clear h8
  have g9 : w.cell? ⟨1, 0, none⟩ = some (.iface 112 (.pointer (some (a 9)))) := HA.out.er.h _ _ (by simp [erl])
  go_wp2_with (fail)
  refine (is_code HA.out x 9 HX.out (by simp [codes])).mono ?_
  rintro e w ⟨rfl, rfl⟩
  clear g9
  by_cases h9 : x = 9
  · rw [decide_eq_true h9]
    subst h9
    go_wp2_with (fail)
    go_ret
    exact ⟨rfl, rfl⟩
  rw [decide_eq_false h9]
  have H9 : Hid (x ≠ 9) := h9
  clear h9
  have g10 : w.cell? ⟨10, 0, none⟩ = some (.iface 112 (.pointer (some (a 10)))) := HA.out.er.h _ _ (by simp [erl])
  go_wp2_with (fail)
  refine (is_code HA.out x 10 HX.out (by simp [codes])).mono ?_
  rintro e w ⟨rfl, rfl⟩
  clear g10
  by_cases h10 : x = 10
  · rw [decide_eq_true h10]
    subst h10
    go_wp2_with (fail)
    go_ret
    exact ⟨rfl, rfl⟩
  rw [decide_eq_false h10]
  have H10 : Hid (x ≠ 10) := h10
  clear h10
  have g12 : w.cell? ⟨11, 0, none⟩ = some (.iface 112 (.pointer (some (a 12)))) := HA.out.er.h _ _ (by simp [erl])
  go_wp2_with (fail)
  refine (is_code HA.out x 12 HX.out (by simp [codes])).mono ?_
  rintro e w ⟨rfl, rfl⟩
  clear g12
  by_cases h12 : x = 12
  · rw [decide_eq_true h12]
    subst h12
    go_wp2_with (fail)
    go_ret
    exact ⟨rfl, rfl⟩
  rw [decide_eq_false h12]
  have H12 : Hid (x ≠ 12) := h12
  clear h12
  go_wp2_with (fail)
  go_ret
  have e : x = 13 := by
    have hx := HX.out
    simp [codes] at hx
    have := H1.out; have := H2.out; have := H3.out; have := H4.out; have := H5.out; have := H6.out; have := H7.out; have := H8.out; have := H9.out; have := H10.out; have := H12.out
    omega
  exact ⟨by rw [e]; rfl, rfl⟩

end Go.Proofs.YtbipolfbkemmpaaDoor.Dra

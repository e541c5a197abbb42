import Derived.Test.YtbeamigbcfkjjaaGreatDoorM1
import Derived.OpenShut
import Derived.Lib.SmallJoins
import Derived.Laws.IdiomArrays
import Derived.Test.YtbeamigbcfkjjaaGreatDoorChecked
import Derived.WalkKit
import Derived.LaidEql
import Derived.Stop.Asserts
import Derived.RowKitTokens

/- A book that is handed in, opened. -/
namespace Go.Proofs.YtbeamigbcfkjjaaGreatDoor.Book
open Go.ChangeShapes Go.WideShapes Go.ChangeAt Go.RowKit
open Go.Proofs.YtbeamigbcfkjjaaGreatDoor.Aid Go.Proofs.YtbeamigbcfkjjaaGreatDoor.Lst
set_option maxRecDepth 100000

def Sx.Good (x : Sx) (w : World) : Prop := x.At w ∧ x.n ≤ maxLen ∧ ∀ j, (Lit.int .i64 (x.f j)).wf = true
structure Bx.Good (b : Bx) (w : World) : Prop where
  s : (Lit.int .i64 b.s).wf = true
  each : ∀ x ∈ b.lists, x.Good w

theorem Bx.Good.at {b : Bx} {w : World} (h : b.Good w) : b.At w := fun x hx => (h.each x hx).1
theorem Bx.Good.short {b : Bx} {w : World} (h : b.Good w) : ∀ x ∈ b.lists, (x.n : Int) ≤ maxLen := fun x hx => by have := (h.each x hx).2.1; omega

theorem open_list {H : Type} {enc : TypeId × Value → H} {w : World} {n : Nat} {v : Value} {y : DataW H × List MemPlace} (h : DataW.trod enc Tryz.prog w 0 (fun _ => true) true n 22 [v] = some y) : ∃ x : Sx, v = .slice x.a x.n x.c ∧ x.Good w := by
  rcases open_ints Tryz.underlying22 Tryz.underlying3 (by kernel_rfl) h with ⟨hcs, _⟩ | ⟨x, l, c, zs, hcs, _, hl, hm, hz, _, hcell, hwz⟩
  · simp at hcs
    obtain ⟨g1, g2, g3⟩ := sl_of (k := .i64) (w := w) (a := none) (len := 0) (cap := 0) (zs := []) (.inl ⟨rfl, rfl, rfl, rfl⟩)
    exact ⟨⟨none, 0, 0, fun j => ([] : List Int).getD j 0⟩, hcs, g1, g2, g3⟩
  · simp at hcs
    obtain ⟨g1, g2, g3⟩ := sl_of (k := .i64) (w := w) (a := some x) (len := l) (cap := c) (zs := zs) (.inr ⟨x, rfl, hl, hm, by simpa using hz, hcell, hwz⟩)
    exact ⟨⟨some x, l, c, fun j => zs.getD j 0⟩, hcs, g1, g2, g3⟩

theorem array9 {α : Type} {cs : Array α} (h : cs.size = 9) : ∃ c0 c1 c2 c3 c4 c5 c6 c7 c8, cs = #[c0, c1, c2, c3, c4, c5, c6, c7, c8] := by
  obtain ⟨l⟩ := cs
  match l, h with
  | [c0, c1, c2, c3, c4, c5, c6, c7, c8], _ => exact ⟨c0, c1, c2, c3, c4, c5, c6, c7, c8, rfl⟩

theorem open_book {H : Type} {enc : TypeId × Value → H} {w : World} {r : Reach} {b0 : Nat} {v : Value} {d : DataW H} {p : List MemPlace} (hv : Value.okWide Tryz.prog w r b0 25 v) (h : DataW.Trod enc Tryz.prog w 0 (fun _ => true) true 25 v d p) :
    ∃ b : Bx, v = .agg b.cells.toArray ∧ b.Good w := by
  obtain ⟨cs, rfl, hsz⟩ := okWide_struct Tryz.underlying25 hv
  obtain ⟨c0, c1, c2, c3, c4, c5, c6, c7, c8, rfl⟩ := array9 (hsz.trans (by kernel_rfl))
  obtain ⟨fuel, hf⟩ := h
  obtain ⟨xs, n, _, _, _, hlen, hfl⟩ := DataW.trod_struct Tryz.underlying25 hf
  match xs, hlen with
  | [y0, y1, y2, y3, y4, y5], _ =>
    have k1 : Tryz.prog.cellsOf 3 = 1 := by kernel_rfl
    have k2 : Tryz.prog.cellsOf 22 = 1 := by kernel_rfl
    have k4 : Tryz.prog.cellsOf 23 = 4 := by kernel_rfl
    have g0 := hfl 0 _ rfl
    have g1 := hfl 1 _ rfl
    have g2 := hfl 2 _ rfl
    have g3 := hfl 3 _ rfl
    have g4 := hfl 4 _ rfl
    have g5 := hfl 5 _ rfl
    simp [Value.cells, k1, k2, k4] at g0 g1 g2 g3 g4 g5
    obtain ⟨x0, e0, -, u0⟩ := DataW.trod_int Tryz.underlying3 g0
    simp at e0
    subst e0
    obtain ⟨z0, z1, z2, z3, m, _, q0, q1, q2, q3⟩ := trod_array4 Tryz.underlying23 k2 g2
    obtain ⟨s1, rfl, i1⟩ := open_list g1
    obtain ⟨s2, rfl, i2⟩ := open_list q0
    obtain ⟨s3, rfl, i3⟩ := open_list q1
    obtain ⟨s4, rfl, i4⟩ := open_list q2
    obtain ⟨s5, rfl, i5⟩ := open_list q3
    obtain ⟨s6, rfl, i6⟩ := open_list g3
    obtain ⟨s7, rfl, i7⟩ := open_list g4
    obtain ⟨s8, rfl, i8⟩ := open_list g5
    refine ⟨⟨x0, s1, s2, s3, s4, s5, s6, s7, s8⟩, rfl, u0, ?_⟩
    simp only [Bx.lists, List.forall_mem_cons, List.not_mem_nil, false_implies, implies_true, and_true]
    exact ⟨i1, i2, i3, i4, i5, i6, i7, i8⟩

end Go.Proofs.YtbeamigbcfkjjaaGreatDoor.Book

/- errors.Is at the package's sentinels: Go's own text of it, walked. -/
namespace Go.Proofs.YtbeamigbcfkjjaaGreatDoor.Isx
open Go.RowKit Go.Extern.Stop Go.Stop Go.Extern
set_option linter.unusedVariables false
set_option maxRecDepth 100000

theorem typeOf_at (v : Value) (w : World) : (Extern.ReflectliteType.typeOf #[.iface 118 v]).run Tryz.prog w = .ok (.iface 107 (.agg #[.pointer (some ⟨12, 118, none⟩)])) w := by kernel_rfl

def cmpF : TypeId → Sem Value := fun t => do Extern.Rtype.noPackHeld "Comparable" t; pure (.bool (← typeInfo t).comparable)

theorem comparable_at (w : World) : (Extern.ReflectliteType.method cmpF #[.agg #[.pointer (some ⟨12, 118, none⟩)]]).run Tryz.prog w = .ok (.bool true) w := by kernel_rfl

theorem method_at (v : Value) (w : World) : (Go.method 256 107 v "Comparable").run Tryz.prog w = .ok (119, v) w := by kernel_rfl

theorem info_p : (Tryz.prog.info? 118).map (·.comparable) = some true := by kernel_rfl

theorem info_e : (Tryz.prog.info? 144).map (·.size) = some 1 := by kernel_rfl

theorem noIs (v : Value) (xT : TypeId) (w : World) : (Instr.typeAssert (.iface 118 v) xT 109 true).run Tryz.prog w = .ok (.tuple #[.nilIface, .bool false]) w := run_typeAssert_lacksB Tryz.underlying109 (by kernel_rfl) (by kernel_rfl) v xT w

theorem noUnwrap (v : Value) (xT : TypeId) (w : World) : (Instr.typeAssert (.iface 118 v) xT 112 true).run Tryz.prog w = .ok (.tuple #[.nilIface, .bool false]) w := run_typeAssert_lacksB Tryz.underlying112 (by kernel_rfl) (by kernel_rfl) v xT w

theorem noUnwraps (v : Value) (xT : TypeId) (w : World) : (Instr.typeAssert (.iface 118 v) xT 114 true).run Tryz.prog w = .ok (.tuple #[.nilIface, .bool false]) w := run_typeAssert_lacksB Tryz.underlying114 (by kernel_rfl) (by kernel_rfl) v xT w

/- errors.Is(x, x). -/
theorem is_same (a : Addr) (w : World) :
    Calls Tryz.prog 80 #[.iface 118 (.pointer (some a)), .iface 118 (.pointer (some a))] w fun e w' => e = .returned (.bool true) ∧ w' = w := by
  obtain ⟨i, hi, hcmp⟩ := Option.map_eq_some_iff.1 info_p
  obtain ⟨j, hj, hjs⟩ := Option.map_eq_some_iff.1 info_e
  have h8 := @run_callFunc_extern Tryz.prog 88 _ Extern.ReflectliteType.typeOf Tryz.func88 (by kernel_rfl) (by kernel_rfl) (by kernel_rfl) (by kernel_rfl)
  have h32 := @run_callFunc_extern Tryz.prog 119 _ (Extern.ReflectliteType.method cmpF) Tryz.func119 (by kernel_rfl) (by kernel_rfl) (by kernel_rfl) (by kernel_rfl)
  have tT := typeOf_at
  have cT := comparable_at
  have mR := method_at
  have heq := run_eql_iface_ptr_same (P := Tryz.prog) w a Tryz.underlying76 Tryz.underlying118 hi hcmp hj
  go_enter Tryz.func80, Tryz.ntmps80
  go_wp2
  refine wp_loop_rounds 1 ?_
  rw [rounds_succ]
  go_wp2
  go_ret
  exact ⟨rfl, rfl⟩

/- errors.Is(x, y), two different ones. -/
theorem is_other (a b : Addr) (ca cb : Array Value) (ta tb : TypeId) (w : World) (hne : a ≠ b) (ha : w.heap[a.block]? = some (.cells ca ta (0, 0))) (hb : w.heap[b.block]? = some (.cells cb tb (0, 0))) :
    Calls Tryz.prog 80 #[.iface 118 (.pointer (some a)), .iface 118 (.pointer (some b))] w fun e w' => e = .returned (.bool false) ∧ w' = w := by
  obtain ⟨i, hi, hcmp⟩ := Option.map_eq_some_iff.1 info_p
  obtain ⟨j, hj, hjs⟩ := Option.map_eq_some_iff.1 info_e
  have h8 := @run_callFunc_extern Tryz.prog 88 _ Extern.ReflectliteType.typeOf Tryz.func88 (by kernel_rfl) (by kernel_rfl) (by kernel_rfl) (by kernel_rfl)
  have h32 := @run_callFunc_extern Tryz.prog 119 _ (Extern.ReflectliteType.method cmpF) Tryz.func119 (by kernel_rfl) (by kernel_rfl) (by kernel_rfl) (by kernel_rfl)
  have tT := typeOf_at
  have cT := comparable_at
  have mR := method_at
  have nE := noIs
  have uE := noUnwrap
  have vE := noUnwraps
  have heq := run_eql_iface_ptr_other (P := Tryz.prog) w Tryz.underlying76 Tryz.underlying118 hi hcmp hj (by rw [hjs]; decide) hne ha hb
  go_enter Tryz.func80, Tryz.ntmps80
  go_wp2
  refine wp_loop_rounds 1 ?_
  rw [rounds_succ]
  go_wp2
  go_ret
  exact ⟨rfl, rfl⟩

end Go.Proofs.YtbeamigbcfkjjaaGreatDoor.Isx

/- Rings of links: who is behind whom, and who is ahead: over no program and no memory. -/
namespace Go.Proofs.YtbeamigbcfkjjaaGreatDoor.Rin
set_option linter.unusedVariables false

def upd (f : Nat → Nat) (k v : Nat) : Nat → Nat := fun i => if i = k then v else f i
theorem upd_same (f : Nat → Nat) (k v : Nat) : upd f k v k = v := by simp [upd]
theorem upd_ne {f : Nat → Nat} {k v i : Nat} (h : i ≠ k) : upd f k v i = f i := by simp [upd, h]

/- From a through l to b: each one's next is the one behind it, whose prev is it. -/
def Dseg (nx pv : Nat → Nat) : Nat → List Nat → Nat → Prop
  | a, [], b => nx a = b ∧ pv b = a
  | a, x :: l, b => nx a = x ∧ pv x = a ∧ Dseg nx pv x l b

theorem dseg_app {nx pv : Nat → Nat} : ∀ {l1 : List Nat} {a x b : Nat} {l2 : List Nat}, Dseg nx pv a (l1 ++ x :: l2) b ↔ Dseg nx pv a l1 x ∧ Dseg nx pv x l2 b
  | [], a, x, b, l2 => by simp only [List.nil_append, Dseg]; exact ⟨fun ⟨h1, h2, h3⟩ => ⟨⟨h1, h2⟩, h3⟩, fun ⟨⟨h1, h2⟩, h3⟩ => ⟨h1, h2, h3⟩⟩
  | y :: r, a, x, b, l2 => by
    simp only [List.cons_append, Dseg, dseg_app (l1 := r)]
    exact ⟨fun ⟨h1, h2, h3, h4⟩ => ⟨⟨h1, h2, h3⟩, h4⟩, fun ⟨⟨h1, h2, h3⟩, h4⟩ => ⟨h1, h2, h3, h4⟩⟩

theorem dseg_congr {nx pv nx' pv' : Nat → Nat} : ∀ {l : List Nat} {a b : Nat}, Dseg nx pv a l b → (∀ i, i = a ∨ i ∈ l → nx' i = nx i) → (∀ i, i ∈ l ∨ i = b → pv' i = pv i) → Dseg nx' pv' a l b
  | [], a, b, h, hn, hp => ⟨(hn a (.inl rfl)).trans h.1, (hp b (.inr rfl)).trans h.2⟩
  | x :: r, a, b, h, hn, hp => ⟨(hn a (.inl rfl)).trans h.1, (hp x (.inl List.mem_cons_self)).trans h.2.1,
    dseg_congr h.2.2 (fun i hi => hn i (.inr (by rcases hi with rfl | hi; exact List.mem_cons_self; exact List.mem_cons_of_mem _ hi))) (fun i hi => hp i (by rcases hi with hi | hi; exact .inl (List.mem_cons_of_mem _ hi); exact .inr hi))⟩

/- A ring: from s through l back to s. -/
structure Ring (nx pv : Nat → Nat) (s : Nat) (l : List Nat) : Prop where
  d : Dseg nx pv s l s
  n : (s :: l).Nodup
theorem Ring.next {nx pv : Nat → Nat} {s : Nat} {l : List Nat} (h : Ring nx pv s l) : nx s = l.headD s := by
  have := h.d
  cases l with
  | nil => exact this.1
  | cons x r => exact this.1
theorem Ring.prev {nx pv : Nat → Nat} {s : Nat} {l : List Nat} (h : Ring nx pv s l) : pv s = l.getLastD s := by
  have := h.d
  rcases List.eq_nil_or_concat l with rfl | ⟨r, x, rfl⟩
  · exact this.2
  · rw [List.concat_eq_append] at this ⊢
    have := (dseg_app.1 this).2.2
    simpa using this

/- A link is put between a and b. -/
theorem dseg_put {nx pv : Nat → Nat} {l1 l2 : List Nat} {s a x : Nat} (hn : (s :: (l1 ++ l2)).Nodup) (hx : x ∉ s :: (l1 ++ l2)) (ha : a = l1.getLastD s) (hd : Dseg nx pv s (l1 ++ l2) s) :
    Dseg (upd (upd nx x (l2.headD s)) a x) (upd (upd pv x a) (l2.headD s) x) s (l1 ++ x :: l2) s := by
  have hxs : x ≠ s := fun e => hx (by rw [e]; exact List.mem_cons_self)
  have hx1 : ∀ i ∈ l1, i ≠ x := fun i hi e => hx (by rw [← e]; exact List.mem_cons_of_mem _ (List.mem_append_left _ hi))
  have hx2 : ∀ i ∈ l2, i ≠ x := fun i hi e => hx (by rw [← e]; exact List.mem_cons_of_mem _ (List.mem_append_right _ hi))
  rw [List.nodup_cons, List.nodup_append] at hn
  obtain ⟨hs, n1, n2, n3⟩ := hn
  have hs1 : s ∉ l1 := fun h => hs (List.mem_append_left _ h)
  have hs2 : s ∉ l2 := fun h => hs (List.mem_append_right _ h)
  refine dseg_app.2 ⟨?_, ?_⟩
  · -- from s through l1 to x
    rcases List.eq_nil_or_concat l1 with rfl | ⟨r, y, rfl⟩
    · simp only [List.getLastD_nil] at ha
      subst ha
      refine ⟨upd_same _ _ _, ?_⟩
      rw [upd_ne (show x ≠ l2.headD a from ?_), upd_same]
      cases l2 with
      | nil => exact hxs
      | cons z t => exact (hx2 z List.mem_cons_self).symm
    · simp only [List.concat_eq_append] at *
      have ey : a = y := by rw [ha]; simp
      subst ey
      rw [List.append_assoc, List.singleton_append] at hd
      have h1 := (dseg_app.1 hd).1
      refine dseg_app.2 ⟨dseg_congr h1 (fun i hi => ?_) (fun i hi => ?_), upd_same _ _ _, ?_⟩
      · have e1 : i ≠ x := by rcases hi with rfl | hi; exact hxs.symm; exact hx1 i (List.mem_append_left _ hi)
        have e2 : i ≠ a := by
          rcases hi with rfl | hi
          · exact fun e => hs1 (by rw [e]; simp)
          · rw [List.nodup_append] at n1; exact fun e => n1.2.2 i hi a (by simp) e
        rw [upd_ne e2, upd_ne e1]
      · have e1 : i ≠ x := by rcases hi with hi | rfl; exact hx1 i (List.mem_append_left _ hi); exact hx1 i (by simp)
        have m1 : i ∈ r ++ [a] := by rcases hi with hi | rfl; exact List.mem_append_left _ hi; simp
        have e2 : i ≠ l2.headD s := by
          cases l2 with
          | nil => exact fun e => hs1 (by simp only [List.headD_nil] at e; rw [← e]; exact m1)
          | cons z t => exact fun e => n3 i m1 z List.mem_cons_self e
        rw [upd_ne e2, upd_ne e1]
      · rw [upd_ne (show x ≠ l2.headD s from ?_), upd_same]
        cases l2 with
        | nil => exact hxs
        | cons z t => exact (hx2 z List.mem_cons_self).symm
  · -- from x through l2 to s
    have xa : x ≠ a := by
      rcases List.eq_nil_or_concat l1 with rfl | ⟨r, y, rfl⟩
      · simp only [List.getLastD_nil] at ha; rw [ha]; exact hxs
      · simp only [List.concat_eq_append] at ha hx1; rw [ha]; simp; exact (hx1 y (by simp)).symm
    have al : ∀ i ∈ l2, i ≠ a := by
      rcases List.eq_nil_or_concat l1 with rfl | ⟨r, y, rfl⟩
      · simp only [List.getLastD_nil] at ha; rw [ha]; exact fun i hi e => hs2 (by rw [← e]; exact hi)
      · simp only [List.concat_eq_append] at ha n3; rw [ha]; simp; exact fun i hi e => n3 y (by simp) i hi e.symm
    cases l2 with
    | nil => exact ⟨by rw [upd_ne xa, upd_same]; rfl, upd_same _ _ _⟩
    | cons z t =>
      have h2 : Dseg nx pv z t s := (dseg_app.1 hd).2
      refine ⟨by rw [upd_ne xa, upd_same]; rfl, upd_same _ _ _, dseg_congr h2 (fun i hi => ?_) (fun i hi => ?_)⟩
      · have m : i ∈ z :: t := by rcases hi with rfl | hi; exact List.mem_cons_self; exact List.mem_cons_of_mem _ hi
        rw [upd_ne (al i m), upd_ne (hx2 i m)]
      · have e1 : i ≠ x := by rcases hi with hi | rfl; exact hx2 i (List.mem_cons_of_mem _ hi); exact hxs.symm
        have e2 : i ≠ z := by
          rcases hi with hi | rfl
          · exact fun e => (List.nodup_cons.1 n2).1 (by rw [← e]; exact hi)
          · exact fun e => hs2 (by rw [e]; exact List.mem_cons_self)
        rw [upd_ne (show i ≠ (z :: t).headD s from e2), upd_ne e1]

theorem Ring.follow {nx pv : Nat → Nat} {s x : Nat} {l : List Nat} (h : Ring nx pv s l) (hx : x ∉ s :: l) : Ring (upd (upd nx x (nx s)) s x) (upd (upd pv x s) (nx s) x) s (x :: l) := by
  have := dseg_put (l1 := []) (l2 := l) (a := s) (x := x) h.n hx rfl h.d
  rw [h.next]
  refine ⟨this, ?_⟩
  have n := h.n
  rw [List.nodup_cons] at n ⊢
  refine ⟨fun m => ?_, List.nodup_cons.2 ⟨fun m => hx (List.mem_cons_of_mem _ m), n.2⟩⟩
  rcases List.mem_cons.1 m with e | m
  · exact hx (by rw [e]; exact List.mem_cons_self)
  · exact n.1 m
/- .. behind the last one: 'ring.prev.follow'. -/
theorem Ring.append {nx pv : Nat → Nat} {s x : Nat} {l : List Nat} (h : Ring nx pv s l) (hx : x ∉ s :: l) : nx (pv s) = s ∧ Ring (upd (upd nx x s) (pv s) x) (upd (upd pv x (pv s)) s x) s (l ++ [x]) := by
  have hd : Dseg nx pv s (l ++ []) s := by rw [List.append_nil]; exact h.d
  have := dseg_put (l1 := l) (l2 := []) (a := pv s) (x := x) (by rw [List.append_nil]; exact h.n) (by rw [List.append_nil]; exact hx) h.prev hd
  refine ⟨?_, this, ?_⟩
  · rw [h.prev]
    have d := h.d
    rcases List.eq_nil_or_concat l with rfl | ⟨r, y, rfl⟩
    · exact d.1
    · rw [List.concat_eq_append] at d ⊢
      have := (dseg_app.1 d).2.1
      simpa using this
  · have n := h.n
    rw [List.nodup_cons] at n ⊢
    refine ⟨fun m => ?_, List.nodup_append.2 ⟨n.2, by simp, fun i hi j hj e => ?_⟩⟩
    · rcases List.mem_append.1 m with m | m
      · exact n.1 m
      · simp at m; exact hx (by rw [m]; exact List.mem_cons_self)
    · simp at hj; subst hj; exact hx (by rw [← e]; exact List.mem_cons_of_mem _ hi)

/- A link is taken out: its own next and prev stay. -/
theorem Ring.leave {nx pv : Nat → Nat} {s x : Nat} {l1 l2 : List Nat} (h : Ring nx pv s (l1 ++ x :: l2)) :
    nx x = l2.headD s ∧ pv x = l1.getLastD s ∧ Ring (upd nx (pv x) (nx x)) (upd pv (nx x) (pv x)) s (l1 ++ l2) ∧ x ≠ pv x := by
  obtain ⟨d1, d2⟩ := dseg_app.1 h.d
  have n := h.n
  rw [List.nodup_cons, List.nodup_append] at n
  obtain ⟨hs, n1, n2, n3⟩ := n
  obtain ⟨n4, n5⟩ := List.nodup_cons.1 n2
  have hs1 : s ∉ l1 := fun m => hs (List.mem_append_left _ m)
  have hs2 : s ∉ l2 := fun m => hs (List.mem_append_right _ (List.mem_cons_of_mem _ m))
  have hxs : x ≠ s := fun e => hs (by rw [← e]; exact List.mem_append_right _ List.mem_cons_self)
  have hx1 : x ∉ l1 := fun m => n3 x m x List.mem_cons_self rfl
  have h12 : ∀ i ∈ l1, i ∉ l2 := fun i hi m => n3 i hi i (List.mem_cons_of_mem _ m) rfl
  have en : nx x = l2.headD s := by
    cases l2 with
    | nil => exact d2.1
    | cons z t => exact d2.1
  have ep : pv x = l1.getLastD s := by
    rcases List.eq_nil_or_concat l1 with rfl | ⟨r, y, rfl⟩
    · exact d1.2
    · rw [List.concat_eq_append] at d1 ⊢
      have := (dseg_app.1 d1).2.2
      simpa using this
  have xp : x ≠ l1.getLastD s := by
    rcases List.eq_nil_or_concat l1 with rfl | ⟨r, y, rfl⟩
    · simpa using hxs
    · rw [List.concat_eq_append] at hx1 ⊢
      simp at hx1 ⊢
      exact fun e => hx1.2 e
  rw [en, ep]
  refine ⟨rfl, rfl, ⟨?_, ?_⟩, xp⟩
  · -- the part behind, from p
    have tailD : ∀ p, (∀ i ∈ l2, i ≠ p) → Dseg (upd nx p (l2.headD s)) (upd pv (l2.headD s) p) p l2 s := by
      intro p hp
      cases l2 with
      | nil => exact ⟨upd_same _ _ _, upd_same _ _ _⟩
      | cons z t =>
        refine ⟨upd_same _ _ _, upd_same _ _ _, dseg_congr d2.2.2 (fun i hi => ?_) (fun i hi => ?_)⟩
        · have m : i ∈ z :: t := by rcases hi with rfl | hi; exact List.mem_cons_self; exact List.mem_cons_of_mem _ hi
          rw [upd_ne (hp i m)]
        · have e2 : i ≠ z := by
            rcases hi with hi | rfl
            · exact fun e => (List.nodup_cons.1 n5).1 (by rw [← e]; exact hi)
            · exact fun e => hs2 (by rw [e]; exact List.mem_cons_self)
          rw [upd_ne (show i ≠ (z :: t).headD s from e2)]
    rcases List.eq_nil_or_concat l1 with rfl | ⟨r, y, rfl⟩
    · simp only [List.getLastD_nil, List.nil_append]
      exact tailD s (fun i hi e => hs2 (by rw [← e]; exact hi))
    · simp only [List.concat_eq_append] at *
      have ey : (r ++ [y]).getLastD s = y := by simp
      rw [ey]
      rw [List.append_assoc, List.singleton_append]
      refine dseg_app.2 ⟨dseg_congr (dseg_app.1 d1).1 (fun i hi => ?_) (fun i hi => ?_), tailD y (fun i hi e => h12 y (by simp) (by rw [← e]; exact hi))⟩
      · have e1 : i ≠ y := by
          rcases hi with rfl | hi
          · exact fun e => hs1 (by rw [e]; simp)
          · rw [List.nodup_append] at n1; exact fun e => n1.2.2 i hi y (by simp) e
        rw [upd_ne e1]
      · have m1 : i ∈ r ++ [y] := by rcases hi with hi | rfl; exact List.mem_append_left _ hi; simp
        have e1 : i ≠ l2.headD s := by
          cases l2 with
          | nil => exact fun e => hs1 (by simp only [List.headD_nil] at e; rw [← e]; exact m1)
          | cons z t => exact fun e => h12 i m1 (by simp only [List.headD_cons] at e; rw [e]; exact List.mem_cons_self)
        rw [upd_ne e1]
  · refine List.nodup_cons.2 ⟨fun m => ?_, List.nodup_append.2 ⟨n1, n5, fun i hi j hj => n3 i hi j (List.mem_cons_of_mem _ hj)⟩⟩
    rcases List.mem_append.1 m with m | m
    · exact hs1 m
    · exact hs2 m

end Go.Proofs.YtbeamigbcfkjjaaGreatDoor.Rin

/- Rings of links in memory: over no program. -/
namespace Go.Proofs.YtbeamigbcfkjjaaGreatDoor.Rin
open Go.ChangeShapes Go.WideShapes Go.ChangeAt Go.RowKit
open Go.Proofs.YtbeamigbcfkjjaaGreatDoor.Aid
set_option linter.unusedVariables false

def ptr (k : Nat) : Value := .pointer (some ⟨k, 0, none⟩)
def updI (f : Nat → Int) (k : Nat) (v : Int) : Nat → Int := fun i => if i = k then v else f i
theorem updI_same (f : Nat → Int) (k : Nat) (v : Int) : updI f k v k = v := by simp [updI]
theorem updI_ne {f : Nat → Int} {k i : Nat} {v : Int} (h : i ≠ k) : updI f k v i = f i := by simp [updI, h]

/- A link: a room, the next one, the one ahead. -/
structure Lk (w : World) (un : Nat → Int) (nx pv : Nat → Nat) (k : Nat) : Prop where
  u : w.cell? ⟨k, 0, none⟩ = some (.int .i64 (un k))
  n : w.cell? ⟨k, 1, none⟩ = some (ptr (nx k))
  p : w.cell? ⟨k, 2, none⟩ = some (ptr (pv k))
  fn : w.frozen? ⟨k, 1, none⟩ = false
  fp : w.frozen? ⟨k, 2, none⟩ = false
  o : ∃ C t, w.heap[k]? = some (.cells C t (0, 0))
theorem Lk.lt {w : World} {un : Nat → Int} {nx pv : Nat → Nat} {k : Nat} (h : Lk w un nx pv k) : k < w.heap.size := World.block_lt_of_cell? w _ h.u
theorem Lk.of_block {w w1 : World} {un : Nat → Int} {nx pv : Nat → Nat} {k : Nat} (h : Lk w un nx pv k) (hb : w1.heap[k]? = w.heap[k]?) : Lk w1 un nx pv k :=
  ⟨(World.cell?_of_block (w := w) hb).trans h.u, (World.cell?_of_block (w := w) hb).trans h.n, (World.cell?_of_block (w := w) hb).trans h.p, (World.frozen?_of_block (w := w) hb).trans h.fn, (World.frozen?_of_block (w := w) hb).trans h.fp, by rw [hb]; exact h.o⟩
theorem Lk.setN {w : World} {un : Nat → Int} {nx pv : Nat → Nat} {k : Nat} (h : Lk w un nx pv k) (v : Nat) : Lk (w.setCell ⟨k, 1, none⟩ (ptr v)) un (upd nx k v) pv k :=
  ⟨by rw [World.cell?_setCell_other _ _ _ _ (by simp)]; exact h.u, by rw [World.cell?_setCell_same _ _ _ h.n, upd_same], by rw [World.cell?_setCell_other _ _ _ _ (by simp)]; exact h.p, by simp [h.fn], by simp [h.fp], by obtain ⟨C, t, e⟩ := h.o; exact ⟨_, t, heap_setCell_same w k 1 C t _ e⟩⟩
theorem Lk.setP {w : World} {un : Nat → Int} {nx pv : Nat → Nat} {k : Nat} (h : Lk w un nx pv k) (v : Nat) : Lk (w.setCell ⟨k, 2, none⟩ (ptr v)) un nx (upd pv k v) k :=
  ⟨by rw [World.cell?_setCell_other _ _ _ _ (by simp)]; exact h.u, by rw [World.cell?_setCell_other _ _ _ _ (by simp)]; exact h.n, by rw [World.cell?_setCell_same _ _ _ h.p, upd_same], by simp [h.fn], by simp [h.fp], by obtain ⟨C, t, e⟩ := h.o; exact ⟨_, t, heap_setCell_same w k 2 C t _ e⟩⟩
theorem Lk.far {w : World} {un : Nat → Int} {nx pv : Nat → Nat} {k b o : Nat} (h : Lk w un nx pv k) (hb : b ≠ k) (x : Value) : Lk (w.setCell ⟨b, o, none⟩ x) un nx pv k :=
  h.of_block (Below.heap_setCell w ⟨b, o, none⟩ x k (Ne.symm hb))
theorem Lk.congr {w : World} {un un' : Nat → Int} {nx pv nx' pv' : Nat → Nat} {k : Nat} (h : Lk w un nx pv k) (eu : un' k = un k) (en : nx' k = nx k) (ep : pv' k = pv k) : Lk w un' nx' pv' k :=
  ⟨by rw [eu]; exact h.u, by rw [en]; exact h.n, by rw [ep]; exact h.p, h.fn, h.fp, h.o⟩

def Mem (w : World) (un : Nat → Int) (nx pv : Nat → Nat) (ks : List Nat) : Prop := ∀ k ∈ ks, Lk w un nx pv k
theorem Mem.setN {w : World} {un : Nat → Int} {nx pv : Nat → Nat} {ks : List Nat} (h : Mem w un nx pv ks) (a v : Nat) : Mem (w.setCell ⟨a, 1, none⟩ (ptr v)) un (upd nx a v) pv ks := fun k hk => by
  by_cases e : k = a
  · subst e; exact (h k hk).setN v
  · exact ((h k hk).far (Ne.symm e) _).congr rfl (upd_ne e) rfl
theorem Mem.setP {w : World} {un : Nat → Int} {nx pv : Nat → Nat} {ks : List Nat} (h : Mem w un nx pv ks) (a v : Nat) : Mem (w.setCell ⟨a, 2, none⟩ (ptr v)) un nx (upd pv a v) ks := fun k hk => by
  by_cases e : k = a
  · subst e; exact (h k hk).setP v
  · exact ((h k hk).far (Ne.symm e) _).congr rfl rfl (upd_ne e)
theorem Mem.later {w w1 : World} {un : Nat → Int} {nx pv : Nat → Nat} {ks : List Nat} (h : Mem w un nx pv ks) (hb : Below w.heap.size w w1) : Mem w1 un nx pv ks := fun k hk => (h k hk).of_block (hb.block k (h k hk).lt)
/- A new link. -/
theorem Mem.make {w : World} {un : Nat → Int} {nx pv : Nat → Nat} {ks : List Nat} (h : Mem w un nx pv ks) (u : Int) (b a : Nat) (t : TypeId) :
    Mem (w.alloc (.cells #[.int .i64 u, ptr b, ptr a] t)) (updI un w.heap.size u) (upd nx w.heap.size b) (upd pv w.heap.size a) (w.heap.size :: ks) := fun k hk => by
  rcases List.mem_cons.1 hk with rfl | hk
  · have hb := heap1_0 w (.cells #[.int .i64 u, ptr b, ptr a] t)
    exact ⟨by rw [cell_of_row _ _ 0 _ _ _ hb, updI_same]; rfl, by rw [cell_of_row _ _ 1 _ _ _ hb, upd_same]; rfl, by rw [cell_of_row _ _ 2 _ _ _ hb, upd_same]; rfl, frozen_of_row _ _ 1 _ _ hb, frozen_of_row _ _ 2 _ _ hb, ⟨_, _, hb⟩⟩
  · have l := (h k hk).lt
    exact ((h k hk).of_block ((below1 w _).block k l)).congr (updI_ne (by omega)) (upd_ne (by omega)) (upd_ne (by omega))

/- A ring in memory, and the rooms in their order. -/
structure Rg (w : World) (B : Nat) (s : Nat) (U : List Int) (un : Nat → Int) (nx pv : Nat → Nat) (l : List Nat) : Prop where
  r : Ring nx pv s l
  m : Mem w un nx pv (s :: l)
  u : l.map un = U
  b : ∀ k ∈ s :: l, B ≤ k
theorem Rg.later {w w1 : World} {B s : Nat} {U : List Int} {un : Nat → Int} {nx pv : Nat → Nat} {l : List Nat} (h : Rg w B s U un nx pv l) (hb : Below w.heap.size w w1) : Rg w1 B s U un nx pv l := ⟨h.r, h.m.later hb, h.u, h.b⟩
theorem Rg.fresh {w : World} {B s : Nat} {U : List Int} {un : Nat → Int} {nx pv : Nat → Nat} {l : List Nat} (h : Rg w B s U un nx pv l) : w.heap.size ∉ s :: l := fun m => Nat.lt_irrefl _ (h.m _ m).lt
/- In front: 'ring.follow'. -/
theorem Rg.follow {w : World} {B s : Nat} {U : List Int} {un : Nat → Int} {nx pv : Nat → Nat} {l : List Nat} (h : Rg w B s U un nx pv l) (hB : B ≤ w.heap.size) (u : Int) (t : TypeId) :
    Rg (((w.alloc (.cells #[.int .i64 u, ptr (nx s), ptr s] t)).setCell ⟨nx s, 2, none⟩ (ptr w.heap.size)).setCell ⟨s, 1, none⟩ (ptr w.heap.size)) B s (u :: U) (updI un w.heap.size u) (upd (upd nx w.heap.size (nx s)) s w.heap.size) (upd (upd pv w.heap.size s) (nx s) w.heap.size) (w.heap.size :: l) := by
  refine ⟨h.r.follow h.fresh, fun k hk => (((h.m.make u (nx s) s t).setP (nx s) w.heap.size).setN s w.heap.size) k ?_, ?_, fun k hk => ?_⟩
  · simp only [List.mem_cons] at hk ⊢
    rcases hk with h1 | h1 | h1
    · exact .inr (.inl h1)
    · exact .inl h1
    · exact .inr (.inr h1)
  · rw [List.map_cons, updI_same, ← h.u]
    congr 1
    exact List.map_congr_left (fun k hk => updI_ne (fun e => h.fresh (by rw [← e]; exact List.mem_cons_of_mem _ hk)))
  · simp only [List.mem_cons] at hk
    rcases hk with rfl | rfl | h1
    · exact h.b _ List.mem_cons_self
    · exact hB
    · exact h.b k (List.mem_cons_of_mem _ h1)
/- Behind the last one: 'ring.prev.follow'. -/
theorem Rg.append {w : World} {B s : Nat} {U : List Int} {un : Nat → Int} {nx pv : Nat → Nat} {l : List Nat} (h : Rg w B s U un nx pv l) (hB : B ≤ w.heap.size) (u : Int) (t : TypeId) :
    nx (pv s) = s ∧ Rg (((w.alloc (.cells #[.int .i64 u, ptr s, ptr (pv s)] t)).setCell ⟨s, 2, none⟩ (ptr w.heap.size)).setCell ⟨pv s, 1, none⟩ (ptr w.heap.size)) B s (U ++ [u]) (updI un w.heap.size u) (upd (upd nx w.heap.size s) (pv s) w.heap.size) (upd (upd pv w.heap.size (pv s)) s w.heap.size) (l ++ [w.heap.size]) := by
  obtain ⟨e, r⟩ := h.r.append h.fresh
  refine ⟨e, r, fun k hk => (((h.m.make u s (pv s) t).setP s w.heap.size).setN (pv s) w.heap.size) k ?_, ?_, fun k hk => ?_⟩
  · simp only [List.mem_cons, List.mem_append, List.not_mem_nil, or_false] at hk ⊢
    rcases hk with h1 | h1 | h1
    · exact .inr (.inl h1)
    · exact .inr (.inr h1)
    · exact .inl h1
  · rw [List.map_append, List.map_cons, List.map_nil, updI_same, ← h.u]
    congr 1
    exact List.map_congr_left (fun k hk => updI_ne (fun e => h.fresh (by rw [← e]; exact List.mem_cons_of_mem _ hk)))
  · simp only [List.mem_cons, List.mem_append, List.not_mem_nil, or_false] at hk
    rcases hk with rfl | h1 | rfl
    · exact h.b _ List.mem_cons_self
    · exact h.b k (List.mem_cons_of_mem _ h1)
    · exact hB
/- A link leaves: its own next stays. -/
theorem Rg.leave {w : World} {B s x : Nat} {U : List Int} {un : Nat → Int} {nx pv : Nat → Nat} {l1 l2 : List Nat} (h : Rg w B s U un nx pv (l1 ++ x :: l2)) :
    nx x = l2.headD s ∧ pv x = l1.getLastD s ∧ x ≠ pv x ∧
    Rg ((w.setCell ⟨pv x, 1, none⟩ (ptr (nx x))).setCell ⟨nx x, 2, none⟩ (ptr (pv x))) B s ((l1 ++ l2).map un) un (upd nx (pv x) (nx x)) (upd pv (nx x) (pv x)) (l1 ++ l2) := by
  obtain ⟨e1, e2, r, e3⟩ := h.r.leave
  refine ⟨e1, e2, e3, r, fun k hk => (((h.m.setN (pv x) (nx x)).setP (nx x) (pv x)) k ?_), rfl, fun k hk => h.b k ?_⟩
  all_goals
    simp only [List.mem_cons, List.mem_append] at hk ⊢
    rcases hk with h1 | h1 | h1
    · exact .inl h1
    · exact .inr (.inl h1)
    · exact .inr (.inr (.inr h1))

end Go.Proofs.YtbeamigbcfkjjaaGreatDoor.Rin

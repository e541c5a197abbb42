import Derived.Test.YtbeamigbcfkjjaaGreatDoorM2
import Derived.Test.YtbeamigbcfkjjaaGreatDoorDr12
import Derived.Test.YtbeamigbcfkjjaaGreatDoorRows
import Derived.Stop.LaidTwo
import Derived.LaidMore
import Derived.MakeChecks
import Derived.MapKept

/- The program's code of an error. -/
namespace Go.Proofs.YtbeamigbcfkjjaaGreatDoor.Dra
open Go.ChangeShapes Go.WideShapes Go.ChangeAt Go.RowKit
open Go.Proofs.YtbeamigbcfkjjaaGreatDoor.Aid Go.Proofs.YtbeamigbcfkjjaaGreatDoor.Lst Go.Proofs.YtbeamigbcfkjjaaGreatDoor.Book Go.Proofs.YtbeamigbcfkjjaaGreatDoor.Rin
set_option maxRecDepth 100000
set_option linter.unusedVariables false

def codes : List Nat := [1, 2, 3, 4, 5, 6, 7, 8, 9, 10, 12, 13]
/- The errors, apart from each other. -/
structure Ea (a : Nat → Addr) (w : World) : Prop where
  er : Er a w
  ne : ∀ x y, x ∈ codes → y ∈ codes → x ≠ y → a x ≠ a y
  bk : ∀ x, x ∈ codes → ∃ C t, w.heap[(a x).block]? = some (.cells C t (0, 0))
theorem lt_of_get {α : Type} {A : Array α} {i : Nat} {x : α} (h : A[i]? = some x) : i < A.size := Nat.lt_of_not_le fun hle => by rw [Array.getElem?_eq_none hle] at h; cases h
theorem Ea.later {a : Nat → Addr} {w w1 : World} (h : Ea a w) (hb : Below w.heap.size w w1) : Ea a w1 := ⟨h.er.later hb, h.ne, fun x hx => by
  obtain ⟨C, t, e⟩ := h.bk x hx
  exact ⟨C, t, by rw [hb.block _ (lt_of_get e)]; exact e⟩⟩
theorem run_eql_iface_nil {P : Program} {ti : TypeId} {ms : Array (String × TypeId)} (w : World) (tp : TypeId) (v : Value) (hi : P.underlying ti = some (.interface ms)) : (binOp .eql ti (.iface tp v) .nilIface).run P w = .ok (.bool false) w := by
  have h : ∀ d : Nat, (Op.equalIn (d + 1) ti (.iface tp v) .nilIface).run P w = .ok false w := fun d => by simp [Op.equalIn, run_underlying hi]
  simp only [binOp]
  simp [Op.equal, Op.maxDepth, h 9999]
theorem run_eql_nil_nil {P : Program} {ti : TypeId} {ms : Array (String × TypeId)} (w : World) (hi : P.underlying ti = some (.interface ms)) : (binOp .eql ti .nilIface .nilIface).run P w = .ok (.bool true) w := by
  have h : ∀ d : Nat, (Op.equalIn (d + 1) ti .nilIface .nilIface).run P w = .ok true w := fun d => by simp [Op.equalIn, run_underlying hi]
  simp only [binOp]
  simp [Op.equal, Op.maxDepth, h 9999]

theorem is_code {a : Nat → Addr} {w : World} (h : Ea a w) (x y : Nat) (hx : x ∈ codes) (hy : y ∈ codes) :
    Calls Tryz.prog 80 #[.iface 118 (.pointer (some (a x))), .iface 118 (.pointer (some (a y)))] w fun e w' => e = .returned (.bool (decide (x = y))) ∧ w' = w := by
  by_cases e : x = y
  · subst e
    rw [decide_eq_true rfl]
    exact Isx.is_same (a x) w
  · rw [decide_eq_false e]
    obtain ⟨C, t, e1⟩ := h.bk x hx
    obtain ⟨C', t', e2⟩ := h.bk y hy
    exact Isx.is_other (a x) (a y) C C' t t' w (h.ne x y hx hy e) e1 e2

set_option maxHeartbeats 4000000 in
theorem code_nil (w : World) : Calls Tryz.prog 65 #[.nilIface] w fun e w' => e = .returned (.int .i64 0) ∧ w' = w := by
  have q := run_eql_nil_nil (P := Tryz.prog) w Tryz.underlying76
  go_enter Tryz.func65, Tryz.ntmps65
  go_wp2_with (fail)
  go_ret
  exact ⟨rfl, rfl⟩

set_option maxHeartbeats 8000000 in
theorem code_any {a : Nat → Addr} {w : World} (h : Ea a w) (x : Nat) (hx : x ∈ codes) :
    Calls Tryz.prog 65 #[ev a x] w fun e w' => e = .returned (.int .i64 x) ∧ w' = w := by
  have HA : Hid (Ea a w) := h
  have HX : Hid (x ∈ codes) := hx
  have q := run_eql_iface_nil (P := Tryz.prog) w 118 (.pointer (some (a x))) Tryz.underlying76
  clear h hx
  unfold ev
  go_enter Tryz.func65, Tryz.ntmps65
  have g1 : w.cell? ⟨2, 0, none⟩ = some (.iface 118 (.pointer (some (a 1)))) := HA.out.er.h _ _ (by simp [erl])
  go_wp2_with (fail)
  refine (is_code HA.out x 1 HX.out (by simp [codes])).mono ?_
  rintro e w ⟨rfl, rfl⟩
  clear g1 q
  by_cases h1 : x = 1
  · rw [decide_eq_true h1]
    subst h1
    go_wp2_with (fail)
    go_ret
    exact ⟨rfl, rfl⟩
  rw [decide_eq_false h1]
  have H1 : Hid (x ≠ 1) := h1
  clear h1
  have g2 : w.cell? ⟨3, 0, none⟩ = some (.iface 118 (.pointer (some (a 2)))) := HA.out.er.h _ _ (by simp [erl])
  go_wp2_with (fail)
  refine (is_code HA.out x 2 HX.out (by simp [codes])).mono ?_
  rintro e w ⟨rfl, rfl⟩
  clear g2
  by_cases h2 : x = 2
  · rw [decide_eq_true h2]
    subst h2
    go_wp2_with (fail)
    go_ret
    exact ⟨rfl, rfl⟩
  rw [decide_eq_false h2]
  have H2 : Hid (x ≠ 2) := h2
  clear h2
  have g3 : w.cell? ⟨4, 0, none⟩ = some (.iface 118 (.pointer (some (a 3)))) := HA.out.er.h _ _ (by simp [erl])
  go_wp2_with (fail)
  refine (is_code HA.out x 3 HX.out (by simp [codes])).mono ?_
  rintro e w ⟨rfl, rfl⟩
  clear g3
  by_cases h3 : x = 3
  · rw [decide_eq_true h3]
    subst h3
    go_wp2_with (fail)
    go_ret
    exact ⟨rfl, rfl⟩
  rw [decide_eq_false h3]
  have H3 : Hid (x ≠ 3) := h3
  clear h3
  have g4 : w.cell? ⟨5, 0, none⟩ = some (.iface 118 (.pointer (some (a 4)))) := HA.out.er.h _ _ (by simp [erl])
  go_wp2_with (fail)
  refine (is_code HA.out x 4 HX.out (by simp [codes])).mono ?_
  rintro e w ⟨rfl, rfl⟩
  clear g4
  by_cases h4 : x = 4
  · rw [decide_eq_true h4]
    subst h4
    go_wp2_with (fail)
    go_ret
    exact ⟨rfl, rfl⟩
  rw [decide_eq_false h4]
  have H4 : Hid (x ≠ 4) := h4
  clear h4
  have g5 : w.cell? ⟨6, 0, none⟩ = some (.iface 118 (.pointer (some (a 5)))) := HA.out.er.h _ _ (by simp [erl])
  go_wp2_with (fail)
  refine (is_code HA.out x 5 HX.out (by simp [codes])).mono ?_
  rintro e w ⟨rfl, rfl⟩
  clear g5
  by_cases h5 : x = 5
  · rw [decide_eq_true h5]
    subst h5
    go_wp2_with (fail)
    go_ret
    exact ⟨rfl, rfl⟩
  rw [decide_eq_false h5]
  have H5 : Hid (x ≠ 5) := h5
  clear h5
  have g6 : w.cell? ⟨7, 0, none⟩ = some (.iface 118 (.pointer (some (a 6)))) := HA.out.er.h _ _ (by simp [erl])
  go_wp2_with (fail)
  refine (is_code HA.out x 6 HX.out (by simp [codes])).mono ?_
  rintro e w ⟨rfl, rfl⟩
  clear g6
  by_cases h6 : x = 6
  · rw [decide_eq_true h6]
    subst h6
    go_wp2_with (fail)
    go_ret
    exact ⟨rfl, rfl⟩
  rw [decide_eq_false h6]
  have H6 : Hid (x ≠ 6) := h6
  clear h6
  have g7 : w.cell? ⟨8, 0, none⟩ = some (.iface 118 (.pointer (some (a 7)))) := HA.out.er.h _ _ (by simp [erl])
  go_wp2_with (fail)
  refine (is_code HA.out x 7 HX.out (by simp [codes])).mono ?_
  rintro e w ⟨rfl, rfl⟩
  clear g7
  by_cases h7 : x = 7
  · rw [decide_eq_true h7]
    subst h7
    go_wp2_with (fail)
    go_ret
    exact ⟨rfl, rfl⟩
  rw [decide_eq_false h7]
  have H7 : Hid (x ≠ 7) := h7
  clear h7
  have g8 : w.cell? ⟨9, 0, none⟩ = some (.iface 118 (.pointer (some (a 8)))) := HA.out.er.h _ _ (by simp [erl])
  go_wp2_with (fail)
  refine (is_code HA.out x 8 HX.out (by simp [codes])).mono ?_
  rintro e w ⟨rfl, rfl⟩
  clear g8
  by_cases h8 : x = 8
  · rw [decide_eq_true h8]
    subst h8
    go_wp2_with (fail)
    go_ret
    exact ⟨rfl, rfl⟩
  rw [decide_eq_false h8]
  have H8 : Hid (x ≠ 8) := h8
  clear h8
  have g9 : w.cell? ⟨1, 0, none⟩ = some (.iface 118 (.pointer (some (a 9)))) := HA.out.er.h _ _ (by simp [erl])
  go_wp2_with (fail)
  refine (is_code HA.out x 9 HX.out (by simp [codes])).mono ?_
  rintro e w ⟨rfl, rfl⟩
  clear g9
  by_cases h9 : x = 9
  · rw [decide_eq_true h9]
    subst h9
    go_wp2_with (fail)
    go_ret
    exact ⟨rfl, rfl⟩
  rw [decide_eq_false h9]
  have H9 : Hid (x ≠ 9) := h9
  clear h9
  have g10 : w.cell? ⟨10, 0, none⟩ = some (.iface 118 (.pointer (some (a 10)))) := HA.out.er.h _ _ (by simp [erl])
  go_wp2_with (fail)
  refine (is_code HA.out x 10 HX.out (by simp [codes])).mono ?_
  rintro e w ⟨rfl, rfl⟩
  clear g10
  by_cases h10 : x = 10
  · rw [decide_eq_true h10]
    subst h10
    go_wp2_with (fail)
    go_ret
    exact ⟨rfl, rfl⟩
  rw [decide_eq_false h10]
  have H10 : Hid (x ≠ 10) := h10
  clear h10
  have g12 : w.cell? ⟨11, 0, none⟩ = some (.iface 118 (.pointer (some (a 12)))) := HA.out.er.h _ _ (by simp [erl])
  go_wp2_with (fail)
  refine (is_code HA.out x 12 HX.out (by simp [codes])).mono ?_
  rintro e w ⟨rfl, rfl⟩
  clear g12
  by_cases h12 : x = 12
  · rw [decide_eq_true h12]
    subst h12
    go_wp2_with (fail)
    go_ret
    exact ⟨rfl, rfl⟩
  rw [decide_eq_false h12]
  have H12 : Hid (x ≠ 12) := h12
  clear h12
  go_wp2_with (fail)
  go_ret
  have e : x = 13 := by
    have hx := HX.out
    simp [codes] at hx
    have := H1.out; have := H2.out; have := H3.out; have := H4.out; have := H5.out; have := H6.out; have := H7.out; have := H8.out; have := H9.out; have := H10.out; have := H12.out
    omega
  exact ⟨by rw [e]; rfl, rfl⟩

end Go.Proofs.YtbeamigbcfkjjaaGreatDoor.Dra

/- What the tied card lays of the errors, for the walks: twelve pointers apart (Ea). -/
namespace Go.Proofs.YtbeamigbcfkjjaaGreatDoor.Dra
open Go.ChangeShapes Go.WideShapes Go.ChangeAt Go.RowKit
set_option maxRecDepth 100000
set_option linter.unusedVariables false

/- Of a list of errors laid: where each lies, all apart. -/
theorem sents {P : Program} {W : World} {nm : String} {ti tp te ts : TypeId} {ms : Array (String × TypeId)} {f : Field} (hi : P.underlying ti = some (.interface ms)) (hrow : ∀ u, P.typeName? 3 u = some nm → u = tp)
    (hp : P.underlying tp = some (.pointer te)) (he : P.underlying te = some (.struct #[f])) (hft : f.type = ts) (hfo : f.offset = 0) (hs : P.underlying ts = some .string) (hc : P.cellsOf te = 1) (hcs : P.cellsOf ts = 1) :
    ∀ (l : List (String × DataW Unit)) (ps : List MemPlace), DataW.LaidVars P W l ps → (∀ x ∈ l, ∃ t, x.2 = .iface nm (.ptr (.agg [.lit (.string t)]))) →
    (l.all fun x => ((P.globalNamed x.1).bind (P.globals[·]?)).all fun gl => gl.type == ti) = true →
    (∀ b off, MemPlace.cell b off ∈ ps → (∃ c t, W.heap[b]? = some (.cells c t (0, 0))) ∧ ∀ u v, W.cell? ⟨b, off, none⟩ = some (.iface u v) → Value.okWide P W .any 0 u v) →
    ∃ L : List Addr, L.length = l.length ∧ (L.map fun a => MemPlace.cell a.block a.off).Sublist ps ∧ ∀ (i : Nat) x, l[i]? = some x → ∃ a g, L[i]? = some a ∧ P.globalNamed x.1 = some g ∧ W.cell? ⟨g, 0, none⟩ = some (.iface tp (.pointer (some a))) ∧ ∃ C t, W.heap[a.block]? = some (.cells C t (0, 0))
  | [], ps, h, _, _, _ => ⟨[], rfl, by simp, fun i x hx => by simp at hx⟩
  | (n, d) :: r, ps, h, hd, hg, hr => by
    obtain ⟨g, t, cs, fuel, p, q, h1, h2, h3, h4, h5, rfl⟩ := h
    obtain ⟨tx, e⟩ := hd (n, d) (by simp)
    have e' : d = .iface nm (.ptr (.agg [.lit (.string tx)])) := e
    subst e'
    simp only [List.all_cons, Bool.and_eq_true] at hg
    have ht : t = ti := by
      have k := hg.1
      rw [h1] at k
      cases hh : P.globals[g]? with
      | none => rw [hh] at h2; cases h2
      | some gl =>
        rw [hh] at h2
        obtain rfl : gl.type = t := Option.some.inj h2
        simpa [hh] using k
    subst ht
    obtain ⟨L, k1, k2, k3⟩ := sents hi hrow hp he hft hfo hs hc hcs r q h5 (fun x hx => hd x (List.mem_cons_of_mem _ hx)) hg.2 (fun b off hm => hr b off (List.mem_append_right _ hm))
    obtain ⟨l0⟩ := cs
    have ok0 : ∀ u v, l0 = [.iface u v] → Value.okWide P W .any 0 u v := fun u v e => by
      subst e
      exact (hr g 0 (by simp [MemPlace.row])).2 u v (by simpa using World.var?_cell h1 h3 0)
    obtain ⟨a0, s0, rfl, hc0, hs0, hz0, rfl⟩ := errorString_of_trod hi hrow hp he hft hfo hs hc hcs h4 ok0
    have hb := (hr a0.block a0.off (by simp [MemPlace.row])).1
    refine ⟨a0 :: L, by simp [k1], ?_, fun i x hx => ?_⟩
    · have e1 : MemPlace.row a0 1 = [MemPlace.cell a0.block a0.off] := by simp [MemPlace.row]
      rw [e1, List.append_assoc]
      refine List.Sublist.trans ?_ (List.sublist_append_right _ _)
      exact List.Sublist.cons_cons (MemPlace.cell a0.block a0.off) k2
    · cases i with
      | zero =>
        simp at hx
        subst hx
        exact ⟨a0, g, rfl, h1, by simpa using World.var?_cell h1 h3 0, hb⟩
      | succ i =>
        simp at hx
        simpa using k3 i x hx

def ix (x : Nat) : Nat := if x ≤ 10 then x - 1 else x - 2
theorem row_ptr (u : TypeId) (h : Tryz.prog.typeName? 3 u = some "*errors.errorString") : u = 118 :=
  have star : "*" ++ "errors.errorString" = "*errors.errorString" := by decide
  typeName_ptr_named (nm := "errors.errorString") (by rw [star]; kernel_rfl) (by kernel_rfl) (by decide) u (by rw [star]; exact h)

theorem of_laid {W : World} (h : laidMetH Tryz.prog Rows.fnExactTaleBookRow.laid W) : ∃ a : Nat → Addr, Ea a W := by
  rw [MakeChecks.laidMetH_plain _ _ _ (by kernel_rfl)] at h
  obtain ⟨ps, hv, hnd, hrows⟩ := h
  obtain ⟨L, k1, k2, k3⟩ := sents Tryz.underlying76 row_ptr Tryz.underlying118 Tryz.underlying144 rfl rfl (by kernel_rfl) (by kernel_rfl) (by kernel_rfl) _ _ hv (by
    simp only [Rows.fnExactTaleBookRow, List.forall_mem_cons]
    exact ⟨⟨_, rfl⟩, ⟨_, rfl⟩, ⟨_, rfl⟩, ⟨_, rfl⟩, ⟨_, rfl⟩, ⟨_, rfl⟩, ⟨_, rfl⟩, ⟨_, rfl⟩, ⟨_, rfl⟩, ⟨_, rfl⟩, ⟨_, rfl⟩, ⟨_, rfl⟩, fun _ h => by cases h⟩) (by kernel_rfl) hrows
  have k1' : L.length = 12 := k1
  have nd : L.Nodup := by
    have q := hnd.sublist k2
    rw [List.nodup_iff_pairwise_ne, List.pairwise_map] at q
    exact q.imp (fun hab e => hab (by rw [e]))
  have get : ∀ i, i < 12 → L[i]? = some ((L[i]?).getD ⟨0, 0, none⟩) := fun i hi => by
    rw [List.getElem?_eq_getElem (by omega)]; rfl
  refine ⟨fun x => (L[ix x]?).getD ⟨0, 0, none⟩, ⟨⟨fun g x hm => ?_⟩, fun x y hx hy hxy e => ?_, fun x hx => ?_⟩⟩
  · have key : ∀ (i : Nat) (y : String × DataW Unit) (G : Nat), Rows.fnExactTaleBookRow.laid[i]? = some y → Tryz.prog.globalNamed y.1 = some G → ix x = i → g = G → W.cell? ⟨g, 0, none⟩ = some (ev (fun x => (L[ix x]?).getD ⟨0, 0, none⟩) x) := fun i y G hy hG hi hg => by
      obtain ⟨a, g', q1, q2, q3, _⟩ := k3 i y hy
      obtain rfl := Option.some.inj (hG.symm.trans q2)
      subst hg
      rw [q3]
      simp only [ev, hi, q1, Option.getD_some]
    simp only [erl, List.mem_cons, Prod.mk.injEq, List.not_mem_nil, or_false] at hm
    rcases hm with h | h | h | h | h | h | h | h | h | h | h | h
    all_goals obtain ⟨h1, h2⟩ := h
    · exact key 0 _ _ rfl (by kernel_rfl) (by rw [h2]; rfl) h1
    · exact key 1 _ _ rfl (by kernel_rfl) (by rw [h2]; rfl) h1
    · exact key 2 _ _ rfl (by kernel_rfl) (by rw [h2]; rfl) h1
    · exact key 3 _ _ rfl (by kernel_rfl) (by rw [h2]; rfl) h1
    · exact key 4 _ _ rfl (by kernel_rfl) (by rw [h2]; rfl) h1
    · exact key 5 _ _ rfl (by kernel_rfl) (by rw [h2]; rfl) h1
    · exact key 6 _ _ rfl (by kernel_rfl) (by rw [h2]; rfl) h1
    · exact key 7 _ _ rfl (by kernel_rfl) (by rw [h2]; rfl) h1
    · exact key 8 _ _ rfl (by kernel_rfl) (by rw [h2]; rfl) h1
    · exact key 9 _ _ rfl (by kernel_rfl) (by rw [h2]; rfl) h1
    · exact key 10 _ _ rfl (by kernel_rfl) (by rw [h2]; rfl) h1
    · exact key 11 _ _ rfl (by kernel_rfl) (by rw [h2]; rfl) h1
  · have bx : ix x < 12 ∧ ix y < 12 ∧ ix x ≠ ix y := by
      simp only [codes, List.mem_cons, List.not_mem_nil, or_false] at hx hy
      unfold ix
      refine ⟨?_, ?_, ?_⟩ <;> (repeat' split) <;> omega
    have e1 : L[ix x]? = L[ix y]? := by rw [get _ bx.1, get _ bx.2.1]; exact congrArg some e
    exact bx.2.2 ((List.getElem?_inj (i := ix x) (j := ix y) (by rw [k1']; exact bx.1) nd).1 e1)
  · have bx : ix x < 12 := by
      simp only [codes, List.mem_cons, List.not_mem_nil, or_false] at hx
      unfold ix
      (repeat' split) <;> omega
    obtain ⟨y, hy⟩ : ∃ y, Rows.fnExactTaleBookRow.laid[ix x]? = some y := ⟨_, List.getElem?_eq_getElem (by exact bx)⟩
    obtain ⟨a, g', q1, _, _, q4⟩ := k3 _ y hy
    show ∃ C t, W.heap[((L[ix x]?).getD ⟨0, 0, none⟩).block]? = _
    rw [q1]
    exact q4

end Go.Proofs.YtbeamigbcfkjjaaGreatDoor.Dra

/- The program's bookTake. -/
namespace Go.Proofs.YtbeamigbcfkjjaaGreatDoor.Dra
open Go.ChangeShapes Go.WideShapes Go.ChangeAt Go.RowKit
open Go.Proofs.YtbeamigbcfkjjaaGreatDoor.Aid Go.Proofs.YtbeamigbcfkjjaaGreatDoor.Lst Go.Proofs.YtbeamigbcfkjjaaGreatDoor.Book Go.Proofs.YtbeamigbcfkjjaaGreatDoor.Rin
set_option maxRecDepth 100000
set_option linter.unusedVariables false
def TaQ (b : Bx) (U : Nat → List Int) (t : Nat) (u : Int) (c : Bx) (V : Nat → List Int) (x : Nat) (y : Int) : Prop :=
  (kindM u < 0 ∧ c = b ∧ V = U ∧ x = 1 ∧ y = 0) ∨
  (kindM u = 4 ∧ V = U ∧ ((∃ p : Nat, p + ((u + 7) / 8).toNat ≤ b.p.n ∧ EmpP b.p.f p ((u + 7) / 8).toNat ∧ (∀ q, q < p → ¬ EmpP b.p.f q ((u + 7) / 8).toNat) ∧ c = b.wide p ((u + 7) / 8).toNat t ∧ x = 0 ∧ y = (p : Int) * 8) ∨ ((∀ q, q + ((u + 7) / 8).toNat ≤ b.p.n → ¬ EmpP b.p.f q ((u + 7) / 8).toNat) ∧ c = b ∧ x = 2 ∧ y = 0))) ∨
  ∃ k : Nat, k < 4 ∧ kindM u = k ∧
    ((∃ (A : Nat) (r : List Int), U k = (A : Int) :: r ∧ c = b.own A ((t : Int) + 1) ∧ V = updL U k r ∧ x = 0 ∧ y = A) ∨
     (U k = [] ∧ (∀ q, q + 1 ≤ b.p.n → ¬ EmpP b.p.f q 1) ∧ c = b ∧ V = U ∧ x = 2 ∧ y = 0) ∨
     (U k = [] ∧ ∃ p : Nat, p + 1 ≤ b.p.n ∧ EmpP b.p.f p 1 ∧ (∀ q, q < p → ¬ EmpP b.p.f q 1) ∧ c = (b.pag p ((k : Int) + 1)).own (p * 8) ((t : Int) + 1) ∧ V = updL U k (carL p k).tail ∧ x = 0 ∧ y = ((p * 8 : Nat) : Int)))
theorem kindM_is (u : Int) : kindM u = -1 ∨ (kindM u = 4 ∧ 9 ≤ u ∧ u ≤ 32) ∨ ∃ k : Nat, k < 4 ∧ kindM u = k := by
  unfold kindM
  repeat' split
  · exact .inl rfl
  · exact .inr (.inr ⟨0, by omega, rfl⟩)
  · exact .inr (.inr ⟨1, by omega, rfl⟩)
  · exact .inr (.inr ⟨2, by omega, rfl⟩)
  · exact .inr (.inr ⟨3, by omega, rfl⟩)
  · exact .inr (.inl ⟨rfl, by omega, by omega⟩)
set_option maxHeartbeats 16000000 in
theorem take_op {a : Nat → Addr} {B D : Nat} {s t : Nat → Nat} {b : Bx} {U : Nat → List Int} {w : World} (h : Dr B D s t b U w) (he : Er a w) (hB : 12 ≤ B) (hok : OkP b) (o : Ox) (q : Nat) (hq : o.s = q) (hqs : (q : Int) < b.s) (hU : ∀ k, k < 4 → ∀ u ∈ U k, 0 ≤ u ∧ u < b.o.n) :
    Calls Tryz.prog 83 #[.pointer (some ⟨D, 0, none⟩), .agg o.cells.toArray] w fun e w' => OpA a B D s t w (TaQ b U q o.a) e w' := by
  have S := Oq.start (a := a) h he hB o 45
  have HOK : Hid (OkP b) := hok
  have l0 := hok.1.1.1
  have l1 := hok.1.1.2.1
  have l2 := hok.1.1.2.2.1
  have l3 := hok.1.1.2.2.2.1
  have l6 := hok.1.1.2.2.2.2.1
  have l7 := hok.1.1.2.2.2.2.2.2
  have l8 := hok.1.1.2.2.2.2.2.1
  obtain ⟨ko, oo, eo, to⟩ := h.addr (x := b.o) (by simp [Bx.lists]) (by omega)
  obtain ⟨ki, oi, ei, ti⟩ := h.addr (x := b.i) (by simp [Bx.lists]) (by omega)
  obtain ⟨ke, oe, ee, te⟩ := h.addr (x := b.e) (by simp [Bx.lists]) (by omega)
  have EO : Hid (b.o.a = some ⟨ko, oo, none⟩) := eo
  have EI : Hid (b.i.a = some ⟨ki, oi, none⟩) := ei
  have EE : Hid (b.e.a = some ⟨ke, oe, none⟩) := ee
  have TT : Hid (t ko = 2 ∧ t ki = 2 ∧ t ke = 2 ∧ t D = 1) := ⟨to, ti, te, h.tD⟩
  have LS : Hid (b.s ≤ 4 ∧ 1 ≤ b.s ∧ (b.i.n : Int) = b.s ∧ (b.e.n : Int) = b.s ∧ b.o.n ≤ 1000 ∧ b.o.n ≤ b.o.c) := ⟨by omega, by omega, by omega, by omega, by omega, (h.h.each b.o (by simp [Bx.lists])).1⟩
  clear h he hB eo ei ee to ti te hok l0 l1 l2 l3 l6 l7 l8
  simp only [Ox.cells] at S ⊢
  have TQ : Hid ((q : Int) < b.s) := hqs
  have HQ : Hid (o.s = q) := hq
  clear hq hqs
  go_enter Tryz.func83, Tryz.ntmps83
  obtain ⟨W, eW⟩ : ∃ W, W = w.alloc (.cells #[.int .i64 o.k, .int .i64 o.s, .int .i64 o.a, .int .i64 o.b] 45) := ⟨_, rfl⟩
  have HS0 : Hid (Oq a B D s t w t b U w.heap.size o W) := by unfold Hid; rw [eW]; exact S
  have PN : Hid (0 < b.p.n ∧ b.p.n ≤ 6 ∧ b.o.n = b.p.n * 8) := ⟨by have := HOK.out.1.1.2.2.2.2.1; omega, by have := HOK.out.1.1.2.2.2.2.2.1; omega, by have := HOK.out.1.1.2.2.2.2.2.2; omega⟩
  clear S
  go_wp2_with (fail)
  rw [← eW]
  clear eW
  refine (kind_any o.a _).mono ?_
  rintro e w1 ⟨rfl, rfl⟩
  rcases kindM_is o.a with hk | ⟨hk, u9, u32⟩ | ⟨k, k4, hk⟩
  · have HK : Hid (kindM o.a = -1) := hk
    rw [hk]
    have cE : w1.cell? ⟨2, 0, none⟩ = some (ev a 1) := HS0.out.e.h _ _ (by simp [erl])
    clear hk
    go_wp2_with (fail)
    go_quiet (fail)
    go_wp2_with (fail)
    refine bodyPost_ret (v := .tuple #[.int .i64 0, ev a 1]) (by simp [results]) rfl ?_
    exact OpA.mk 1 0 (HS0.out.d.drewN _) (.inl ⟨by rw [HK.out]; decide, rfl, rfl, rfl, rfl⟩) rfl
  · have HK : Hid (kindM o.a = 4) := hk
    rw [hk]
    have k1 : w1.cell? ⟨w.heap.size, 1, none⟩ = some (.int .i64 q) := by rw [← HQ.out]; exact HS0.out.op 1 _ rfl
    have k2 : w1.cell? ⟨w.heap.size, 2, none⟩ = some (.int .i64 o.a) := HS0.out.op 2 _ rfl
    have cE : w1.cell? ⟨3, 0, none⟩ = some (ev a 2) := HS0.out.e.h _ _ (by simp [erl])
    obtain ⟨n, hn⟩ : ∃ n : Nat, n = ((o.a + 7) / 8).toNat := ⟨_, rfl⟩
    have hn1 : (o.a + 8 - 1) / 8 = n := by omega
    have HN : Hid (n = ((o.a + 7) / 8).toNat) := hn
    have n1 : 1 ≤ n := by omega
    have n4 : n ≤ 4 := by omega
    have q4 : q ≤ 4 := by have := TQ.out; have := LS.out; omega
    clear hk hn
    go_wp2_with (fail)
    refine (takep_any HS0.out.d.d n q n1 n4 PN.out.1 PN.out.2.1 PN.out.2.2 q4 (ev a 2) cE).mono ?_
    rintro e w5 ⟨c, V, v, rfl, ⟨hV, hv⟩, t2, hd⟩
    have HD : Hid (Du B D s t w t2 c V w5) := HS0.out.d.trans hd
    clear hd
    rcases hv with ⟨p, h1, h2, h3, h4, rfl⟩ | ⟨h1, h2, rfl⟩
    · have HP : Hid (p + n ≤ b.p.n ∧ EmpP b.p.f p n ∧ (∀ q, q < p → ¬ EmpP b.p.f q n) ∧ c = b.wide p n q ∧ V = U) := ⟨h1, h2, h3, h4, hV⟩
      clear h1 h2 h3 h4 hV
      go_wp2_with (fail)
      refine bodyPost_ret (v := .tuple #[.int .i64 ((p : Int) * 8), .nilIface]) (by simp [results]) rfl ?_
      refine OpA.mk 0 ((p : Int) * 8) HD.out (.inr (.inl ⟨HK.out, HP.out.2.2.2.2, .inl ⟨p, ?_⟩⟩)) rfl
      rw [← HN.out]
      exact ⟨HP.out.1, HP.out.2.1, HP.out.2.2.1, HP.out.2.2.2.1, rfl, rfl⟩
    · have HP : Hid ((∀ q, q + n ≤ b.p.n → ¬ EmpP b.p.f q n) ∧ c = b ∧ V = U) := ⟨h1, h2, hV⟩
      clear h1 h2 hV
      unfold ev
      go_wp2_with (fail)
      refine bodyPost_ret (v := .tuple #[.int .i64 0, ev a 2]) (by simp [results, ev]) rfl ?_
      refine OpA.mk 2 0 HD.out (.inr (.inl ⟨HK.out, HP.out.2.2, .inr ?_⟩)) rfl
      rw [← HN.out]
      exact ⟨HP.out.1, HP.out.2.1, rfl, rfl⟩
  · have HK : Hid (kindM o.a = k) := hk
    rw [hk]
    have k1 : w1.cell? ⟨w.heap.size, 1, none⟩ = some (.int .i64 q) := by rw [← HQ.out]; exact HS0.out.op 1 _ rfl
    have cE : w1.cell? ⟨3, 0, none⟩ = some (ev a 2) := HS0.out.e.h _ _ (by simp [erl])
    have q4 : q ≤ 4 := by have := TQ.out; have := LS.out; omega
    have hUk := hU k k4
    clear hk hU
    go_wp2_with (fail)
    refine (takeroom_any HS0.out.d.d k q k4 PN.out.1 PN.out.2.1 PN.out.2.2 q4 hUk (ev a 2) cE).mono ?_
    rintro e w5 ⟨c, V, v, rfl, hv, t2, hd⟩
    have HD : Hid (Du B D s t w t2 c V w5) := HS0.out.d.trans hd
    clear hd hUk
    rcases hv with ⟨A, r, h1, h2, h3, rfl⟩ | ⟨h1, h2, h3, h4, rfl⟩ | ⟨h1, p, h2, h3, h4, h5, h6, rfl⟩
    · have HP : Hid (U k = (A : Int) :: r ∧ c = b.own A ((q : Int) + 1) ∧ V = updL U k r) := ⟨h1, h2, h3⟩
      clear h1 h2 h3
      go_wp2_with (fail)
      refine bodyPost_ret (v := .tuple #[.int .i64 A, .nilIface]) (by simp [results]) rfl ?_
      exact OpA.mk 0 A HD.out (.inr (.inr ⟨k, k4, HK.out, .inl ⟨A, r, HP.out.1, HP.out.2.1, HP.out.2.2, rfl, rfl⟩⟩)) rfl
    · have HP : Hid (U k = [] ∧ (∀ q, q + 1 ≤ b.p.n → ¬ EmpP b.p.f q 1) ∧ c = b ∧ V = U) := ⟨h1, h2, h3, h4⟩
      clear h1 h2 h3 h4
      unfold ev
      go_wp2_with (fail)
      refine bodyPost_ret (v := .tuple #[.int .i64 0, ev a 2]) (by simp [results, ev]) rfl ?_
      exact OpA.mk 2 0 HD.out (.inr (.inr ⟨k, k4, HK.out, .inr (.inl ⟨HP.out.1, HP.out.2.1, HP.out.2.2.1, HP.out.2.2.2, rfl, rfl⟩)⟩)) rfl
    · have HP : Hid (U k = [] ∧ p + 1 ≤ b.p.n ∧ EmpP b.p.f p 1 ∧ (∀ q, q < p → ¬ EmpP b.p.f q 1) ∧ c = (b.pag p ((k : Int) + 1)).own (p * 8) ((q : Int) + 1) ∧ V = updL U k (carL p k).tail) := ⟨h1, h2, h3, h4, h5, h6⟩
      clear h1 h2 h3 h4 h5 h6
      obtain ⟨P8, e8⟩ : ∃ P8 : Nat, P8 = p * 8 := ⟨_, rfl⟩
      rw [← e8]
      have H8 : Hid (P8 = p * 8) := e8
      clear e8
      go_wp2_with (fail)
      refine bodyPost_ret (v := .tuple #[.int .i64 P8, .nilIface]) (by simp [results]) rfl ?_
      exact OpA.mk 0 P8 HD.out (.inr (.inr ⟨k, k4, HK.out, .inr (.inr ⟨HP.out.1, p, HP.out.2.1, HP.out.2.2.1, HP.out.2.2.2.1, HP.out.2.2.2.2.1, HP.out.2.2.2.2.2, rfl, by rw [H8.out]⟩)⟩)) rfl
end Go.Proofs.YtbeamigbcfkjjaaGreatDoor.Dra

/- The program's map of calls. -/
namespace Go.Proofs.YtbeamigbcfkjjaaGreatDoor.Dra
open Go.ChangeShapes Go.WideShapes Go.ChangeAt Go.RowKit
open Go.Proofs.YtbeamigbcfkjjaaGreatDoor.Aid Go.Proofs.YtbeamigbcfkjjaaGreatDoor.Lst Go.Proofs.YtbeamigbcfkjjaaGreatDoor.Book Go.Proofs.YtbeamigbcfkjjaaGreatDoor.Rin
set_option maxRecDepth 100000
set_option linter.unusedVariables false

/- A map that is the last block, one key more. -/
theorem run_ins {P : Program} {t kt et : TypeId} {j : IntKind} (hu : P.underlying t = some (.map kt et)) (hk : P.underlying kt = some (.int j)) (w : World) (es : Array MapEntry) (c : Nat) (k : Int) (v : Value) (hf : Instr.findNow (.int j) (.int .i64 k) es.toList 0 = some none) :
    (Instr.mapUpdate t (.map (some w.heap.size)) (.int .i64 k) v).run P (w.alloc (.map es c)) = .ok () (w.alloc (.map (es.push ⟨.int .i64 k, v, c⟩) (c + 1))) := by
  have hb : (w.alloc (.map es c)).heap[w.heap.size]? = some (.map es c) := heap_alloc_new w _
  have h4 : ({ (w.alloc (.map es c)) with heap := (w.alloc (.map es c)).heap.setIfInBounds w.heap.size (.map (es.push ⟨.int .i64 k, v, c⟩) (c + 1)) } : World) = w.alloc (.map (es.push ⟨.int .i64 k, v, c⟩) (c + 1)) := by
    show ({ w with heap := (w.heap.push (.map es c)).setIfInBounds w.heap.size (.map (es.push ⟨.int .i64 k, v, c⟩) (c + 1)) } : World) = { w with heap := w.heap.push (.map (es.push ⟨.int .i64 k, v, c⟩) (c + 1)) }
    congr 1
    apply Array.ext_getElem?
    intro i
    rw [Array.getElem?_setIfInBounds, Array.getElem?_push, Array.getElem?_push]
    by_cases e : w.heap.size = i
    · subst e; simp
    · rw [if_neg e, if_neg (Ne.symm e), if_neg (Ne.symm e)]
  rw [← h4]
  generalize w.alloc (.map es c) = W at hb ⊢
  have h1 : (getObj w.heap.size).run P W = .ok (.map es c) W := by simp [getObj, Sem.run, hb]
  have h2 : (Instr.checkKey false 10000 kt (.int .i64 k)).run P W = .ok () W := by
    unfold Instr.checkKey
    simp [run_underlying hk]
  have h3 : (setObj w.heap.size (.map (es.push ⟨.int .i64 k, v, c⟩) (c + 1))).run P W = .ok () { W with heap := W.heap.setIfInBounds w.heap.size (.map (es.push ⟨.int .i64 k, v, c⟩) (c + 1)) } := by
    simp [setObj, Sem.run, hb]
  simp [Instr.mapUpdate, run_underlying hu, h1, h2, Instr.findKey, run_underlying hk, hf, h3]

theorem run_look {P : Program} {t kt et : TypeId} {j : IntKind} (hu : P.underlying t = some (.map kt et)) (hk : P.underlying kt = some (.int j)) (w : World) (r : Nat) (es : Array MapEntry) (c : Nat) (k : Int) (z v : Value) (ok : Bool) (hb : w.heap[r]? = some (.map es c)) (hz : (zeroValue et).run P w = .ok z w)
    (hf : ∃ f, Instr.findNow (.int j) (.int .i64 k) es.toList 0 = some f ∧ (match f with | some (_, v) => (v, true) | none => (z, false)) = (v, ok)) :
    (Instr.lookup t (.map (some r)) (.int .i64 k) true).run P w = .ok (.tuple #[v, .bool ok]) w := by
  have h1 : (getObj r).run P w = .ok (.map es c) w := by simp [getObj, Sem.run, hb]
  have h2 : (Instr.checkKey es.isEmpty 10000 kt (.int .i64 k)).run P w = .ok () w := by
    unfold Instr.checkKey
    simp [run_underlying hk]
  obtain ⟨f, hf, he⟩ := hf
  cases f with
  | none =>
    simp at he
    simp [Instr.lookup, run_underlying hu, h1, h2, Instr.findKey, run_underlying hk, hf, hz, he]
  | some p =>
    obtain ⟨i, u⟩ := p
    simp at he
    simp [Instr.lookup, run_underlying hu, h1, h2, Instr.findKey, run_underlying hk, hf, he]

/- The six. -/
def fn (f : Nat) : Value := .func (.func f) #[] #[]
def six : Array MapEntry := #[⟨.int .i64 1, fn 82, 0⟩, ⟨.int .i64 2, fn 83, 1⟩, ⟨.int .i64 3, fn 84, 2⟩, ⟨.int .i64 4, fn 85, 3⟩, ⟨.int .i64 5, fn 86, 4⟩, ⟨.int .i64 6, fn 87, 5⟩]

theorem calls_any (w : World) :
    Calls Tryz.prog 78 #[] w fun e w' => e = .returned (.map (some w.heap.size)) ∧ w' = w.alloc (.map six 6) := by
  have h0 := run_makeMap (P := Tryz.prog) 91 w
  have hu := Tryz.underlying91
  have i1 := run_ins (P := Tryz.prog) hu Tryz.underlying3 w #[] 0 1 (fn 82) rfl
  have i2 := run_ins (P := Tryz.prog) hu Tryz.underlying3 w #[⟨.int .i64 1, fn 82, 0⟩] 1 2 (fn 83) rfl
  have i3 := run_ins (P := Tryz.prog) hu Tryz.underlying3 w #[⟨.int .i64 1, fn 82, 0⟩, ⟨.int .i64 2, fn 83, 1⟩] 2 3 (fn 84) rfl
  have i4 := run_ins (P := Tryz.prog) hu Tryz.underlying3 w #[⟨.int .i64 1, fn 82, 0⟩, ⟨.int .i64 2, fn 83, 1⟩, ⟨.int .i64 3, fn 84, 2⟩] 3 4 (fn 85) rfl
  have i5 := run_ins (P := Tryz.prog) hu Tryz.underlying3 w #[⟨.int .i64 1, fn 82, 0⟩, ⟨.int .i64 2, fn 83, 1⟩, ⟨.int .i64 3, fn 84, 2⟩, ⟨.int .i64 4, fn 85, 3⟩] 4 5 (fn 86) rfl
  have i6 := run_ins (P := Tryz.prog) hu Tryz.underlying3 w #[⟨.int .i64 1, fn 82, 0⟩, ⟨.int .i64 2, fn 83, 1⟩, ⟨.int .i64 3, fn 84, 2⟩, ⟨.int .i64 4, fn 85, 3⟩, ⟨.int .i64 5, fn 86, 4⟩] 5 6 (fn 87) rfl
  simp only [List.push_toArray, List.nil_append, List.cons_append, fn, Nat.zero_add] at i1 i2 i3 i4 i5 i6
  go_enter Tryz.func78, Tryz.ntmps78
  go_wp2_with (fail)
  refine bodyPost_ret (v := .map (some w.heap.size)) (by simp [results]) rfl ?_
  exact ⟨rfl, rfl⟩

end Go.Proofs.YtbeamigbcfkjjaaGreatDoor.Dra

import Derived.Test.YtoaopapnpndklaaDoorM2
import Derived.Test.YtoaopapnpndklaaDoorDr12
import Derived.Test.YtoaopapnpndklaaDoorRows
import Derived.Stop.LaidTwo
import Derived.LaidMore
import Derived.MakeChecks

/- The program's code of an error. -/
namespace Go.Proofs.YtoaopapnpndklaaDoor.Dra
open Go.ChangeShapes Go.WideShapes Go.ChangeAt Go.RowKit
open Go.Proofs.YtoaopapnpndklaaDoor.Aid Go.Proofs.YtoaopapnpndklaaDoor.Lst Go.Proofs.YtoaopapnpndklaaDoor.Book Go.Proofs.YtoaopapnpndklaaDoor.Rin
set_option maxRecDepth 100000
set_option linter.unusedVariables false

def codes : List Nat := [1, 2, 3, 4, 5, 6, 7, 8, 9, 10, 12, 13]
/- The errors, apart from each other. -/
structure Ea (a : Nat → Addr) (w : World) : Prop where
  er : Er a w
  ne : ∀ x y, x ∈ codes → y ∈ codes → x ≠ y → a x ≠ a y
  bk : ∀ x, x ∈ codes → ∃ C t, w.heap[(a x).block]? = some (.cells C t (0, 0))
theorem lt_of_get {α : Type} {A : Array α} {i : Nat} {x : α} (h : A[i]? = some x) : i < A.size := Nat.lt_of_not_le fun hle => by rw [Array.getElem?_eq_none hle] at h; cases h
theorem Ea.later {a : Nat → Addr} {w w1 : World} (h : Ea a w) (hb : Below w.heap.size w w1) : Ea a w1 := ⟨h.er.later hb, h.ne, fun x hx => by
  obtain ⟨C, t, e⟩ := h.bk x hx
  exact ⟨C, t, by rw [hb.block _ (lt_of_get e)]; exact e⟩⟩
theorem run_eql_iface_nil {P : Program} {ti : TypeId} {ms : Array (String × TypeId)} (w : World) (tp : TypeId) (v : Value) (hi : P.underlying ti = some (.interface ms)) : (binOp .eql ti (.iface tp v) .nilIface).run P w = .ok (.bool false) w := by
  have h : ∀ d : Nat, (Op.equalIn (d + 1) ti (.iface tp v) .nilIface).run P w = .ok false w := fun d => by simp [Op.equalIn, run_underlying hi]
  simp only [binOp]
  simp [Op.equal, Op.maxDepth, h 9999]
theorem run_eql_nil_nil {P : Program} {ti : TypeId} {ms : Array (String × TypeId)} (w : World) (hi : P.underlying ti = some (.interface ms)) : (binOp .eql ti .nilIface .nilIface).run P w = .ok (.bool true) w := by
  have h : ∀ d : Nat, (Op.equalIn (d + 1) ti .nilIface .nilIface).run P w = .ok true w := fun d => by simp [Op.equalIn, run_underlying hi]
  simp only [binOp]
  simp [Op.equal, Op.maxDepth, h 9999]

theorem is_code {a : Nat → Addr} {w : World} (h : Ea a w) (x y : Nat) (hx : x ∈ codes) (hy : y ∈ codes) :
    Calls Tryd.prog 44 #[.iface 102 (.pointer (some (a x))), .iface 102 (.pointer (some (a y)))] w fun e w' => e = .returned (.bool (decide (x = y))) ∧ w' = w := by
  by_cases e : x = y
  · subst e
    rw [decide_eq_true rfl]
    exact Isx.is_same (a x) w
  · rw [decide_eq_false e]
    obtain ⟨C, t, e1⟩ := h.bk x hx
    obtain ⟨C', t', e2⟩ := h.bk y hy
    exact Isx.is_other (a x) (a y) C C' t t' w (h.ne x y hx hy e) e1 e2

set_option maxHeartbeats 4000000 in
theorem code_nil (w : World) : Calls Tryd.prog 23 #[.nilIface] w fun e w' => e = .returned (.int .i64 0) ∧ w' = w := by
  have q := run_eql_nil_nil (P := Tryd.prog) w Tryd.underlying47
  go_enter Tryd.func23, Tryd.ntmps23
  go_wp2_with (fail)
  go_ret
  exact ⟨rfl, rfl⟩

set_option maxHeartbeats 8000000 in
theorem code_any {a : Nat → Addr} {w : World} (h : Ea a w) (x : Nat) (hx : x ∈ codes) :
    Calls Tryd.prog 23 #[ev a x] w fun e w' => e = .returned (.int .i64 x) ∧ w' = w := by
  have HA : Hid (Ea a w) := h
  have HX : Hid (x ∈ codes) := hx
  have q := run_eql_iface_nil (P := Tryd.prog) w 102 (.pointer (some (a x))) Tryd.underlying47
  clear h hx
  unfold ev
  go_enter Tryd.func23, Tryd.ntmps23
  have g1 : w.cell? ⟨2, 0, none⟩ = some (.iface 102 (.pointer (some (a 1)))) := HA.out.er.h _ _ (by simp [erl])
  go_wp2_with (fail)
  refine (is_code HA.out x 1 HX.out (by simp [codes])).mono ?_
  rintro e w ⟨rfl, rfl⟩
  clear g1 q
  by_cases h1 : x = 1
  · rw [decide_eq_true h1]
    subst h1
    go_wp2_with (fail)
    go_ret
    exact ⟨rfl, rfl⟩
  rw [decide_eq_false h1]
  have H1 : Hid (x ≠ 1) := h1
  clear h1
  have g2 : w.cell? ⟨3, 0, none⟩ = some (.iface 102 (.pointer (some (a 2)))) := HA.out.er.h _ _ (by simp [erl])
  go_wp2_with (fail)
  refine (is_code HA.out x 2 HX.out (by simp [codes])).mono ?_
  rintro e w ⟨rfl, rfl⟩
  clear g2
  by_cases h2 : x = 2
  · rw [decide_eq_true h2]
    subst h2
    go_wp2_with (fail)
    go_ret
    exact ⟨rfl, rfl⟩
  rw [decide_eq_false h2]
  have H2 : Hid (x ≠ 2) := h2
  clear h2
  have g3 : w.cell? ⟨4, 0, none⟩ = some (.iface 102 (.pointer (some (a 3)))) := HA.out.er.h _ _ (by simp [erl])
  go_wp2_with (fail)
  refine (is_code HA.out x 3 HX.out (by simp [codes])).mono ?_
  rintro e w ⟨rfl, rfl⟩
  clear g3
  by_cases h3 : x = 3
  · rw [decide_eq_true h3]
    subst h3
    go_wp2_with (fail)
    go_ret
    exact ⟨rfl, rfl⟩
  rw [decide_eq_false h3]
  have H3 : Hid (x ≠ 3) := h3
  clear h3
  have g4 : w.cell? ⟨5, 0, none⟩ = some (.iface 102 (.pointer (some (a 4)))) := HA.out.er.h _ _ (by simp [erl])
  go_wp2_with (fail)
  refine (is_code HA.out x 4 HX.out (by simp [codes])).mono ?_
  rintro e w ⟨rfl, rfl⟩
  clear g4
  by_cases h4 : x = 4
  · rw [decide_eq_true h4]
    subst h4
    go_wp2_with (fail)
    go_ret
    exact ⟨rfl, rfl⟩
  rw [decide_eq_false h4]
  have H4 : Hid (x ≠ 4) := h4
  clear h4
  have g5 : w.cell? ⟨6, 0, none⟩ = some (.iface 102 (.pointer (some (a 5)))) := HA.out.er.h _ _ (by simp [erl])
  go_wp2_with (fail)
  refine (is_code HA.out x 5 HX.out (by simp [codes])).mono ?_
  rintro e w ⟨rfl, rfl⟩
  clear g5
  by_cases h5 : x = 5
  · rw [decide_eq_true h5]
    subst h5
    go_wp2_with (fail)
    go_ret
    exact ⟨rfl, rfl⟩
  rw [decide_eq_false h5]
  have H5 : Hid (x ≠ 5) := h5
  clear h5
  have g6 : w.cell? ⟨7, 0, none⟩ = some (.iface 102 (.pointer (some (a 6)))) := HA.out.er.h _ _ (by simp [erl])
  go_wp2_with (fail)
  refine (is_code HA.out x 6 HX.out (by simp [codes])).mono ?_
  rintro e w ⟨rfl, rfl⟩
  clear g6
  by_cases h6 : x = 6
  · rw [decide_eq_true h6]
    subst h6
    go_wp2_with (fail)
    go_ret
    exact ⟨rfl, rfl⟩
  rw [decide_eq_false h6]
  have H6 : Hid (x ≠ 6) := h6
  clear h6
  have g7 : w.cell? ⟨8, 0, none⟩ = some (.iface 102 (.pointer (some (a 7)))) := HA.out.er.h _ _ (by simp [erl])
  go_wp2_with (fail)
  refine (is_code HA.out x 7 HX.out (by simp [codes])).mono ?_
  rintro e w ⟨rfl, rfl⟩
  clear g7
  by_cases h7 : x = 7
  · rw [decide_eq_true h7]
    subst h7
    go_wp2_with (fail)
    go_ret
    exact ⟨rfl, rfl⟩
  rw [decide_eq_false h7]
  have H7 : Hid (x ≠ 7) := h7
  clear h7
  have g8 : w.cell? ⟨9, 0, none⟩ = some (.iface 102 (.pointer (some (a 8)))) := HA.out.er.h _ _ (by simp [erl])
  go_wp2_with (fail)
  refine (is_code HA.out x 8 HX.out (by simp [codes])).mono ?_
  rintro e w ⟨rfl, rfl⟩
  clear g8
  by_cases h8 : x = 8
  · rw [decide_eq_true h8]
    subst h8
    go_wp2_with (fail)
    go_ret
    exact ⟨rfl, rfl⟩
  rw [decide_eq_false h8]
  have H8 : Hid (x ≠ 8) := h8
  clear h8
  have g9 : w.cell? ⟨1, 0, none⟩ = some (.iface 102 (.pointer (some (a 9)))) := HA.out.er.h _ _ (by simp [erl])
  go_wp2_with (fail)
  refine (is_code HA.out x 9 HX.out (by simp [codes])).mono ?_
  rintro e w ⟨rfl, rfl⟩
  clear g9
  by_cases h9 : x = 9
  · rw [decide_eq_true h9]
    subst h9
    go_wp2_with (fail)
    go_ret
    exact ⟨rfl, rfl⟩
  rw [decide_eq_false h9]
  have H9 : Hid (x ≠ 9) := h9
  clear h9
  have g10 : w.cell? ⟨10, 0, none⟩ = some (.iface 102 (.pointer (some (a 10)))) := HA.out.er.h _ _ (by simp [erl])
  go_wp2_with (fail)
  refine (is_code HA.out x 10 HX.out (by simp [codes])).mono ?_
  rintro e w ⟨rfl, rfl⟩
  clear g10
  by_cases h10 : x = 10
  · rw [decide_eq_true h10]
    subst h10
    go_wp2_with (fail)
    go_ret
    exact ⟨rfl, rfl⟩
  rw [decide_eq_false h10]
  have H10 : Hid (x ≠ 10) := h10
  clear h10
  have g12 : w.cell? ⟨11, 0, none⟩ = some (.iface 102 (.pointer (some (a 12)))) := HA.out.er.h _ _ (by simp [erl])
  go_wp2_with (fail)
  refine (is_code HA.out x 12 HX.out (by simp [codes])).mono ?_
  rintro e w ⟨rfl, rfl⟩
  clear g12
  by_cases h12 : x = 12
  · rw [decide_eq_true h12]
    subst h12
    go_wp2_with (fail)
    go_ret
    exact ⟨rfl, rfl⟩
  rw [decide_eq_false h12]
  have H12 : Hid (x ≠ 12) := h12
  clear h12
  go_wp2_with (fail)
  go_ret
  have e : x = 13 := by
    have hx := HX.out
    simp [codes] at hx
    have := H1.out; have := H2.out; have := H3.out; have := H4.out; have := H5.out; have := H6.out; have := H7.out; have := H8.out; have := H9.out; have := H10.out; have := H12.out
    omega
  exact ⟨by rw [e]; rfl, rfl⟩

end Go.Proofs.YtoaopapnpndklaaDoor.Dra

/- What the tied card lays of the errors, for the walks: twelve pointers apart (Ea). -/
namespace Go.Proofs.YtoaopapnpndklaaDoor.Dra
open Go.ChangeShapes Go.WideShapes Go.ChangeAt Go.RowKit
set_option maxRecDepth 100000
set_option linter.unusedVariables false

/- Of a list of errors laid: where each lies, all apart. -/
theorem sents {P : Program} {W : World} {nm : String} {ti tp te ts : TypeId} {ms : Array (String × TypeId)} {f : Field} (hi : P.underlying ti = some (.interface ms)) (hrow : ∀ u, P.typeName? 3 u = some nm → u = tp)
    (hp : P.underlying tp = some (.pointer te)) (he : P.underlying te = some (.struct #[f])) (hft : f.type = ts) (hfo : f.offset = 0) (hs : P.underlying ts = some .string) (hc : P.cellsOf te = 1) (hcs : P.cellsOf ts = 1) :
    ∀ (l : List (String × DataW Unit)) (ps : List MemPlace), DataW.LaidVars P W l ps → (∀ x ∈ l, ∃ t, x.2 = .iface nm (.ptr (.agg [.lit (.string t)]))) →
    (l.all fun x => ((P.globalNamed x.1).bind (P.globals[·]?)).all fun gl => gl.type == ti) = true →
    (∀ b off, MemPlace.cell b off ∈ ps → (∃ c t, W.heap[b]? = some (.cells c t (0, 0))) ∧ ∀ u v, W.cell? ⟨b, off, none⟩ = some (.iface u v) → Value.okWide P W .any 0 u v) →
    ∃ L : List Addr, L.length = l.length ∧ (L.map fun a => MemPlace.cell a.block a.off).Sublist ps ∧ ∀ (i : Nat) x, l[i]? = some x → ∃ a g, L[i]? = some a ∧ P.globalNamed x.1 = some g ∧ W.cell? ⟨g, 0, none⟩ = some (.iface tp (.pointer (some a))) ∧ ∃ C t, W.heap[a.block]? = some (.cells C t (0, 0))
  | [], ps, h, _, _, _ => ⟨[], rfl, by simp, fun i x hx => by simp at hx⟩
  | (n, d) :: r, ps, h, hd, hg, hr => by
    obtain ⟨g, t, cs, fuel, p, q, h1, h2, h3, h4, h5, rfl⟩ := h
    obtain ⟨tx, e⟩ := hd (n, d) (by simp)
    have e' : d = .iface nm (.ptr (.agg [.lit (.string tx)])) := e
    subst e'
    simp only [List.all_cons, Bool.and_eq_true] at hg
    have ht : t = ti := by
      have k := hg.1
      rw [h1] at k
      cases hh : P.globals[g]? with
      | none => rw [hh] at h2; cases h2
      | some gl =>
        rw [hh] at h2
        obtain rfl : gl.type = t := Option.some.inj h2
        simpa [hh] using k
    subst ht
    obtain ⟨L, k1, k2, k3⟩ := sents hi hrow hp he hft hfo hs hc hcs r q h5 (fun x hx => hd x (List.mem_cons_of_mem _ hx)) hg.2 (fun b off hm => hr b off (List.mem_append_right _ hm))
    obtain ⟨l0⟩ := cs
    have ok0 : ∀ u v, l0 = [.iface u v] → Value.okWide P W .any 0 u v := fun u v e => by
      subst e
      exact (hr g 0 (by simp [MemPlace.row])).2 u v (by simpa using World.var?_cell h1 h3 0)
    obtain ⟨a0, s0, rfl, hc0, hs0, hz0, rfl⟩ := errorString_of_trod hi hrow hp he hft hfo hs hc hcs h4 ok0
    have hb := (hr a0.block a0.off (by simp [MemPlace.row])).1
    refine ⟨a0 :: L, by simp [k1], ?_, fun i x hx => ?_⟩
    · have e1 : MemPlace.row a0 1 = [MemPlace.cell a0.block a0.off] := by simp [MemPlace.row]
      rw [e1, List.append_assoc]
      refine List.Sublist.trans ?_ (List.sublist_append_right _ _)
      exact List.Sublist.cons_cons (MemPlace.cell a0.block a0.off) k2
    · cases i with
      | zero =>
        simp at hx
        subst hx
        exact ⟨a0, g, rfl, h1, by simpa using World.var?_cell h1 h3 0, hb⟩
      | succ i =>
        simp at hx
        simpa using k3 i x hx

def ix (x : Nat) : Nat := if x ≤ 10 then x - 1 else x - 2
theorem row_ptr (u : TypeId) (h : Tryd.prog.typeName? 3 u = some "*errors.errorString") : u = 102 :=
  have star : "*" ++ "errors.errorString" = "*errors.errorString" := by decide
  typeName_ptr_named (nm := "errors.errorString") (by rw [star]; kernel_rfl) (by kernel_rfl) (by decide) u (by rw [star]; exact h)

theorem of_laid {W : World} (h : laidMetH Tryd.prog Rows.fnExactBookDoRow.laid W) : ∃ a : Nat → Addr, Ea a W := by
  rw [MakeChecks.laidMetH_plain _ _ _ (by kernel_rfl)] at h
  obtain ⟨ps, hv, hnd, hrows⟩ := h
  obtain ⟨L, k1, k2, k3⟩ := sents Tryd.underlying47 row_ptr Tryd.underlying102 Tryd.underlying128 rfl rfl (by kernel_rfl) (by kernel_rfl) (by kernel_rfl) _ _ hv (by
    simp only [Rows.fnExactBookDoRow, List.forall_mem_cons]
    exact ⟨⟨_, rfl⟩, ⟨_, rfl⟩, ⟨_, rfl⟩, ⟨_, rfl⟩, ⟨_, rfl⟩, ⟨_, rfl⟩, ⟨_, rfl⟩, ⟨_, rfl⟩, ⟨_, rfl⟩, ⟨_, rfl⟩, ⟨_, rfl⟩, ⟨_, rfl⟩, fun _ h => by cases h⟩) (by kernel_rfl) hrows
  have k1' : L.length = 12 := k1
  have nd : L.Nodup := by
    have q := hnd.sublist k2
    rw [List.nodup_iff_pairwise_ne, List.pairwise_map] at q
    exact q.imp (fun hab e => hab (by rw [e]))
  have get : ∀ i, i < 12 → L[i]? = some ((L[i]?).getD ⟨0, 0, none⟩) := fun i hi => by
    rw [List.getElem?_eq_getElem (by omega)]; rfl
  refine ⟨fun x => (L[ix x]?).getD ⟨0, 0, none⟩, ⟨⟨fun g x hm => ?_⟩, fun x y hx hy hxy e => ?_, fun x hx => ?_⟩⟩
  · have key : ∀ (i : Nat) (y : String × DataW Unit) (G : Nat), Rows.fnExactBookDoRow.laid[i]? = some y → Tryd.prog.globalNamed y.1 = some G → ix x = i → g = G → W.cell? ⟨g, 0, none⟩ = some (ev (fun x => (L[ix x]?).getD ⟨0, 0, none⟩) x) := fun i y G hy hG hi hg => by
      obtain ⟨a, g', q1, q2, q3, _⟩ := k3 i y hy
      obtain rfl := Option.some.inj (hG.symm.trans q2)
      subst hg
      rw [q3]
      simp only [ev, hi, q1, Option.getD_some]
    simp only [erl, List.mem_cons, Prod.mk.injEq, List.not_mem_nil, or_false] at hm
    rcases hm with h | h | h | h | h | h | h | h | h | h | h | h
    all_goals obtain ⟨h1, h2⟩ := h
    · exact key 0 _ _ rfl (by kernel_rfl) (by rw [h2]; rfl) h1
    · exact key 1 _ _ rfl (by kernel_rfl) (by rw [h2]; rfl) h1
    · exact key 2 _ _ rfl (by kernel_rfl) (by rw [h2]; rfl) h1
    · exact key 3 _ _ rfl (by kernel_rfl) (by rw [h2]; rfl) h1
    · exact key 4 _ _ rfl (by kernel_rfl) (by rw [h2]; rfl) h1
    · exact key 5 _ _ rfl (by kernel_rfl) (by rw [h2]; rfl) h1
    · exact key 6 _ _ rfl (by kernel_rfl) (by rw [h2]; rfl) h1
    · exact key 7 _ _ rfl (by kernel_rfl) (by rw [h2]; rfl) h1
    · exact key 8 _ _ rfl (by kernel_rfl) (by rw [h2]; rfl) h1
    · exact key 9 _ _ rfl (by kernel_rfl) (by rw [h2]; rfl) h1
    · exact key 10 _ _ rfl (by kernel_rfl) (by rw [h2]; rfl) h1
    · exact key 11 _ _ rfl (by kernel_rfl) (by rw [h2]; rfl) h1
  · have bx : ix x < 12 ∧ ix y < 12 ∧ ix x ≠ ix y := by
      simp only [codes, List.mem_cons, List.not_mem_nil, or_false] at hx hy
      unfold ix
      refine ⟨?_, ?_, ?_⟩ <;> (repeat' split) <;> omega
    have e1 : L[ix x]? = L[ix y]? := by rw [get _ bx.1, get _ bx.2.1]; exact congrArg some e
    exact bx.2.2 ((List.getElem?_inj (i := ix x) (j := ix y) (by rw [k1']; exact bx.1) nd).1 e1)
  · have bx : ix x < 12 := by
      simp only [codes, List.mem_cons, List.not_mem_nil, or_false] at hx
      unfold ix
      (repeat' split) <;> omega
    obtain ⟨y, hy⟩ : ∃ y, Rows.fnExactBookDoRow.laid[ix x]? = some y := ⟨_, List.getElem?_eq_getElem (by exact bx)⟩
    obtain ⟨a, g', q1, _, _, q4⟩ := k3 _ y hy
    show ∃ C t, W.heap[((L[ix x]?).getD ⟨0, 0, none⟩).block]? = _
    rw [q1]
    exact q4

end Go.Proofs.YtoaopapnpndklaaDoor.Dra

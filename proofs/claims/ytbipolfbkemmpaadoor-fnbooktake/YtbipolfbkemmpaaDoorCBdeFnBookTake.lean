import Derived.Test.YtbipolfbkemmpaaDoorM41
import Derived.Test.YtbipolfbkemmpaaDoorRows
import Derived.Stop.LaidTwo
import Derived.LaidMore
import Derived.MakeChecks

/- What the tied card lays of the errors, for the walks: twelve pointers apart (Ea). -/
namespace Go.Proofs.YtbipolfbkemmpaaDoor.Dra
open Go.ChangeShapes Go.WideShapes Go.ChangeAt Go.RowKit
set_option maxRecDepth 100000
set_option linter.unusedVariables false

/- Of a list of errors laid: where each lies, all apart. -/
theorem sents {P : Program} {W : World} {nm : String} {ti tp te ts : TypeId} {ms : Array (String × TypeId)} {f : Field} (hi : P.underlying ti = some (.interface ms)) (hrow : ∀ u, P.typeName? 3 u = some nm → u = tp)
    (hp : P.underlying tp = some (.pointer te)) (he : P.underlying te = some (.struct #[f])) (hft : f.type = ts) (hfo : f.offset = 0) (hs : P.underlying ts = some .string) (hc : P.cellsOf te = 1) (hcs : P.cellsOf ts = 1) :
    ∀ (l : List (String × DataW Unit)) (ps : List MemPlace), DataW.LaidVars P W l ps → (∀ x ∈ l, ∃ t, x.2 = .iface nm (.ptr (.agg [.lit (.string t)]))) →
    (l.all fun x => ((P.globalNamed x.1).bind (P.globals[·]?)).all fun gl => gl.type == ti) = true →
    (∀ b off, MemPlace.cell b off ∈ ps → (∃ c t, W.heap[b]? = some (.cells c t (0, 0))) ∧ ∀ u v, W.cell? ⟨b, off, none⟩ = some (.iface u v) → Value.okWide P W .any 0 u v) →
    ∃ L : List Addr, L.length = l.length ∧ (L.map fun a => MemPlace.cell a.block a.off).Sublist ps ∧ ∀ (i : Nat) x, l[i]? = some x → ∃ a g, L[i]? = some a ∧ P.globalNamed x.1 = some g ∧ W.cell? ⟨g, 0, none⟩ = some (.iface tp (.pointer (some a))) ∧ ∃ C t, W.heap[a.block]? = some (.cells C t (0, 0))
  | [], ps, h, _, _, _ => ⟨[], rfl, by simp, fun i x hx => by simp at hx⟩
  | (n, d) :: r, ps, h, hd, hg, hr => by
    obtain ⟨g, t, cs, fuel, p, q, h1, h2, h3, h4, h5, rfl⟩ := h
    obtain ⟨tx, e⟩ := hd (n, d) (by simp)
    have e' : d = .iface nm (.ptr (.agg [.lit (.string tx)])) := e
    subst e'
    simp only [List.all_cons, Bool.and_eq_true] at hg
    have ht : t = ti := by
      have k := hg.1
      rw [h1] at k
      cases hh : P.globals[g]? with
      | none => rw [hh] at h2; cases h2
      | some gl =>
        rw [hh] at h2
        obtain rfl : gl.type = t := Option.some.inj h2
        simpa [hh] using k
    subst ht
    obtain ⟨L, k1, k2, k3⟩ := sents hi hrow hp he hft hfo hs hc hcs r q h5 (fun x hx => hd x (List.mem_cons_of_mem _ hx)) hg.2 (fun b off hm => hr b off (List.mem_append_right _ hm))
    obtain ⟨l0⟩ := cs
    have ok0 : ∀ u v, l0 = [.iface u v] → Value.okWide P W .any 0 u v := fun u v e => by
      subst e
      exact (hr g 0 (by simp [MemPlace.row])).2 u v (by simpa using World.var?_cell h1 h3 0)
    obtain ⟨a0, s0, rfl, hc0, hs0, hz0, rfl⟩ := errorString_of_trod hi hrow hp he hft hfo hs hc hcs h4 ok0
    have hb := (hr a0.block a0.off (by simp [MemPlace.row])).1
    refine ⟨a0 :: L, by simp [k1], ?_, fun i x hx => ?_⟩
    · have e1 : MemPlace.row a0 1 = [MemPlace.cell a0.block a0.off] := by simp [MemPlace.row]
      rw [e1, List.append_assoc]
      refine List.Sublist.trans ?_ (List.sublist_append_right _ _)
      exact List.Sublist.cons_cons (MemPlace.cell a0.block a0.off) k2
    · cases i with
      | zero =>
        simp at hx
        subst hx
        exact ⟨a0, g, rfl, h1, by simpa using World.var?_cell h1 h3 0, hb⟩
      | succ i =>
        simp at hx
        simpa using k3 i x hx

def ix (x : Nat) : Nat := if x ≤ 10 then x - 1 else x - 2
theorem row_ptr (u : TypeId) (h : Tryd.prog.typeName? 3 u = some "*errors.errorString") : u = 112 :=
  have star : "*" ++ "errors.errorString" = "*errors.errorString" := by decide
  typeName_ptr_named (nm := "errors.errorString") (by rw [star]; kernel_rfl) (by kernel_rfl) (by decide) u (by rw [star]; exact h)

theorem of_laid {W : World} (h : laidMetH Tryd.prog Rows.fnBookTakeRow.laid W) : ∃ a : Nat → Addr, Ea a W := by
  rw [MakeChecks.laidMetH_plain _ _ _ (by kernel_rfl)] at h
  obtain ⟨ps, hv, hnd, hrows⟩ := h
  obtain ⟨L, k1, k2, k3⟩ := sents Tryd.underlying49 row_ptr Tryd.underlying112 Tryd.underlying139 rfl rfl (by kernel_rfl) (by kernel_rfl) (by kernel_rfl) _ _ hv (by
    simp only [Rows.fnBookTakeRow, List.forall_mem_cons]
    exact ⟨⟨_, rfl⟩, ⟨_, rfl⟩, ⟨_, rfl⟩, ⟨_, rfl⟩, ⟨_, rfl⟩, ⟨_, rfl⟩, ⟨_, rfl⟩, ⟨_, rfl⟩, ⟨_, rfl⟩, ⟨_, rfl⟩, ⟨_, rfl⟩, ⟨_, rfl⟩, fun _ h => by cases h⟩) (by kernel_rfl) hrows
  have k1' : L.length = 12 := k1
  have nd : L.Nodup := by
    have q := hnd.sublist k2
    rw [List.nodup_iff_pairwise_ne, List.pairwise_map] at q
    exact q.imp (fun hab e => hab (by rw [e]))
  have get : ∀ i, i < 12 → L[i]? = some ((L[i]?).getD ⟨0, 0, none⟩) := fun i hi => by
    rw [List.getElem?_eq_getElem (by omega)]; rfl
  refine ⟨fun x => (L[ix x]?).getD ⟨0, 0, none⟩, ⟨⟨fun g x hm => ?_⟩, fun x y hx hy hxy e => ?_, fun x hx => ?_⟩⟩
  · have key : ∀ (i : Nat) (y : String × DataW Unit) (G : Nat), Rows.fnBookTakeRow.laid[i]? = some y → Tryd.prog.globalNamed y.1 = some G → ix x = i → g = G → W.cell? ⟨g, 0, none⟩ = some (ev (fun x => (L[ix x]?).getD ⟨0, 0, none⟩) x) := fun i y G hy hG hi hg => by
      obtain ⟨a, g', q1, q2, q3, _⟩ := k3 i y hy
      obtain rfl := Option.some.inj (hG.symm.trans q2)
      subst hg
      rw [q3]
      simp only [ev, hi, q1, Option.getD_some]
    simp only [erl, List.mem_cons, Prod.mk.injEq, List.not_mem_nil, or_false] at hm
    rcases hm with h | h | h | h | h | h | h | h | h | h | h | h
    all_goals obtain ⟨h1, h2⟩ := h
    · exact key 0 _ _ rfl (by kernel_rfl) (by rw [h2]; rfl) h1
    · exact key 1 _ _ rfl (by kernel_rfl) (by rw [h2]; rfl) h1
    · exact key 2 _ _ rfl (by kernel_rfl) (by rw [h2]; rfl) h1
    · exact key 3 _ _ rfl (by kernel_rfl) (by rw [h2]; rfl) h1
    · exact key 4 _ _ rfl (by kernel_rfl) (by rw [h2]; rfl) h1
    · exact key 5 _ _ rfl (by kernel_rfl) (by rw [h2]; rfl) h1
    · exact key 6 _ _ rfl (by kernel_rfl) (by rw [h2]; rfl) h1
    · exact key 7 _ _ rfl (by kernel_rfl) (by rw [h2]; rfl) h1
    · exact key 8 _ _ rfl (by kernel_rfl) (by rw [h2]; rfl) h1
    · exact key 9 _ _ rfl (by kernel_rfl) (by rw [h2]; rfl) h1
    · exact key 10 _ _ rfl (by kernel_rfl) (by rw [h2]; rfl) h1
    · exact key 11 _ _ rfl (by kernel_rfl) (by rw [h2]; rfl) h1
  · have bx : ix x < 12 ∧ ix y < 12 ∧ ix x ≠ ix y := by
      simp only [codes, List.mem_cons, List.not_mem_nil, or_false] at hx hy
      unfold ix
      refine ⟨?_, ?_, ?_⟩ <;> (repeat' split) <;> omega
    have e1 : L[ix x]? = L[ix y]? := by rw [get _ bx.1, get _ bx.2.1]; exact congrArg some e
    exact bx.2.2 ((List.getElem?_inj (i := ix x) (j := ix y) (by rw [k1']; exact bx.1) nd).1 e1)
  · have bx : ix x < 12 := by
      simp only [codes, List.mem_cons, List.not_mem_nil, or_false] at hx
      unfold ix
      (repeat' split) <;> omega
    obtain ⟨y, hy⟩ : ∃ y, Rows.fnBookTakeRow.laid[ix x]? = some y := ⟨_, List.getElem?_eq_getElem (by exact bx)⟩
    obtain ⟨a, g', q1, _, _, q4⟩ := k3 _ y hy
    show ∃ C t, W.heap[((L[ix x]?).getD ⟨0, 0, none⟩).block]? = _
    rw [q1]
    exact q4

end Go.Proofs.YtbipolfbkemmpaaDoor.Dra

/- A region that draws its order, by what holds whatever has come up: over no program. -/
import Derived.Test.YtfijhclocncplaaAid
import Derived.Deep.AppendSrc
namespace Go.Proofs.Ytfijhclocncplaa.Aid
open Go.ChangeShapes Go.WideShapes Go.ChangeAt Go.RowKit

def unl (l : Array Bool) : Nat := (l.toList.filter (fun b => !b)).length

theorem unl_set_aux : ∀ (l : List Bool) (i : Nat), l[i]? = some false → ((l.set i true).filter (fun b => !b)).length + 1 = (l.filter (fun b => !b)).length
  | [], i, h => by simp at h
  | b :: r, 0, h => by simp at h; subst h; simp
  | b :: r, i + 1, h => by
    have := unl_set_aux r i (by simpa using h)
    cases b <;> simp at * <;> omega

theorem unl_set {l : Array Bool} {i : Nat} (h : l.getD i true = false) : unl (l.setIfInBounds i true) + 1 = unl l := by
  unfold unl
  have h' : l.toList[i]? = some false := by
    rw [Array.getD_eq_getD_getElem?] at h
    cases e : l[i]? with
    | none => rw [e] at h; simp at h
    | some b => rw [e] at h; simp at h; subst h; simpa using e
  rw [Array.toList_setIfInBounds]
  exact unl_set_aux _ _ h'

theorem ready_unl {ops : Array Oper} {md : Region.Mode} {l : Array Bool} {i : Nat} (h : i ∈ Region.ready md ops l) : l.getD i true = false := by
  simp only [Region.ready, List.mem_filter, Bool.and_eq_true, Bool.not_eq_true'] at h
  exact h.2.1

/- A region in whatever order, by what holds whatever has come up. -/
theorem wpAnyH_inv {P : Program} {ops : Array Oper} {Q : Exit → Act → World → Prop} {md : Region.Mode} {S : World → Prop} (I : Array Bool → Act → World → Prop) (hS : ∀ l a w, I l a w → S w)
    (hd : ∀ l a w, I l a w → Region.ready md ops l = [] → Q .normal a w)
    (hs : ∀ l a w i, I l a w → i ∈ Region.ready md ops l → wpOp P ops Q i (I (l.setIfInBounds i true)) a w) :
    ∀ (fuel : Nat) (l : Array Bool) (a : Act) (w : World), unl l ≤ fuel → I l a w → wpAnyH P md ops Q S fuel l a w
  | 0, l, a, w, hu, h => by
    have hr : Region.ready md ops l = [] := List.eq_nil_iff_forall_not_mem.2 fun i hi => by
      have := unl_set (ready_unl hi); omega
    exact ⟨hr, hd l a w h hr⟩
  | fuel + 1, l, a, w, hu, h => ⟨hd l a w h, fun i hi => wpOp_mono (fun a' w' h' => ⟨hS _ _ _ h', wpAnyH_inv I hS hd hs fuel _ a' w' (by have := unl_set (ready_unl hi); omega) h'⟩) (hs l a w i h hi)⟩

end Go.Proofs.Ytfijhclocncplaa.Aid

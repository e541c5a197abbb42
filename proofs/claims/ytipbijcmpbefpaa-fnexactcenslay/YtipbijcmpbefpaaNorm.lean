/- What is asked of a book does not ask where it lies. -/
import Derived.Test.YtipbijcmpbefpaaIm6
namespace Go.Proofs.Ytipbijcmpbefpaa.Book
open Go.ChangeShapes Go.WideShapes Go.ChangeAt Go.RowKit
open Go.Proofs.Ytipbijcmpbefpaa.Aid Go.Proofs.Ytipbijcmpbefpaa.Lst
set_option maxRecDepth 100000
set_option linter.unusedVariables false

def Sx.norm (x : Sx) : Sx := ⟨none, x.n, 0, x.f⟩
def Bx.norm (b : Bx) : Bx := ⟨b.s, b.p.norm, b.h0.norm, b.h1.norm, b.h2.norm, b.h3.norm, b.o.norm, b.i.norm, b.e.norm⟩
theorem hd_norm (b : Bx) (k : Nat) : b.norm.hd k = (b.hd k).norm := by
  unfold Bx.hd
  repeat' split
  all_goals rfl
theorem ok_norm (b : Bx) : OkP b.norm ↔ OkP b := by
  unfold OkP PagesP PageP ListsP ListP BegP SlotsP LensP InsP OwnsP InU OwnU
  simp only [hd_norm]
  exact Iff.rfl
theorem norm_m {b c : Bx} (h : b.m = c.m) : b.norm = c.norm := by
  simp only [Bx.m, Bm.mk.injEq, Sx.m, Prod.mk.injEq] at h
  obtain ⟨h0, ⟨h1, h1'⟩, ⟨h2, h2'⟩, ⟨h3, h3'⟩, ⟨h4, h4'⟩, ⟨h5, h5'⟩, ⟨h6, h6'⟩, ⟨h7, h7'⟩, ⟨h8, h8'⟩⟩ := h
  simp only [Bx.norm, Sx.norm, h0, h1, h1', h2, h2', h3, h3', h4, h4', h5, h5', h6, h6', h7, h7', h8, h8']
theorem ok_m {b c : Bx} (h : b.m = c.m) : OkP b ↔ OkP c := by rw [← ok_norm b, ← ok_norm c, norm_m h]
theorem wf_norm (b : Bx) : b.norm.Wf ↔ b.Wf := by
  unfold Bx.Wf
  simp only [Bx.lists, List.forall_mem_cons]
  exact Iff.rfl
theorem wf_m {b c : Bx} (h : b.m = c.m) : b.Wf ↔ c.Wf := by rw [← wf_norm b, ← wf_norm c, norm_m h]
theorem Bx.Good.wf {b : Bx} {w : World} (h : b.Good w) : b.Wf := fun x hx j => bounds_i64 ((h.each x hx).2.2 j)
theorem Bx.Own.cap {b : Bx} {B C : Nat} {w : World} (h : b.Own B C w) : b.o.n ≤ b.o.c := h.caps b.o (by simp [Bx.lists])

end Go.Proofs.Ytipbijcmpbefpaa.Book

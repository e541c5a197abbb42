/- A world copied into new memory. Conditions: at most 10,000,000 guests, 1,000,000,000 words a list. -/
import Derived.Test.YtpfgldbmihbiiaaTgs
namespace Go.Proofs.Ytpfgldbmihbiiaa.Gs
open Go.ChangeShapes Go.WideShapes Go.ChangeAt Go.RowKit
open Go.Proofs.Ytpfgldbmihbiiaa.Aid Go.Proofs.Ytpfgldbmihbiiaa.Lst
open Go.Proofs.Ytpfgldbmihbiiaa.Book (Ck ck_lit Sx)
set_option maxRecDepth 100000
set_option linter.unusedVariables false

theorem Gk.low {w0 w : World} {R n k : Nat} {g : Nat → Gx} {B1 B2 : Nat → Nat} (h : Gk w0 R n k g B1 B2 w) {c : Nat} (hc : c < R) (h0 : w0.heap.size ≤ c) (o : Nat) (vs : List Value) : Gk w0 R n k g B1 B2 (w.setCells c o vs) := by
  have hz := setCells_size c vs o w
  refine ⟨fun j hj => World.rangeAt_setCells_apart (h.row j hj) _ _ _ (.inl (by omega)), fun j hj => World.there_setCells (h.th j hj) _ _ _, fun j hj => ?_, fun j hj => by rw [hz]; exact h.ord j hj, h.inc, below_setCells h.bel h0 _ _, h.lo, by rw [hz]; exact h.lt⟩
  have o1 := h.ord j hj
  exact ⟨fk_setCells_far (by omega) _ _ _ (h.own j hj).1, fk_setCells_far (by omega) _ _ _ (h.own j hj).2⟩

/- The same world, its words at the head of the block b, its guests in the row R, their lists at the heads of blocks of their own. -/
def Wx.of (x : Wx) (b R : Nat) (B1 B2 : Nat → Nat) : Wx := ⟨⟨some ⟨b, 0, none⟩, x.ws.n, x.ws.n, x.ws.f⟩, some ⟨R, 0, none⟩, x.n, x.n, fun j => (x.g j).at (B1 j) (B2 j)⟩
structure Wo (w0 : World) (x : Wx) (b R : Nat) (B1 B2 : Nat → Nat) (w : World) : Prop where
  ws : Fk .u64 x.ws.n w b x.ws.f
  lo : w0.heap.size ≤ b
  br : b < R
  gs : Gk w0 R x.n x.n x.g B1 B2 w
theorem Wo.later {w0 w w1 : World} {x : Wx} {b R : Nat} {B1 B2 : Nat → Nat} (h : Wo w0 x b R B1 B2 w) (hb : Below w.heap.size w w1) : Wo w0 x b R B1 B2 w1 := ⟨h.ws.later hb, h.lo, h.br, h.gs.later hb⟩
theorem Wo.at {w0 w : World} {x : Wx} {b R : Nat} {B1 B2 : Nat → Nat} (h : Wo w0 x b R B1 B2 w) : (x.of b R B1 B2).At w :=
  ⟨h.ws.sl, .inr ⟨R, 0, rfl, fun j hj => by rw [Nat.zero_add]; exact h.gs.row j hj⟩, fun j hj => ⟨(h.gs.own j hj).1.sl, (h.gs.own j hj).2.sl⟩⟩

/- The bounds under which a world is copied. -/
structure Wx.Lim (x : Wx) : Prop where
  ws : x.ws.n ≤ 1000000000
  n : x.n ≤ 10000000
  each : ∀ j, j < x.n → (x.g j).snap.n ≤ 1000000000 ∧ (x.g j).plan.n ≤ 1000000000

set_option maxHeartbeats 4000000 in
theorem toworld_any (x : Wx) (w : World) (h : x.At w) (hl : x.Lim) :
    Calls Try.prog 7 #[.agg x.cells.toArray] w fun e w' => ∃ b R B1 B2, e = .returned (.agg (x.of b R B1 B2).cells.toArray) ∧ Wo w x b R B1 B2 w' := by
  have HC : Hid (Tw w w.heap.size x.cells (w.heap.size + 1) (w.heap.size + 1 + 1) [.slice none 0 0, .slice none 0 0] [] _) := Tw.start w x.cells.toArray #[.slice none 0 0, .slice none 0 0] 25 30 30
  have HA : Hid (x.At w) := h
  have HL : Hid x.Lim := hl
  clear h hl
  go_enter Try.func7, Try.ntmps7
  go_wp2_with (refine tw_load HC.out rfl 22 _ rfl _ rfl _ rfl (by kernel_rfl) ?_)
  generalize ((w.alloc (.cells x.cells.toArray 25)).alloc (.cells #[.slice none 0 0, .slice none 0 0] 30)).alloc (.cells #[.slice none 0 0, .slice none 0 0] 30) = W at HC ⊢
  refine (toUint64_any _ _ _ _ _ (HA.out.ws.later HC.out.b0) HL.out.ws).mono ?_
  rintro e w2 ⟨rfl, hf, hb, hz⟩
  replace HC : Hid _ := HC.out.row hb hf hz
  clear hf hb hz
  go_wp2_with (first
    | refine tw_load HC.out rfl 23 _ rfl _ rfl _ rfl (by kernel_rfl) ?_
    | (refine tw_store HC.out rfl 22 _ _ rfl _ rfl _ rfl (Nat.le_of_ble_eq_true rfl) (by kernel_rfl) rfl ?_
       intro w' h
       simp only [List.set] at h
       replace HC : Hid _ := h
       clear h))
  have K := HC.out.k _ List.mem_cons_self
  have HS : Hid (w.heap.size + 1 + 1 < w'.heap.size) := HC.out.lo
  have HK : Hid _ := K.2.2.2.2
  have HK1 : Hid _ := K.2.1
  have HK2 : Hid _ := K.2.2.1
  have HK3 : Hid _ := K.2.2.2.1
  clear K
  refine (toguests_any x.a x.n x.c x.g w' (HA.out.row.later HC.out.b0) (fun j hj => ⟨(HA.out.each j hj).later HC.out.b0, HL.out.each j hj⟩) HL.out.n).mono ?_
  rintro e w3 ⟨B1, B2, rfl, hg⟩
  replace HC : Hid _ := HC.out.later hg.bel
  have HG : Hid (Gk w w'.heap.size x.n x.n x.g B1 B2 w3) := ⟨hg.row, hg.th, hg.own, hg.ord, hg.inc, HC.out.b0, by have := HS.out; omega, hg.lt⟩
  clear hg
  go_wp2_with (with_reducible refine halt_at (.store 28 (.tmp 11) (.tmp 10)) rfl ?_)
  unfold Hid
  have HC1 : Hid _ := HC.out.put 1 (.slice (some ⟨w'.heap.size, 0, none⟩) x.n x.n)
  have c1 : w3.cell? ⟨w.heap.size + 1 + 1, 1, none⟩ = some (.slice none 0 0) := (HC.out.c 1 _ rfl).1
  have c2 : w3.frozen? ⟨w.heap.size + 1 + 1, 1, none⟩ = false := (HC.out.c 1 _ rfl).2
  have HF := (HC.out.k _ List.mem_cons_self).1
  have HW : Hid (Wo w x W.heap.size w'.heap.size B1 B2 ((w3.setCell ⟨w.heap.size + 1 + 1, 1, none⟩ (.slice (some ⟨w'.heap.size, 0, none⟩) x.n x.n)).setCells (w.heap.size + 1) 0 [.slice (some ⟨W.heap.size, 0, none⟩) x.ws.n x.ws.n, .slice (some ⟨w'.heap.size, 0, none⟩) x.n x.n])) := by
    have a1 := HS.out
    have a2 := HK.out
    have a3 := HK1.out
    exact ⟨fk_setCells_far (Ne.symm HK3.out) _ _ _ (HF.far _ (Ne.symm HK2.out) _), a3, a2, (HG.out.low (c := w.heap.size + 1 + 1) (by omega) (by omega) 1 [.slice (some ⟨w'.heap.size, 0, none⟩) x.n x.n]).low (by omega) (by omega) _ _⟩
  clear HF HS HK HK1 HK2 HK3 HG HL HA
  simp only [List.set] at HC1
  go_wp2_with (first
    | refine wpList_load_mid rfl 30 _ rfl (w.heap.size + 1 + 1) 0 rfl _ _ HC1.out.c.range Try.underlying30 rfl (by kernel_rfl) ?_
    | refine wpList_store_mid rfl 30 _ _ rfl (w.heap.size + 1) 0 _ rfl rfl HC1.out.t (by kernel_rfl) (by simp [Value.oneCell']) ?_)
  exact bodyPost_ret (results_cell_mid rfl _ _ (w.heap.size + 1) 0 _ _ rfl (World.rangeAt_setCells_same _ _ _ _ HC1.out.t) Try.underlying30 rfl (by kernel_rfl)) rfl ⟨_, _, B1, B2, rfl, HW.out⟩

end Go.Proofs.Ytpfgldbmihbiiaa.Gs

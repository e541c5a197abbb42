import Derived.Test.YtbeamigbcfkjjaaGreatDoorDr5
import Derived.Test.YtbeamigbcfkjjaaGreatDoorKw4
import Derived.Test.YtbeamigbcfkjjaaGreatDoorM7
import Derived.Test.YtbeamigbcfkjjaaGreatDoorM8
import Derived.Test.YtbeamigbcfkjjaaGreatDoorM13
import Derived.Test.YtbeamigbcfkjjaaGreatDoorM10
import Derived.Test.YtbeamigbcfkjjaaGreatDoorM3

/- The program's giveBack. -/
namespace Go.Proofs.YtbeamigbcfkjjaaGreatDoor.Dra
open Go.ChangeShapes Go.WideShapes Go.ChangeAt Go.RowKit
open Go.Proofs.YtbeamigbcfkjjaaGreatDoor.Aid Go.Proofs.YtbeamigbcfkjjaaGreatDoor.Lst Go.Proofs.YtbeamigbcfkjjaaGreatDoor.Book Go.Proofs.YtbeamigbcfkjjaaGreatDoor.Rin
set_option maxRecDepth 100000
set_option linter.unusedVariables false

theorem lp_any {B D : Nat} {s t : Nat → Nat} {b : Bx} {U : Nat → List Int} {w : World} (h : Dr B D s t b U w) (k p : Nat) (hk : k < 4) (hU : ∀ u ∈ U k, 0 ≤ u ∧ u ≤ 1000) :
    Calls Tryz.prog 100 #[.pointer (some ⟨s k, 0, none⟩), .int .i64 p] w fun e w' => e = .returned (.tuple #[]) ∧ ∃ t', Du B D s t w t' b (updL U k (keepU p (U k))) w' := by
  obtain ⟨un, nx, pv, l, g, ht⟩ := h.r k hk
  refine (leavepage_any p w g hU).mono ?_
  rintro e w' ⟨rfl, ⟨nx', pv', l', g', hl⟩, hf⟩
  exact ⟨rfl, (Du.start h).ring (l := l) (l' := l') k hk ht hf g' (fun x hx => .inl (List.mem_cons_of_mem _ (hl x hx)))⟩

theorem fr_any {B D : Nat} {s t : Nat → Nat} {b : Bx} {U : Nat → List Int} {w : World} (h : Dr B D s t b U w) (k : Nat) (u : Int) (hk : k < 4) :
    Calls Tryz.prog 81 #[.pointer (some ⟨s k, 0, none⟩), .int .i64 u] w fun e w' => e = .returned (.tuple #[]) ∧ ∃ t', Du B D s t w t' b (updL U k (u :: U k)) w' := by
  obtain ⟨n, h1, ⟨v, h2⟩, f1, f2, t', hd⟩ := (Du.start h).front k hk u 96
  refine (follow_at (s k) n u v w h1 h2 f1 f2).mono ?_
  rintro e w' ⟨rfl, ew⟩
  exact ⟨rfl, t', by rw [ew]; exact hd⟩

theorem emptF_step (P : Nat → Int) (p j : Nat) : Book.upd (emptF P p j) (p + j) 0 = emptF P p (j + 1) := by
  funext i; simp only [emptF, Book.upd]
  by_cases e : i = p + j
  · rw [if_pos e, if_pos (by omega)]
  · rw [if_neg e]
    by_cases q : p ≤ i ∧ i < p + j
    · rw [if_pos q, if_pos (by omega)]
    · rw [if_neg q, if_neg (by omega)]
/- How a room is given back. -/
def GvQ (b : Bx) (U : Nat → List Int) (A : Nat) (c : Bx) (V : Nat → List Int) (v : Value) : Prop :=
  v = .tuple #[] ∧ ((∃ n : Nat, 1 ≤ n ∧ b.p.f (A / 8) = 8 + (n : Int) ∧ c = b.unwide (A / 8) n ∧ V = U) ∨
  ∃ k : Nat, k < 4 ∧ b.p.f (A / 8) = (k : Int) + 1 ∧
    ((¬ FreeP (b.o.put A 0).f (A / 8) 0 ∧ c = b.own A 0 ∧ V = updL U k ((A : Int) :: U k)) ∨
     (FreeP (b.o.put A 0).f (A / 8) 0 ∧ c = (b.pag (A / 8) 0).own A 0 ∧ V = updL U k (keepU (A / 8) ((A : Int) :: U k)))))

set_option maxHeartbeats 16000000 in
theorem give_any {B D : Nat} {s t : Nat → Nat} {b : Bx} {U : Nat → List Int} {w : World} (h : Dr B D s t b U w) (hok : OkP b) (A : Nat) (hA : A < b.o.n) (hA0 : 0 < b.o.f A) (hU : ∀ k, k < 4 → ∀ u ∈ U k, 0 ≤ u ∧ u ≤ 1000) :
    Calls Tryz.prog 94 #[.pointer (some ⟨D, 0, none⟩), .int .i64 A] w fun e w' => DrA B D s t w (GvQ b U A) e w' := by
  have l3 := hok.1.1.2.2.2.2.2.1
  have l4 := hok.1.1.2.2.2.2.2.2
  have hw := had_at hok hA hA0
  obtain ⟨p, eP⟩ : ∃ p : Nat, p = A / 8 := ⟨_, rfl⟩
  have hd8 : (A : Int) / 8 = p := by omega
  have hp : p < b.p.n := by omega
  have a48 : A ≤ 1000 := by omega
  have p6 : p ≤ 6 := by omega
  rw [← eP] at hw
  obtain ⟨kp, op, ep, tp⟩ := h.addr (x := b.p) (by simp [Bx.lists]) (by omega)
  obtain ⟨ko, oo, eo, to⟩ := h.addr (x := b.o) (by simp [Bx.lists]) (by omega)
  have EP : Hid (b.p.a = some ⟨kp, op, none⟩) := ep
  have EO : Hid (b.o.a = some ⟨ko, oo, none⟩) := eo
  have HEP : Hid (p = A / 8) := eP
  have c1 : w.cell? ⟨D, 1, none⟩ = some (.slice (some ⟨kp, op, none⟩) b.p.n b.p.c) := by rw [← ep]; exact h.cell 1 _ rfl
  have c6 : w.cell? ⟨D, 6, none⟩ = some (.slice (some ⟨ko, oo, none⟩) b.o.n b.o.c) := by rw [← eo]; exact h.cell 6 _ rfl
  obtain ⟨cp, -⟩ := h.at (x := b.p) (by simp [Bx.lists]) ep hp
  obtain ⟨ca, fa⟩ := h.at (x := b.o) (by simp [Bx.lists]) eo hA
  have S := (Du.start h).owner eo A hA 0
  have HS : Hid (Du B D s t w t (b.own A 0) U (w.setCell ⟨ko, oo + A, none⟩ (.int .i64 0))) := S
  have NN : Hid (NonNeg (b.own A 0)) := fun u hu => by
    have := (hok.1.2.2 u hu).1
    simp only [Bx.own, Sx.put, Book.upd]
    split <;> omega
  have OU : Hid ((p + 1) * 8 ≤ b.o.n ∧ b.o.n ≤ 1000 ∧ b.o.n ≤ b.o.c) := ⟨by omega, by omega, (h.h.each b.o (by simp [Bx.lists])).1⟩
  have iA : (A : Int) < b.o.n := by omega
  have iP : (p : Int) < b.p.n := by omega
  clear S ep eo eP l3 l4 hok h hA0
  rcases hw with ⟨k, hk, hkp⟩ | ⟨n, n2, n4, hn, hpn, hA8⟩
  · have HK : Hid (b.p.f p = (k : Int) + 1) := hkp
    rw [hkp] at cp
    clear hkp
    have r9 := HS.out.d.rcell k hk
    go_enter Tryz.func94, Tryz.ntmps94
    go_wp2_with (fail)
    refine (fr_any HS.out.d k A hk).mono ?_
    rintro e w1 ⟨rfl, t1, hd⟩
    have HD1 : Hid (Du B D s t w t1 (b.own A 0) (updL U k ((A : Int) :: U k)) w1) := HS.out.trans hd
    have HR : Hid (World.rangeAt w1 D 0 (b.own A 0).cells) := HD1.out.d.range
    clear hd r9 c1 c6 cp ca fa
    go_wp2_with (refine wpList_load_mid rfl 29 _ rfl D 0 rfl (b.own A 0).cells _ HR.out Tryz.underlying29 rfl (by kernel_rfl) ?_)
    refine (owners_any (b.own A 0) p w1 HD1.out.d.h.at OU.out.1 OU.out.2.1 OU.out.2.2).mono ?_
    rintro e w2 ⟨rfl, hb2⟩
    have HD2 : Hid (Du B D s t w t1 (b.own A 0) (updL U k ((A : Int) :: U k)) w2) := HD1.out.later hb2
    have HFr : Hid (FreeP (b.own A 0).o.f p 0 ↔ ownC (b.own A 0).o.f (p * 8) 8 = 0) := free_own NN.out OU.out.1
    generalize ownC (b.own A 0).o.f (p * 8) 8 = m at HFr ⊢
    clear hb2 HR
    by_cases hm : m = 0
    · have HF : Hid (FreeP (b.o.put A 0).f p 0) := HFr.out.2 hm
      subst hm
      go_wp2_with (fail)
      refine (lp_any HD2.out.d k p hk (fun u hu => by
        rw [updL_same] at hu
        rcases List.mem_cons.1 hu with e | e
        · omega
        · exact hU k hk u e)).mono ?_
      rintro e w3 ⟨rfl, t2, hd⟩
      rw [updL_same, updL_two] at hd
      have HD3 : Hid (Du B D s t w t2 (b.own A 0) (updL U k (keepU p ((A : Int) :: U k))) w3) := HD2.out.trans hd
      have c1 : w3.cell? ⟨D, 1, none⟩ = some (.slice (some ⟨kp, op, none⟩) b.p.n b.p.c) := by rw [← EP.out]; exact hd.d.cell 1 _ rfl
      obtain ⟨cp, fp⟩ := hd.d.at (x := (b.own A 0).p) (by simp [Bx.lists]) EP.out (j := p) hp
      have HN := (show Du B D s t w t2 (Bx.setp (b.own A 0) b.p.f) _ w3 from HD3.out).page EP.out p hp 0
      have HNN : Hid (Du B D s t w t2 ((b.pag p 0).own A 0) (updL U k (keepU p ((A : Int) :: U k))) (w3.setCell ⟨kp, op + p, none⟩ (.int .i64 0))) := HN
      clear hd HN
      go_wp2_with (fail)
      refine bodyPost_end (v := .tuple #[]) (by simp [results, Tryz.results94]) rfl ?_
      refine DrA.mk HNN.out ⟨rfl, .inr ⟨k, hk, ?_⟩⟩
      rw [← HEP.out]
      exact ⟨HK.out, .inr ⟨HF.out, rfl, rfl⟩⟩
    · have HF : Hid (¬ FreeP (b.o.put A 0).f p 0) := fun q => hm (HFr.out.1 q)
      have hb : ((m : Int) == 0) = false := by simpa using hm
      go_wp2_with (fail)
      refine bodyPost_end (v := .tuple #[]) (by simp [results, Tryz.results94]) rfl ?_
      refine DrA.mk HD2.out ⟨rfl, .inr ⟨k, hk, ?_⟩⟩
      rw [← HEP.out]
      exact ⟨HK.out, .inl ⟨HF.out, rfl, rfl⟩⟩
  · have HA8 : Hid (A = p * 8) := hA8
    have HN : Hid (b.p.f p = 8 + (n : Int)) := hn
    rw [hn] at cp
    clear hn hA8
    go_enter Tryz.func94, Tryz.ntmps94
    go_wp2_with (fail)
    obtain ⟨W, eW⟩ : ∃ W, W = w.setCell ⟨ko, oo + A, none⟩ (.int .i64 0) := ⟨_, rfl⟩
    rw [← eW] at HS ⊢
    clear eW c1 c6 cp ca fa
    go_loopw [29] (fun i wr => ∃ j : Nat, j ≤ n ∧ i = .int .i64 j ∧ ∃ t', Du B D s t w t' (Bx.setp (b.own A 0) (emptF b.p.f p j)) U wr) (fun i _ => n - (intOf i).toNat)
    case atStart => exact ⟨0, by omega, rfl, t, by rw [empt_zero]; exact HS.out⟩
    case round =>
      obtain ⟨j, hj, rfl, t1, hd⟩ := hrel
      have HD : Hid (Du B D s t w t1 (Bx.setp (b.own A 0) (emptF b.p.f p j)) U wr) := hd
      have c1 : wr.cell? ⟨D, 1, none⟩ = some (.slice (some ⟨kp, op, none⟩) b.p.n b.p.c) := by rw [← EP.out]; exact hd.d.cell 1 _ rfl
      clear hd
      by_cases hlt : (j : Int) < n
      · obtain ⟨x1, f1⟩ := HD.out.d.at (x := (Bx.setp (b.own A 0) (emptF b.p.f p j)).p) (by simp [Bx.lists]) EP.out (j := p + j) (show p + j < b.p.n by omega)
        have HNN : Hid (Du B D s t w t1 (Bx.setp (b.own A 0) (emptF b.p.f p (j + 1))) U (wr.setCell ⟨kp, op + (p + j), none⟩ (.int .i64 0))) := by
          unfold Hid
          rw [← emptF_step]
          exact HD.out.page EP.out (p + j) (show p + j < b.p.n by omega) 0
        have i1 : ((p : Int) + j).toNat = p + j := by omega
        have i2 : (p : Int) + j < b.p.n := by omega
        go_wp2_with (fail)
        go_roundw
        case rel => exact ⟨j + 1, by omega, by go_num, t1, HNN.out⟩
        case measure => simp [intOf]; omega
      · obtain rfl : j = n := by omega
        go_wp2_with (fail)
        refine bodyPost_end (v := .tuple #[]) (by simp [results, Tryz.results94]) rfl ?_
        refine DrA.mk HD.out ⟨rfl, .inl ⟨j, by omega, ?_, ?_, rfl⟩⟩
        · rw [← HEP.out]; exact HN.out
        · rw [← HEP.out, HA8.out]; rfl

end Go.Proofs.YtbeamigbcfkjjaaGreatDoor.Dra

/- In the course of a call of a draft: the package's errors, the call itself. -/
namespace Go.Proofs.YtbeamigbcfkjjaaGreatDoor.Dra
open Go.ChangeShapes Go.WideShapes Go.ChangeAt Go.RowKit
open Go.Proofs.YtbeamigbcfkjjaaGreatDoor.Aid Go.Proofs.YtbeamigbcfkjjaaGreatDoor.Lst Go.Proofs.YtbeamigbcfkjjaaGreatDoor.Book Go.Proofs.YtbeamigbcfkjjaaGreatDoor.Rin
set_option maxRecDepth 100000
set_option linter.unusedVariables false

/- The package's errors: which variable, and the code that it stands for. -/
def erl : List (Nat × Nat) := [(2, 1), (3, 2), (4, 3), (5, 4), (6, 5), (7, 6), (8, 7), (9, 8), (1, 9), (10, 10), (11, 12), (0, 13)]
def ev (a : Nat → Addr) (x : Nat) : Value := .iface 118 (.pointer (some (a x)))
def errV (a : Nat → Addr) (x : Nat) : Value := if x = 0 then .nilIface else ev a x
structure Er (a : Nat → Addr) (w : World) : Prop where
  h : ∀ g x, (g, x) ∈ erl → w.cell? ⟨g, 0, none⟩ = some (ev a x)
theorem erl_lt : ∀ g x, (g, x) ∈ erl → g < 12 := by
  intro g x h
  simp [erl] at h
  omega
theorem Er.later {a : Nat → Addr} {w w1 : World} (h : Er a w) (hb : Below w.heap.size w w1) : Er a w1 := ⟨fun g x m => (hb.cell (p := ⟨g, 0, none⟩) (World.block_lt_of_cell? w _ (h.h g x m))).trans (h.h g x m)⟩

/- A call of a draft that was made at w0: its own copy of the call lies at r. -/
structure Oq (a : Nat → Addr) (B D : Nat) (s t0 : Nat → Nat) (w0 : World) (t : Nat → Nat) (b : Bx) (U : Nat → List Int) (r : Nat) (o : Ox) (w : World) : Prop where
  d : Du B D s t0 w0 t b U w
  p : w.rangeAt r 0 o.cells
  lo : w0.heap.size ≤ r
  lt : r < w.heap.size
  tr : t r = 0
  e : Er a w
  hB : 12 ≤ B
theorem Oq.start {a : Nat → Addr} {B D : Nat} {s t : Nat → Nat} {b : Bx} {U : Nat → List Int} {w : World} (h : Dr B D s t b U w) (he : Er a w) (hB : 12 ≤ B) (o : Ox) (ty : TypeId) :
    Oq a B D s t w t b U w.heap.size o (w.alloc (.cells o.cells.toArray ty)) := by
  have hb := below1 w (.cells o.cells.toArray ty)
  refine ⟨(Du.start h).later hb, by have := (ck_lit o.cells.toArray (heap1_0 w (.cells o.cells.toArray ty))).range; simpa using this, Nat.le_refl _, by simp, ?_, he.later hb, hB⟩
  by_cases q : t w.heap.size = 0
  · exact q
  · exact absurd (h.z _ q).2 (Nat.lt_irrefl _)
theorem Oq.later {a : Nat → Addr} {B D : Nat} {s t0 t : Nat → Nat} {b : Bx} {U : Nat → List Int} {r : Nat} {o : Ox} {w0 w w1 : World} (h : Oq a B D s t0 w0 t b U r o w) (hb : Below w.heap.size w w1) : Oq a B D s t0 w0 t b U r o w1 :=
  ⟨h.d.later hb, range_below hb h.p h.lt, h.lo, Nat.lt_of_lt_of_le h.lt hb.size, h.tr, h.e.later hb, h.hB⟩
theorem Oq.drewN {a : Nat → Addr} {B D : Nat} {s t0 t : Nat → Nat} {b : Bx} {U : Nat → List Int} {r : Nat} {o : Ox} {w0 w : World} (h : Oq a B D s t0 w0 t b U r o w) (n : Nat) : Oq a B D s t0 w0 t b U r o (w.drewN n) :=
  ⟨h.d.drewN n, h.p, h.lo, h.lt, h.tr, ⟨h.e.h⟩, h.hB⟩
theorem Oq.low {a : Nat → Addr} {B D : Nat} {s t0 t : Nat → Nat} {b : Bx} {U : Nat → List Int} {r : Nat} {o : Ox} {w0 w : World} (h : Oq a B D s t0 w0 t b U r o w) (i : Nat) (hi : i < 12) : t i = 0 := by
  by_cases q : t i = 0
  · exact q
  · have := (h.d.d.z i q).1; have := h.hB; omega
/- What it calls has turned the draft. -/
theorem Oq.call {a : Nat → Addr} {B D : Nat} {s t0 t t' : Nat → Nat} {b b' : Bx} {U U' : Nat → List Int} {r : Nat} {o : Ox} {w0 w w1 : World} (h : Oq a B D s t0 w0 t b U r o w) (g : Du B D s t w t' b' U' w1) : Oq a B D s t0 w0 t' b' U' r o w1 := by
  have hbk := g.f.block r h.lt (by rw [h.tr]; simp)
  refine ⟨h.d.trans g, fun j v hv => ?_, h.lo, Nat.lt_of_lt_of_le h.lt g.f.size, by rw [g.a r h.lt]; exact h.tr, ⟨fun q x m => ?_⟩, h.hB⟩
  · rw [World.cell?_of_block (w := w) hbk]; exact h.p j v hv
  · have c := h.e.h q x m
    have hl := World.block_lt_of_cell? w _ c
    rw [World.cell?_of_block (w := w) (g.f.block q hl (by rw [h.low q (erl_lt q x m)]; simp))]
    exact c
theorem Oq.op {a : Nat → Addr} {B D : Nat} {s t0 t : Nat → Nat} {b : Bx} {U : Nat → List Int} {r : Nat} {o : Ox} {w0 w : World} (h : Oq a B D s t0 w0 t b U r o w) (j : Nat) (v : Value) (hv : o.cells[j]? = some v) : w.cell? ⟨r, j, none⟩ = some v := by
  have := h.p j v hv
  simpa using this

/- What comes of a call. -/
def OpA (a : Nat → Addr) (B D : Nat) (s t : Nat → Nat) (w : World) (P : Bx → (Nat → List Int) → Nat → Int → Prop) (e : Ending) (w' : World) : Prop := ∃ c V x y, e = .returned (.tuple #[.int .i64 y, errV a x]) ∧ P c V x y ∧ ∃ t', Du B D s t w t' c V w'
theorem OpA.mk {a : Nat → Addr} {B D : Nat} {s t t' : Nat → Nat} {w w' : World} {P : Bx → (Nat → List Int) → Nat → Int → Prop} {c : Bx} {V : Nat → List Int} {v : Value} (x : Nat) (y : Int) (hd : Du B D s t w t' c V w') (h : P c V x y) (ex : v = .tuple #[.int .i64 y, errV a x]) : OpA a B D s t w P (.returned v) w' := ⟨c, V, x, y, by rw [ex], h, t', hd⟩

end Go.Proofs.YtbeamigbcfkjjaaGreatDoor.Dra

/- The program's mine. -/
namespace Go.Proofs.YtbeamigbcfkjjaaGreatDoor.Dra
open Go.ChangeShapes Go.WideShapes Go.ChangeAt Go.RowKit
open Go.Proofs.YtbeamigbcfkjjaaGreatDoor.Aid Go.Proofs.YtbeamigbcfkjjaaGreatDoor.Lst Go.Proofs.YtbeamigbcfkjjaaGreatDoor.Book Go.Proofs.YtbeamigbcfkjjaaGreatDoor.Rin
set_option maxRecDepth 100000
set_option linter.unusedVariables false
set_option maxHeartbeats 16000000 in
theorem mine_any {a : Nat → Addr} {B D : Nat} {s t : Nat → Nat} {b : Bx} {U : Nat → List Int} {w : World} (h : Dr B D s t b U w) (he : Er a w) (hB : 12 ≤ B) (hok : OkP b) (o : Ox) (t1 : 0 ≤ o.s) (t2 : o.s ≤ 1000) :
    Calls Tryz.prog 93 #[.pointer (some ⟨D, 0, none⟩), .agg o.cells.toArray] w fun e w' => (∃ r : Nat, e = .returned (errV a r) ∧ WhoP b o.s o.a r) ∧ ∃ t', Du B D s t w t' b U w' := by
  have S := Oq.start (a := a) h he hB o 45
  have HOK : Hid (OkP b) := hok
  have l6 := hok.1.1.2.2.2.2.1
  have l7 := hok.1.1.2.2.2.2.2.2
  obtain ⟨ko, oo, eo, to⟩ := h.addr (x := b.o) (by simp [Bx.lists]) (by omega)
  have EO : Hid (b.o.a = some ⟨ko, oo, none⟩) := eo
  clear h he hB eo hok l6 l7
  simp only [Ox.cells] at S ⊢
  go_enter Tryz.func93, Tryz.ntmps93
  go_wp2_with (fail)
  generalize w.alloc (.cells _ 45) = W at S ⊢
  have HS0 : Hid (Oq a B D s t w t b U w.heap.size o W) := S
  clear S
  refine wp_region_held_drew (S := Oq a B D s t w t b U w.heap.size o) (by kernel_rfl) (HS0.out.drewN 1) (fun hS => ?_)
  refine takeB (i := 0) (v := .pointer (some ⟨D, 0, none⟩)) (d := some 5) rfl rfl (by kernel_rfl) (by kernel_rfl) (by kernel_rfl) (fun _ _ _ h => h) (Or.inl ⟨by rfl, fun w' hw => ?_⟩) hS ?_
  · clear hw; go_simp
  try simp only [Act.put, List.setIfInBounds_toArray, List.set_cons_zero, List.set_cons_succ]
  refine takeB (i := 1) (v := .pointer (some ⟨D, 0, none⟩)) (d := some 6) rfl rfl (by kernel_rfl) (by kernel_rfl) (by kernel_rfl) (fun _ _ _ h => h) (Or.inl ⟨by rfl, fun w' hw => ?_⟩) hS ?_
  · clear hw; go_simp
  try simp only [Act.put, List.setIfInBounds_toArray, List.set_cons_zero, List.set_cons_succ]
  refine takeB (i := 2) (v := .pointer (some ⟨D, 0, none⟩)) (d := some 7) rfl rfl (by kernel_rfl) (by kernel_rfl) (by kernel_rfl) (fun _ _ _ h => h) (Or.inl ⟨by rfl, fun w' hw => ?_⟩) hS ?_
  · clear hw; go_simp
  try simp only [Act.put, List.setIfInBounds_toArray, List.set_cons_zero, List.set_cons_succ]
  refine takeB (i := 3) (v := .agg b.cells.toArray) (d := some 8) rfl rfl (by kernel_rfl) (by kernel_rfl) (by kernel_rfl) (fun _ _ _ h => h) (yieldsIf_load_mid (by rfl) 29 _ rfl D 0 rfl b.cells _ (fun w' hw => hw.d.d.range) Tryz.underlying29 rfl (by kernel_rfl)) hS ?_
  try simp only [Act.put, List.setIfInBounds_toArray, List.set_cons_zero, List.set_cons_succ]
  refine takeB (i := 4) (v := .pointer (some ⟨w.heap.size, 2, none⟩)) (d := some 9) rfl rfl (by kernel_rfl) (by kernel_rfl) (by kernel_rfl) (fun _ _ _ h => h) (Or.inl ⟨by rfl, fun w' hw => ?_⟩) hS ?_
  · clear hw; go_simp
  try simp only [Act.put, List.setIfInBounds_toArray, List.set_cons_zero, List.set_cons_succ]
  refine takeB (i := 5) (v := .int .i64 o.a) (d := some 10) rfl rfl (by kernel_rfl) (by kernel_rfl) (by kernel_rfl) (fun _ _ _ h => h) (Or.inl ⟨by rfl, fun w' hw => ?_⟩) hS ?_
  · have q := hw.op 2 _ rfl; clear hw; go_simp
  try simp only [Act.put, List.setIfInBounds_toArray, List.set_cons_zero, List.set_cons_succ]
  refine wpAnyH_ready (rs := [6]) (by kernel_rfl) (by simp) ?_
  refine AllReadyH.cons rfl (fun K hK => ?_) AllReadyH.nil
  have HS1 : Hid (Oq a B D s t w t b U w.heap.size o W.drew) := hS
  clear hS
  go_simp
  refine (units_any b o.a _ HS1.out.d.d.h.at HOK.out).mono ?_
  rintro e w2 ⟨⟨r, rfl, hr⟩, hb⟩
  have HR : Hid (RoomR b o.a r) := hr
  have HS2 : Hid (Oq a B D s t w t b U w.heap.size o w2) := HS1.out.later hb
  clear HS1 hb hr
  go_wp2_with (fail)
  refine hK.out _ _ HS2.out (fun hS => ?_)
  clear hK K
  try simp only [Act.put, List.setIfInBounds_toArray, List.set_cons_zero, List.set_cons_succ]
  refine takeB (i := 7) (v := .bool (r == 0)) (d := some 12) rfl rfl (by kernel_rfl) (by kernel_rfl) (by kernel_rfl) (fun _ _ _ h => h) (Or.inl ⟨by rfl, fun w' hw => ?_⟩) hS ?_
  · clear hw; go_simp
  try simp only [Act.put, List.setIfInBounds_toArray, List.set_cons_zero, List.set_cons_succ]
  refine wpAnyH_done (by kernel_rfl) ?_ _
  clear hS
  by_cases r0 : r = 0
  · subst r0
    have HZ : Hid (o.a < 0 ∨ (b.o.n : Int) ≤ o.a ∨ b.o.f o.a.toNat = 0) := room_zero HR.out
    have c3 : w2.cell? ⟨4, 0, none⟩ = some (ev a 3) := HS2.out.e.h _ _ (by simp [erl])
    go_wp2_with (fail)
    refine bodyPost_ret (v := ev a 3) (by simp [results]) rfl ?_
    exact ⟨⟨3, rfl, .inl ⟨HZ.out, rfl⟩⟩, t, HS2.out.d⟩
  · obtain ⟨v0, v1, v2⟩ := room_some HR.out r0
    obtain ⟨A, eA⟩ : ∃ A : Nat, o.a = A := ⟨o.a.toNat, by omega⟩
    have hA : A < b.o.n := by omega
    have nb : (r == 0) = false := by simpa using r0
    rw [eA, Int.toNat_natCast] at v2
    have c6 : w2.cell? ⟨D, 6, none⟩ = some (.slice (some ⟨ko, oo, none⟩) b.o.n b.o.c) := by rw [← EO.out]; exact HS2.out.d.d.cell 6 _ rfl
    have ca := (HS2.out.d.d.at (x := b.o) (by simp [Bx.lists]) EO.out hA).1
    have k2 : w2.cell? ⟨w.heap.size, 2, none⟩ = some (.int .i64 A) := by rw [← eA]; exact HS2.out.op 2 _ rfl
    have k1 : w2.cell? ⟨w.heap.size, 1, none⟩ = some (.int .i64 o.s) := HS2.out.op 1 _ rfl
    have HV : Hid (¬ b.o.f A = 0) := v2
    have HA : Hid (o.a = A) := eA
    have iA : (A : Int) < b.o.n := by omega
    have c4 : w2.cell? ⟨5, 0, none⟩ = some (ev a 4) := HS2.out.e.h _ _ (by simp [erl])
    clear v2 eA v0 v1
    go_wp2_with (fail)
    go_quiet (fail)
    by_cases e : b.o.f A = o.s + 1
    · go_wp2_with (fail)
      refine bodyPost_ret (v := .nilIface) (by simp [results]) rfl ?_
      refine ⟨⟨0, rfl, ?_⟩, t, HS2.out.d.drewN _⟩
      rw [HA.out]
      exact .inr ⟨⟨by omega, by omega, by rw [Int.toNat_natCast]; exact HV.out⟩, .inr ⟨by rw [Int.toNat_natCast]; exact e, rfl⟩⟩
    · go_wp2_with (fail)
      refine bodyPost_ret (v := ev a 4) (by simp [results]) rfl ?_
      refine ⟨⟨4, rfl, ?_⟩, t, HS2.out.d.drewN _⟩
      rw [HA.out]
      exact .inr ⟨⟨by omega, by omega, by rw [Int.toNat_natCast]; exact HV.out⟩, .inl ⟨by rw [Int.toNat_natCast]; exact e, rfl⟩⟩
  
  end Go.Proofs.YtbeamigbcfkjjaaGreatDoor.Dra

/- BookOf, of both. -/
namespace Go.Proofs.YtbeamigbcfkjjaaGreatDoor.Book
open Go.ChangeShapes Go.WideShapes Go.ChangeAt Go.RowKit
open Go.Proofs.YtbeamigbcfkjjaaGreatDoor.Aid Go.Proofs.YtbeamigbcfkjjaaGreatDoor.Lst
set_option maxRecDepth 100000
set_option linter.unusedVariables false

/- The rooms of a slot of a book. -/
def OfL (b : Bx) (t : Int) (L : List Int) : Prop := (OkP b ∧ ((0 ≤ t ∧ t < b.s) ∧ L = selL b.o.f (t + 1) b.o.n ∨ ¬ (0 ≤ t ∧ t < b.s) ∧ L = [])) ∨ (¬ OkP b ∧ L = [])
theorem ofl_one {b : Bx} {t : Int} {L M : List Int} (h : OfL b t L) (g : OfL b t M) : L = M := by
  rcases h with ⟨h, ⟨h1, rfl⟩ | ⟨h1, rfl⟩⟩ | ⟨h, rfl⟩ <;> rcases g with ⟨g, ⟨g1, rfl⟩ | ⟨g1, rfl⟩⟩ | ⟨g, rfl⟩
  · rfl
  · exact absurd h1 g1
  · exact absurd h g
  · exact absurd g1 h1
  · rfl
  · exact absurd h g
  · exact absurd g h
  · exact absurd g h
  · rfl
theorem ofl_m {b c : Bx} (h : b.m = c.m) (t : Int) (L : List Int) : OfL b t L ↔ OfL c t L := by
  have e := norm_m h
  have es : b.s = c.s := congrArg (·.s) e
  have ef : b.o.f = c.o.f := congrArg (·.o.f) e
  have en : b.o.n = c.o.n := congrArg (·.o.n) e
  unfold OfL
  rw [ok_m h, es, ef, en]

def OfQ (b : Bx) (t : Int) (base : Nat) (w' : World) (e : Ending) : Prop := ∃ v L, e = .returned v ∧ w'.ownsRow base 3 1 v L.length (vals L) ∧ OfL b t L

set_option maxRecDepth 100000 in
set_option maxHeartbeats 8000000 in
theorem rooms_out (b : Bx) (t : Int) (w : World) (h : b.At w) (ht : ¬ (0 ≤ t ∧ t < b.s)) :
    Calls Tryz.prog 95 #[.agg b.cells.toArray, .int .i64 t] w fun e w' => e = .returned (.slice none 0 0) ∧ Below w.heap.size w w' := by
  have E : Ent w b (w.alloc (.cells #[.int .i64 b.s, .slice b.p.a b.p.n b.p.c, .slice b.h0.a b.h0.n b.h0.c, .slice b.h1.a b.h1.n b.h1.c, .slice b.h2.a b.h2.n b.h2.c, .slice b.h3.a b.h3.n b.h3.c, .slice b.o.a b.o.n b.o.c, .slice b.i.a b.i.n b.i.c, .slice b.e.a b.e.n b.e.c] 29)) := Ent.start h 29
  simp only [Bx.cells]
  go_enter Tryz.func95, Tryz.ntmps95
  go_wp2_with (fail)
  generalize w.alloc (.cells #[.int .i64 b.s, .slice b.p.a b.p.n b.p.c, .slice b.h0.a b.h0.n b.h0.c, .slice b.h1.a b.h1.n b.h1.c, .slice b.h2.a b.h2.n b.h2.c, .slice b.h3.a b.h3.n b.h3.c, .slice b.o.a b.o.n b.o.c, .slice b.i.a b.i.n b.i.c, .slice b.e.a b.e.n b.e.c] 29) = W at E ⊢
  refine (isslot_any b t W).mono ?_
  rintro e w1 ⟨⟨r, rfl, hr⟩, hb⟩
  replace E := E.later hb
  clear hb
  cases r
  · go_wp2_with (fail)
    go_ret
    exact ⟨rfl, E.b⟩
  · exact absurd hr.t ht

end Go.Proofs.YtbeamigbcfkjjaaGreatDoor.Book

/- BookOf of the specification. -/
namespace Go.Proofs.YtbeamigbcfkjjaaGreatDoor.Book
open Go.ChangeShapes Go.WideShapes Go.ChangeAt Go.RowKit
open Go.Proofs.YtbeamigbcfkjjaaGreatDoor.Aid Go.Proofs.YtbeamigbcfkjjaaGreatDoor.Lst
set_option maxRecDepth 100000
set_option linter.unusedVariables false

def selQ (b : Bx) (t : Int) (u : Nat) : List Int := if 0 ≤ t ∧ t < b.s then selL b.o.f (t + 1) u else []
theorem selQ_len (b : Bx) (t : Int) (u : Nat) : (selQ b t u).length ≤ u := by
  unfold selQ
  split
  · exact selL_len _ _ _
  · exact Nat.zero_le _
theorem selQ_no (b : Bx) (t : Int) (u : Nat) (h : ¬ ((0 ≤ t ∧ t < b.s) ∧ b.o.f u = t + 1)) : selQ b t (u + 1) = selQ b t u := by
  unfold selQ
  split
  · rename_i g
    simp only [selL]
    rw [if_neg (fun e => h ⟨g, e⟩)]
  · rfl
theorem selQ_yes (b : Bx) (t : Int) (u : Nat) (g : 0 ≤ t ∧ t < b.s) (e : b.o.f u = t + 1) : selQ b t (u + 1) = selQ b t u ++ [(u : Int)] := by
  unfold selQ
  rw [if_pos g, if_pos g]
  simp only [selL]
  rw [if_pos e]
theorem own_later {w w1 : World} {base n : Nat} {e : TypeId} {v : Value} {xs : List Value} (h : w.ownsRow base e 1 v n xs) (hb : Below w.heap.size w w1) : w1.ownsRow base e 1 v n xs := by
  obtain ⟨q, g | ⟨g, cap, cur, e, hb', hg, r⟩⟩ := h
  · exact ⟨q, .inl g⟩
  · have hlt : g < w.heap.size := Nat.lt_of_not_le fun hle => by rw [Array.getElem?_eq_none hle] at hg; cases hg
    exact ⟨q, .inr ⟨g, cap, cur, e, hb', by rw [hb.block g hlt]; exact hg, r⟩⟩

end Go.Proofs.YtbeamigbcfkjjaaGreatDoor.Book

/- Of every book and slot, its rooms, held against the specification; in new memory of their own. Conditions: none. -/
namespace Go.Proofs.YtbeamigbcfkjjaaGreatDoor.Book
open Go.ChangeShapes Go.WideShapes Go.ChangeAt Go.RowKit
open Go.Proofs.YtbeamigbcfkjjaaGreatDoor.Aid Go.Proofs.YtbeamigbcfkjjaaGreatDoor.Lst
set_option maxRecDepth 100000

theorem own_sx {w : World} {base : Nat} {v : Value} {L : List Int} (h : w.ownsRow base 3 1 v L.length (vals L)) : ∃ x : Sx, v = .slice x.a x.n x.c ∧ x.m = (L.length, fun j => L.getD j 0) ∧ x.Own base w.heap.size w := by
  obtain ⟨q, ⟨rfl, h0⟩ | ⟨g, cap, cur, rfl, hb, hg, h1, h2, h3, h4⟩⟩ := h
  · refine ⟨⟨none, 0, 0, fun j => L.getD j 0⟩, rfl, ?_, .inl rfl⟩
    show (0, fun j => L.getD j 0) = _
    rw [h0]
  · refine ⟨⟨some ⟨g, 0, none⟩, L.length, cap, fun j => L.getD j 0⟩, rfl, rfl, .inr ⟨g, rfl, hb, Nat.lt_of_not_le fun hle => (by rw [Array.getElem?_eq_none hle] at hg; cases hg), fun j hj => ?_⟩⟩
    rw [cell_of_row _ _ j _ _ _ hg, frozen_of_row _ _ j _ _ hg]
    refine ⟨?_, rfl⟩
    have hj : j < L.length := hj
    have e : (cur.toList.take (L.length * 1))[j]? = (vals L)[j]? := by rw [h4]
    rw [List.getElem?_take_of_lt (by omega)] at e
    rw [← Array.getElem?_toList, e]
    simp [vals, hj]
theorem ofl_len {b : Bx} {t : Int} {L : List Int} (h : OfL b t L) : L.length ≤ 48 := by
  rcases h with ⟨h, ⟨h1, rfl⟩ | ⟨h1, rfl⟩⟩ | ⟨h, rfl⟩
  · have := selL_len b.o.f (t + 1) b.o.n
    have := h.nums.2.2.2.2
    omega
  · simp
  · simp
structure StB (w0 : World) (rs : List (Nat × List Value)) (bs : List Bx) (v w : World) : Prop where
  st : St w0 rs bs w
  be : Below v.heap.size v w
theorem StB.later {w0 v w w1 : World} {rs : List (Nat × List Value)} {bs : List Bx} (h : StB w0 rs bs v w) (hb : Below w.heap.size w w1) : StB w0 rs bs v w1 := ⟨h.st.later hb, h.be.trans (hb.mono h.be.size)⟩
theorem StB.drew {w0 v w : World} {rs : List (Nat × List Value)} {bs : List Bx} (h : StB w0 rs bs v w) : StB w0 rs bs v w.drew := ⟨h.st.drew, ⟨h.be.os, h.be.tape, h.be.output, h.be.size, h.be.block⟩⟩
theorem StB.r {w0 v w : World} {rs : List (Nat × List Value)} {bs : List Bx} (h : StB w0 rs bs v w) : ∀ p ∈ rs, w.rangeAt p.1 0 p.2 ∧ p.1 < w.heap.size := h.st.r
theorem StB.a {w0 v w : World} {rs : List (Nat × List Value)} {bs : List Bx} (h : StB w0 rs bs v w) : ∀ b ∈ bs, b.At w := h.st.a
theorem Sx.Own.later {x : Sx} {B C : Nat} {w w' : World} (hx : x.Own B C w) (h : Below w.heap.size w w') : x.Own B C w' := hx.only (Only.of (B := C) (C := C) h) (.inl (Nat.le_refl _))
theorem St.only {w0 w w1 : World} {rs : List (Nat × List Value)} {bs : List Bx} {B C : Nat} (h : St w0 rs bs w) (ho : Only B C w w1) (hr : ∀ p ∈ rs, p.1 < B ∨ C ≤ p.1) (hB : w0.heap.size ≤ B) (hbs : ∀ b ∈ bs, b.At w1) : St w0 rs bs w1 :=
  ⟨fun p hp => ⟨fun j x hx => by rw [ho.cell (h.r p hp).2 (hr p hp)]; exact (h.r p hp).1 j x hx, Nat.lt_of_lt_of_le (h.r p hp).2 ho.size⟩, hbs, h.b.trans ⟨ho.os, ho.tape, ho.output, ho.size, fun k hk => ho.block k (Nat.lt_of_lt_of_le hk h.b.size) (.inl (by omega))⟩⟩

end Go.Proofs.YtbeamigbcfkjjaaGreatDoor.Book

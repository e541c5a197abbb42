import Derived.Test.YtbipolfbkemmpaaDoorM26
import Derived.MapKept

/- The program's bookTake. -/
namespace Go.Proofs.YtbipolfbkemmpaaDoor.Dra
open Go.ChangeShapes Go.WideShapes Go.ChangeAt Go.RowKit
open Aid Lst Book Rin
set_option maxRecDepth 100000
set_option linter.unusedVariables false
def TaQ (b : Bx) (U : Nat → List Int) (t : Nat) (u : Int) (c : Bx) (V : Nat → List Int) (x : Nat) (y : Int) : Prop :=
  (kindM u < 0 ∧ c = b ∧ V = U ∧ x = 1 ∧ y = 0) ∨
  (kindM u = 4 ∧ V = U ∧ ((∃ p : Nat, p + ((u + 7) / 8).toNat ≤ b.p.n ∧ EmpP b.p.f p ((u + 7) / 8).toNat ∧ (∀ q, q < p → ¬ EmpP b.p.f q ((u + 7) / 8).toNat) ∧ c = b.wide p ((u + 7) / 8).toNat t ∧ x = 0 ∧ y = (p : Int) * 8) ∨ ((∀ q, q + ((u + 7) / 8).toNat ≤ b.p.n → ¬ EmpP b.p.f q ((u + 7) / 8).toNat) ∧ c = b ∧ x = 2 ∧ y = 0))) ∨
  ∃ k : Nat, k < 4 ∧ kindM u = k ∧
    ((∃ (A : Nat) (r : List Int), U k = (A : Int) :: r ∧ c = b.own A ((t : Int) + 1) ∧ V = updL U k r ∧ x = 0 ∧ y = A) ∨
     (U k = [] ∧ (∀ q, q + 1 ≤ b.p.n → ¬ EmpP b.p.f q 1) ∧ c = b ∧ V = U ∧ x = 2 ∧ y = 0) ∨
     (U k = [] ∧ ∃ p : Nat, p + 1 ≤ b.p.n ∧ EmpP b.p.f p 1 ∧ (∀ q, q < p → ¬ EmpP b.p.f q 1) ∧ c = (b.pag p ((k : Int) + 1)).own (p * 8) ((t : Int) + 1) ∧ V = updL U k (carL p k).tail ∧ x = 0 ∧ y = ((p * 8 : Nat) : Int)))
theorem kindM_is (u : Int) : kindM u = -1 ∨ (kindM u = 4 ∧ 9 ≤ u ∧ u ≤ 32) ∨ ∃ k : Nat, k < 4 ∧ kindM u = k := by
  unfold kindM
  repeat' split
  · exact .inl rfl
  · exact .inr (.inr ⟨0, by omega, rfl⟩)
  · exact .inr (.inr ⟨1, by omega, rfl⟩)
  · exact .inr (.inr ⟨2, by omega, rfl⟩)
  · exact .inr (.inr ⟨3, by omega, rfl⟩)
  · exact .inr (.inl ⟨rfl, by omega, by omega⟩)
set_option maxHeartbeats 16000000 in
theorem take_op {a : Nat → Addr} {B D : Nat} {s t : Nat → Nat} {b : Bx} {U : Nat → List Int} {w : World} (h : Dr B D s t b U w) (he : Er a w) (hB : 12 ≤ B) (hok : OkP b) (o : Ox) (q : Nat) (hq : o.s = q) (hqs : (q : Int) < b.s) (hU : ∀ k, k < 4 → ∀ u ∈ U k, 0 ≤ u ∧ u < b.o.n) :
    Calls Tryd.prog 68 #[.pointer (some ⟨D, 0, none⟩), .agg o.cells.toArray] w fun e w' => OpA a B D s t w (TaQ b U q o.a) e w' := by
  have S := Oq.start (a := a) h he hB o 28
  have HOK : Hid (OkP b) := hok
  have l0 := hok.1.1.1
  have l1 := hok.1.1.2.1
  have l2 := hok.1.1.2.2.1
  have l3 := hok.1.1.2.2.2.1
  have l6 := hok.1.1.2.2.2.2.1
  have l7 := hok.1.1.2.2.2.2.2.2
  have l8 := hok.1.1.2.2.2.2.2.1
  obtain ⟨ko, oo, eo, to⟩ := h.addr (x := b.o) (by simp [Bx.lists]) (by omega)
  obtain ⟨ki, oi, ei, ti⟩ := h.addr (x := b.i) (by simp [Bx.lists]) (by omega)
  obtain ⟨ke, oe, ee, te⟩ := h.addr (x := b.e) (by simp [Bx.lists]) (by omega)
  have EO : Hid (b.o.a = some ⟨ko, oo, none⟩) := eo
  have EI : Hid (b.i.a = some ⟨ki, oi, none⟩) := ei
  have EE : Hid (b.e.a = some ⟨ke, oe, none⟩) := ee
  have TT : Hid (t ko = 2 ∧ t ki = 2 ∧ t ke = 2 ∧ t D = 1) := ⟨to, ti, te, h.tD⟩
  have LS : Hid (b.s ≤ 4 ∧ 1 ≤ b.s ∧ (b.i.n : Int) = b.s ∧ (b.e.n : Int) = b.s ∧ b.o.n ≤ 1000 ∧ b.o.n ≤ b.o.c) := ⟨by omega, by omega, by omega, by omega, by omega, (h.h.each b.o (by simp [Bx.lists])).1⟩
  clear h he hB eo ei ee to ti te hok l0 l1 l2 l3 l6 l7 l8
  simp only [Ox.cells] at S ⊢
  have TQ : Hid ((q : Int) < b.s) := hqs
  have HQ : Hid (o.s = q) := hq
  clear hq hqs
  go_enter Tryd.func68, Tryd.ntmps68
  obtain ⟨W, eW⟩ : ∃ W, W = w.alloc (.cells #[.int .i64 o.k, .int .i64 o.s, .int .i64 o.a, .int .i64 o.b] 28) := ⟨_, rfl⟩
  have HS0 : Hid (Oq a B D s t w t b U w.heap.size o W) := by unfold Hid; rw [eW]; exact S
  have PN : Hid (0 < b.p.n ∧ b.p.n ≤ 6 ∧ b.o.n = b.p.n * 8) := ⟨by have := HOK.out.1.1.2.2.2.2.1; omega, by have := HOK.out.1.1.2.2.2.2.2.1; omega, by have := HOK.out.1.1.2.2.2.2.2.2; omega⟩
  clear S
  go_wp2_with (fail)
  rw [← eW]
  clear eW
  refine (kind_any o.a _).mono ?_
  rintro e w1 ⟨rfl, rfl⟩
  rcases kindM_is o.a with hk | ⟨hk, u9, u32⟩ | ⟨k, k4, hk⟩
  · have HK : Hid (kindM o.a = -1) := hk
    rw [hk]
    have cE : w1.cell? ⟨2, 0, none⟩ = some (ev a 1) := HS0.out.e.h _ _ (by simp [erl])
    clear hk
    go_wp2_with (fail)
    go_quiet (fail)
    go_wp2_with (fail)
    refine bodyPost_ret (v := .tuple #[.int .i64 0, ev a 1]) (by simp [results]) rfl ?_
    exact OpA.mk 1 0 (HS0.out.d.drewN _) (.inl ⟨by rw [HK.out]; decide, rfl, rfl, rfl, rfl⟩) rfl
  · have HK : Hid (kindM o.a = 4) := hk
    rw [hk]
    have k1 : w1.cell? ⟨w.heap.size, 1, none⟩ = some (.int .i64 q) := by rw [← HQ.out]; exact HS0.out.op 1 _ rfl
    have k2 : w1.cell? ⟨w.heap.size, 2, none⟩ = some (.int .i64 o.a) := HS0.out.op 2 _ rfl
    have cE : w1.cell? ⟨3, 0, none⟩ = some (ev a 2) := HS0.out.e.h _ _ (by simp [erl])
    obtain ⟨n, hn⟩ : ∃ n : Nat, n = ((o.a + 7) / 8).toNat := ⟨_, rfl⟩
    have hn1 : (o.a + 8 - 1) / 8 = n := by omega
    have HN : Hid (n = ((o.a + 7) / 8).toNat) := hn
    have n1 : 1 ≤ n := by omega
    have n4 : n ≤ 4 := by omega
    have q4 : q ≤ 4 := by have := TQ.out; have := LS.out; omega
    clear hk hn
    go_wp2_with (fail)
    refine (takep_any HS0.out.d.d n q n1 n4 PN.out.1 PN.out.2.1 PN.out.2.2 q4 (ev a 2) cE).mono ?_
    rintro e w5 ⟨c, V, v, rfl, ⟨hV, hv⟩, t2, hd⟩
    have HD : Hid (Du B D s t w t2 c V w5) := HS0.out.d.trans hd
    clear hd
    rcases hv with ⟨p, h1, h2, h3, h4, rfl⟩ | ⟨h1, h2, rfl⟩
    · have HP : Hid (p + n ≤ b.p.n ∧ EmpP b.p.f p n ∧ (∀ q, q < p → ¬ EmpP b.p.f q n) ∧ c = b.wide p n q ∧ V = U) := ⟨h1, h2, h3, h4, hV⟩
      clear h1 h2 h3 h4 hV
      go_wp2_with (fail)
      refine bodyPost_ret (v := .tuple #[.int .i64 ((p : Int) * 8), .nilIface]) (by simp [results]) rfl ?_
      refine OpA.mk 0 ((p : Int) * 8) HD.out (.inr (.inl ⟨HK.out, HP.out.2.2.2.2, .inl ⟨p, ?_⟩⟩)) rfl
      rw [← HN.out]
      exact ⟨HP.out.1, HP.out.2.1, HP.out.2.2.1, HP.out.2.2.2.1, rfl, rfl⟩
    · have HP : Hid ((∀ q, q + n ≤ b.p.n → ¬ EmpP b.p.f q n) ∧ c = b ∧ V = U) := ⟨h1, h2, hV⟩
      clear h1 h2 hV
      unfold ev
      go_wp2_with (fail)
      refine bodyPost_ret (v := .tuple #[.int .i64 0, ev a 2]) (by simp [results, ev]) rfl ?_
      refine OpA.mk 2 0 HD.out (.inr (.inl ⟨HK.out, HP.out.2.2, .inr ?_⟩)) rfl
      rw [← HN.out]
      exact ⟨HP.out.1, HP.out.2.1, rfl, rfl⟩
  · have HK : Hid (kindM o.a = k) := hk
    rw [hk]
    have k1 : w1.cell? ⟨w.heap.size, 1, none⟩ = some (.int .i64 q) := by rw [← HQ.out]; exact HS0.out.op 1 _ rfl
    have cE : w1.cell? ⟨3, 0, none⟩ = some (ev a 2) := HS0.out.e.h _ _ (by simp [erl])
    have q4 : q ≤ 4 := by have := TQ.out; have := LS.out; omega
    have hUk := hU k k4
    clear hk hU
    go_wp2_with (fail)
    refine (takeroom_any HS0.out.d.d k q k4 PN.out.1 PN.out.2.1 PN.out.2.2 q4 hUk (ev a 2) cE).mono ?_
    rintro e w5 ⟨c, V, v, rfl, hv, t2, hd⟩
    have HD : Hid (Du B D s t w t2 c V w5) := HS0.out.d.trans hd
    clear hd hUk
    rcases hv with ⟨A, r, h1, h2, h3, rfl⟩ | ⟨h1, h2, h3, h4, rfl⟩ | ⟨h1, p, h2, h3, h4, h5, h6, rfl⟩
    · have HP : Hid (U k = (A : Int) :: r ∧ c = b.own A ((q : Int) + 1) ∧ V = updL U k r) := ⟨h1, h2, h3⟩
      clear h1 h2 h3
      go_wp2_with (fail)
      refine bodyPost_ret (v := .tuple #[.int .i64 A, .nilIface]) (by simp [results]) rfl ?_
      exact OpA.mk 0 A HD.out (.inr (.inr ⟨k, k4, HK.out, .inl ⟨A, r, HP.out.1, HP.out.2.1, HP.out.2.2, rfl, rfl⟩⟩)) rfl
    · have HP : Hid (U k = [] ∧ (∀ q, q + 1 ≤ b.p.n → ¬ EmpP b.p.f q 1) ∧ c = b ∧ V = U) := ⟨h1, h2, h3, h4⟩
      clear h1 h2 h3 h4
      unfold ev
      go_wp2_with (fail)
      refine bodyPost_ret (v := .tuple #[.int .i64 0, ev a 2]) (by simp [results, ev]) rfl ?_
      exact OpA.mk 2 0 HD.out (.inr (.inr ⟨k, k4, HK.out, .inr (.inl ⟨HP.out.1, HP.out.2.1, HP.out.2.2.1, HP.out.2.2.2, rfl, rfl⟩)⟩)) rfl
    · have HP : Hid (U k = [] ∧ p + 1 ≤ b.p.n ∧ EmpP b.p.f p 1 ∧ (∀ q, q < p → ¬ EmpP b.p.f q 1) ∧ c = (b.pag p ((k : Int) + 1)).own (p * 8) ((q : Int) + 1) ∧ V = updL U k (carL p k).tail) := ⟨h1, h2, h3, h4, h5, h6⟩
      clear h1 h2 h3 h4 h5 h6
      obtain ⟨P8, e8⟩ : ∃ P8 : Nat, P8 = p * 8 := ⟨_, rfl⟩
      rw [← e8]
      have H8 : Hid (P8 = p * 8) := e8
      clear e8
      go_wp2_with (fail)
      refine bodyPost_ret (v := .tuple #[.int .i64 P8, .nilIface]) (by simp [results]) rfl ?_
      exact OpA.mk 0 P8 HD.out (.inr (.inr ⟨k, k4, HK.out, .inr (.inr ⟨HP.out.1, p, HP.out.2.1, HP.out.2.2.1, HP.out.2.2.2.1, HP.out.2.2.2.2.1, HP.out.2.2.2.2.2, rfl, by rw [H8.out]⟩)⟩)) rfl

/- A map that is the last block, one key more. -/
theorem run_ins {P : Program} {t kt et : TypeId} {j : IntKind} (hu : P.underlying t = some (.map kt et)) (hk : P.underlying kt = some (.int j)) (w : World) (es : Array MapEntry) (c : Nat) (k : Int) (v : Value) (hf : Instr.findNow (.int j) (.int .i64 k) es.toList 0 = some none) :
    (Instr.mapUpdate t (.map (some w.heap.size)) (.int .i64 k) v).run P (w.alloc (.map es c)) = .ok () (w.alloc (.map (es.push ⟨.int .i64 k, v, c⟩) (c + 1))) := by
  have hb : (w.alloc (.map es c)).heap[w.heap.size]? = some (.map es c) := heap_alloc_new w _
  have h4 : ({ (w.alloc (.map es c)) with heap := (w.alloc (.map es c)).heap.setIfInBounds w.heap.size (.map (es.push ⟨.int .i64 k, v, c⟩) (c + 1)) } : World) = w.alloc (.map (es.push ⟨.int .i64 k, v, c⟩) (c + 1)) := by
    show ({ w with heap := (w.heap.push (.map es c)).setIfInBounds w.heap.size (.map (es.push ⟨.int .i64 k, v, c⟩) (c + 1)) } : World) = { w with heap := w.heap.push (.map (es.push ⟨.int .i64 k, v, c⟩) (c + 1)) }
    congr 1
    apply Array.ext_getElem?
    intro i
    rw [Array.getElem?_setIfInBounds, Array.getElem?_push, Array.getElem?_push]
    by_cases e : w.heap.size = i
    · subst e; simp
    · rw [if_neg e, if_neg (Ne.symm e), if_neg (Ne.symm e)]
  rw [← h4]
  generalize w.alloc (.map es c) = W at hb ⊢
  have h1 : (getObj w.heap.size).run P W = .ok (.map es c) W := by simp [getObj, Sem.run, hb]
  have h2 : (Instr.checkKey false 10000 kt (.int .i64 k)).run P W = .ok () W := by
    unfold Instr.checkKey
    simp [run_underlying hk]
  have h3 : (setObj w.heap.size (.map (es.push ⟨.int .i64 k, v, c⟩) (c + 1))).run P W = .ok () { W with heap := W.heap.setIfInBounds w.heap.size (.map (es.push ⟨.int .i64 k, v, c⟩) (c + 1)) } := by
    simp [setObj, Sem.run, hb]
  simp [Instr.mapUpdate, run_underlying hu, h1, h2, Instr.findKey, run_underlying hk, hf, h3]

theorem run_look {P : Program} {t kt et : TypeId} {j : IntKind} (hu : P.underlying t = some (.map kt et)) (hk : P.underlying kt = some (.int j)) (w : World) (r : Nat) (es : Array MapEntry) (c : Nat) (k : Int) (z v : Value) (ok : Bool) (hb : w.heap[r]? = some (.map es c)) (hz : (zeroValue et).run P w = .ok z w)
    (hf : ∃ f, Instr.findNow (.int j) (.int .i64 k) es.toList 0 = some f ∧ (match f with | some (_, v) => (v, true) | none => (z, false)) = (v, ok)) :
    (Instr.lookup t (.map (some r)) (.int .i64 k) true).run P w = .ok (.tuple #[v, .bool ok]) w := by
  have h1 : (getObj r).run P w = .ok (.map es c) w := by simp [getObj, Sem.run, hb]
  have h2 : (Instr.checkKey es.isEmpty 10000 kt (.int .i64 k)).run P w = .ok () w := by
    unfold Instr.checkKey
    simp [run_underlying hk]
  obtain ⟨f, hf, he⟩ := hf
  cases f with
  | none =>
    simp at he
    simp [Instr.lookup, run_underlying hu, h1, h2, Instr.findKey, run_underlying hk, hf, hz, he]
  | some p =>
    obtain ⟨i, u⟩ := p
    simp at he
    simp [Instr.lookup, run_underlying hu, h1, h2, Instr.findKey, run_underlying hk, hf, he]

/- The six. -/
def fn (f : Nat) : Value := .func (.func f) #[] #[]
def six : Array MapEntry := #[⟨.int .i64 1, fn 67, 0⟩, ⟨.int .i64 2, fn 68, 1⟩, ⟨.int .i64 3, fn 69, 2⟩, ⟨.int .i64 4, fn 70, 3⟩, ⟨.int .i64 5, fn 71, 4⟩, ⟨.int .i64 6, fn 72, 5⟩]

theorem calls_any (w : World) :
    Calls Tryd.prog 52 #[] w fun e w' => e = .returned (.map (some w.heap.size)) ∧ w' = w.alloc (.map six 6) := by
  have h0 := run_makeMap (P := Tryd.prog) 73 w
  have hu := Tryd.underlying73
  have i1 := run_ins (P := Tryd.prog) hu Tryd.underlying3 w #[] 0 1 (fn 67) rfl
  have i2 := run_ins (P := Tryd.prog) hu Tryd.underlying3 w #[⟨.int .i64 1, fn 67, 0⟩] 1 2 (fn 68) rfl
  have i3 := run_ins (P := Tryd.prog) hu Tryd.underlying3 w #[⟨.int .i64 1, fn 67, 0⟩, ⟨.int .i64 2, fn 68, 1⟩] 2 3 (fn 69) rfl
  have i4 := run_ins (P := Tryd.prog) hu Tryd.underlying3 w #[⟨.int .i64 1, fn 67, 0⟩, ⟨.int .i64 2, fn 68, 1⟩, ⟨.int .i64 3, fn 69, 2⟩] 3 4 (fn 70) rfl
  have i5 := run_ins (P := Tryd.prog) hu Tryd.underlying3 w #[⟨.int .i64 1, fn 67, 0⟩, ⟨.int .i64 2, fn 68, 1⟩, ⟨.int .i64 3, fn 69, 2⟩, ⟨.int .i64 4, fn 70, 3⟩] 4 5 (fn 71) rfl
  have i6 := run_ins (P := Tryd.prog) hu Tryd.underlying3 w #[⟨.int .i64 1, fn 67, 0⟩, ⟨.int .i64 2, fn 68, 1⟩, ⟨.int .i64 3, fn 69, 2⟩, ⟨.int .i64 4, fn 70, 3⟩, ⟨.int .i64 5, fn 71, 4⟩] 5 6 (fn 72) rfl
  simp only [List.push_toArray, List.nil_append, List.cons_append, fn, Nat.zero_add] at i1 i2 i3 i4 i5 i6
  go_enter Tryd.func52, Tryd.ntmps52
  go_wp2_with (fail)
  refine bodyPost_ret (v := .map (some w.heap.size)) (by simp [results]) rfl ?_
  exact ⟨rfl, rfl⟩

def LeQ (b : Bx) (U : Nat → List Int) (q : Nat) (c : Bx) (V : Nat → List Int) (x : Nat) (y : Int) : Prop :=
  V = U ∧ (((∃ u, u < b.o.n ∧ b.o.f u = (q : Int) + 1) ∧ c = b ∧ x = 7 ∧ y = 0) ∨ ((∀ u, u < b.o.n → b.o.f u ≠ (q : Int) + 1) ∧ c = b.seti q 0 ∧ x = 0 ∧ y = 0))
def EnQ (b : Bx) (U : Nat → List Int) (q : Nat) (c : Bx) (V : Nat → List Int) (x : Nat) (y : Int) : Prop :=
  V = U ∧ ((b.i.f q ≠ 0 ∧ c = b ∧ x = 6 ∧ y = 0) ∨ (b.i.f q = 0 ∧ b.e.f q = 4095 ∧ c = b ∧ x = 12 ∧ y = 0) ∨ (b.i.f q = 0 ∧ b.e.f q ≠ 4095 ∧ c = b.ine q 1 (b.e.f q + 1) ∧ x = 0 ∧ y = b.e.f q + 1))
def DdQ (b : Bx) (U : Nat → List Int) (o : Ox) (c : Bx) (V : Nat → List Int) (x : Nat) (y : Int) : Prop :=
  ((o.s < 0 ∨ b.s ≤ o.s) ∧ c = b ∧ V = U ∧ x = 13 ∧ y = 0) ∨
  ∃ q : Nat, o.s = q ∧ (q : Int) < b.s ∧
    ((o.k = 1 ∧ EnQ b U q c V x y) ∨
     (o.k ≠ 1 ∧ ((b.i.f q = 0 ∧ c = b ∧ V = U ∧ x = 9 ∧ y = 0) ∨
       (b.i.f q ≠ 0 ∧ ((o.k = 2 ∧ TaQ b U q o.a c V x y) ∨ (o.k = 3 ∧ GiQ b U o.s o.a c V x y) ∨ (o.k = 4 ∧ HaQ b U o.s o.a o.b c V x y) ∨ (o.k = 5 ∧ LeQ b U q c V x y) ∨ (o.k = 6 ∧ RpQ b U o.a c V x y) ∨ ((o.k < 2 ∨ 6 < o.k) ∧ c = b ∧ V = U ∧ x = 13 ∧ y = 0))))))
set_option maxHeartbeats 16000000 in
theorem do_out {a : Nat → Addr} {B D : Nat} {s t : Nat → Nat} {b : Bx} {U : Nat → List Int} {w : World} (h : Dr B D s t b U w) (he : Er a w) (hB : 12 ≤ B) (hok : OkP b) (o : Ox) (hs : ¬ (0 ≤ o.s ∧ o.s < b.s)) :
    Calls Tryd.prog 28 #[.pointer (some ⟨D, 0, none⟩), .agg o.cells.toArray] w fun e w' => OpA a B D s t w (DdQ b U o) e w' := by
  have S := Oq.start (a := a) h he hB o 28
  have HOK : Hid (OkP b) := hok
  have l0 := hok.1.1.1
  have l1 := hok.1.1.2.1
  have l2 := hok.1.1.2.2.1
  have l3 := hok.1.1.2.2.2.1
  have l6 := hok.1.1.2.2.2.2.1
  have l7 := hok.1.1.2.2.2.2.2.2
  have l8 := hok.1.1.2.2.2.2.2.1
  obtain ⟨ko, oo, eo, to⟩ := h.addr (x := b.o) (by simp [Bx.lists]) (by omega)
  obtain ⟨ki, oi, ei, ti⟩ := h.addr (x := b.i) (by simp [Bx.lists]) (by omega)
  obtain ⟨ke, oe, ee, te⟩ := h.addr (x := b.e) (by simp [Bx.lists]) (by omega)
  have EO : Hid (b.o.a = some ⟨ko, oo, none⟩) := eo
  have EI : Hid (b.i.a = some ⟨ki, oi, none⟩) := ei
  have EE : Hid (b.e.a = some ⟨ke, oe, none⟩) := ee
  have TT : Hid (t ko = 2 ∧ t ki = 2 ∧ t ke = 2 ∧ t D = 1) := ⟨to, ti, te, h.tD⟩
  have LS : Hid (b.s ≤ 4 ∧ 1 ≤ b.s ∧ (b.i.n : Int) = b.s ∧ (b.e.n : Int) = b.s ∧ b.o.n ≤ 1000 ∧ b.o.n ≤ b.o.c) := ⟨by omega, by omega, by omega, by omega, by omega, (h.h.each b.o (by simp [Bx.lists])).1⟩
  clear h he hB eo ei ee to ti te hok l0 l1 l2 l3 l6 l7 l8
  simp only [Ox.cells] at S ⊢
  have HN : Hid (¬ (0 ≤ o.s ∧ o.s < b.s)) := hs
  clear hs
  go_enter Tryd.func28, Tryd.ntmps28
  go_wp2_with (fail)
  generalize w.alloc (.cells _ 28) = W at S ⊢
  have HS0 : Hid (Oq a B D s t w t b U w.heap.size o W) := S
  clear S
  refine wp_region_held_drew (S := Oq a B D s t w t b U w.heap.size o) (by kernel_rfl) (HS0.out.drewN 1) (fun hS => ?_)
  refine tI 0 (v := .pointer (some ⟨D, 0, none⟩)) (d := some 8) rfl rfl (fun w' hw => ?_) hS ?_
  · clear hw; go_simp
  try simp only [Act.put, s1, s2, s3]
  refine tI 1 (v := .pointer (some ⟨D, 0, none⟩)) (d := some 9) rfl rfl (fun w' hw => ?_) hS ?_
  · clear hw; go_simp
  try simp only [Act.put, s1, s2, s3]
  refine tI 2 (v := .pointer (some ⟨D, 0, none⟩)) (d := some 10) rfl rfl (fun w' hw => ?_) hS ?_
  · clear hw; go_simp
  try simp only [Act.put, s1, s2, s3]
  refine tB 3 (v := .agg b.cells.toArray) (d := some 11) rfl rfl (yieldsIf_load_mid (by rfl) 26 _ rfl D 0 rfl b.cells _ (fun w' hw => hw.d.d.range) Tryd.underlying26 rfl (by kernel_rfl)) hS ?_
  try simp only [Act.put, s1, s2, s3]
  refine tI 4 (v := .pointer (some ⟨w.heap.size, 1, none⟩)) (d := some 12) rfl rfl (fun w' hw => ?_) hS ?_
  · clear hw; go_simp
  try simp only [Act.put, s1, s2, s3]
  refine tI 5 (v := .int .i64 o.s) (d := some 13) rfl rfl (fun w' hw => ?_) hS ?_
  · have q := hw.op 1 _ rfl; clear hw; go_simp
  try simp only [Act.put, s1, s2, s3]
  refine r1 6 rfl (fun K hK => ?_)
  have HS1 : Hid (Oq a B D s t w t b U w.heap.size o _) := hS
  clear hS
  go_simp
  refine (isslot_any b o.s _).mono ?_
  rintro e w2 ⟨⟨r, rfl, hr⟩, hb⟩
  have HI : Hid (Tell r (0 ≤ o.s ∧ o.s < b.s)) := hr
  have HS2 : Hid (Oq a B D s t w t b U w.heap.size o w2) := HS1.out.later hb
  clear HS1 hb hr
  go_wp2_with (fail)
  refine hK.out _ _ HS2.out (fun hS => ?_)
  clear hK K
  try simp only [Act.put, s1, s2, s3]
  refine tI 7 (v := .bool (!r)) (d := some 15) rfl rfl (fun w' hw => ?_) hS ?_
  · clear hw; go_simp
  try simp only [Act.put, s1, s2, s3]
  refine wpAnyH_done (by kernel_rfl) ?_ _
  clear hS
  cases r
  case true => exact absurd (HI.out.1 rfl) HN.out
  have cE : w2.cell? ⟨0, 0, none⟩ = some (ev a 13) := HS2.out.e.h _ _ (by simp [erl])
  go_wp2_with (fail)
  go_quiet (fail)
  go_wp2_with (fail)
  refine bodyPost_ret (v := .tuple #[.int .i64 0, ev a 13]) (by simp [results]) rfl ?_
  exact OpA.mk 13 0 (HS2.out.d.drewN _) (.inl ⟨by have := HN.out; omega, rfl, rfl, rfl, rfl⟩) rfl

set_option maxHeartbeats 16000000 in
theorem do_nobody {a : Nat → Addr} {B D : Nat} {s t : Nat → Nat} {b : Bx} {U : Nat → List Int} {w : World} (h : Dr B D s t b U w) (he : Er a w) (hB : 12 ≤ B) (hok : OkP b) (o : Ox) (q : Nat) (hq : o.s = q) (hqs : (q : Int) < b.s) (hk : o.k ≠ 1) (hi : b.i.f q = 0) :
    Calls Tryd.prog 28 #[.pointer (some ⟨D, 0, none⟩), .agg o.cells.toArray] w fun e w' => OpA a B D s t w (DdQ b U o) e w' := by
  have S := Oq.start (a := a) h he hB o 28
  have HOK : Hid (OkP b) := hok
  have l0 := hok.1.1.1
  have l1 := hok.1.1.2.1
  have l2 := hok.1.1.2.2.1
  have l3 := hok.1.1.2.2.2.1
  have l6 := hok.1.1.2.2.2.2.1
  have l7 := hok.1.1.2.2.2.2.2.2
  have l8 := hok.1.1.2.2.2.2.2.1
  obtain ⟨ko, oo, eo, to⟩ := h.addr (x := b.o) (by simp [Bx.lists]) (by omega)
  obtain ⟨ki, oi, ei, ti⟩ := h.addr (x := b.i) (by simp [Bx.lists]) (by omega)
  obtain ⟨ke, oe, ee, te⟩ := h.addr (x := b.e) (by simp [Bx.lists]) (by omega)
  have EO : Hid (b.o.a = some ⟨ko, oo, none⟩) := eo
  have EI : Hid (b.i.a = some ⟨ki, oi, none⟩) := ei
  have EE : Hid (b.e.a = some ⟨ke, oe, none⟩) := ee
  have TT : Hid (t ko = 2 ∧ t ki = 2 ∧ t ke = 2 ∧ t D = 1) := ⟨to, ti, te, h.tD⟩
  have LS : Hid (b.s ≤ 4 ∧ 1 ≤ b.s ∧ (b.i.n : Int) = b.s ∧ (b.e.n : Int) = b.s ∧ b.o.n ≤ 1000 ∧ b.o.n ≤ b.o.c) := ⟨by omega, by omega, by omega, by omega, by omega, (h.h.each b.o (by simp [Bx.lists])).1⟩
  clear h he hB eo ei ee to ti te hok l0 l1 l2 l3 l6 l7 l8
  simp only [Ox.cells] at S ⊢
  have HQ : Hid (o.s = q ∧ (q : Int) < b.s ∧ b.i.f q = 0) := ⟨hq, hqs, hi⟩
  have HK : Hid (o.k ≠ 1) := hk
  have nk : (o.k == 1) = false := by simpa using hk
  clear hq hqs hi hk
  go_enter Tryd.func28, Tryd.ntmps28
  go_wp2_with (fail)
  generalize w.alloc (.cells _ 28) = W at S ⊢
  have HS0 : Hid (Oq a B D s t w t b U w.heap.size o W) := S
  clear S
  refine wp_region_held_drew (S := Oq a B D s t w t b U w.heap.size o) (by kernel_rfl) (HS0.out.drewN 1) (fun hS => ?_)
  refine tI 0 (v := .pointer (some ⟨D, 0, none⟩)) (d := some 8) rfl rfl (fun w' hw => ?_) hS ?_
  · clear hw; go_simp
  try simp only [Act.put, s1, s2, s3]
  refine tI 1 (v := .pointer (some ⟨D, 0, none⟩)) (d := some 9) rfl rfl (fun w' hw => ?_) hS ?_
  · clear hw; go_simp
  try simp only [Act.put, s1, s2, s3]
  refine tI 2 (v := .pointer (some ⟨D, 0, none⟩)) (d := some 10) rfl rfl (fun w' hw => ?_) hS ?_
  · clear hw; go_simp
  try simp only [Act.put, s1, s2, s3]
  refine tB 3 (v := .agg b.cells.toArray) (d := some 11) rfl rfl (yieldsIf_load_mid (by rfl) 26 _ rfl D 0 rfl b.cells _ (fun w' hw => hw.d.d.range) Tryd.underlying26 rfl (by kernel_rfl)) hS ?_
  try simp only [Act.put, s1, s2, s3]
  refine tI 4 (v := .pointer (some ⟨w.heap.size, 1, none⟩)) (d := some 12) rfl rfl (fun w' hw => ?_) hS ?_
  · clear hw; go_simp
  try simp only [Act.put, s1, s2, s3]
  refine tI 5 (v := .int .i64 o.s) (d := some 13) rfl rfl (fun w' hw => ?_) hS ?_
  · have q := hw.op 1 _ rfl; clear hw; go_simp
  try simp only [Act.put, s1, s2, s3]
  refine r1 6 rfl (fun K hK => ?_)
  have HS1 : Hid (Oq a B D s t w t b U w.heap.size o _) := hS
  clear hS
  go_simp
  refine (isslot_any b o.s _).mono ?_
  rintro e w2 ⟨⟨r, rfl, hr⟩, hb⟩
  have HI : Hid (Tell r (0 ≤ o.s ∧ o.s < b.s)) := hr
  have HS2 : Hid (Oq a B D s t w t b U w.heap.size o w2) := HS1.out.later hb
  clear HS1 hb hr
  go_wp2_with (fail)
  refine hK.out _ _ HS2.out (fun hS => ?_)
  clear hK K
  try simp only [Act.put, s1, s2, s3]
  refine tI 7 (v := .bool (!r)) (d := some 15) rfl rfl (fun w' hw => ?_) hS ?_
  · clear hw; go_simp
  try simp only [Act.put, s1, s2, s3]
  refine wpAnyH_done (by kernel_rfl) ?_ _
  clear hS
  cases r
  case false => exact absurd (HI.out.2 ⟨by have := HQ.out.1; omega, by have := HQ.out.1; have := HQ.out.2.1; omega⟩) (by simp)
  go_wp2_with (fail)
  refine wp_region_held_drew (S := Oq a B D s t w t b U w.heap.size o) (by kernel_rfl) (HS2.out.drewN 1) (fun hS => ?_)
  refine tI 0 (v := .pointer (some ⟨w.heap.size, 0, none⟩)) (d := some 17) rfl rfl (fun w' hw => ?_) hS ?_
  · clear hw; go_simp
  try simp only [Act.put, s1, s2, s3]
  refine tI 1 (v := .int .i64 o.k) (d := some 18) rfl rfl (fun w' hw => ?_) hS ?_
  · have q1 := hw.op 0 _ rfl; clear hw; go_simp
  try simp only [Act.put, s1, s2, s3]
  refine tI 2 (v := .bool true) (d := some 19) rfl rfl (fun w' hw => ?_) hS ?_
  · have hk := HK.out; clear hw; go_simp
  try simp only [Act.put, s1, s2, s3]
  refine tI 3 (v := .bool true) (d := some 20) rfl rfl (fun w' hw => ?_) hS ?_
  · clear hw; go_simp
  try simp only [Act.put, s1, s2, s3]
  refine tI 4 (v := .pointer (some ⟨D, 0, none⟩)) (d := some 21) rfl rfl (fun w' hw => ?_) hS ?_
  · clear hw; go_simp
  try simp only [Act.put, s1, s2, s3]
  refine tI 5 (v := .pointer (some ⟨D, 0, none⟩)) (d := some 22) rfl rfl (fun w' hw => ?_) hS ?_
  · clear hw; go_simp
  try simp only [Act.put, s1, s2, s3]
  refine tI 6 (v := .pointer (some ⟨D, 0, none⟩)) (d := some 23) rfl rfl (fun w' hw => ?_) hS ?_
  · clear hw; go_simp
  try simp only [Act.put, s1, s2, s3]
  refine tB 7 (v := .agg b.cells.toArray) (d := some 24) rfl rfl (yieldsIf_load_mid (by rfl) 26 _ rfl D 0 rfl b.cells _ (fun w' hw => hw.d.d.range) Tryd.underlying26 rfl (by kernel_rfl)) hS ?_
  try simp only [Act.put, s1, s2, s3]
  refine tI 8 (v := .pointer (some ⟨w.heap.size, 1, none⟩)) (d := some 25) rfl rfl (fun w' hw => ?_) hS ?_
  · clear hw; go_simp
  try simp only [Act.put, s1, s2, s3]
  refine tI 9 (v := .int .i64 o.s) (d := some 26) rfl rfl (fun w' hw => ?_) hS ?_
  · have q := hw.op 1 _ rfl; clear hw; go_simp
  try simp only [Act.put, s1, s2, s3]
  refine r1 10 rfl (fun K hK => ?_)
  have HS1 : Hid (Oq a B D s t w t b U w.heap.size o _) := hS
  clear hS
  go_simp
  refine (isin_any b o.s _ HS1.out.d.d.h.at (by have := LS.out; omega)).mono ?_
  rintro e w3 ⟨⟨r, rfl, hr⟩, hb⟩
  have HJ : Hid (Tell r ((0 ≤ o.s ∧ o.s < b.s) ∧ b.i.f o.s.toNat ≠ 0)) := hr
  have HS3 : Hid (Oq a B D s t w t b U w.heap.size o w3) := HS1.out.later hb
  clear HS1 hb hr HS2
  go_wp2_with (fail)
  refine hK.out _ _ HS3.out (fun hS => ?_)
  clear hK K
  try simp only [Act.put, s1, s2, s3]
  refine tI 11 (v := .bool (!r)) (d := some 28) rfl rfl (fun w' hw => ?_) hS ?_
  · clear hw; go_simp
  try simp only [Act.put, s1, s2, s3]
  refine tI 12 (v := .bool (!r)) (d := some 29) rfl rfl (fun w' hw => ?_) hS ?_
  · clear hw; go_simp
  try simp only [Act.put, s1, s2, s3]
  refine wpAnyH_done (by kernel_rfl) ?_ _
  clear hS
  cases r
  case true => exact absurd HQ.out.2.2 (by have := (HJ.out.1 rfl).2; rw [HQ.out.1, Int.toNat_natCast] at this; exact this)
  have cE : w3.cell? ⟨1, 0, none⟩ = some (ev a 9) := HS3.out.e.h _ _ (by simp [erl])
  go_wp2_with (fail)
  go_quiet (fail)
  go_wp2_with (fail)
  refine bodyPost_ret (v := .tuple #[.int .i64 0, ev a 9]) (by simp [results]) rfl ?_
  exact OpA.mk 9 0 (HS3.out.d.drewN _) (.inr ⟨q, HQ.out.1, HQ.out.2.1, .inr ⟨HK.out, .inl ⟨HQ.out.2.2, rfl, rfl, rfl, rfl⟩⟩⟩) rfl
end Go.Proofs.YtbipolfbkemmpaaDoor.Dra

import Derived.Test.YtbipolfbkemmpaaDoorM1
import Derived.Test.YtbipolfbkemmpaaDoorM51
import Derived.Test.YtbipolfbkemmpaaDoorM48
import Derived.Test.YtbipolfbkemmpaaDoorM45

/- What a law rests on while it goes: structs of its own in memory: over no program. -/
namespace Go.Proofs.YtbipolfbkemmpaaDoor.Aid
open Go.ChangeShapes Go.WideShapes Go.ChangeAt Go.RowKit

structure Rw (w0 : World) (rs : List (Nat × List Value)) (w : World) : Prop where
  r : ∀ p ∈ rs, w.rangeAt p.1 0 p.2 ∧ p.1 < w.heap.size
  b : Below w0.heap.size w0 w

theorem Rw.start (w : World) : Rw w [] w := ⟨fun p hp => by simp at hp, Below.refl _ _⟩
theorem Rw.later {w0 w w1 : World} {rs : List (Nat × List Value)} (h : Rw w0 rs w) (hb : Below w.heap.size w w1) : Rw w0 rs w1 :=
  ⟨fun p hp => ⟨range_below hb (h.r p hp).1 (h.r p hp).2, Nat.lt_of_lt_of_le (h.r p hp).2 hb.size⟩, h.b.trans (hb.mono h.b.size)⟩
theorem setCells_size (b : Nat) : ∀ (vs : List Value) (o : Nat) (w : World), (w.setCells b o vs).heap.size = w.heap.size
  | [], _, _ => rfl
  | v :: r, o, w => by rw [World.setCells, setCells_size b r]; simp [World.setCell]
theorem there_new (w : World) (Z : Array Value) (t : TypeId) (n : Nat) (hn : Z.size = n) : (w.alloc (.cells Z t)).there w.heap.size 0 n := by
  subst hn; exact there_lit Z (heap1_0 _ _)
theorem Rw.put {w0 w : World} {rs : List (Nat × List Value)} (h : Rw w0 rs w) (Z C : Array Value) (t : TypeId) (hn : Z.size = C.size) : Rw w0 ((w.heap.size, C.toList) :: rs) ((w.alloc (.cells Z t)).setCells w.heap.size 0 C.toList) := by
  have hl := h.later (below1 w (.cells Z t))
  have ht := there_new w Z t C.toList.length (by rw [hn]; simp)
  have hb := below_setCells (below1 w (.cells Z t)) (Nat.le_refl _) C.toList 0
  have hs := hb.size
  have z : w.heap.size < ((w.alloc (.cells Z t)).setCells w.heap.size 0 C.toList).heap.size := by
    have : ((w.alloc (.cells Z t)).setCells w.heap.size 0 C.toList).heap.size = (w.alloc (.cells Z t)).heap.size := setCells_size _ _ _ _
    rw [this]; simp
  refine ⟨fun p hp => ?_, (h.later hb).b⟩
  rcases List.mem_cons.1 hp with rfl | hp
  · exact ⟨World.rangeAt_setCells_same _ _ _ _ ht, z⟩
  · exact (h.later hb).r p hp

end Go.Proofs.YtbipolfbkemmpaaDoor.Aid
/- A book is drawn, one in six bent, and a slot: the specification's DrawBookOf. -/
namespace Go.Proofs.YtbipolfbkemmpaaDoor.Book
open Go.ChangeShapes Go.WideShapes Go.ChangeAt Go.RowKit
open Aid Lst Draw
set_option maxRecDepth 100000
set_option linter.unusedVariables false

/- A book that was drawn: in new memory; it may be ok or not. -/
def DbQ (w0 : World) (b : Bx) (w' : World) : Prop := b.At w' ∧ b.Wf ∧ b.total ≤ 1001 ∧ b.o.n ≤ b.o.c ∧ Below w0.heap.size w0 w'
theorem BnQ.off {w1 w' : World} {r : Nat} {ra : Option Addr} {rl rc : Nat} {zs : List Int} {P : Int} {b : Bx} (h : b.Hl w1.heap.size w') {i : Nat} (hi : i < w1.heap.size) : ∀ x ∈ b.lists, 0 < x.n → ∀ k o, x.a = some ⟨k, o, none⟩ → k ≠ i := fun x hx hn k o e ek => by
  have g := h.lies (i := k) ⟨x, hx, by have := (h.each x hx).1; omega, o, e⟩
  omega
theorem BnQ.db {w0 w1 w' : World} {r : Nat} {ra : Option Addr} {rl rc : Nat} {zs : List Int} {P : Int} {e : Ending} (h : BnQ w1 r ra rl rc zs P e w') (hb : Below w0.heap.size w0 w1) (hr : w0.heap.size ≤ r) (hlt : w0.heap.size ≤ w1.heap.size) :
    ∃ b : Bx, e = .returned (.agg b.cells.toArray) ∧ DbQ w0 b w' ∧ (∃ p, p ≤ P ∧ Rd w' r ra rl rc zs p) ∧ Save r w1 w' ∧ (∀ i, i < w1.heap.size → ∀ x ∈ b.lists, 0 < x.n → ∀ k o, x.a = some ⟨k, o, none⟩ → k ≠ i) ∧ OB b := by
  obtain ⟨b, rfl, h1, h2, h3, h4, h5, h6⟩ := h
  exact ⟨b, rfl, ⟨h3.at, h1, h2, (h3.each b.o (by simp [Bx.lists])).1, hb.trans (h5.below (by omega) hlt)⟩, h4, h5, fun i hi => BnQ.off (r := r) (ra := ra) (rl := rl) (rc := rc) (zs := zs) (P := P) h3 hi, h6⟩

theorem results_cell_one {P : Program} {fn : Func} {q u : Tmp} {ty : TypeId} (h : fn.results = #[.cell q ty, .tmp u]) (tmps : Array Value) (w : World) (b o : Nat) (cs : List Value) (d : TypeDesc)
    (hp : tmps.getD q undef = .pointer (some ⟨b, o, none⟩)) (hc : w.rangeAt b o cs) (hu : P.underlying ty = some d) (hd : d.isRow = true) (hi : (P.info? ty).map (·.size) = some cs.length) :
    (results fn tmps).run P w = .ok (.tuple #[.agg cs.toArray, tmps.getD u undef]) w := by
  have hp' : tmps[q]?.getD undef = .pointer (some ⟨b, o, none⟩) := by simpa using hp
  simp [results, h, hp', asAddr, run_loadVar_mid w b o ty cs d hc hu hd hi]

set_option linter.unusedSimpArgs false
theorem results_cells {P : Program} {fn : Func} {q u : Tmp} {ty ty' : TypeId} (h : fn.results = #[.cell q ty, .cell u ty']) (tmps : Array Value) (w : World) (b o b' o' : Nat) (cs cs' : List Value) (d d' : TypeDesc)
    (hp : tmps.getD q undef = .pointer (some ⟨b, o, none⟩)) (hp' : tmps.getD u undef = .pointer (some ⟨b', o', none⟩)) (hc : w.rangeAt b o cs) (hc' : w.rangeAt b' o' cs') (hu : P.underlying ty = some d) (hd : d.isRow = true) (hi : (P.info? ty).map (·.size) = some cs.length)
    (hu' : P.underlying ty' = some d') (hd' : d'.isRow = true) (hi' : (P.info? ty').map (·.size) = some cs'.length) :
    (results fn tmps).run P w = .ok (.tuple #[.agg cs.toArray, .agg cs'.toArray]) w := by
  have e : tmps[q]?.getD undef = .pointer (some ⟨b, o, none⟩) := by simpa using hp
  have e' : tmps[u]?.getD undef = .pointer (some ⟨b', o', none⟩) := by simpa using hp'
  simp [results, h, e, e', asAddr, run_loadVar_mid w b o ty cs d hc hu hd hi, run_loadVar_mid w b' o' ty' cs' d' hc' hu' hd' hi']

set_option maxHeartbeats 8000000 in
theorem dbdo_any (a : Option Addr) (len cap : Nat) (zs : List Int) (w : World) (h : Row w a len cap zs) :
    Calls Tryd.prog 10 #[.slice a len cap] w fun e w' => ∃ (b : Bx) (o : Ox), e = .returned (.tuple #[.agg b.cells.toArray, .agg o.cells.toArray]) ∧ DbQ w b w' := by
  have h1 := h.below (below2 w (.cells z9.toArray 26) (.cells z4.toArray 28))
  have T1 := ck_lit z9.toArray (heap2_0 w (.cells z9.toArray 26) (.cells z4.toArray 28))
  have U1 := ck_lit z4.toArray (heap2_1 w (.cells z9.toArray 26) (.cells z4.toArray 28))
  have B1 := below2 w (.cells z9.toArray 26) (.cells z4.toArray 28)
  have z1 : w.heap.size + 2 ≤ ((w.alloc (.cells z9.toArray 26)).alloc (.cells z4.toArray 28)).heap.size := by simp
  simp only [z9, z4] at h1 T1 U1 B1 z1
  have HR1 : Hid (Row _ a len cap zs) := h1
  have HT1 : Hid (Ck _ w.heap.size z9) := T1
  have HU1 : Hid (Ck _ (w.heap.size + 1) Book.z4) := U1
  have HB1 : Hid (Below w.heap.size w _) := B1
  clear h1 T1 U1 B1
  go_enter Tryd.func10, Tryd.ntmps10
  go_wp2_with (fail)
  generalize (w.alloc (.cells #[.int .i64 0, .slice none 0 0, .slice none 0 0, .slice none 0 0, .slice none 0 0, .slice none 0 0, .slice none 0 0, .slice none 0 0, .slice none 0 0] 26)).alloc (.cells #[.int .i64 0, .int .i64 0, .int .i64 0, .int .i64 0] 28) = W1 at HR1 HT1 HU1 HB1 z1 ⊢
  refine (open_any a len cap zs W1 HR1.out).mono ?_
  rintro e w2 ⟨rfl, ⟨n, c, rd⟩, hb⟩
  have rlt := rd.lt
  have HT2 : Hid (Ck w2 w.heap.size z9) := HT1.out.below hb (by omega)
  have HU2 : Hid (Ck w2 (w.heap.size + 1) Book.z4) := HU1.out.below hb (by omega)
  have HB2 : Hid (Below w.heap.size w w2) := HB1.out.trans (hb.mono (by omega))
  have HD : Hid (Rd w2 W1.heap.size a n c zs 0) := rd
  generalize W1.heap.size = r at HD z1 rlt ⊢
  clear hb rd HT1 HU1 HB1 HR1
  go_wp2_with (fail)
  refine (lbent_any r a n c zs 0 w2 HD.out (by omega)).mono ?_
  rintro e w3 bq
  obtain ⟨b, rfl, dq, ⟨p, p1, rd⟩, sv, off, ob⟩ := bq.db HB2.out (by omega) (by omega)
  have HNR : Hid (∀ x ∈ b.lists, 0 < x.n → ∀ k o, x.a = some ⟨k, o, none⟩ → k ≠ r) := off r rlt
  have HNW : Hid (∀ x ∈ b.lists, 0 < x.n → ∀ k o, x.a = some ⟨k, o, none⟩ → k ≠ w.heap.size) := off _ (by omega)
  have HNU : Hid (∀ x ∈ b.lists, 0 < x.n → ∀ k o, x.a = some ⟨k, o, none⟩ → k ≠ w.heap.size + 1) := off _ (by omega)
  have HOB : Hid (OB b) := ob
  clear off ob
  have z3 := sv.size
  have T3 := ck_save HT2.out sv (by omega) (by omega)
  have U3 := ck_save HU2.out sv (by omega) (by omega)
  have cz : Ck (w3.alloc (.cells z9.toArray 26)) w3.heap.size z9 := ck_lit z9.toArray (heap1_0 w3 _)
  have th : (w3.alloc (.cells z9.toArray 26)).there w3.heap.size 0 9 := there9 cz
  have hB : Below w3.heap.size w3 ((w3.alloc (.cells z9.toArray 26)).setCells w3.heap.size 0 b.cells.toArray.toList) := below_setCells (below1 w3 _) (Nat.le_refl _) _ _
  have rg : ((w3.alloc (.cells z9.toArray 26)).setCells w3.heap.size 0 b.cells.toArray.toList).rangeAt w3.heap.size 0 b.cells := World.rangeAt_setCells_same _ _ _ _ th
  have zz : w3.heap.size + 1 ≤ ((w3.alloc (.cells z9.toArray 26)).setCells w3.heap.size 0 b.cells.toArray.toList).heap.size := by rw [setCells_size]; simp
  simp only [z9] at th hB rg zz
  have HT : Hid (World.there _ w3.heap.size 0 9) := th
  have HR : Hid (World.rangeAt _ w3.heap.size 0 b.cells) := rg
  have HB : Hid (Below w3.heap.size w3 _) := hB
  have HZ : Hid (_ ≤ _) := zz
  have HQ : Hid (DbQ w b w3) := dq
  have HT3 : Hid (Ck w3 w.heap.size z9) := T3
  have HU3 : Hid (Ck w3 (w.heap.size + 1) Book.z4) := U3
  have HD3 : Hid (Rd w3 r a n c zs p) := rd
  clear th rg hB cz T3 U3 dq rd bq sv HD HT2 HU2 HB2 zz
  go_wp2_with (refine wpList_store_mid rfl 26 _ _ rfl w3.heap.size 0 b.cells.toArray rfl rfl HT.out (by kernel_rfl) (cells_one b) ?_; apply Hid.out)
  generalize World.setCells _ _ _ _ = w4 at HR HB HZ ⊢
  have HD4 : Hid (Rd w4 r a n c zs p) := rd_later HD3.out HB.out
  have HT4 : Hid (Ck w4 w.heap.size z9) := HT3.out.below HB.out (by omega)
  have HU4 : Hid (Ck w4 (w.heap.size + 1) Book.z4) := HU3.out.below HB.out (by omega)
  have HQ4 : Hid (DbQ w b w4) := by
    obtain ⟨g1, g2, g3, g4, g5⟩ := HQ.out
    exact ⟨g1.later HB.out, g2, g3, g4, g5.trans (HB.out.mono (by omega))⟩
  have z4 := HZ.out
  have hv : r < w3.heap.size := by omega
  generalize w3.heap.size = v at HR hv z3 z4 ⊢
  unfold Hid
  clear HT HB HZ HQ HT3 HU3 HD3
  go_wp2_with (fail)
  have HD5 : Hid (Rd w4.drew r a n c zs p) := rd_later HD4.out (below_drew w4)
  have HT5 : Hid (Ck w4.drew w.heap.size z9) := HT4.out.below (below_drew w4) (by have := HD4.out.lt; omega)
  have HU5 : Hid (Ck w4.drew (w.heap.size + 1) Book.z4) := HU4.out.below (below_drew w4) (by have := HD4.out.lt; omega)
  have HQ5 : Hid (DbQ w b w4.drew) := by
    obtain ⟨g1, g2, g3, g4, g5⟩ := HQ4.out
    exact ⟨g1.later (below_drew w4), g2, g3, g4, g5.trans ((below_drew w4).mono (by have := HD4.out.lt; omega))⟩
  have zv : v + 1 ≤ w4.drew.heap.size := by simpa using z4
  refine wp_region_held_drew (S := fun w' => w'.rangeAt v 0 b.cells) (by kernel_rfl) HR.out (fun hS => ?_)
  clear HR HD4 HT4 HU4 HQ4 z4
  generalize World.drew w4 = V at HD5 HT5 HU5 HQ5 zv hS ⊢
  refine tB 0 (v := .agg b.cells.toArray) (d := some 10) rfl rfl (yieldsIf_load_mid (by rfl) 26 _ rfl v 0 rfl b.cells _ (fun w hw => hw) Tryd.underlying26 rfl (by kernel_rfl)) hS ?_
  try simp only [Act.put, s1, s2, s3]
  refine tI 1 (v := .pointer (some ⟨r, 0, none⟩)) (d := some 11) rfl rfl (fun w' hw => ?_) hS ?_
  · clear hw; go_simp
  try simp only [Act.put, s1, s2, s3]
  refine tB 2 (v := .agg b.cells.toArray) (d := some 12) rfl rfl (yieldsIf_load_mid (by rfl) 26 _ rfl v 0 rfl b.cells _ (fun w hw => hw) Tryd.underlying26 rfl (by kernel_rfl)) hS ?_
  try simp only [Act.put, s1, s2, s3]
  refine r1 3 rfl (fun K hK => ?_)
  go_simp
  refine (lop_any r a n c zs p b _ HD5.out (by omega) HQ5.out.1 (off_of HQ5.out.1 HNR.out) HOB.out.1 HOB.out.2).mono ?_
  rintro e w6 ⟨op, rfl, ⟨p6, p60, rd⟩, sv⟩
  have HT6 : Hid (Ck w6 w.heap.size z9) := ck_save HT5.out sv (by omega) (by omega)
  have HU6 : Hid (Ck w6 (w.heap.size + 1) Book.z4) := ck_save HU5.out sv (by omega) (by omega)
  have HR6 : Hid (w6.rangeAt v 0 b.cells) := range_save sv hS (by omega) (by omega)
  have key : ∀ {x y : World} {k0 : Nat}, DbQ w b x → Save k0 x y → (∀ z ∈ b.lists, 0 < z.n → ∀ k o, z.a = some ⟨k, o, none⟩ → k ≠ k0) → w.heap.size ≤ k0 → w.heap.size ≤ x.heap.size → DbQ w b y := fun {x y k0} q sv hn h0 h1 => by
    obtain ⟨g1, g2, g3, g4, g5⟩ := q
    refine ⟨fun z hz => ?_, g2, g3, g4, g5.trans (sv.below h0 h1)⟩
    rcases g1 z hz with g | ⟨k, o, e, g⟩
    · exact .inl g
    · refine .inr ⟨k, o, e, fun i hi => ?_⟩
      have gi := g i hi
      have kr : k ≠ k0 := fun ekr => hn z hz (by omega) k o e ekr
      rw [sv.cell (q := ⟨k, o + i, none⟩) kr (World.block_lt_of_cell? _ _ gi)]; exact gi
  have HQ6 : Hid (DbQ w b w6) := key HQ5.out sv HNR.out (by omega) (by omega)
  have z6 := sv.size
  clear HD5 HT5 HU5 HQ5 rd sv hS
  go_wp2_with (fail)
  refine hK.out _ _ HR6.out (fun hS => ?_)
  clear hK K
  try simp only [Act.put, s1, s2, s3]
  refine r1 4 rfl (fun K hK => ?_)
  have rg : (w6.setCells w.heap.size 0 b.cells.toArray.toList).rangeAt w.heap.size 0 b.cells := World.rangeAt_setCells_same _ _ _ _ (there9 HT6.out)
  have svr : Save w.heap.size w6 (w6.setCells w.heap.size 0 b.cells.toArray.toList) := save_setCells _ _ _ (Save.refl _ _)
  have dq : DbQ w b (w6.setCells w.heap.size 0 b.cells.toArray.toList) := key HQ6.out svr HNW.out (Nat.le_refl _) (by omega)
  have rv : (w6.setCells w.heap.size 0 b.cells.toArray.toList).rangeAt v 0 b.cells := range_save svr hS (by omega) (by omega)
  have u7 := ck_save HU6.out svr (by omega) (by omega)
  have z7 := svr.size
  have HT : Hid (World.there _ w.heap.size 0 9) := there9 HT6.out
  have HG : Hid (World.rangeAt _ w.heap.size 0 b.cells) := rg
  have HQ : Hid (DbQ w b _) := dq
  have HU7 : Hid (Ck _ (w.heap.size + 1) Book.z4) := u7
  refine wp_store_mid 26 _ _ rfl w.heap.size 0 b.cells.toArray rfl rfl HT.out (by kernel_rfl) (cells_one _) ?_
  refine hK.out _ _ rv (fun hS => ?_)
  clear hK K rv rg dq svr HT6 HU6 HR6 HQ6 HT u7
  generalize World.setCells _ _ _ _ = w7 at HG HQ HU7 hS z7 ⊢
  try simp only [Act.put, s1, s2, s3]
  refine r1 5 rfl (fun K hK => ?_)
  have th : w7.there (w.heap.size + 1) 0 4 := fun j hj => by
    have g := HU7.out j _ (List.getElem?_eq_getElem (show j < Book.z4.length from hj))
    rw [Nat.zero_add, g.1]
    exact ⟨rfl, g.2⟩
  have rg : (w7.setCells (w.heap.size + 1) 0 op.cells.toArray.toList).rangeAt (w.heap.size + 1) 0 op.cells := World.rangeAt_setCells_same _ _ _ _ th
  have svr : Save (w.heap.size + 1) w7 (w7.setCells (w.heap.size + 1) 0 op.cells.toArray.toList) := save_setCells _ _ _ (Save.refl _ _)
  have dq : DbQ w b (w7.setCells (w.heap.size + 1) 0 op.cells.toArray.toList) := key HQ.out svr HNU.out (by omega) (by omega)
  have rv : (w7.setCells (w.heap.size + 1) 0 op.cells.toArray.toList).rangeAt v 0 b.cells := range_save svr hS (by omega) (by omega)
  have rb : (w7.setCells (w.heap.size + 1) 0 op.cells.toArray.toList).rangeAt w.heap.size 0 b.cells := range_save svr HG.out (by omega) (by omega)
  have HTH : Hid (World.there _ (w.heap.size + 1) 0 4) := th
  have HGO : Hid (World.rangeAt _ (w.heap.size + 1) 0 op.cells) := rg
  have HGB : Hid (World.rangeAt _ w.heap.size 0 b.cells) := rb
  have HQ8 : Hid (DbQ w b _) := dq
  refine wp_store_mid 28 _ _ rfl (w.heap.size + 1) 0 op.cells.toArray rfl rfl HTH.out (by kernel_rfl) (ox_one _) ?_
  refine hK.out _ _ rv (fun hS => ?_)
  clear hK K rv rg dq svr th rb HTH HG HQ HU7 z7
  generalize World.setCells _ _ _ _ = w8 at HGO HGB HQ8 hS ⊢
  try simp only [Act.put, s1, s2, s3]
  refine wpAnyH_done (by kernel_rfl) ?_ _
  clear hS key
  go_wp2_with (fail)
  exact bodyPost_ret (results_cells rfl _ _ w.heap.size 0 (w.heap.size + 1) 0 _ _ _ _ rfl rfl HGB.out HGO.out Tryd.underlying26 rfl (by kernel_rfl) Tryd.underlying28 rfl (by kernel_rfl)) rfl ⟨b, op, rfl, HQ8.out⟩

end Go.Proofs.YtbipolfbkemmpaaDoor.Book
/- A drawn book and a call, laid into structs of a law's own. -/
namespace Go.Proofs.YtbipolfbkemmpaaDoor.Dra
open Go.ChangeShapes Go.WideShapes Go.ChangeAt Go.RowKit
open Aid Lst Book
set_option maxRecDepth 100000
set_option linter.unusedVariables false
set_option linter.unusedSimpArgs false

/- A code that is handed in. -/
def Bytes (w : World) (a : Option Addr) (len cap : Nat) (zs : List Int) : Prop := (a = none ∧ len = 0 ∧ cap = 0 ∧ zs = []) ∨
  ∃ x, a = some x ∧ len ≤ cap ∧ cap ≤ maxLen ∧ zs.length = cap ∧ (∀ i, i < zs.length → w.cell? (x.add i) = some (.int .u8 (zs.getD i 0))) ∧ ∀ n ∈ zs, (Lit.int .u8 n).wf = true
/- A book is laid into a struct of its own. -/
theorem mk_bk (W : World) (T : TypeId) (c : Bx) : (W.alloc (.cells #[.int .i64 0, .slice none 0 0, .slice none 0 0, .slice none 0 0, .slice none 0 0, .slice none 0 0, .slice none 0 0, .slice none 0 0, .slice none 0 0] T)).there W.heap.size 0 c.cells.toArray.toList.length ∧ Ck ((W.alloc (.cells #[.int .i64 0, .slice none 0 0, .slice none 0 0, .slice none 0 0, .slice none 0 0, .slice none 0 0, .slice none 0 0, .slice none 0 0, .slice none 0 0] T)).setCells W.heap.size 0 c.cells.toArray.toList) W.heap.size c.cells ∧ Below W.heap.size W ((W.alloc (.cells #[.int .i64 0, .slice none 0 0, .slice none 0 0, .slice none 0 0, .slice none 0 0, .slice none 0 0, .slice none 0 0, .slice none 0 0, .slice none 0 0] T)).setCells W.heap.size 0 c.cells.toArray.toList) := by
  have hz : Ck (W.alloc (.cells #[.int .i64 0, .slice none 0 0, .slice none 0 0, .slice none 0 0, .slice none 0 0, .slice none 0 0, .slice none 0 0, .slice none 0 0, .slice none 0 0] T)) W.heap.size [.int .i64 0, .slice none 0 0, .slice none 0 0, .slice none 0 0, .slice none 0 0, .slice none 0 0, .slice none 0 0, .slice none 0 0, .slice none 0 0] := ck_lit #[.int .i64 0, .slice none 0 0, .slice none 0 0, .slice none 0 0, .slice none 0 0, .slice none 0 0, .slice none 0 0, .slice none 0 0, .slice none 0 0] (heap1_0 W _)
  exact ⟨there9 hz, (put9s hz _ _ _ _ _ _ _ _ _).1, below_setCells (below1 W _) (Nat.le_refl _) _ _⟩
theorem laid {w W : World} {rs : List (Nat × List Value)} {bs : List Bx} (h : St w rs bs W) (d : Bx) (T : TypeId) : St w ((W.heap.size, d.cells) :: rs) bs ((W.alloc (.cells #[.int .i64 0, .slice none 0 0, .slice none 0 0, .slice none 0 0, .slice none 0 0, .slice none 0 0, .slice none 0 0, .slice none 0 0, .slice none 0 0] T)).setCells W.heap.size 0 d.cells.toArray.toList) := by
  obtain ⟨m1, m2, m3⟩ := mk_bk W T d
  have g := h.later m3
  exact ⟨fun p hp => by
    rcases List.mem_cons.1 hp with rfl | hp
    · exact ⟨m2.range, m2.lt⟩
    · exact g.r p hp, g.a, g.b⟩
/- A book and a call, in two structs. -/
theorem laid2 {w W : World} {bs : List Bx} (h : St w [] bs W) (d : Bx) (o : Ox) (T U : TypeId) :
    ((W.alloc (.cells #[.int .i64 0, .slice none 0 0, .slice none 0 0, .slice none 0 0, .slice none 0 0, .slice none 0 0, .slice none 0 0, .slice none 0 0, .slice none 0 0] T)).alloc (.cells #[.int .i64 0, .int .i64 0, .int .i64 0, .int .i64 0] U)).there W.heap.size 0 d.cells.toArray.toList.length ∧
    (((W.alloc (.cells #[.int .i64 0, .slice none 0 0, .slice none 0 0, .slice none 0 0, .slice none 0 0, .slice none 0 0, .slice none 0 0, .slice none 0 0, .slice none 0 0] T)).alloc (.cells #[.int .i64 0, .int .i64 0, .int .i64 0, .int .i64 0] U)).setCells W.heap.size 0 d.cells.toArray.toList).there (W.heap.size + 1) 0 o.cells.toArray.toList.length ∧
    Ck ((((W.alloc (.cells #[.int .i64 0, .slice none 0 0, .slice none 0 0, .slice none 0 0, .slice none 0 0, .slice none 0 0, .slice none 0 0, .slice none 0 0, .slice none 0 0] T)).alloc (.cells #[.int .i64 0, .int .i64 0, .int .i64 0, .int .i64 0] U)).setCells W.heap.size 0 d.cells.toArray.toList).setCells (W.heap.size + 1) 0 o.cells.toArray.toList) (W.heap.size + 1) o.cells ∧
    ((((W.alloc (.cells #[.int .i64 0, .slice none 0 0, .slice none 0 0, .slice none 0 0, .slice none 0 0, .slice none 0 0, .slice none 0 0, .slice none 0 0, .slice none 0 0] T)).alloc (.cells #[.int .i64 0, .int .i64 0, .int .i64 0, .int .i64 0] U)).setCells W.heap.size 0 d.cells.toArray.toList).setCells (W.heap.size + 1) 0 o.cells.toArray.toList).rangeAt W.heap.size 0 d.cells ∧
    Below W.heap.size W ((((W.alloc (.cells #[.int .i64 0, .slice none 0 0, .slice none 0 0, .slice none 0 0, .slice none 0 0, .slice none 0 0, .slice none 0 0, .slice none 0 0, .slice none 0 0] T)).alloc (.cells #[.int .i64 0, .int .i64 0, .int .i64 0, .int .i64 0] U)).setCells W.heap.size 0 d.cells.toArray.toList).setCells (W.heap.size + 1) 0 o.cells.toArray.toList) := by
  have hz : Ck ((W.alloc (.cells #[.int .i64 0, .slice none 0 0, .slice none 0 0, .slice none 0 0, .slice none 0 0, .slice none 0 0, .slice none 0 0, .slice none 0 0, .slice none 0 0] T)).alloc (.cells #[.int .i64 0, .int .i64 0, .int .i64 0, .int .i64 0] U)) W.heap.size [.int .i64 0, .slice none 0 0, .slice none 0 0, .slice none 0 0, .slice none 0 0, .slice none 0 0, .slice none 0 0, .slice none 0 0, .slice none 0 0] := ck_lit #[.int .i64 0, .slice none 0 0, .slice none 0 0, .slice none 0 0, .slice none 0 0, .slice none 0 0, .slice none 0 0, .slice none 0 0, .slice none 0 0] (heap2_0 W _ _)
  have hu : Ck ((W.alloc (.cells #[.int .i64 0, .slice none 0 0, .slice none 0 0, .slice none 0 0, .slice none 0 0, .slice none 0 0, .slice none 0 0, .slice none 0 0, .slice none 0 0] T)).alloc (.cells #[.int .i64 0, .int .i64 0, .int .i64 0, .int .i64 0] U)) (W.heap.size + 1) [.int .i64 0, .int .i64 0, .int .i64 0, .int .i64 0] := ck_lit #[.int .i64 0, .int .i64 0, .int .i64 0, .int .i64 0] (heap2_1 W _ _)
  have zz : W.heap.size + 2 ≤ ((W.alloc (.cells #[.int .i64 0, .slice none 0 0, .slice none 0 0, .slice none 0 0, .slice none 0 0, .slice none 0 0, .slice none 0 0, .slice none 0 0, .slice none 0 0] T)).alloc (.cells #[.int .i64 0, .int .i64 0, .int .i64 0, .int .i64 0] U)).heap.size := by simp
  have th : ((W.alloc (.cells #[.int .i64 0, .slice none 0 0, .slice none 0 0, .slice none 0 0, .slice none 0 0, .slice none 0 0, .slice none 0 0, .slice none 0 0, .slice none 0 0] T)).alloc (.cells #[.int .i64 0, .int .i64 0, .int .i64 0, .int .i64 0] U)).there W.heap.size 0 d.cells.toArray.toList.length := there9 hz
  obtain ⟨p1, p2⟩ := put9s hz (.int .i64 d.s) (.slice d.p.a d.p.n d.p.c) (.slice d.h0.a d.h0.n d.h0.c) (.slice d.h1.a d.h1.n d.h1.c) (.slice d.h2.a d.h2.n d.h2.c) (.slice d.h3.a d.h3.n d.h3.c) (.slice d.o.a d.o.n d.o.c) (.slice d.i.a d.i.n d.i.c) (.slice d.e.a d.e.n d.e.c)
  have hu1 : Ck (((W.alloc (.cells #[.int .i64 0, .slice none 0 0, .slice none 0 0, .slice none 0 0, .slice none 0 0, .slice none 0 0, .slice none 0 0, .slice none 0 0, .slice none 0 0] T)).alloc (.cells #[.int .i64 0, .int .i64 0, .int .i64 0, .int .i64 0] U)).setCells W.heap.size 0 d.cells.toArray.toList) (W.heap.size + 1) [.int .i64 0, .int .i64 0, .int .i64 0, .int .i64 0] := fun j v hv => by
    have k1 := hu j v hv
    have lt : W.heap.size + 1 < ((W.alloc (.cells #[.int .i64 0, .slice none 0 0, .slice none 0 0, .slice none 0 0, .slice none 0 0, .slice none 0 0, .slice none 0 0, .slice none 0 0, .slice none 0 0] T)).alloc (.cells #[.int .i64 0, .int .i64 0, .int .i64 0, .int .i64 0] U)).heap.size := by omega
    exact ⟨(p2.cell (k := W.heap.size + 1) lt (.inr (by omega))).trans k1.1, (p2.frozen (k := W.heap.size + 1) lt (.inr (by omega))).trans k1.2⟩
  have th4 : (((W.alloc (.cells #[.int .i64 0, .slice none 0 0, .slice none 0 0, .slice none 0 0, .slice none 0 0, .slice none 0 0, .slice none 0 0, .slice none 0 0, .slice none 0 0] T)).alloc (.cells #[.int .i64 0, .int .i64 0, .int .i64 0, .int .i64 0] U)).setCells W.heap.size 0 d.cells.toArray.toList).there (W.heap.size + 1) 0 o.cells.toArray.toList.length := fun j hj => by
    have g := hu1 j _ (List.getElem?_eq_getElem (show j < [.int .i64 0, .int .i64 0, .int .i64 0, .int .i64 0].length from hj))
    rw [Nat.zero_add, g.1]
    exact ⟨rfl, g.2⟩
  refine ⟨th, th4, ?_, World.rangeAt_setCells_apart (World.rangeAt_setCells_same _ _ _ _ th) _ _ _ (.inl (by omega)), below_setCells (below_setCells (below2 W _ _) (Nat.le_refl _) _ _) (Nat.le_add_right _ _) _ _⟩
  have s4 : ∀ {X : World}, Ck X (W.heap.size + 1) [.int .i64 0, .int .i64 0, .int .i64 0, .int .i64 0] → Ck (X.setCells (W.heap.size + 1) 0 o.cells.toArray.toList) (W.heap.size + 1) o.cells := fun {X} hx => by
    have := (((hx.set 0 (.int .i64 o.k)).set 1 (.int .i64 o.s)).set 2 (.int .i64 o.a)).set 3 (.int .i64 o.b)
    simp only [List.set] at this
    simp only [Ox.cells, World.setCells, Nat.zero_add, Nat.reduceAdd]
    exact this
  exact s4 hu1
theorem st_two {w W V : World} {bs : List Bx} {d : Bx} {o : Ox} (h : St w [] bs W) (h1 : Ck V (W.heap.size + 1) o.cells) (h2 : V.rangeAt W.heap.size 0 d.cells) (hb : Below W.heap.size W V) : St w [(W.heap.size + 1, o.cells), (W.heap.size, d.cells)] bs V := by
  have g := h.later hb
  refine ⟨fun p hp => ?_, g.a, g.b⟩
  simp only [List.mem_cons, List.not_mem_nil, or_false] at hp
  rcases hp with rfl | rfl
  · exact ⟨h1.range, h1.lt⟩
  · exact ⟨h2, by have := h1.lt; show W.heap.size < _; omega⟩
/- Its kind is another one now. -/
theorem kind_set {W V : World} {d : Bx} {o : Ox} (k : Int) (h1 : Ck V (W.heap.size + 1) o.cells) (h2 : V.rangeAt W.heap.size 0 d.cells) (hb : Below W.heap.size W V) :
    Ck (V.setCell ⟨W.heap.size + 1, 0, none⟩ (.int .i64 k)) (W.heap.size + 1) (⟨k, o.s, o.a, o.b⟩ : Ox).cells ∧ (V.setCell ⟨W.heap.size + 1, 0, none⟩ (.int .i64 k)).rangeAt W.heap.size 0 d.cells ∧ Below W.heap.size W (V.setCell ⟨W.heap.size + 1, 0, none⟩ (.int .i64 k)) := by
  refine ⟨h1.set 0 _, fun j v hv => ?_, hb.setCell (by show W.heap.size ≤ W.heap.size + 1; omega) _⟩
  rw [World.cell?_setCell_far _ _ _ _ (by show W.heap.size + 1 ≠ W.heap.size; omega)]
  exact h2 j v hv
/- The program's functions of books, of what is within the lists' ends. -/
theorem bdo_t {a : Nat → Addr} (b : Bx) (o : Ox) (w : World) (h : b.At w) (hn : b.total ≤ 1000000000) (hcap : b.o.n ≤ b.o.c) (he : Ea a w) :
    Calls Tryd.prog 11 #[.agg b.cells.toArray, .agg o.cells.toArray] w fun e w' => ∃ c x y, e = .returned (.tuple #[.agg c.cells.toArray, .int .i64 x, .int .i64 y]) ∧ BdQ b.trim o c x y ∧ c.Own w.heap.size w'.heap.size w' ∧ Below w.heap.size w w' := bookdo_any b.trim o w (trim_at h) hn (at_nil (trim_at h)) hcap he
theorem bok_t (b : Bx) (w : World) (h : b.At w) (hn : b.total ≤ 1000000000) (hcap : b.o.n ≤ b.o.c) :
    Calls Tryd.prog 14 #[.agg b.cells.toArray] w fun e w' => Says e (OkP b.trim) ∧ Below w.heap.size w w' := Book.ok_any b.trim w (trim_at h) hn hcap

theorem broom_t (b : Bx) (u : Int) (w : World) (h : b.At w) (hn : b.total ≤ 1000000000) (hx : b.o.n ≤ b.o.c) :
    Calls Tryd.prog 17 #[.agg b.cells.toArray, .int .i64 u] w fun e w' => (∃ r, e = .returned (.int .i64 r) ∧ RoomQ b.trim u r) ∧ Below w.heap.size w w' := room_any b.trim u w (trim_at h) hn hx

theorem bsame_t (x y : Bx) (w : World) (hx : x.At w) (hy : y.At w) (hn : x.total ≤ 1000000000) (hm : y.total ≤ 1000000000) (e : x.trim.m = y.trim.m) :
    Calls Tryd.prog 13 #[.agg x.cells.toArray, .agg y.cells.toArray] w fun e w' => e = .returned (.bool true) ∧ Below w.heap.size w w' :=
  (same_any x y w hx hy hn hm).mono fun _ _ h => ⟨by rw [h.1, sameM_trim e], h.2⟩
/- A book told by another one's numbers, where they are alike. -/
def asS (x y : Sx) : Sx := ⟨x.a, x.n, x.c, y.f⟩
theorem asS_m {x y : Sx} (e : x.trim.m = y.trim.m) : (asS x y).m = y.m := by
  obtain ⟨h1, _⟩ := sx_trim e
  simp only [asS, Sx.m, h1]
theorem asS_at {x y : Sx} {w : World} (e : x.trim.m = y.trim.m) (h : x.At w) : (asS x y).At w := by
  obtain ⟨h1, h2⟩ := sx_trim e
  rcases h with q | ⟨k, o, e, g⟩
  · exact .inl q
  · refine .inr ⟨k, o, e, fun j hj => ?_⟩
    have hj' : j < x.n := hj
    show _ = some (Value.int .i64 (y.f j))
    rw [← h2 j hj']
    exact g j hj'
theorem as_ex {x y : Bx} (e : x.trim.m = y.trim.m) : ∃ x1 : Bx, x1.cells = x.cells ∧ x1.m = y.m ∧ (∀ W, x.At W → x1.At W) ∧ x1.o.n = x.o.n ∧ x1.o.c = x.o.c := by
  obtain ⟨e0, e1, e2, e3, e4, e5, e6, e7, e8⟩ := bx_trim e
  refine ⟨⟨x.s, asS x.p y.p, asS x.h0 y.h0, asS x.h1 y.h1, asS x.h2 y.h2, asS x.h3 y.h3, asS x.o y.o, asS x.i y.i, asS x.e y.e⟩, rfl, ?_, fun W h z hz => ?_, rfl, rfl⟩
  · simp only [Bx.m, asS_m e1, asS_m e2, asS_m e3, asS_m e4, asS_m e5, asS_m e6, asS_m e7, asS_m e8, e0]
  · simp only [Bx.lists, List.mem_cons, List.not_mem_nil, or_false] at hz
    rcases hz with rfl | rfl | rfl | rfl | rfl | rfl | rfl | rfl
    · exact asS_at e1 (h _ (by simp [Bx.lists]))
    · exact asS_at e2 (h _ (by simp [Bx.lists]))
    · exact asS_at e3 (h _ (by simp [Bx.lists]))
    · exact asS_at e4 (h _ (by simp [Bx.lists]))
    · exact asS_at e5 (h _ (by simp [Bx.lists]))
    · exact asS_at e6 (h _ (by simp [Bx.lists]))
    · exact asS_at e7 (h _ (by simp [Bx.lists]))
    · exact asS_at e8 (h _ (by simp [Bx.lists]))
/- Two calls beside each other. -/
theorem met_sb {b x y : Bx} {o : Ox} {c d n m : Int} (h1 : BdQ b o x c n) (h2 : SbQ b o y d m) : x.trim.m = y.trim.m ∧ c = d ∧ n = m := met_all h1 h2
theorem met_do {x y z e : Bx} {o : Ox} {c n d m : Int} (hm : x.trim.m = y.trim.m) (hk : OkP y) (h1 : BdQ x.trim o z c n) (h2 : DoP y.trim o e d m) : z.trim.m = e.trim.m ∧ c = d ∧ n = m :=
  met_all h1 (.inr ⟨(ok_m hm).2 (ok_trim hk), y.trim, hm.symm, h2⟩)
theorem sb_total {b d : Bx} {o : Ox} {x y : Int} (h : SbQ b o d x y) : d.total ≤ 1000 := sbq_total h
theorem okx {x y : Bx} (e : x.trim.m = y.trim.m) (h : OkP y) : OkP x.trim := (ok_m e).2 (ok_trim h)

end Go.Proofs.YtbipolfbkemmpaaDoor.Dra

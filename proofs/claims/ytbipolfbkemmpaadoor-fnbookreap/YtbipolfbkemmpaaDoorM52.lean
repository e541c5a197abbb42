import Derived.Test.YtbipolfbkemmpaaDoorM1
import Derived.Test.YtbipolfbkemmpaaDoorM51
import Derived.Test.YtbipolfbkemmpaaDoorM48

/- What a law rests on while it goes: structs of its own in memory: over no program. -/
namespace Go.Proofs.YtbipolfbkemmpaaDoor.Aid
open Go.ChangeShapes Go.WideShapes Go.ChangeAt Go.RowKit

structure Rw (w0 : World) (rs : List (Nat × List Value)) (w : World) : Prop where
  r : ∀ p ∈ rs, w.rangeAt p.1 0 p.2 ∧ p.1 < w.heap.size
  b : Below w0.heap.size w0 w

theorem Rw.start (w : World) : Rw w [] w := ⟨fun p hp => by simp at hp, Below.refl _ _⟩
theorem Rw.later {w0 w w1 : World} {rs : List (Nat × List Value)} (h : Rw w0 rs w) (hb : Below w.heap.size w w1) : Rw w0 rs w1 :=
  ⟨fun p hp => ⟨range_below hb (h.r p hp).1 (h.r p hp).2, Nat.lt_of_lt_of_le (h.r p hp).2 hb.size⟩, h.b.trans (hb.mono h.b.size)⟩
theorem setCells_size (b : Nat) : ∀ (vs : List Value) (o : Nat) (w : World), (w.setCells b o vs).heap.size = w.heap.size
  | [], _, _ => rfl
  | v :: r, o, w => by rw [World.setCells, setCells_size b r]; simp [World.setCell]
theorem there_new (w : World) (Z : Array Value) (t : TypeId) (n : Nat) (hn : Z.size = n) : (w.alloc (.cells Z t)).there w.heap.size 0 n := by
  subst hn; exact there_lit Z (heap1_0 _ _)
theorem Rw.put {w0 w : World} {rs : List (Nat × List Value)} (h : Rw w0 rs w) (Z C : Array Value) (t : TypeId) (hn : Z.size = C.size) : Rw w0 ((w.heap.size, C.toList) :: rs) ((w.alloc (.cells Z t)).setCells w.heap.size 0 C.toList) := by
  have hl := h.later (below1 w (.cells Z t))
  have ht := there_new w Z t C.toList.length (by rw [hn]; simp)
  have hb := below_setCells (below1 w (.cells Z t)) (Nat.le_refl _) C.toList 0
  have hs := hb.size
  have z : w.heap.size < ((w.alloc (.cells Z t)).setCells w.heap.size 0 C.toList).heap.size := by
    have : ((w.alloc (.cells Z t)).setCells w.heap.size 0 C.toList).heap.size = (w.alloc (.cells Z t)).heap.size := setCells_size _ _ _ _
    rw [this]; simp
  refine ⟨fun p hp => ?_, (h.later hb).b⟩
  rcases List.mem_cons.1 hp with rfl | hp
  · exact ⟨World.rangeAt_setCells_same _ _ _ _ ht, z⟩
  · exact (h.later hb).r p hp

end Go.Proofs.YtbipolfbkemmpaaDoor.Aid
/- A book is drawn, one in six bent, and a slot: the specification's DrawBookOf. -/
namespace Go.Proofs.YtbipolfbkemmpaaDoor.Book
open Go.ChangeShapes Go.WideShapes Go.ChangeAt Go.RowKit
open Aid Lst Draw
set_option maxRecDepth 100000
set_option linter.unusedVariables false

/- A book that was drawn: in new memory; it may be ok or not. -/
def DbQ (w0 : World) (b : Bx) (w' : World) : Prop := b.At w' ∧ b.Wf ∧ b.total ≤ 1001 ∧ b.o.n ≤ b.o.c ∧ Below w0.heap.size w0 w'
theorem BnQ.off {w1 w' : World} {r : Nat} {ra : Option Addr} {rl rc : Nat} {zs : List Int} {P : Int} {b : Bx} (h : b.Hl w1.heap.size w') {i : Nat} (hi : i < w1.heap.size) : ∀ x ∈ b.lists, 0 < x.n → ∀ k o, x.a = some ⟨k, o, none⟩ → k ≠ i := fun x hx hn k o e ek => by
  have g := h.lies (i := k) ⟨x, hx, by have := (h.each x hx).1; omega, o, e⟩
  omega
theorem BnQ.db {w0 w1 w' : World} {r : Nat} {ra : Option Addr} {rl rc : Nat} {zs : List Int} {P : Int} {e : Ending} (h : BnQ w1 r ra rl rc zs P e w') (hb : Below w0.heap.size w0 w1) (hr : w0.heap.size ≤ r) (hlt : w0.heap.size ≤ w1.heap.size) :
    ∃ b : Bx, e = .returned (.agg b.cells.toArray) ∧ DbQ w0 b w' ∧ (∃ p, p ≤ P ∧ Rd w' r ra rl rc zs p) ∧ Save r w1 w' ∧ (∀ i, i < w1.heap.size → ∀ x ∈ b.lists, 0 < x.n → ∀ k o, x.a = some ⟨k, o, none⟩ → k ≠ i) ∧ OB b := by
  obtain ⟨b, rfl, h1, h2, h3, h4, h5, h6⟩ := h
  exact ⟨b, rfl, ⟨h3.at, h1, h2, (h3.each b.o (by simp [Bx.lists])).1, hb.trans (h5.below (by omega) hlt)⟩, h4, h5, fun i hi => BnQ.off (r := r) (ra := ra) (rl := rl) (rc := rc) (zs := zs) (P := P) h3 hi, h6⟩

theorem results_cell_one {P : Program} {fn : Func} {q u : Tmp} {ty : TypeId} (h : fn.results = #[.cell q ty, .tmp u]) (tmps : Array Value) (w : World) (b o : Nat) (cs : List Value) (d : TypeDesc)
    (hp : tmps.getD q undef = .pointer (some ⟨b, o, none⟩)) (hc : w.rangeAt b o cs) (hu : P.underlying ty = some d) (hd : d.isRow = true) (hi : (P.info? ty).map (·.size) = some cs.length) :
    (results fn tmps).run P w = .ok (.tuple #[.agg cs.toArray, tmps.getD u undef]) w := by
  have hp' : tmps[q]?.getD undef = .pointer (some ⟨b, o, none⟩) := by simpa using hp
  simp [results, h, hp', asAddr, run_loadVar_mid w b o ty cs d hc hu hd hi]

set_option maxHeartbeats 8000000 in
theorem dbof_any (a : Option Addr) (len cap : Nat) (zs : List Int) (w : World) (h : Row w a len cap zs) :
    Calls Tryd.prog 19 #[.slice a len cap] w fun e w' => ∃ (b : Bx) (t : Int), e = .returned (.tuple #[.agg b.cells.toArray, .int .i64 t]) ∧ DbQ w b w' := by
  have h1 := h.below (below1 w (.cells z9.toArray 26))
  have T1 := ck_lit z9.toArray (heap1_0 w (.cells z9.toArray 26))
  have B1 := below1 w (.cells z9.toArray 26)
  have z1 : w.heap.size + 1 ≤ (w.alloc (.cells z9.toArray 26)).heap.size := by simp
  simp only [z9] at h1 T1 B1 z1
  have HR1 : Hid (Row _ a len cap zs) := h1
  have HT1 : Hid (Ck _ w.heap.size z9) := T1
  have HB1 : Hid (Below w.heap.size w _) := B1
  clear h1 T1 B1
  go_enter Tryd.func19, Tryd.ntmps19
  go_wp2_with (fail)
  generalize w.alloc (.cells #[.int .i64 0, .slice none 0 0, .slice none 0 0, .slice none 0 0, .slice none 0 0, .slice none 0 0, .slice none 0 0, .slice none 0 0, .slice none 0 0] 26) = W1 at HR1 HT1 HB1 z1 ⊢
  refine (open_any a len cap zs W1 HR1.out).mono ?_
  rintro e w2 ⟨rfl, ⟨n, c, rd⟩, hb⟩
  have rlt := rd.lt
  have HT2 : Hid (Ck w2 w.heap.size z9) := HT1.out.below hb (by omega)
  have HB2 : Hid (Below w.heap.size w w2) := HB1.out.trans (hb.mono (by omega))
  have HD : Hid (Rd w2 W1.heap.size a n c zs 0) := rd
  generalize W1.heap.size = r at HD z1 rlt ⊢
  clear hb rd HT1 HB1 HR1
  go_wp2_with (fail)
  refine (lbent_any r a n c zs 0 w2 HD.out (by omega)).mono ?_
  rintro e w3 bq
  obtain ⟨b, rfl, dq, ⟨p, p1, rd⟩, sv, off, -⟩ := bq.db HB2.out (by omega) (by omega)
  have HNR : Hid (∀ x ∈ b.lists, 0 < x.n → ∀ k o, x.a = some ⟨k, o, none⟩ → k ≠ r) := off r rlt
  have HNW : Hid (∀ x ∈ b.lists, 0 < x.n → ∀ k o, x.a = some ⟨k, o, none⟩ → k ≠ w.heap.size) := off _ (by omega)
  clear off
  have z3 := sv.size
  have T3 := ck_save HT2.out sv (by omega) (by omega)
  have cz : Ck (w3.alloc (.cells z9.toArray 26)) w3.heap.size z9 := ck_lit z9.toArray (heap1_0 w3 _)
  have th : (w3.alloc (.cells z9.toArray 26)).there w3.heap.size 0 9 := there9 cz
  have hB : Below w3.heap.size w3 ((w3.alloc (.cells z9.toArray 26)).setCells w3.heap.size 0 b.cells.toArray.toList) := below_setCells (below1 w3 _) (Nat.le_refl _) _ _
  have rg : ((w3.alloc (.cells z9.toArray 26)).setCells w3.heap.size 0 b.cells.toArray.toList).rangeAt w3.heap.size 0 b.cells := World.rangeAt_setCells_same _ _ _ _ th
  have zz : w3.heap.size + 1 ≤ ((w3.alloc (.cells z9.toArray 26)).setCells w3.heap.size 0 b.cells.toArray.toList).heap.size := by rw [setCells_size]; simp
  simp only [z9] at th hB rg zz
  have HT : Hid (World.there _ w3.heap.size 0 9) := th
  have HR : Hid (World.rangeAt _ w3.heap.size 0 b.cells) := rg
  have HB : Hid (Below w3.heap.size w3 _) := hB
  have HZ : Hid (_ ≤ _) := zz
  have HQ : Hid (DbQ w b w3) := dq
  have HT3 : Hid (Ck w3 w.heap.size z9) := T3
  have HD3 : Hid (Rd w3 r a n c zs p) := rd
  clear th rg hB cz T3 dq rd bq sv HD HT2 HB2 zz
  go_wp2_with (refine wpList_store_mid rfl 26 _ _ rfl w3.heap.size 0 b.cells.toArray rfl rfl HT.out (by kernel_rfl) (cells_one b) ?_; apply Hid.out)
  generalize World.setCells _ _ _ _ = w4 at HR HB HZ ⊢
  have HD4 : Hid (Rd w4 r a n c zs p) := rd_later HD3.out HB.out
  have HT4 : Hid (Ck w4 w.heap.size z9) := HT3.out.below HB.out (by omega)
  have HQ4 : Hid (DbQ w b w4) := by
    obtain ⟨g1, g2, g3, g4, g5⟩ := HQ.out
    exact ⟨g1.later HB.out, g2, g3, g4, g5.trans (HB.out.mono (by omega))⟩
  have z4 := HZ.out
  have hv : r < w3.heap.size := by omega
  generalize w3.heap.size = v at HR hv z3 z4 ⊢
  unfold Hid
  clear HT HB HZ HQ HT3 HD3
  go_wp2_with (fail)
  have HD5 : Hid (Rd w4.drew r a n c zs p) := rd_later HD4.out (below_drew w4)
  have HT5 : Hid (Ck w4.drew w.heap.size z9) := HT4.out.below (below_drew w4) (by have := HD4.out.lt; omega)
  have HQ5 : Hid (DbQ w b w4.drew) := by
    obtain ⟨g1, g2, g3, g4, g5⟩ := HQ4.out
    exact ⟨g1.later (below_drew w4), g2, g3, g4, g5.trans ((below_drew w4).mono (by have := HD4.out.lt; omega))⟩
  have zv : v + 1 ≤ w4.drew.heap.size := by simpa using z4
  refine wp_region_held_drew (S := fun w' => w'.rangeAt v 0 b.cells) (by kernel_rfl) HR.out (fun hS => ?_)
  clear HR HD4 HT4 HQ4 z4
  generalize World.drew w4 = V at HD5 HT5 HQ5 zv hS ⊢
  refine tB 0 (v := .agg b.cells.toArray) (d := some 10) rfl rfl (yieldsIf_load_mid (by rfl) 26 _ rfl v 0 rfl b.cells _ (fun w hw => hw) Tryd.underlying26 rfl (by kernel_rfl)) hS ?_
  try simp only [Act.put, s1, s2, s3]
  refine tI 1 (v := .pointer (some ⟨r, 0, none⟩)) (d := some 11) rfl rfl (fun w' hw => ?_) hS ?_
  · clear hw; go_simp
  try simp only [Act.put, s1, s2, s3]
  refine r1 2 rfl (fun K hK => ?_)
  go_simp
  refine (pick_on r a n c zs p 5 _ HD5.out (by omega)).mono ?_
  rintro e w6 ⟨j, rfl, j0, j1, -, rd, sv⟩
  have j2 := j1 (by omega)
  have HT6 : Hid (Ck w6 w.heap.size z9) := ck_save HT5.out sv (by omega) (by omega)
  have HR6 : Hid (w6.rangeAt v 0 b.cells) := range_save sv hS (by omega) (by omega)
  have HQ6 : Hid (DbQ w b w6) := by
    obtain ⟨g1, g2, g3, g4, g5⟩ := HQ5.out
    refine ⟨fun x hx => ?_, g2, g3, g4, g5.trans (sv.below (by omega) (by omega))⟩
    rcases g1 x hx with g | ⟨k, o, e, g⟩
    · exact .inl g
    · refine .inr ⟨k, o, e, fun i hi => ?_⟩
      have gi := g i hi
      have kr : k ≠ r := fun ekr => HNR.out x hx (by omega) k o e ekr
      rw [sv.cell (q := ⟨k, o + i, none⟩) kr (World.block_lt_of_cell? _ _ gi)]; exact gi
  have z6 := sv.size
  clear HD5 HT5 HQ5 rd sv j1 hS
  go_wp2_with (fail)
  refine hK.out _ _ HR6.out (fun hS => ?_)
  clear hK K
  try simp only [Act.put, s1, s2, s3]
  refine tI 3 (v := .int .i64 (j - 1)) (d := some 13) rfl rfl (fun w' hw => ?_) hS ?_
  · clear hw; go_simp <;> (rw [IntKind.wrap_i64]; omega)
  try simp only [Act.put, s1, s2, s3]
  refine r1 4 rfl (fun K hK => ?_)
  have rg : (w6.setCells w.heap.size 0 b.cells.toArray.toList).rangeAt w.heap.size 0 b.cells := World.rangeAt_setCells_same _ _ _ _ (there9 HT6.out)
  have svr : Save w.heap.size w6 (w6.setCells w.heap.size 0 b.cells.toArray.toList) := save_setCells _ _ _ (Save.refl _ _)
  have dq : DbQ w b (w6.setCells w.heap.size 0 b.cells.toArray.toList) := by
    obtain ⟨g1, g2, g3, g4, g5⟩ := HQ6.out
    refine ⟨fun x hx => ?_, g2, g3, g4, g5.trans (svr.below (Nat.le_refl _) (by omega))⟩
    rcases g1 x hx with g | ⟨k, o, e, g⟩
    · exact .inl g
    · refine .inr ⟨k, o, e, fun i hi => ?_⟩
      have gi := g i hi
      have kr : k ≠ w.heap.size := fun ekr => HNW.out x hx (by omega) k o e ekr
      rw [svr.cell (q := ⟨k, o + i, none⟩) kr (World.block_lt_of_cell? _ _ gi)]; exact gi
  have rv : (w6.setCells w.heap.size 0 b.cells.toArray.toList).rangeAt v 0 b.cells := range_save svr hS (by omega) (by omega)
  have HT : Hid (World.there _ w.heap.size 0 9) := there9 HT6.out
  have HG : Hid (World.rangeAt _ w.heap.size 0 b.cells) := rg
  have HQ : Hid (DbQ w b _) := dq
  refine wp_store_mid 26 _ _ rfl w.heap.size 0 b.cells.toArray rfl rfl HT.out (by kernel_rfl) (cells_one _) ?_
  refine hK.out _ _ rv (fun hS => ?_)
  clear hK K rv rg dq svr HT6 HR6 HQ6 HT
  generalize World.setCells _ _ _ _ = w7 at HG HQ hS ⊢
  try simp only [Act.put, List.setIfInBounds_toArray]
  refine tI 5 (v := .int .i64 (j - 1)) (d := some 3) rfl rfl (fun w' hw => ?_) hS ?_
  · clear hw; go_simp
  try simp only [Act.put]
  refine wpAnyH_done (by kernel_rfl) ?_ _
  clear hS
  go_wp2_with (fail)
  exact bodyPost_ret (results_cell_one rfl _ _ w.heap.size 0 _ _ rfl HG.out Tryd.underlying26 rfl (by kernel_rfl)) rfl ⟨b, ⟨j - 1, rfl⟩, HQ.out⟩

set_option linter.unusedSimpArgs false
theorem results_cells {P : Program} {fn : Func} {q u : Tmp} {ty ty' : TypeId} (h : fn.results = #[.cell q ty, .cell u ty']) (tmps : Array Value) (w : World) (b o b' o' : Nat) (cs cs' : List Value) (d d' : TypeDesc)
    (hp : tmps.getD q undef = .pointer (some ⟨b, o, none⟩)) (hp' : tmps.getD u undef = .pointer (some ⟨b', o', none⟩)) (hc : w.rangeAt b o cs) (hc' : w.rangeAt b' o' cs') (hu : P.underlying ty = some d) (hd : d.isRow = true) (hi : (P.info? ty).map (·.size) = some cs.length)
    (hu' : P.underlying ty' = some d') (hd' : d'.isRow = true) (hi' : (P.info? ty').map (·.size) = some cs'.length) :
    (results fn tmps).run P w = .ok (.tuple #[.agg cs.toArray, .agg cs'.toArray]) w := by
  have e : tmps[q]?.getD undef = .pointer (some ⟨b, o, none⟩) := by simpa using hp
  have e' : tmps[u]?.getD undef = .pointer (some ⟨b', o', none⟩) := by simpa using hp'
  simp [results, h, e, e', asAddr, run_loadVar_mid w b o ty cs d hc hu hd hi, run_loadVar_mid w b' o' ty' cs' d' hc' hu' hd' hi']

set_option maxHeartbeats 8000000 in
theorem dbdo_any (a : Option Addr) (len cap : Nat) (zs : List Int) (w : World) (h : Row w a len cap zs) :
    Calls Tryd.prog 10 #[.slice a len cap] w fun e w' => ∃ (b : Bx) (o : Ox), e = .returned (.tuple #[.agg b.cells.toArray, .agg o.cells.toArray]) ∧ DbQ w b w' := by
  have h1 := h.below (below2 w (.cells z9.toArray 26) (.cells z4.toArray 28))
  have T1 := ck_lit z9.toArray (heap2_0 w (.cells z9.toArray 26) (.cells z4.toArray 28))
  have U1 := ck_lit z4.toArray (heap2_1 w (.cells z9.toArray 26) (.cells z4.toArray 28))
  have B1 := below2 w (.cells z9.toArray 26) (.cells z4.toArray 28)
  have z1 : w.heap.size + 2 ≤ ((w.alloc (.cells z9.toArray 26)).alloc (.cells z4.toArray 28)).heap.size := by simp
  simp only [z9, z4] at h1 T1 U1 B1 z1
  have HR1 : Hid (Row _ a len cap zs) := h1
  have HT1 : Hid (Ck _ w.heap.size z9) := T1
  have HU1 : Hid (Ck _ (w.heap.size + 1) Book.z4) := U1
  have HB1 : Hid (Below w.heap.size w _) := B1
  clear h1 T1 U1 B1
  go_enter Tryd.func10, Tryd.ntmps10
  go_wp2_with (fail)
  generalize (w.alloc (.cells #[.int .i64 0, .slice none 0 0, .slice none 0 0, .slice none 0 0, .slice none 0 0, .slice none 0 0, .slice none 0 0, .slice none 0 0, .slice none 0 0] 26)).alloc (.cells #[.int .i64 0, .int .i64 0, .int .i64 0, .int .i64 0] 28) = W1 at HR1 HT1 HU1 HB1 z1 ⊢
  refine (open_any a len cap zs W1 HR1.out).mono ?_
  rintro e w2 ⟨rfl, ⟨n, c, rd⟩, hb⟩
  have rlt := rd.lt
  have HT2 : Hid (Ck w2 w.heap.size z9) := HT1.out.below hb (by omega)
  have HU2 : Hid (Ck w2 (w.heap.size + 1) Book.z4) := HU1.out.below hb (by omega)
  have HB2 : Hid (Below w.heap.size w w2) := HB1.out.trans (hb.mono (by omega))
  have HD : Hid (Rd w2 W1.heap.size a n c zs 0) := rd
  generalize W1.heap.size = r at HD z1 rlt ⊢
  clear hb rd HT1 HU1 HB1 HR1
  go_wp2_with (fail)
  refine (lbent_any r a n c zs 0 w2 HD.out (by omega)).mono ?_
  rintro e w3 bq
  obtain ⟨b, rfl, dq, ⟨p, p1, rd⟩, sv, off, ob⟩ := bq.db HB2.out (by omega) (by omega)
  have HNR : Hid (∀ x ∈ b.lists, 0 < x.n → ∀ k o, x.a = some ⟨k, o, none⟩ → k ≠ r) := off r rlt
  have HNW : Hid (∀ x ∈ b.lists, 0 < x.n → ∀ k o, x.a = some ⟨k, o, none⟩ → k ≠ w.heap.size) := off _ (by omega)
  have HNU : Hid (∀ x ∈ b.lists, 0 < x.n → ∀ k o, x.a = some ⟨k, o, none⟩ → k ≠ w.heap.size + 1) := off _ (by omega)
  have HOB : Hid (OB b) := ob
  clear off ob
  have z3 := sv.size
  have T3 := ck_save HT2.out sv (by omega) (by omega)
  have U3 := ck_save HU2.out sv (by omega) (by omega)
  have cz : Ck (w3.alloc (.cells z9.toArray 26)) w3.heap.size z9 := ck_lit z9.toArray (heap1_0 w3 _)
  have th : (w3.alloc (.cells z9.toArray 26)).there w3.heap.size 0 9 := there9 cz
  have hB : Below w3.heap.size w3 ((w3.alloc (.cells z9.toArray 26)).setCells w3.heap.size 0 b.cells.toArray.toList) := below_setCells (below1 w3 _) (Nat.le_refl _) _ _
  have rg : ((w3.alloc (.cells z9.toArray 26)).setCells w3.heap.size 0 b.cells.toArray.toList).rangeAt w3.heap.size 0 b.cells := World.rangeAt_setCells_same _ _ _ _ th
  have zz : w3.heap.size + 1 ≤ ((w3.alloc (.cells z9.toArray 26)).setCells w3.heap.size 0 b.cells.toArray.toList).heap.size := by rw [setCells_size]; simp
  simp only [z9] at th hB rg zz
  have HT : Hid (World.there _ w3.heap.size 0 9) := th
  have HR : Hid (World.rangeAt _ w3.heap.size 0 b.cells) := rg
  have HB : Hid (Below w3.heap.size w3 _) := hB
  have HZ : Hid (_ ≤ _) := zz
  have HQ : Hid (DbQ w b w3) := dq
  have HT3 : Hid (Ck w3 w.heap.size z9) := T3
  have HU3 : Hid (Ck w3 (w.heap.size + 1) Book.z4) := U3
  have HD3 : Hid (Rd w3 r a n c zs p) := rd
  clear th rg hB cz T3 U3 dq rd bq sv HD HT2 HU2 HB2 zz
  go_wp2_with (refine wpList_store_mid rfl 26 _ _ rfl w3.heap.size 0 b.cells.toArray rfl rfl HT.out (by kernel_rfl) (cells_one b) ?_; apply Hid.out)
  generalize World.setCells _ _ _ _ = w4 at HR HB HZ ⊢
  have HD4 : Hid (Rd w4 r a n c zs p) := rd_later HD3.out HB.out
  have HT4 : Hid (Ck w4 w.heap.size z9) := HT3.out.below HB.out (by omega)
  have HU4 : Hid (Ck w4 (w.heap.size + 1) Book.z4) := HU3.out.below HB.out (by omega)
  have HQ4 : Hid (DbQ w b w4) := by
    obtain ⟨g1, g2, g3, g4, g5⟩ := HQ.out
    exact ⟨g1.later HB.out, g2, g3, g4, g5.trans (HB.out.mono (by omega))⟩
  have z4 := HZ.out
  have hv : r < w3.heap.size := by omega
  generalize w3.heap.size = v at HR hv z3 z4 ⊢
  unfold Hid
  clear HT HB HZ HQ HT3 HU3 HD3
  go_wp2_with (fail)
  have HD5 : Hid (Rd w4.drew r a n c zs p) := rd_later HD4.out (below_drew w4)
  have HT5 : Hid (Ck w4.drew w.heap.size z9) := HT4.out.below (below_drew w4) (by have := HD4.out.lt; omega)
  have HU5 : Hid (Ck w4.drew (w.heap.size + 1) Book.z4) := HU4.out.below (below_drew w4) (by have := HD4.out.lt; omega)
  have HQ5 : Hid (DbQ w b w4.drew) := by
    obtain ⟨g1, g2, g3, g4, g5⟩ := HQ4.out
    exact ⟨g1.later (below_drew w4), g2, g3, g4, g5.trans ((below_drew w4).mono (by have := HD4.out.lt; omega))⟩
  have zv : v + 1 ≤ w4.drew.heap.size := by simpa using z4
  refine wp_region_held_drew (S := fun w' => w'.rangeAt v 0 b.cells) (by kernel_rfl) HR.out (fun hS => ?_)
  clear HR HD4 HT4 HU4 HQ4 z4
  generalize World.drew w4 = V at HD5 HT5 HU5 HQ5 zv hS ⊢
  refine tB 0 (v := .agg b.cells.toArray) (d := some 10) rfl rfl (yieldsIf_load_mid (by rfl) 26 _ rfl v 0 rfl b.cells _ (fun w hw => hw) Tryd.underlying26 rfl (by kernel_rfl)) hS ?_
  try simp only [Act.put, s1, s2, s3]
  refine tI 1 (v := .pointer (some ⟨r, 0, none⟩)) (d := some 11) rfl rfl (fun w' hw => ?_) hS ?_
  · clear hw; go_simp
  try simp only [Act.put, s1, s2, s3]
  refine tB 2 (v := .agg b.cells.toArray) (d := some 12) rfl rfl (yieldsIf_load_mid (by rfl) 26 _ rfl v 0 rfl b.cells _ (fun w hw => hw) Tryd.underlying26 rfl (by kernel_rfl)) hS ?_
  try simp only [Act.put, s1, s2, s3]
  refine r1 3 rfl (fun K hK => ?_)
  go_simp
  refine (lop_any r a n c zs p b _ HD5.out (by omega) HQ5.out.1 (off_of HQ5.out.1 HNR.out) HOB.out.1 HOB.out.2).mono ?_
  rintro e w6 ⟨op, rfl, ⟨p6, p60, rd⟩, sv⟩
  have HT6 : Hid (Ck w6 w.heap.size z9) := ck_save HT5.out sv (by omega) (by omega)
  have HU6 : Hid (Ck w6 (w.heap.size + 1) Book.z4) := ck_save HU5.out sv (by omega) (by omega)
  have HR6 : Hid (w6.rangeAt v 0 b.cells) := range_save sv hS (by omega) (by omega)
  have key : ∀ {x y : World} {k0 : Nat}, DbQ w b x → Save k0 x y → (∀ z ∈ b.lists, 0 < z.n → ∀ k o, z.a = some ⟨k, o, none⟩ → k ≠ k0) → w.heap.size ≤ k0 → w.heap.size ≤ x.heap.size → DbQ w b y := fun {x y k0} q sv hn h0 h1 => by
    obtain ⟨g1, g2, g3, g4, g5⟩ := q
    refine ⟨fun z hz => ?_, g2, g3, g4, g5.trans (sv.below h0 h1)⟩
    rcases g1 z hz with g | ⟨k, o, e, g⟩
    · exact .inl g
    · refine .inr ⟨k, o, e, fun i hi => ?_⟩
      have gi := g i hi
      have kr : k ≠ k0 := fun ekr => hn z hz (by omega) k o e ekr
      rw [sv.cell (q := ⟨k, o + i, none⟩) kr (World.block_lt_of_cell? _ _ gi)]; exact gi
  have HQ6 : Hid (DbQ w b w6) := key HQ5.out sv HNR.out (by omega) (by omega)
  have z6 := sv.size
  clear HD5 HT5 HU5 HQ5 rd sv hS
  go_wp2_with (fail)
  refine hK.out _ _ HR6.out (fun hS => ?_)
  clear hK K
  try simp only [Act.put, s1, s2, s3]
  refine r1 4 rfl (fun K hK => ?_)
  have rg : (w6.setCells w.heap.size 0 b.cells.toArray.toList).rangeAt w.heap.size 0 b.cells := World.rangeAt_setCells_same _ _ _ _ (there9 HT6.out)
  have svr : Save w.heap.size w6 (w6.setCells w.heap.size 0 b.cells.toArray.toList) := save_setCells _ _ _ (Save.refl _ _)
  have dq : DbQ w b (w6.setCells w.heap.size 0 b.cells.toArray.toList) := key HQ6.out svr HNW.out (Nat.le_refl _) (by omega)
  have rv : (w6.setCells w.heap.size 0 b.cells.toArray.toList).rangeAt v 0 b.cells := range_save svr hS (by omega) (by omega)
  have u7 := ck_save HU6.out svr (by omega) (by omega)
  have z7 := svr.size
  have HT : Hid (World.there _ w.heap.size 0 9) := there9 HT6.out
  have HG : Hid (World.rangeAt _ w.heap.size 0 b.cells) := rg
  have HQ : Hid (DbQ w b _) := dq
  have HU7 : Hid (Ck _ (w.heap.size + 1) Book.z4) := u7
  refine wp_store_mid 26 _ _ rfl w.heap.size 0 b.cells.toArray rfl rfl HT.out (by kernel_rfl) (cells_one _) ?_
  refine hK.out _ _ rv (fun hS => ?_)
  clear hK K rv rg dq svr HT6 HU6 HR6 HQ6 HT u7
  generalize World.setCells _ _ _ _ = w7 at HG HQ HU7 hS z7 ⊢
  try simp only [Act.put, s1, s2, s3]
  refine r1 5 rfl (fun K hK => ?_)
  have th : w7.there (w.heap.size + 1) 0 4 := fun j hj => by
    have g := HU7.out j _ (List.getElem?_eq_getElem (show j < Book.z4.length from hj))
    rw [Nat.zero_add, g.1]
    exact ⟨rfl, g.2⟩
  have rg : (w7.setCells (w.heap.size + 1) 0 op.cells.toArray.toList).rangeAt (w.heap.size + 1) 0 op.cells := World.rangeAt_setCells_same _ _ _ _ th
  have svr : Save (w.heap.size + 1) w7 (w7.setCells (w.heap.size + 1) 0 op.cells.toArray.toList) := save_setCells _ _ _ (Save.refl _ _)
  have dq : DbQ w b (w7.setCells (w.heap.size + 1) 0 op.cells.toArray.toList) := key HQ.out svr HNU.out (by omega) (by omega)
  have rv : (w7.setCells (w.heap.size + 1) 0 op.cells.toArray.toList).rangeAt v 0 b.cells := range_save svr hS (by omega) (by omega)
  have rb : (w7.setCells (w.heap.size + 1) 0 op.cells.toArray.toList).rangeAt w.heap.size 0 b.cells := range_save svr HG.out (by omega) (by omega)
  have HTH : Hid (World.there _ (w.heap.size + 1) 0 4) := th
  have HGO : Hid (World.rangeAt _ (w.heap.size + 1) 0 op.cells) := rg
  have HGB : Hid (World.rangeAt _ w.heap.size 0 b.cells) := rb
  have HQ8 : Hid (DbQ w b _) := dq
  refine wp_store_mid 28 _ _ rfl (w.heap.size + 1) 0 op.cells.toArray rfl rfl HTH.out (by kernel_rfl) (ox_one _) ?_
  refine hK.out _ _ rv (fun hS => ?_)
  clear hK K rv rg dq svr th rb HTH HG HQ HU7 z7
  generalize World.setCells _ _ _ _ = w8 at HGO HGB HQ8 hS ⊢
  try simp only [Act.put, s1, s2, s3]
  refine wpAnyH_done (by kernel_rfl) ?_ _
  clear hS key
  go_wp2_with (fail)
  exact bodyPost_ret (results_cells rfl _ _ w.heap.size 0 (w.heap.size + 1) 0 _ _ _ _ rfl rfl HGB.out HGO.out Tryd.underlying26 rfl (by kernel_rfl) Tryd.underlying28 rfl (by kernel_rfl)) rfl ⟨b, op, rfl, HQ8.out⟩

end Go.Proofs.YtbipolfbkemmpaaDoor.Book

import Derived.Test.YtlhfkackchcncaaHl7
import Derived.Test.YtlhfkackchcncaaCpy2
import Derived.Test.YtlhfkackchcncaaSOpen

/- A book in new memory is one's own, room included: over no program. -/
namespace Go.Proofs.Ytlhfkackchcncaa.Book
open Go.ChangeShapes Go.WideShapes Go.ChangeAt Go.RowKit
open Go.Proofs.Ytlhfkackchcncaa.Aid Go.Proofs.Ytlhfkackchcncaa.Lst
set_option maxRecDepth 100000
set_option linter.unusedVariables false

theorem Bx.Own.hl {b : Bx} {B C : Nat} {w : World} (h : b.Own B C w) (hc : b.Cap w) (hC : C ≤ w.heap.size) : b.Hl B w := by
  refine ⟨fun x hx => ?_, ?_⟩
  · refine ⟨h.caps x hx, ?_⟩
    by_cases h0 : x.n = 0
    · exact .inl ((hc x hx).1 h0)
    · obtain ⟨g, e, hf⟩ := (hc x hx).2 (by omega)
      rcases h.each x hx with q | ⟨k, e', h1, h2, h3⟩
      · exact absurd q h0
      · rw [e] at e'
        cases e'
        exact .inr ⟨g, 0, e, h1, by omega, hf, fun j hj => by rw [Nat.zero_add]; exact (h3 j hj).1⟩
  · have := h.apart
    rw [List.pairwise_iff_getElem] at this ⊢
    intro i j hi hj hlt
    have ci := hc b.lists[i] (List.getElem_mem hi)
    have cj := hc b.lists[j] (List.getElem_mem hj)
    rcases this i j hi hj hlt with q | q | ⟨k, k', e, e', hne⟩
    · exact .inl (ci.1 q)
    · exact .inr (.inl (cj.1 q))
    · refine .inr (.inr fun a o a' o' ea ea' => ?_)
      rw [e] at ea
      rw [e'] at ea'
      cases ea
      cases ea'
      exact hne
theorem Bx.Tight.cap {b : Bx} {B C : Nat} {w : World} (h : b.Tight) (ho : b.Own B C w) : b.Cap w := fun x hx => by
  refine ⟨fun e => by rw [h x hx]; exact e, fun hp => ?_⟩
  rcases ho.each x hx with q | ⟨k, e, _, _, hf⟩
  · omega
  · refine ⟨k, e, fun j hj => ?_⟩
    rw [h x hx] at hj
    have := hf j hj
    rw [Nat.zero_add, this.1]
    exact ⟨rfl, this.2⟩
/- Nothing of it lay there. -/
theorem Bx.Hl.new {b : Bx} {B : Nat} {w : World} (h : b.Hl B w) : ∀ i, b.Lies i → B ≤ i := fun i hi => (h.lies hi).1

/- A book, its lists trimmed: what is behind their ends counts for nothing. -/
def Sx.trim (x : Sx) : Sx := ⟨x.a, x.n, x.c, fun j => if j < x.n then x.f j else 0⟩
def Bx.trim (b : Bx) : Bx := ⟨b.s, b.p.trim, b.h0.trim, b.h1.trim, b.h2.trim, b.h3.trim, b.o.trim, b.i.trim, b.e.trim⟩
theorem trim_cells (b : Bx) : b.trim.cells = b.cells := rfl
theorem trim_lists (b : Bx) : b.trim.lists = b.lists.map Sx.trim := rfl
theorem trim_f (x : Sx) {j : Nat} (h : j < x.n) : x.trim.f j = x.f j := by simp only [Sx.trim]; rw [if_pos h]
theorem trim_hd (b : Bx) (k : Nat) : b.trim.hd k = (b.hd k).trim := by
  unfold Bx.hd
  repeat' split
  all_goals rfl
theorem Sx.Hl.trim {x : Sx} {B : Nat} {w : World} (h : x.Hl B w) : x.trim.Hl B w := by
  obtain ⟨h1, h2 | ⟨k, o, e, g1, g2, g3, g4⟩⟩ := h
  · exact ⟨h1, .inl h2⟩
  · exact ⟨h1, .inr ⟨k, o, e, g1, g2, g3, fun j hj => by rw [trim_f x hj]; exact g4 j hj⟩⟩
theorem Bx.Hl.trim {b : Bx} {B : Nat} {w : World} (h : b.Hl B w) : b.trim.Hl B w := by
  refine ⟨fun x hx => ?_, ?_⟩
  · rw [trim_lists] at hx
    obtain ⟨y, hy, rfl⟩ := List.mem_map.1 hx
    exact (h.each y hy).trim
  · rw [trim_lists, List.pairwise_map]
    exact h.apart
theorem lies_trim {b : Bx} {i : Nat} (h : b.trim.Lies i) : b.Lies i := lies_same (b := b) (c := b.trim) rfl h
theorem cnt_congr {f g : Nat → Int} {a : Int} : ∀ {n : Nat}, (∀ j, j < n → f j = g j) → cnt f a n = cnt g a n
  | 0, _ => rfl
  | n + 1, h => by simp only [cnt]; rw [cnt_congr (fun j hj => h j (by omega)), h n (by omega)]
theorem ok_trim {b : Bx} (h : OkP b) : OkP b.trim := by
  have hok := h
  obtain ⟨⟨hl, hs, hw⟩, hd, hg⟩ := h
  obtain ⟨l1, l2, l3, l4, l5, l6, l7⟩ := id hl
  refine ⟨⟨hl, fun j hj => ?_, fun u hu => ?_⟩, fun k hk => ?_, fun q hq => ?_⟩
  · have hj' : j < b.i.n := hj
    have g := hs j hj'
    unfold InU at g ⊢
    rw [show b.trim.i.f j = b.i.f j from trim_f b.i hj', show b.trim.e.f j = b.e.f j from trim_f b.e (by omega)]
    exact g
  · have hu' : u < b.o.n := hu
    have g := hw u hu'
    unfold OwnU at g ⊢
    rw [show b.trim.o.f u = b.o.f u from trim_f b.o hu']
    refine ⟨g.1, g.2.1, fun hp => ?_⟩
    have := g.2.1
    rw [show b.trim.i.f (b.o.f u - 1).toNat = b.i.f (b.o.f u - 1).toNat from trim_f b.i (by omega)]
    exact g.2.2 hp
  · rw [trim_hd]
    refine ⟨(hd k hk).1, fun j hj => ?_⟩
    have hj' : j < (b.hd k).n := hj
    obtain ⟨g1, g2, g3, g4⟩ := (hd k hk).2 j hj'
    rw [trim_hd, trim_f _ hj']
    refine ⟨g1, g2, ?_, g4⟩
    rw [show b.trim.p.f ((b.hd k).f j / 8).toNat = b.p.f ((b.hd k).f j / 8).toNat from trim_f b.p (by omega)]
    exact g3
  · have hq' : q < b.p.n := hq
    have pg := hg q hq'
    refine page_to (b := b) (c := b.trim) q rfl (trim_f b.p hq') (fun _ _ _ j h1 h2 => trim_f b.p (by omega)) (fun j h1 h2 h3 => ?_) (fun m hm _ u hu => ?_) (fun u hu => trim_f b.o (by omega)) pg
    · have : q + j < b.p.n := by
        rcases pg with ⟨e, _⟩ | ⟨m, m4, e, _⟩ | ⟨e, _⟩ | ⟨_, _, g, _⟩
        · omega
        · omega
        · omega
        · omega
      rw [show b.trim.p.f (q + j) = b.p.f (q + j) from trim_f b.p this]
      exact h3
    · rw [trim_hd]
      exact cnt_congr (fun j hj => trim_f _ hj)
theorem ok_total {b : Bx} (h : OkP b) : b.total ≤ 1000 := by
  obtain ⟨l1, l2, l3, l4, l5, l6, l7⟩ := h.1.1
  have h0 := (h.2.1 0 (by omega)).1
  have h1 := (h.2.1 1 (by omega)).1
  have h2 := (h.2.1 2 (by omega)).1
  have h3 := (h.2.1 3 (by omega)).1
  simp only [Bx.hd] at h0 h1 h2 h3
  simp at h0 h1 h2 h3
  unfold Bx.total
  omega
theorem trim_wf {b : Bx} (h : OkP b) : b.trim.Wf := by
  obtain ⟨⟨hl, hs, hw⟩, hd, hg⟩ := h
  obtain ⟨l1, l2, l3, l4, l5, l6, l7⟩ := id hl
  have tr : ∀ (x : Sx), (∀ j, j < x.n → 0 ≤ x.f j ∧ x.f j ≤ 5000) → ∀ j, -9223372036854775808 ≤ x.trim.f j ∧ x.trim.f j ≤ 9223372036854775807 := fun x hx j => by
    simp only [Sx.trim]
    split
    · rename_i hj; have := hx j hj; omega
    · omega
  have hh : ∀ k, k < 4 → ∀ j, j < (b.hd k).n → 0 ≤ (b.hd k).f j ∧ (b.hd k).f j ≤ 5000 := fun k hk j hj => by
    have g := (hd k hk).2 j hj
    exact ⟨g.1, by have := g.2.1; omega⟩
  unfold Bx.Wf
  rw [trim_lists]
  simp only [Bx.lists, List.map_cons, List.map_nil, List.forall_mem_cons, List.not_mem_nil, false_implies, implies_true, and_true]
  refine ⟨tr _ (fun j hj => ?_), tr _ (hh 0 (by omega)), tr _ (hh 1 (by omega)), tr _ (hh 2 (by omega)), tr _ (hh 3 (by omega)), tr _ (fun j hj => ?_), tr _ (fun j hj => ?_), tr _ (fun j hj => ?_)⟩
  · have pg := hg j hj
    have le := pg.le
    refine ⟨?_, by omega⟩
    rcases pg with ⟨e, _⟩ | ⟨m, m4, e, _⟩ | ⟨e, _⟩ | ⟨e, _⟩ <;> omega
  · have g := hw j hj
    exact ⟨g.1, by have := g.2.1; omega⟩
  · have g := hs j hj
    exact ⟨g.1, by have := g.2.1; omega⟩
  · have g := hs j (by omega)
    exact ⟨g.2.2.1, by have := g.2.2.2.1; omega⟩

end Go.Proofs.Ytlhfkackchcncaa.Book

/- Somebody is cut off, in a book of one's own that is ok, by the specification. -/
namespace Go.Proofs.Ytlhfkackchcncaa.Book
open Go.ChangeShapes Go.WideShapes Go.ChangeAt Go.RowKit
open Go.Proofs.Ytlhfkackchcncaa.Aid Go.Proofs.Ytlhfkackchcncaa.Lst
set_option maxRecDepth 100000
set_option linter.unusedVariables false

theorem Bx.Hl.mono {b : Bx} {B B' : Nat} {w : World} (h : b.Hl B w) (hB : B' ≤ B) : b.Hl B' w := ⟨fun x hx => by
  obtain ⟨h1, h2 | ⟨k, o, e, g1, g2⟩⟩ := h.each x hx
  · exact ⟨h1, .inl h2⟩
  · exact ⟨h1, .inr ⟨k, o, e, by omega, g2⟩⟩, h.apart⟩
def OneQ (b : Bx) (B : Nat) (w : World) (e : Ending) (w' : World) : Prop := ∃ c : Bx, e = .returned (.agg c.cells.toArray) ∧ OkP c ∧ c.Hl B w' ∧ Fr b w w' ∧ ∀ i, c.Lies i → b.Lies i ∨ w.heap.size ≤ i

set_option maxHeartbeats 8000000 in
theorem dcut_any (b : Bx) (t B : Nat) (w : World) (h : b.Hl B w) (hB : B ≤ w.heap.size) (hok : OkP b) (hw : b.Wf) :
    Calls Try.prog 37 #[.agg b.cells.toArray, .int .i64 t] w fun e w' => OneQ b B w e w' := by
  have tot := ok_total hok
  have S := Dn.start h 26
  have HS : Hid (Dn w b B b _) := S
  clear S
  simp only [Bx.cells] at HS ⊢
  have HR : Hid (World.rangeAt _ w.heap.size 0 b.cells) := HS.out.e.range
  go_enter Try.func37, Try.ntmps37
  go_wp2_with (refine wpList_load_mid rfl 26 _ rfl w.heap.size 0 rfl (b).cells _ HR.out Try.underlying26 rfl (by kernel_rfl) ?_)
  refine (sok_any b _ HS.out.h.at (by omega) hw).mono ?_
  rintro e w1 ⟨⟨r, rfl, hr⟩, hb⟩
  have S1 := HS.out.later hb
  clear HS HR hb
  cases r
  · exact absurd hok hr.f
  have HS1 : Hid (Dn w b B b w1) := S1
  have HR : Hid (World.rangeAt _ w.heap.size 0 b.cells) := S1.e.range
  clear hr S1
  go_wp2_with (refine wpList_load_mid rfl 26 _ rfl w.heap.size 0 rfl (b).cells _ HR.out Try.underlying26 rfl (by kernel_rfl) ?_)
  refine (scopy_cap b w1 HS1.out.h.at (by omega) HS1.out.h.at.nil).mono ?_
  rintro e w2 ⟨c, rfl, cm, co, hb, cc⟩
  have z1 := HS1.out.z
  have hh0 : c.Hl w1.heap.size w2 := co.hl cc (Nat.le_refl _)
  have hh : c.Hl B w2 := hh0.mono (by omega)
  have M := HS1.out.call hh (Fr.of hb) (fun i hi => .inr (hh0.new i hi))
  have okc : OkP c := (ok_m cm).2 hok
  have OKC : Hid (OkP c) := okc
  have HM : Hid (w2.there w.heap.size 0 9) := M.there
  have HD : Hid (Dn w b B c _) := M.stores
  have l1 := okc.1.1.1
  have l2 := okc.1.1.2.1
  have l3 := okc.1.1.2.2.1
  have l4 := okc.1.1.2.2.2.1
  clear HR M hh0 hh co cc cm hb okc HS1
  go_wp2_with (refine wpList_store_mid rfl 26 _ _ rfl w.heap.size 0 c.cells.toArray rfl rfl HM.out (by kernel_rfl) (cells_one c) ?_; apply Hid.out)
  generalize World.setCells _ _ _ _ = w3 at HD ⊢
  unfold Hid
  have S := HD.out
  clear HM HD
  obtain ⟨ki, oi, ei, hci⟩ := S.h.at.i.cells (by omega)
  obtain ⟨u0, -, -, -, -, -, -, u7, -⟩ := nine S.e.range
  rw [ei] at u7
  by_cases s1 : (t : Int) < c.s
  · have t1 : (t : Int) < c.i.n := by omega
    have ci := hci t (by omega)
    by_cases v1 : c.i.f t = 1
    · rw [v1] at ci
      obtain ⟨y0, y1, y2⟩ := S.fre (x := c.i) (by simp [Bx.lists]) ei (j := t) (by omega)
      have S2 := S.write (b' := c.seti t 2) 6 c.i rfl ki oi t ei (by omega) 2 rfl rfl (fun i hi => lies_same (b := c) (c := c.seti t 2) rfl hi)
      have OK2 : Hid (OkP (c.seti t 2)) := keep_seti OKC.out t 2 (by omega) (by omega) (fun e0 => by have := (OKC.out.1.2.1 t (by omega)).2.2.2.2 e0; omega) (by omega) (fun e0 => by omega)
      clear S hci ei
      have HA : Hid (Ret w b B (c.seti t 2) _) := S2.anss
      have HT : Hid (World.there _ (w.heap.size + 1) 0 9) := S2.theret
      have HR : Hid (World.rangeAt _ w.heap.size 0 (c.seti t 2).cells) := S2.e.range
      clear S2
      go_wp2_with (first | (refine wpList_load_mid rfl 26 _ rfl w.heap.size 0 rfl (c.seti t 2).cells _ HR.out Try.underlying26 rfl (by kernel_rfl) ?_) | (refine wpList_store_mid rfl 26 _ _ rfl (w.heap.size + 1) 0 (c.seti t 2).cells.toArray rfl rfl HT.out (by kernel_rfl) (cells_one _) ?_))
      exact bodyPost_ret (results_cell_mid rfl _ _ (w.heap.size + 1) 0 _ _ rfl HA.out.c Try.underlying26 rfl (by kernel_rfl)) rfl ⟨c.seti t 2, rfl, OK2.out, HA.out.h, HA.out.f, HA.out.l⟩
    · have v9 : (c.i.f t == 1) = false := by simpa using v1
      clear hci ei
      have HA : Hid (Ret w b B (c) _) := S.anss
      have HT : Hid (World.there _ (w.heap.size + 1) 0 9) := S.theret
      have HR : Hid (World.rangeAt _ w.heap.size 0 (c).cells) := S.e.range
      clear S
      go_wp2_with (first | (refine wpList_load_mid rfl 26 _ rfl w.heap.size 0 rfl (c).cells _ HR.out Try.underlying26 rfl (by kernel_rfl) ?_) | (refine wpList_store_mid rfl 26 _ _ rfl (w.heap.size + 1) 0 (c).cells.toArray rfl rfl HT.out (by kernel_rfl) (cells_one _) ?_))
      exact bodyPost_ret (results_cell_mid rfl _ _ (w.heap.size + 1) 0 _ _ rfl HA.out.c Try.underlying26 rfl (by kernel_rfl)) rfl ⟨c, rfl, OKC.out, HA.out.h, HA.out.f, HA.out.l⟩
  · clear hci ei
    have HA : Hid (Ret w b B (c) _) := S.anss
    have HT : Hid (World.there _ (w.heap.size + 1) 0 9) := S.theret
    have HR : Hid (World.rangeAt _ w.heap.size 0 (c).cells) := S.e.range
    clear S
    go_wp2_with (first | (refine wpList_load_mid rfl 26 _ rfl w.heap.size 0 rfl (c).cells _ HR.out Try.underlying26 rfl (by kernel_rfl) ?_) | (refine wpList_store_mid rfl 26 _ _ rfl (w.heap.size + 1) 0 (c).cells.toArray rfl rfl HT.out (by kernel_rfl) (cells_one _) ?_))
    exact bodyPost_ret (results_cell_mid rfl _ _ (w.heap.size + 1) 0 _ _ rfl HA.out.c Try.underlying26 rfl (by kernel_rfl)) rfl ⟨c, rfl, OKC.out, HA.out.h, HA.out.f, HA.out.l⟩

end Go.Proofs.Ytlhfkackchcncaa.Book

import Derived.Test.YtbipolfbkemmpaaDoorM35
import Derived.Test.YtbipolfbkemmpaaDoorRows
import Derived.WalkKit
import Derived.ProofKit
import Derived.OpenShut
import Derived.Below
import Derived.BigQuiet
import Derived.Deep.QuietTactic

/- Somebody is cut off, in a book of one's own that is ok, by the specification. -/
namespace Go.Proofs.YtbipolfbkemmpaaDoor.Book
open Go.ChangeShapes Go.WideShapes Go.ChangeAt Go.RowKit
open Aid Lst
set_option maxRecDepth 100000
set_option linter.unusedVariables false

theorem Bx.Hl.mono {b : Bx} {B B' : Nat} {w : World} (h : b.Hl B w) (hB : B' ≤ B) : b.Hl B' w := ⟨fun x hx => by
  obtain ⟨h1, h2 | ⟨k, o, e, g1, g2⟩⟩ := h.each x hx
  · exact ⟨h1, .inl h2⟩
  · exact ⟨h1, .inr ⟨k, o, e, by omega, g2⟩⟩, h.apart⟩
def OneQ (b : Bx) (B : Nat) (w : World) (e : Ending) (w' : World) : Prop := ∃ c : Bx, e = .returned (.agg c.cells.toArray) ∧ OkP c ∧ c.Hl B w' ∧ Fr b w w' ∧ ∀ i, c.Lies i → b.Lies i ∨ w.heap.size ≤ i

set_option maxHeartbeats 8000000 in
theorem dcut_any (b : Bx) (t B : Nat) (w : World) (h : b.Hl B w) (hB : B ≤ w.heap.size) (hok : OkP b) (hw : b.Wf) :
    Calls Tryd.prog 23 #[.agg b.cells.toArray, .int .i64 t] w fun e w' => OneQ b B w e w' := by
  have tot := ok_total hok
  have S := Dn.start h 26
  have HS : Hid (Dn w b B b _) := S
  clear S
  simp only [Bx.cells] at HS ⊢
  have HR : Hid (World.rangeAt _ w.heap.size 0 b.cells) := HS.out.e.range
  go_enter Tryd.func23, Tryd.ntmps23
  go_wp2_with (refine wpList_load_mid rfl 26 _ rfl w.heap.size 0 rfl (b).cells _ HR.out Tryd.underlying26 rfl (by kernel_rfl) ?_)
  refine (sok_any b _ HS.out.h.at (by omega) hw).mono ?_
  rintro e w1 ⟨⟨r, rfl, hr⟩, hb⟩
  have S1 := HS.out.later hb
  clear HS HR hb
  cases r
  · exact absurd hok hr.f
  have HS1 : Hid (Dn w b B b w1) := S1
  have HR : Hid (World.rangeAt _ w.heap.size 0 b.cells) := S1.e.range
  clear hr S1
  go_wp2_with (refine wpList_load_mid rfl 26 _ rfl w.heap.size 0 rfl (b).cells _ HR.out Tryd.underlying26 rfl (by kernel_rfl) ?_)
  refine (scopy_cap b w1 HS1.out.h.at (by omega) HS1.out.h.at.nil).mono ?_
  rintro e w2 ⟨c, rfl, cm, co, hb, cc⟩
  have z1 := HS1.out.z
  have hh0 : c.Hl w1.heap.size w2 := co.hl cc (Nat.le_refl _)
  have hh : c.Hl B w2 := hh0.mono (by omega)
  have M := HS1.out.call hh (Fr.of hb) (fun i hi => .inr (hh0.new i hi))
  have okc : OkP c := (ok_m cm).2 hok
  have OKC : Hid (OkP c) := okc
  have HM : Hid (w2.there w.heap.size 0 9) := M.there
  have HD : Hid (Dn w b B c _) := M.stores
  have l1 := okc.1.1.1
  have l2 := okc.1.1.2.1
  have l3 := okc.1.1.2.2.1
  have l4 := okc.1.1.2.2.2.1
  clear HR M hh0 hh co cc cm hb okc HS1
  go_wp2_with (refine wpList_store_mid rfl 26 _ _ rfl w.heap.size 0 c.cells.toArray rfl rfl HM.out (by kernel_rfl) (cells_one c) ?_; apply Hid.out)
  generalize World.setCells _ _ _ _ = w3 at HD ⊢
  unfold Hid
  have S := HD.out
  clear HM HD
  obtain ⟨ki, oi, ei, hci⟩ := S.h.at.i.cells (by omega)
  obtain ⟨u0, -, -, -, -, -, -, u7, -⟩ := nine S.e.range
  rw [ei] at u7
  by_cases s1 : (t : Int) < c.s
  · have t1 : (t : Int) < c.i.n := by omega
    have ci := hci t (by omega)
    by_cases v1 : c.i.f t = 1
    · rw [v1] at ci
      obtain ⟨y0, y1, y2⟩ := S.fre (x := c.i) (by simp [Bx.lists]) ei (j := t) (by omega)
      have S2 := S.write (b' := c.seti t 2) 6 c.i rfl ki oi t ei (by omega) 2 rfl rfl (fun i hi => lies_same (b := c) (c := c.seti t 2) rfl hi)
      have OK2 : Hid (OkP (c.seti t 2)) := keep_seti OKC.out t 2 (by omega) (by omega) (fun e0 => by have := (OKC.out.1.2.1 t (by omega)).2.2.2.2 e0; omega) (by omega) (fun e0 => by omega)
      clear S hci ei
      have HA : Hid (Ret w b B (c.seti t 2) _) := S2.anss
      have HT : Hid (World.there _ (w.heap.size + 1) 0 9) := S2.theret
      have HR : Hid (World.rangeAt _ w.heap.size 0 (c.seti t 2).cells) := S2.e.range
      clear S2
      go_wp2_with (first | (refine wpList_load_mid rfl 26 _ rfl w.heap.size 0 rfl (c.seti t 2).cells _ HR.out Tryd.underlying26 rfl (by kernel_rfl) ?_) | (refine wpList_store_mid rfl 26 _ _ rfl (w.heap.size + 1) 0 (c.seti t 2).cells.toArray rfl rfl HT.out (by kernel_rfl) (cells_one _) ?_))
      exact bodyPost_ret (results_cell_mid rfl _ _ (w.heap.size + 1) 0 _ _ rfl HA.out.c Tryd.underlying26 rfl (by kernel_rfl)) rfl ⟨c.seti t 2, rfl, OK2.out, HA.out.h, HA.out.f, HA.out.l⟩
    · have v9 : (c.i.f t == 1) = false := by simpa using v1
      clear hci ei
      have HA : Hid (Ret w b B (c) _) := S.anss
      have HT : Hid (World.there _ (w.heap.size + 1) 0 9) := S.theret
      have HR : Hid (World.rangeAt _ w.heap.size 0 (c).cells) := S.e.range
      clear S
      go_wp2_with (first | (refine wpList_load_mid rfl 26 _ rfl w.heap.size 0 rfl (c).cells _ HR.out Tryd.underlying26 rfl (by kernel_rfl) ?_) | (refine wpList_store_mid rfl 26 _ _ rfl (w.heap.size + 1) 0 (c).cells.toArray rfl rfl HT.out (by kernel_rfl) (cells_one _) ?_))
      exact bodyPost_ret (results_cell_mid rfl _ _ (w.heap.size + 1) 0 _ _ rfl HA.out.c Tryd.underlying26 rfl (by kernel_rfl)) rfl ⟨c, rfl, OKC.out, HA.out.h, HA.out.f, HA.out.l⟩
  · clear hci ei
    have HA : Hid (Ret w b B (c) _) := S.anss
    have HT : Hid (World.there _ (w.heap.size + 1) 0 9) := S.theret
    have HR : Hid (World.rangeAt _ w.heap.size 0 (c).cells) := S.e.range
    clear S
    go_wp2_with (first | (refine wpList_load_mid rfl 26 _ rfl w.heap.size 0 rfl (c).cells _ HR.out Tryd.underlying26 rfl (by kernel_rfl) ?_) | (refine wpList_store_mid rfl 26 _ _ rfl (w.heap.size + 1) 0 (c).cells.toArray rfl rfl HT.out (by kernel_rfl) (cells_one _) ?_))
    exact bodyPost_ret (results_cell_mid rfl _ _ (w.heap.size + 1) 0 _ _ rfl HA.out.c Tryd.underlying26 rfl (by kernel_rfl)) rfl ⟨c, rfl, OKC.out, HA.out.h, HA.out.f, HA.out.l⟩

end Go.Proofs.YtbipolfbkemmpaaDoor.Book
/- Reading a code: what the drawing functions of the specification leave, whatever the bytes of the code are. Conditions: the code is a slice of bytes that can be read. -/
namespace Go.Proofs.YtbipolfbkemmpaaDoor.Draw
open Go.ChangeShapes Go.WideShapes Go.ChangeAt Go.RowKit

theorem ret_int {k : IntKind} {a b : Int} (h : a = b) : Ending.returned (.int k a) = .returned (.int k b) := by rw [h]

theorem xor_lo (x y : Int) (hx : 0 ≤ x) (hx1 : x < 9223372036854775808) (hy : 0 ≤ y) (hy1 : y < 9223372036854775808) : 0 ≤ bits .xor .i64 x y := by
  obtain ⟨a, rfl⟩ := Int.eq_ofNat_of_zero_le hx
  obtain ⟨b, rfl⟩ := Int.eq_ofNat_of_zero_le hy
  have ha : a < 2 ^ 63 := by omega
  have hb : b < 2 ^ 63 := by omega
  have hc : a ^^^ b < 2 ^ 63 := Nat.xor_lt_two_pow ha hb
  have ha' : a % 2 ^ IntKind.i64.bits = a := Nat.mod_eq_of_lt (Nat.lt_of_lt_of_le ha (by decide))
  have hb' : b % 2 ^ IntKind.i64.bits = b := Nat.mod_eq_of_lt (Nat.lt_of_lt_of_le hb (by decide))
  have e : bits .xor .i64 (a : Int) (b : Int) = IntKind.i64.wrap ((a ^^^ b : Nat) : Int) := by
    simp only [bits, BitVec.ofInt_natCast, BitVec.toNat_xor, BitVec.toNat_ofNat, ha', hb']
  show 0 ≤ bits .xor .i64 (a : Int) (b : Int)
  rw [e, IntKind.wrap_i64]
  omega

/- A reader lies at block r: its bytes are nil, or a row of bytes in another block; its place is p. -/
structure Rd (w : World) (r : Nat) (a : Option Addr) (len cap : Nat) (zs : List Int) (p : Int) : Prop where
  sl : w.cell? ⟨r, 0, none⟩ = some (.slice a len cap)
  pl : w.cell? ⟨r, 1, none⟩ = some (.int .i64 p)
  fz : w.frozen? ⟨r, 1, none⟩ = false
  p0 : 0 ≤ p
  p1 : p ≤ 1000000000000
  l1 : len ≤ 2000
  row : len = 0 ∨ ∃ b off, a = some ⟨b, off, none⟩ ∧ b ≠ r ∧ len ≤ zs.length ∧ (∀ i, i < zs.length → w.cell? ⟨b, off + i, none⟩ = some (.int .u8 (zs.getD i 0))) ∧ ∀ n ∈ zs, (Lit.int .u8 n).wf = true

set_option maxHeartbeats 400000 in
theorem pick_none (r : Nat) (a : Option Addr) (len cap : Nat) (zs : List Int) (p n : Int) (w : World) (h : Rd w r a len cap zs p) (hn : n < 1 ∨ len = 0) :
    Calls Tryd.prog 45 #[.pointer (some ⟨r, 0, none⟩), .int .i64 n] w fun e w' => e = .returned (.int .i64 0) ∧ w' = w.setCell ⟨r, 1, none⟩ (.int .i64 (p + 1)) := by
  obtain ⟨sl, pl, fz, p0, p1, l1, row⟩ := h
  clear row
  by_cases h1 : n < 1
  · go_enter Tryd.func45, Tryd.ntmps45
    go_wp2
    go_ret
    exact ⟨rfl, rfl⟩
  · have h2 : len = 0 := by omega
    subst h2
    go_enter Tryd.func45, Tryd.ntmps45
    go_wp2
    go_ret
    exact ⟨rfl, rfl⟩

set_option maxHeartbeats 400000 in
theorem pick_near (r : Nat) (b off len cap : Nat) (zs : List Int) (p n : Int) (w : World) (h : Rd w r (some ⟨b, off, none⟩) len cap zs p) (hn : 1 ≤ n) (h0 : len ≠ 0) (hb : b ≠ r) (hk : p < len) (z : Int) (hz : w.cell? ⟨b, off + p.toNat, none⟩ = some (.int .u8 z)) (z0 : 0 ≤ z) (z1 : z ≤ 255) :
    Calls Tryd.prog 45 #[.pointer (some ⟨r, 0, none⟩), .int .i64 n] w fun e w' => e = .returned (.int .i64 (z % n)) ∧ w' = w.setCell ⟨r, 1, none⟩ (.int .i64 (p + 1)) := by
  obtain ⟨sl, pl, fz, p0, p1, l1, row⟩ := h
  clear row
  have h2 : ((len : Int) == 0) = false := by simp; omega
  have h3 : ¬ n < 1 := by omega
  go_enter Tryd.func45, Tryd.ntmps45
  go_wp2
  all_goals go_ret
  exact ⟨rfl, rfl⟩

set_option maxHeartbeats 1000000 in
theorem pick_far (r : Nat) (b off len cap : Nat) (zs : List Int) (p n : Int) (w : World) (h : Rd w r (some ⟨b, off, none⟩) len cap zs p) (hn : 1 ≤ n) (h0 : len ≠ 0) (hb : b ≠ r) (hk : (len : Int) ≤ p) (z y : Int)
    (hz : w.cell? ⟨b, off + (p % len).toNat, none⟩ = some (.int .u8 z)) (z0 : 0 ≤ z) (z1 : z ≤ 255) (hy : w.cell? ⟨b, off + ((p * 7 + 3) % len).toNat, none⟩ = some (.int .u8 y)) (y0 : 0 ≤ y) (y1 : y ≤ 255) :
    Calls Tryd.prog 45 #[.pointer (some ⟨r, 0, none⟩), .int .i64 n] w fun e w' => (∃ k : Int, e = .returned (.int .i64 k) ∧ 0 ≤ k ∧ k < n) ∧ ∃ nq, w' = (w.setCell ⟨r, 1, none⟩ (.int .i64 (p + 1))).drewN nq := by
  obtain ⟨sl, pl, fz, p0, p1, l1, row⟩ := h
  clear row
  have h2 : ((len : Int) == 0) = false := by simp; omega
  have h3 : ¬ n < 1 := by omega
  have h4 : ¬ p < (len : Int) := by omega
  have h5 : (0 : Int) < (len : Int) := by omega
  have m1 := Int.emod_nonneg p (b := (len : Int)) (by omega)
  have m2 := Int.emod_lt_of_pos p h5
  have m3 := Int.emod_nonneg (p * 7 + 3) (b := (len : Int)) (by omega)
  have m4 := Int.emod_lt_of_pos (p * 7 + 3) h5
  have d1 : 0 ≤ p / (len : Int) := Int.ediv_nonneg p0 (by omega)
  have d2 : p / (len : Int) ≤ p := Int.ediv_le_self _ p0
  go_enter Tryd.func45, Tryd.ntmps45
  go_wp2
  go_quiet (fail)
  go_wp2
  go_ret
  have hx := xor_lo (z * 131 + y * 1117 + p * 29 + p / (len : Int) * 53) ((z * 131 + y * 1117 + p * 29 + p / (len : Int) * 53) / 64) (by omega) (by omega) (by omega) (by omega)
  exact ⟨⟨_, rfl, Int.tmod_nonneg _ hx, Int.tmod_lt_of_pos _ (by omega)⟩, _, rfl⟩

theorem pick_any (r : Nat) (a : Option Addr) (len cap : Nat) (zs : List Int) (p n : Int) (w : World) (h : Rd w r a len cap zs p) :
    Calls Tryd.prog 45 #[.pointer (some ⟨r, 0, none⟩), .int .i64 n] w fun e w' => (∃ k : Int, e = .returned (.int .i64 k) ∧ 0 ≤ k ∧ (1 ≤ n → k < n) ∧ (n < 1 → k = 0)) ∧ ∃ nq, w' = (w.setCell ⟨r, 1, none⟩ (.int .i64 (p + 1))).drewN nq := by
  by_cases hn : n < 1 ∨ len = 0
  · refine (pick_none r a len cap zs p n w h hn).mono fun e w' ⟨he, hw⟩ => ⟨⟨0, he, by omega, fun h1 => by omega, fun _ => rfl⟩, 0, hw⟩
  · rcases h.row with h0 | ⟨b, off, rfl, hb, hl, hc, hw⟩
    · omega
    · have p0 := h.p0
      have bd : ∀ i, i < zs.length → 0 ≤ zs.getD i 0 ∧ zs.getD i 0 ≤ 255 := fun i _ => by
        have := range_u8 hw i
        simpa using this
      by_cases hk : p < len
      · have hi : p.toNat < zs.length := by omega
        refine (pick_near r b off len cap zs p n w h (by omega) (by omega) hb hk _ (hc _ hi) (bd _ hi).1 (bd _ hi).2).mono fun e w' ⟨he, hw'⟩ => ⟨⟨_, he, Int.emod_nonneg _ (by omega), fun _ => Int.emod_lt_of_pos _ (by omega), fun h1 => by omega⟩, 0, hw'⟩
      · have h5 : (0 : Int) < (len : Int) := by omega
        have m1 := Int.emod_nonneg p (b := (len : Int)) (by omega)
        have m2 := Int.emod_lt_of_pos p h5
        have m3 := Int.emod_nonneg (p * 7 + 3) (b := (len : Int)) (by omega)
        have m4 := Int.emod_lt_of_pos (p * 7 + 3) h5
        have hi : (p % (len : Int)).toNat < zs.length := by omega
        have hj : ((p * 7 + 3) % (len : Int)).toNat < zs.length := by omega
        refine (pick_far r b off len cap zs p n w h (by omega) (by omega) hb (by omega) _ _ (hc _ hi) (bd _ hi).1 (bd _ hi).2 (hc _ hj) (bd _ hj).1 (bd _ hj).2).mono fun e w' ⟨⟨k, he, k0, k1⟩, hw'⟩ => ⟨⟨k, he, k0, fun _ => k1, fun h1 => by omega⟩, hw'⟩

/- What a reader's call leaves: all blocks that were there are as they were, but the reader's own. -/
structure Save (r : Nat) (w w' : World) : Prop where
  os : w'.os = w.os
  tape : w'.tape = w.tape
  output : w'.output = w.output
  size : w.heap.size ≤ w'.heap.size
  block : ∀ k, k ≠ r → k < w.heap.size → w'.heap[k]? = w.heap[k]?

theorem Save.refl (r : Nat) (w : World) : Save r w w := ⟨rfl, rfl, rfl, Nat.le_refl _, fun _ _ _ => rfl⟩
theorem Save.trans {r : Nat} {a b c : World} (h : Save r a b) (k : Save r b c) : Save r a c :=
  ⟨k.os.trans h.os, k.tape.trans h.tape, k.output.trans h.output, Nat.le_trans h.size k.size, fun i hi hs => (k.block i hi (Nat.lt_of_lt_of_le hs h.size)).trans (h.block i hi hs)⟩
theorem Save.below {r B : Nat} {w w' : World} (h : Save r w w') (hr : B ≤ r) (hB : B ≤ w.heap.size) : Below B w w' :=
  ⟨h.os, h.tape, h.output, h.size, fun k hk => h.block k (by omega) (by omega)⟩
theorem Save.cell {r : Nat} {w w' : World} (h : Save r w w') {q : Addr} (hq : q.block ≠ r) (hs : q.block < w.heap.size) : w'.cell? q = w.cell? q := World.cell?_of_block (w := w) (h.block q.block hq hs)
theorem Save.setCell {r : Nat} {a w : World} (h : Save r a w) {q : Addr} (hq : q.block = r) (u : Value) : Save r a (w.setCell q u) :=
  ⟨h.os, h.tape, h.output, by simpa [World.setCell] using h.size, fun k hk hs => (Below.heap_setCell w q u k (by omega)).trans (h.block k hk hs)⟩
theorem Save.alloc {r : Nat} {a w : World} (h : Save r a w) (o : Obj) : Save r a (w.alloc o) :=
  ⟨h.os, h.tape, h.output, Nat.le_trans h.size (by show w.heap.size ≤ (w.heap.push o).size; simp), fun k hk hs => (Below.heap_alloc w o k (Nat.lt_of_lt_of_le hs h.size)).trans (h.block k hk hs)⟩
theorem Save.drewN {r : Nat} {a w : World} (h : Save r a w) (n : Nat) : Save r a (w.drewN n) := ⟨h.os, h.tape, h.output, h.size, h.block⟩
theorem Save.drew {r : Nat} {a w : World} (h : Save r a w) : Save r a w.drew := ⟨h.os, h.tape, h.output, h.size, h.block⟩

theorem Rd.lt {w : World} {r : Nat} {a : Option Addr} {len cap : Nat} {zs : List Int} {p : Int} (h : Rd w r a len cap zs p) : r < w.heap.size := World.block_lt_of_cell? w _ h.sl

/- A reader's place moves on by one. -/
theorem Rd.step {w : World} {r : Nat} {a : Option Addr} {len cap : Nat} {zs : List Int} {p : Int} (h : Rd w r a len cap zs p) (hp : p < 1000000000000) (nq : Nat) :
    Rd ((w.setCell ⟨r, 1, none⟩ (.int .i64 (p + 1))).drewN nq) r a len cap zs (p + 1) := by
  have p0 := h.p0
  refine ⟨?_, ?_, ?_, by omega, by omega, h.l1, ?_⟩
  · have := h.sl
    go_simp
  · have := h.pl
    go_simp
  · have := h.fz
    simp [*]
  · rcases h.row with h0 | ⟨b, off, e, hb, hl, hc, hw⟩
    · exact .inl h0
    · refine .inr ⟨b, off, e, hb, hl, fun i hi => ?_, hw⟩
      have := hc i hi
      clear hc hw
      go_simp

/- A reader is still there in a world in which its own block and those of its bytes are as they were. -/
theorem Rd.carry {w w' : World} {r : Nat} {a : Option Addr} {len cap : Nat} {zs : List Int} {p : Int} (h : Rd w r a len cap zs p) {s : Nat} (hs : Save s w w') (hr : s ≠ r) (hd : ∀ x, a = some x → x.block ≠ s) : Rd w' r a len cap zs p := by
  have hlt := h.lt
  refine ⟨?_, ?_, ?_, h.p0, h.p1, h.l1, ?_⟩
  · rw [hs.cell (q := ⟨r, 0, none⟩) (Ne.symm hr) hlt]; exact h.sl
  · rw [hs.cell (q := ⟨r, 1, none⟩) (Ne.symm hr) hlt]; exact h.pl
  · have := h.fz
    rw [World.frozen?_of_block (w := w) (hs.block r (Ne.symm hr) hlt)]; exact this
  · rcases h.row with h0 | ⟨b, off, e, hb, hl, hc, hw⟩
    · exact .inl h0
    · refine .inr ⟨b, off, e, hb, hl, fun i hi => ?_, hw⟩
      have hci := hc i hi
      rw [hs.cell (q := ⟨b, off + i, none⟩) (hd ⟨b, off, none⟩ e) (World.block_lt_of_cell? w _ hci)]; exact hci

/- The same, with what a later call wants of it. -/
theorem pick_on (r : Nat) (a : Option Addr) (len cap : Nat) (zs : List Int) (p n : Int) (w : World) (h : Rd w r a len cap zs p) (hp : p < 1000000000000) :
    Calls Tryd.prog 45 #[.pointer (some ⟨r, 0, none⟩), .int .i64 n] w fun e w' => ∃ k : Int, e = .returned (.int .i64 k) ∧ 0 ≤ k ∧ (1 ≤ n → k < n) ∧ (n < 1 → k = 0) ∧ Rd w' r a len cap zs (p + 1) ∧ Save r w w' := by
  refine (pick_any r a len cap zs p n w h).mono fun e w' ⟨⟨k, he, k0, k1, k2⟩, nq, hw⟩ => ⟨k, he, k0, k1, k2, ?_, ?_⟩
  · subst hw; exact h.step hp nq
  · subst hw; exact ((Save.refl r w).setCell rfl _).drewN nq

set_option maxHeartbeats 400000 in
theorem num_any (r : Nat) (a : Option Addr) (len cap : Nat) (zs : List Int) (p : Int) (w : World) (h : Rd w r a len cap zs p) (hp : p < 1000000000000)
    (lb m c : Nat) (xs : List Int) (hl : lb ≠ r) (hm : 1 ≤ m) (hm2 : m ≤ 1000) (hx : ∀ i, i < m → w.cell? ⟨lb, i, none⟩ = some (.int .i64 (xs.getD i 0))) :
    Calls Tryd.prog 49 #[.pointer (some ⟨r, 0, none⟩), .slice (some ⟨lb, 0, none⟩) m c] w fun e w' => ∃ k : Nat, k < m ∧ e = .returned (.int .i64 (xs.getD k 0)) ∧ Rd w' r a len cap zs (p + 1) ∧ Save r w w' := by
  go_enter Tryd.func49, Tryd.ntmps49
  go_wp2_with (fail)
  refine (pick_on r a len cap zs p m w h hp).mono ?_
  rintro e w1 ⟨k, rfl, k0, k1, -, hr, hs⟩
  have k1' := k1 (by omega)
  obtain ⟨j, rfl⟩ := Int.eq_ofNat_of_zero_le k0
  have hj : j < m := by omega
  have hc : w1.cell? ⟨lb, j, none⟩ = some (.int .i64 (xs.getD j 0)) := by
    have := hx j hj
    rw [hs.cell (q := ⟨lb, j, none⟩) hl (World.block_lt_of_cell? w _ this)]; exact this
  clear hx k1
  go_wp2_with (fail)
  go_ret
  exact ⟨j, hj, rfl, hr, hs⟩
end Go.Proofs.YtbipolfbkemmpaaDoor.Draw

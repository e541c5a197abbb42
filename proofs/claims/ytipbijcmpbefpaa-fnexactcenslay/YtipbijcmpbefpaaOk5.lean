/- What the specification asks of the lists. -/
import Derived.Test.YtipbijcmpbefpaaOk4
namespace Go.Proofs.Ytipbijcmpbefpaa.Book
open Go.ChangeShapes Go.WideShapes Go.ChangeAt Go.RowKit
open Go.Proofs.Ytipbijcmpbefpaa.Aid Go.Proofs.Ytipbijcmpbefpaa.Lst
set_option maxRecDepth 100000

def BegP (b : Bx) (k : Nat) (u : Int) : Prop := 0 ≤ u ∧ u < b.o.n ∧ b.p.f (u / 8).toNat = k + 1 ∧ u % sz k ≤ 0
def ListP (b : Bx) (k n : Nat) : Prop := ∀ j, j < n → BegP b k ((b.hd k).f j)
def ListsP (b : Bx) (m : Nat) : Prop := ∀ k, k < m → (b.hd k).n ≤ b.o.n ∧ ListP b k (b.hd k).n

theorem ListP.up {b : Bx} {k n : Nat} (h : ListP b k n) (h1 : BegP b k ((b.hd k).f n)) : ListP b k (n + 1) := fun j hj => by
  by_cases e : j = n
  · subst e; exact h1
  · exact h j (by omega)
theorem ListsP.up {b : Bx} {m : Nat} (h : ListsP b m) (h1 : (b.hd m).n ≤ b.o.n) (h2 : ListP b m (b.hd m).n) : ListsP b (m + 1) := fun k hk => by
  by_cases e : k = m
  · subst e; exact ⟨h1, h2⟩
  · exact h k (by omega)

theorem kdM_iff (s : Int) (k : Nat) (hk : k < 4) : kdM s = k ↔ s = k + 1 := by
  simp only [kdM]
  split <;> omega

set_option maxRecDepth 100000 in
set_option maxHeartbeats 8000000 in
theorem lists_any (b : Bx) (w : World) (h : b.At w) (hon : b.o.n ≤ b.p.n * 8) (hon' : b.p.n * 8 ≤ b.o.n) (hpn : b.p.n ≤ 100) (h1 : 1 ≤ b.p.n) (hh : ∀ k, k < 4 → (b.hd k).n ≤ 1000000000) (hf : ∀ k, k < 4 → ∀ j, (b.hd k).f j ≤ 9223372036854775807) :
    Calls Try.prog 40 #[.agg b.cells.toArray] w fun e w' => Says e (ListsP b 4) ∧ Below w.heap.size w w' := by
  have E := Ent.start h 26
  simp only [Bx.cells] at E ⊢
  go_enter Try.func40, Try.ntmps40
  go_wp2_with (fail)
  generalize w.alloc (.cells #[.int .i64 b.s, .slice b.p.a b.p.n b.p.c, .slice b.h0.a b.h0.n b.h0.c, .slice b.h1.a b.h1.n b.h1.c, .slice b.h2.a b.h2.n b.h2.c, .slice b.h3.a b.h3.n b.h3.c, .slice b.o.a b.o.n b.o.c, .slice b.i.a b.i.n b.i.c, .slice b.e.a b.e.n b.e.c] 26) = W at E ⊢
  go_loopw [3] (fun i wr => ∃ k : Nat, k ≤ 4 ∧ i = .int .i64 k ∧ ListsP b k ∧ Ent w b wr) (fun i _ => 4 - (intOf i).toNat)
  case atStart => exact ⟨0, by omega, rfl, fun k h => absurd h (Nat.not_lt_zero _), E⟩
  case round =>
    obtain ⟨k, hk, rfl, hL, F⟩ := hrel
    clear E
    by_cases hlt : (k : Int) < 4
    · have hk4 : k < 4 := by omega
      have hxn := hh k hk4
      have hxf := hf k hk4
      have uh := F.hd k hk4
      obtain ⟨-, -, -, -, -, -, u6, -, -⟩ := nine F.r
      have HL : Hid (ListsP b k) := hL
      clear hL
      by_cases ln : ((b.hd k).n : Int) > b.o.n
      · go_wp2_with (fail)
        go_quiet (fail)
        go_wp2_with (fail)
        go_ret
        exact ⟨Says.no (fun g => by have := (g k hk4).1; omega), (F.drewN nq).b⟩
      · go_wp2_with (fail)
        go_quiet (fail)
        have G := F.drewN nq
        clear uh u6 F
        generalize wr.drewN nq = wr at G ⊢
        go_wp2_with (fail)
        rw [show decide (b.o.n < (b.hd k).n) = false from decide_eq_false (by omega)]
        go_loopw [4] (fun i wr => ∃ j : Nat, j ≤ (b.hd k).n ∧ i = .int .i64 j ∧ ListP b k j ∧ Ent w b wr) (fun i _ => (b.hd k).n - (intOf i).toNat)
        case atStart => exact ⟨0, by omega, rfl, fun j h => absurd h (Nat.not_lt_zero _), G⟩
        case round =>
          obtain ⟨j, hj, rfl, hP, F⟩ := hrel
          clear G
          have uh := F.hd k hk4
          obtain ⟨-, u1, -, -, -, -, u6, -, -⟩ := nine F.r
          by_cases jl : (j : Int) < (b.hd k).n
          · obtain ⟨k1, o1, ex, hx⟩ := (F.a.hd k).cells (by omega)
            obtain ⟨k2, o2, ep, hp⟩ := F.a.p.cells (by omega)
            have c1 := hx j (by omega)
            rw [ex] at uh
            rw [ep] at u1
            have xf := hxf j
            have HP : Hid (ListP b k j) := hP
            clear ex ep hx hP
            generalize hv : (b.hd k).f j = v at c1 xf
            have HV : Hid ((b.hd k).f j = v) := hv
            clear hv
            have bad : ¬ BegP b k v → ¬ ListsP b 4 := fun g q => g (by rw [← HV.out]; exact (q k hk4).2 j (by omega))
            by_cases v0 : v < 0
            · go_wp2_with (fail)
              go_ret
              exact ⟨Says.no (bad (fun g => by have := g.1; omega)), F.b⟩
            by_cases v1 : v ≥ b.o.n
            · go_wp2_with (fail)
              go_ret
              exact ⟨Says.no (bad (fun g => by have := g.2.1; omega)), F.b⟩
            have c2 := hp (v / 8).toNat (by omega)
            have i1 : v / 8 < b.p.n := by omega
            have i2 : 0 ≤ v / 8 := by omega
            clear hp
            generalize hy : b.p.f (v / 8).toNat = y at c2
            have HY : Hid (b.p.f (v / 8).toNat = y) := hy
            have BAD : Hid (¬ BegP b k v → ¬ ListsP b 4) := bad
            clear hy bad
            go_wp2_with (fail)
            refine (kd_any y _).mono ?_
            rintro e w1 ⟨rfl, rfl⟩
            have kI := kdM_iff y k hk4
            generalize kdM y = z at kI ⊢
            by_cases zk : z = k
            · have hyk : Hid (y = k + 1) := kI.1 zk
              rw [zk]
              clear zk kI
              go_wp2_with (fail)
              refine (size_any k (by omega) hlt _).mono ?_
              rintro e w2 ⟨rfl, hb⟩
              obtain ⟨z1, z2⟩ := sz_pos k
              generalize hd : sz k = d at z1 z2 ⊢
              have HD : Hid (sz k = d) := hd
              have G := F.later hb
              clear hd hb F c1 c2 u1 u6 uh
              by_cases r : 0 < v % d
              · go_wp2_with (fail)
                go_ret
                exact ⟨Says.no (BAD.out (fun g => by have := g.2.2.2; rw [HD.out] at this; omega)), G.b⟩
              · go_wp2_with (fail)
                go_roundw
                case rel => exact ⟨j + 1, by omega, by go_num, HP.out.up (by rw [HV.out]; exact ⟨by omega, by omega, by rw [HY.out]; exact hyk.out, by rw [HD.out]; omega⟩), G⟩
                case measure => simp [intOf]; omega
            · have hyk : ¬ y = k + 1 := fun e => zk (kI.2 e)
              clear kI
              go_wp2_with (fail)
              go_ret
              exact ⟨Says.no (BAD.out (fun g => by have := g.2.2.1; rw [HY.out] at this; exact hyk this)), F.b⟩
          · go_wp2_with (fail)
            go_roundw
            case rel => exact ⟨k + 1, by omega, by go_num, HL.out.up (by omega) (by
              have e : j = (b.hd k).n := by omega
              rw [← e]; exact hP), F⟩
            case measure => simp [intOf]; omega
    · obtain rfl : k = 4 := by omega
      have HL : Hid (ListsP b 4) := hL
      clear hL
      go_wp2_with (fail)
      go_ret
      exact ⟨Says.yes HL.out, F.b⟩

end Go.Proofs.Ytipbijcmpbefpaa.Book

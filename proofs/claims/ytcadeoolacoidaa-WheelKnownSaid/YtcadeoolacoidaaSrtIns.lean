/-
  The library's insertion sort over octets: the row is sorted between a and b. Condition: at most a million elements.
-/
import Derived.Test.YtcadeoolacoidaaSrtLess
namespace Go.Proofs.Ytcadeoolacoidaa.Srt
open Go.RowKit Go.Proofs.Ytcadeoolacoidaa.Base Go.Proofs.Ytcadeoolacoidaa.Mem
open Go.Sort (swp size_swp insInner insOuter)
theorem outer_go (a b i : Nat) (d : Array Nat) (h : i < b) : insOuter lt8 a b i d = insOuter lt8 a b (i + 1) (insInner lt8 a i d) := by rw [insOuter, if_pos h]
theorem outer_stop (a b i : Nat) (d : Array Nat) (h : ¬ i < b) : insOuter lt8 a b i d = d := by rw [insOuter, if_neg h]
theorem inner_go (a j : Nat) (d : Array Nat) (h : a ≤ j) (hl : lt8 d[j + 1]! d[j]! = true) : insInner lt8 a (j + 1) d = insInner lt8 a j (swp d (j + 1) j) := by
  rw [insInner, if_pos (by rw [hl, Bool.and_true, decide_eq_true_eq]; omega)]
theorem inner_less (a j : Nat) (d : Array Nat) (hl : lt8 d[j + 1]! d[j]! = false) : insInner lt8 a (j + 1) d = d := by rw [insInner, hl, Bool.and_false]; rfl
theorem inner_stop (a j : Nat) (d : Array Nat) (h : j ≤ a) : insInner lt8 a j d = d := by
  cases j with
  | zero => rfl
  | succ j => rw [insInner, if_neg (by simp; omega)]
/-- How far the outer loop is, and the inner one. -/
structure Io (w0 : World) (blk e : Nat) (rest : Array Value) (n : Nat) (a b : Nat) (d : Array Nat) (i : Nat) (dk : Array Nat) (W : World) : Prop where
  row : Sx w0 blk e rest n dk W
  eq : insOuter lt8 a b i dk = Sort.insertionSort lt8 d a b
  gt : a < i
structure Ii (w0 : World) (blk e : Nat) (rest : Array Value) (n : Nat) (a b : Nat) (d : Array Nat) (i j : Nat) (dk : Array Nat) (W : World) : Prop where
  row : Sx w0 blk e rest n dk W
  eq : insOuter lt8 a b (i + 1) (insInner lt8 a j dk) = Sort.insertionSort lt8 d a b
  ge : a ≤ j
  le : j ≤ i
  gt : a < i
set_option maxHeartbeats 4000000 in
set_option maxRecDepth 200000 in
theorem fins (w0 : World) (blk e : Nat) (rest : Array Value) (n cap a b : Nat) (d : Array Nat) (w : World) (hn : n ≤ 1000000) (S : Hid (Sx w0 blk e rest n d w)) (hab : a ≤ b) (hb : b ≤ n) :
    Calls Try.prog 28 #[.slice (some ⟨blk, 0, none⟩) n cap, .int .i64 (a : Int), .int .i64 (b : Int)] w fun r w' =>
      r = .returned (.tuple #[]) ∧ Sx w0 blk e rest n (Sort.insertionSort lt8 d a b) w' := by
  have I0 : Hid (Io w0 blk e rest n a b d (a + 1) d w) := ⟨S.out, rfl, Nat.lt_succ_self a⟩
  clear S
  go_enter Try.func28, Try.ntmps28
  go_wp2
  go_loopg [6] (b - a) (fun g p wr => ∃ (i : Nat) (dk : Array Nat), p = .int .i64 (i : Int) ∧ i ≤ b + 1 ∧ b + 1 - i ≤ g + 1 ∧ Hid (Io w0 blk e rest n a b d i dk wr))
  case atStart => exact ⟨a + 1, d, by first | rfl | go_num | (congr 1; omega), by omega, by omega, I0⟩
  case round =>
    clear I0
    obtain ⟨i, dk, rfl, hib, hg, I1⟩ := hrel
    by_cases hlt : i < b
    · have hltz : decide ((i : Int) < (b : Int)) = true := decide_eq_true (by omega)
      have hltn : (i : Int) < (b : Int) := by omega
      have J0 : Hid (Ii w0 blk e rest n a b d i i dk wr) := ⟨I1.out.row, by rw [← outer_go _ _ _ _ hlt]; exact I1.out.eq, Nat.le_of_lt I1.out.gt, Nat.le_refl _, I1.out.gt⟩
      clear I1
      go_wp2
      go_loopg [7] i (fun g2 p wr2 => ∃ (j : Nat) (dj : Array Nat), p = .int .i64 (j : Int) ∧ j ≤ g2 ∧ Hid (Ii w0 blk e rest n a b d i j dj wr2))
      case atStart => exact ⟨i, dk, rfl, Nat.le_refl _, J0⟩
      case round =>
        clear J0
        obtain ⟨j, dj, rfl, hg2, J1⟩ := hrel
        by_cases hja : a < j
        · obtain ⟨k, rfl⟩ : ∃ q, j = q + 1 := ⟨j - 1, by omega⟩
          have hk : k + 1 < n := by have := J1.out.le; omega
          have hgt : decide ((a : Int) < (k : Int) + 1) = true := decide_eq_true (by omega)
          have hgz : (a : Int) < (k : Int) + 1 := by omega
          have k0 : (0 : Int) ≤ (k : Int) + 1 := by omega
          have k1 : (k : Int) + 1 < (n : Int) := by omega
          have k2 : (k : Int) < (n : Int) := by omega
          have k3 : ((k : Int) + 1).toNat = k + 1 := by omega
          obtain ⟨x, hx⟩ : ∃ x, x = dj[k + 1]! := ⟨_, rfl⟩
          obtain ⟨y, hy⟩ : ∃ y, y = dj[k]! := ⟨_, rfl⟩
          have c1 : wr.cell? ⟨blk, k + 1, none⟩ = some (num x) := by rw [hx]; exact J1.out.row.cell hk
          have c2 : wr.cell? ⟨blk, k, none⟩ = some (num y) := by rw [hy]; exact J1.out.row.cell (by omega)
          have hX : Hid (x = dj[k + 1]!) := hx
          have hY : Hid (y = dj[k]!) := hy
          clear hx hy
          have cc := fun m => fless x y (wr.drewN m)
          go_wp2_with fail
          go_quiet ((go_at_call 34; exact Calls.quiet_of_same (cc _)))
          have R2 : Hid (Sx w0 blk e rest n dj (wr.drewN nq)) := J1.out.row.drewN nq
          clear c1 c2 cc
          generalize wr.drewN nq = w2 at R2 ⊢
          by_cases hxy : x < y
          · have hd : decide (x < y) = true := decide_eq_true hxy
            have c1 : w2.cell? ⟨blk, k + 1, none⟩ = some (num x) := by rw [hX.out]; exact R2.out.cell hk
            have c2 : w2.cell? ⟨blk, k, none⟩ = some (num y) := by rw [hY.out]; exact R2.out.cell (by omega)
            have f1 := R2.out.free (k + 1)
            have f2 := R2.out.free k
            obtain ⟨u, c3⟩ := R2.out.cell2 (k + 1) y (j := k) hk (by omega)
            have R3 : Hid (Sx w0 blk e rest n (swp dj (k + 1) k) ((w2.setCell ⟨blk, k + 1, none⟩ (num y)).setCell ⟨blk, k, none⟩ (num x)).drew) := (R2.out.swap hk (by omega) hY.out hX.out).drew
            have hl : lt8 dj[k + 1]! dj[k]! = true := by rw [← hX.out, ← hY.out]; exact hd
            have J2 : Hid (Ii w0 blk e rest n a b d i k (swp dj (k + 1) k) ((w2.setCell ⟨blk, k + 1, none⟩ (num y)).setCell ⟨blk, k, none⟩ (num x)).drew) :=
              ⟨R3.out, by rw [← inner_go a k dj (by omega) hl]; exact J1.out.eq, by omega, by have := J1.out.le; omega, J1.out.gt⟩
            clear R2 hX hY hl J1 R3
            go_wp2_with fail
            go_big_region
            clear c1 c2 c3 f1 f2
            generalize ((w2.setCell ⟨blk, k + 1, none⟩ (num y)).setCell ⟨blk, k, none⟩ (num x)).drew = w3 at J2 ⊢
            go_wp2
            go_roundg k
            case measure => omega
            case rel => exact ⟨k, swp dj (k + 1) k, by first | rfl | go_num, Nat.le_refl _, J2⟩
          · have hd : decide (x < y) = false := decide_eq_false hxy
            have hl : lt8 dj[k + 1]! dj[k]! = false := by rw [← hX.out, ← hY.out]; exact hd
            have I2 : Hid (Io w0 blk e rest n a b d (i + 1) dj w2) := ⟨R2.out, by have := J1.out.eq; rw [inner_less _ _ _ hl] at this; exact this, Nat.lt_succ_of_lt J1.out.gt⟩
            clear R2 hX hY hl J1
            go_wp2
            go_roundg (b - (i + 1))
            case measure => omega
            case rel => exact ⟨i + 1, dj, by first | rfl | go_num | (congr 1; omega), by omega, by omega, I2⟩
        · have hgt : decide ((a : Int) < (j : Int)) = false := decide_eq_false (by omega)
          have hgz : ¬ (a : Int) < (j : Int) := by omega
          go_wp2_with fail
          go_quiet (fail)
          have I2 : Hid (Io w0 blk e rest n a b d (i + 1) dj (wr.drewN nq)) := ⟨J1.out.row.drewN nq, by have := J1.out.eq; rw [inner_stop _ _ _ (by omega)] at this; exact this, Nat.lt_succ_of_lt J1.out.gt⟩
          clear J1
          generalize wr.drewN nq = w2 at I2 ⊢
          go_wp2
          go_roundg (b - (i + 1))
          case measure => omega
          case rel => exact ⟨i + 1, dj, by first | rfl | go_num | (congr 1; omega), by omega, by omega, I2⟩
    · have hltz : decide ((i : Int) < (b : Int)) = false := decide_eq_false (by omega)
      have hltn : ¬ (i : Int) < (b : Int) := by omega
      go_wp2
      go_end0
      refine ⟨rfl, ?_⟩
      have := I1.out.eq
      rw [outer_stop _ _ _ _ hlt] at this
      rw [← this]
      exact I1.out.row
end Go.Proofs.Ytcadeoolacoidaa.Srt

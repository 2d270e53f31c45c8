/-
  The library's reversing of a row's part, over octets: it permutes it. Condition: at most a million elements.
-/
import Derived.Test.YtcadeoolacoidaaSrtMem
namespace Go.Proofs.Ytcadeoolacoidaa.Srt
open Go.RowKit Go.Proofs.Ytcadeoolacoidaa.Base Go.Proofs.Ytcadeoolacoidaa.Mem
open Go.Sort (PermIn swp size_swp swp_permIn permIn_refl permIn_trans)
structure Rv (w0 : World) (blk e : Nat) (rest : Array Value) (n a b : Nat) (d dk : Array Nat) (W : World) : Prop where
  row : Sx w0 blk e rest n dk W
  perm : PermIn a b d dk
set_option maxHeartbeats 4000000 in
set_option maxRecDepth 200000 in
theorem frev (w0 : World) (blk e : Nat) (rest : Array Value) (n cap a b : Nat) (d : Array Nat) (w : World) (hn : n ≤ 1000000) (S : Hid (Sx w0 blk e rest n d w)) (hab : a < b) (hb : b ≤ n) :
    Calls Try.prog 32 #[.slice (some ⟨blk, 0, none⟩) n cap, .int .i64 (a : Int), .int .i64 (b : Int)] w fun r w' =>
      r = .returned (.tuple #[]) ∧ ∃ dk, Sx w0 blk e rest n dk w' ∧ PermIn a b d dk := by
  have I0 : Hid (Rv w0 blk e rest n a b d d w) := ⟨S.out, permIn_refl _ _ _⟩
  have HS : Hid (d.size = n) := S.out.size
  clear S
  obtain ⟨b1, rfl⟩ : ∃ b1, b = b1 + 1 := ⟨b - 1, by omega⟩
  have v0 := wrap_nat b1 (by omega)
  go_enter Try.func32, Try.ntmps32
  go_wp2
  go_loopg [6, 7] (b1 - a) (fun g s t wr => ∃ (i j : Nat) (dk : Array Nat), s = .int .i64 (i : Int) ∧ t = .int .i64 (j : Int) ∧ a ≤ i ∧ a ≤ j ∧ j ≤ b1 ∧ j - i ≤ g ∧ Hid (Rv w0 blk e rest n a (b1 + 1) d dk wr))
  case atStart => exact ⟨a, b1, d, by first | rfl | go_num, by first | rfl | go_num | (congr 1; omega), Nat.le_refl _, by omega, Nat.le_refl _, Nat.le_refl _, I0⟩
  case round =>
    clear I0
    obtain ⟨i, j, dk, rfl, rfl, hai, haj, hjb, hg, I1⟩ := hrel
    by_cases hij : i < j
    · have t1 : decide (i < j) = true := decide_eq_true hij
      obtain ⟨k, rfl⟩ : ∃ k, j = k + 1 := ⟨j - 1, by omega⟩
      have z1 : (i : Int) < (n : Int) := by omega
      have z2 : ((k + 1 : Nat) : Int) < (n : Int) := by omega
      have z3 : (k : Int) + 1 < (n : Int) := by omega
      have R1 : Hid (Sx w0 blk e rest n dk wr) := I1.out.row
      have HP : Hid (PermIn a (b1 + 1) d dk) := I1.out.perm
      clear I1
      obtain ⟨x, hx⟩ : ∃ x, x = dk[i]! := ⟨_, rfl⟩
      obtain ⟨y, hy⟩ : ∃ y, y = dk[k + 1]! := ⟨_, rfl⟩
      have c1 : wr.cell? ⟨blk, i, none⟩ = some (num x) := by rw [hx]; exact R1.out.cell (by omega)
      have c2 : wr.cell? ⟨blk, k + 1, none⟩ = some (num y) := by rw [hy]; exact R1.out.cell (by omega)
      have f1 := R1.out.free (i)
      have f2 := R1.out.free (k + 1)
      obtain ⟨u, c3⟩ := R1.out.cell2 (i) y (j := k + 1) (by omega) (by omega)
      have R3 : Hid (Sx w0 blk e rest n (swp dk (i) (k + 1)) ((wr.setCell ⟨blk, i, none⟩ (num y)).setCell ⟨blk, k + 1, none⟩ (num x)).drew) := (R1.out.swap (by omega) (by omega) hy hx).drew
      clear hx hy R1
      go_wp2_with fail
      go_big_region
      clear c1 c2 c3 f1 f2
      generalize ((wr.setCell ⟨blk, i, none⟩ (num y)).setCell ⟨blk, k + 1, none⟩ (num x)).drew = w3 at R3 ⊢

      have HZ : Hid (b1 + 1 ≤ dk.size) := by have := HP.out.1; have := HS.out; show b1 + 1 ≤ dk.size; omega
      have I2 : Hid (Rv w0 blk e rest n a (b1 + 1) d (swp dk i (k + 1)) w3) := ⟨R3.out, permIn_trans _ _ _ _ _ HP.out (swp_permIn dk a (b1 + 1) i (k + 1) hai (by omega) (by omega) (by omega) HZ.out)⟩
      clear R3 HP HZ
      have vk := wrap_nat k (by omega)
      go_wp2
      go_roundg (k - (i + 1))
      case measure => omega
      case rel => exact ⟨i + 1, k, swp dk i (k + 1), by first | rfl | go_num | (congr 1; omega), by first | rfl | go_num | (congr 1; omega), by omega, by omega, by omega, Nat.le_refl _, I2⟩
    · have t1 : decide (i < j) = false := decide_eq_false hij
      go_wp2
      go_end0
      exact ⟨rfl, dk, I1.out.row, I1.out.perm⟩
end Go.Proofs.Ytcadeoolacoidaa.Srt

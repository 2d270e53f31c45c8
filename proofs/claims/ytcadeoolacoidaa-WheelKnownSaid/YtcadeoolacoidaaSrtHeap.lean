/-
  The library's heapSort over octets. Conditions: at most a million elements, at least one between a and b.
-/
import Derived.Test.YtcadeoolacoidaaSrtSift
namespace Go.Proofs.Ytcadeoolacoidaa.Srt
open Go.RowKit Go.Proofs.Ytcadeoolacoidaa.Base Go.Proofs.Ytcadeoolacoidaa.Mem
open Go.Sort (swp size_swp siftDown heapBuild heapPop heapSort)
structure Hb (w0 : World) (blk e : Nat) (rest : Array Value) (n : Nat) (h first : Nat) (B : Array Nat) (k : Nat) (dk : Array Nat) (W : World) : Prop where
  row : Sx w0 blk e rest n dk W
  eq : heapBuild lt8 h first k dk = B
structure Hp (w0 : World) (blk e : Nat) (rest : Array Value) (n : Nat) (first : Nat) (B : Array Nat) (k : Nat) (dk : Array Nat) (W : World) : Prop where
  row : Sx w0 blk e rest n dk W
  eq : heapPop lt8 first k dk = B
/-- The counter of a loop that counts down to -1: k rounds are left. -/
def Dn (k : Nat) (p : Value) : Prop := (k = 0 ∧ p = .int .i64 (-1)) ∨ ∃ j : Nat, k = j + 1 ∧ p = .int .i64 (j : Int)
theorem dn_pred (k : Nat) : Dn k (.int .i64 ((k : Int) - 1)) := by
  rcases k with _ | j
  · exact Or.inl ⟨rfl, rfl⟩
  · exact Or.inr ⟨j, rfl, by congr 1; omega⟩
set_option maxHeartbeats 4000000 in
set_option maxRecDepth 200000 in
theorem fheap (w0 : World) (blk e : Nat) (rest : Array Value) (n cap a b : Nat) (d : Array Nat) (w : World) (hn : n ≤ 1000000) (S : Hid (Sx w0 blk e rest n d w)) (hab : a < b) (hb : b ≤ n) :
    Calls Try.prog 29 #[.slice (some ⟨blk, 0, none⟩) n cap, .int .i64 (a : Int), .int .i64 (b : Int)] w fun r w' =>
      r = .returned (.tuple #[]) ∧ Sx w0 blk e rest n (heapSort lt8 d a b) w' := by
  obtain ⟨h, hh⟩ : ∃ h, h = b - a := ⟨_, rfl⟩
  obtain ⟨h1, hh1⟩ : ∃ h1, h1 = h - 1 := ⟨_, rfl⟩
  obtain ⟨m, hm⟩ : ∃ m, m = h1 / 2 := ⟨_, rfl⟩
  have q1 : (b : Int) - (a : Int) = (h : Int) := by omega
  have q2 : (h : Int) - 1 = (h1 : Int) := by omega
  have q3 : Int.tdiv (h1 : Int) 2 = (m : Int) := by rw [Int.tdiv_eq_ediv_of_nonneg (by omega)]; omega
  have q4 : (h1 : Int) / 2 = (m : Int) := by omega
  have v0 := wrap_nat h (by omega)
  have v1 := wrap_nat h1 (by omega)
  have v2 := wrap_nat m (by omega)
  have hE : heapSort lt8 d a b = heapPop lt8 a h (heapBuild lt8 h a (m + 1) d) := by rw [hm, hh1, hh]; rfl
  rw [hE]
  clear hE
  have b1 : a + h ≤ n := by omega
  have b2 : m + 1 ≤ h + 1 := by omega
  have b3 : h = h1 + 1 := by omega
  have HB := Lib.hid b3
  clear hm hh1 hh b3
  obtain ⟨B, hB⟩ : ∃ B, B = heapBuild lt8 h a (m + 1) d := ⟨_, rfl⟩
  rw [← hB]
  have I0 : Hid (Hb w0 blk e rest n h a B (m + 1) d w) := ⟨S.out, hB.symm⟩
  clear S hB
  go_enter Try.func29, Try.ntmps29
  go_wp2
  go_loopg [9] (m + 1) (fun g p wr => ∃ (k : Nat) (dk : Array Nat), Dn k p ∧ k ≤ m + 1 ∧ k ≤ g ∧ Hid (Hb w0 blk e rest n h a B k dk wr))
  case atStart => exact ⟨m + 1, d, Or.inr ⟨m, rfl, rfl⟩, Nat.le_refl _, Nat.le_refl _, I0⟩
  case round =>
    clear I0
    obtain ⟨k, dk, hD, hkm, hg, I1⟩ := hrel
    rcases hD with ⟨rfl, rfl⟩ | ⟨j, rfl, rfl⟩
    · have J0 : Hid (Hp w0 blk e rest n a (heapPop lt8 a h B) h B wr) := by
        refine ⟨?_, rfl⟩
        have := I1.out.eq
        rw [← this]
        exact I1.out.row
      clear I1
      go_wp2
      go_loopg [10] h (fun g p wr => ∃ (k : Nat) (dk : Array Nat), Dn k p ∧ k ≤ h ∧ k ≤ g ∧ Hid (Hp w0 blk e rest n a (heapPop lt8 a h B) k dk wr))
      case atStart => exact ⟨h, B, Or.inr ⟨h1, HB.out, rfl⟩, Nat.le_refl _, Nat.le_refl _, J0⟩
      case round =>
        clear J0
        obtain ⟨k, dk, hD, hkm, hg, I1⟩ := hrel
        rcases hD with ⟨rfl, rfl⟩ | ⟨j, rfl, rfl⟩
        · go_wp2
          go_end0
          refine ⟨rfl, ?_⟩
          have := I1.out.eq
          rw [← this]
          exact I1.out.row
        · obtain ⟨fk, hfk⟩ : ∃ x, x = a + j := ⟨_, rfl⟩
          have qf : (a : Int) + (j : Int) = (fk : Int) := by omega
          have v5 := wrap_nat fk (by omega)
          have l1 : fk < n := by omega
          have l2 : a < n := by omega
          have z1 : (fk : Int) < (n : Int) := by omega
          have z2 : (a : Int) < (n : Int) := by omega
          have R1 : Hid (Sx w0 blk e rest n dk wr) := I1.out.row
          have E1 : Hid (heapPop lt8 a j (siftDown lt8 j a 0 (swp dk a fk)) = heapPop lt8 a h B) := by
            show _ = _
            rw [hfk]
            exact I1.out.eq
          clear I1 hfk
          obtain ⟨x, hx⟩ : ∃ x, x = dk[a]! := ⟨_, rfl⟩
          obtain ⟨y, hy⟩ : ∃ y, y = dk[fk]! := ⟨_, rfl⟩
          have c1 : wr.cell? ⟨blk, a, none⟩ = some (num x) := by rw [hx]; exact R1.out.cell (by omega)
          have c2 : wr.cell? ⟨blk, fk, none⟩ = some (num y) := by rw [hy]; exact R1.out.cell (by omega)
          have f1 := R1.out.free (a)
          have f2 := R1.out.free (fk)
          obtain ⟨u, c3⟩ := R1.out.cell2 (a) y (j := fk) (by omega) (by omega)
          have R3 : Hid (Sx w0 blk e rest n (swp dk (a) (fk)) ((wr.setCell ⟨blk, a, none⟩ (num y)).setCell ⟨blk, fk, none⟩ (num x)).drew) := (R1.out.swap (by omega) (by omega) hy hx).drew
          clear hx hy R1
          go_wp2_with fail
          go_big_region
          clear c1 c2 c3 f1 f2
          generalize ((wr.setCell ⟨blk, a, none⟩ (num y)).setCell ⟨blk, fk, none⟩ (num x)).drew = w3 at R3 ⊢
          have cs : Calls Try.prog 39 #[.slice (some ⟨blk, 0, none⟩) n cap, .int .i64 0, .int .i64 (j : Int), .int .i64 (a : Int)] w3 fun r w' =>
              r = .returned (.tuple #[]) ∧ Sx w0 blk e rest n (siftDown lt8 j a 0 (swp dk a fk)) w' := fsift w0 blk e rest n cap 0 j a _ w3 hn R3 (by omega) (by omega)
          clear R3
          go_wp2_with fail
          refine cs.mono ?_
          rintro _ w4 ⟨rfl, hS⟩
          have J2 : Hid (Hp w0 blk e rest n a (heapPop lt8 a h B) j (siftDown lt8 j a 0 (swp dk a fk)) w4) := ⟨hS, E1.out⟩
          clear cs hS E1
          go_wp2
          go_roundg j
          case measure => omega
          case rel => exact ⟨j, _, dn_pred j, by omega, Nat.le_refl _, J2⟩
    · have cs : Calls Try.prog 39 #[.slice (some ⟨blk, 0, none⟩) n cap, .int .i64 (j : Int), .int .i64 (h : Int), .int .i64 (a : Int)] wr fun r w' =>
          r = .returned (.tuple #[]) ∧ Sx w0 blk e rest n (siftDown lt8 h a j dk) w' := fsift w0 blk e rest n cap j h a _ wr hn I1.out.row (by omega) (by omega)
      go_wp2_with fail
      refine cs.mono ?_
      rintro _ w4 ⟨rfl, hS⟩
      have J2 : Hid (Hb w0 blk e rest n h a B j (siftDown lt8 h a j dk) w4) := ⟨hS, I1.out.eq⟩
      clear cs hS I1
      go_wp2
      go_roundg j
      case measure => omega
      case rel => exact ⟨j, _, dn_pred j, by omega, Nat.le_refl _, J2⟩
end Go.Proofs.Ytcadeoolacoidaa.Srt

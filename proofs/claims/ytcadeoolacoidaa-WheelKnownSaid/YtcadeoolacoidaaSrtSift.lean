/-
  The library's siftDown and heapSort over octets. Condition: at most a million elements.
-/
import Derived.Test.YtcadeoolacoidaaSrtLess
namespace Go.Proofs.Ytcadeoolacoidaa.Srt
open Go.RowKit Go.Proofs.Ytcadeoolacoidaa.Base Go.Proofs.Ytcadeoolacoidaa.Mem
open Go.Sort (swp size_swp siftDown heapBuild heapPop heapSort)
theorem sift_stop (hi first r : Nat) (d : Array Nat) (h : ¬ 2 * r + 1 < hi) : siftDown lt8 hi first r d = d := by rw [siftDown, dif_pos (by omega)]
theorem sift_go (hi first r c : Nat) (d : Array Nat) (h : 2 * r + 1 < hi) (hc : (2 * r + 2 < hi ∧ lt8 d[first + (2 * r + 1)]! d[first + (2 * r + 1) + 1]! = true ∧ c = 2 * r + 2) ∨ ((2 * r + 2 < hi → lt8 d[first + (2 * r + 1)]! d[first + (2 * r + 1) + 1]! = false) ∧ c = 2 * r + 1)) :
    siftDown lt8 hi first r d = if !lt8 d[first + r]! d[first + c]! then d else siftDown lt8 hi first c (swp d (first + r) (first + c)) := by
  rw [siftDown, dif_neg (by omega)]
  rcases hc with ⟨h1, h2, rfl⟩ | ⟨h1, rfl⟩
  · rw [if_pos (by rw [h2, Bool.and_true, decide_eq_true_eq]; omega)]
    by_cases hl : (!lt8 d[first + r]! d[first + (2 * r + 2)]!) = true
    · rw [if_pos hl, if_pos hl]
    · rw [if_neg hl, if_neg hl, dif_pos h1]
  · rw [if_neg]
    simp only [Bool.and_eq_true, decide_eq_true_eq, not_and]
    intro h2
    rw [h1 (by omega)]
    exact Bool.false_ne_true
structure Si (w0 : World) (blk e : Nat) (rest : Array Value) (n : Nat) (hi first root : Nat) (d : Array Nat) (r : Nat) (dk : Array Nat) (W : World) : Prop where
  row : Sx w0 blk e rest n dk W
  eq : siftDown lt8 hi first r dk = siftDown lt8 hi first root d
set_option maxHeartbeats 4000000 in
set_option maxRecDepth 200000 in
theorem fsift (w0 : World) (blk e : Nat) (rest : Array Value) (n cap root hi first : Nat) (d : Array Nat) (w : World) (hn : n ≤ 1000000) (S : Hid (Sx w0 blk e rest n d w)) (hr : root ≤ n) (hf : first + hi ≤ n) :
    Calls Try.prog 39 #[.slice (some ⟨blk, 0, none⟩) n cap, .int .i64 (root : Int), .int .i64 (hi : Int), .int .i64 (first : Int)] w fun r w' =>
      r = .returned (.tuple #[]) ∧ Sx w0 blk e rest n (siftDown lt8 hi first root d) w' := by
  have I0 : Hid (Si w0 blk e rest n hi first root d root d w) := ⟨S.out, rfl⟩
  clear S
  go_enter Try.func39, Try.ntmps39
  go_wp2
  go_loopg [8] (hi - root) (fun g p wr => ∃ (r : Nat) (dk : Array Nat), p = .int .i64 (r : Int) ∧ r ≤ n ∧ hi - r ≤ g ∧ Hid (Si w0 blk e rest n hi first root d r dk wr))
  case atStart => exact ⟨root, d, rfl, hr, Nat.le_refl _, I0⟩
  case round =>
    clear I0
    obtain ⟨r, dk, rfl, hrn, hg, S1⟩ := hrel
    obtain ⟨c1, hc1⟩ : ∃ c, c = 2 * r + 1 := ⟨_, rfl⟩
    have q1 : 2 * (r : Int) + 1 = (c1 : Int) := by omega
    have q0 : (0 : Int) ≤ 2 * (r : Int) := by omega
    have q00 : 2 * (r : Int) ≤ 2000000 := by omega
    have b1 : c1 ≤ 2000001 := by omega
    by_cases h1 : 2 * r + 1 < hi
    · have t1 : decide (hi ≤ c1) = false := decide_eq_false (by omega)
      have t1' : ¬ (hi : Int) ≤ (c1 : Int) := by omega
      obtain ⟨kr, hkr⟩ : ∃ k, k = first + r := ⟨_, rfl⟩
      have qr : (first : Int) + (r : Int) = (kr : Int) := by omega
      obtain ⟨k1, hk1⟩ : ∃ k, k = first + c1 := ⟨_, rfl⟩
      have qk : (first : Int) + (c1 : Int) = (k1 : Int) := by omega
      obtain ⟨c2, hc2⟩ : ∃ c, c = 2 * r + 2 := ⟨_, rfl⟩
      have q2 : (c1 : Int) + 1 = (c2 : Int) := by omega
      have b2 : c2 ≤ 2000002 := by omega
      obtain ⟨k2, hk2⟩ : ∃ k, k = first + c2 := ⟨_, rfl⟩
      have qk2 : (first : Int) + (c2 : Int) = (k2 : Int) := by omega
      have qk3 : (k1 : Int) + 1 = (k2 : Int) := by omega
      have l0 : kr < n := by omega
      have l1 : k1 < n := by omega
      have z0 : (kr : Int) < (n : Int) := by omega
      have z1 : (k1 : Int) < (n : Int) := by omega
      have v0 := wrap_nat kr (by omega)
      have v1 := wrap_nat k1 (by omega)
      have v2 := wrap_nat c2 (by omega)
      have v3 := wrap_nat k2 (by omega)
      have v4 := wrap_nat c1 (by omega)
      by_cases h2 : 2 * r + 2 < hi
      · have t2 : decide (c2 < hi) = true := decide_eq_true (by omega)
        have t2' : (c2 : Int) < (hi : Int) := by omega
        have l2 : k2 < n := by omega
        have z2 : (k2 : Int) < (n : Int) := by omega
        have R1 : Hid (Sx w0 blk e rest n dk wr) := S1.out.row
        have HH1 := Lib.hid hc1
        have HH2 := Lib.hid hc2
        have HK1 := Lib.hid hk1
        have HK2 := Lib.hid hk2
        have HKR := Lib.hid hkr
        clear hc1 hc2 hk1 hk2 hkr
        obtain ⟨x, hx⟩ : ∃ x, x = dk[k1]! := ⟨_, rfl⟩
        obtain ⟨y, hy⟩ : ∃ y, y = dk[k2]! := ⟨_, rfl⟩
        have c1 : wr.cell? ⟨blk, k1, none⟩ = some (num x) := by rw [hx]; exact R1.out.cell (by omega)
        have c2 : wr.cell? ⟨blk, k2, none⟩ = some (num y) := by rw [hy]; exact R1.out.cell (by omega)
        have hX : Hid (x = dk[k1]!) := hx
        have hY : Hid (y = dk[k2]!) := hy
        clear hx hy
        obtain ⟨q, hq⟩ : ∃ q, decide (x < y) = q := ⟨_, rfl⟩
        have cc : ∀ m, Calls Try.prog 34 #[.int .u8 (x : Int), .int .u8 (y : Int)] (wr.drewN m) fun e w' => e = .returned (.bool q) ∧ w' = wr.drewN m := fun m => by rw [← hq]; exact fless x y _
        have HQ : Hid (decide (x < y) = q) := hq
        clear hq
        go_wp2_with fail
        go_quiet ((go_at_call 34; exact Calls.quiet_of_same (cc _)))
        have R2 : Hid (Sx w0 blk e rest n dk (wr.drewN nq)) := R1.out.drewN nq
        clear c1 c2 cc 
        generalize wr.drewN nq = w2 at R2 ⊢
        cases q with
        | true =>
          have hd : lt8 x y = true := HQ.out
          have HE : Hid (siftDown lt8 hi first r dk = if !lt8 dk[kr]! dk[k2]! then dk else siftDown lt8 hi first c2 (swp dk kr k2)) := by
            have e1 := HH1.out; have e2 := HH2.out; have e3 := HK1.out; have e4 := HK2.out; have e5 := HKR.out
            have hl : lt8 dk[first + (2 * r + 1)]! dk[first + (2 * r + 1) + 1]! = true := by
              rw [← e1, ← e3, show k1 + 1 = k2 by omega, ← hX.out, ← hY.out]; exact hd
            rw [e5, e4]
            exact sift_go hi first r c2 dk h1 (Or.inl ⟨h2, hl, e2⟩)
          clear hX hY R1 HQ hd
          have g1 : r < c2 := by have := HH2.out; omega
          have g2 : c2 ≤ n := by have := HH2.out; omega
          clear HH1 HH2 HK1 HK2 HKR
          have hr : Hid (siftDown lt8 hi first r dk = if !lt8 dk[kr]! dk[k2]! then dk else siftDown lt8 hi first c2 (swp dk kr k2)) := HE
          clear HE
          obtain ⟨x, hx⟩ : ∃ x, x = dk[kr]! := ⟨_, rfl⟩
          obtain ⟨y, hy⟩ : ∃ y, y = dk[k2]! := ⟨_, rfl⟩
          have c1 : w2.cell? ⟨blk, kr, none⟩ = some (num x) := by rw [hx]; exact R2.out.cell (by omega)
          have c2 : w2.cell? ⟨blk, k2, none⟩ = some (num y) := by rw [hy]; exact R2.out.cell (by omega)
          have hX : Hid (x = dk[kr]!) := hx
          have hY : Hid (y = dk[k2]!) := hy
          clear hx hy
          obtain ⟨q, hq⟩ : ∃ q, decide (x < y) = q := ⟨_, rfl⟩
          have cc : ∀ m, Calls Try.prog 34 #[.int .u8 (x : Int), .int .u8 (y : Int)] (w2.drewN m) fun e w' => e = .returned (.bool q) ∧ w' = w2.drewN m := fun m => by rw [← hq]; exact fless x y _
          have HQ : Hid (decide (x < y) = q) := hq
          clear hq
          go_wp2_with fail
          go_quiet ((go_at_call 34; exact Calls.quiet_of_same (cc _)))
          have R4 : Hid (Sx w0 blk e rest n dk (w2.drewN nq)) := R2.out.drewN nq
          clear c1 c2 cc R2
          generalize w2.drewN nq = w4 at R4 ⊢
          cases q with
          | true =>
            have hxy : x < y := of_decide_eq_true HQ.out
            have E2 : Hid (siftDown lt8 hi first c2 (swp dk kr k2) = siftDown lt8 hi first root d) := by
              show _ = _
              rw [← S1.out.eq, hr.out, ← hX.out, ← hY.out]
              simp [lt8, hxy]
            clear hX hY hr S1 HQ hxy
            obtain ⟨x2, hx⟩ : ∃ x, x = dk[kr]! := ⟨_, rfl⟩
            obtain ⟨y2, hy⟩ : ∃ y, y = dk[k2]! := ⟨_, rfl⟩
            have c1 : w4.cell? ⟨blk, kr, none⟩ = some (num x2) := by rw [hx]; exact R4.out.cell (by omega)
            have c2 : w4.cell? ⟨blk, k2, none⟩ = some (num y2) := by rw [hy]; exact R4.out.cell (by omega)
            have f1 := R4.out.free (kr)
            have f2 := R4.out.free (k2)
            obtain ⟨u, c3⟩ := R4.out.cell2 (kr) y2 (j := k2) (by omega) (by omega)
            have R5 : Hid (Sx w0 blk e rest n (swp dk kr k2) ((w4.setCell ⟨blk, kr, none⟩ (num y2)).setCell ⟨blk, k2, none⟩ (num x2)).drew) := (R4.out.swap (by omega) (by omega) hy hx).drew
            clear hx hy R4
            go_wp2_with fail
            go_big_region
            clear c1 c2 c3 f1 f2
            generalize ((w4.setCell ⟨blk, kr, none⟩ (num y2)).setCell ⟨blk, k2, none⟩ (num x2)).drew = w5 at R5 ⊢

            go_wp2
            go_roundg (hi - c2)
            case measure => omega
            case rel => exact ⟨c2, swp dk kr k2, by first | rfl | go_num, by omega, Nat.le_refl _, ⟨R5.out, E2.out⟩⟩
          | false =>
            have hxy : ¬ x < y := of_decide_eq_false HQ.out
            have E2 : dk = siftDown lt8 hi first root d := by
              rw [← S1.out.eq, hr.out, ← hX.out, ← hY.out]
              simp [lt8, hxy]
            clear hX hY hr S1 HQ hxy
            have E3 := Lib.hid E2
            clear E2
            go_wp2
            refine bodyPost_ret (results_none rfl _ _ _) rfl ?_
            exact ⟨rfl, by rw [← E3.out]; exact R4.out⟩
        | false =>
          have hd : lt8 x y = false := HQ.out
          have HE : Hid (siftDown lt8 hi first r dk = if !lt8 dk[kr]! dk[k1]! then dk else siftDown lt8 hi first c1 (swp dk kr k1)) := by
            have e1 := HH1.out; have e2 := HH2.out; have e3 := HK1.out; have e4 := HK2.out; have e5 := HKR.out
            have hl : lt8 dk[first + (2 * r + 1)]! dk[first + (2 * r + 1) + 1]! = false := by
              rw [← e1, ← e3, show k1 + 1 = k2 by omega, ← hX.out, ← hY.out]; exact hd
            rw [e5, e3]
            exact sift_go hi first r c1 dk h1 (Or.inr ⟨fun _ => hl, e1⟩)
          clear hX hY R1 HQ hd
          have g1 : r < c1 := by have := HH1.out; omega
          have g2 : c1 ≤ n := by have := HH1.out; omega
          clear HH1 HH2 HK1 HK2 HKR
          have hr : Hid (siftDown lt8 hi first r dk = if !lt8 dk[kr]! dk[k1]! then dk else siftDown lt8 hi first c1 (swp dk kr k1)) := HE
          clear HE
          obtain ⟨x, hx⟩ : ∃ x, x = dk[kr]! := ⟨_, rfl⟩
          obtain ⟨y, hy⟩ : ∃ y, y = dk[k1]! := ⟨_, rfl⟩
          have c1 : w2.cell? ⟨blk, kr, none⟩ = some (num x) := by rw [hx]; exact R2.out.cell (by omega)
          have c2 : w2.cell? ⟨blk, k1, none⟩ = some (num y) := by rw [hy]; exact R2.out.cell (by omega)
          have hX : Hid (x = dk[kr]!) := hx
          have hY : Hid (y = dk[k1]!) := hy
          clear hx hy
          obtain ⟨q, hq⟩ : ∃ q, decide (x < y) = q := ⟨_, rfl⟩
          have cc : ∀ m, Calls Try.prog 34 #[.int .u8 (x : Int), .int .u8 (y : Int)] (w2.drewN m) fun e w' => e = .returned (.bool q) ∧ w' = w2.drewN m := fun m => by rw [← hq]; exact fless x y _
          have HQ : Hid (decide (x < y) = q) := hq
          clear hq
          go_wp2_with fail
          go_quiet ((go_at_call 34; exact Calls.quiet_of_same (cc _)))
          have R4 : Hid (Sx w0 blk e rest n dk (w2.drewN nq)) := R2.out.drewN nq
          clear c1 c2 cc R2
          generalize w2.drewN nq = w4 at R4 ⊢
          cases q with
          | true =>
            have hxy : x < y := of_decide_eq_true HQ.out
            have E2 : Hid (siftDown lt8 hi first c1 (swp dk kr k1) = siftDown lt8 hi first root d) := by
              show _ = _
              rw [← S1.out.eq, hr.out, ← hX.out, ← hY.out]
              simp [lt8, hxy]
            clear hX hY hr S1 HQ hxy
            obtain ⟨x2, hx⟩ : ∃ x, x = dk[kr]! := ⟨_, rfl⟩
            obtain ⟨y2, hy⟩ : ∃ y, y = dk[k1]! := ⟨_, rfl⟩
            have c1 : w4.cell? ⟨blk, kr, none⟩ = some (num x2) := by rw [hx]; exact R4.out.cell (by omega)
            have c2 : w4.cell? ⟨blk, k1, none⟩ = some (num y2) := by rw [hy]; exact R4.out.cell (by omega)
            have f1 := R4.out.free (kr)
            have f2 := R4.out.free (k1)
            obtain ⟨u, c3⟩ := R4.out.cell2 (kr) y2 (j := k1) (by omega) (by omega)
            have R5 : Hid (Sx w0 blk e rest n (swp dk kr k1) ((w4.setCell ⟨blk, kr, none⟩ (num y2)).setCell ⟨blk, k1, none⟩ (num x2)).drew) := (R4.out.swap (by omega) (by omega) hy hx).drew
            clear hx hy R4
            go_wp2_with fail
            go_big_region
            clear c1 c2 c3 f1 f2
            generalize ((w4.setCell ⟨blk, kr, none⟩ (num y2)).setCell ⟨blk, k1, none⟩ (num x2)).drew = w5 at R5 ⊢

            go_wp2
            go_roundg (hi - c1)
            case measure => omega
            case rel => exact ⟨c1, swp dk kr k1, by first | rfl | go_num, by omega, Nat.le_refl _, ⟨R5.out, E2.out⟩⟩
          | false =>
            have hxy : ¬ x < y := of_decide_eq_false HQ.out
            have E2 : dk = siftDown lt8 hi first root d := by
              rw [← S1.out.eq, hr.out, ← hX.out, ← hY.out]
              simp [lt8, hxy]
            clear hX hY hr S1 HQ hxy
            have E3 := Lib.hid E2
            clear E2
            go_wp2
            refine bodyPost_ret (results_none rfl _ _ _) rfl ?_
            exact ⟨rfl, by rw [← E3.out]; exact R4.out⟩
      · have t2 : decide (c2 < hi) = false := decide_eq_false (by omega)
        have t2' : ¬ (c2 : Int) < (hi : Int) := by omega
        have R1 : Hid (Sx w0 blk e rest n dk wr) := S1.out.row
        have HE : Hid (siftDown lt8 hi first r dk = if !lt8 dk[kr]! dk[k1]! then dk else siftDown lt8 hi first c1 (swp dk kr k1)) := by
          rw [hkr, hk1]
          exact sift_go hi first r c1 dk h1 (Or.inr ⟨fun h => absurd h h2, hc1⟩)
        clear hc2 hk1 hk2 hkr
        have HH1 := Lib.hid hc1
        clear hc1
        go_wp2_with fail
        go_quiet (fail)
        have R2 : Hid (Sx w0 blk e rest n dk (wr.drewN nq)) := R1.out.drewN nq
        generalize wr.drewN nq = w2 at R2 ⊢
        clear R1
        have g1 : r < c1 := by have := HH1.out; omega
        have g2 : c1 ≤ n := by have := HH1.out; omega
        clear HH1
        have hr : Hid (siftDown lt8 hi first r dk = if !lt8 dk[kr]! dk[k1]! then dk else siftDown lt8 hi first c1 (swp dk kr k1)) := HE
        clear HE
        obtain ⟨x, hx⟩ : ∃ x, x = dk[kr]! := ⟨_, rfl⟩
        obtain ⟨y, hy⟩ : ∃ y, y = dk[k1]! := ⟨_, rfl⟩
        have c1 : w2.cell? ⟨blk, kr, none⟩ = some (num x) := by rw [hx]; exact R2.out.cell (by omega)
        have c2 : w2.cell? ⟨blk, k1, none⟩ = some (num y) := by rw [hy]; exact R2.out.cell (by omega)
        have hX : Hid (x = dk[kr]!) := hx
        have hY : Hid (y = dk[k1]!) := hy
        clear hx hy
        obtain ⟨q, hq⟩ : ∃ q, decide (x < y) = q := ⟨_, rfl⟩
        have cc : ∀ m, Calls Try.prog 34 #[.int .u8 (x : Int), .int .u8 (y : Int)] (w2.drewN m) fun e w' => e = .returned (.bool q) ∧ w' = w2.drewN m := fun m => by rw [← hq]; exact fless x y _
        have HQ : Hid (decide (x < y) = q) := hq
        clear hq
        go_wp2_with fail
        go_quiet ((go_at_call 34; exact Calls.quiet_of_same (cc _)))
        have R4 : Hid (Sx w0 blk e rest n dk (w2.drewN nq)) := R2.out.drewN nq
        clear c1 c2 cc R2
        generalize w2.drewN nq = w4 at R4 ⊢
        cases q with
        | true =>
          have hxy : x < y := of_decide_eq_true HQ.out
          have E2 : Hid (siftDown lt8 hi first c1 (swp dk kr k1) = siftDown lt8 hi first root d) := by
            show _ = _
            rw [← S1.out.eq, hr.out, ← hX.out, ← hY.out]
            simp [lt8, hxy]
          clear hX hY hr S1 HQ hxy
          obtain ⟨x2, hx⟩ : ∃ x, x = dk[kr]! := ⟨_, rfl⟩
          obtain ⟨y2, hy⟩ : ∃ y, y = dk[k1]! := ⟨_, rfl⟩
          have c1 : w4.cell? ⟨blk, kr, none⟩ = some (num x2) := by rw [hx]; exact R4.out.cell (by omega)
          have c2 : w4.cell? ⟨blk, k1, none⟩ = some (num y2) := by rw [hy]; exact R4.out.cell (by omega)
          have f1 := R4.out.free (kr)
          have f2 := R4.out.free (k1)
          obtain ⟨u, c3⟩ := R4.out.cell2 (kr) y2 (j := k1) (by omega) (by omega)
          have R5 : Hid (Sx w0 blk e rest n (swp dk kr k1) ((w4.setCell ⟨blk, kr, none⟩ (num y2)).setCell ⟨blk, k1, none⟩ (num x2)).drew) := (R4.out.swap (by omega) (by omega) hy hx).drew
          clear hx hy R4
          go_wp2_with fail
          go_big_region
          clear c1 c2 c3 f1 f2
          generalize ((w4.setCell ⟨blk, kr, none⟩ (num y2)).setCell ⟨blk, k1, none⟩ (num x2)).drew = w5 at R5 ⊢

          go_wp2
          go_roundg (hi - c1)
          case measure => omega
          case rel => exact ⟨c1, swp dk kr k1, by first | rfl | go_num, by omega, Nat.le_refl _, ⟨R5.out, E2.out⟩⟩
        | false =>
          have hxy : ¬ x < y := of_decide_eq_false HQ.out
          have E2 : dk = siftDown lt8 hi first root d := by
            rw [← S1.out.eq, hr.out, ← hX.out, ← hY.out]
            simp [lt8, hxy]
          clear hX hY hr S1 HQ hxy
          have E3 := Lib.hid E2
          clear E2
          go_wp2
          refine bodyPost_ret (results_none rfl _ _ _) rfl ?_
          exact ⟨rfl, by rw [← E3.out]; exact R4.out⟩
    · have t1 : decide (hi ≤ c1) = true := decide_eq_true (by omega)
      have t1' : (hi : Int) ≤ (c1 : Int) := by omega
      clear hc1
      go_wp2
      go_end0
      refine ⟨rfl, ?_⟩
      have := S1.out.eq
      rw [sift_stop _ _ _ _ h1] at this
      rw [← this]
      exact S1.out.row
end Go.Proofs.Ytcadeoolacoidaa.Srt

/-
  The library's partition and partitionEqual over octets. Condition: at most a million elements.
-/
import Derived.Test.YtcadeoolacoidaaSrtLess
import Derived.Test.YtcadeoolacoidaaSrtPlain
import Derived.Deep.DeepCutAuto
namespace Go.Proofs.Ytcadeoolacoidaa.Srt
open Go.RowKit Go.Proofs.Ytcadeoolacoidaa.Base Go.Proofs.Ytcadeoolacoidaa.Mem
open Go.Sort (swp size_swp)
/-- What a test says. -/
structure Tells (q : Bool) (A B : Prop) : Prop where
  yes : q = true → A ∧ B
  no : q = false → A → ¬ B
structure Pt (w0 : World) (blk e : Nat) (rest : Array Value) (n a b : Nat) (d1 : Array Nat) (i j : Nat) (dk : Array Nat) (W : World) : Prop where
  row : Sx w0 blk e rest n dk W
  part : Part (fun x y => lt8 x y = true) (fun x y => lt8 x y = false) a b d1 i j dk
structure Pe (w0 : World) (blk e : Nat) (rest : Array Value) (n a b : Nat) (d1 : Array Nat) (i j : Nat) (dk : Array Nat) (W : World) : Prop where
  row : Sx w0 blk e rest n dk W
  part : Part (fun x y => lt8 y x = false) (fun x y => lt8 y x = true) a b d1 i j dk

set_option maxHeartbeats 8000000 in
set_option maxRecDepth 200000 in
theorem fpart (w0 : World) (blk e : Nat) (rest : Array Value) (n cap a b p : Nat) (d : Array Nat) (w : World) (hn : n ≤ 1000000) (S : Hid (Sx w0 blk e rest n d w)) (hp1 : a ≤ p) (hp2 : p < b) (hb : b ≤ n) :
    Calls Try.prog 36 #[.slice (some ⟨blk, 0, none⟩) n cap, .int .i64 (a : Int), .int .i64 (b : Int), .int .i64 (p : Int)] w fun r w' =>
      ∃ (mid : Nat) (dk : Array Nat) (ap : Bool), r = .returned (.tuple #[.int .i64 (mid : Int), .bool ap]) ∧ Sx w0 blk e rest n dk w' ∧ Parted a b d dk mid := by
  obtain ⟨b1, hb1⟩ : ∃ b1, b1 = b - 1 := ⟨_, rfl⟩
  have q1 : (b : Int) - 1 = (b1 : Int) := by omega
  have H0 : Hid (d.size = n) := S.out.size
  have hb2 : b1 < n := by omega
  have hb3 : a ≤ b1 := by omega
  have v0 := wrap_nat b1 (by omega)
  have z1 : (a : Int) < (n : Int) := by omega
  have z2 : (p : Int) < (n : Int) := by omega
  have l1 : a < n := by omega
  have l2 : p < n := by omega
  have P0 : Hid (Part (fun x y => lt8 x y = true) (fun x y => lt8 x y = false) a b (swp d a p) (a + 1) b1 (swp d a p)) := by rw [hb1]; exact part_start (by omega) (by rw [size_swp]; have := S.out.size; omega)
  clear hb1
  go_enter Try.func36, Try.ntmps36
  obtain ⟨x, hx⟩ : ∃ x, x = d[a]! := ⟨_, rfl⟩
  obtain ⟨y, hy⟩ : ∃ y, y = d[p]! := ⟨_, rfl⟩
  have c1 : w.cell? ⟨blk, a, none⟩ = some (num x) := by rw [hx]; exact S.out.cell (by omega)
  have c2 : w.cell? ⟨blk, p, none⟩ = some (num y) := by rw [hy]; exact S.out.cell (by omega)
  have f1 := S.out.free (a)
  have f2 := S.out.free (p)
  obtain ⟨u, c3⟩ := S.out.cell2 (a) y (j := p) (by omega) (by omega)
  have R1 : Hid (Sx w0 blk e rest n (swp d (a) (p)) ((w.setCell ⟨blk, a, none⟩ (num y)).setCell ⟨blk, p, none⟩ (num x)).drew) := (S.out.swap (by omega) (by omega) hy hx).drew
  clear hx hy S
  go_wp2_with fail
  go_big_region
  clear c1 c2 c3 f1 f2
  generalize ((w.setCell ⟨blk, a, none⟩ (num y)).setCell ⟨blk, p, none⟩ (num x)).drew = w1 at R1 ⊢
  obtain ⟨d1, hd1⟩ : ∃ d1, d1 = swp d a p := ⟨_, rfl⟩
  rw [← hd1] at R1 P0
  have D1 : Hid (d1 = swp d a p) := hd1
  clear hd1
  have I0 : Hid (Pt w0 blk e rest n a b d1 (a + 1) b1 d1 w1) := ⟨R1.out, P0.out⟩
  clear R1 P0
  go_wp2
  go_loopg [10] (b1 + 1 - (a + 1)) (fun g s wr => ∃ i : Nat, s = .int .i64 (i : Int) ∧ a + 1 ≤ i ∧ i ≤ b1 + 1 ∧ b1 + 1 - i ≤ g ∧ Hid (Pt w0 blk e rest n a b d1 i b1 d1 wr))
  case atStart => exact ⟨a + 1, by first | rfl | go_num, Nat.le_refl _, by have := I0.out.part.ij; omega, Nat.le_refl _, I0⟩
  case round =>
    clear I0
    obtain ⟨i, rfl, hi0i, hi1, hg, I1⟩ := hrel
    go_upto_region 3 with fail
    go_cut [43] (fun s wx => ∃ q, s = .bool q ∧ Hid (Sx w0 blk e rest n d1 wx) ∧ Hid (Tells q (i ≤ b1) (lt8 d1[i]! d1[a]! = true)))
    case first =>
      have R1 : Hid (Sx w0 blk e rest n d1 wr) := I1.out.row
      by_cases hij : i ≤ b1
      · have t1 : decide (i ≤ b1) = true := decide_eq_true hij
        have z1 : ((i : Nat) : Int) < (n : Int) := by have := I1.out.part.jb; omega
        have z2 : ((a : Nat) : Int) < (n : Int) := by have := I1.out.part.jb; omega
        have l1 : i < n := by omega
        have l2 : a < n := by omega
        obtain ⟨x, hx⟩ : ∃ x, x = d1[i]! := ⟨_, rfl⟩
        obtain ⟨y, hy⟩ : ∃ y, y = d1[a]! := ⟨_, rfl⟩
        have c1 : wr.cell? ⟨blk, i, none⟩ = some (num x) := by rw [hx]; exact R1.out.cell (by omega)
        have c2 : wr.cell? ⟨blk, a, none⟩ = some (num y) := by rw [hy]; exact R1.out.cell (by omega)
        have hX : Hid (x = d1[i]!) := hx
        have hY : Hid (y = d1[a]!) := hy
        clear hx hy
        obtain ⟨q, hq⟩ : ∃ q, decide (x < y) = q := ⟨_, rfl⟩
        have cc : ∀ m, Calls Try.prog 34 #[.int .u8 (x : Int), .int .u8 (y : Int)] (wr.drewN m) fun e w' => e = .returned (.bool q) ∧ w' = wr.drewN m := fun m => by rw [← hq]; exact fless x y _
        have HQ : Hid (decide (x < y) = q) := hq
        clear hq
        go_wp2_with fail
        go_quiet ((go_at_call 34; exact Calls.quiet_of_same (cc _)))
        have R2 : Hid (Sx w0 blk e rest n d1 (wr.drewN nq)) := R1.out.drewN nq
        clear c1 c2 cc 
        generalize wr.drewN nq = w2 at R2 ⊢

        cases q with
        | true =>
          have hl : d1[i]! < d1[a]! := by rw [← hX.out, ← hY.out]; exact of_decide_eq_true HQ.out
          have HT : Hid (Tells true (i ≤ b1) (lt8 d1[i]! d1[a]! = true)) := by
            exact ⟨fun _ => ⟨hij, by simp [lt8, hl]⟩, fun h => Bool.noConfusion h⟩
          clear hX hY HQ hl R1
          go_wp2_with fail
          go_meet
          exact ⟨true, rfl, R2, HT⟩
        | false =>
          have hl : ¬ d1[i]! < d1[a]! := by rw [← hX.out, ← hY.out]; exact of_decide_eq_false HQ.out
          have HT : Hid (Tells false (i ≤ b1) (lt8 d1[i]! d1[a]! = true)) := by
            exact ⟨fun h => Bool.noConfusion h, fun _ _ => by simp [lt8]; omega⟩
          clear hX hY HQ hl R1
          go_wp2_with fail
          go_meet
          exact ⟨false, rfl, R2, HT⟩
      · have t1 : decide (i ≤ b1) = false := decide_eq_false hij
        go_wp2_with fail
        go_quiet (fail)
        have R2 : Hid (Sx w0 blk e rest n d1 (wr.drewN nq)) := R1.out.drewN nq
        generalize wr.drewN nq = w2 at R2 ⊢

        clear R1
        go_wp2_with fail
        go_meet
        exact ⟨false, rfl, R2, ⟨fun h => Bool.noConfusion h, fun _ h => absurd h hij⟩⟩
    case rest =>
      obtain ⟨q, rfl, HC, HQ⟩ := hcut

      cases q with
      | true =>
        have hT := HQ.out.yes rfl
        have I2 : Hid (Pt w0 blk e rest n a b d1 (i + 1) b1 d1 wc) := ⟨HC.out, I1.out.part.up hT.1 hT.2⟩
        have hij : i ≤ b1 := hT.1
        clear I1 HC HQ hT
        go_wp2
        go_roundg (b1 + 1 - (i + 1))
        case measure => omega
        case rel => exact ⟨i + 1, by first | rfl | go_num | (congr 1; omega), by omega, by omega, Nat.le_refl _, I2⟩
      | false =>
        have X1 : Hid (i ≤ b1 → ¬ (lt8 d1[i]! d1[a]! = true)) := fun h => HQ.out.no rfl h
        have J0 : Hid (Pt w0 blk e rest n a b d1 i b1 d1 wc) := ⟨HC.out, I1.out.part⟩
        clear I1 HC HQ
        go_wp2_with fail
        go_loopg [11] (b1 + 1) (fun g s wr => ∃ j : Nat, s = .int .i64 (j : Int) ∧ j + 1 ≤ g ∧ j ≤ b1 ∧ Hid (Pt w0 blk e rest n a b d1 i j d1 wr))
        case atStart => exact ⟨b1, rfl, Nat.le_refl _, Nat.le_refl _, J0⟩
        case round =>
          clear J0
          obtain ⟨j, rfl, hg, hjj0, I1⟩ := hrel
          go_upto_region 5 with fail
          go_cut [60] (fun s wx => ∃ q, s = .bool q ∧ Hid (Sx w0 blk e rest n d1 wx) ∧ Hid (Tells q (i ≤ j) (lt8 d1[j]! d1[a]! = false)))
          case first =>
            have R1 : Hid (Sx w0 blk e rest n d1 wr) := I1.out.row
            by_cases hij : i ≤ j
            · have t1 : decide (i ≤ j) = true := decide_eq_true hij
              have z1 : ((j : Nat) : Int) < (n : Int) := by have := I1.out.part.jb; omega
              have z2 : ((a : Nat) : Int) < (n : Int) := by have := I1.out.part.jb; omega
              have l1 : j < n := by omega
              have l2 : a < n := by omega
              obtain ⟨x, hx⟩ : ∃ x, x = d1[j]! := ⟨_, rfl⟩
              obtain ⟨y, hy⟩ : ∃ y, y = d1[a]! := ⟨_, rfl⟩
              have c1 : wr.cell? ⟨blk, j, none⟩ = some (num x) := by rw [hx]; exact R1.out.cell (by omega)
              have c2 : wr.cell? ⟨blk, a, none⟩ = some (num y) := by rw [hy]; exact R1.out.cell (by omega)
              have hX : Hid (x = d1[j]!) := hx
              have hY : Hid (y = d1[a]!) := hy
              clear hx hy
              obtain ⟨q, hq⟩ : ∃ q, decide (x < y) = q := ⟨_, rfl⟩
              have cc : ∀ m, Calls Try.prog 34 #[.int .u8 (x : Int), .int .u8 (y : Int)] (wr.drewN m) fun e w' => e = .returned (.bool q) ∧ w' = wr.drewN m := fun m => by rw [← hq]; exact fless x y _
              have HQ : Hid (decide (x < y) = q) := hq
              clear hq
              go_wp2_with fail
              go_quiet ((go_at_call 34; exact Calls.quiet_of_same (cc _)))
              have R2 : Hid (Sx w0 blk e rest n d1 (wr.drewN nq)) := R1.out.drewN nq
              clear c1 c2 cc 
              generalize wr.drewN nq = w2 at R2 ⊢

              cases q with
              | true =>
                have hl : d1[j]! < d1[a]! := by rw [← hX.out, ← hY.out]; exact of_decide_eq_true HQ.out
                have HT : Hid (Tells false (i ≤ j) (lt8 d1[j]! d1[a]! = false)) := by
                  exact ⟨fun h => Bool.noConfusion h, fun _ _ => by simp [lt8, hl]⟩
                clear hX hY HQ hl R1
                go_wp2_with fail
                go_meet
                exact ⟨false, rfl, R2, HT⟩
              | false =>
                have hl : ¬ d1[j]! < d1[a]! := by rw [← hX.out, ← hY.out]; exact of_decide_eq_false HQ.out
                have HT : Hid (Tells true (i ≤ j) (lt8 d1[j]! d1[a]! = false)) := by
                  exact ⟨fun _ => ⟨hij, by simp [lt8]; omega⟩, fun h => Bool.noConfusion h⟩
                clear hX hY HQ hl R1
                go_wp2_with fail
                go_meet
                exact ⟨true, rfl, R2, HT⟩
            · have t1 : decide (i ≤ j) = false := decide_eq_false hij
              go_wp2_with fail
              go_quiet (fail)
              have R2 : Hid (Sx w0 blk e rest n d1 (wr.drewN nq)) := R1.out.drewN nq
              generalize wr.drewN nq = w2 at R2 ⊢

              clear R1
              go_wp2_with fail
              go_meet
              exact ⟨false, rfl, R2, ⟨fun h => Bool.noConfusion h, fun _ h => absurd h hij⟩⟩
          case rest =>
            obtain ⟨q, rfl, HC, HQ⟩ := hcut

            cases q with
            | true =>
              have hT := HQ.out.yes rfl
              have hij : i ≤ j := hT.1
              obtain ⟨k, rfl⟩ : ∃ k, j = k + 1 := ⟨j - 1, by have := I1.out.part.ai; omega⟩
              have I2 : Hid (Pt w0 blk e rest n a b d1 i k d1 wc) := ⟨HC.out, I1.out.part.down hT.1 hT.2⟩
              have hkn : k < n := by have := I2.out.part.jb; omega
              have vk := wrap_nat k (by omega)
              have ek : ((k + 1 : Nat) : Int) - 1 = (k : Int) := by omega
              clear I1 HC HQ hT
              go_wp2
              go_roundg (k + 1)
              case measure => omega
              case rel => exact ⟨k, by first | rfl | go_num | (congr 1; omega), Nat.le_refl _, by omega, I2⟩
            | false =>
              have X2 : Hid (i ≤ j → ¬ (lt8 d1[j]! d1[a]! = false)) := fun h => HQ.out.no rfl h
              have J1 : Hid (Pt w0 blk e rest n a b d1 i j d1 wc) := ⟨HC.out, I1.out.part⟩
              have hjn : j < n := by have := I1.out.part.jb; omega
              have haj : a ≤ j := by have := I1.out.part.ai; have := I1.out.part.ij; omega
              have hi2 : i ≤ n := by have := I1.out.part.ij; omega
              clear I1 HC HQ
              by_cases hji : j < i
              · have hjj : i = j + 1 := by have := J1.out.part.ij; omega
                have hPE : Parted a b d (swp d1 j a) j := part_end hp1 hp2 (by have := H0.out; omega) (by have := J1.out.part; rw [hjj] at this; rw [← D1.out]; exact this)
                have HPE := Lib.hid hPE
                have R1 : Hid (Sx w0 blk e rest n d1 wc) := J1.out.row
                have t1 : decide (j < i) = true := decide_eq_true (by omega)
                have z1 : (j : Int) < (n : Int) := by omega
                have z2 : (a : Int) < (n : Int) := by omega
                have l2 : a < n := by omega
                clear J1 X1 X2 hPE hjj

                obtain ⟨x, hx⟩ : ∃ x, x = d1[j]! := ⟨_, rfl⟩
                obtain ⟨y, hy⟩ : ∃ y, y = d1[a]! := ⟨_, rfl⟩
                have c1 : wc.cell? ⟨blk, j, none⟩ = some (num x) := by rw [hx]; exact R1.out.cell (by omega)
                have c2 : wc.cell? ⟨blk, a, none⟩ = some (num y) := by rw [hy]; exact R1.out.cell (by omega)
                have f1 := R1.out.free (j)
                have f2 := R1.out.free (a)
                obtain ⟨u, c3⟩ := R1.out.cell2 (j) y (j := a) (by omega) (by omega)
                have R3 : Hid (Sx w0 blk e rest n (swp d1 (j) (a)) ((wc.setCell ⟨blk, j, none⟩ (num y)).setCell ⟨blk, a, none⟩ (num x)).drew) := (R1.out.swap (by omega) (by omega) hy hx).drew
                clear hx hy R1
                go_wp2_with fail
                go_big_region
                clear c1 c2 c3 f1 f2
                generalize ((wc.setCell ⟨blk, j, none⟩ (num y)).setCell ⟨blk, a, none⟩ (num x)).drew = w3 at R3 ⊢

                go_wp2
                refine bodyPost_ret (results_tmp2 rfl _ _ _) rfl ?_
                exact ⟨j, _, true, rfl, R3.out, HPE.out⟩
              · have hlt : i < j := by
                  have q1 := X1.out (by omega)
                  have q2 := X2.out (by omega)
                  rcases Nat.lt_or_ge i j with h | h
                  · exact h
                  · exfalso
                    obtain rfl : i = j := by omega
                    simp only [lt8, decide_eq_true_eq, decide_eq_false_iff_not] at q1 q2
                    omega
                obtain ⟨k, rfl⟩ : ∃ k, j = k + 1 := ⟨j - 1, by omega⟩
                have P3 : Hid (Part (fun x y => lt8 x y = true) (fun x y => lt8 x y = false) a b d1 (i + 1) k (swp d1 i (k + 1))) := J1.out.part.swap (by omega) (by have := X2.out (by omega); revert this; simp [lt8]) (by have := X1.out (by omega); revert this; simp [lt8])
                have R1 : Hid (Sx w0 blk e rest n d1 wc) := J1.out.row
                have t1 : decide (k + 1 < i) = false := decide_eq_false (by omega)
                have z1 : (i : Int) < (n : Int) := by omega
                have z2 : ((k + 1 : Nat) : Int) < (n : Int) := by omega
                have z3 : (k : Int) + 1 < (n : Int) := by omega
                have l2 : i < n := by omega
                clear J1 X1 X2

                obtain ⟨x, hx⟩ : ∃ x, x = d1[i]! := ⟨_, rfl⟩
                obtain ⟨y, hy⟩ : ∃ y, y = d1[k + 1]! := ⟨_, rfl⟩
                have c1 : wc.cell? ⟨blk, i, none⟩ = some (num x) := by rw [hx]; exact R1.out.cell (by omega)
                have c2 : wc.cell? ⟨blk, k + 1, none⟩ = some (num y) := by rw [hy]; exact R1.out.cell (by omega)
                have f1 := R1.out.free (i)
                have f2 := R1.out.free (k + 1)
                obtain ⟨u, c3⟩ := R1.out.cell2 (i) y (j := k + 1) (by omega) (by omega)
                have R3 : Hid (Sx w0 blk e rest n (swp d1 (i) (k + 1)) ((wc.setCell ⟨blk, i, none⟩ (num y)).setCell ⟨blk, k + 1, none⟩ (num x)).drew) := (R1.out.swap (by omega) (by omega) hy hx).drew
                clear hx hy R1
                go_wp2_with fail
                go_big_region
                clear c1 c2 c3 f1 f2
                generalize ((wc.setCell ⟨blk, i, none⟩ (num y)).setCell ⟨blk, k + 1, none⟩ (num x)).drew = w3 at R3 ⊢

                have I3 : Hid (Pt w0 blk e rest n a b d1 (i + 1) k (swp d1 i (k + 1)) w3) := ⟨R3.out, P3.out⟩
                clear R3 P3
                go_wp2
                go_loopg [10, 11] (k + 1 - (i + 1)) (fun g s t wr => ∃ (i0 j0 : Nat) (dj : Array Nat), s = .int .i64 (i0 : Int) ∧ t = .int .i64 (j0 : Int) ∧ j0 + 1 - i0 ≤ g ∧ Hid (Pt w0 blk e rest n a b d1 i0 j0 dj wr))
                case atStart => exact ⟨i + 1, k, swp d1 i (k + 1), by first | rfl | go_num, by first | rfl | go_num, Nat.le_refl _, I3⟩
                case round =>
                  clear I3
                  obtain ⟨i0, j0, dj, rfl, rfl, hg3, I3⟩ := hrel
                  have hj0 : j0 < n := by have := I3.out.part.jb; omega
                  have hi0 : i0 ≤ n := by have := I3.out.part.ij; omega
                  go_wp2_with fail
                  go_loopg [10] (j0 + 1 - (i0)) (fun g s wr => ∃ i : Nat, s = .int .i64 (i : Int) ∧ i0 ≤ i ∧ i ≤ j0 + 1 ∧ j0 + 1 - i ≤ g ∧ Hid (Pt w0 blk e rest n a b d1 i j0 dj wr))
                  case atStart => exact ⟨i0, rfl, Nat.le_refl _, by have := I3.out.part.ij; omega, Nat.le_refl _, I3⟩
                  case round =>
                    clear I3
                    obtain ⟨i, rfl, hi0i, hi1, hg, I1⟩ := hrel
                    go_upto_region 13 with fail
                    go_cut [112] (fun s wx => ∃ q, s = .bool q ∧ Hid (Sx w0 blk e rest n dj wx) ∧ Hid (Tells q (i ≤ j0) (lt8 dj[i]! dj[a]! = true)))
                    case first =>
                      have R1 : Hid (Sx w0 blk e rest n dj wr) := I1.out.row
                      by_cases hij : i ≤ j0
                      · have t1 : decide (i ≤ j0) = true := decide_eq_true hij
                        have z1 : ((i : Nat) : Int) < (n : Int) := by have := I1.out.part.jb; omega
                        have z2 : ((a : Nat) : Int) < (n : Int) := by have := I1.out.part.jb; omega
                        have l1 : i < n := by omega
                        have l2 : a < n := by omega
                        obtain ⟨x, hx⟩ : ∃ x, x = dj[i]! := ⟨_, rfl⟩
                        obtain ⟨y, hy⟩ : ∃ y, y = dj[a]! := ⟨_, rfl⟩
                        have c1 : wr.cell? ⟨blk, i, none⟩ = some (num x) := by rw [hx]; exact R1.out.cell (by omega)
                        have c2 : wr.cell? ⟨blk, a, none⟩ = some (num y) := by rw [hy]; exact R1.out.cell (by omega)
                        have hX : Hid (x = dj[i]!) := hx
                        have hY : Hid (y = dj[a]!) := hy
                        clear hx hy
                        obtain ⟨q, hq⟩ : ∃ q, decide (x < y) = q := ⟨_, rfl⟩
                        have cc : ∀ m, Calls Try.prog 34 #[.int .u8 (x : Int), .int .u8 (y : Int)] (wr.drewN m) fun e w' => e = .returned (.bool q) ∧ w' = wr.drewN m := fun m => by rw [← hq]; exact fless x y _
                        have HQ : Hid (decide (x < y) = q) := hq
                        clear hq
                        go_wp2_with fail
                        go_quiet ((go_at_call 34; exact Calls.quiet_of_same (cc _)))
                        have R2 : Hid (Sx w0 blk e rest n dj (wr.drewN nq)) := R1.out.drewN nq
                        clear c1 c2 cc 
                        generalize wr.drewN nq = w2 at R2 ⊢

                        cases q with
                        | true =>
                          have hl : dj[i]! < dj[a]! := by rw [← hX.out, ← hY.out]; exact of_decide_eq_true HQ.out
                          have HT : Hid (Tells true (i ≤ j0) (lt8 dj[i]! dj[a]! = true)) := by
                            exact ⟨fun _ => ⟨hij, by simp [lt8, hl]⟩, fun h => Bool.noConfusion h⟩
                          clear hX hY HQ hl R1
                          go_wp2_with fail
                          go_meet
                          exact ⟨true, rfl, R2, HT⟩
                        | false =>
                          have hl : ¬ dj[i]! < dj[a]! := by rw [← hX.out, ← hY.out]; exact of_decide_eq_false HQ.out
                          have HT : Hid (Tells false (i ≤ j0) (lt8 dj[i]! dj[a]! = true)) := by
                            exact ⟨fun h => Bool.noConfusion h, fun _ _ => by simp [lt8]; omega⟩
                          clear hX hY HQ hl R1
                          go_wp2_with fail
                          go_meet
                          exact ⟨false, rfl, R2, HT⟩
                      · have t1 : decide (i ≤ j0) = false := decide_eq_false hij
                        go_wp2_with fail
                        go_quiet (fail)
                        have R2 : Hid (Sx w0 blk e rest n dj (wr.drewN nq)) := R1.out.drewN nq
                        generalize wr.drewN nq = w2 at R2 ⊢

                        clear R1
                        go_wp2_with fail
                        go_meet
                        exact ⟨false, rfl, R2, ⟨fun h => Bool.noConfusion h, fun _ h => absurd h hij⟩⟩
                    case rest =>
                      obtain ⟨q, rfl, HC, HQ⟩ := hcut

                      cases q with
                      | true =>
                        have hT := HQ.out.yes rfl
                        have I2 : Hid (Pt w0 blk e rest n a b d1 (i + 1) j0 dj wc) := ⟨HC.out, I1.out.part.up hT.1 hT.2⟩
                        have hij : i ≤ j0 := hT.1
                        clear I1 HC HQ hT
                        go_wp2
                        go_roundg (j0 + 1 - (i + 1))
                        case measure => omega
                        case rel => exact ⟨i + 1, by first | rfl | go_num | (congr 1; omega), by omega, by omega, Nat.le_refl _, I2⟩
                      | false =>
                        have X1 : Hid (i ≤ j0 → ¬ (lt8 dj[i]! dj[a]! = true)) := fun h => HQ.out.no rfl h
                        have J0 : Hid (Pt w0 blk e rest n a b d1 i j0 dj wc) := ⟨HC.out, I1.out.part⟩
                        clear I1 HC HQ
                        go_wp2_with fail
                        go_loopg [11] (j0 + 1) (fun g s wr => ∃ j : Nat, s = .int .i64 (j : Int) ∧ j + 1 ≤ g ∧ j ≤ j0 ∧ Hid (Pt w0 blk e rest n a b d1 i j dj wr))
                        case atStart => exact ⟨j0, rfl, Nat.le_refl _, Nat.le_refl _, J0⟩
                        case round =>
                          clear J0
                          obtain ⟨j, rfl, hg, hjj0, I1⟩ := hrel
                          go_upto_region 15 with fail
                          go_cut [129] (fun s wx => ∃ q, s = .bool q ∧ Hid (Sx w0 blk e rest n dj wx) ∧ Hid (Tells q (i ≤ j) (lt8 dj[j]! dj[a]! = false)))
                          case first =>
                            have R1 : Hid (Sx w0 blk e rest n dj wr) := I1.out.row
                            by_cases hij : i ≤ j
                            · have t1 : decide (i ≤ j) = true := decide_eq_true hij
                              have z1 : ((j : Nat) : Int) < (n : Int) := by have := I1.out.part.jb; omega
                              have z2 : ((a : Nat) : Int) < (n : Int) := by have := I1.out.part.jb; omega
                              have l1 : j < n := by omega
                              have l2 : a < n := by omega
                              obtain ⟨x, hx⟩ : ∃ x, x = dj[j]! := ⟨_, rfl⟩
                              obtain ⟨y, hy⟩ : ∃ y, y = dj[a]! := ⟨_, rfl⟩
                              have c1 : wr.cell? ⟨blk, j, none⟩ = some (num x) := by rw [hx]; exact R1.out.cell (by omega)
                              have c2 : wr.cell? ⟨blk, a, none⟩ = some (num y) := by rw [hy]; exact R1.out.cell (by omega)
                              have hX : Hid (x = dj[j]!) := hx
                              have hY : Hid (y = dj[a]!) := hy
                              clear hx hy
                              obtain ⟨q, hq⟩ : ∃ q, decide (x < y) = q := ⟨_, rfl⟩
                              have cc : ∀ m, Calls Try.prog 34 #[.int .u8 (x : Int), .int .u8 (y : Int)] (wr.drewN m) fun e w' => e = .returned (.bool q) ∧ w' = wr.drewN m := fun m => by rw [← hq]; exact fless x y _
                              have HQ : Hid (decide (x < y) = q) := hq
                              clear hq
                              go_wp2_with fail
                              go_quiet ((go_at_call 34; exact Calls.quiet_of_same (cc _)))
                              have R2 : Hid (Sx w0 blk e rest n dj (wr.drewN nq)) := R1.out.drewN nq
                              clear c1 c2 cc 
                              generalize wr.drewN nq = w2 at R2 ⊢

                              cases q with
                              | true =>
                                have hl : dj[j]! < dj[a]! := by rw [← hX.out, ← hY.out]; exact of_decide_eq_true HQ.out
                                have HT : Hid (Tells false (i ≤ j) (lt8 dj[j]! dj[a]! = false)) := by
                                  exact ⟨fun h => Bool.noConfusion h, fun _ _ => by simp [lt8, hl]⟩
                                clear hX hY HQ hl R1
                                go_wp2_with fail
                                go_meet
                                exact ⟨false, rfl, R2, HT⟩
                              | false =>
                                have hl : ¬ dj[j]! < dj[a]! := by rw [← hX.out, ← hY.out]; exact of_decide_eq_false HQ.out
                                have HT : Hid (Tells true (i ≤ j) (lt8 dj[j]! dj[a]! = false)) := by
                                  exact ⟨fun _ => ⟨hij, by simp [lt8]; omega⟩, fun h => Bool.noConfusion h⟩
                                clear hX hY HQ hl R1
                                go_wp2_with fail
                                go_meet
                                exact ⟨true, rfl, R2, HT⟩
                            · have t1 : decide (i ≤ j) = false := decide_eq_false hij
                              go_wp2_with fail
                              go_quiet (fail)
                              have R2 : Hid (Sx w0 blk e rest n dj (wr.drewN nq)) := R1.out.drewN nq
                              generalize wr.drewN nq = w2 at R2 ⊢

                              clear R1
                              go_wp2_with fail
                              go_meet
                              exact ⟨false, rfl, R2, ⟨fun h => Bool.noConfusion h, fun _ h => absurd h hij⟩⟩
                          case rest =>
                            obtain ⟨q, rfl, HC, HQ⟩ := hcut

                            cases q with
                            | true =>
                              have hT := HQ.out.yes rfl
                              have hij : i ≤ j := hT.1
                              obtain ⟨k, rfl⟩ : ∃ k, j = k + 1 := ⟨j - 1, by have := I1.out.part.ai; omega⟩
                              have I2 : Hid (Pt w0 blk e rest n a b d1 i k dj wc) := ⟨HC.out, I1.out.part.down hT.1 hT.2⟩
                              have hkn : k < n := by have := I2.out.part.jb; omega
                              have vk := wrap_nat k (by omega)
                              have ek : ((k + 1 : Nat) : Int) - 1 = (k : Int) := by omega
                              clear I1 HC HQ hT
                              go_wp2
                              go_roundg (k + 1)
                              case measure => omega
                              case rel => exact ⟨k, by first | rfl | go_num | (congr 1; omega), Nat.le_refl _, by omega, I2⟩
                            | false =>
                              have X2 : Hid (i ≤ j → ¬ (lt8 dj[j]! dj[a]! = false)) := fun h => HQ.out.no rfl h
                              have J1 : Hid (Pt w0 blk e rest n a b d1 i j dj wc) := ⟨HC.out, I1.out.part⟩
                              have hjn : j < n := by have := I1.out.part.jb; omega
                              have haj : a ≤ j := by have := I1.out.part.ai; have := I1.out.part.ij; omega
                              have hi2 : i ≤ n := by have := I1.out.part.ij; omega
                              clear I1 HC HQ
                              by_cases hji : j < i
                              · have hjj : i = j + 1 := by have := J1.out.part.ij; omega
                                have hPE : Parted a b d (swp dj j a) j := part_end hp1 hp2 (by have := H0.out; omega) (by have := J1.out.part; rw [hjj] at this; rw [← D1.out]; exact this)
                                have HPE := Lib.hid hPE
                                have R1 : Hid (Sx w0 blk e rest n dj wc) := J1.out.row
                                have t1 : decide (j < i) = true := decide_eq_true (by omega)
                                have z1 : (j : Int) < (n : Int) := by omega
                                have z2 : (a : Int) < (n : Int) := by omega
                                have l2 : a < n := by omega
                                clear J1 X1 X2 hPE hjj

                                obtain ⟨x, hx⟩ : ∃ x, x = dj[j]! := ⟨_, rfl⟩
                                obtain ⟨y, hy⟩ : ∃ y, y = dj[a]! := ⟨_, rfl⟩
                                have c1 : wc.cell? ⟨blk, j, none⟩ = some (num x) := by rw [hx]; exact R1.out.cell (by omega)
                                have c2 : wc.cell? ⟨blk, a, none⟩ = some (num y) := by rw [hy]; exact R1.out.cell (by omega)
                                have f1 := R1.out.free (j)
                                have f2 := R1.out.free (a)
                                obtain ⟨u, c3⟩ := R1.out.cell2 (j) y (j := a) (by omega) (by omega)
                                have R3 : Hid (Sx w0 blk e rest n (swp dj (j) (a)) ((wc.setCell ⟨blk, j, none⟩ (num y)).setCell ⟨blk, a, none⟩ (num x)).drew) := (R1.out.swap (by omega) (by omega) hy hx).drew
                                clear hx hy R1
                                go_wp2_with fail
                                go_big_region
                                clear c1 c2 c3 f1 f2
                                generalize ((wc.setCell ⟨blk, j, none⟩ (num y)).setCell ⟨blk, a, none⟩ (num x)).drew = w3 at R3 ⊢

                                go_wp2
                                first | (rw [Exit.noGoto_ret]; refine bodyPost_ret (results_tmp2 rfl _ _ _) rfl ?_) | refine bodyPost_ret (results_tmp2 rfl _ _ _) rfl ?_
                                exact ⟨j, _, false, rfl, R3.out, HPE.out⟩
                              · have hlt : i < j := by
                                  have q1 := X1.out (by omega)
                                  have q2 := X2.out (by omega)
                                  rcases Nat.lt_or_ge i j with h | h
                                  · exact h
                                  · exfalso
                                    obtain rfl : i = j := by omega
                                    simp only [lt8, decide_eq_true_eq, decide_eq_false_iff_not] at q1 q2
                                    omega
                                obtain ⟨k, rfl⟩ : ∃ k, j = k + 1 := ⟨j - 1, by omega⟩
                                have P3 : Hid (Part (fun x y => lt8 x y = true) (fun x y => lt8 x y = false) a b d1 (i + 1) k (swp dj i (k + 1))) := J1.out.part.swap (by omega) (by have := X2.out (by omega); revert this; simp [lt8]) (by have := X1.out (by omega); revert this; simp [lt8])
                                have R1 : Hid (Sx w0 blk e rest n dj wc) := J1.out.row
                                have t1 : decide (k + 1 < i) = false := decide_eq_false (by omega)
                                have z1 : (i : Int) < (n : Int) := by omega
                                have z2 : ((k + 1 : Nat) : Int) < (n : Int) := by omega
                                have z3 : (k : Int) + 1 < (n : Int) := by omega
                                have l2 : i < n := by omega
                                clear J1 X1 X2

                                obtain ⟨x, hx⟩ : ∃ x, x = dj[i]! := ⟨_, rfl⟩
                                obtain ⟨y, hy⟩ : ∃ y, y = dj[k + 1]! := ⟨_, rfl⟩
                                have c1 : wc.cell? ⟨blk, i, none⟩ = some (num x) := by rw [hx]; exact R1.out.cell (by omega)
                                have c2 : wc.cell? ⟨blk, k + 1, none⟩ = some (num y) := by rw [hy]; exact R1.out.cell (by omega)
                                have f1 := R1.out.free (i)
                                have f2 := R1.out.free (k + 1)
                                obtain ⟨u, c3⟩ := R1.out.cell2 (i) y (j := k + 1) (by omega) (by omega)
                                have R3 : Hid (Sx w0 blk e rest n (swp dj (i) (k + 1)) ((wc.setCell ⟨blk, i, none⟩ (num y)).setCell ⟨blk, k + 1, none⟩ (num x)).drew) := (R1.out.swap (by omega) (by omega) hy hx).drew
                                clear hx hy R1
                                go_wp2_with fail
                                go_big_region
                                clear c1 c2 c3 f1 f2
                                generalize ((wc.setCell ⟨blk, i, none⟩ (num y)).setCell ⟨blk, k + 1, none⟩ (num x)).drew = w3 at R3 ⊢

                                have I3 : Hid (Pt w0 blk e rest n a b d1 (i + 1) k (swp dj i (k + 1)) w3) := ⟨R3.out, P3.out⟩
                                clear R3 P3
                                go_wp2
                                go_roundg (k + 1 - (i + 1))
                                case measure => omega
                                case rel => exact ⟨i + 1, k, swp dj i (k + 1), by first | rfl | go_num | (congr 1; omega), by first | rfl | go_num | (congr 1; omega), Nat.le_refl _, I3⟩
end Go.Proofs.Ytcadeoolacoidaa.Srt

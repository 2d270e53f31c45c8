/-
  The library's partial insertion sort over octets. Condition: at most a million elements.
-/
import Derived.Test.YtcadeoolacoidaaSrtLess
import Derived.Deep.DeepCutAuto
namespace Go.Proofs.Ytcadeoolacoidaa.Srt
open Go.RowKit Go.Proofs.Ytcadeoolacoidaa.Base Go.Proofs.Ytcadeoolacoidaa.Mem
open Go.Sort (swp size_swp scanSorted shiftDown shiftUp fixDown fixUp partialIns partialIns_succ)
theorem scan_go (d : Array Nat) (b k : Nat) (h : k + 1 < b) (hl : lt8 d[k + 1]! d[k]! = false) : scanSorted lt8 d b (k + 1 + 1) = scanSorted lt8 d b (k + 1) := by
  conv => rhs; rw [scanSorted, if_pos (by rw [Nat.add_sub_cancel, hl]; simp; omega)]
theorem scan_end (d : Array Nat) (b i : Nat) (h : ¬ i < b) : scanSorted lt8 d b i = i := by rw [scanSorted, if_neg (by simp [h])]
theorem scan_less (d : Array Nat) (b k : Nat) (hl : lt8 d[k + 1]! d[k]! = true) : scanSorted lt8 d b (k + 1) = k + 1 := by rw [scanSorted, if_neg (by rw [Nat.add_sub_cancel, hl]; simp)]
theorem down_go (d : Array Nat) (j : Nat) (hl : lt8 d[j + 1]! d[j]! = true) : shiftDown lt8 (j + 1) d = shiftDown lt8 j (swp d (j + 1) j) := by rw [shiftDown, hl]; rfl
theorem down_stop (d : Array Nat) (j : Nat) (hl : lt8 d[j + 1]! d[j]! = false) : shiftDown lt8 (j + 1) d = d := by rw [shiftDown, hl]; rfl
theorem up_go (d : Array Nat) (b k : Nat) (h : k + 1 < b) (hl : lt8 d[k + 1]! d[k]! = true) : shiftUp lt8 b (k + 1) d = shiftUp lt8 b (k + 1 + 1) (swp d (k + 1) k) := by
  rw [shiftUp, if_pos h, Nat.add_sub_cancel, hl]; rfl
theorem up_stop (d : Array Nat) (b k : Nat) (hl : lt8 d[k + 1]! d[k]! = false) : shiftUp lt8 b (k + 1) d = d := by
  rw [shiftUp]; split
  · rw [Nat.add_sub_cancel, hl]; rfl
  · rfl
theorem up_end (d : Array Nat) (b j : Nat) (h : ¬ j < b) : shiftUp lt8 b j d = d := by rw [shiftUp, if_neg h]
/-- Ahead of a step; within its search; ahead of its shifts; within them. -/
structure Po (w0 : World) (blk e : Nat) (rest : Array Value) (n a b : Nat) (E : Array Nat × Bool) (s i : Nat) (dk : Array Nat) (W : World) : Prop where
  row : Sx w0 blk e rest n dk W
  eq : partialIns lt8 a b s i dk = E
structure Ps (w0 : World) (blk e : Nat) (rest : Array Value) (n a b : Nat) (E : Array Nat × Bool) (s i : Nat) (dk : Array Nat) (W : World) : Prop where
  row : Sx w0 blk e rest n dk W
  eq : ∃ i0, partialIns lt8 a b (s + 1) i0 dk = E ∧ scanSorted lt8 dk b i = scanSorted lt8 dk b i0
structure Pd (w0 : World) (blk e : Nat) (rest : Array Value) (n a b : Nat) (E : Array Nat × Bool) (s i : Nat) (F : Array Nat) (dk : Array Nat) (W : World) : Prop where
  row : Sx w0 blk e rest n dk W
  eq : partialIns lt8 a b s i (fixUp lt8 b i F) = E
theorem Ps.exit {w0 W : World} {blk e n a b s i : Nat} {rest : Array Value} {E : Array Nat × Bool} {dk : Array Nat} (h : Ps w0 blk e rest n a b E s i dk W) (hs : scanSorted lt8 dk b i = i) :
    (if i = b then (dk, true) else if b - a < 50 then (dk, false) else partialIns lt8 a b s i (fixUp lt8 b i (fixDown lt8 a i (swp dk i (i - 1))))) = E := by
  obtain ⟨i0, h1, h2⟩ := h.eq
  rw [partialIns_succ, ← h2, hs] at h1
  exact h1
structure TellsL (q : Bool) (A : Prop) (l : Bool) : Prop where
  yes : q = true → A ∧ l = false
  no : q = false → A → l = true

set_option maxHeartbeats 8000000 in
set_option maxRecDepth 200000 in
theorem fpins (w0 : World) (blk e : Nat) (rest : Array Value) (n cap a b : Nat) (d : Array Nat) (w : World) (hn : n ≤ 1000000) (S : Hid (Sx w0 blk e rest n d w)) (hab : a < b) (hb : b ≤ n) :
    Calls Try.prog 33 #[.slice (some ⟨blk, 0, none⟩) n cap, .int .i64 (a : Int), .int .i64 (b : Int)] w fun r w' =>
      r = .returned (.bool (Sort.partialInsertionSort lt8 d a b).2) ∧ Sx w0 blk e rest n (Sort.partialInsertionSort lt8 d a b).1 w' := by
  obtain ⟨E, hE⟩ : ∃ E, E = Sort.partialInsertionSort lt8 d a b := ⟨_, rfl⟩
  rw [← hE]
  have I0 : Hid (Po w0 blk e rest n a b E 5 (a + 1) d w) := ⟨S.out, by rw [hE]; rfl⟩
  clear S hE
  obtain ⟨ln, hln⟩ : ∃ ln, ln = b - a := ⟨_, rfl⟩
  have l1 : (b : Int) - (a : Int) = (ln : Int) := by omega
  have vl := wrap_nat ln (by omega)
  have va := wrap_nat (a + 1) (by omega)
  go_enter Try.func33, Try.ntmps33
  go_wp2
  go_loopg [7, 8] 5 (fun g p t wr => ∃ (s k : Nat) (dk : Array Nat), p = .int .i64 ((k + 1 : Nat) : Int) ∧ t = .int .i64 (5 - (s : Int)) ∧ s ≤ g ∧ s ≤ 5 ∧ a < k + 1 ∧ k + 1 ≤ b ∧ Hid (Po w0 blk e rest n a b E s (k + 1) dk wr))
  case atStart => exact ⟨5, a, d, by first | rfl | go_num | (congr 1; omega), by first | rfl | go_num | (congr 1; omega), Nat.le_refl _, Nat.le_refl _, by omega, by omega, I0⟩
  case round =>
    clear I0
    obtain ⟨s, k0, dk, rfl, rfl, hg, hs5, hak0, hkb0, I1⟩ := hrel
    by_cases hs0 : s = 0
    · subst hs0
      have hE : (dk, false) = E := I1.out.eq
      go_wp2
      first | (rw [Exit.noGoto_ret]; refine bodyPost_ret (results_tmp rfl _ _ _) rfl ?_) | refine bodyPost_ret (results_tmp rfl _ _ _) rfl ?_
      exact ⟨by rw [← hE]; rfl, by rw [← hE]; exact I1.out.row⟩
    · obtain ⟨s, rfl⟩ : ∃ q, s = q + 1 := ⟨s - 1, by omega⟩
      have hst : decide ((5 : Int) - (((s + 1 : Nat)) : Int) < 5) = true := decide_eq_true (by omega)
      have hst2 : (5 : Int) - (((s : Nat) : Int) + 1) < 5 := by omega
      have J0 : Hid (Ps w0 blk e rest n a b E s (k0 + 1) dk wr) := ⟨I1.out.row, _, I1.out.eq, rfl⟩
      clear I1
      go_wp2_with fail
      go_loopg [7] (b - (k0 + 1)) (fun g p wr => ∃ k : Nat, p = .int .i64 ((k + 1 : Nat) : Int) ∧ b - (k + 1) ≤ g ∧ k0 ≤ k ∧ k + 1 ≤ b ∧ Hid (Ps w0 blk e rest n a b E s (k + 1) dk wr))
      case atStart => exact ⟨k0, rfl, Nat.le_refl _, Nat.le_refl _, hkb0, J0⟩
      case round =>
        clear J0
        obtain ⟨k, rfl, hg, hk0k, hkb1, I1⟩ := hrel
        go_upto_region 5 with fail
        go_cut [32] (fun s wx => ∃ q, s = .bool q ∧ Hid (Sx w0 blk e rest n dk wx) ∧ Hid (TellsL q (k + 1 < b) (lt8 dk[k + 1]! dk[k]!)))
        case first =>
          have R1 : Hid (Sx w0 blk e rest n dk wr) := I1.out.row
          by_cases hkb : k + 1 < b
          · have t1 : decide ((k : Int) + 1 < (b : Int)) = true := decide_eq_true (by omega)
            have t2 : (k : Int) + 1 < (b : Int) := by omega
            have hkn : k + 1 < n := by omega
            have k0 : (0 : Int) ≤ (k : Int) + 1 := by omega
            have k1 : (k : Int) + 1 < (n : Int) := by omega
            have k2 : (k : Int) < (n : Int) := by omega
            have k3 : ((k : Int) + 1).toNat = k + 1 := by omega

            obtain ⟨x, hx⟩ : ∃ x, x = dk[k + 1]! := ⟨_, rfl⟩
            obtain ⟨y, hy⟩ : ∃ y, y = dk[k]! := ⟨_, rfl⟩
            have c1 : wr.cell? ⟨blk, k + 1, none⟩ = some (num x) := by rw [hx]; exact R1.out.cell (by omega)
            have c2 : wr.cell? ⟨blk, k, none⟩ = some (num y) := by rw [hy]; exact R1.out.cell (by omega)
            have hX : Hid (x = dk[k + 1]!) := hx
            have hY : Hid (y = dk[k]!) := hy
            clear hx hy
            obtain ⟨q, hq⟩ : ∃ q, decide (x < y) = q := ⟨_, rfl⟩
            have cc : ∀ m, Calls Try.prog 34 #[.int .u8 (x : Int), .int .u8 (y : Int)] (wr.drewN m) fun e w' => e = .returned (.bool q) ∧ w' = wr.drewN m := fun m => by rw [← hq]; exact fless x y _
            have HQ : Hid (decide (x < y) = q) := hq
            clear hq
            go_wp2_with fail
            go_quiet ((go_at_call 34; exact Calls.quiet_of_same (cc _)))
            have R2 : Hid (Sx w0 blk e rest n dk (wr.drewN nq)) := R1.out.drewN nq
            clear c1 c2 cc 
            generalize wr.drewN nq = w2 at R2 ⊢

            cases q with
            | true =>
              have hl : dk[k + 1]! < dk[k]! := by rw [← hX.out, ← hY.out]; exact of_decide_eq_true HQ.out
              have HT : Hid (TellsL false (k + 1 < b) (lt8 dk[k + 1]! dk[k]!)) :=
                ⟨fun h => Bool.noConfusion h, fun _ _ => by simp [lt8, hl]⟩
              clear hX hY HQ hl R1
              go_wp2_with fail
              go_meet
              exact ⟨false, rfl, R2, HT⟩
            | false =>
              have hl : ¬ dk[k + 1]! < dk[k]! := by rw [← hX.out, ← hY.out]; exact of_decide_eq_false HQ.out
              have HT : Hid (TellsL true (k + 1 < b) (lt8 dk[k + 1]! dk[k]!)) :=
                ⟨fun _ => ⟨hkb, by simp [lt8]; omega⟩, fun h => Bool.noConfusion h⟩
              clear hX hY HQ hl R1
              go_wp2_with fail
              go_meet
              exact ⟨true, rfl, R2, HT⟩
          · have t1 : decide ((k : Int) + 1 < (b : Int)) = false := decide_eq_false (by omega)
            have t2 : ¬ (k : Int) + 1 < (b : Int) := by omega
            go_wp2_with fail
            go_quiet (fail)
            have R2 : Hid (Sx w0 blk e rest n dk (wr.drewN nq)) := R1.out.drewN nq
            generalize wr.drewN nq = w2 at R2 ⊢

            clear R1
            go_wp2_with fail
            go_meet
            exact ⟨false, rfl, R2, ⟨fun h => Bool.noConfusion h, fun _ h => absurd h hkb⟩⟩
        case rest =>
          obtain ⟨q, rfl, HC, HQ⟩ := hcut

          cases q with
          | true =>
            have hT := HQ.out.yes rfl
            have I2 : Hid (Ps w0 blk e rest n a b E s (k + 1 + 1) dk wc) := ⟨HC.out, by obtain ⟨i0, h1, h2⟩ := I1.out.eq; exact ⟨i0, h1, by rw [scan_go dk b k hT.1 hT.2, h2]⟩⟩
            have hkb2 : k + 1 < b := hT.1
            have vk := wrap_nat (k + 1 + 1) (by omega)
            clear I1 HC HQ hT
            go_wp2
            go_roundg (b - (k + 1 + 1))
            case measure => omega
            case rel => exact ⟨k + 1, by first | rfl | go_num | (congr 1; omega), Nat.le_refl _, by omega, by omega, I2⟩
          | false =>
            have HS : Hid (scanSorted lt8 dk b (k + 1) = k + 1) := by
              by_cases h : k + 1 < b
              · exact scan_less dk b k (HQ.out.no rfl h)
              · exact scan_end dk b (k + 1) h
            have HE := Lib.hid (I1.out.exit HS.out)
            clear I1 HS HQ
            by_cases hkb : k + 1 = b
            · have u1 : (((k : Int) + 1) == (b : Int)) = true := by rw [beq_iff_eq]; omega
              have u2 : (k : Int) + 1 = (b : Int) := by omega
              have hE : (dk, true) = E := by have := HE.out; rw [if_pos hkb] at this; exact this
              go_wp2
              first | (rw [Exit.noGoto_ret]; refine bodyPost_ret (results_tmp rfl _ _ _) rfl ?_) | refine bodyPost_ret (results_tmp rfl _ _ _) rfl ?_
              exact ⟨by rw [← hE]; rfl, by rw [← hE]; exact HC.out⟩
            · have u1 : (((k : Int) + 1) == (b : Int)) = false := by rw [beq_eq_false_iff_ne]; omega
              have u2 : ¬ (k : Int) + 1 = (b : Int) := by omega
              have hkn : k + 1 < n := by omega
              by_cases h50 : b - a < 50
              · have u3 : decide ((ln : Int) < 50) = true := decide_eq_true (by omega)
                have u4 : (ln : Int) < 50 := by omega
                have u5 : ln < 50 := by omega
                have hE : (dk, false) = E := by have := HE.out; rw [if_neg hkb, if_pos h50] at this; exact this
                go_wp2
                first | (rw [Exit.noGoto_ret]; refine bodyPost_ret (results_tmp rfl _ _ _) rfl ?_) | refine bodyPost_ret (results_tmp rfl _ _ _) rfl ?_
                exact ⟨by rw [← hE]; rfl, by rw [← hE]; exact HC.out⟩
              · have u3 : decide ((ln : Int) < 50) = false := decide_eq_false (by omega)
                have u4 : ¬ (ln : Int) < 50 := by omega
                have u5 : ¬ ln < 50 := by omega
                obtain ⟨m, hm⟩ : ∃ m, m = k + 1 - a := ⟨_, rfl⟩
                have m1 : (k : Int) + 1 - (a : Int) = (m : Int) := by omega
                have vm := wrap_nat m (by omega)
                obtain ⟨F, hF⟩ : ∃ F, F = fixDown lt8 a (k + 1) (swp dk (k + 1) k) := ⟨_, rfl⟩
                have HE2 : Hid (partialIns lt8 a b s (k + 1) (fixUp lt8 b (k + 1) F) = E) := by have := HE.out; rw [if_neg hkb, if_neg h50, Nat.add_sub_cancel, ← hF] at this; exact this
                have HF0 : Hid (F = if m ≥ 2 then shiftDown lt8 k (swp dk (k + 1) k) else swp dk (k + 1) k) := by rw [hF, hm]; rfl
                clear hF hm HE
                have k0 : (0 : Int) ≤ (k : Int) + 1 := by omega
                have k1 : (k : Int) + 1 < (n : Int) := by omega
                have k2 : (k : Int) < (n : Int) := by omega
                have k3 : ((k : Int) + 1).toNat = k + 1 := by omega

                obtain ⟨x, hx⟩ : ∃ x, x = dk[k + 1]! := ⟨_, rfl⟩
                obtain ⟨y, hy⟩ : ∃ y, y = dk[k]! := ⟨_, rfl⟩
                have c1 : wc.cell? ⟨blk, k + 1, none⟩ = some (num x) := by rw [hx]; exact HC.out.cell (by omega)
                have c2 : wc.cell? ⟨blk, k, none⟩ = some (num y) := by rw [hy]; exact HC.out.cell (by omega)
                have f1 := HC.out.free (k + 1)
                have f2 := HC.out.free (k)
                obtain ⟨u, c3⟩ := HC.out.cell2 (k + 1) y (j := k) (by omega) (by omega)
                have R3 : Hid (Sx w0 blk e rest n (swp dk (k + 1) (k)) ((wc.setCell ⟨blk, k + 1, none⟩ (num y)).setCell ⟨blk, k, none⟩ (num x)).drew) := (HC.out.swap (by omega) (by omega) hy hx).drew
                clear hx hy HC
                go_wp2_with fail
                go_big_region
                clear c1 c2 c3 f1 f2
                generalize ((wc.setCell ⟨blk, k + 1, none⟩ (num y)).setCell ⟨blk, k, none⟩ (num x)).drew = w3 at R3 ⊢

                clear k0 k1 k2 k3
                obtain ⟨p, hp⟩ : ∃ p, p = b - (k + 1) := ⟨_, rfl⟩
                have p1 : (b : Int) - ((k : Int) + 1) = (p : Int) := by omega
                have vp := wrap_nat p (by omega)
                obtain ⟨qm, hqm⟩ : ∃ qm, decide ((2 : Int) ≤ (m : Int)) = qm := ⟨_, rfl⟩
                go_upto_if 61 with fail
                go_cut [9] (fun s9 wx => Hid (Sx w0 blk e rest n F wx))
                case first =>
                  by_cases hm2 : 2 ≤ m
                  · obtain rfl : qm = true := by rw [← hqm]; exact decide_eq_true (by omega)
                    have HF : Hid (shiftDown lt8 k (swp dk (k + 1) k) = F) := by have := HF0.out; rw [if_pos hm2] at this; exact this.symm
                    have vk := wrap_nat k (by omega)
                    clear HE2 HF0
                    go_wp2_with fail
                    go_loopg [9] k (fun g p wr2 => ∃ (j : Nat) (dj : Array Nat), p = .int .i64 (j : Int) ∧ j ≤ g ∧ j ≤ k ∧ Hid (Sx w0 blk e rest n dj wr2) ∧ Hid (shiftDown lt8 j dj = F))
                    case atStart => exact ⟨k, _, by first | rfl | go_num | (congr 1; omega), Nat.le_refl _, Nat.le_refl _, R3, HF⟩
                    case round =>
                      clear R3 HF
                      obtain ⟨j, dj, rfl, hg2, hjk, J1, HF⟩ := hrel
                      by_cases hj0 : j = 0
                      · subst hj0
                        have u1 : decide ((1 : Int) ≤ ((0 : Nat) : Int)) = false := rfl
                        go_wp2_with fail
                        go_meet
                        exact (by have := HF.out; rw [shiftDown] at this; rw [← this]; exact J1)
                      · obtain ⟨l, rfl⟩ : ∃ l, j = l + 1 := ⟨j - 1, by omega⟩
                        have u1 : decide ((1 : Int) ≤ (l : Int) + 1) = true := decide_eq_true (by omega)
                        have u2 : (1 : Int) ≤ (l : Int) + 1 := by omega
                        have vl := wrap_nat l (by omega)
                        have hln : l + 1 < n := by omega
                        have k0 : (0 : Int) ≤ (l : Int) + 1 := by omega
                        have k1 : (l : Int) + 1 < (n : Int) := by omega
                        have k2 : (l : Int) < (n : Int) := by omega
                        have k3 : ((l : Int) + 1).toNat = l + 1 := by omega

                        obtain ⟨x, hx⟩ : ∃ x, x = dj[l + 1]! := ⟨_, rfl⟩
                        obtain ⟨y, hy⟩ : ∃ y, y = dj[l]! := ⟨_, rfl⟩
                        have c1 : wr.cell? ⟨blk, l + 1, none⟩ = some (num x) := by rw [hx]; exact J1.out.cell (by omega)
                        have c2 : wr.cell? ⟨blk, l, none⟩ = some (num y) := by rw [hy]; exact J1.out.cell (by omega)
                        have hX : Hid (x = dj[l + 1]!) := hx
                        have hY : Hid (y = dj[l]!) := hy
                        clear hx hy
                        obtain ⟨q, hq⟩ : ∃ q, decide (x < y) = q := ⟨_, rfl⟩
                        have cc : ∀ m, Calls Try.prog 34 #[.int .u8 (x : Int), .int .u8 (y : Int)] (wr.drewN m) fun e w' => e = .returned (.bool q) ∧ w' = wr.drewN m := fun m => by rw [← hq]; exact fless x y _
                        have HQ : Hid (decide (x < y) = q) := hq
                        clear hq
                        go_wp2_with fail
                        go_quiet ((go_at_call 34; exact Calls.quiet_of_same (cc _)))
                        have R2 : Hid (Sx w0 blk e rest n dj (wr.drewN nq)) := J1.out.drewN nq
                        clear c1 c2 cc 
                        generalize wr.drewN nq = w5 at R2 ⊢

                        cases q with
                        | true =>
                          have hl : lt8 dj[l + 1]! dj[l]! = true := by rw [← hX.out, ← hY.out]; exact HQ.out
                          have HF2 : Hid (shiftDown lt8 l (swp dj (l + 1) l) = F) := by rw [← down_go dj l hl]; exact HF.out
                          clear hX hY HQ hl J1 HF
                          clear k0 k1 k2 k3
                          have k0 : (0 : Int) ≤ (l : Int) + 1 := by omega
                          have k1 : (l : Int) + 1 < (n : Int) := by omega
                          have k2 : (l : Int) < (n : Int) := by omega
                          have k3 : ((l : Int) + 1).toNat = l + 1 := by omega

                          obtain ⟨x, hx⟩ : ∃ x, x = dj[l + 1]! := ⟨_, rfl⟩
                          obtain ⟨y, hy⟩ : ∃ y, y = dj[l]! := ⟨_, rfl⟩
                          have c1 : w5.cell? ⟨blk, l + 1, none⟩ = some (num x) := by rw [hx]; exact R2.out.cell (by omega)
                          have c2 : w5.cell? ⟨blk, l, none⟩ = some (num y) := by rw [hy]; exact R2.out.cell (by omega)
                          have f1 := R2.out.free (l + 1)
                          have f2 := R2.out.free (l)
                          obtain ⟨u, c3⟩ := R2.out.cell2 (l + 1) y (j := l) (by omega) (by omega)
                          have R6 : Hid (Sx w0 blk e rest n (swp dj (l + 1) (l)) ((w5.setCell ⟨blk, l + 1, none⟩ (num y)).setCell ⟨blk, l, none⟩ (num x)).drew) := (R2.out.swap (by omega) (by omega) hy hx).drew
                          clear hx hy R2
                          go_wp2_with fail
                          go_big_region
                          clear c1 c2 c3 f1 f2
                          generalize ((w5.setCell ⟨blk, l + 1, none⟩ (num y)).setCell ⟨blk, l, none⟩ (num x)).drew = w6 at R6 ⊢

                          go_wp2
                          go_roundg l
                          case measure => omega
                          case rel => exact ⟨l, swp dj (l + 1) l, by first | rfl | go_num | (congr 1; omega), Nat.le_refl _, by omega, R6, HF2⟩
                        | false =>
                          have hl : lt8 dj[l + 1]! dj[l]! = false := by rw [← hX.out, ← hY.out]; exact HQ.out
                          have HF2 : Hid (dj = F) := by rw [← down_stop dj l hl]; exact HF.out
                          clear hX hY HQ hl J1 HF
                          go_wp2_with fail
                          go_meet
                          exact (by rw [← HF2.out]; exact R2)

                  · obtain rfl : qm = false := by rw [← hqm]; exact decide_eq_false (by omega)
                    have RF : Hid (Sx w0 blk e rest n F w3) := by have := HF0.out; rw [if_neg hm2] at this; rw [this]; exact R3.out
                    clear HF0 R3 HE2
                    go_wp2_with fail
                    go_meet
                    exact RF
                case rest =>
                  have HC := hcut
                  clear hcut HF0 R3
                  by_cases hp2 : 2 ≤ p
                  · have u8 : decide ((2 : Int) ≤ (p : Int)) = true := decide_eq_true (by omega)
                    have u9 : (2 : Int) ≤ (p : Int) := by omega
                    have HE : Hid (partialIns lt8 a b s (k + 1) (shiftUp lt8 b (k + 1 + 1) F) = E) := by have := HE2.out; rw [fixUp, if_pos (by omega)] at this; exact this
                    have vk := wrap_nat (k + 1 + 1) (by omega)
                    clear HE2
                    go_wp2_with fail
                    go_loopg [10] (b - (k + 1 + 1)) (fun g p wr2 => ∃ (l : Nat) (dj : Array Nat), p = .int .i64 ((l + 1 : Nat) : Int) ∧ b - (l + 1) ≤ g ∧ l + 1 ≤ b ∧ Hid (Sx w0 blk e rest n dj wr2) ∧ Hid (partialIns lt8 a b s (k + 1) (shiftUp lt8 b (l + 1) dj) = E))
                    case atStart => exact ⟨k + 1, F, by first | rfl | go_num | (congr 1; omega), Nat.le_refl _, by omega, HC, HE⟩
                    case round =>
                      clear HC HE
                      obtain ⟨l, dj, rfl, hg2, hlb, J1, HE⟩ := hrel
                      by_cases hlb2 : l + 1 < b
                      · have u1 : decide ((l : Int) + 1 < (b : Int)) = true := decide_eq_true (by omega)
                        have u2 : (l : Int) + 1 < (b : Int) := by omega
                        have vl := wrap_nat (l + 1 + 1) (by omega)
                        have hln : l + 1 < n := by omega
                        have k0 : (0 : Int) ≤ (l : Int) + 1 := by omega
                        have k1 : (l : Int) + 1 < (n : Int) := by omega
                        have k2 : (l : Int) < (n : Int) := by omega
                        have k3 : ((l : Int) + 1).toNat = l + 1 := by omega

                        obtain ⟨x, hx⟩ : ∃ x, x = dj[l + 1]! := ⟨_, rfl⟩
                        obtain ⟨y, hy⟩ : ∃ y, y = dj[l]! := ⟨_, rfl⟩
                        have c1 : wr.cell? ⟨blk, l + 1, none⟩ = some (num x) := by rw [hx]; exact J1.out.cell (by omega)
                        have c2 : wr.cell? ⟨blk, l, none⟩ = some (num y) := by rw [hy]; exact J1.out.cell (by omega)
                        have hX : Hid (x = dj[l + 1]!) := hx
                        have hY : Hid (y = dj[l]!) := hy
                        clear hx hy
                        obtain ⟨q, hq⟩ : ∃ q, decide (x < y) = q := ⟨_, rfl⟩
                        have cc : ∀ m, Calls Try.prog 34 #[.int .u8 (x : Int), .int .u8 (y : Int)] (wr.drewN m) fun e w' => e = .returned (.bool q) ∧ w' = wr.drewN m := fun m => by rw [← hq]; exact fless x y _
                        have HQ : Hid (decide (x < y) = q) := hq
                        clear hq
                        go_wp2_with fail
                        go_quiet ((go_at_call 34; exact Calls.quiet_of_same (cc _)))
                        have R2 : Hid (Sx w0 blk e rest n dj (wr.drewN nq)) := J1.out.drewN nq
                        clear c1 c2 cc 
                        generalize wr.drewN nq = w5 at R2 ⊢

                        cases q with
                        | true =>
                          have hl : lt8 dj[l + 1]! dj[l]! = true := by rw [← hX.out, ← hY.out]; exact HQ.out
                          have HE2 : Hid (partialIns lt8 a b s (k + 1) (shiftUp lt8 b (l + 1 + 1) (swp dj (l + 1) l)) = E) := by rw [← up_go dj b l hlb2 hl]; exact HE.out
                          clear hX hY HQ hl J1 HE
                          clear k0 k1 k2 k3
                          have k0 : (0 : Int) ≤ (l : Int) + 1 := by omega
                          have k1 : (l : Int) + 1 < (n : Int) := by omega
                          have k2 : (l : Int) < (n : Int) := by omega
                          have k3 : ((l : Int) + 1).toNat = l + 1 := by omega

                          obtain ⟨x, hx⟩ : ∃ x, x = dj[l + 1]! := ⟨_, rfl⟩
                          obtain ⟨y, hy⟩ : ∃ y, y = dj[l]! := ⟨_, rfl⟩
                          have c1 : w5.cell? ⟨blk, l + 1, none⟩ = some (num x) := by rw [hx]; exact R2.out.cell (by omega)
                          have c2 : w5.cell? ⟨blk, l, none⟩ = some (num y) := by rw [hy]; exact R2.out.cell (by omega)
                          have f1 := R2.out.free (l + 1)
                          have f2 := R2.out.free (l)
                          obtain ⟨u, c3⟩ := R2.out.cell2 (l + 1) y (j := l) (by omega) (by omega)
                          have R6 : Hid (Sx w0 blk e rest n (swp dj (l + 1) (l)) ((w5.setCell ⟨blk, l + 1, none⟩ (num y)).setCell ⟨blk, l, none⟩ (num x)).drew) := (R2.out.swap (by omega) (by omega) hy hx).drew
                          clear hx hy R2
                          go_wp2_with fail
                          go_big_region
                          clear c1 c2 c3 f1 f2
                          generalize ((w5.setCell ⟨blk, l + 1, none⟩ (num y)).setCell ⟨blk, l, none⟩ (num x)).drew = w6 at R6 ⊢

                          go_wp2
                          go_roundg (b - (l + 1 + 1))
                          case measure => omega
                          case rel => exact ⟨l + 1, swp dj (l + 1) l, by first | rfl | go_num | (congr 1; omega), Nat.le_refl _, by omega, R6, HE2⟩
                        | false =>
                          have hl : lt8 dj[l + 1]! dj[l]! = false := by rw [← hX.out, ← hY.out]; exact HQ.out
                          have I2 : Hid (Po w0 blk e rest n a b E s (k + 1) dj w5) := ⟨R2.out, by rw [← up_stop dj b l hl]; exact HE.out⟩
                          clear hX hY HQ hl J1 HE R2
                          go_wp2
                          go_roundg s
                          case measure => omega
                          case rel => exact ⟨s, k, dj, by first | rfl | go_num | (congr 1; omega), by first | rfl | go_num | (congr 1; omega), by omega, by omega, by omega, by omega, I2⟩
                      · have u1 : decide ((l : Int) + 1 < (b : Int)) = false := decide_eq_false (by omega)
                        have u2 : ¬ (l : Int) + 1 < (b : Int) := by omega
                        have I2 : Hid (Po w0 blk e rest n a b E s (k + 1) dj wr) := ⟨J1.out, by rw [← up_end dj b (l + 1) hlb2]; exact HE.out⟩
                        clear J1 HE
                        go_wp2
                        go_roundg s
                        case measure => omega
                        case rel => exact ⟨s, k, dj, by first | rfl | go_num | (congr 1; omega), by first | rfl | go_num | (congr 1; omega), by omega, by omega, by omega, by omega, I2⟩

                  · have u8 : decide ((2 : Int) ≤ (p : Int)) = false := decide_eq_false (by omega)
                    have u9 : ¬ (2 : Int) ≤ (p : Int) := by omega
                    have I2 : Hid (Po w0 blk e rest n a b E s (k + 1) F wc) := ⟨HC.out, by have := HE2.out; rw [fixUp, if_neg (by omega)] at this; exact this⟩
                    clear HE2 HC
                    go_wp2
                    go_roundg s
                    case measure => omega
                    case rel => exact ⟨s, k, F, by first | rfl | go_num | (congr 1; omega), by first | rfl | go_num | (congr 1; omega), by omega, by omega, by omega, by omega, I2⟩
end Go.Proofs.Ytcadeoolacoidaa.Srt

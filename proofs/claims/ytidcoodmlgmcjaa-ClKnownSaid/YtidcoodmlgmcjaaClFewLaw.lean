/-
  ClFew answers true for everything, and turns nothing that was there. No condition.
-/
import Derived.Test.YtidcoodmlgmcjaaClWorks
namespace Go.Proofs.Ytidcoodmlgmcjaa.clFew
open Go.RowKit Go.Proofs.Ytidcoodmlgmcjaa.Base Go.Proofs.Ytidcoodmlgmcjaa.Mem Go.Proofs.Ytidcoodmlgmcjaa.Cl
theorem wrapn (n : Nat) (h : n < 9223372036854775808) : IntKind.i64.wrap (n : Int) = (n : Int) := by rw [IntKind.wrap_i64]; omega
theorem cnt_few (n m c : Nat) (hm : 0 < m) (hc : cnt n m = c) : (c - 1) * m ≤ n - 1 ∧ n ≤ c * m ∧ (0 < n → (c - 1) * m < n) := by
  have hp := hc ▸ cnt_pos n m hm
  have hl : ¬ c < cnt n m := by omega
  obtain ⟨j, rfl⟩ : ∃ j, c = j + 1 := ⟨c - 1, by omega⟩
  have h1 := cnt_lt n m j hm
  rw [hc] at h1
  have h2 : ¬ (j + 1) * m < n := fun e => by have := h1.2 e; omega
  refine ⟨?_, by omega, ?_⟩
  · rw [Nat.add_sub_cancel]
    cases j with
    | zero => rw [Nat.zero_mul]; exact Nat.zero_le _
    | succ i => have := (cnt_lt n m i hm).1 (by omega); omega
  · intro h0
    rw [Nat.add_sub_cancel]
    cases j with
    | zero => rw [Nat.zero_mul]; exact h0
    | succ i => exact (cnt_lt n m i hm).1 (by omega)
set_option maxHeartbeats 4000000 in
theorem all (s : ByteArray) (n : Nat) (hn : n < 256) (w : World) :
    Calls Try.prog 6 #[.string s, oc n] w fun e w' => e = .returned (.bool true) ∧ Below w.heap.size w w' := by
  have C5 := Lib.hid (fun w => fworks w)
  by_cases hs : 1000 < s.size
  · have t1 : decide ((1000 : Int) < (s.size : Int)) = true := decide_eq_true (by omega)
    have t2 : (1000 : Int) < (s.size : Int) := by omega
    go_enter Try.func6, Try.ntmps6
    go_wp2_with (go_at_call 8; ((with_reducible refine (C5.out _).mono ?_); rintro e w1 ⟨rfl, hb⟩; have HB := Lib.hid hb; clear hb))
    go_ret
    exact ⟨rfl, HB.out⟩
  · have t1 : decide ((1000 : Int) < (s.size : Int)) = false := decide_eq_false (by omega)
    have t2 : ¬ (1000 : Int) < (s.size : Int) := by omega
    by_cases hl : n < 2
    · have t3 : decide ((n : Int) < 2) = true := decide_eq_true (by omega)
      have t4 : (n : Int) < 2 := by omega
      go_enter Try.func6, Try.ntmps6
      go_wp2_with (go_at_call 8; ((with_reducible refine (C5.out _).mono ?_); rintro e w1 ⟨rfl, hb⟩; have HB := Lib.hid hb; clear hb))
      go_ret
      exact ⟨rfl, HB.out⟩
    · have t3 : decide ((n : Int) < 2) = false := decide_eq_false (by omega)
      have t4 : ¬ (n : Int) < 2 := by omega
      obtain ⟨m, hm⟩ : ∃ m : Nat, min (n : Int) 128 = (m : Int) + 1 := ⟨min n 128 - 1, by omega⟩
      have hm0 : 0 < m := by omega
      have hm2 : m ≤ 127 := by omega
      obtain ⟨mm, hmm⟩ : ∃ mm, m + 1 = mm := ⟨_, rfl⟩
      have q1 : min (n : Int) 128 = (mm : Int) := by omega
      have q2 : IntKind.i64.wrap ((mm : Int) - 1) = (m : Int) := by rw [IntKind.wrap_i64]; omega
      have CS := Lib.hid (fun w => fSplit s (by omega) (n : Int) (by omega) m hm w)
      obtain ⟨c, hc⟩ : ∃ c, cnt s.size m = c := ⟨_, rfl⟩
      have hcp : 0 < c := hc ▸ cnt_pos s.size m hm0
      have hcl : c ≤ s.size + 1 := hc ▸ cnt_le s.size m hm0
      obtain ⟨f1, f2, f3⟩ := cnt_few s.size m c hm0 hc
      obtain ⟨c1, hc1⟩ : ∃ c1, c - 1 = c1 := ⟨_, rfl⟩
      rw [hc1] at f1 f3
      obtain ⟨p1, hp1⟩ : ∃ p1, c1 * m = p1 := ⟨_, rfl⟩
      obtain ⟨p2, hp2⟩ : ∃ p2, c * m = p2 := ⟨_, rfl⟩
      obtain ⟨sz, hsz⟩ : ∃ sz : Int, (s.size : Int) - 1 = sz := ⟨_, rfl⟩
      obtain ⟨mx, hmx⟩ : ∃ mx : Nat, max 0 sz = (mx : Int) := ⟨s.size - 1, by omega⟩
      rw [hp1] at f1 f3
      rw [hp2] at f2
      have hp2b : p2 ≤ 200000 := by
        rw [← hp2]
        exact Nat.le_trans (Nat.mul_le_mul (show c ≤ 1001 by omega) hm2) (by decide)
      have q3 : IntKind.i64.wrap ((c : Int) - 1) = (c1 : Int) := by rw [IntKind.wrap_i64]; omega
      have q4 : IntKind.i64.wrap ((c1 : Int) * (m : Int)) = (p1 : Int) := by rw [← Int.natCast_mul, hp1]; exact wrapn p1 (by omega)
      have q5 : IntKind.i64.wrap ((c : Int) * (m : Int)) = (p2 : Int) := by rw [← Int.natCast_mul, hp2]; exact wrapn p2 (by omega)
      have q6 : IntKind.i64.wrap ((s.size : Int) - 1) = sz := by rw [IntKind.wrap_i64]; omega
      have q7 := hmx
      have u1 : ((c : Int) == 0) = false := by rw [beq_eq_false_iff_ne]; omega
      have u2 : ¬ (c : Int) = 0 := by omega
      have u3 : decide ((mx : Int) < (p1 : Int)) = false := decide_eq_false (by omega)
      have u4 : ¬ (mx : Int) < (p1 : Int) := by omega
      have u5 : decide ((p2 : Int) < (s.size : Int)) = false := decide_eq_false (by omega)
      have u6 : ¬ (p2 : Int) < (s.size : Int) := by omega
      have F3 := Lib.hid f3
      have HC := Lib.hid hc
      have HP1 := Lib.hid hp1
      have HC1 := Lib.hid hc1
      have HMM := Lib.hid hmm
      clear hc hp1 hp2 hsz hmx hc1 hm hmm f1 f2 f3
      go_enter Try.func6, Try.ntmps6
      go_wp2_with fail
      refine (CS.out _).mono ?_
      rintro _ w1 ⟨va, rfl, ra, ba⟩
      obtain ⟨oa, cap, rfl, hat⟩ := row_form ra
      rw [pcs_len, HC.out] at ra hat
      obtain ⟨g1, rfl, _⟩ := hat 0 hcp
      have RA := Lib.hid ra
      have BA := Lib.hid ba
      clear ra ba hat
      rw [pcs_len, HC.out]
      go_wp2_with fail
      clear q2 q4 q5 q6 q7 u1 u2 u3 u4 u5 u6
      go_loopg [8] c (fun g i wr => ∃ k : Nat, i = nm k ∧ c - k ≤ g ∧ k < c ∧ w1 = wr)
      case atStart => exact ⟨0, rfl, by omega, hcp, rfl⟩
      case round =>
        obtain ⟨k, rfl, hg, hk, rfl⟩ := hrel
        obtain ⟨kk, hkk⟩ : ∃ kk, k + 1 = kk := ⟨_, rfl⟩
        have v0 : IntKind.i64.wrap ((k : Int) + 1) = (kk : Int) := by rw [IntKind.wrap_i64]; omega
        by_cases hlt : kk < c
        · have u1 : decide ((kk : Int) < (c : Int)) = true := decide_eq_true (by omega)
          have u2 : (kk : Int) < (c : Int) := by omega
          have u3 : (k : Int) < (c : Int) := by omega
          obtain ⟨x, hx⟩ : ∃ x, pc s m c k = x := ⟨_, rfl⟩
          have r1 : w1.cell? ⟨g1, k, none⟩ = some (.string x) := row_cell RA.out (by rw [← hx, ← HC.out]; exact pcs_get s m k (by rw [HC.out]; omega))
          have hxs : x.size = mm := by
            have h8 := (cnt_lt s.size m k hm0).1 (by rw [HC.out, hkk]; exact hlt)
            rw [← hx, pc_size, Nat.min_eq_right (Nat.le_of_lt h8), succ_mul', ← HMM.out]
            omega
          have u4 : ((x.size : Int) != (mm : Int)) = false := bne_false (by omega)
          have u5 : (x.size : Int) = (mm : Int) := by omega
          clear hxs hx
          go_wp2
          go_roundg (c - kk)
          case measure => omega
          case rel => exact ⟨kk, rfl, Nat.le_refl _, hlt, rfl⟩
        · have u1 : decide ((kk : Int) < (c : Int)) = false := decide_eq_false (by omega)
          have u2 : ¬ (kk : Int) < (c : Int) := by omega
          obtain ⟨x, hx⟩ : ∃ x, pc s m c c1 = x := ⟨_, rfl⟩
          have hcc : c1 + 1 = c := by have := HC1.out; omega
          have r1 : w1.cell? ⟨g1, c1, none⟩ = some (.string x) := row_cell RA.out (by rw [← hx, ← HC.out]; exact pcs_get s m c1 (by rw [HC.out]; omega))
          have hxs : x.size = s.size - p1 + 1 := by
            have h8 : ¬ (c1 + 1) * m < s.size := fun e => by have := (cnt_lt s.size m c1 hm0).2 e; rw [HC.out] at this; omega
            rw [← hx, pc_size, Nat.min_eq_left (by omega), HP1.out]
          have u3 : (c1 : Int) < (c : Int) := by omega
          have u7 : (0 : Int) ≤ (c1 : Int) := by omega
          by_cases h0 : 0 < s.size
          · have h9 := F3.out h0
            have u4 : decide ((1 : Int) < (x.size : Int)) = true := decide_eq_true (by omega)
            have u5 : (1 : Int) < (x.size : Int) := by omega
            clear hxs hx hcc h9
            go_wp2_with (go_at_call 8; ((with_reducible refine (C5.out _).mono ?_); rintro e w6 ⟨rfl, hb⟩; have HB2 := Lib.hid (below_on BA.out hb); clear hb))
            go_ret
            exact ⟨rfl, HB2.out⟩
          · have hz : s.size = 0 := by omega
            have u4 : decide ((1 : Int) < (x.size : Int)) = false := decide_eq_false (by omega)
            have u5 : ¬ (1 : Int) < (x.size : Int) := by omega
            have s1 : s.toList = [] := by rw [ByteArray.toList_eq]; exact List.eq_nil_of_length_eq_zero hz
            have s2 : s.toList.isEmpty = true := by rw [s1]; rfl
            clear hxs hx hcc h0 hz
            go_wp2_with (go_at_call 8; ((with_reducible refine (C5.out _).mono ?_); rintro e w6 ⟨rfl, hb⟩; have HB2 := Lib.hid (below_on BA.out hb); clear hb))
            go_ret
            exact ⟨rfl, HB2.out⟩
theorem law (s : ByteArray) (_ : s.size ≤ maxLen) (n : Nat) (hn : n < 256) (w : World) :
    Calls Try.prog 6 #[.string s, .int .u8 (n : Int)] w fun e w' => e = .returned (.bool true) ∧ Below w.heap.size w w' := all s n hn w
end Go.Proofs.Ytidcoodmlgmcjaa.clFew

/-
  The document's own side: Hear whole. Condition: it lies where it says; its numbers are small.
-/
import Derived.Test.YtkoaplmlabagnaaAqHr7
import Derived.Test.YtkoaplmlabagnaaAqHr8
import Derived.Test.YtkoaplmlabagnaaAqHr9
import Derived.Test.YtkoaplmlabagnaaAqHr10
namespace Go.Proofs.Ytkoaplmlabagnaa.Aq
open Go.RowKit Go.Proofs.Ytkoaplmlabagnaa.Base Go.Proofs.Ytkoaplmlabagnaa.Mem
theorem rhear_k7 (w : World) (pb d : Nat) (x : Sd) (v : Value) (c pf : Bool) (ns nr n : Nat) (i : ByteArray) (h : RAt w pb x v) (hf : Fit x) (hl : x.fl = false) (hle : x.a ≤ n) (hnb : n ≤ 1000000) (hns : ns < 256) (hnr : nr < 256) (ha : ackd x nr = some n) (hfin : Fit (hear5 ⟨c, 7, pf, ns, nr, i⟩ (take ⟨c, 7, pf, ns, nr, i⟩ (hear4 ⟨c, 7, pf, ns, nr, i⟩ (hear3 ⟨c, 7, pf, ns, nr, i⟩ (hear2 ⟨c, 7, pf, ns, nr, i⟩ (hear1 n x)))) ⟨bE, false, n - x.a, false⟩).1)) :
    Calls Try.prog 28 #[ptr pb, fmvd d ⟨c, 7, pf, ns, nr, i⟩] w fun e w' => e = .returned (amv (take ⟨c, 7, pf, ns, nr, i⟩ (hear4 ⟨c, 7, pf, ns, nr, i⟩ (hear3 ⟨c, 7, pf, ns, nr, i⟩ (hear2 ⟨c, 7, pf, ns, nr, i⟩ (hear1 n x)))) ⟨bE, false, n - x.a, false⟩).2) ∧ RDo pb (cnt (decide (0 < n - x.a)) (hear5 ⟨c, 7, pf, ns, nr, i⟩ (take ⟨c, 7, pf, ns, nr, i⟩ (hear4 ⟨c, 7, pf, ns, nr, i⟩ (hear3 ⟨c, 7, pf, ns, nr, i⟩ (hear2 ⟨c, 7, pf, ns, nr, i⟩ (hear1 n x)))) ⟨bE, false, n - x.a, false⟩).1)) v w w' := by
  by_cases hna : x.a < n
  · by_cases hak : x.ak = true
    · cases pf
      · exact rhear7_yTFV w pb d x v c ns nr n i h hf hl hak hna hle hnb hns hnr ha hfin
      · cases c
        · exact rhear7_yTTF w pb d x v ns nr n i h hf hl hak hna hle hnb hns hnr ha hfin
        · exact rhear7_yTTT w pb d x v ns nr n i h hf hl hak hna hle hnb hns hnr ha hfin
    · have hak : x.ak = false := by simpa using hak
      cases pf
      · exact rhear7_yFFV w pb d x v c ns nr n i h hf hl hak hna hle hnb hns hnr ha hfin
      · cases c
        · exact rhear7_yFTF w pb d x v ns nr n i h hf hl hak hna hle hnb hns hnr ha hfin
        · exact rhear7_yFTT w pb d x v ns nr n i h hf hl hak hna hle hnb hns hnr ha hfin
  · by_cases hak : x.ak = true
    · cases pf
      · exact rhear7_nTFV w pb d x v c ns nr n i h hf hl hak hna hle hnb hns hnr ha hfin
      · cases c
        · exact rhear7_nTTF w pb d x v ns nr n i h hf hl hak hna hle hnb hns hnr ha hfin
        · exact rhear7_nTTT w pb d x v ns nr n i h hf hl hak hna hle hnb hns hnr ha hfin
    · have hak : x.ak = false := by simpa using hak
      cases pf
      · exact rhear7_nFFV w pb d x v c ns nr n i h hf hl hak hna hle hnb hns hnr ha hfin
      · cases c
        · exact rhear7_nFTF w pb d x v ns nr n i h hf hl hak hna hle hnb hns hnr ha hfin
        · exact rhear7_nFTT w pb d x v ns nr n i h hf hl hak hna hle hnb hns hnr ha hfin
theorem rhear_k8 (w : World) (pb d : Nat) (x : Sd) (v : Value) (c pf : Bool) (ns nr n : Nat) (i : ByteArray) (h : RAt w pb x v) (hf : Fit x) (hl : x.fl = false) (hle : x.a ≤ n) (hnb : n ≤ 1000000) (hns : ns < 256) (hnr : nr < 256) (ha : ackd x nr = some n) (hfin : Fit (hear5 ⟨c, 8, pf, ns, nr, i⟩ (hear4 ⟨c, 8, pf, ns, nr, i⟩ (hear3 ⟨c, 8, pf, ns, nr, i⟩ (hear2 ⟨c, 8, pf, ns, nr, i⟩ (hear1 n x)))))) :
    Calls Try.prog 28 #[ptr pb, fmvd d ⟨c, 8, pf, ns, nr, i⟩] w fun e w' => e = .returned (amv ⟨bE, false, n - x.a, false⟩) ∧ RDo pb (cnt (decide (0 < n - x.a)) (hear5 ⟨c, 8, pf, ns, nr, i⟩ (hear4 ⟨c, 8, pf, ns, nr, i⟩ (hear3 ⟨c, 8, pf, ns, nr, i⟩ (hear2 ⟨c, 8, pf, ns, nr, i⟩ (hear1 n x)))))) v w w' := by
  by_cases hna : x.a < n
  · by_cases hak : x.ak = true
    · cases pf
      · exact rhear8_yTFV w pb d x v c ns nr n i h hf hl hak hna hle hnb hns hnr ha hfin
      · cases c
        · exact rhear8_yTTF w pb d x v ns nr n i h hf hl hak hna hle hnb hns hnr ha hfin
        · exact rhear8_yTTT w pb d x v ns nr n i h hf hl hak hna hle hnb hns hnr ha hfin
    · have hak : x.ak = false := by simpa using hak
      cases pf
      · exact rhear8_yFFV w pb d x v c ns nr n i h hf hl hak hna hle hnb hns hnr ha hfin
      · cases c
        · exact rhear8_yFTF w pb d x v ns nr n i h hf hl hak hna hle hnb hns hnr ha hfin
        · exact rhear8_yFTT w pb d x v ns nr n i h hf hl hak hna hle hnb hns hnr ha hfin
  · by_cases hak : x.ak = true
    · cases pf
      · exact rhear8_nTFV w pb d x v c ns nr n i h hf hl hak hna hle hnb hns hnr ha hfin
      · cases c
        · exact rhear8_nTTF w pb d x v ns nr n i h hf hl hak hna hle hnb hns hnr ha hfin
        · exact rhear8_nTTT w pb d x v ns nr n i h hf hl hak hna hle hnb hns hnr ha hfin
    · have hak : x.ak = false := by simpa using hak
      cases pf
      · exact rhear8_nFFV w pb d x v c ns nr n i h hf hl hak hna hle hnb hns hnr ha hfin
      · cases c
        · exact rhear8_nFTF w pb d x v ns nr n i h hf hl hak hna hle hnb hns hnr ha hfin
        · exact rhear8_nFTT w pb d x v ns nr n i h hf hl hak hna hle hnb hns hnr ha hfin
theorem rhear_k9 (w : World) (pb d : Nat) (x : Sd) (v : Value) (c pf : Bool) (ns nr n : Nat) (i : ByteArray) (h : RAt w pb x v) (hf : Fit x) (hl : x.fl = false) (hle : x.a ≤ n) (hnb : n ≤ 1000000) (hns : ns < 256) (hnr : nr < 256) (ha : ackd x nr = some n) (hfin : Fit (hear5 ⟨c, 9, pf, ns, nr, i⟩ (hear4 ⟨c, 9, pf, ns, nr, i⟩ (hear3 ⟨c, 9, pf, ns, nr, i⟩ (hear2 ⟨c, 9, pf, ns, nr, i⟩ (hear1 n x)))))) :
    Calls Try.prog 28 #[ptr pb, fmvd d ⟨c, 9, pf, ns, nr, i⟩] w fun e w' => e = .returned (amv ⟨bE, false, n - x.a, false⟩) ∧ RDo pb (cnt (decide (0 < n - x.a)) (hear5 ⟨c, 9, pf, ns, nr, i⟩ (hear4 ⟨c, 9, pf, ns, nr, i⟩ (hear3 ⟨c, 9, pf, ns, nr, i⟩ (hear2 ⟨c, 9, pf, ns, nr, i⟩ (hear1 n x)))))) v w w' := by
  by_cases hna : x.a < n
  · by_cases hak : x.ak = true
    · cases pf
      · exact rhear9_yTFV w pb d x v c ns nr n i h hf hl hak hna hle hnb hns hnr ha hfin
      · cases c
        · exact rhear9_yTTF w pb d x v ns nr n i h hf hl hak hna hle hnb hns hnr ha hfin
        · exact rhear9_yTTT w pb d x v ns nr n i h hf hl hak hna hle hnb hns hnr ha hfin
    · have hak : x.ak = false := by simpa using hak
      cases pf
      · exact rhear9_yFFV w pb d x v c ns nr n i h hf hl hak hna hle hnb hns hnr ha hfin
      · cases c
        · exact rhear9_yFTF w pb d x v ns nr n i h hf hl hak hna hle hnb hns hnr ha hfin
        · exact rhear9_yFTT w pb d x v ns nr n i h hf hl hak hna hle hnb hns hnr ha hfin
  · by_cases hak : x.ak = true
    · cases pf
      · exact rhear9_nTFV w pb d x v c ns nr n i h hf hl hak hna hle hnb hns hnr ha hfin
      · cases c
        · exact rhear9_nTTF w pb d x v ns nr n i h hf hl hak hna hle hnb hns hnr ha hfin
        · exact rhear9_nTTT w pb d x v ns nr n i h hf hl hak hna hle hnb hns hnr ha hfin
    · have hak : x.ak = false := by simpa using hak
      cases pf
      · exact rhear9_nFFV w pb d x v c ns nr n i h hf hl hak hna hle hnb hns hnr ha hfin
      · cases c
        · exact rhear9_nFTF w pb d x v ns nr n i h hf hl hak hna hle hnb hns hnr ha hfin
        · exact rhear9_nFTT w pb d x v ns nr n i h hf hl hak hna hle hnb hns hnr ha hfin
theorem rhear_k10 (w : World) (pb d : Nat) (x : Sd) (v : Value) (c pf : Bool) (ns nr n : Nat) (i : ByteArray) (h : RAt w pb x v) (hf : Fit x) (hl : x.fl = false) (hle : x.a ≤ n) (hnb : n ≤ 1000000) (hns : ns < 256) (hnr : nr < 256) (ha : ackd x nr = some n) (hfin : Fit (hear5 ⟨c, 10, pf, ns, nr, i⟩ (hear4 ⟨c, 10, pf, ns, nr, i⟩ (hear3 ⟨c, 10, pf, ns, nr, i⟩ (hear2 ⟨c, 10, pf, ns, nr, i⟩ (hear1 n x)))))) :
    Calls Try.prog 28 #[ptr pb, fmvd d ⟨c, 10, pf, ns, nr, i⟩] w fun e w' => e = .returned (amv ⟨bE, false, n - x.a, false⟩) ∧ RDo pb (cnt (decide (0 < n - x.a)) (hear5 ⟨c, 10, pf, ns, nr, i⟩ (hear4 ⟨c, 10, pf, ns, nr, i⟩ (hear3 ⟨c, 10, pf, ns, nr, i⟩ (hear2 ⟨c, 10, pf, ns, nr, i⟩ (hear1 n x)))))) v w w' := by
  by_cases hna : x.a < n
  · by_cases hak : x.ak = true
    · cases pf
      · exact rhear10_yTFV w pb d x v c ns nr n i h hf hl hak hna hle hnb hns hnr ha hfin
      · cases c
        · exact rhear10_yTTF w pb d x v ns nr n i h hf hl hak hna hle hnb hns hnr ha hfin
        · exact rhear10_yTTT w pb d x v ns nr n i h hf hl hak hna hle hnb hns hnr ha hfin
    · have hak : x.ak = false := by simpa using hak
      cases pf
      · exact rhear10_yFFV w pb d x v c ns nr n i h hf hl hak hna hle hnb hns hnr ha hfin
      · cases c
        · exact rhear10_yFTF w pb d x v ns nr n i h hf hl hak hna hle hnb hns hnr ha hfin
        · exact rhear10_yFTT w pb d x v ns nr n i h hf hl hak hna hle hnb hns hnr ha hfin
  · by_cases hak : x.ak = true
    · cases pf
      · exact rhear10_nTFV w pb d x v c ns nr n i h hf hl hak hna hle hnb hns hnr ha hfin
      · cases c
        · exact rhear10_nTTF w pb d x v ns nr n i h hf hl hak hna hle hnb hns hnr ha hfin
        · exact rhear10_nTTT w pb d x v ns nr n i h hf hl hak hna hle hnb hns hnr ha hfin
    · have hak : x.ak = false := by simpa using hak
      cases pf
      · exact rhear10_nFFV w pb d x v c ns nr n i h hf hl hak hna hle hnb hns hnr ha hfin
      · cases c
        · exact rhear10_nFTF w pb d x v ns nr n i h hf hl hak hna hle hnb hns hnr ha hfin
        · exact rhear10_nFTT w pb d x v ns nr n i h hf hl hak hna hle hnb hns hnr ha hfin
theorem rhear (w : World) (pb d : Nat) (x : Sd) (v : Value) (f : Fm) (h : RAt w pb x v) {N : Nat} (hI : Inv N x) (hN : N + 1 ≤ 1000000) (hns : f.ns < 256) (hnr : f.nr < 256) :
    Calls Try.prog 28 #[ptr pb, fmvd d f] w fun e w' => e = .returned (amv (hear f x).2) ∧ RDo pb (hear f x).1 v w w' := by
  obtain ⟨c, k, pf, ns, nr, i⟩ := f
  have hf := hI.fit (Nat.le_of_succ_le hN)
  unfold hear
  dsimp only at hns hnr ⊢
  by_cases hl : x.fl = true
  · rw [if_pos (Or.inl hl)]; exact rhear_fl w pb d x v c k pf ns nr i h hl
  have hl : x.fl = false := by simpa using hl
  by_cases hk : k ≠ 7 ∧ k ≠ 8 ∧ k ≠ 9 ∧ k ≠ 10
  · rw [if_pos (Or.inr hk)]; exact rhear_no w pb d x v c k pf ns nr i h hl hk
  rw [if_neg (by simp [hl, hk])]
  have hk : k = 7 ∨ k = 8 ∨ k = 9 ∨ k = 10 := by omega
  cases ha : ackd x nr with
  | none =>
    dsimp only
    rcases hk with rfl | rfl | rfl | rfl
    · exact rhear_fail7 w pb d x v c pf ns nr i h hf hl hnr ha
    · exact rhear_fail8 w pb d x v c pf ns nr i h hf hl hnr ha
    · exact rhear_fail9 w pb d x v c pf ns nr i h hf hl hnr ha
    · exact rhear_fail10 w pb d x v c pf ns nr i h hf hl hnr ha
  | some n =>
    dsimp only
    have hn : x.a ≤ n ∧ n ≤ x.T := by
      rw [ackd_far x hI.ord] at ha
      split at ha
      · cases ha
      · rename_i hl2
        have := Option.some.inj ha
        have := hI.hs
        have := hI.sT
        omega
    have hnb : n ≤ 1000000 := by have := hf.tp; have := hf.few; omega
    have p := hears_pre (⟨c, k, pf, ns, nr, i⟩ : Fm) n hI hn.1 hn.2
    rcases hk with rfl | rfl | rfl | rfl
    · rw [if_pos rfl]
      exact rhear_k7 w pb d x v c pf ns nr n i h hf hl hn.1 hnb hns hnr ha ((hear5_pre _ (take_pre _ _ p)).fit hN)
    · rw [if_neg (by decide)]
      exact rhear_k8 w pb d x v c pf ns nr n i h hf hl hn.1 hnb hns hnr ha ((hear5_pre _ p).fit (Nat.le_of_succ_le hN))
    · rw [if_neg (by decide)]
      exact rhear_k9 w pb d x v c pf ns nr n i h hf hl hn.1 hnb hns hnr ha ((hear5_pre _ p).fit (Nat.le_of_succ_le hN))
    · rw [if_neg (by decide)]
      exact rhear_k10 w pb d x v c pf ns nr n i h hf hl hn.1 hnb hns hnr ha ((hear5_pre _ p).fit (Nat.le_of_succ_le hN))
end Go.Proofs.Ytkoaplmlabagnaa.Aq

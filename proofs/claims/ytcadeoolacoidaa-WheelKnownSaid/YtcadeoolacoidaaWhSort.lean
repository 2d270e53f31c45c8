/-
  The sort of the list of those due: none, or a slice that the call made. Condition: at most a thousand.
-/
import Derived.Test.YtcadeoolacoidaaSrtPdq
import Derived.Test.YtcadeoolacoidaaWhTickMem
namespace Go.Proofs.Ytcadeoolacoidaa.Wh
open Go.RowKit Go.Proofs.Ytcadeoolacoidaa.Base Go.Proofs.Ytcadeoolacoidaa.Mem
open Go.Proofs.Ytcadeoolacoidaa.Srt (Sx num lt8 swo8 Srtd fsort flen)
open Go.Sort (PermIn SortedIn sorted_unique_holds)
set_option maxHeartbeats 1000000 in
theorem fins_nil (w : World) : Calls Try.prog 28 #[.slice none 0 0, .int .i64 0, .int .i64 0] w fun r w' => r = .returned (.tuple #[]) ∧ w' = w := by
  go_enter Try.func28, Try.ntmps28
  go_wp2_with fail
  go_loopg [6] 0 (fun g p wr => p = .int .i64 1 ∧ wr = w)
  case atStart => exact ⟨rfl, rfl⟩
  case round =>
    obtain ⟨rfl, rfl⟩ := hrel
    go_wp2_with fail
    go_end0
    exact ⟨rfl, rfl⟩
set_option maxHeartbeats 2000000 in
set_option maxRecDepth 100000 in
theorem fpdq_nil (w : World) : Calls Try.prog 26 #[.slice none 0 0, .int .i64 0, .int .i64 0, .int .i64 0] w fun r w' => r = .returned (.tuple #[]) ∧ w' = w := by
  have cf := Lib.hid (fins_nil w)
  go_enter Try.func26, Try.ntmps26
  go_wp2_with fail
  go_loopg [1, 2, 3, 8, 9, 10, 11, 12, 13, 14, 15, 16, 17, 18] 0 (fun g s1 s2 s3 s8 s9 t10 t11 t12 t13 t14 t15 t16 t17 t18 wr => s1 = .int .i64 0 ∧ s2 = .int .i64 0 ∧ s3 = .int .i64 0 ∧ s8 = .bool true ∧ s9 = .bool true ∧ wr = w)
  case atStart => exact ⟨rfl, rfl, rfl, rfl, rfl, rfl⟩
  case round =>
    obtain ⟨rfl, rfl, rfl, rfl, rfl, rfl⟩ := hrel
    go_wp2_with fail
    refine cf.out.mono ?_
    rintro _ w2 ⟨rfl, rfl⟩
    go_wp2
    first | (rw [Exit.noGoto_ret]; refine bodyPost_ret (results_none rfl _ _ _) rfl ?_) | refine bodyPost_ret (results_none rfl _ _ _) rfl ?_
    exact ⟨rfl, rfl⟩
set_option maxHeartbeats 1000000 in
theorem fsort_nil (w : World) : Calls Try.prog 25 #[.slice none 0 0] w fun r w' => r = .returned (.tuple #[]) ∧ w' = w := by
  have cl : ∀ w, Calls Try.prog 27 #[.int .u64 0] w fun e w' => e = .returned (.int .i64 0) ∧ w' = w := fun w => flen 0 (by omega) w
  have cp := Lib.hid (fpdq_nil w)
  go_enter Try.func25, Try.ntmps25
  go_wp2_with (first | (go_at_call 27; refine (cl _).mono ?_; rintro e w' ⟨rfl, rfl⟩))
  refine cp.out.mono ?_
  rintro _ w' ⟨rfl, rfl⟩
  go_wp2
  go_end0
  exact ⟨rfl, rfl⟩
/-- Two sorted rows of the same octets. -/
theorem sorted_eq {D A B : List Nat} (hA : A.Perm D) (hB : B.Perm D) (sA : A.Pairwise (· ≤ ·)) (sB : B.Pairwise (· ≤ ·)) : A = B := by
  have key : ∀ X : List Nat, X.Perm D → X.Pairwise (· ≤ ·) → X = D.mergeSort fun x y => !lt8 y x := fun X hX sX => by
    have hl : X.length = D.length := hX.length_eq
    have h := sorted_unique_holds swo8 (fun x y h1 h2 => by simp only [lt8, decide_eq_false_iff_not] at h1 h2; omega) D.toArray X.toArray ⟨by simpa using hl, fun i hi => by
      rcases hi with hi | hi
      · omega
      · have h1 : D.toArray.size ≤ i := hi
        have h2 : X.toArray.size ≤ i := by simp at h1 ⊢; omega
        rw [getElem!_neg _ _ (by omega), getElem!_neg _ _ (by omega)], by
      have e1 : (X.toArray.extract 0 D.toArray.size).toList = X := by simp [← hl]
      have e2 : (D.toArray.extract 0 D.toArray.size).toList = D := by simp
      rw [e1, e2]; exact hX⟩ (fun i j _ hij hj => by
      have hj' : j < X.length := by simp at hj; omega
      have := List.pairwise_iff_getElem.1 sX i j (by omega) hj' hij
      simp only [lt8, decide_eq_false_iff_not]
      rw [getElem!_pos X.toArray i (by simp; omega), getElem!_pos X.toArray j (by simp; omega)]
      simp only [List.getElem_toArray]
      omega)
    exact h
  rw [key A hA sA, key B hB sB]
/-- The list of those due, sorted. -/
theorem wsort (w : World) (base : Nat) (v : Value) (D : List Nat) (own : OwnS 5 1 ocs w base v D) (hD : D.length ≤ 1000) :
    Calls Try.prog 25 #[v] w fun r w' => r = .returned (.tuple #[]) ∧ ∃ A, A.Perm D ∧ A.Pairwise (· ≤ ·) ∧ OwnS 5 1 ocs w' base v A ∧ Chg (fun b => v.ownBlock = some b) w w' := by
  have hmap : ∀ l : List Nat, l.flatMap ocs = l.map num := fun l => (List.map_eq_flatMap).symm
  rcases own.2 with ⟨rfl, h0⟩ | ⟨g, cap, cur, rfl, hb, hg, hnc, hcm, hsz, ht⟩
  · refine (fsort_nil w).mono ?_
    rintro r w' ⟨rfl, rfl⟩
    have hd : D = [] := List.eq_nil_of_length_eq_zero h0
    subst hd
    exact ⟨rfl, [], List.Perm.refl _, List.Pairwise.nil, own, Chg.refl _ _⟩
  · obtain ⟨rest, hrest⟩ : ∃ rest : Array Value, rest = (cur.toList.drop D.length).toArray := ⟨_, rfl⟩
    have hcur : cur = D.toArray.map num ++ rest := by
      apply Array.ext'
      rw [Array.toList_append, Array.toList_map, hrest]
      rw [Nat.mul_one, hmap] at ht
      rw [← ht, List.take_append_drop]
    have hS : Sx w g 5 rest D.length D.toArray w := ⟨by simp, by rw [← hcur]; exact hg, Chg.refl _ _⟩
    refine (fsort w g 5 rest D.length cap D.toArray w (by omega) hS).mono ?_
    rintro r w' ⟨rfl, R, hR, hS'⟩
    have hRl : R.toList.length = D.length := by rw [Array.length_toList]; exact hS'.size
    have hperm : R.toList.Perm D := by
      have := hR.1.2.2
      have e1 : (R.extract 0 D.length).toList = R.toList := by rw [← hS'.size]; simp
      have e2 : (D.toArray.extract 0 D.length).toList = D := by simp
      rw [e1, e2] at this
      exact this
    refine ⟨rfl, R.toList, hperm, ?_, ⟨?_, Or.inr ⟨g, cap, _, by rw [hRl], hb, hS'.row, by omega, hcm, ?_, ?_⟩⟩, hS'.oth.mono fun b e => by rw [e]; rfl⟩
    · refine List.pairwise_iff_getElem.2 fun i j hi hj hij => ?_
      have h := hR.2 i j (Nat.zero_le _) hij (by omega)
      rw [Array.length_toList] at hi hj
      rw [getElem!_pos R i hi, getElem!_pos R j hj] at h
      simp only [lt8, decide_eq_false_iff_not] at h
      simp only [Array.getElem_toList]
      omega
    · rw [flat_len (fc := ocs) (z := 1) (fun _ => rfl), Nat.one_mul, Nat.mul_one]
    · rw [← hsz, hcur]
      have := hS'.size
      simp; omega
    · rw [hmap, Nat.mul_one, Array.toList_append, Array.toList_map, List.take_append_of_le_length (by rw [List.length_map]; exact Nat.le_refl _), List.take_of_length_le (by rw [List.length_map]; exact Nat.le_refl _)]
end Go.Proofs.Ytcadeoolacoidaa.Wh

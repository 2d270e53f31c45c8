/-
  The library's choice of a pivot over octets: the row stays, the pivot lies in the part. Conditions: at most a million elements, more than twelve in the part.
-/
import Derived.Test.YtcadeoolacoidaaSrtLess
import Derived.Deep.DeepCutAuto
namespace Go.Proofs.Ytcadeoolacoidaa.Srt
open Go.RowKit Go.Proofs.Ytcadeoolacoidaa.Base Go.Proofs.Ytcadeoolacoidaa.Mem
/-- Beside the row a counter in a block of its own. -/
structure Sw (w0 : World) (blk e : Nat) (rest : Array Value) (n : Nat) (d : Array Nat) (sb s : Nat) (W : World) : Prop where
  row : Sx w0 blk e rest n d W
  cnt : ∃ t, W.heap[sb]? = some (.cells #[.int .i64 (s : Int)] t)
  ne : blk ≠ sb
  new : w0.heap.size ≤ sb
section
variable {w0 W : World} {blk e : Nat} {rest : Array Value} {n : Nat} {d : Array Nat} {sb s : Nat}
theorem Sw.cell (h : Sw w0 blk e rest n d sb s W) : W.cell? ⟨sb, 0, none⟩ = some (.int .i64 (s : Int)) := by
  obtain ⟨t, ht⟩ := h.cnt
  exact cell_of ht rfl
theorem Sw.free (h : Sw w0 blk e rest n d sb s W) : W.frozen? ⟨sb, 0, none⟩ = false := by
  obtain ⟨t, ht⟩ := h.cnt
  exact free_of ht
theorem Sw.drewN (h : Sw w0 blk e rest n d sb s W) (m : Nat) : Sw w0 blk e rest n d sb s (W.drewN m) := ⟨h.row.drewN m, h.cnt, h.ne, h.new⟩
theorem Sw.drew (h : Sw w0 blk e rest n d sb s W) : Sw w0 blk e rest n d sb s W.drew := ⟨h.row.drew, h.cnt, h.ne, h.new⟩
theorem Sw.put (h : Sw w0 blk e rest n d sb s W) (s2 : Nat) : Sw w0 blk e rest n d sb s2 (W.setCell ⟨sb, 0, none⟩ (.int .i64 (s2 : Int))) := by
  obtain ⟨t, ht⟩ := h.cnt
  refine ⟨⟨h.row.size, ?_, h.row.oth.setCell sb 0 _ fun hb => absurd hb (by have := h.new; omega)⟩, ⟨t, by rw [block_set ht]; rfl⟩, h.ne, h.new⟩
  rw [← h.row.row]
  exact set_other h.ne _
end
/-- One of two orders; the counter at most one more. -/
structure Two (w0 : World) (blk e : Nat) (rest : Array Value) (n : Nat) (d : Array Nat) (sb s i j x y : Nat) (W : World) : Prop where
  ways : (x = i ∧ y = j) ∨ (x = j ∧ y = i)
  sw : ∃ s2, s2 ≤ s + 1 ∧ Sw w0 blk e rest n d sb s2 W
set_option maxHeartbeats 2000000 in
set_option maxRecDepth 200000 in
theorem forder (w0 : World) (blk e : Nat) (rest : Array Value) (n cap : Nat) (d : Array Nat) (sb s i j : Nat) (w : World) (S : Hid (Sw w0 blk e rest n d sb s w)) (hs : s ≤ 1000) (hi : i < n) (hj : j < n) :
    Calls Try.prog 45 #[.slice (some ⟨blk, 0, none⟩) n cap, .int .i64 (i : Int), .int .i64 (j : Int), ptr sb] w fun r w' =>
      ∃ x y : Nat, r = .returned (.tuple #[.int .i64 (x : Int), .int .i64 (y : Int)]) ∧ Two w0 blk e rest n d sb s i j x y w' := by
  have R1 : Hid (Sx w0 blk e rest n d w) := S.out.row
  have z1 : (i : Int) < (n : Int) := by omega
  have z2 : (j : Int) < (n : Int) := by omega
  go_enter Try.func45, Try.ntmps45
  obtain ⟨x, hx⟩ : ∃ x, x = d[j]! := ⟨_, rfl⟩
  obtain ⟨y, hy⟩ : ∃ y, y = d[i]! := ⟨_, rfl⟩
  have c1 : w.cell? ⟨blk, j, none⟩ = some (num x) := by rw [hx]; exact R1.out.cell (by omega)
  have c2 : w.cell? ⟨blk, i, none⟩ = some (num y) := by rw [hy]; exact R1.out.cell (by omega)
  have hX : Hid (x = d[j]!) := hx
  have hY : Hid (y = d[i]!) := hy
  clear hx hy
  obtain ⟨q, hq⟩ : ∃ q, decide (x < y) = q := ⟨_, rfl⟩
  have cc : ∀ m, Calls Try.prog 34 #[.int .u8 (x : Int), .int .u8 (y : Int)] (w.drewN m) fun e w' => e = .returned (.bool q) ∧ w' = w.drewN m := fun m => by rw [← hq]; exact fless x y _
  have HQ : Hid (decide (x < y) = q) := hq
  clear hq
  go_wp2_with fail
  go_quiet ((go_at_call 34; exact Calls.quiet_of_same (cc _)))
  have R2 : Hid (Sx w0 blk e rest n d (w.drewN nq)) := R1.out.drewN nq
  clear c1 c2 cc 
  have S2 : Hid (Sw w0 blk e rest n d sb s (w.drewN nq)) := S.out.drewN nq
  clear R2 R1 S hX hY HQ
  generalize w.drewN nq = w2 at S2 ⊢
  cases q with
  | true =>
    have c3 := S2.out.cell
    have f3 := S2.out.free
    have S3 : Hid (Sw w0 blk e rest n d sb (s + 1) (w2.setCell ⟨sb, 0, none⟩ (.int .i64 ((s + 1 : Nat) : Int)))) := S2.out.put (s + 1)
    have v1 := wrap_nat (s + 1) (by omega)
    clear S2
    go_wp2
    first | (rw [Exit.noGoto_ret]; refine bodyPost_ret (results_tmp2 rfl _ _ _) rfl ?_) | refine bodyPost_ret (results_tmp2 rfl _ _ _) rfl ?_
    refine ⟨j, i, rfl, Or.inr ⟨rfl, rfl⟩, s + 1, Nat.le_refl _, ?_⟩
    exact S3.out
  | false =>
    go_wp2
    first | (rw [Exit.noGoto_ret]; refine bodyPost_ret (results_tmp2 rfl _ _ _) rfl ?_) | refine bodyPost_ret (results_tmp2 rfl _ _ _) rfl ?_
    exact ⟨i, j, rfl, Or.inl ⟨rfl, rfl⟩, s, Nat.le_succ _, S2.out⟩
/-- One of three places. -/
structure Tri (w0 : World) (blk e : Nat) (rest : Array Value) (n : Nat) (d : Array Nat) (sb s i j k x : Nat) (W : World) : Prop where
  ways : x = i ∨ x = j ∨ x = k
  sw : ∃ s2, s2 ≤ s + 3 ∧ Sw w0 blk e rest n d sb s2 W
set_option maxHeartbeats 2000000 in
set_option maxRecDepth 200000 in
theorem fmedian (w0 : World) (blk e : Nat) (rest : Array Value) (n cap : Nat) (d : Array Nat) (sb s i j k : Nat) (w : World) (S : Hid (Sw w0 blk e rest n d sb s w)) (hs : s ≤ 900) (hi : i < n) (hj : j < n) (hk : k < n) :
    Calls Try.prog 43 #[.slice (some ⟨blk, 0, none⟩) n cap, .int .i64 (i : Int), .int .i64 (j : Int), .int .i64 (k : Int), ptr sb] w fun r w' =>
      ∃ x : Nat, r = .returned (.int .i64 (x : Int)) ∧ Tri w0 blk e rest n d sb s i j k x w' := by
  go_enter Try.func43, Try.ntmps43
  go_wp2_with fail
  refine (forder w0 blk e rest n cap d sb s i j w S (by omega) hi hj).mono ?_
  rintro _ w1 ⟨i1, j1, rfl, H1⟩
  obtain ⟨s1, hs1, S1⟩ := H1.sw
  have S1 := Lib.hid S1
  have W1 := H1.ways
  have hi1 : i1 < n := by omega
  have hj1 : j1 < n := by omega
  have W1 := Lib.hid W1
  clear S H1
  go_wp2_with fail
  refine (forder w0 blk e rest n cap d sb s1 j1 k w1 S1 (by omega) hj1 hk).mono ?_
  rintro _ w2 ⟨j2, k2, rfl, H2⟩
  obtain ⟨s2, hs2, S2⟩ := H2.sw
  have S2 := Lib.hid S2
  have W2 := H2.ways
  have hj2 : j2 < n := by omega
  have W2 := Lib.hid W2
  clear S1 H2
  go_wp2_with fail
  refine (forder w0 blk e rest n cap d sb s2 i1 j2 w2 S2 (by omega) hi1 hj2).mono ?_
  rintro _ w3 ⟨i3, j3, rfl, H3⟩
  obtain ⟨s3, hs3, S3⟩ := H3.sw
  have W3 := Lib.hid H3.ways
  clear S2 H3
  go_wp2
  go_ret
  exact ⟨j3, rfl, by have := W1.out; have := W2.out; have := W3.out; omega, s3, by omega, S3⟩
set_option maxHeartbeats 2000000 in
set_option maxRecDepth 200000 in
theorem fmedadj (w0 : World) (blk e : Nat) (rest : Array Value) (n cap : Nat) (d : Array Nat) (sb s i : Nat) (w : World) (hn : n ≤ 1000000) (S : Hid (Sw w0 blk e rest n d sb s w)) (hs : s ≤ 900) (hi : i + 2 < n) :
    Calls Try.prog 42 #[.slice (some ⟨blk, 0, none⟩) n cap, .int .i64 ((i + 1 : Nat) : Int), ptr sb] w fun r w' =>
      ∃ x : Nat, r = .returned (.int .i64 (x : Int)) ∧ Tri w0 blk e rest n d sb s i (i + 1) (i + 2) x w' := by
  have v0 := wrap_nat i (by omega)
  have v1 := wrap_nat (i + 2) (by omega)
  have e1 : (i : Int) + 1 - 1 = (i : Int) := by omega
  have e2 : (i : Int) + 1 + 1 = ((i + 2 : Nat) : Int) := by omega
  have cc : Calls Try.prog 43 #[.slice (some ⟨blk, 0, none⟩) n cap, .int .i64 (i : Int), .int .i64 ((i + 1 : Nat) : Int), .int .i64 ((i + 2 : Nat) : Int), ptr sb] w fun r w' =>
      ∃ x : Nat, r = .returned (.int .i64 (x : Int)) ∧ Tri w0 blk e rest n d sb s i (i + 1) (i + 2) x w' := fmedian w0 blk e rest n cap d sb s i (i + 1) (i + 2) w S hs (by omega) (by omega) hi
  have cc := Lib.hid cc
  go_enter Try.func42, Try.ntmps42
  go_wp2_with fail
  refine cc.out.mono ?_
  rintro _ w1 ⟨x, rfl, H1⟩
  have H1 := Lib.hid H1
  clear S cc
  go_wp2
  go_ret
  exact ⟨x, rfl, H1.out⟩
theorem Sw.start {w0 W : World} {blk e : Nat} {rest : Array Value} {n : Nat} {d : Array Nat} (hS : Sx w0 blk e rest n d W) : Sw w0 blk e rest n d W.heap.size 0 (W.alloc (Obj.cells #[Value.int IntKind.i64 0] 3)) :=
  ⟨hS.alloc _, ⟨3, nest W [_] 0 _ rfl⟩, by have := hS.lt; omega, hS.oth.size⟩
set_option maxHeartbeats 4000000 in
set_option maxRecDepth 200000 in
theorem fchoose (w0 : World) (blk e : Nat) (rest : Array Value) (n cap a b : Nat) (d : Array Nat) (w : World) (hn : n ≤ 1000000) (S : Hid (Sx w0 blk e rest n d w)) (hab : a + 12 < b) (hb : b ≤ n) :
    Calls Try.prog 31 #[.slice (some ⟨blk, 0, none⟩) n cap, .int .i64 (a : Int), .int .i64 (b : Int)] w fun r w' =>
      ∃ x h : Nat, r = .returned (.tuple #[.int .i64 (x : Int), .int .i64 (h : Int)]) ∧ a ≤ x ∧ x < b ∧ h ≤ 2 ∧ Sx w0 blk e rest n d w' := by
  obtain ⟨l, hl⟩ : ∃ l, l = b - a := ⟨_, rfl⟩
  have l1 : (b : Int) - (a : Int) = (l : Int) := by omega
  have vl := wrap_nat l (by omega)
  obtain ⟨q, hq⟩ : ∃ q, q = l / 4 := ⟨_, rfl⟩
  have q1 : (l : Int) / 4 = (q : Int) := by omega
  have q2 : (l : Int).tdiv 4 = (q : Int) := by rw [Int.tdiv_eq_ediv_of_nonneg (by omega)]; omega
  have vq := wrap_nat q (by omega)
  have vq2 := wrap_nat (q * 2) (by omega)
  have vq3 := wrap_nat (q * 3) (by omega)
  have vi := wrap_nat (a + q) (by omega)
  have vj := wrap_nat (a + q * 2) (by omega)
  have vk := wrap_nat (a + q * 3) (by omega)
  have g8 : decide ((8 : Int) ≤ (l : Int)) = true := decide_eq_true (by omega)
  have g8n : (8 : Int) ≤ (l : Int) := by omega
  have nb : a + q * 3 + 2 < b := by omega
  have q3 : 3 ≤ q := by omega
  obtain ⟨sb, hsb⟩ : ∃ sb, sb = w.heap.size := ⟨_, rfl⟩
  have S1 : Hid (Sw w0 blk e rest n d sb 0 (w.alloc (Obj.cells #[Value.int IntKind.i64 0] 3))) := by rw [hsb]; exact Sw.start S.out
  have HB : Hid (sb = w.heap.size) := hsb
  have cm : ∀ (W : World) (s i j k : Nat) (J K L : Int), J = (i : Int) → K = (j : Int) → L = (k : Int) → i < n → j < n → k < n → s ≤ 900 → Hid (Sw w0 blk e rest n d sb s W) → Calls Try.prog 43 #[.slice (some ⟨blk, 0, none⟩) n cap, .int .i64 J, .int .i64 K, .int .i64 L, ptr sb] W fun r w' =>
      ∃ x : Nat, r = .returned (.int .i64 (x : Int)) ∧ Tri w0 blk e rest n d sb s i j k x w' := by
    intro W s i j k J K L hJ hK hL h1 h2 h3 h4 h5
    rw [hJ, hK, hL]
    exact fmedian w0 blk e rest n cap d sb s i j k W h5 h4 h1 h2 h3
  have ca : ∀ (W : World) (s i : Nat) (J : Int), J = (i : Int) → 1 ≤ i → i + 1 < n → s ≤ 900 → Hid (Sw w0 blk e rest n d sb s W) → Calls Try.prog 42 #[.slice (some ⟨blk, 0, none⟩) n cap, .int .i64 J, ptr sb] W fun r w' =>
      ∃ x : Nat, r = .returned (.int .i64 (x : Int)) ∧ Tri w0 blk e rest n d sb s (i - 1) i (i + 1) x w' := by
    intro W s i J hJ h1 h2 h3 h4
    obtain ⟨m, rfl⟩ : ∃ m, i = m + 1 := ⟨i - 1, by omega⟩
    rw [hJ]
    exact fmedadj w0 blk e rest n cap d sb s m W hn h4 h3 h2
  have cm := Lib.hid cm
  have ca := Lib.hid ca
  clear S hq hsb
  by_cases h50 : 50 ≤ l
  · have g50 : decide ((50 : Int) ≤ (l : Int)) = true := decide_eq_true (by omega)
    have g50n : (50 : Int) ≤ (l : Int) := by omega
    have HL : Hid (l = b - a) := hl
    clear hl
    go_enter Try.func31, Try.ntmps31
    go_wp2_with fail
    rw [← HB.out]
    generalize w.alloc (Obj.cells #[Value.int IntKind.i64 0] 3) = w1 at S1 ⊢
    refine (ca.out w1 0 (a + q) _ (by omega) (by omega) (by omega) (by omega) S1).mono ?_
    rintro _ w2 ⟨i, rfl, H⟩
    obtain ⟨s1, hs1, S2⟩ := H.sw
    have hi := H.ways
    have hi2 : a ≤ i ∧ i < b := by omega
    clear hi S1 H
    have S2 := Lib.hid S2
    go_wp2_with fail
    refine (ca.out w2 s1 (a + q * 2) _ (by omega) (by omega) (by omega) (by omega) S2).mono ?_
    rintro _ w3 ⟨j, rfl, H⟩
    obtain ⟨s2, hs2, S3⟩ := H.sw
    have hi := H.ways
    have hj2 : a ≤ j ∧ j < b := by omega
    clear hi S2 H
    have S3 := Lib.hid S3
    go_wp2_with fail
    refine (ca.out w3 s2 (a + q * 3) _ (by omega) (by omega) (by omega) (by omega) S3).mono ?_
    rintro _ w4 ⟨k, rfl, H⟩
    obtain ⟨s3, hs3, S4⟩ := H.sw
    have hi := H.ways
    have hk2 : a ≤ k ∧ k < b := by omega
    clear hi S3 H
    have S3 := Lib.hid S4
    clear S4
    go_wp2_with fail
    refine (cm.out w4 s3 i j k _ _ _ rfl rfl rfl (by omega) (by omega) (by omega) (by omega) S3).mono ?_
    rintro _ w5 ⟨x, rfl, H⟩
    obtain ⟨t, ht, S4⟩ := H.sw
    have hi := H.ways
    have hxa : a ≤ x := by omega
    have hxb : x < b := by omega
    have S4 := Lib.hid S4
    have c5 := S4.out.cell
    clear hi H
    clear S3
    by_cases h0 : t = 0
    · subst h0
      go_wp2
      go_ret2
      exact ⟨x, 1, rfl, hxa, hxb, by decide, S4.out.row⟩
    · have u0 : decide ((t : Int) = 0) = false := decide_eq_false (by omega)
      have u0n : ¬ (t : Int) = 0 := by omega
      by_cases h12 : t = 12
      · subst h12
        go_wp2
        go_ret2
        exact ⟨x, 2, rfl, hxa, hxb, by decide, S4.out.row⟩
      · have u1 : decide ((t : Int) = 12) = false := decide_eq_false (by omega)
        have u1n : ¬ (t : Int) = 12 := by omega
        go_wp2
        go_ret2
        exact ⟨x, 0, rfl, hxa, hxb, by decide, S4.out.row⟩
  · have g50 : decide ((50 : Int) ≤ (l : Int)) = false := decide_eq_false (by omega)
    have g50n : ¬ (50 : Int) ≤ (l : Int) := by omega
    have HL : Hid (l = b - a) := hl
    clear hl
    go_enter Try.func31, Try.ntmps31
    go_wp2_with fail
    rw [← HB.out]
    generalize w.alloc (Obj.cells #[Value.int IntKind.i64 0] 3) = w1 at S1 ⊢
    refine (cm.out w1 0 (a + q) (a + q * 2) (a + q * 3) _ _ _ (by omega) (by omega) (by omega) (by omega) (by omega) (by omega) (by omega) S1).mono ?_
    rintro _ w5 ⟨x, rfl, H⟩
    obtain ⟨t, ht, S4⟩ := H.sw
    have hi := H.ways
    have hxa : a ≤ x := by omega
    have hxb : x < b := by omega
    have S4 := Lib.hid S4
    have c5 := S4.out.cell
    have S3 := S1
    clear hi H S1
    clear S3
    by_cases h0 : t = 0
    · subst h0
      go_wp2
      go_ret2
      exact ⟨x, 1, rfl, hxa, hxb, by decide, S4.out.row⟩
    · have u0 : decide ((t : Int) = 0) = false := decide_eq_false (by omega)
      have u0n : ¬ (t : Int) = 0 := by omega
      by_cases h12 : t = 12
      · subst h12
        go_wp2
        go_ret2
        exact ⟨x, 2, rfl, hxa, hxb, by decide, S4.out.row⟩
      · have u1 : decide ((t : Int) = 12) = false := decide_eq_false (by omega)
        have u1n : ¬ (t : Int) = 12 := by omega
        go_wp2
        go_ret2
        exact ⟨x, 0, rfl, hxa, hxb, by decide, S4.out.row⟩
end Go.Proofs.Ytcadeoolacoidaa.Srt

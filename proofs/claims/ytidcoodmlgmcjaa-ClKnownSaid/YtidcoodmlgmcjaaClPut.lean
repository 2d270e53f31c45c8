/-
  What Put of layer 16 answers, whatever the piece; and the document's own Put, a theorem a head octet. Condition: a piece of at most a million bytes.
-/
import Derived.Test.YtidcoodmlgmcjaaClJoin
namespace Go.Proofs.Ytidcoodmlgmcjaa.Cl
open Go.RowKit Go.Proofs.Ytidcoodmlgmcjaa.Base Go.Proofs.Ytidcoodmlgmcjaa.Mem
theorem put_empty (i : Bool) (p : ByteArray) (h : p.size = 0) : put i p = ⟨e0, false, 70, i⟩ := by
  unfold put
  rw [if_neg (by omega)]
theorem put_bad (i : Bool) (p : ByteArray) (h : ¬ h0 p % 64 = 1) : put i p = ⟨e0, false, 70, i⟩ := by
  unfold put
  rw [if_neg (fun e => h e.2)]
theorem put_state (i : Bool) (p : ByteArray) (hp : 0 < p.size) (h : h0 p % 64 = 1) (hi : decide (128 ≤ h0 p) = i) : put i p = ⟨e0, false, 4, i⟩ := by
  unfold put
  rw [if_pos ⟨hp, h⟩, if_pos hi]
theorem put_ok (i : Bool) (p : ByteArray) (hp : 0 < p.size) (h : h0 p % 64 = 1) (hi : ¬ decide (128 ≤ h0 p) = i) (b : Bool) (hb : decide (h0 p / 64 % 2 = 1) = b) : put i p = ⟨p.extract 1 p.size, b, 0, !b⟩ := by
  unfold put
  rw [if_pos ⟨hp, h⟩, if_neg hi, hb]
theorem fPut (p : ByteArray) (hs : p.size ≤ 1000000) (i : Bool) (r : Jr) (hr : put i p = r) (w : World) (jb : Nat) (hj : JAt 45 w jb i) :
    Calls Try.prog 13 #[ptr jb, .string p] w fun e w' => e = .returned (jv r) ∧ JAt 45 w' jb r.i ∧ Only jb w w' := by
  subst hr
  by_cases hp : 0 < p.size
  · have hc := h0_eq hp
    by_cases h1 : h0 p % 64 = 1
    · by_cases h2 : decide (128 ≤ h0 p) = i
      · rw [put_state i p hp h1 h2]
        refine (fPut_state p hp (h0 p) hc (decide_eq_true h1) i h2 w jb hj).mono ?_
        rintro e w' ⟨rfl, hb⟩
        exact ⟨rfl, stays hj hb, Chg.of_below hb⟩
      · rw [put_ok i p hp h1 h2 _ rfl]
        exact fPut_ok p hp (h0 p) hc hs (decide_eq_true h1) _ i rfl (by rw [beq_eq_false_iff_ne]; exact h2) _ rfl w jb hj
    · rw [put_bad i p h1]
      refine (fPut_bad p hp (h0 p) hc (decide_eq_false h1) w jb).mono ?_
      rintro e w' ⟨rfl, rfl⟩
      exact ⟨rfl, hj, Chg.refl _ _⟩
  · have hz : p.size = 0 := by omega
    rw [put_empty i p hz]
    refine (fPut_empty p hz w jb).mono ?_
    rintro e w' ⟨rfl, rfl⟩
    exact ⟨rfl, hj, Chg.refl _ _⟩
theorem rPut_empty (p : ByteArray) (hp : p.size = 0) (w : World) (jb : Nat) : Calls Try.prog 14 #[ptr jb, .string p] w fun e w' => e = .returned (.tuple #[.string e0, .bool false, .int .i64 70]) ∧ w' = w := by
  have t1 : p.toList = [] := by rw [ByteArray.toList_eq]; exact List.eq_nil_of_length_eq_zero hp
  have t2 : p.toList.isEmpty = true := by rw [t1]; rfl
  clear hp
  go_enter Try.func14, Try.ntmps14
  go_wp2
  refine bodyPost_ret (results_tmp3 rfl _ _ _) rfl ?_
  exact ⟨rfl, rfl⟩
section
variable (p : ByteArray) (hp : 0 < p.size) (c : Nat) (hc : p[0].toNat = c)
include hp hc
set_option maxHeartbeats 1000000 in
theorem rPut_bad (h1 : ¬ c = 1) (h2 : ¬ c = 65) (h3 : ¬ c = 129) (h4 : ¬ c = 193) (w : World) (jb : Nat) : Calls Try.prog 14 #[ptr jb, .string p] w fun e w' => e = .returned (.tuple #[.string e0, .bool false, .int .i64 70]) ∧ w' = w := by
  have hc8 : c < 256 := hc ▸ oct_lt _
  have t1 := toList_ne hp
  have t2 : p.toList.isEmpty = false := by simpa using t1
  have t3 : (1 : Int) ≤ p.size := by omega
  have u1 : ((c : Int) != 1) = true := by rw [bne_iff_ne]; omega
  have u2 : ((c : Int) != 65) = true := by rw [bne_iff_ne]; omega
  have u3 : ((c : Int) != 129) = true := by rw [bne_iff_ne]; omega
  have u4 : ((c : Int) != 193) = true := by rw [bne_iff_ne]; omega
  have v1 : ¬ (c : Int) = 1 := by omega
  have v2 : ¬ (c : Int) = 65 := by omega
  have v3 : ¬ (c : Int) = 129 := by omega
  have v4 : ¬ (c : Int) = 193 := by omega
  clear h1 h2 h3 h4
  go_enter Try.func14, Try.ntmps14
  go_wp2
  refine bodyPost_ret (results_tmp3 rfl _ _ _) rfl ?_
  exact ⟨rfl, rfl⟩
end
section
variable (p : ByteArray) (hp : 0 < p.size)
include hp
theorem rPut_state_1 (hc : p[0].toNat = 1) (w : World) (jb : Nat) (hj : JAt 33 w jb false) : Calls Try.prog 14 #[ptr jb, .string p] w fun e w' => e = .returned (.tuple #[.string e0, .bool false, .int .i64 4]) ∧ w' = w := by
  have t1 := toList_ne hp
  have t2 : p.toList.isEmpty = false := by simpa using t1
  have t3 : (1 : Int) ≤ p.size := by omega
  have c1 : w.cell? ⟨jb, 0, none⟩ = some (.bool false) := cell_of hj rfl
  clear hj
  go_enter Try.func14, Try.ntmps14
  go_wp2
  refine bodyPost_ret (results_tmp3 rfl _ _ _) rfl ?_
  exact ⟨rfl, rfl⟩
theorem rPut_state_65 (hc : p[0].toNat = 65) (w : World) (jb : Nat) (hj : JAt 33 w jb false) : Calls Try.prog 14 #[ptr jb, .string p] w fun e w' => e = .returned (.tuple #[.string e0, .bool false, .int .i64 4]) ∧ w' = w := by
  have t1 := toList_ne hp
  have t2 : p.toList.isEmpty = false := by simpa using t1
  have t3 : (1 : Int) ≤ p.size := by omega
  have c1 : w.cell? ⟨jb, 0, none⟩ = some (.bool false) := cell_of hj rfl
  clear hj
  go_enter Try.func14, Try.ntmps14
  go_wp2
  refine bodyPost_ret (results_tmp3 rfl _ _ _) rfl ?_
  exact ⟨rfl, rfl⟩
theorem rPut_state_129 (hc : p[0].toNat = 129) (w : World) (jb : Nat) (hj : JAt 33 w jb true) : Calls Try.prog 14 #[ptr jb, .string p] w fun e w' => e = .returned (.tuple #[.string e0, .bool false, .int .i64 4]) ∧ w' = w := by
  have t1 := toList_ne hp
  have t2 : p.toList.isEmpty = false := by simpa using t1
  have t3 : (1 : Int) ≤ p.size := by omega
  have c1 : w.cell? ⟨jb, 0, none⟩ = some (.bool true) := cell_of hj rfl
  clear hj
  go_enter Try.func14, Try.ntmps14
  go_wp2
  refine bodyPost_ret (results_tmp3 rfl _ _ _) rfl ?_
  exact ⟨rfl, rfl⟩
theorem rPut_state_193 (hc : p[0].toNat = 193) (w : World) (jb : Nat) (hj : JAt 33 w jb true) : Calls Try.prog 14 #[ptr jb, .string p] w fun e w' => e = .returned (.tuple #[.string e0, .bool false, .int .i64 4]) ∧ w' = w := by
  have t1 := toList_ne hp
  have t2 : p.toList.isEmpty = false := by simpa using t1
  have t3 : (1 : Int) ≤ p.size := by omega
  have c1 : w.cell? ⟨jb, 0, none⟩ = some (.bool true) := cell_of hj rfl
  clear hj
  go_enter Try.func14, Try.ntmps14
  go_wp2
  refine bodyPost_ret (results_tmp3 rfl _ _ _) rfl ?_
  exact ⟨rfl, rfl⟩
theorem rPut_ok_1 (hc : p[0].toNat = 1) (w : World) (jb : Nat) (hj : JAt 33 w jb true) : Calls Try.prog 14 #[ptr jb, .string p] w fun e w' => e = .returned (.tuple #[.string (p.extract 1 p.size), .bool false, .int .i64 0]) ∧ w' = w.setCell ⟨jb, 0, none⟩ (.bool true) := by
  have t1 := toList_ne hp
  have t2 : p.toList.isEmpty = false := by simpa using t1
  have t3 : (1 : Int) ≤ p.size := by omega
  have c1 : w.cell? ⟨jb, 0, none⟩ = some (.bool true) := cell_of hj rfl
  have f1 : w.frozen? ⟨jb, 0, none⟩ = false := free_of hj
  clear hj
  go_enter Try.func14, Try.ntmps14
  go_wp2
  refine bodyPost_ret (results_tmp3 rfl _ _ _) rfl ?_
  exact ⟨rfl, rfl⟩
theorem rPut_ok_65 (hc : p[0].toNat = 65) (w : World) (jb : Nat) (hj : JAt 33 w jb true) : Calls Try.prog 14 #[ptr jb, .string p] w fun e w' => e = .returned (.tuple #[.string (p.extract 1 p.size), .bool true, .int .i64 0]) ∧ w' = w.setCell ⟨jb, 0, none⟩ (.bool false) := by
  have t1 := toList_ne hp
  have t2 : p.toList.isEmpty = false := by simpa using t1
  have t3 : (1 : Int) ≤ p.size := by omega
  have c1 : w.cell? ⟨jb, 0, none⟩ = some (.bool true) := cell_of hj rfl
  have f1 : w.frozen? ⟨jb, 0, none⟩ = false := free_of hj
  clear hj
  go_enter Try.func14, Try.ntmps14
  go_wp2
  refine bodyPost_ret (results_tmp3 rfl _ _ _) rfl ?_
  exact ⟨rfl, rfl⟩
theorem rPut_ok_129 (hc : p[0].toNat = 129) (w : World) (jb : Nat) (hj : JAt 33 w jb false) : Calls Try.prog 14 #[ptr jb, .string p] w fun e w' => e = .returned (.tuple #[.string (p.extract 1 p.size), .bool false, .int .i64 0]) ∧ w' = w.setCell ⟨jb, 0, none⟩ (.bool true) := by
  have t1 := toList_ne hp
  have t2 : p.toList.isEmpty = false := by simpa using t1
  have t3 : (1 : Int) ≤ p.size := by omega
  have c1 : w.cell? ⟨jb, 0, none⟩ = some (.bool false) := cell_of hj rfl
  have f1 : w.frozen? ⟨jb, 0, none⟩ = false := free_of hj
  clear hj
  go_enter Try.func14, Try.ntmps14
  go_wp2
  refine bodyPost_ret (results_tmp3 rfl _ _ _) rfl ?_
  exact ⟨rfl, rfl⟩
theorem rPut_ok_193 (hc : p[0].toNat = 193) (w : World) (jb : Nat) (hj : JAt 33 w jb false) : Calls Try.prog 14 #[ptr jb, .string p] w fun e w' => e = .returned (.tuple #[.string (p.extract 1 p.size), .bool true, .int .i64 0]) ∧ w' = w.setCell ⟨jb, 0, none⟩ (.bool false) := by
  have t1 := toList_ne hp
  have t2 : p.toList.isEmpty = false := by simpa using t1
  have t3 : (1 : Int) ≤ p.size := by omega
  have c1 : w.cell? ⟨jb, 0, none⟩ = some (.bool false) := cell_of hj rfl
  have f1 : w.frozen? ⟨jb, 0, none⟩ = false := free_of hj
  clear hj
  go_enter Try.func14, Try.ntmps14
  go_wp2
  refine bodyPost_ret (results_tmp3 rfl _ _ _) rfl ?_
  exact ⟨rfl, rfl⟩
end
theorem head_is {c : Nat} (hc : c < 256) (h : c % 64 = 1) : c = 1 ∨ c = 65 ∨ c = 129 ∨ c = 193 := by omega
theorem rPut (p : ByteArray) (i : Bool) (r : Jr) (hr : put i p = r) (w : World) (jb : Nat) (hj : JAt 33 w jb i) :
    Calls Try.prog 14 #[ptr jb, .string p] w fun e w' => e = .returned (jv r) ∧ JAt 33 w' jb r.i ∧ Only jb w w' := by
  subst hr
  by_cases hp : 0 < p.size
  · have hc := h0_eq hp
    by_cases h1 : h0 p % 64 = 1
    · rcases head_is (h0_lt p) h1 with h | h | h | h <;> rw [h] at hc <;> cases i
      · rw [put_state _ p hp h1 (by rw [h]; rfl)]
        refine (rPut_state_1 p hp hc w jb hj).mono ?_
        rintro e w' ⟨rfl, rfl⟩
        exact ⟨rfl, hj, Chg.refl _ _⟩
      · rw [put_ok _ p hp h1 (by rw [h]; decide) false (by rw [h]; rfl)]
        refine (rPut_ok_1 p hp hc w jb hj).mono ?_
        rintro e w' ⟨rfl, rfl⟩
        exact ⟨rfl, hj.set _, (Chg.refl (fun k => k = jb) _).setCell jb 0 _ fun _ => rfl⟩
      · rw [put_state _ p hp h1 (by rw [h]; rfl)]
        refine (rPut_state_65 p hp hc w jb hj).mono ?_
        rintro e w' ⟨rfl, rfl⟩
        exact ⟨rfl, hj, Chg.refl _ _⟩
      · rw [put_ok _ p hp h1 (by rw [h]; decide) true (by rw [h]; rfl)]
        refine (rPut_ok_65 p hp hc w jb hj).mono ?_
        rintro e w' ⟨rfl, rfl⟩
        exact ⟨rfl, hj.set _, (Chg.refl (fun k => k = jb) _).setCell jb 0 _ fun _ => rfl⟩
      · rw [put_ok _ p hp h1 (by rw [h]; decide) false (by rw [h]; rfl)]
        refine (rPut_ok_129 p hp hc w jb hj).mono ?_
        rintro e w' ⟨rfl, rfl⟩
        exact ⟨rfl, hj.set _, (Chg.refl (fun k => k = jb) _).setCell jb 0 _ fun _ => rfl⟩
      · rw [put_state _ p hp h1 (by rw [h]; rfl)]
        refine (rPut_state_129 p hp hc w jb hj).mono ?_
        rintro e w' ⟨rfl, rfl⟩
        exact ⟨rfl, hj, Chg.refl _ _⟩
      · rw [put_ok _ p hp h1 (by rw [h]; decide) true (by rw [h]; rfl)]
        refine (rPut_ok_193 p hp hc w jb hj).mono ?_
        rintro e w' ⟨rfl, rfl⟩
        exact ⟨rfl, hj.set _, (Chg.refl (fun k => k = jb) _).setCell jb 0 _ fun _ => rfl⟩
      · rw [put_state _ p hp h1 (by rw [h]; rfl)]
        refine (rPut_state_193 p hp hc w jb hj).mono ?_
        rintro e w' ⟨rfl, rfl⟩
        exact ⟨rfl, hj, Chg.refl _ _⟩
    · rw [put_bad i p h1]
      refine (rPut_bad p hp (h0 p) hc (fun e => h1 (by rw [e])) (fun e => h1 (by rw [e])) (fun e => h1 (by rw [e])) (fun e => h1 (by rw [e])) w jb).mono ?_
      rintro e w' ⟨rfl, rfl⟩
      exact ⟨rfl, hj, Chg.refl _ _⟩
  · have hz : p.size = 0 := by omega
    rw [put_empty i p hz]
    refine (rPut_empty p hz w jb).mono ?_
    rintro e w' ⟨rfl, rfl⟩
    exact ⟨rfl, hj, Chg.refl _ _⟩
/-- A joiner that New made. -/
theorem fNew2 (w : World) : Calls Try.prog 12 #[] w fun e w' => ∃ jb, e = .returned (ptr jb) ∧ w.heap.size ≤ jb ∧ JAt 45 w' jb false ∧ Below w.heap.size w w' := by
  refine (fNew w).mono ?_
  rintro e w' ⟨rfl, rfl⟩
  exact ⟨_, rfl, Nat.le_refl _, nest w [_] 0 _ rfl, nest_below w [_]⟩
theorem only_grown {jb : Nat} {w w' : World} (h : Only jb w w') : w.grownBy w' (some jb) := ⟨h.os, h.tape, h.output, h.size, fun k hk hn => h.block k hk fun e => hn (by rw [e])⟩
theorem row_only {jb base : Nat} {w w' : World} {v : Value} {l : List ByteArray} (h : RowB w base v l) (hc : Only jb w w') (hn : ∀ g, v.ownBlock = some g → g < jb) : RowB w' base v l :=
  h.grown (only_grown hc) (Or.inr fun e => Nat.lt_irrefl _ (hn jb e))
end Go.Proofs.Ytidcoodmlgmcjaa.Cl

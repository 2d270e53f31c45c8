/-
  What Window of layer 13, and the document's own Window and In, answer: a row of octets in new memory. No condition but the bounds of octets.
-/
import Derived.Test.YthdkohjpopjgmaaSqRef
namespace Go.Proofs.Ythdkohjpopjgmaa.Sq
open Go.RowKit Go.Proofs.Ythdkohjpopjgmaa.Base Go.Proofs.Ythdkohjpopjgmaa.Mem
/-- A window that was made since w0. -/
structure Wd (w0 w : World) (l : List Nat) (c : Nat) (oa : Option Addr) (cap : Nat) : Prop where
  row : Row w w0.heap.size (.slice oa c cap) l
  len : l.length = c
  at' : ∀ i, i < c → ∃ g, oa = some ⟨g, 0, none⟩ ∧ w0.heap.size ≤ g ∧ g < w.heap.size
  below : Below w0.heap.size w0 w
theorem wd_of {w0 w : World} {v : Value} {l : List Nat} {c : Nat} (h : Row w w0.heap.size v l) (hl : l.length = c) (hb : Below w0.heap.size w0 w) : ∃ oa cap, v = .slice oa c cap ∧ Wd w0 w l c oa cap := by
  obtain ⟨oa, cap, e, hg⟩ := row_form h
  rw [hl] at e hg
  subst e
  exact ⟨oa, cap, rfl, h, hl, hg, hb⟩
/-- One octet more. -/
theorem grow_row {w0 wr w4 : World} {v : Value} {l : List Nat} {z : Nat} (hB : Below w0.heap.size w0 wr) (hO : Row wr w0.heap.size v l) (hg : (wr.alloc (.cells #[oc z] 5)).grownBy w4 v.ownBlock) : Below w0.heap.size w0 w4 :=
  (hB.alloc hB.size _).grown hg (by rw [size_alloc]; have := hB.size; omega) fun k hk => (hO.lt k hk).1
set_option maxHeartbeats 1000000 in
theorem fWindow (a : Nat) (n : Int) (c : Nat) (ha : a < 256) (hc : ct n = c) (w : World) :
    Calls Try.prog 14 #[oc a, .int .i64 n] w fun e w' => ∃ oa cap, e = .returned (.slice oa c cap) ∧ Wd w w' (win a c) c oa cap := by
  obtain ⟨b, hb⟩ : ∃ b : Nat, a % 8 = b := ⟨_, rfl⟩
  have hb8 : b < 8 := by omega
  have hc7 : c ≤ 7 := hc ▸ ct_le n
  have C1 := Lib.hid (fun w => fcount n c hc w)
  have C2 := Lib.hid (fun w => fnumberOf a b ha hb w)
  have HB := Lib.hid hb
  have O0 : Hid (Row w w.heap.size (.slice none 0 0) (win a 0)) := ownS_nil _ _
  have G0 : Hid (Below w.heap.size w w) := Below.refl _ _
  clear hb hc
  go_enter Try.func14, Try.ntmps14
  go_wp2_with (first
    | (go_at_call 24; ((with_reducible refine (C1.out _).mono ?_); rintro e w' ⟨rfl, rfl⟩)))
  go_loopg [5, 9] c (fun g s i wr => ∃ (k : Nat) (v : Value), s = v ∧ i = nm k ∧ c - k ≤ g ∧ k ≤ c ∧ Hid (Row wr w.heap.size v (win a k)) ∧ Hid (Below w.heap.size w wr))
  case atStart => exact ⟨0, _, rfl, rfl, by omega, by omega, O0, G0⟩
  case round =>
    clear O0 G0
    obtain ⟨k, v, hv, rfl, hg, hk, O1, G1⟩ := hrel
    have hv2 := hv.symm
    clear hv
    subst hv2
    by_cases hlt : k < c
    · have t1 : decide ((k : Int) < (c : Int)) = true := decide_eq_true (by omega)
      have t2 : (k : Int) < (c : Int) := by omega
      obtain ⟨z, hz⟩ : ∃ z : Nat, (a + k) % 8 = z := ⟨_, rfl⟩
      have hzb : ad b (k : Int) = z := by have := HB.out; unfold ad; omega
      have C3 := Lib.hid (fun w => fplus b (k : Int) z hb8 hzb w)
      have v1 := wrap_nat (k + 1) (by omega)
      have v2 := wrap_u8 z (by omega)
      have HLN : Hid ((win a k).length + 1 ≤ 1000000) := by show _ + 1 ≤ _; rw [win_len]; omega
      have O2 : Hid (Row (wr.alloc (.cells #[oc z] 5)) w.heap.size v (win a k)) := O1.out.alloc _
      have HSZ : Hid (w.heap.size ≤ (wr.alloc (.cells #[oc z] 5)).heap.size) := by
        show _ ≤ _
        rw [size_alloc]
        have := G1.out.size
        omega
      have HZ := Lib.hid hz
      clear hz hzb
      go_wp2_with (first
        | (go_at_call 20; ((with_reducible refine (C2.out _).mono ?_); rintro e w' ⟨rfl, rfl⟩))
        | (go_at_call 21; ((with_reducible refine (C3.out _).mono ?_); rintro e w' ⟨rfl, rfl⟩))
        | (at_builtin; refine wpList_append_elt eltU _ rfl _ _ rfl w.heap.size v rfl _ O2.out wr.heap.size 1 rfl z (rowu wr z) HLN.out HSZ.out ?_; intro v4 w4 hown hgrow hat; have O4 : Hid (Row w4 w.heap.size v4 (win a (k + 1))) := Lib.hid (by rw [win_succ, HZ.out]; exact hown); have G4 := Lib.hid (grow_row G1.out O1.out hgrow); clear hown hgrow hat O2 HSZ O1 G1))
      go_roundg (c - (k + 1))
      case measure => omega
      case rel => exact ⟨k + 1, v4, rfl, by first | rfl | go_num, Nat.le_refl _, by omega, O4, G4⟩
    · have t1 : decide ((k : Int) < (c : Int)) = false := decide_eq_false (by omega)
      have t2 : ¬ (k : Int) < (c : Int) := by omega
      obtain rfl : k = c := by omega
      obtain ⟨oa, cap, rfl, hw⟩ := wd_of O1.out (win_len _ _) G1.out
      have HW := Lib.hid hw
      clear hw
      go_wp2
      go_ret
      exact ⟨_, _, rfl, HW.out⟩
set_option maxHeartbeats 1000000 in
theorem rWindow (a : Nat) (n : Int) (c : Nat) (ha : a < 256) (hc : ct n = c) (w : World) :
    Calls Try.prog 13 #[oc a, .int .i64 n] w fun e w' => ∃ oa cap, e = .returned (.slice oa c cap) ∧ Wd w w' (win a c) c oa cap := by
  obtain ⟨b, hb⟩ : ∃ b : Nat, a % 8 = b := ⟨_, rfl⟩
  have qb : (a : Int) % 8 = (b : Int) := by omega
  have hb8 : b < 8 := by omega
  have hc7 : c ≤ 7 := hc ▸ ct_le n
  have HC := Lib.hid (ct_cast n)
  rw [hc] at HC
  have HB : Hid ((a + 0) % 8 = b) := Lib.hid (by omega)
  have O0 : Hid (Row w w.heap.size (.slice none 0 0) (win a 0)) := ownS_nil _ _
  have G0 : Hid (Below w.heap.size w w) := Below.refl _ _
  clear hb hc
  go_enter Try.func13, Try.ntmps13
  go_wp2
  simp only [qb]
  go_loopg [5, 6, 7] c (fun g s x i wr => ∃ (k y : Nat) (v : Value), s = v ∧ x = oc y ∧ i = nm k ∧ c - k ≤ g ∧ k ≤ c ∧ y < 8 ∧ Hid ((a + k) % 8 = y) ∧ Hid (Row wr w.heap.size v (win a k)) ∧ Hid (Below w.heap.size w wr))
  case atStart => exact ⟨0, b, _, rfl, rfl, rfl, by omega, by omega, hb8, HB, O0, G0⟩
  case round =>
    clear O0 G0
    obtain ⟨k, z, v, hv, rfl, rfl, hg, hk, hz, HZ, O1, G1⟩ := hrel
    have hv2 := hv.symm
    clear hv
    subst hv2
    have HCC := HC.out
    by_cases hlt : k < c
    · have t1 : decide ((k : Int) < n) = true := decide_eq_true (by omega)
      have t2 : (k : Int) < n := by omega
      have t3 : decide ((k : Int) < 7) = true := decide_eq_true (by omega)
      have t4 : (k : Int) < 7 := by omega
      obtain ⟨u, h1, h2, h3⟩ := mod_next a k z HZ.out
      have CN := Lib.hid (fun w => fnext z u hz h1 w)
      have HU := Lib.hid h2
      have v1 := wrap_nat (k + 1) (by omega)
      have HLN : Hid ((win a k).length + 1 ≤ 1000000) := by show _ + 1 ≤ _; rw [win_len]; omega
      have O2 : Hid (Row (wr.alloc (.cells #[oc z] 5)) w.heap.size v (win a k)) := O1.out.alloc _
      have HSZ : Hid (w.heap.size ≤ (wr.alloc (.cells #[oc z] 5)).heap.size) := by
        show _ ≤ _
        rw [size_alloc]
        have := G1.out.size
        omega
      clear h1 h2 HCC
      go_wp2_with (first
        | (at_builtin; refine wpList_append_elt eltU _ rfl _ _ rfl w.heap.size v rfl _ O2.out wr.heap.size 1 rfl z (rowu wr z) HLN.out HSZ.out ?_; intro v4 w4 hown hgrow hat; have O4 : Hid (Row w4 w.heap.size v4 (win a (k + 1))) := Lib.hid (by rw [win_succ, HZ.out]; exact hown); have G4 := Lib.hid (grow_row G1.out O1.out hgrow); clear hown hgrow hat O2 HSZ O1 G1)
        | (go_at_call 22; ((with_reducible refine (CN.out _).mono ?_); rintro e w' ⟨rfl, rfl⟩)))
      go_roundg (c - (k + 1))
      case measure => omega
      case rel => exact ⟨k + 1, u, v4, rfl, rfl, by first | rfl | go_num, Nat.le_refl _, by omega, h3, HU, O4, G4⟩
    · obtain rfl : k = c := by omega
      obtain ⟨oa, cap, rfl, hw⟩ := wd_of O1.out (win_len _ _) G1.out
      have HW := Lib.hid hw
      clear hw
      by_cases hn : (k : Int) < n
      · have t1 : decide ((k : Int) < n) = true := decide_eq_true hn
        have t3 : decide ((k : Int) < 7) = false := decide_eq_false (by omega)
        have t4 : ¬ (k : Int) < 7 := by omega
        clear HCC
        go_wp2
        go_ret
        exact ⟨_, _, rfl, HW.out⟩
      · have t1 : decide ((k : Int) < n) = false := decide_eq_false hn
        clear HCC
        go_wp2
        go_ret
        exact ⟨_, _, rfl, HW.out⟩
set_option maxHeartbeats 1000000 in
theorem rIn (a : Nat) (n : Int) (x : Nat) (b : Bool) (ha : a < 256) (hx : x < 256) (hb : decide (wy a x < ct n) = b) (w : World) :
    Calls Try.prog 17 #[oc a, .int .i64 n, oc x] w fun e w' => e = .returned (.bool b) ∧ Below w.heap.size w w' := by
  obtain ⟨r, hr⟩ : ∃ r, wy a x = r := ⟨_, rfl⟩
  obtain ⟨c, hc⟩ : ∃ c, ct n = c := ⟨_, rfl⟩
  obtain ⟨y, hy⟩ : ∃ y : Nat, x % 8 = y := ⟨_, rfl⟩
  have qy : (x : Int) % 8 = (y : Int) := by omega
  have hc7 : c ≤ 7 := hc ▸ ct_le n
  have hr8 : r < 8 := hr ▸ wy_lt a x
  have C1 := Lib.hid (fun w => rWindow a n c ha hc w)
  have HE : Hid (∀ i z, i < 8 → (a + i) % 8 = z → (z = y ↔ i = r)) := Lib.hid (fun i z hi hz => by
    have := wy_at a x i hi
    rw [hr, hy, hz] at this
    exact this.trans eq_comm)
  rw [hr, hc] at hb
  have HBB := Lib.hid hb
  clear hr hc hy hb
  go_enter Try.func17, Try.ntmps17
  go_wp2_with fail
  refine (C1.out _).mono ?_
  rintro _ w1 ⟨oa, cap, rfl, hw⟩
  have HW := Lib.hid hw
  clear hw
  go_wp2_with fail
  go_loopg [8] c (fun g i wr => ∃ k : Nat, i = nm k ∧ c - k ≤ g ∧ k ≤ c ∧ Hid (k ≤ r) ∧ w1 = wr)
  case atStart => exact ⟨0, rfl, by omega, by omega, Nat.zero_le _, rfl⟩
  case round =>
    obtain ⟨k, rfl, hg, hk, HK, rfl⟩ := hrel
    by_cases hlt : k < c
    · have t1 : decide ((k : Int) < (c : Int)) = true := decide_eq_true (by omega)
      have t2 : (k : Int) < (c : Int) := by omega
      obtain ⟨g1, rfl, h5, h6⟩ := HW.out.at' k hlt
      obtain ⟨z, hz⟩ : ∃ z : Nat, (a + k) % 8 = z := ⟨_, rfl⟩
      have c1 : w1.cell? ⟨g1, k, none⟩ = some (oc z) := by
        rw [← hz]
        exact row_cell HW.out.row (win_get a c k hlt)
      have hE := HE.out k z (by omega) hz
      clear hz h5 h6
      by_cases hkr : k = r
      · subst hkr
        obtain rfl : z = y := hE.2 rfl
        have t3 : ((z : Int) == (z : Int)) = true := beq_self_eq_true _
        obtain rfl : b = true := by rw [← HBB.out]; exact decide_eq_true hlt
        clear hE
        go_wp2
        go_ret
        exact ⟨rfl, HW.out.below⟩
      · have hne : ¬ z = y := fun e => hkr (hE.1 e)
        have t3 : ((z : Int) == (y : Int)) = false := by rw [beq_eq_false_iff_ne]; omega
        have t4 : ¬ (z : Int) = (y : Int) := by omega
        have HK2 : Hid (k + 1 ≤ r) := by have := HK.out; show _ ≤ _; omega
        have v1 := wrap_nat (k + 1) (by omega)
        clear hE
        go_wp2
        go_roundg (c - (k + 1))
        case measure => omega
        case rel => exact ⟨k + 1, by first | rfl | go_num, Nat.le_refl _, by omega, HK2, by first | rfl | trivial⟩
    · have t1 : decide ((k : Int) < (c : Int)) = false := decide_eq_false (by omega)
      have t2 : ¬ (k : Int) < (c : Int) := by omega
      obtain rfl : b = false := by rw [← HBB.out]; have := HK.out; exact decide_eq_false (by omega)
      go_wp2
      go_ret
      exact ⟨rfl, HW.out.below⟩
end Go.Proofs.Ythdkohjpopjgmaa.Sq

/-
  What the document's own Add, Way and Acks of layer 13 answer. No condition but the bounds of octets.
-/
import Derived.Test.YthdkohjpopjgmaaSqSmall
import Derived.Deep.LoopGhost
namespace Go.Proofs.Ythdkohjpopjgmaa.Sq
open Go.RowKit Go.Proofs.Ythdkohjpopjgmaa.Base Go.Proofs.Ythdkohjpopjgmaa.Mem
theorem tmod_neg (n : Int) (s : Nat) (hs : n % 8 = (s : Int)) (h : n.tmod 8 < 0) : n.tmod 8 = (s : Int) - 8 := by
  rw [Int.tmod_eq_emod] at h ⊢
  split at h <;> split <;> omega
theorem tmod_pos (n : Int) (s : Nat) (hs : n % 8 = (s : Int)) (h : ¬ n.tmod 8 < 0) : n.tmod 8 = (s : Int) := by
  rw [Int.tmod_eq_emod] at h ⊢
  split at h <;> split <;> omega
theorem mod_next (a k x : Nat) (hx : (a + k) % 8 = x) : ∃ y, (x + 1) % 8 = y ∧ (a + (k + 1)) % 8 = y ∧ y < 8 := ⟨(x + 1) % 8, rfl, by omega, by omega⟩
set_option maxHeartbeats 1000000 in
theorem radd (a : Nat) (n : Int) (r : Nat) (ha : a < 256) (hr : ad a n = r) (w : World) :
    Calls Try.prog 9 #[oc a, .int .i64 n] w fun e w' => e = .returned (oc r) ∧ w = w' := by
  obtain ⟨s, hs⟩ : ∃ s : Nat, n % 8 = (s : Int) := ⟨(n % 8).toNat, by omega⟩
  have hs8 : s < 8 := by omega
  obtain ⟨b, hb⟩ : ∃ b : Nat, a % 8 = b := ⟨_, rfl⟩
  have qb : (a : Int) % 8 = (b : Int) := by omega
  have HR : Hid ((a + s) % 8 = r) := Lib.hid (by unfold ad at hr; omega)
  have HB : Hid ((a + 0) % 8 = b) := Lib.hid (by omega)
  have hb8 : b < 8 := by omega
  by_cases hneg : n.tmod 8 < 0
  · obtain ⟨t, ht⟩ : ∃ t : Int, n.tmod 8 = t := ⟨_, rfl⟩
    have e := tmod_neg n s hs hneg
    rw [ht] at hneg e
    have t1 : decide (t < 0) = true := decide_eq_true hneg
    have q2 : IntKind.i64.wrap (t + 8) = (s : Int) := by rw [IntKind.wrap_i64]; omega
    have q3 : t + 8 = (s : Int) := by omega
    clear e
    clear hs hr hb
    go_enter Try.func9, Try.ntmps9
    go_wp2
    simp only [qb]
    go_loopg [6, 7] s (fun g x i wr => ∃ k y : Nat, x = oc y ∧ i = nm k ∧ s - k ≤ g ∧ k ≤ s ∧ y < 8 ∧ Hid ((a + k) % 8 = y) ∧ w = wr)
    case atStart => exact ⟨0, b, by first | rfl | exact congrArg (Value.int .u8) qb, rfl, by omega, by omega, hb8, HB, rfl⟩
    case round =>
      obtain ⟨k, y, rfl, rfl, hg, hk, hy, HY, rfl⟩ := hrel
      by_cases hlt : k < s
      · have t2 : decide ((k : Int) < (s : Int)) = true := decide_eq_true (by omega)
        have t3 : (k : Int) < (s : Int) := by omega
        obtain ⟨z, h1, h2, h3⟩ := mod_next a k y HY.out
        have CN := Lib.hid (fun w => fnext y z hy h1 w)
        have HZ := Lib.hid h2
        have v1 := wrap_nat (k + 1) (by omega)
        clear h1 h2
        go_wp2_with (first
          | (go_at_call 22; ((with_reducible refine (CN.out _).mono ?_); rintro e w' ⟨rfl, rfl⟩)))
        go_roundg (s - (k + 1))
        case measure => omega
        case rel => exact ⟨k + 1, z, rfl, by first | rfl | go_num, Nat.le_refl _, by omega, h3, HZ, by first | rfl | trivial⟩
      · have t2 : decide ((k : Int) < (s : Int)) = false := decide_eq_false (by omega)
        have t3 : ¬ (k : Int) < (s : Int) := by omega
        obtain rfl : k = s := by omega
        obtain rfl : y = r := HY.out.symm.trans HR.out
        go_wp2
        go_ret
        exact ⟨rfl, rfl⟩
  · have ht := tmod_pos n s hs hneg
    clear hneg
    clear hs hr hb
    go_enter Try.func9, Try.ntmps9
    go_wp2
    simp only [qb]
    go_loopg [6, 7] s (fun g x i wr => ∃ k y : Nat, x = oc y ∧ i = nm k ∧ s - k ≤ g ∧ k ≤ s ∧ y < 8 ∧ Hid ((a + k) % 8 = y) ∧ w = wr)
    case atStart => exact ⟨0, b, by first | rfl | exact congrArg (Value.int .u8) qb, rfl, by omega, by omega, hb8, HB, rfl⟩
    case round =>
      obtain ⟨k, y, rfl, rfl, hg, hk, hy, HY, rfl⟩ := hrel
      by_cases hlt : k < s
      · have t2 : decide ((k : Int) < (s : Int)) = true := decide_eq_true (by omega)
        have t3 : (k : Int) < (s : Int) := by omega
        obtain ⟨z, h1, h2, h3⟩ := mod_next a k y HY.out
        have CN := Lib.hid (fun w => fnext y z hy h1 w)
        have HZ := Lib.hid h2
        have v1 := wrap_nat (k + 1) (by omega)
        clear h1 h2
        go_wp2_with (first
          | (go_at_call 22; ((with_reducible refine (CN.out _).mono ?_); rintro e w' ⟨rfl, rfl⟩)))
        go_roundg (s - (k + 1))
        case measure => omega
        case rel => exact ⟨k + 1, z, rfl, by first | rfl | go_num, Nat.le_refl _, by omega, h3, HZ, by first | rfl | trivial⟩
      · have t2 : decide ((k : Int) < (s : Int)) = false := decide_eq_false (by omega)
        have t3 : ¬ (k : Int) < (s : Int) := by omega
        obtain rfl : k = s := by omega
        obtain rfl : y = r := HY.out.symm.trans HR.out
        go_wp2
        go_ret
        exact ⟨rfl, rfl⟩
set_option maxHeartbeats 1000000 in
theorem rway (a b r : Nat) (ha : a < 256) (hb : b < 256) (hr : wy a b = r) (w : World) :
    Calls Try.prog 11 #[oc a, oc b] w fun e w' => e = .returned (nm r) ∧ w = w' := by
  obtain ⟨x, hx⟩ : ∃ x : Nat, a % 8 = x := ⟨_, rfl⟩
  obtain ⟨y, hy⟩ : ∃ y : Nat, b % 8 = y := ⟨_, rfl⟩
  have qx : (a : Int) % 8 = (x : Int) := by omega
  have qy : (b : Int) % 8 = (y : Int) := by omega
  have hr8 : r < 8 := hr ▸ wy_lt a b
  have HX : Hid ((a + 0) % 8 = x) := Lib.hid (by omega)
  have HE : Hid (∀ i z, i < 8 → (a + i) % 8 = z → (z = y ↔ i = r)) := Lib.hid (fun i z hi hz => by
    have := wy_at a b i hi
    rw [hr, hy, hz] at this
    exact this.trans eq_comm)
  have hx8 : x < 8 := by omega
  clear hx hy hr
  go_enter Try.func11, Try.ntmps11
  go_wp2
  simp only [qx]
  go_loopg [5, 6] r (fun g i v wr => ∃ k z : Nat, i = nm k ∧ v = oc z ∧ r - k ≤ g ∧ k ≤ r ∧ z < 8 ∧ Hid ((a + k) % 8 = z) ∧ w = wr)
  case atStart => exact ⟨0, x, rfl, by first | rfl | exact congrArg (Value.int .u8) qx, by omega, by omega, hx8, HX, rfl⟩
  case round =>
    obtain ⟨k, z, rfl, rfl, hg, hk, hz, HZ, rfl⟩ := hrel
    have hE := HE.out k z (by omega) HZ.out
    by_cases hlt : k = r
    · subst hlt
      obtain rfl : z = y := hE.2 rfl
      have t1 : ((z : Int) == (z : Int)) = true := beq_self_eq_true _
      clear hE
      go_wp2
      go_ret
      exact ⟨rfl, rfl⟩
    · have hne : ¬ z = y := fun e => hlt (hE.1 e)
      have t1 : ((z : Int) == (y : Int)) = false := by rw [beq_eq_false_iff_ne]; omega
      have t2 : ¬ (z : Int) = (y : Int) := by omega
      obtain ⟨u, h1, h2, h3⟩ := mod_next a k z HZ.out
      have CN := Lib.hid (fun w => fnext z u hz h1 w)
      have HU := Lib.hid h2
      have v1 := wrap_nat (k + 1) (by omega)
      clear h1 h2 hE
      go_wp2_with (first
        | (go_at_call 22; ((with_reducible refine (CN.out _).mono ?_); rintro e w' ⟨rfl, rfl⟩)))
      go_roundg (r - (k + 1))
      case measure => omega
      case rel => exact ⟨k + 1, u, by first | rfl | go_num, rfl, Nat.le_refl _, by omega, h3, HU, by first | rfl | trivial⟩
set_option maxHeartbeats 1000000 in
theorem racks (va vs nr y : Nat) (b : Bool) (h1 : va < 256) (h2 : vs < 256) (h3 : nr < 256) (hy : acN va vs nr = y) (hb : acB va vs nr = b) (w : World) :
    Calls Try.prog 19 #[oc va, oc vs, oc nr] w fun e w' => e = .returned (.tuple #[nm y, .bool b]) ∧ w = w' := by
  obtain ⟨x, hx⟩ : ∃ x : Nat, va % 8 = x := ⟨_, rfl⟩
  obtain ⟨p, hp⟩ : ∃ p : Nat, vs % 8 = p := ⟨_, rfl⟩
  obtain ⟨q, hq⟩ : ∃ q : Nat, nr % 8 = q := ⟨_, rfl⟩
  have qx : (va : Int) % 8 = (x : Int) := by omega
  have qp : (vs : Int) % 8 = (p : Int) := by omega
  have qq : (nr : Int) % 8 = (q : Int) := by omega
  obtain ⟨r, hr⟩ : ∃ r, wy va nr = r := ⟨_, rfl⟩
  obtain ⟨c, hc⟩ : ∃ c, wy va vs = c := ⟨_, rfl⟩
  have hr8 : r < 8 := hr ▸ wy_lt va nr
  have hc8 : c < 8 := hc ▸ wy_lt va vs
  have HX : Hid ((va + 0) % 8 = x) := Lib.hid (by omega)
  have HE : Hid (∀ i z, i < 8 → (va + i) % 8 = z → (z = q ↔ i = r) ∧ (z = p ↔ i = c)) := Lib.hid (fun i z hi hz => by
    have e1 := wy_at va nr i hi
    have e2 := wy_at va vs i hi
    rw [hr, hq, hz] at e1
    rw [hc, hp, hz] at e2
    exact ⟨e1.trans eq_comm, e2.trans eq_comm⟩)
  have hx8 : x < 8 := by omega
  unfold acN at hy
  unfold acB at hb
  rw [hr, hc] at hy hb
  have HY := Lib.hid hy
  have HBB := Lib.hid hb
  clear hx hp hq hr hc hy hb
  go_enter Try.func19, Try.ntmps19
  go_wp2
  simp only [qx]
  go_loopg [8, 9] 8 (fun g v i wr => ∃ k z : Nat, v = oc z ∧ i = nm k ∧ 8 - k ≤ g ∧ k ≤ r ∧ k ≤ c ∧ z < 8 ∧ Hid ((va + k) % 8 = z) ∧ w = wr)
  case atStart => exact ⟨0, x, by first | rfl | exact congrArg (Value.int .u8) qx, rfl, by omega, by omega, by omega, hx8, HX, rfl⟩
  case round =>
    obtain ⟨k, z, rfl, rfl, hg, hk, hk2, hz, HZ, rfl⟩ := hrel
    have hE := HE.out k z (by omega) HZ.out
    have t0 : decide ((k : Int) < 8) = true := decide_eq_true (by omega)
    have t00 : (k : Int) < 8 := by omega
    by_cases hkr : k = r
    · subst hkr
      obtain rfl : z = q := hE.1.2 rfl
      have t1 : ((z : Int) == (z : Int)) = true := beq_self_eq_true _
      obtain rfl : y = k := by have := HY.out; rw [if_neg (by omega)] at this; exact this.symm
      obtain rfl : b = true := by rw [← HBB.out]; exact decide_eq_true (by omega)
      clear hE
      go_wp2
      go_ret2
      exact ⟨rfl, rfl⟩
    · have hne : ¬ z = q := fun e => hkr (hE.1.1 e)
      have t1 : ((z : Int) == (q : Int)) = false := by rw [beq_eq_false_iff_ne]; omega
      have t2 : ¬ (z : Int) = (q : Int) := by omega
      by_cases hkc : k = c
      · subst hkc
        obtain rfl : z = p := hE.2.2 rfl
        have t3 : ((z : Int) == (z : Int)) = true := beq_self_eq_true _
        obtain rfl : y = 0 := by have := HY.out; rw [if_pos (by omega)] at this; exact this.symm
        obtain rfl : b = false := by rw [← HBB.out]; exact decide_eq_false (by omega)
        clear hE
        go_wp2
        go_ret2
        exact ⟨rfl, rfl⟩
      · have hne2 : ¬ z = p := fun e => hkc (hE.2.1 e)
        have t3 : ((z : Int) == (p : Int)) = false := by rw [beq_eq_false_iff_ne]; omega
        have t4 : ¬ (z : Int) = (p : Int) := by omega
        obtain ⟨u, h1, h2, h3⟩ := mod_next va k z HZ.out
        have CN := Lib.hid (fun w => fnext z u hz h1 w)
        have HU := Lib.hid h2
        have v1 := wrap_nat (k + 1) (by omega)
        clear h1 h2 hE
        go_wp2_with (first
          | (go_at_call 22; ((with_reducible refine (CN.out _).mono ?_); rintro e w' ⟨rfl, rfl⟩)))
        go_roundg (8 - (k + 1))
        case measure => omega
        case rel => exact ⟨k + 1, u, rfl, by first | rfl | go_num, Nat.le_refl _, by omega, by omega, h3, HU, by first | rfl | trivial⟩
end Go.Proofs.Ythdkohjpopjgmaa.Sq

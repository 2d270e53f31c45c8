/-
  What the small functions of layer 13 answer: numberOf, plus, way, count, and those that call them: Add, Way, In, Acks; and the document's own next. No condition but the bounds of octets.
-/
import Derived.Test.YthdkohjpopjgmaaSqMath
import Derived.Lib.MinMax
namespace Go.Proofs.Ythdkohjpopjgmaa.Sq
open Go.RowKit Go.Proofs.Ythdkohjpopjgmaa.Base Go.Proofs.Ythdkohjpopjgmaa.Mem
theorem fnumberOf (a r : Nat) (ha : a < 256) (hr : a % 8 = r) (w : World) :
    Calls Try.prog 20 #[oc a] w fun e w' => e = .returned (oc r) ∧ w = w' := by
  have q := u8_low a r ha hr
  clear hr
  go_enter Try.func20, Try.ntmps20
  go_wp2
  go_ret
  exact ⟨rfl, rfl⟩
theorem fplus (a : Nat) (n : Int) (r : Nat) (ha : a < 8) (hr : ad a n = r) (w : World) :
    Calls Try.prog 21 #[oc a, .int .i64 n] w fun e w' => e = .returned (oc r) ∧ w = w' := by
  obtain ⟨m, hm⟩ : ∃ m : Nat, n % 8 = (m : Int) := ⟨(n % 8).toNat, by omega⟩
  have hm8 : m < 8 := by omega
  obtain ⟨t, ht⟩ : ∃ t : Nat, a + m = t := ⟨_, rfl⟩
  have q1 := i64_and7 n
  rw [hm] at q1
  have q2 := wrap_u8 m (by omega)
  have q3 : IntKind.u8.wrap ((a : Int) + (m : Int)) = (t : Int) := by rw [IntKind.wrap_u8]; omega
  have q4 := u8_low t r (by omega) (by unfold ad at hr; omega)
  clear hr hm ht
  go_enter Try.func21, Try.ntmps21
  go_wp2
  go_ret
  exact ⟨rfl, rfl⟩
theorem fway (a b r : Nat) (ha : a < 8) (hb : b < 8) (hr : wy a b = r) (w : World) :
    Calls Try.prog 23 #[oc a, oc b] w fun e w' => e = .returned (nm r) ∧ w = w' := by
  obtain ⟨t, ht⟩ : ∃ t : Nat, (b + 256 - a) % 256 = t := ⟨_, rfl⟩
  have q3 : IntKind.u8.wrap ((b : Int) - (a : Int)) = (t : Int) := by rw [IntKind.wrap_u8]; omega
  have q4 := u8_low t r (by omega) (by unfold wy at hr; omega)
  have hr8 : r < 8 := hr ▸ wy_lt a b
  have q5 := wrap_nat r (by omega)
  clear hr ht
  go_enter Try.func23, Try.ntmps23
  go_wp2
  go_ret
  exact ⟨rfl, rfl⟩
theorem fcount (n : Int) (c : Nat) (hc : ct n = c) (w : World) :
    Calls Try.prog 24 #[.int .i64 n] w fun e w' => e = .returned (nm c) ∧ w = w' := by
  have q := ct_cast n
  rw [hc] at q
  clear hc
  go_enter Try.func24, Try.ntmps24
  go_wp2
  go_ret
  exact ⟨rfl, rfl⟩
theorem fadd (a : Nat) (n : Int) (r : Nat) (ha : a < 256) (hr : ad a n = r) (w : World) :
    Calls Try.prog 8 #[oc a, .int .i64 n] w fun e w' => e = .returned (oc r) ∧ w = w' := by
  obtain ⟨b, hb⟩ : ∃ b, a % 8 = b := ⟨_, rfl⟩
  have hb8 : b < 8 := by omega
  have q := wrap_u8 r (by have := hr ▸ ad_lt a n; omega)
  have C1 := Lib.hid (fun w => fnumberOf a b ha hb w)
  have C2 := Lib.hid (fun w => fplus b n r hb8 (by rw [← hb, ad_mod]; exact hr) w)
  clear hb hr
  go_enter Try.func8, Try.ntmps8
  go_wp2_with (first
    | (go_at_call 20; ((with_reducible refine (C1.out _).mono ?_); rintro e w' ⟨rfl, rfl⟩))
    | (go_at_call 21; ((with_reducible refine (C2.out _).mono ?_); rintro e w' ⟨rfl, rfl⟩)))
  go_ret
  exact ⟨rfl, rfl⟩
theorem fWay (a b r : Nat) (ha : a < 256) (hb : b < 256) (hr : wy a b = r) (w : World) :
    Calls Try.prog 10 #[oc a, oc b] w fun e w' => e = .returned (nm r) ∧ w = w' := by
  obtain ⟨x, hx⟩ : ∃ x, a % 8 = x := ⟨_, rfl⟩
  obtain ⟨y, hy⟩ : ∃ y, b % 8 = y := ⟨_, rfl⟩
  have C1 := Lib.hid (fun w => fnumberOf a x ha hx w)
  have C2 := Lib.hid (fun w => fnumberOf b y hb hy w)
  have C3 := Lib.hid (fun w => fway x y r (by omega) (by omega) (by rw [← hx, ← hy, wy_mod]; exact hr) w)
  clear hx hy hr
  go_enter Try.func10, Try.ntmps10
  go_wp2_with (first
    | (go_at_call 20; ((with_reducible refine (C1.out _).mono ?_); rintro e w' ⟨rfl, rfl⟩))
    | (go_at_call 20; ((with_reducible refine (C2.out _).mono ?_); rintro e w' ⟨rfl, rfl⟩))
    | (go_at_call 23; ((with_reducible refine (C3.out _).mono ?_); rintro e w' ⟨rfl, rfl⟩)))
  go_ret
  exact ⟨rfl, rfl⟩
theorem fIn (a : Nat) (n : Int) (x : Nat) (b : Bool) (ha : a < 256) (hx : x < 256) (hb : decide (wy a x < ct n) = b) (w : World) :
    Calls Try.prog 16 #[oc a, .int .i64 n, oc x] w fun e w' => e = .returned (.bool b) ∧ w = w' := by
  obtain ⟨r, hr⟩ : ∃ r, wy a x = r := ⟨_, rfl⟩
  obtain ⟨c, hc⟩ : ∃ c, ct n = c := ⟨_, rfl⟩
  have C1 := Lib.hid (fun w => fWay a x r ha hx hr w)
  have C2 := Lib.hid (fun w => fcount n c hc w)
  have q : decide (r < c) = b := by rw [← hb, hr, hc]
  have Q := Lib.hid q
  clear hr hc hb q
  go_enter Try.func16, Try.ntmps16
  go_wp2_with (first
    | (go_at_call 10; ((with_reducible refine (C1.out _).mono ?_); rintro e w' ⟨rfl, rfl⟩))
    | (go_at_call 24; ((with_reducible refine (C2.out _).mono ?_); rintro e w' ⟨rfl, rfl⟩)))
  go_ret
  exact ⟨ret_bool Q.out, rfl⟩
theorem fAcks (va vs nr y : Nat) (b : Bool) (h1 : va < 256) (h2 : vs < 256) (h3 : nr < 256) (hy : acN va vs nr = y) (hb : acB va vs nr = b) (w : World) :
    Calls Try.prog 18 #[oc va, oc vs, oc nr] w fun e w' => e = .returned (.tuple #[nm y, .bool b]) ∧ w = w' := by
  obtain ⟨r, hr⟩ : ∃ r, wy va nr = r := ⟨_, rfl⟩
  obtain ⟨c, hc⟩ : ∃ c, wy va vs = c := ⟨_, rfl⟩
  have C1 := Lib.hid (fun w => fWay va nr r h1 h3 hr w)
  have C2 := Lib.hid (fun w => fWay va vs c h1 h2 hc w)
  unfold acN at hy
  unfold acB at hb
  rw [hr, hc] at hy hb
  by_cases hlt : c < r
  · have t : decide ((c : Int) < (r : Int)) = true := decide_eq_true (by omega)
    obtain rfl : y = 0 := by rw [if_pos hlt] at hy; exact hy.symm
    obtain rfl : b = false := by rw [← hb]; exact decide_eq_false (by omega)
    clear hr hc hy hb
    go_enter Try.func18, Try.ntmps18
    go_wp2_with (first
      | (go_at_call 10; ((with_reducible refine (C1.out _).mono ?_); rintro e w' ⟨rfl, rfl⟩))
      | (go_at_call 10; ((with_reducible refine (C2.out _).mono ?_); rintro e w' ⟨rfl, rfl⟩)))
    go_ret2
    exact ⟨rfl, rfl⟩
  · have t : decide ((c : Int) < (r : Int)) = false := decide_eq_false (by omega)
    obtain rfl : y = r := by rw [if_neg hlt] at hy; exact hy.symm
    obtain rfl : b = true := by rw [← hb]; exact decide_eq_true (by omega)
    clear hr hc hy hb
    go_enter Try.func18, Try.ntmps18
    go_wp2_with (first
      | (go_at_call 10; ((with_reducible refine (C1.out _).mono ?_); rintro e w' ⟨rfl, rfl⟩))
      | (go_at_call 10; ((with_reducible refine (C2.out _).mono ?_); rintro e w' ⟨rfl, rfl⟩)))
    go_ret2
    exact ⟨rfl, rfl⟩
theorem fnext (x y : Nat) (hx : x < 8) (hy : (x + 1) % 8 = y) (w : World) :
    Calls Try.prog 22 #[oc x] w fun e w' => e = .returned (oc y) ∧ w = w' := by
  by_cases h : x = 7
  · subst h
    obtain rfl : y = 0 := by omega
    go_enter Try.func22, Try.ntmps22
    go_wp2
    go_ret
    exact ⟨rfl, rfl⟩
  · have t : decide ((7 : Int) ≤ (x : Int)) = false := decide_eq_false (by omega)
    have q : IntKind.u8.wrap ((x : Int) + 1) = (y : Int) := by rw [IntKind.wrap_u8]; omega
    clear hy
    go_enter Try.func22, Try.ntmps22
    go_wp2
    go_ret
    exact ⟨rfl, rfl⟩
end Go.Proofs.Ythdkohjpopjgmaa.Sq

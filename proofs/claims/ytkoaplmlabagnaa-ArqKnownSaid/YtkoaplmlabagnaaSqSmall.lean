/-
  What the small functions of layer 13 answer: numberOf, plus, way, count, and those that call them: Add, Way, In, Acks; and the document's own next. No condition but the bounds of octets.
-/
import Derived.Test.YtkoaplmlabagnaaSqMath
import Derived.Lib.MinMax
namespace Go.Proofs.Ytkoaplmlabagnaa.Sq
open Go.RowKit Go.Proofs.Ytkoaplmlabagnaa.Base Go.Proofs.Ytkoaplmlabagnaa.Mem
theorem fnumberOf (a r : Nat) (ha : a < 256) (hr : a % 8 = r) (w : World) :
    Calls Try.prog 57 #[oc a] w fun e w' => e = .returned (oc r) ∧ w = w' := by
  have q := u8_low a r ha hr
  clear hr
  go_enter Try.func57, Try.ntmps57
  go_wp2
  go_ret
  exact ⟨rfl, rfl⟩
theorem fplus (a : Nat) (n : Int) (r : Nat) (ha : a < 8) (hr : ad a n = r) (w : World) :
    Calls Try.prog 58 #[oc a, .int .i64 n] w fun e w' => e = .returned (oc r) ∧ w = w' := by
  obtain ⟨m, hm⟩ : ∃ m : Nat, n % 8 = (m : Int) := ⟨(n % 8).toNat, by omega⟩
  have hm8 : m < 8 := by omega
  obtain ⟨t, ht⟩ : ∃ t : Nat, a + m = t := ⟨_, rfl⟩
  have q1 := i64_and7 n
  rw [hm] at q1
  have q2 := wrap_u8 m (by omega)
  have q3 : IntKind.u8.wrap ((a : Int) + (m : Int)) = (t : Int) := by rw [IntKind.wrap_u8]; omega
  have q4 := u8_low t r (by omega) (by unfold ad at hr; omega)
  clear hr hm ht
  go_enter Try.func58, Try.ntmps58
  go_wp2
  go_ret
  exact ⟨rfl, rfl⟩
theorem fway (a b r : Nat) (ha : a < 8) (hb : b < 8) (hr : wy a b = r) (w : World) :
    Calls Try.prog 62 #[oc a, oc b] w fun e w' => e = .returned (nm r) ∧ w = w' := by
  obtain ⟨t, ht⟩ : ∃ t : Nat, (b + 256 - a) % 256 = t := ⟨_, rfl⟩
  have q3 : IntKind.u8.wrap ((b : Int) - (a : Int)) = (t : Int) := by rw [IntKind.wrap_u8]; omega
  have q4 := u8_low t r (by omega) (by unfold wy at hr; omega)
  have hr8 : r < 8 := hr ▸ wy_lt a b
  have q5 := wrap_nat r (by omega)
  clear hr ht
  go_enter Try.func62, Try.ntmps62
  go_wp2
  go_ret
  exact ⟨rfl, rfl⟩
theorem fadd (a : Nat) (n : Int) (r : Nat) (ha : a < 256) (hr : ad a n = r) (w : World) :
    Calls Try.prog 45 #[oc a, .int .i64 n] w fun e w' => e = .returned (oc r) ∧ w = w' := by
  obtain ⟨b, hb⟩ : ∃ b, a % 8 = b := ⟨_, rfl⟩
  have hb8 : b < 8 := by omega
  have q := wrap_u8 r (by have := hr ▸ ad_lt a n; omega)
  have C1 := Lib.hid (fun w => fnumberOf a b ha hb w)
  have C2 := Lib.hid (fun w => fplus b n r hb8 (by rw [← hb, ad_mod]; exact hr) w)
  clear hb hr
  go_enter Try.func45, Try.ntmps45
  go_wp2_with (first
    | (go_at_call 57; ((with_reducible refine (C1.out _).mono ?_); rintro e w' ⟨rfl, rfl⟩))
    | (go_at_call 58; ((with_reducible refine (C2.out _).mono ?_); rintro e w' ⟨rfl, rfl⟩)))
  go_ret
  exact ⟨rfl, rfl⟩
theorem fWay (a b r : Nat) (ha : a < 256) (hb : b < 256) (hr : wy a b = r) (w : World) :
    Calls Try.prog 56 #[oc a, oc b] w fun e w' => e = .returned (nm r) ∧ w = w' := by
  obtain ⟨x, hx⟩ : ∃ x, a % 8 = x := ⟨_, rfl⟩
  obtain ⟨y, hy⟩ : ∃ y, b % 8 = y := ⟨_, rfl⟩
  have C1 := Lib.hid (fun w => fnumberOf a x ha hx w)
  have C2 := Lib.hid (fun w => fnumberOf b y hb hy w)
  have C3 := Lib.hid (fun w => fway x y r (by omega) (by omega) (by rw [← hx, ← hy, wy_mod]; exact hr) w)
  clear hx hy hr
  go_enter Try.func56, Try.ntmps56
  go_wp2_with (first
    | (go_at_call 57; ((with_reducible refine (C1.out _).mono ?_); rintro e w' ⟨rfl, rfl⟩))
    | (go_at_call 57; ((with_reducible refine (C2.out _).mono ?_); rintro e w' ⟨rfl, rfl⟩))
    | (go_at_call 62; ((with_reducible refine (C3.out _).mono ?_); rintro e w' ⟨rfl, rfl⟩)))
  go_ret
  exact ⟨rfl, rfl⟩
theorem fAcks (va vs nr y : Nat) (b : Bool) (h1 : va < 256) (h2 : vs < 256) (h3 : nr < 256) (hy : acN va vs nr = y) (hb : acB va vs nr = b) (w : World) :
    Calls Try.prog 44 #[oc va, oc vs, oc nr] w fun e w' => e = .returned (.tuple #[nm y, .bool b]) ∧ w = w' := by
  obtain ⟨r, hr⟩ : ∃ r, wy va nr = r := ⟨_, rfl⟩
  obtain ⟨c, hc⟩ : ∃ c, wy va vs = c := ⟨_, rfl⟩
  have C1 := Lib.hid (fun w => fWay va nr r h1 h3 hr w)
  have C2 := Lib.hid (fun w => fWay va vs c h1 h2 hc w)
  unfold acN at hy
  unfold acB at hb
  rw [hr, hc] at hy hb
  by_cases hlt : c < r
  · have t : decide ((c : Int) < (r : Int)) = true := decide_eq_true (by omega)
    obtain rfl : y = 0 := by rw [if_pos hlt] at hy; exact hy.symm
    obtain rfl : b = false := by rw [← hb]; exact decide_eq_false (by omega)
    clear hr hc hy hb
    go_enter Try.func44, Try.ntmps44
    go_wp2_with (first
      | (go_at_call 56; ((with_reducible refine (C1.out _).mono ?_); rintro e w' ⟨rfl, rfl⟩))
      | (go_at_call 56; ((with_reducible refine (C2.out _).mono ?_); rintro e w' ⟨rfl, rfl⟩)))
    go_ret2
    exact ⟨rfl, rfl⟩
  · have t : decide ((c : Int) < (r : Int)) = false := decide_eq_false (by omega)
    obtain rfl : y = r := by rw [if_neg hlt] at hy; exact hy.symm
    obtain rfl : b = true := by rw [← hb]; exact decide_eq_true (by omega)
    clear hr hc hy hb
    go_enter Try.func44, Try.ntmps44
    go_wp2_with (first
      | (go_at_call 56; ((with_reducible refine (C1.out _).mono ?_); rintro e w' ⟨rfl, rfl⟩))
      | (go_at_call 56; ((with_reducible refine (C2.out _).mono ?_); rintro e w' ⟨rfl, rfl⟩)))
    go_ret2
    exact ⟨rfl, rfl⟩
end Go.Proofs.Ytkoaplmlabagnaa.Sq

/-
  What each function of layer 3 but Get, and each of the document's own, answers: is it a kind, may it have these numbers, what may be in it, the control octet; none turns memory. Condition: the table of the kinds' octets lies where the program lays it.
-/
import Derived.Test.YthlciaomfpephaaDoorChecked
import Derived.Test.YthlciaomfpephaaDoorFieldMath
import Derived.Test.YthlciaomfpephaaDoorBase
import Derived.WalkKit
import Derived.Lib.Hide
namespace Go.Proofs.YthlciaomfpephaaDoor.Field
open Go.RowKit Go.Proofs.YthlciaomfpephaaDoor.Base

/-- The table of the kinds' octets lies where the program has it. -/
def Tab (w : World) : Prop := ∀ i : Nat, i < 11 → w.cell? ⟨0, i, none⟩ = some (.int .u8 (bareN i : Int))
theorem tab_pos {w : World} (h : Tab w) : 0 < w.heap.size := World.block_lt_of_cell? w ⟨0, 0, none⟩ (h 0 (by decide))
theorem tab_below {w w' : World} (h : Tab w) (hb : Below w.heap.size w w') : Tab w' := fun i hi => (hb.cell (p := ⟨0, i, none⟩) (tab_pos h)).trans (h i hi)
theorem ret_ii {k k1 : IntKind} {a a' b b' : Int} (h : a = a') (h1 : b = b') : Ending.returned (.tuple #[.int k a, .int k1 b]) = .returned (.tuple #[.int k a', .int k1 b']) := by rw [h, h1]

theorem isKind (k : Nat) (hk : k < 256) (w : World) :
    Calls Tryd.prog 41 #[.int .u8 (k : Int)] w fun e w' => e = .returned (.bool (isK k)) ∧ w = w' := by
  go_enter Tryd.func41, Tryd.ntmps41
  go_wp2
  all_goals
    go_ret
    exact ⟨ret_bool (by rw [isK, Bool.eq_iff_iff]; simp; omega), rfl⟩
theorem isNumbered (k : Nat) (hk : k < 256) (w : World) :
    Calls Tryd.prog 51 #[.int .u8 (k : Int)] w fun e w' => e = .returned (.bool (isN k)) ∧ w = w' := by
  go_enter Tryd.func51, Tryd.ntmps51
  go_wp2
  all_goals
    go_ret
    exact ⟨ret_bool (by rw [isN, Bool.eq_iff_iff]; simp; omega), rfl⟩
theorem isNumbered7 (w : World) :
    Calls Tryd.prog 51 #[.int .u8 7] w fun e w' => e = .returned (.bool (isN 7)) ∧ w = w' := isNumbered 7 (by decide) w
theorem mayHave (k ns nr : Nat) (hk : k < 256) (hs : ns < 256) (hr : nr < 256) (w : World) :
    Calls Tryd.prog 42 #[.int .u8 (k : Int), .int .u8 (ns : Int), .int .u8 (nr : Int)] w fun e w' => e = .returned (.bool (mayH k ns nr)) ∧ w = w' := by
  have HN : Hid (∀ ns nr : Nat, ns ≤ 7 → nr ≤ 7 → (ns = 0 ∨ k = 7) → nr ≠ 0 → isN k = mayH k ns nr) := Lib.hid (fun ns nr h1 h2 h3 h4 => by rw [isN, mayH, Bool.eq_iff_iff]; simp; omega)
  by_cases h1 : ns ≤ 7
  · by_cases h2 : nr ≤ 7
    · by_cases h3 : ns = 0
      · subst h3
        by_cases h4 : nr = 0
        · subst h4
          go_enter Tryd.func42, Tryd.ntmps42
          go_wp2
          go_ret
          exact ⟨ret_bool (by rw [mayH, Bool.eq_iff_iff]; simp), rfl⟩
        · have h5 : ((nr : Int) == 0) = false := by rw [beq_eq_false_iff_ne]; omega
          have HE := Lib.hid (HN.out 0 nr (by omega) h2 (Or.inl rfl) h4)
          go_enter Tryd.func42, Tryd.ntmps42
          go_wp2_with (go_at_call 51; ((with_reducible refine (isNumbered _ hk _).mono ?_); rintro e w' ⟨rfl, rfl⟩))
          go_ret
          exact ⟨ret_bool HE.out, rfl⟩
      · have h3' : ((ns : Int) == 0) = false := by rw [beq_eq_false_iff_ne]; omega
        by_cases h6 : k = 7
        · subst h6
          by_cases h4 : nr = 0
          · subst h4
            go_enter Tryd.func42, Tryd.ntmps42
            go_wp2
            go_ret
            exact ⟨ret_bool (by rw [mayH, Bool.eq_iff_iff]; simp; omega), rfl⟩
          · have h5 : ((nr : Int) == 0) = false := by rw [beq_eq_false_iff_ne]; omega
            have HE := Lib.hid (HN.out ns nr (by omega) h2 (Or.inr rfl) h4)
            go_enter Tryd.func42, Tryd.ntmps42
            go_wp2_with (go_at_call 51; ((with_reducible refine (isNumbered7 _).mono ?_); rintro e w' ⟨rfl, rfl⟩))
            go_ret
            exact ⟨ret_bool HE.out, rfl⟩
        · have h6' : ((k : Int) == 7) = false := by rw [beq_eq_false_iff_ne]; omega
          go_enter Tryd.func42, Tryd.ntmps42
          go_wp2
          go_ret
          exact ⟨ret_bool (by rw [mayH, Bool.eq_iff_iff]; simp; omega), rfl⟩
    · go_enter Tryd.func42, Tryd.ntmps42
      go_wp2
      go_ret
      exact ⟨ret_bool (by rw [mayH, Bool.eq_iff_iff]; simp; omega), rfl⟩
  · go_enter Tryd.func42, Tryd.ntmps42
    go_wp2
    go_ret
    exact ⟨ret_bool (by rw [mayH, Bool.eq_iff_iff]; simp; omega), rfl⟩
theorem okP_no {k ns nr : Nat} (h : isK k = false ∨ mayH k ns nr = false) : okP k ns nr = false := by rcases h with h | h <;> simp [okP, h]
theorem fput_no (k ns nr : Nat) (pf : Bool) (hk : k < 256) (hs : ns < 256) (hr : nr < 256) (h : okP k ns nr = false) (w : World) :
    Calls Tryd.prog 24 #[.int .u8 (k : Int), .bool pf, .int .u8 (ns : Int), .int .u8 (nr : Int)] w fun e w' => e = .returned (.tuple #[.int .u8 0, .int .i64 2]) ∧ w = w' := by
  have h' : isK k = false ∨ mayH k ns nr = false := by revert h; unfold okP; cases isK k <;> simp
  clear h
  by_cases h1 : isK k = false
  · go_enter Tryd.func24, Tryd.ntmps24
    go_wp2_with (go_at_call 41; ((with_reducible refine (isKind _ hk _).mono ?_); rintro e w' ⟨rfl, rfl⟩))
    go_ret2
    exact ⟨rfl, rfl⟩
  · have h2 : mayH k ns nr = false := h'.resolve_left h1
    have h3 : isK k = true := by simpa using h1
    clear h' h1
    go_enter Tryd.func24, Tryd.ntmps24
    go_wp2_with (first
      | (go_at_call 41; ((with_reducible refine (isKind _ hk _).mono ?_); rintro e w' ⟨rfl, rfl⟩))
      | (go_at_call 42; ((with_reducible refine (mayHave _ _ _ hk hs hr _).mono ?_); rintro e w' ⟨rfl, rfl⟩)))
    go_ret2
    exact ⟨rfl, rfl⟩
theorem fput_ok (k ns nr : Nat) (pf : Bool) (hk : k < 256) (hs : ns < 256) (hr : nr < 256) (h : okP k ns nr = true) (w : World) (ht : Tab w) :
    Calls Tryd.prog 24 #[.int .u8 (k : Int), .bool pf, .int .u8 (ns : Int), .int .u8 (nr : Int)] w fun e w' => e = .returned (.tuple #[.int .u8 (oct k pf ns nr : Int), .int .i64 0]) ∧ w = w' := by
  obtain ⟨h2, h3⟩ := okP_of h
  obtain ⟨b1, b2, b3, b4, _⟩ := okP_bounds h
  have HB := Lib.hid (oct_bits h)
  have hc := ht k (by omega)
  have hl := bareN_lt k (by omega)
  clear ht h
  cases pf
  · go_enter Tryd.func24, Tryd.ntmps24
    go_wp2_with (first
      | (go_at_call 41; ((with_reducible refine (isKind _ hk _).mono ?_); rintro e w' ⟨rfl, rfl⟩))
      | (go_at_call 42; ((with_reducible refine (mayHave _ _ _ hk hs hr _).mono ?_); rintro e w' ⟨rfl, rfl⟩)))
    go_ret2
    exact ⟨ret_ii HB.out.1 rfl, rfl⟩
  · go_enter Tryd.func24, Tryd.ntmps24
    go_wp2_with (first
      | (go_at_call 41; ((with_reducible refine (isKind _ hk _).mono ?_); rintro e w' ⟨rfl, rfl⟩))
      | (go_at_call 42; ((with_reducible refine (mayHave _ _ _ hk hs hr _).mono ?_); rintro e w' ⟨rfl, rfl⟩)))
    go_ret2
    exact ⟨ret_ii (by rw [← HB.out.2, ← HB.out.1]) rfl, rfl⟩
theorem fput (k ns nr : Nat) (pf : Bool) (hk : k < 256) (hs : ns < 256) (hr : nr < 256) (w : World) (ht : Tab w) :
    Calls Tryd.prog 24 #[.int .u8 (k : Int), .bool pf, .int .u8 (ns : Int), .int .u8 (nr : Int)] w fun e w' => e = .returned (.tuple #[.int .u8 (pC k pf ns nr : Int), .int .i64 (pE k ns nr : Int)]) ∧ w = w' := by
  by_cases h : okP k ns nr = true
  · rw [pC_ok pf h, pE_ok h]; exact fput_ok k ns nr pf hk hs hr h w ht
  · have h' : okP k ns nr = false := by simpa using h
    rw [pC_no pf h', pE_no h']; exact fput_no k ns nr pf hk hs hr h' w
end Go.Proofs.YthlciaomfpephaaDoor.Field

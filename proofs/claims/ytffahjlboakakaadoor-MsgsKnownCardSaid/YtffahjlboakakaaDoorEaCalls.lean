/-
  What each function of layer 2, and each of the document's own, answers. No condition.
-/
import Derived.Test.YtffahjlboakakaaDoorChecked
import Derived.Test.YtffahjlboakakaaDoorEaAddr
import Derived.Test.YtffahjlboakakaaDoorBase
import Derived.Test.YtffahjlboakakaaDoorConv
import Derived.WalkKit
import Derived.Lib.Hide
import Derived.Deep.QuietTactic
import Derived.BigQuiet
namespace Go.Proofs.YtffahjlboakakaaDoor.Ea
set_option maxRecDepth 20000
open Go.RowKit Go.Proofs.YtffahjlboakakaaDoor.Base
theorem take (s : ByteArray) (w : World) (hl : s.size ≤ maxLen) :
    Calls Tryd.prog 59 #[.string s] w fun e w' => e = .returned (.tuple #[.int .i64 (tkN s.data.toList : Int), .int .i64 (tkZ s.data.toList : Int), .int .i64 (tkE s.data.toList : Int)]) ∧ w = w' := by
  unfold maxLen at hl
  by_cases h0 : s.size = 0
  · obtain rfl := nil_of_size h0
    go_enter Tryd.func59, Tryd.ntmps59
    go_wp2
    go_ret3
    exact ⟨rfl, rfl⟩
  · have h1 : 0 < s.size := by omega
    have hz : ((s.size : Int) == 0) = false := by rw [beq_eq_false_iff_ne]; omega
    have hb := oct_lt s[0]
    by_cases ho : s[0].toNat % 2 = 1
    · have HT : Hid (tk s.data.toList = (s[0].toNat / 2, 1, 0)) := Lib.hid (by rw [cons_of_size h1]; exact tk_odd _ _ ho)
      have hk : spK s[0].toNat = true := decide_eq_true ho
      unfold tkN tkZ tkE
      rw [HT.out]
      clear ho h0
      go_enter Tryd.func59, Tryd.ntmps59
      go_wp2_with (go_at_call 66; ((with_reducible refine (isLast _ hb _).mono ?_); rintro e w' ⟨rfl, rfl⟩))
      go_ret3
      exact ⟨ret_iii (by simp) rfl rfl, rfl⟩
    · have hk : spK s[0].toNat = false := decide_eq_false ho
      by_cases h2 : s.size = 1
      · have HT : Hid (tk s.data.toList = (0, 0, 20)) := Lib.hid (by rw [one_of_size h2]; exact tk_one _ ho)
        have hz1 : ((s.size : Int) == 1) = true := by rw [beq_iff_eq]; omega
        unfold tkN tkZ tkE
        rw [HT.out]
        clear ho h0 h2
        go_enter Tryd.func59, Tryd.ntmps59
        go_wp2_with (go_at_call 66; ((with_reducible refine (isLast _ hb _).mono ?_); rintro e w' ⟨rfl, rfl⟩))
        go_ret3
        exact ⟨rfl, rfl⟩
      · have h3 : 1 < s.size := by omega
        have hb1 := oct_lt s[1]
        have HT : Hid (tk s.data.toList = (s[0].toNat / 2 + 128 * s[1].toNat, 2, 0)) := Lib.hid (by rw [cons2_of_size h3]; exact tk_two _ _ _ ho)
        have hz1 : ((s.size : Int) == 1) = false := by rw [beq_eq_false_iff_ne]; omega
        have e1 : bits .or .i64 ((s[1].toNat : Int) * 128) ((s[0].toNat : Int) / 2) = (s[1].toNat : Int) * 128 + (s[0].toNat : Int) / 2 := bits_join .i64 63 (by decide) wraps_i64 7 _ _ (by omega) (by omega) (by omega) (by omega) (by omega) (by omega)
        unfold tkN tkZ tkE
        rw [HT.out]
        clear ho h0 h2
        go_enter Tryd.func59, Tryd.ntmps59
        go_wp2_with (go_at_call 66; ((with_reducible refine (isLast _ hb _).mono ?_); rintro e w' ⟨rfl, rfl⟩))
        go_ret3
        exact ⟨ret_iii (by simp; omega) rfl rfl, rfl⟩
theorem octets1 (x : Int) (w : World) :
    Calls Tryd.prog 57 #[.slice (some ⟨w.heap.size, 0, none⟩) 1 1] (w.alloc (.cells #[.int .u8 x] 5)) fun e w' => e = .returned (.string ⟨#[UInt8.ofNat x.toNat]⟩) ∧ w.alloc (.cells #[.int .u8 x] 5) = w' := by
  have hcv := conv_oneI w x
  go_enter Tryd.func57, Tryd.ntmps57
  go_wp2
  go_ret
  exact ⟨rfl, rfl⟩
theorem octets2 (x y : Int) (w : World) :
    Calls Tryd.prog 57 #[.slice (some ⟨w.heap.size, 0, none⟩) 2 2] (w.alloc (.cells #[.int .u8 x, .int .u8 y] 5)) fun e w' => e = .returned (.string ⟨#[UInt8.ofNat x.toNat, UInt8.ofNat y.toNat]⟩) ∧ w.alloc (.cells #[.int .u8 x, .int .u8 y] 5) = w' := by
  have hcv := conv_twoI w x y
  go_enter Tryd.func57, Tryd.ntmps57
  go_wp2
  go_ret
  exact ⟨rfl, rfl⟩
theorem length (n : Int) (hn : n ≤ 9223372036854775807) (w : World) :
    Calls Tryd.prog 37 #[.int .i64 n] w fun e w' => e = .returned (.string (len n)) ∧ Below w.heap.size w w' := by
  by_cases h : n < 0 ∨ 32767 < n
  · rw [len_no h]
    have hd : (decide (n < 0) || decide (32767 < n)) = true := by simpa using h
    clear h
    go_enter Tryd.func37, Tryd.ntmps37
    go_wp2
    all_goals go_ret
    all_goals exact ⟨rfl, Below.refl _ _⟩
  · have h0 : 0 ≤ n := by omega
    have h1 : n ≤ 32767 := by omega
    clear h
    by_cases h2 : n < 128
    · have e1 : bits .or .u8 (n * 2) 1 = n * 2 + 1 := bits_join .u8 8 (by decide) wraps_u8 1 _ _ (by omega) (by omega) (by omega) (by decide) (by decide) (by decide)
      rw [len_one h0 h2]
      have HE : Hid (2 * n.toNat + 1 = (n * 2 + 1).toNat) := Lib.hid (by omega)
      go_enter Tryd.func37, Tryd.ntmps37
      go_wp2_with (go_at_call 57; ((with_reducible refine (octets1 _ _).mono ?_); rintro e w' ⟨rfl, rfl⟩))
      go_ret
      exact ⟨ret_str (by rw [HE.out]), (Below.refl _ _).alloc (Nat.le_refl _) _⟩
    · have h3 : 128 ≤ n := by omega
      clear h0 h2
      rw [len_two h3 h1]
      have HE : Hid (2 * (n.toNat % 128) = (n % 256 * 2 % 256).toNat) := Lib.hid (by omega)
      have HF : Hid (n.toNat / 128 = (n / 128).toNat) := Lib.hid (by omega)
      go_enter Tryd.func37, Tryd.ntmps37
      go_wp2_with (go_at_call 57; ((with_reducible refine (octets2 _ _ _).mono ?_); rintro e w' ⟨rfl, rfl⟩))
      go_ret
      exact ⟨ret_str (by rw [HE.out, HF.out]), (Below.refl _ _).alloc (Nat.le_refl _) _⟩
theorem rlength (n : Int) (hn : n ≤ 9223372036854775807) (w : World) :
    Calls Tryd.prog 40 #[.int .i64 n] w fun e w' => e = .returned (.string (len n)) ∧ Below w.heap.size w w' := by
  by_cases h : n < 0 ∨ 32767 < n
  · rw [len_no h]
    have hd : (decide (n < 0) || decide (32767 < n)) = true := by simpa using h
    clear h
    go_enter Tryd.func40, Tryd.ntmps40
    go_wp2
    all_goals go_ret
    all_goals exact ⟨rfl, Below.refl _ _⟩
  · have h0 : 0 ≤ n := by omega
    have h1 : n ≤ 32767 := by omega
    clear h
    by_cases h2 : n < 128
    · rw [len_one h0 h2]
      have HE : Hid (2 * n.toNat + 1 = (2 * n + 1).toNat) := Lib.hid (by omega)
      have hcv := conv_oneI w (2 * n + 1)
      go_enter Tryd.func40, Tryd.ntmps40
      go_wp2
      go_ret
      exact ⟨ret_str (by rw [HE.out]), (Below.refl _ _).alloc (Nat.le_refl _) _⟩
    · have h3 : 128 ≤ n := by omega
      clear h0 h2
      rw [len_two h3 h1]
      have HE : Hid (2 * (n.toNat % 128) = (2 * (n % 128)).toNat) := Lib.hid (by omega)
      have HF : Hid (n.toNat / 128 = (n / 128).toNat) := Lib.hid (by omega)
      have hcv := conv_twoI w (2 * (n % 128)) (n / 128)
      go_enter Tryd.func40, Tryd.ntmps40
      go_wp2
      go_ret
      exact ⟨ret_str (by rw [HE.out, HF.out]), (Below.refl _ _).alloc (Nat.le_refl _) _⟩
theorem rtake (s : ByteArray) (w : World) (hl : s.size ≤ maxLen) :
    Calls Tryd.prog 51 #[.string s] w fun e w' => e = .returned (.tuple #[.int .i64 (tkN s.data.toList : Int), .int .i64 (tkZ s.data.toList : Int), .int .i64 (tkE s.data.toList : Int)]) ∧ ∃ n, w' = w.drewN n := by
  unfold maxLen at hl
  by_cases h0 : s.size = 0
  · obtain rfl := nil_of_size h0
    go_enter Tryd.func51, Tryd.ntmps51
    go_wp2
    go_ret3
    exact ⟨rfl, 0, rfl⟩
  · have h1 : 0 < s.size := by omega
    have hz0 : ¬ s.toList = [] := toList_ne h1
    have hz : s.toList.isEmpty = false := by simpa using hz0
    have hb := oct_lt s[0]
    by_cases ho : s[0].toNat % 2 = 1
    · have HT : Hid (tk s.data.toList = (s[0].toNat / 2, 1, 0)) := Lib.hid (by rw [cons_of_size h1]; exact tk_odd _ _ ho)
      unfold tkN tkZ tkE
      rw [HT.out]
      clear h0
      go_enter Tryd.func51, Tryd.ntmps51
      go_wp2
      go_ret3
      exact ⟨ret_iii (by simp) rfl rfl, 0, rfl⟩
    · by_cases h2 : s.size = 1
      · have HT : Hid (tk s.data.toList = (0, 0, 20)) := Lib.hid (by rw [one_of_size h2]; exact tk_one _ ho)
        have h3 : s.size < 2 := by omega
        have ho' : s[0].toNat % 2 = 0 := by omega
        unfold tkN tkZ tkE
        rw [HT.out]
        clear ho h0 h2
        go_enter Tryd.func51, Tryd.ntmps51
        go_wp2
        go_ret3
        exact ⟨rfl, 0, rfl⟩
      · have h3 : 1 < s.size := by omega
        have hb1 := oct_lt s[1]
        have ho' : s[0].toNat % 2 = 0 := by omega
        have HT : Hid (tk s.data.toList = (s[0].toNat / 2 + 128 * s[1].toNat, 2, 0)) := Lib.hid (by rw [cons2_of_size h3]; exact tk_two _ _ _ ho)
        unfold tkN tkZ tkE
        rw [HT.out]
        clear ho h0 h2
        go_enter Tryd.func51, Tryd.ntmps51
        go_wp2
        have h4 : (1 : Int) < s.size := by omega
        have q0 : IntKind.i64.wrap (s[0].toNat : Int) = s[0].toNat := wraps_i64 _ (by omega) (by omega)
        have q1 : IntKind.i64.wrap (s[1].toNat : Int) = s[1].toNat := wraps_i64 _ (by omega) (by omega)
        have q2 : IntKind.i64.wrap ((s[0].toNat : Int).tdiv 2) = ((s[0].toNat / 2 : Nat) : Int) := by
          rw [Int.tdiv_eq_ediv_of_nonneg (by omega)]; exact wraps_i64 _ (by omega) (by omega)
        have q3 : IntKind.i64.wrap (128 * (s[1].toNat : Int)) = 128 * (s[1].toNat : Int) := wraps_i64 _ (by omega) (by omega)
        have q4 : IntKind.i64.wrap (((s[0].toNat / 2 : Nat) : Int) + 128 * (s[1].toNat : Int)) = ((s[0].toNat / 2 : Nat) : Int) + 128 * (s[1].toNat : Int) := wraps_i64 _ (by omega) (by omega)
        go_quiet (fail)
        clear q0 q1 q2 q3 q4
        go_wp2
        go_ret3
        exact ⟨ret_iii (by simp) rfl rfl, _, rfl⟩
end Go.Proofs.YtffahjlboakakaaDoor.Ea

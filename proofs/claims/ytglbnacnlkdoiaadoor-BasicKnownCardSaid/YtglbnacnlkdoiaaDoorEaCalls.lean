/-
  What each function of layer 2, and each of the document's own, answers. No condition.
-/
import Derived.Test.YtglbnacnlkdoiaaDoorChecked
import Derived.Test.YtglbnacnlkdoiaaDoorEaMath
import Derived.Test.YtglbnacnlkdoiaaDoorBase
import Derived.Test.YtglbnacnlkdoiaaDoorConv
import Derived.WalkKit
import Derived.Lib.Hide
import Derived.Deep.QuietTactic
import Derived.BigQuiet
namespace Go.Proofs.YtglbnacnlkdoiaaDoor.Ea
open Go.RowKit Go.Proofs.YtglbnacnlkdoiaaDoor.Base
theorem isLast (a : Nat) (ha : a < 256) (w : World) :
    Calls Tryd.prog 66 #[.int .u8 (a : Int)] w fun e w' => e = .returned (.bool (spK a)) ∧ w = w' := by
  have H := u8_and1 a ha
  go_enter Tryd.func66, Tryd.ntmps66
  go_wp2
  go_ret
  exact ⟨ret_bool (by unfold spK; rw [Bool.eq_iff_iff]; simp; omega), rfl⟩
theorem address (d : Nat) (hd : d < 256) (cr : Bool) (w : World) :
    Calls Tryd.prog 18 #[.int .u8 (d : Int), .bool cr] w fun e w' => e = .returned (.int .u8 (addr d cr : Int)) ∧ w = w' := by
  by_cases h : 63 < d
  · go_enter Tryd.func18, Tryd.ntmps18
    go_wp2
    go_ret
    exact ⟨ret_int (by rw [addr, if_pos h]; rfl), rfl⟩
  · have e1 : bits .or .u8 ((d : Int) * 4) 1 = (d : Int) * 4 + 1 := bits_join .u8 8 (by decide) wraps_u8 2 _ _ (by omega) (by omega) (by omega) (by decide) (by decide) (by decide)
    have e2 : bits .or .u8 ((d : Int) * 4 + 1) 2 = (d : Int) * 4 + 3 := by
      have : ∀ j : Fin 64, bits .or .u8 ((j.val : Int) * 4 + 1) 2 = (j.val : Int) * 4 + 3 := by decide +kernel
      exact this ⟨d, by omega⟩
    have ha : addr d cr = 4 * d + 2 * cr.toNat + 1 := if_neg h
    rw [ha]; clear ha
    cases cr
    all_goals
      go_enter Tryd.func18, Tryd.ntmps18
      go_wp2
      go_ret
      exact ⟨ret_int (by simp; omega), rfl⟩
theorem rbit (b : Bool) (w : World) :
    Calls Tryd.prog 57 #[.bool b] w fun e w' => e = .returned (.int .i64 (b.toNat : Int)) ∧ w = w' := by
  cases b
  all_goals
    go_enter Tryd.func57, Tryd.ntmps57
    go_wp2
    go_ret
    exact ⟨rfl, rfl⟩
theorem raddress (d : Nat) (hd : d < 256) (cr : Bool) (w : World) :
    Calls Tryd.prog 32 #[.int .u8 (d : Int), .bool cr] w fun e w' => e = .returned (.int .u8 (addr d cr : Int)) ∧ w = w' := by
  by_cases h : 63 < d
  · go_enter Tryd.func32, Tryd.ntmps32
    go_wp2
    go_ret
    exact ⟨ret_int (by rw [addr, if_pos h]; rfl), rfl⟩
  · have ha : addr d cr = 4 * d + 2 * cr.toNat + 1 := if_neg h
    rw [ha]; clear ha
    have hb := Bool.toNat_le cr
    go_enter Tryd.func32, Tryd.ntmps32
    go_wp2_with (go_at_call 57; ((with_reducible refine (rbit _ _).mono ?_); rintro e w' ⟨rfl, rfl⟩))
    go_ret
    exact ⟨ret_int (by simp), rfl⟩
theorem split (a : Nat) (ha : a < 256) (w : World) :
    Calls Tryd.prog 50 #[.int .u8 (a : Int)] w fun e w' => e = .returned (.tuple #[.int .u8 (spD a : Int), .bool (spC a), .bool (spK a)]) ∧ w = w' := by
  have e2 := u8_and2 a ha
  by_cases h : a % 2 = 1
  · have hk : spK a = true := decide_eq_true h
    have HD : Hid (spD a = a / 4) := Lib.hid (if_pos h)
    have HC : Hid (spC a = decide (a / 2 % 2 = 1)) := Lib.hid (by unfold spC; rw [Bool.eq_iff_iff]; simp [h])
    go_enter Tryd.func50, Tryd.ntmps50
    go_wp2_with (go_at_call 66; ((with_reducible refine (isLast _ ha _).mono ?_); rintro e w' ⟨rfl, rfl⟩))
    go_ret3
    exact ⟨ret_ibb (by rw [HD.out]; simp) (by rw [HC.out, Bool.eq_iff_iff]; simp; omega) hk.symm, rfl⟩
  · have hk : spK a = false := decide_eq_false h
    have HD : Hid (spD a = 0) := Lib.hid (if_neg h)
    have HC : Hid (spC a = false) := Lib.hid (by unfold spC; rw [Bool.eq_iff_iff]; simp [h])
    go_enter Tryd.func50, Tryd.ntmps50
    go_wp2_with (go_at_call 66; ((with_reducible refine (isLast _ ha _).mono ?_); rintro e w' ⟨rfl, rfl⟩))
    go_ret3
    exact ⟨ret_ibb (by rw [HD.out]; rfl) HC.out.symm hk.symm, rfl⟩
theorem take (s : ByteArray) (w : World) (hl : s.size ≤ maxLen) :
    Calls Tryd.prog 58 #[.string s] w fun e w' => e = .returned (.tuple #[.int .i64 (tkN s.data.toList : Int), .int .i64 (tkZ s.data.toList : Int), .int .i64 (tkE s.data.toList : Int)]) ∧ w = w' := by
  unfold maxLen at hl
  by_cases h0 : s.size = 0
  · obtain rfl := nil_of_size h0
    go_enter Tryd.func58, Tryd.ntmps58
    go_wp2
    go_ret3
    exact ⟨rfl, rfl⟩
  · have h1 : 0 < s.size := by omega
    have hz : ((s.size : Int) == 0) = false := by rw [beq_eq_false_iff_ne]; omega
    have hb := oct_lt s[0]
    by_cases ho : s[0].toNat % 2 = 1
    · have HT : Hid (tk s.data.toList = (s[0].toNat / 2, 1, 0)) := Lib.hid (by rw [cons_of_size h1]; exact tk_odd _ _ ho)
      have hk : spK s[0].toNat = true := decide_eq_true ho
      unfold tkN tkZ tkE
      rw [HT.out]
      clear ho h0
      go_enter Tryd.func58, Tryd.ntmps58
      go_wp2_with (go_at_call 66; ((with_reducible refine (isLast _ hb _).mono ?_); rintro e w' ⟨rfl, rfl⟩))
      go_ret3
      exact ⟨ret_iii (by simp) rfl rfl, rfl⟩
    · have hk : spK s[0].toNat = false := decide_eq_false ho
      by_cases h2 : s.size = 1
      · have HT : Hid (tk s.data.toList = (0, 0, 20)) := Lib.hid (by rw [one_of_size h2]; exact tk_one _ ho)
        have hz1 : ((s.size : Int) == 1) = true := by rw [beq_iff_eq]; omega
        unfold tkN tkZ tkE
        rw [HT.out]
        clear ho h0 h2
        go_enter Tryd.func58, Tryd.ntmps58
        go_wp2_with (go_at_call 66; ((with_reducible refine (isLast _ hb _).mono ?_); rintro e w' ⟨rfl, rfl⟩))
        go_ret3
        exact ⟨rfl, rfl⟩
      · have h3 : 1 < s.size := by omega
        have hb1 := oct_lt s[1]
        have HT : Hid (tk s.data.toList = (s[0].toNat / 2 + 128 * s[1].toNat, 2, 0)) := Lib.hid (by rw [cons2_of_size h3]; exact tk_two _ _ _ ho)
        have hz1 : ((s.size : Int) == 1) = false := by rw [beq_eq_false_iff_ne]; omega
        have e1 : bits .or .i64 ((s[1].toNat : Int) * 128) ((s[0].toNat : Int) / 2) = (s[1].toNat : Int) * 128 + (s[0].toNat : Int) / 2 := bits_join .i64 63 (by decide) wraps_i64 7 _ _ (by omega) (by omega) (by omega) (by omega) (by omega) (by omega)
        unfold tkN tkZ tkE
        rw [HT.out]
        clear ho h0 h2
        go_enter Tryd.func58, Tryd.ntmps58
        go_wp2_with (go_at_call 66; ((with_reducible refine (isLast _ hb _).mono ?_); rintro e w' ⟨rfl, rfl⟩))
        go_ret3
        exact ⟨ret_iii (by simp; omega) rfl rfl, rfl⟩
theorem octets1 (x : Int) (w : World) :
    Calls Tryd.prog 53 #[.slice (some ⟨w.heap.size, 0, none⟩) 1 1] (w.alloc (.cells #[.int .u8 x] 5)) fun e w' => e = .returned (.string ⟨#[UInt8.ofNat x.toNat]⟩) ∧ w.alloc (.cells #[.int .u8 x] 5) = w' := by
  have hcv := conv_oneI w x
  go_enter Tryd.func53, Tryd.ntmps53
  go_wp2
  go_ret
  exact ⟨rfl, rfl⟩
theorem octets2 (x y : Int) (w : World) :
    Calls Tryd.prog 53 #[.slice (some ⟨w.heap.size, 0, none⟩) 2 2] (w.alloc (.cells #[.int .u8 x, .int .u8 y] 5)) fun e w' => e = .returned (.string ⟨#[UInt8.ofNat x.toNat, UInt8.ofNat y.toNat]⟩) ∧ w.alloc (.cells #[.int .u8 x, .int .u8 y] 5) = w' := by
  have hcv := conv_twoI w x y
  go_enter Tryd.func53, Tryd.ntmps53
  go_wp2
  go_ret
  exact ⟨rfl, rfl⟩
theorem length (n : Int) (hn : n ≤ 9223372036854775807) (w : World) :
    Calls Tryd.prog 28 #[.int .i64 n] w fun e w' => e = .returned (.string (len n)) ∧ Below w.heap.size w w' := by
  by_cases h : n < 0 ∨ 32767 < n
  · rw [len_no h]
    have hd : (decide (n < 0) || decide (32767 < n)) = true := by simpa using h
    clear h
    go_enter Tryd.func28, Tryd.ntmps28
    go_wp2
    all_goals go_ret
    all_goals exact ⟨rfl, Below.refl _ _⟩
  · have h0 : 0 ≤ n := by omega
    have h1 : n ≤ 32767 := by omega
    clear h
    by_cases h2 : n < 128
    · have e1 : bits .or .u8 (n * 2) 1 = n * 2 + 1 := bits_join .u8 8 (by decide) wraps_u8 1 _ _ (by omega) (by omega) (by omega) (by decide) (by decide) (by decide)
      rw [len_one h0 h2]
      have HE : Hid (2 * n.toNat + 1 = (n * 2 + 1).toNat) := Lib.hid (by omega)
      go_enter Tryd.func28, Tryd.ntmps28
      go_wp2_with (go_at_call 53; ((with_reducible refine (octets1 _ _).mono ?_); rintro e w' ⟨rfl, rfl⟩))
      go_ret
      exact ⟨ret_str (by rw [HE.out]), (Below.refl _ _).alloc (Nat.le_refl _) _⟩
    · have h3 : 128 ≤ n := by omega
      clear h0 h2
      rw [len_two h3 h1]
      have HE : Hid (2 * (n.toNat % 128) = (n % 256 * 2 % 256).toNat) := Lib.hid (by omega)
      have HF : Hid (n.toNat / 128 = (n / 128).toNat) := Lib.hid (by omega)
      go_enter Tryd.func28, Tryd.ntmps28
      go_wp2_with (go_at_call 53; ((with_reducible refine (octets2 _ _ _).mono ?_); rintro e w' ⟨rfl, rfl⟩))
      go_ret
      exact ⟨ret_str (by rw [HE.out, HF.out]), (Below.refl _ _).alloc (Nat.le_refl _) _⟩
theorem rlength (n : Int) (hn : n ≤ 9223372036854775807) (w : World) :
    Calls Tryd.prog 46 #[.int .i64 n] w fun e w' => e = .returned (.string (len n)) ∧ Below w.heap.size w w' := by
  by_cases h : n < 0 ∨ 32767 < n
  · rw [len_no h]
    have hd : (decide (n < 0) || decide (32767 < n)) = true := by simpa using h
    clear h
    go_enter Tryd.func46, Tryd.ntmps46
    go_wp2
    all_goals go_ret
    all_goals exact ⟨rfl, Below.refl _ _⟩
  · have h0 : 0 ≤ n := by omega
    have h1 : n ≤ 32767 := by omega
    clear h
    by_cases h2 : n < 128
    · rw [len_one h0 h2]
      have HE : Hid (2 * n.toNat + 1 = (2 * n + 1).toNat) := Lib.hid (by omega)
      have hcv := conv_oneI w (2 * n + 1)
      go_enter Tryd.func46, Tryd.ntmps46
      go_wp2
      go_ret
      exact ⟨ret_str (by rw [HE.out]), (Below.refl _ _).alloc (Nat.le_refl _) _⟩
    · have h3 : 128 ≤ n := by omega
      clear h0 h2
      rw [len_two h3 h1]
      have HE : Hid (2 * (n.toNat % 128) = (2 * (n % 128)).toNat) := Lib.hid (by omega)
      have HF : Hid (n.toNat / 128 = (n / 128).toNat) := Lib.hid (by omega)
      have hcv := conv_twoI w (2 * (n % 128)) (n / 128)
      go_enter Tryd.func46, Tryd.ntmps46
      go_wp2
      go_ret
      exact ⟨ret_str (by rw [HE.out, HF.out]), (Below.refl _ _).alloc (Nat.le_refl _) _⟩
theorem rtake (s : ByteArray) (w : World) (hl : s.size ≤ maxLen) :
    Calls Tryd.prog 61 #[.string s] w fun e w' => e = .returned (.tuple #[.int .i64 (tkN s.data.toList : Int), .int .i64 (tkZ s.data.toList : Int), .int .i64 (tkE s.data.toList : Int)]) ∧ ∃ n, w' = w.drewN n := by
  unfold maxLen at hl
  by_cases h0 : s.size = 0
  · obtain rfl := nil_of_size h0
    go_enter Tryd.func61, Tryd.ntmps61
    go_wp2
    go_ret3
    exact ⟨rfl, 0, rfl⟩
  · have h1 : 0 < s.size := by omega
    have hz0 : ¬ s.toList = [] := toList_ne h1
    have hz : s.toList.isEmpty = false := by simpa using hz0
    have hb := oct_lt s[0]
    by_cases ho : s[0].toNat % 2 = 1
    · have HT : Hid (tk s.data.toList = (s[0].toNat / 2, 1, 0)) := Lib.hid (by rw [cons_of_size h1]; exact tk_odd _ _ ho)
      unfold tkN tkZ tkE
      rw [HT.out]
      clear h0
      go_enter Tryd.func61, Tryd.ntmps61
      go_wp2
      go_ret3
      exact ⟨ret_iii (by simp) rfl rfl, 0, rfl⟩
    · by_cases h2 : s.size = 1
      · have HT : Hid (tk s.data.toList = (0, 0, 20)) := Lib.hid (by rw [one_of_size h2]; exact tk_one _ ho)
        have h3 : s.size < 2 := by omega
        have ho' : s[0].toNat % 2 = 0 := by omega
        unfold tkN tkZ tkE
        rw [HT.out]
        clear ho h0 h2
        go_enter Tryd.func61, Tryd.ntmps61
        go_wp2
        go_ret3
        exact ⟨rfl, 0, rfl⟩
      · have h3 : 1 < s.size := by omega
        have hb1 := oct_lt s[1]
        have ho' : s[0].toNat % 2 = 0 := by omega
        have HT : Hid (tk s.data.toList = (s[0].toNat / 2 + 128 * s[1].toNat, 2, 0)) := Lib.hid (by rw [cons2_of_size h3]; exact tk_two _ _ _ ho)
        unfold tkN tkZ tkE
        rw [HT.out]
        clear ho h0 h2
        go_enter Tryd.func61, Tryd.ntmps61
        go_wp2
        have h4 : (1 : Int) < s.size := by omega
        have q0 : IntKind.i64.wrap (s[0].toNat : Int) = s[0].toNat := wraps_i64 _ (by omega) (by omega)
        have q1 : IntKind.i64.wrap (s[1].toNat : Int) = s[1].toNat := wraps_i64 _ (by omega) (by omega)
        have q2 : IntKind.i64.wrap ((s[0].toNat : Int).tdiv 2) = ((s[0].toNat / 2 : Nat) : Int) := by
          rw [Int.tdiv_eq_ediv_of_nonneg (by omega)]; exact wraps_i64 _ (by omega) (by omega)
        have q3 : IntKind.i64.wrap (128 * (s[1].toNat : Int)) = 128 * (s[1].toNat : Int) := wraps_i64 _ (by omega) (by omega)
        have q4 : IntKind.i64.wrap (((s[0].toNat / 2 : Nat) : Int) + 128 * (s[1].toNat : Int)) = ((s[0].toNat / 2 : Nat) : Int) + 128 * (s[1].toNat : Int) := wraps_i64 _ (by omega) (by omega)
        go_quiet (fail)
        clear q0 q1 q2 q3 q4
        go_wp2
        go_ret3
        exact ⟨ret_iii (by simp) rfl rfl, _, rfl⟩
/-- The octet's address is looked for: which numbers and bits have been looked at. -/
theorem rsplit (a : Nat) (ha : a < 256) (w : World) :
    Calls Tryd.prog 43 #[.int .u8 (a : Int)] w fun e w' => e = .returned (.tuple #[.int .u8 (spD a : Int), .bool (spC a), .bool (spK a)]) ∧ w = w' := by
  have HR : Hid (∀ d : Nat, d < 64 → ∀ b : Bool, addr d b = a → spD a = d ∧ spC a = b ∧ spK a = true) := Lib.hid (addr_is a)
  have HN : Hid ((∀ d : Nat, d < 64 → ∀ b : Bool, addr d b ≠ a) → spD a = 0 ∧ spC a = false ∧ spK a = false) := Lib.hid (addr_none a ha)
  go_enter Tryd.func43, Tryd.ntmps43
  go_wp2
  go_loop [5] (fun d => ∃ k : Nat, k ≤ 64 ∧ d = .int .u8 k ∧ Hid (∀ j : Nat, j < k → ∀ b : Bool, addr j b ≠ a)) (fun d => 64 - (intOf d).toNat)
  case atStart => exact ⟨0, by omega, rfl, Lib.hid (fun j hj => by omega)⟩
  case round =>
    obtain ⟨k, hk, rfl, HK⟩ := hrel
    by_cases hlt : k < 64
    · have hd : decide ((k : Int) < 64) = true := by simp; omega
      go_wp2
      go_loop [6] (fun i => ∃ m : Nat, m ≤ 2 ∧ i = .int .i64 m ∧ Hid (∀ b : Bool, b.toNat < m → addr k b ≠ a)) (fun i => 2 - (intOf i).toNat)
      case atStart => exact ⟨0, by omega, rfl, Lib.hid (fun b hb => by omega)⟩
      case round =>
        obtain ⟨m, hm, rfl, HM⟩ := hrel
        by_cases hm2 : m < 2
        · have hlt' : k < 256 := by omega
          obtain rfl | rfl : m = 0 ∨ m = 1 := by omega
          all_goals
            first
              | (by_cases he : addr k false = a
                 · have HE := Lib.hid (HR.out k hlt false he)
                   have hb : (((addr k false : Nat) : Int) == (a : Int)) = true := by rw [beq_iff_eq, he]
                   clear he
                   go_wp2_with (go_at_call 32; ((with_reducible refine (raddress _ hlt' false _).mono ?_); rintro e w' ⟨rfl, rfl⟩))
                   go_ret3
                   exact ⟨ret_ibb (by rw [HE.out.1]) HE.out.2.1.symm HE.out.2.2.symm, rfl⟩
                 · have HE := Lib.hid he
                   have hb : (((addr k false : Nat) : Int) == (a : Int)) = false := by rw [beq_eq_false_iff_ne]; omega
                   clear he
                   go_wp2_with (go_at_call 32; ((with_reducible refine (raddress _ hlt' false _).mono ?_); rintro e w' ⟨rfl, rfl⟩))
                   go_round
                   case rel => exact ⟨1, by omega, by go_num, Lib.hid (fun b hb => by cases b; exact HE.out; exact absurd hb (by decide))⟩
                   case measure => simp [intOf])
              | (by_cases he : addr k true = a
                 · have HE := Lib.hid (HR.out k hlt true he)
                   have hb : (((addr k true : Nat) : Int) == (a : Int)) = true := by rw [beq_iff_eq, he]
                   clear he
                   go_wp2_with (go_at_call 32; ((with_reducible refine (raddress _ hlt' true _).mono ?_); rintro e w' ⟨rfl, rfl⟩))
                   go_ret3
                   exact ⟨ret_ibb (by rw [HE.out.1]) HE.out.2.1.symm HE.out.2.2.symm, rfl⟩
                 · have HE := Lib.hid he
                   have hb : (((addr k true : Nat) : Int) == (a : Int)) = false := by rw [beq_eq_false_iff_ne]; omega
                   clear he
                   go_wp2_with (go_at_call 32; ((with_reducible refine (raddress _ hlt' true _).mono ?_); rintro e w' ⟨rfl, rfl⟩))
                   go_round
                   case rel => exact ⟨2, by omega, by go_num, Lib.hid (fun b hb => by cases b; exact HM.out false (by decide); exact HE.out)⟩
                   case measure => simp [intOf])
        · have HM2 : Hid (∀ b : Bool, addr k b ≠ a) := Lib.hid (fun b => HM.out b (by have := Bool.toNat_le b; omega))
          go_wp2
          go_round
          case rel => exact ⟨k + 1, by omega, by go_num, Lib.hid (fun j hj b => by
            by_cases hjk : j = k
            · rw [hjk]; exact HM2.out b
            · exact HK.out j (by omega) b)⟩
          case measure => simp [intOf]; omega
    · have HZ := Lib.hid (HN.out (fun d hd b => HK.out d (by omega) b))
      go_wp2
      go_ret3
      exact ⟨ret_ibb (by rw [HZ.out.1]; rfl) HZ.out.2.1.symm HZ.out.2.2.symm, rfl⟩
end Go.Proofs.YtglbnacnlkdoiaaDoor.Ea

/-
  What the small functions of layer 4, and of the document's own, answer. No condition but the bounds of octets.
-/
import Derived.Test.YthlciaomfpephaaDoorFrame
import Derived.Test.YthlciaomfpephaaDoorFcsCore
import Derived.Test.YthlciaomfpephaaDoorEaCalls
import Derived.Test.YthlciaomfpephaaDoorFieldGet
import Derived.WalkSpells
import Derived.WalkLawsBesides
import Derived.Outline
namespace Go.Proofs.YthlciaomfpephaaDoor.Basic
open Go.RowKit Go.Proofs.YthlciaomfpephaaDoor.Base Go.Proofs.YthlciaomfpephaaDoor.Ea Go.Proofs.YthlciaomfpephaaDoor.Field
theorem froom (n : Int) (w : World) :
    Calls Tryd.prog 13 #[.int .i64 n] w fun e w' => e = .returned (.int .i64 (room n : Int)) ∧ w = w' := by
  rcases (by omega : n < 0 ∨ (0 ≤ n ∧ n ≤ 128) ∨ 128 < n) with h | ⟨h, h'⟩ | h
  · have HR : Hid (room n = 0) := Lib.hid (if_pos h)
    go_enter Tryd.func13, Tryd.ntmps13
    go_wp2
    go_ret
    exact ⟨ret_int (by rw [HR.out]; omega), rfl⟩
  · have HR : Hid (room n = n.toNat) := Lib.hid (by rw [room, if_neg (by omega), if_neg (by omega)])
    go_enter Tryd.func13, Tryd.ntmps13
    go_wp2
    all_goals go_ret
    all_goals exact ⟨ret_int (by rw [HR.out]; omega), rfl⟩
  · have HR : Hid (room n = 128) := Lib.hid (by rw [room, if_neg (by omega), if_pos h])
    have h1 : ¬ n < 0 := by omega
    have h2 : ¬ n ≤ 128 := by omega
    go_enter Tryd.func13, Tryd.ntmps13
    go_wp2
    all_goals go_ret
    all_goals exact ⟨ret_int (by rw [HR.out]; omega), rfl⟩
theorem rroom (n : Int) (w : World) :
    Calls Tryd.prog 11 #[.int .i64 n] w fun e w' => e = .returned (.int .i64 (room n : Int)) ∧ w = w' := by
  rcases (by omega : n < 0 ∨ (0 ≤ n ∧ n ≤ 128) ∨ 128 < n) with h | ⟨h, h'⟩ | h
  · have HR : Hid (room n = 0) := Lib.hid (if_pos h)
    go_enter Tryd.func11, Tryd.ntmps11
    go_wp2
    go_ret
    exact ⟨ret_int (by rw [HR.out]; omega), rfl⟩
  · have HR : Hid (room n = n.toNat) := Lib.hid (by rw [room, if_neg (by omega), if_neg (by omega)])
    go_enter Tryd.func11, Tryd.ntmps11
    go_wp2
    all_goals go_ret
    all_goals exact ⟨ret_int (by rw [HR.out]; omega), rfl⟩
  · have HR : Hid (room n = 128) := Lib.hid (by rw [room, if_neg (by omega), if_pos h])
    have h1 : ¬ n < 0 := by omega
    have h2 : ¬ n ≤ 128 := by omega
    go_enter Tryd.func11, Tryd.ntmps11
    go_wp2
    all_goals go_ret
    all_goals exact ⟨ret_int (by rw [HR.out]; omega), rfl⟩
theorem isAddress (a : Nat) (ha : a < 256) (w : World) :
    Calls Tryd.prog 28 #[.int .u8 (a : Int)] w fun e w' => e = .returned (.bool (okA a)) ∧ w = w' := by
  cases hk : spK a
  · have HK : Hid (okA a = false) := Lib.hid (by simp [okA, hk])
    go_enter Tryd.func28, Tryd.ntmps28
    go_wp2_with (go_at_call 44; ((with_reducible refine (split _ ha _).mono ?_); rintro e w' ⟨rfl, rfl⟩))
    go_ret
    exact ⟨ret_bool HK.out.symm, rfl⟩
  · have HK : Hid (okA a = decide (a ≠ 249)) := Lib.hid (by simp [okA, hk])
    go_enter Tryd.func28, Tryd.ntmps28
    go_wp2_with (go_at_call 44; ((with_reducible refine (split _ ha _).mono ?_); rintro e w' ⟨rfl, rfl⟩))
    go_ret
    exact ⟨ret_bool (by rw [HK.out, Bool.eq_iff_iff]; simp; omega), rfl⟩
theorem checked (k : Nat) (h i : ByteArray) (hl : h.size + i.size ≤ maxLen) (w : World) :
    Calls Tryd.prog 35 #[.int .u8 (k : Int), .string h, .string i] w fun e w' => e = .returned (.string (ckB k h i)) ∧ w = w' := by
  unfold maxLen at hl
  by_cases hk : k = 5
  · have HK : Hid (ckB k h i = h) := Lib.hid (if_pos hk)
    have hd : ((k : Int) == 5) = true := by rw [beq_iff_eq]; omega
    clear hk
    go_enter Tryd.func35, Tryd.ntmps35
    go_wp2
    go_ret
    exact ⟨ret_str HK.out.symm, rfl⟩
  · have HK : Hid (ckB k h i = h ++ i) := Lib.hid (if_neg hk)
    have hd : ((k : Int) == 5) = false := by rw [beq_eq_false_iff_ne]; omega
    clear hk
    go_enter Tryd.func35, Tryd.ntmps35
    go_wp2
    go_ret
    exact ⟨ret_str HK.out.symm, rfl⟩
theorem mayBe (f : Fr) (hf : f.In) (w : World) :
    Calls Tryd.prog 31 #[fv f] w fun e w' => e = .returned (.bool (mayF f.k f.c f.info)) ∧ Below w.heap.size w w' := by
  have hk := hf.k
  clear hf
  cases hm : mayB f.k f.c
  · have HK : Hid (mayF f.k f.c f.info = false) := Lib.hid (by simp [mayF, hm])
    go_enter Tryd.func31, Tryd.ntmps31
    go_wp2_with (go_at_call 38; ((with_reducible refine (fmay _ _ hk _).mono ?_); rintro e w' ⟨rfl, rfl⟩))
    go_ret
    exact ⟨ret_bool HK.out.symm, (Below.refl _ _).alloc (Nat.le_refl _) _⟩
  · by_cases hi : f.info.size = 0
    · have HK : Hid (mayF f.k f.c f.info = true) := Lib.hid (by simp [mayF, hm, hi])
      have he : f.info.toList = [] := by rw [ByteArray.toList_eq, nil_of_size hi]
      have he' : f.info.toList.isEmpty = true := by rw [he]; rfl
      clear hi
      go_enter Tryd.func31, Tryd.ntmps31
      go_wp2_with (go_at_call 38; ((with_reducible refine (fmay _ _ hk _).mono ?_); rintro e w' ⟨rfl, rfl⟩))
      go_ret
      exact ⟨ret_bool HK.out.symm, (Below.refl _ _).alloc (Nat.le_refl _) _⟩
    · have HK : Hid (mayF f.k f.c f.info = carryB f.k) := Lib.hid (by simp [mayF, hm, hi])
      have he : ¬ f.info.toList = [] := toList_ne (by omega)
      have he' : f.info.toList.isEmpty = false := by simpa using he
      clear hi
      go_enter Tryd.func31, Tryd.ntmps31
      go_wp2_with (first | (go_at_call 38; ((with_reducible refine (fmay _ _ hk _).mono ?_); rintro e w' ⟨rfl, rfl⟩)) | (go_at_call 39; ((with_reducible refine (fcarries _ hk _).mono ?_); rintro e w' ⟨rfl, rfl⟩)))
      go_ret
      exact ⟨ret_bool HK.out.symm, (Below.refl _ _).alloc (Nat.le_refl _) _⟩
end Go.Proofs.YthlciaomfpephaaDoor.Basic

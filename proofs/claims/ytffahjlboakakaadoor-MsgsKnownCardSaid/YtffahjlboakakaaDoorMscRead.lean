/-
  What isWhole and read of layer 9 answer. Conditions: an octet is an octet; read is asked for what is whole.
-/
import Derived.Test.YtffahjlboakakaaDoorMscPut
namespace Go.Proofs.YtffahjlboakakaaDoor.Msc
open Go.RowKit Go.Proofs.YtffahjlboakakaaDoor.Base Go.Proofs.YtffahjlboakakaaDoor.Mem Go.Proofs.YtffahjlboakakaaDoor.Ea
theorem at_string (s : ByteArray) (i : Nat) (h : i < s.size) (n : Nat) (hx : n = s[i].toNat) (W : World) :
    (Instr.index 9 (.string s) (.int .i64 (i : Int))).run Tryd.prog W = .ok (.int .u8 (n : Int)) W := by
  rw [run_index_string W 9 s .i64 (i : Int) Tryd.underlying9, dif_pos (by omega)]
  simp [hx]
theorem fwhole_no (v : ByteArray) (h : (v.size : Int) < 2) (w : World) :
    Calls Tryd.prog 62 #[.string v] w fun x w' => x = .returned (.bool false) ∧ w = w' := by
  go_enter Tryd.func62, Tryd.ntmps62
  go_wp2
  go_ret
  exact ⟨rfl, rfl⟩
theorem fwhole_yes (v : ByteArray) (n : Nat) (hn : n < 256) (h : ¬ (v.size : Int) < 2) (i1 : ∀ W, (Instr.index 9 (.string v) (.int .i64 1)).run Tryd.prog W = .ok (.int .u8 (n : Int)) W) (w : World) :
    Calls Tryd.prog 62 #[.string v] w fun x w' => x = .returned (.bool (decide (n % 2 = 1) || decide (3 ≤ v.size))) ∧ w = w' := by
  obtain ⟨x, hx⟩ : ∃ x, decide (n % 2 = 0) = x := ⟨_, rfl⟩
  have CH := Lib.hid (fun w => fhas n hn w)
  rw [hx] at CH
  have HX := Lib.hid hx
  clear hx
  cases x
  · have h2 : n % 2 = 1 := by have := of_decide_eq_false HX.out; omega
    rw [h2]
    clear h2 HX
    go_enter Tryd.func62, Tryd.ntmps62
    go_wp2_with (go_at_call 67; ((with_reducible refine (CH.out _).mono ?_); rintro e w2 ⟨rfl, rfl⟩))
    go_ret
    exact ⟨rfl, rfl⟩
  · have h2 : n % 2 = 0 := of_decide_eq_true HX.out
    rw [h2]
    clear h2 HX
    go_enter Tryd.func62, Tryd.ntmps62
    go_wp2_with (go_at_call 67; ((with_reducible refine (CH.out _).mono ?_); rintro e w2 ⟨rfl, rfl⟩))
    all_goals go_ret
    all_goals exact ⟨ret_bool (by rw [Bool.eq_iff_iff]; simp; omega), rfl⟩
theorem fwhole (v : ByteArray) (w : World) :
    Calls Tryd.prog 62 #[.string v] w fun x w' => x = .returned (.bool (whole v)) ∧ w = w' := by
  unfold whole
  by_cases h : 2 ≤ v.size
  · rw [dif_pos h]
    exact fwhole_yes v v[1].toNat (oct_lt _) (by omega) (at_string v 1 (by omega) _ rfl) w
  · rw [dif_neg h]
    exact fwhole_no v (by omega) w
theorem and_bit : ∀ n : Fin 256, ((bits .and .u8 (n.val : Int) 2 != 0) = n1 n.val) ∧ ((bits .and .u8 (n.val : Int) 4 != 0) = n2 n.val) ∧ ((bits .and .u8 (n.val : Int) 8 != 0) = n3 n.val) ∧ ((bits .and .u8 (n.val : Int) 64 != 0) = n6 n.val) ∧ ((bits .and .u8 (n.val : Int) 128 != 0) = n7 n.val) := by decide +kernel
theorem read_results (tmps : Array Value) (W : World) (b : Nat) (p : St) (h : Cells W b p) (p2 : tmps[2]?.getD undef = ptr b) :
    (results Tryd.f63 tmps).run Tryd.prog W = .ok (sv p) W := by
  obtain ⟨g0, g1, g2, g3, g4, g5, g6, g7⟩ := h
  simp [results, Tryd.results63, go_sem, p2, g0, g1, g2, g3, g4, g5, g6, g7]
theorem fread_odd (s : ByteArray) (a n d : Nat) (C K f c r i v : Bool)
    (i0 : ∀ W, (Instr.index 9 (.string s) (.int .i64 0)).run Tryd.prog W = .ok (.int .u8 (a : Int)) W)
    (i1 : ∀ W, (Instr.index 9 (.string s) (.int .i64 1)).run Tryd.prog W = .ok (.int .u8 (n : Int)) W)
    (h1 : (bits .and .u8 (n : Int) 2 != 0) = f) (h2 : (bits .and .u8 (n : Int) 4 != 0) = c) (h3 : (bits .and .u8 (n : Int) 8 != 0) = r) (h6 : (bits .and .u8 (n : Int) 64 != 0) = i) (h7 : (bits .and .u8 (n : Int) 128 != 0) = v)
    (CS : ∀ w, Calls Tryd.prog 68 #[.int .u8 (a : Int)] w fun e w' => e = .returned (.tuple #[.int .u8 (d : Int), .bool C, .bool K]) ∧ w = w')
    (CH : ∀ w, Calls Tryd.prog 67 #[.int .u8 (n : Int)] w fun x w' => x = .returned (.bool false) ∧ w = w') (w : World) :
    Calls Tryd.prog 63 #[.string s] w fun x w' => x = .returned (sv ⟨d, f, c, r, i, v, false, 0⟩) ∧ Below w.heap.size w w' := by
  have CSh := Lib.hid CS
  have CHh := Lib.hid CH
  clear CS CH
  go_enter Tryd.func63, Tryd.ntmps63
  go_wp2_with (first
    | (go_at_call 68; ((with_reducible refine (CSh.out _).mono ?_); rintro e w2 ⟨rfl, rfl⟩))
    | (go_at_call 67; ((with_reducible refine (CHh.out _).mono ?_); rintro e w2 ⟨rfl, rfl⟩)))
  exact bodyPost_ret (read_results _ _ w.heap.size ⟨d, f, c, r, i, v, false, 0⟩ (cells_of (nest w [_, _] 0 _ rfl)) rfl) rfl ⟨rfl, nest_below w [_, _]⟩
theorem fread_even (s : ByteArray) (a n d x : Nat) (C K f c r i v : Bool)
    (i0 : ∀ W, (Instr.index 9 (.string s) (.int .i64 0)).run Tryd.prog W = .ok (.int .u8 (a : Int)) W)
    (i1 : ∀ W, (Instr.index 9 (.string s) (.int .i64 1)).run Tryd.prog W = .ok (.int .u8 (n : Int)) W)
    (i2 : ∀ W, (Instr.index 9 (.string s) (.int .i64 2)).run Tryd.prog W = .ok (.int .u8 (x : Int)) W)
    (h1 : (bits .and .u8 (n : Int) 2 != 0) = f) (h2 : (bits .and .u8 (n : Int) 4 != 0) = c) (h3 : (bits .and .u8 (n : Int) 8 != 0) = r) (h6 : (bits .and .u8 (n : Int) 64 != 0) = i) (h7 : (bits .and .u8 (n : Int) 128 != 0) = v)
    (CS : ∀ w, Calls Tryd.prog 68 #[.int .u8 (a : Int)] w fun e w' => e = .returned (.tuple #[.int .u8 (d : Int), .bool C, .bool K]) ∧ w = w')
    (CH : ∀ w, Calls Tryd.prog 67 #[.int .u8 (n : Int)] w fun x w' => x = .returned (.bool true) ∧ w = w') (w : World) :
    Calls Tryd.prog 63 #[.string s] w fun y w' => y = .returned (sv ⟨d, f, c, r, i, v, true, x / 16⟩) ∧ Below w.heap.size w w' := by
  have CSh := Lib.hid CS
  have CHh := Lib.hid CH
  clear CS CH
  go_enter Tryd.func63, Tryd.ntmps63
  go_wp2_with (first
    | (go_at_call 68; ((with_reducible refine (CSh.out _).mono ?_); rintro e w2 ⟨rfl, rfl⟩))
    | (go_at_call 67; ((with_reducible refine (CHh.out _).mono ?_); rintro e w2 ⟨rfl, rfl⟩)))
  exact bodyPost_ret (read_results _ _ w.heap.size ⟨d, f, c, r, i, v, true, x / 16⟩ (cells_of (nest w [_, _] 0 _ rfl)) rfl) rfl ⟨rfl, nest_below w [_, _]⟩
theorem fread (s : ByteArray) (hw : whole s = true) (w : World) :
    Calls Tryd.prog 63 #[.string s] w fun x w' => x = .returned (sv (rdv s)) ∧ Below w.heap.size w w' := by
  by_cases h : 2 ≤ s.size
  · have hr : rdv s = rd s[0].toNat s[1].toNat (third s) := dif_pos h
    obtain ⟨h1, h2, h3, h6, h7⟩ := and_bit ⟨s[1].toNat, oct_lt _⟩
    have i0 := at_string s 0 (by omega) s[0].toNat rfl
    have i1 := at_string s 1 (by omega) s[1].toNat rfl
    have CS := fun w => split s[0].toNat (oct_lt _) w
    have CH := fun w => fhas s[1].toNat (oct_lt _) w
    rcases Nat.mod_two_eq_zero_or_one s[1].toNat with hp | hp
    · have h3' : 3 ≤ s.size := by
        unfold whole at hw
        rw [dif_pos h, hp] at hw
        simpa using hw
      have ht : third s = s[2].toNat := dif_pos (by omega)
      have e : rdv s = ⟨spD s[0].toNat, n1 s[1].toNat, n2 s[1].toNat, n3 s[1].toNat, n6 s[1].toNat, n7 s[1].toNat, true, s[2].toNat / 16⟩ := by
        rw [hr, ht]; unfold rd; rw [if_pos hp, decide_eq_true hp]
      rw [e]
      rw [decide_eq_true hp] at CH
      exact fread_even s _ _ _ _ _ _ _ _ _ _ _ i0 i1 (at_string s 2 (by omega) s[2].toNat rfl) h1 h2 h3 h6 h7 CS CH w
    · have hp' : ¬ s[1].toNat % 2 = 0 := by omega
      have e : rdv s = ⟨spD s[0].toNat, n1 s[1].toNat, n2 s[1].toNat, n3 s[1].toNat, n6 s[1].toNat, n7 s[1].toNat, false, 0⟩ := by
        rw [hr]; unfold rd; rw [if_neg hp', decide_eq_false hp']
      rw [e]
      rw [decide_eq_false hp'] at CH
      exact fread_odd s _ _ _ _ _ _ _ _ _ _ i0 i1 h1 h2 h3 h6 h7 CS CH w
  · unfold whole at hw; rw [dif_neg h] at hw; cases hw
end Go.Proofs.YtffahjlboakakaaDoor.Msc

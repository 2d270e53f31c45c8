/-
  Layer 22, put together: MscRget. Conditions: as each theorem names them.
-/
import Derived.Test.YtakkhdammmcjcaaGreatDoorK24
namespace Go.Proofs.YtakkhdammmcjcaaGreatDoor.Msc
open Go.RowKit Base Mem Ea
theorem rget_results (tmps : Array Value) (W : World) (b : Nat) (p : St) (e : Int) (h : Cells W b p) (p2 : tmps[2]?.getD undef = ptr b) (p3 : tmps[3]?.getD undef = .int .i64 e) :
 (results Tryz.f102 tmps).run Tryz.prog W = .ok (.tuple #[sv p, .int .i64 e]) W := by
 obtain ⟨g0, g1, g2, g3, g4, g5, g6, g7⟩ := h
 simp [results, Tryz.results102, go_sem, p2, p3, g0, g1, g2, g3, g4, g5, g6, g7]
theorem rget_short1 (s : ByteArray) (h : (s.size : Int) < 2) (w : World) :
 Calls Tryz.prog 102 #[.string s] w fun y w' => y = .returned (.tuple #[sv zero, .int .i64 20]) ∧ Below w.heap.size w w' := by
 go_enter Tryz.func102, Tryz.ntmps102
 go_wp2
 exact bodyPost_ret (rget_results _ _ w.heap.size zero 20 (cells_of (nest w [_] 0 _ rfl)) rfl rfl) rfl ⟨rfl, nest_below w [_]⟩
theorem rget_short2 (s : ByteArray) (n : Nat) (hn : n < 256)
 (i1 : ∀ W, (Instr.index 9 (.string s) (.int .i64 1)).run Tryz.prog W = .ok (.int .u8 (n : Int)) W)
 (q0 : (n : Int) % 2 = 0)
 (q1 : ¬ (s.size : Int) < 2)
 (q2 : (s.size : Int) < 3) (w : World) :
 Calls Tryz.prog 102 #[.string s] w fun y w' => y = .returned (.tuple #[sv zero, .int .i64 20]) ∧ Below w.heap.size w w' := by
 go_enter Tryz.func102, Tryz.ntmps102
 go_wp2
 exact bodyPost_ret (rget_results _ _ w.heap.size zero 20 (cells_of (nest w [_] 0 _ rfl)) rfl rfl) rfl ⟨rfl, nest_below w [_]⟩
theorem rget_odd_k (s : ByteArray) (a n d : Nat) (C : Bool) (hn : n < 256)
 (i0 : ∀ W, (Instr.index 9 (.string s) (.int .i64 0)).run Tryz.prog W = .ok (.int .u8 (a : Int)) W)
 (i1 : ∀ W, (Instr.index 9 (.string s) (.int .i64 1)).run Tryz.prog W = .ok (.int .u8 (n : Int)) W)
 (q0 : ((n : Int) % 2 == 0) = false)
 (q1 : ¬ (s.size : Int) < 2)
 (CS : ∀ w, Calls Tryz.prog 116 #[.int .u8 (a : Int)] w fun e w' => e = .returned (.tuple #[.int .u8 (d : Int), .bool C, .bool false]) ∧ w = w') (w : World) :
 Calls Tryz.prog 102 #[.string s] w fun y w' => y = .returned (.tuple #[sv zero, .int .i64 70]) ∧ Below w.heap.size w w' := by
 have CSh := Lib.hid CS
 clear CS
 go_enter Tryz.func102, Tryz.ntmps102
 go_wp2_with (go_at_call 116; ((with_reducible refine (CSh.out _).mono ?_); rintro e w2 ⟨rfl, rfl⟩))
 exact bodyPost_ret (rget_results _ _ w.heap.size zero 70 (cells_of (nest w [_] 0 _ rfl)) rfl rfl) rfl ⟨rfl, nest_below w [_]⟩
theorem rget_odd_c (s : ByteArray) (a n d : Nat) (hn : n < 256)
 (i0 : ∀ W, (Instr.index 9 (.string s) (.int .i64 0)).run Tryz.prog W = .ok (.int .u8 (a : Int)) W)
 (i1 : ∀ W, (Instr.index 9 (.string s) (.int .i64 1)).run Tryz.prog W = .ok (.int .u8 (n : Int)) W)
 (q0 : ((n : Int) % 2 == 0) = false)
 (q1 : ¬ (s.size : Int) < 2)
 (CS : ∀ w, Calls Tryz.prog 116 #[.int .u8 (a : Int)] w fun e w' => e = .returned (.tuple #[.int .u8 (d : Int), .bool false, .bool true]) ∧ w = w') (w : World) :
 Calls Tryz.prog 102 #[.string s] w fun y w' => y = .returned (.tuple #[sv zero, .int .i64 70]) ∧ Below w.heap.size w w' := by
 have CSh := Lib.hid CS
 clear CS
 go_enter Tryz.func102, Tryz.ntmps102
 go_wp2_with (go_at_call 116; ((with_reducible refine (CSh.out _).mono ?_); rintro e w2 ⟨rfl, rfl⟩))
 exact bodyPost_ret (rget_results _ _ w.heap.size zero 70 (cells_of (nest w [_] 0 _ rfl)) rfl rfl) rfl ⟨rfl, nest_below w [_]⟩
theorem rget_odd_n (s : ByteArray) (a n d : Nat) (hn : n < 256)
 (i0 : ∀ W, (Instr.index 9 (.string s) (.int .i64 0)).run Tryz.prog W = .ok (.int .u8 (a : Int)) W)
 (i1 : ∀ W, (Instr.index 9 (.string s) (.int .i64 1)).run Tryz.prog W = .ok (.int .u8 (n : Int)) W)
 (q0 : ((n : Int) % 2 == 0) = false)
 (q1 : ¬ (s.size : Int) < 2)
 (q2 : ¬ (n : Int) / 16 % 4 = 0)
 (CS : ∀ w, Calls Tryz.prog 116 #[.int .u8 (a : Int)] w fun e w' => e = .returned (.tuple #[.int .u8 (d : Int), .bool true, .bool true]) ∧ w = w') (w : World) :
 Calls Tryz.prog 102 #[.string s] w fun y w' => y = .returned (.tuple #[sv zero, .int .i64 70]) ∧ Below w.heap.size w w' := by
 have CSh := Lib.hid CS
 clear CS
 go_enter Tryz.func102, Tryz.ntmps102
 go_wp2_with (go_at_call 116; ((with_reducible refine (CSh.out _).mono ?_); rintro e w2 ⟨rfl, rfl⟩))
 exact bodyPost_ret (rget_results _ _ w.heap.size zero 70 (cells_of (nest w [_] 0 _ rfl)) rfl rfl) rfl ⟨rfl, nest_below w [_]⟩
theorem rget_even_k (s : ByteArray) (a n d : Nat) (C : Bool) (hn : n < 256)
 (i0 : ∀ W, (Instr.index 9 (.string s) (.int .i64 0)).run Tryz.prog W = .ok (.int .u8 (a : Int)) W)
 (i1 : ∀ W, (Instr.index 9 (.string s) (.int .i64 1)).run Tryz.prog W = .ok (.int .u8 (n : Int)) W)
 (q0 : (n : Int) % 2 = 0)
 (q1 : ¬ (s.size : Int) < 2)
 (q2 : ¬ (s.size : Int) < 3)
 (CS : ∀ w, Calls Tryz.prog 116 #[.int .u8 (a : Int)] w fun e w' => e = .returned (.tuple #[.int .u8 (d : Int), .bool C, .bool false]) ∧ w = w') (w : World) :
 Calls Tryz.prog 102 #[.string s] w fun y w' => y = .returned (.tuple #[sv zero, .int .i64 70]) ∧ Below w.heap.size w w' := by
 have CSh := Lib.hid CS
 clear CS
 go_enter Tryz.func102, Tryz.ntmps102
 go_wp2_with (go_at_call 116; ((with_reducible refine (CSh.out _).mono ?_); rintro e w2 ⟨rfl, rfl⟩))
 exact bodyPost_ret (rget_results _ _ w.heap.size zero 70 (cells_of (nest w [_] 0 _ rfl)) rfl rfl) rfl ⟨rfl, nest_below w [_]⟩
theorem rget_even_c (s : ByteArray) (a n d : Nat) (hn : n < 256)
 (i0 : ∀ W, (Instr.index 9 (.string s) (.int .i64 0)).run Tryz.prog W = .ok (.int .u8 (a : Int)) W)
 (i1 : ∀ W, (Instr.index 9 (.string s) (.int .i64 1)).run Tryz.prog W = .ok (.int .u8 (n : Int)) W)
 (q0 : (n : Int) % 2 = 0)
 (q1 : ¬ (s.size : Int) < 2)
 (q2 : ¬ (s.size : Int) < 3)
 (CS : ∀ w, Calls Tryz.prog 116 #[.int .u8 (a : Int)] w fun e w' => e = .returned (.tuple #[.int .u8 (d : Int), .bool false, .bool true]) ∧ w = w') (w : World) :
 Calls Tryz.prog 102 #[.string s] w fun y w' => y = .returned (.tuple #[sv zero, .int .i64 70]) ∧ Below w.heap.size w w' := by
 have CSh := Lib.hid CS
 clear CS
 go_enter Tryz.func102, Tryz.ntmps102
 go_wp2_with (go_at_call 116; ((with_reducible refine (CSh.out _).mono ?_); rintro e w2 ⟨rfl, rfl⟩))
 exact bodyPost_ret (rget_results _ _ w.heap.size zero 70 (cells_of (nest w [_] 0 _ rfl)) rfl rfl) rfl ⟨rfl, nest_below w [_]⟩
theorem rget_even_n (s : ByteArray) (a n d : Nat) (hn : n < 256)
 (i0 : ∀ W, (Instr.index 9 (.string s) (.int .i64 0)).run Tryz.prog W = .ok (.int .u8 (a : Int)) W)
 (i1 : ∀ W, (Instr.index 9 (.string s) (.int .i64 1)).run Tryz.prog W = .ok (.int .u8 (n : Int)) W)
 (q0 : (n : Int) % 2 = 0)
 (q1 : ¬ (s.size : Int) < 2)
 (q2 : ¬ (s.size : Int) < 3)
 (q3 : ¬ (n : Int) / 16 % 4 = 0)
 (CS : ∀ w, Calls Tryz.prog 116 #[.int .u8 (a : Int)] w fun e w' => e = .returned (.tuple #[.int .u8 (d : Int), .bool true, .bool true]) ∧ w = w') (w : World) :
 Calls Tryz.prog 102 #[.string s] w fun y w' => y = .returned (.tuple #[sv zero, .int .i64 70]) ∧ Below w.heap.size w w' := by
 have CSh := Lib.hid CS
 clear CS
 go_enter Tryz.func102, Tryz.ntmps102
 go_wp2_with (go_at_call 116; ((with_reducible refine (CSh.out _).mono ?_); rintro e w2 ⟨rfl, rfl⟩))
 exact bodyPost_ret (rget_results _ _ w.heap.size zero 70 (cells_of (nest w [_] 0 _ rfl)) rfl rfl) rfl ⟨rfl, nest_below w [_]⟩
theorem rget_odd_long (s : ByteArray) (a n d : Nat) (hn : n < 256)
 (i0 : ∀ W, (Instr.index 9 (.string s) (.int .i64 0)).run Tryz.prog W = .ok (.int .u8 (a : Int)) W)
 (i1 : ∀ W, (Instr.index 9 (.string s) (.int .i64 1)).run Tryz.prog W = .ok (.int .u8 (n : Int)) W)
 (q0 : ((n : Int) % 2 == 0) = false)
 (q1 : ¬ (s.size : Int) < 2)
 (q2 : (n : Int) / 16 % 4 = 0)
 (q3 : 2 < (s.size : Int))
 (CS : ∀ w, Calls Tryz.prog 116 #[.int .u8 (a : Int)] w fun e w' => e = .returned (.tuple #[.int .u8 (d : Int), .bool true, .bool true]) ∧ w = w') (w : World) :
 Calls Tryz.prog 102 #[.string s] w fun y w' => y = .returned (.tuple #[sv zero, .int .i64 70]) ∧ Below w.heap.size w w' := by
 have CSh := Lib.hid CS
 clear CS
 go_enter Tryz.func102, Tryz.ntmps102
 go_wp2_with (go_at_call 116; ((with_reducible refine (CSh.out _).mono ?_); rintro e w2 ⟨rfl, rfl⟩))
 exact bodyPost_ret (rget_results _ _ w.heap.size zero 70 (cells_of (nest w [_] 0 _ rfl)) rfl rfl) rfl ⟨rfl, nest_below w [_]⟩
theorem rget_even_long (s : ByteArray) (a n d : Nat) (hn : n < 256)
 (i0 : ∀ W, (Instr.index 9 (.string s) (.int .i64 0)).run Tryz.prog W = .ok (.int .u8 (a : Int)) W)
 (i1 : ∀ W, (Instr.index 9 (.string s) (.int .i64 1)).run Tryz.prog W = .ok (.int .u8 (n : Int)) W)
 (q0 : (n : Int) % 2 = 0)
 (q1 : ¬ (s.size : Int) < 2)
 (q2 : ¬ (s.size : Int) < 3)
 (q3 : (n : Int) / 16 % 4 = 0)
 (q4 : 3 < (s.size : Int))
 (CS : ∀ w, Calls Tryz.prog 116 #[.int .u8 (a : Int)] w fun e w' => e = .returned (.tuple #[.int .u8 (d : Int), .bool true, .bool true]) ∧ w = w') (w : World) :
 Calls Tryz.prog 102 #[.string s] w fun y w' => y = .returned (.tuple #[sv zero, .int .i64 70]) ∧ Below w.heap.size w w' := by
 have CSh := Lib.hid CS
 clear CS
 go_enter Tryz.func102, Tryz.ntmps102
 go_wp2_with (go_at_call 116; ((with_reducible refine (CSh.out _).mono ?_); rintro e w2 ⟨rfl, rfl⟩))
 exact bodyPost_ret (rget_results _ _ w.heap.size zero 70 (cells_of (nest w [_] 0 _ rfl)) rfl rfl) rfl ⟨rfl, nest_below w [_]⟩
theorem rget_even_x (s : ByteArray) (a n d x : Nat) (hn : n < 256) (hx : x < 256)
 (i0 : ∀ W, (Instr.index 9 (.string s) (.int .i64 0)).run Tryz.prog W = .ok (.int .u8 (a : Int)) W)
 (i1 : ∀ W, (Instr.index 9 (.string s) (.int .i64 1)).run Tryz.prog W = .ok (.int .u8 (n : Int)) W)
 (i2 : ∀ W, (Instr.index 9 (.string s) (.int .i64 2)).run Tryz.prog W = .ok (.int .u8 (x : Int)) W)
 (q0 : (n : Int) % 2 = 0)
 (q1 : ¬ (s.size : Int) < 2)
 (q2 : ¬ (s.size : Int) < 3)
 (q3 : (n : Int) / 16 % 4 = 0)
 (q4 : ¬ 3 < (s.size : Int))
 (q5 : ((x : Int) % 16 != 3) = true)
 (CS : ∀ w, Calls Tryz.prog 116 #[.int .u8 (a : Int)] w fun e w' => e = .returned (.tuple #[.int .u8 (d : Int), .bool true, .bool true]) ∧ w = w') (w : World) :
 Calls Tryz.prog 102 #[.string s] w fun y w' => y = .returned (.tuple #[sv zero, .int .i64 70]) ∧ Below w.heap.size w w' := by
 have CSh := Lib.hid CS
 clear CS
 go_enter Tryz.func102, Tryz.ntmps102
 go_wp2_with (go_at_call 116; ((with_reducible refine (CSh.out _).mono ?_); rintro e w2 ⟨rfl, rfl⟩))
 exact bodyPost_ret (rget_results _ _ w.heap.size zero 70 (cells_of (nest w [_] 0 _ rfl)) rfl rfl) rfl ⟨rfl, nest_below w [_]⟩
theorem rget_odd_ok (s : ByteArray) (a n d : Nat) (f c r i v : Bool) (hn : n < 256)
 (i0 : ∀ W, (Instr.index 9 (.string s) (.int .i64 0)).run Tryz.prog W = .ok (.int .u8 (a : Int)) W)
 (i1 : ∀ W, (Instr.index 9 (.string s) (.int .i64 1)).run Tryz.prog W = .ok (.int .u8 (n : Int)) W)
 (q0 : ((n : Int) % 2 == 0) = false)
 (q1 : ¬ (s.size : Int) < 2)
 (q2 : (n : Int) / 16 % 4 = 0)
 (q3 : ¬ 2 < (s.size : Int))
 (h1 : ((n : Int) / 2 % 2 == 1) = f) (h2 : ((n : Int) / 4 % 2 == 1) = c) (h3 : ((n : Int) / 8 % 2 == 1) = r) (h6 : ((n : Int) / 64 % 2 == 1) = i) (h7 : ((n : Int) / 128 == 1) = v)
 (CS : ∀ w, Calls Tryz.prog 116 #[.int .u8 (a : Int)] w fun e w' => e = .returned (.tuple #[.int .u8 (d : Int), .bool true, .bool true]) ∧ w = w') (w : World) :
 Calls Tryz.prog 102 #[.string s] w fun y w' => y = .returned (.tuple #[sv ⟨d, f, c, r, i, v, false, 0⟩, .int .i64 0]) ∧ Below w.heap.size w w' := by
 have CSh := Lib.hid CS
 clear CS
 go_enter Tryz.func102, Tryz.ntmps102
 go_wp2_with (go_at_call 116; ((with_reducible refine (CSh.out _).mono ?_); rintro e w2 ⟨rfl, rfl⟩))
 exact bodyPost_ret (rget_results _ _ w.heap.size ⟨d, f, c, r, i, v, false, 0⟩ 0 (cells_of (nest w [_, _] 0 _ rfl)) rfl rfl) rfl ⟨rfl, nest_below w [_, _]⟩
theorem rget_even_ok (s : ByteArray) (a n d x : Nat) (f c r i v : Bool) (hn : n < 256) (hx : x < 256)
 (i0 : ∀ W, (Instr.index 9 (.string s) (.int .i64 0)).run Tryz.prog W = .ok (.int .u8 (a : Int)) W)
 (i1 : ∀ W, (Instr.index 9 (.string s) (.int .i64 1)).run Tryz.prog W = .ok (.int .u8 (n : Int)) W)
 (i2 : ∀ W, (Instr.index 9 (.string s) (.int .i64 2)).run Tryz.prog W = .ok (.int .u8 (x : Int)) W)
 (q0 : (n : Int) % 2 = 0)
 (q1 : ¬ (s.size : Int) < 2)
 (q2 : ¬ (s.size : Int) < 3)
 (q3 : (n : Int) / 16 % 4 = 0)
 (q4 : ¬ 3 < (s.size : Int))
 (q5 : ((x : Int) % 16 != 3) = false)
 (h1 : ((n : Int) / 2 % 2 == 1) = f) (h2 : ((n : Int) / 4 % 2 == 1) = c) (h3 : ((n : Int) / 8 % 2 == 1) = r) (h6 : ((n : Int) / 64 % 2 == 1) = i) (h7 : ((n : Int) / 128 == 1) = v)
 (CS : ∀ w, Calls Tryz.prog 116 #[.int .u8 (a : Int)] w fun e w' => e = .returned (.tuple #[.int .u8 (d : Int), .bool true, .bool true]) ∧ w = w') (w : World) :
 Calls Tryz.prog 102 #[.string s] w fun y w' => y = .returned (.tuple #[sv ⟨d, f, c, r, i, v, true, x / 16⟩, .int .i64 0]) ∧ Below w.heap.size w w' := by
 have CSh := Lib.hid CS
 clear CS
 go_enter Tryz.func102, Tryz.ntmps102
 go_wp2_with (go_at_call 116; ((with_reducible refine (CSh.out _).mono ?_); rintro e w2 ⟨rfl, rfl⟩))
 exact bodyPost_ret (rget_results _ _ w.heap.size ⟨d, f, c, r, i, v, true, x / 16⟩ 0 (cells_of (nest w [_, _] 0 _ rfl)) rfl rfl) rfl ⟨rfl, nest_below w [_, _]⟩
theorem sig_is_b (n : Nat) : (((n : Int) / 2 % 2 == 1) = n1 n) ∧ (((n : Int) / 4 % 2 == 1) = n2 n) ∧ (((n : Int) / 8 % 2 == 1) = n3 n) ∧ (((n : Int) / 64 % 2 == 1) = n6 n) ∧ (((n : Int) / 128 == 1) = n7 n) := by
 refine ⟨?_, ?_, ?_, ?_, ?_⟩ <;> (rw [Bool.eq_iff_iff]; simp; omega)
theorem rget (s : ByteArray) (w : World) :
 Calls Tryz.prog 102 #[.string s] w fun x w' => x = .returned (.tuple #[sv (gotS s), .int .i64 (gotE s)]) ∧ Below w.heap.size w w' := by
 by_cases h : 2 ≤ s.size
 · have hr : rdv s = rd s[0].toNat s[1].toNat (third s) := dif_pos h
   have hn := oct_lt s[1]
   have ha := oct_lt s[0]
   obtain ⟨h1, h2, h3, h6, h7⟩ := sig_is_b s[1].toNat
   have i0 := at_string s 0 (by omega) s[0].toNat rfl
   have i1 := at_string s 1 (by omega) s[1].toNat rfl
   have CS := fun w => rsplit s[0].toNat ha w
   have hwh : whole s = (decide (s[1].toNat % 2 = 1) || decide (3 ≤ s.size)) := dif_pos h
   have fo : octets (rdv s) = s ↔ Fine s s[0].toNat s[1].toNat (third s) := ⟨fine_of s h, fine_ok s h⟩
   have hk : spK s[0].toNat = true ↔ s[0].toNat % 2 = 1 := ⟨of_decide_eq_true, decide_eq_true⟩
   have hc : spC s[0].toNat = true ↔ s[0].toNat % 2 = 1 ∧ s[0].toNat / 2 % 2 = 1 := ⟨of_decide_eq_true, decide_eq_true⟩
   rcases Nat.mod_two_eq_zero_or_one s[1].toNat with hp | hp
   · have p1 : (s[1].toNat : Int) % 2 = 0 := by omega
     by_cases h3' : 3 ≤ s.size
     · have hw : whole s = true := by rw [hwh]; simp; omega
       have ht : third s = s[2].toNat := dif_pos (by omega)
       have i2 := at_string s 2 (by omega) s[2].toNat rfl
       have no : ¬ Fine s s[0].toNat s[1].toNat (third s) → gotS s = zero ∧ gotE s = 70 := fun hf => got_no hw (fun e => hf (fo.1 e))
       cases hK : spK s[0].toNat
       · obtain ⟨e1, e2⟩ := no (fun hf => by rw [hk.2 hf.q1] at hK; cases hK)
         rw [hK] at CS
         rw [e1, e2]; exact rget_even_k s _ _ _ _ hn i0 i1 p1 (by omega) (by omega) CS w
       cases hC : spC s[0].toNat
       · obtain ⟨e1, e2⟩ := no (fun hf => by rw [hc.2 ⟨hf.q1, hf.q2⟩] at hC; cases hC)
         rw [hK, hC] at CS
         rw [e1, e2]; exact rget_even_c s _ _ _ hn i0 i1 p1 (by omega) (by omega) CS w
       rw [hK, hC] at CS
       by_cases hz : ¬ s[1].toNat / 16 % 4 = 0
       · obtain ⟨e1, e2⟩ := no (fun hf => hz hf.q3)
         rw [e1, e2]; exact rget_even_n s _ _ _ hn i0 i1 p1 (by omega) (by omega) (by omega) CS w
       have hz := Decidable.not_not.1 hz
       by_cases hs : ¬ s.size = 3
       · obtain ⟨e1, e2⟩ := no (fun hf => hs (hf.q5 hp).1)
         rw [e1, e2]; exact rget_even_long s _ _ _ hn i0 i1 p1 (by omega) (by omega) (by omega) (by omega) CS w
       have hs := Decidable.not_not.1 hs
       by_cases hx : ¬ s[2].toNat % 16 = 3
       · obtain ⟨e1, e2⟩ := no (fun hf => hx (by have := (hf.q5 hp).2; rw [ht] at this; exact this))
         rw [e1, e2]; exact rget_even_x s _ _ _ _ hn (oct_lt _) i0 i1 i2 p1 (by omega) (by omega) (by omega) (by omega) (bne_true (by omega)) CS w
       have hx := Decidable.not_not.1 hx
       obtain ⟨e1, e2⟩ := got_ok hw (fo.2 ⟨(hc.1 hC).1, (hc.1 hC).2, hz, fun h' => by omega, fun _ => ⟨hs, by rw [ht]; exact hx⟩⟩)
       rw [e1, e2, hr, ht]
       have e : rd s[0].toNat s[1].toNat s[2].toNat = ⟨spD s[0].toNat, n1 s[1].toNat, n2 s[1].toNat, n3 s[1].toNat, n6 s[1].toNat, n7 s[1].toNat, true, s[2].toNat / 16⟩ := by
        unfold rd; rw [if_pos hp, decide_eq_true hp]
       rw [e]
       exact rget_even_ok s _ _ _ _ _ _ _ _ _ hn (oct_lt _) i0 i1 i2 p1 (by omega) (by omega) (by omega) (by omega) (bne_false (by omega)) h1 h2 h3 h6 h7 CS w
     · have hw : whole s = false := by rw [hwh]; simp; omega
       obtain ⟨e1, e2⟩ := got_short hw
       rw [e1, e2]; exact rget_short2 s _ hn i1 p1 (by omega) (by omega) w
   · have p0 : ((s[1].toNat : Int) % 2 == 0) = false := beq_false (by omega)
     have hw : whole s = true := by rw [hwh]; simp; omega
     have no : ¬ Fine s s[0].toNat s[1].toNat (third s) → gotS s = zero ∧ gotE s = 70 := fun hf => got_no hw (fun e => hf (fo.1 e))
     cases hK : spK s[0].toNat
     · obtain ⟨e1, e2⟩ := no (fun hf => by rw [hk.2 hf.q1] at hK; cases hK)
       rw [hK] at CS
       rw [e1, e2]; exact rget_odd_k s _ _ _ _ hn i0 i1 p0 (by omega) CS w
     cases hC : spC s[0].toNat
     · obtain ⟨e1, e2⟩ := no (fun hf => by rw [hc.2 ⟨hf.q1, hf.q2⟩] at hC; cases hC)
       rw [hK, hC] at CS
       rw [e1, e2]; exact rget_odd_c s _ _ _ hn i0 i1 p0 (by omega) CS w
     rw [hK, hC] at CS
     by_cases hz : ¬ s[1].toNat / 16 % 4 = 0
     · obtain ⟨e1, e2⟩ := no (fun hf => hz hf.q3)
       rw [e1, e2]; exact rget_odd_n s _ _ _ hn i0 i1 p0 (by omega) (by omega) CS w
     have hz := Decidable.not_not.1 hz
     by_cases hs : ¬ s.size = 2
     · obtain ⟨e1, e2⟩ := no (fun hf => hs (hf.q4 hp))
       rw [e1, e2]; exact rget_odd_long s _ _ _ hn i0 i1 p0 (by omega) (by omega) (by omega) CS w
     have hs := Decidable.not_not.1 hs
     obtain ⟨e1, e2⟩ := got_ok hw (fo.2 ⟨(hc.1 hC).1, (hc.1 hC).2, hz, fun _ => hs, fun h' => by omega⟩)
     rw [e1, e2, hr]
     have hp' : ¬ s[1].toNat % 2 = 0 := by omega
     have e : rd s[0].toNat s[1].toNat (third s) = ⟨spD s[0].toNat, n1 s[1].toNat, n2 s[1].toNat, n3 s[1].toNat, n6 s[1].toNat, n7 s[1].toNat, false, 0⟩ := by
      unfold rd; rw [if_neg hp', decide_eq_false hp']
     rw [e]
     exact rget_odd_ok s _ _ _ _ _ _ _ _ hn i0 i1 p0 (by omega) (by omega) (by omega) h1 h2 h3 h6 h7 CS w
 · have hw : whole s = false := dif_neg h
   obtain ⟨e1, e2⟩ := got_short hw
   rw [e1, e2]; exact rget_short1 s (by omega) w
end Go.Proofs.YtakkhdammmcjcaaGreatDoor.Msc

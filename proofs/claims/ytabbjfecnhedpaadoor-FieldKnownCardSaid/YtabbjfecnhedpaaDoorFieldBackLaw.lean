/-
  FieldBack answers true for every input; memory that was there stays. Condition: the table of the kinds' octets lies where the program lays it.
-/
import Derived.Test.YtabbjfecnhedpaaDoorFieldLaws
namespace Go.Proofs.YtabbjfecnhedpaaDoor.fieldBack
open Go.RowKit Go.Proofs.YtabbjfecnhedpaaDoor.Field Go.Proofs.YtabbjfecnhedpaaDoor.Base
set_option maxRecDepth 100000 in
set_option maxHeartbeats 1000000 in
theorem noNo {c k ns nr : Nat} {pf : Bool} (w : World) (HT : Hid (Tab w))
    (C1 : Hid (Calls Tryd.prog 8 #[.int .u8 (k : Int), .bool pf, .int .u8 (ns : Int), .int .u8 (nr : Int)] w fun e w' => e = .returned (.tuple #[.int .u8 0, .int .i64 2]) ∧ w = w'))
    (C3 : Hid (∀ w, Tab w → Calls Tryd.prog 11 #[.int .u8 (c : Int)] w fun e w' => e = .returned (.tuple #[.int .u8 0, .bool false, .int .u8 0, .int .u8 0, .int .i64 30]) ∧ Below w.heap.size w w')) :
    Calls Tryd.prog 6 #[.int .u8 (k : Int), .bool pf, .int .u8 (ns : Int), .int .u8 (nr : Int), .int .u8 (c : Int)] w fun e w' => e = .returned (.bool true) ∧ Below w.heap.size w w' := by
  go_enter Tryd.func6, Tryd.ntmps6
  go_wp2_with (first
    | (go_at_call 8; ((with_reducible refine (C1.out).mono ?_); rintro e w' ⟨rfl, rfl⟩))
    | (go_at_call 11; ((with_reducible refine (C3.out _ HT.out).mono ?_); rintro e w2 ⟨rfl, hb⟩; have HB2 : Hid (Below w.heap.size w w2) := Lib.hid hb; clear hb; have HT2 := Lib.hid (tab_below HT.out HB2.out)))
    | (go_at_call 10; ((with_reducible refine (works _ HT2.out).mono ?_); rintro e w3 ⟨rfl, hb⟩; have HB3 : Hid (Below w.heap.size w w3) := Lib.hid (below_on HB2.out hb); clear hb)))
  go_ret
  exact ⟨rfl, HB3.out⟩
set_option maxRecDepth 100000 in
set_option maxHeartbeats 1000000 in
theorem noGot {c k ns nr K S R : Nat} {pf P : Bool} (w : World) (HT : Hid (Tab w))
    (C1 : Hid (Calls Tryd.prog 8 #[.int .u8 (k : Int), .bool pf, .int .u8 (ns : Int), .int .u8 (nr : Int)] w fun e w' => e = .returned (.tuple #[.int .u8 0, .int .i64 2]) ∧ w = w'))
    (C3 : Hid (∀ w, Tab w → Calls Tryd.prog 11 #[.int .u8 (c : Int)] w fun e w' => e = .returned (.tuple #[.int .u8 (K : Int), .bool P, .int .u8 (S : Int), .int .u8 (R : Int), .int .i64 0]) ∧ Below w.heap.size w w'))
    (C4 : Hid (∀ w, Tab w → Calls Tryd.prog 8 #[.int .u8 (K : Int), .bool P, .int .u8 (S : Int), .int .u8 (R : Int)] w fun e w' => e = .returned (.tuple #[.int .u8 (c : Int), .int .i64 0]) ∧ w = w')) :
    Calls Tryd.prog 6 #[.int .u8 (k : Int), .bool pf, .int .u8 (ns : Int), .int .u8 (nr : Int), .int .u8 (c : Int)] w fun e w' => e = .returned (.bool true) ∧ Below w.heap.size w w' := by
  go_enter Tryd.func6, Tryd.ntmps6
  go_wp2_with (first
    | (go_at_call 8; ((with_reducible refine (C1.out).mono ?_); rintro e w' ⟨rfl, rfl⟩))
    | (go_at_call 11; ((with_reducible refine (C3.out _ HT.out).mono ?_); rintro e w2 ⟨rfl, hb⟩; have HB2 : Hid (Below w.heap.size w w2) := Lib.hid hb; clear hb; have HT2 := Lib.hid (tab_below HT.out HB2.out)))
    | (go_at_call 8; ((with_reducible refine (C4.out _ HT2.out).mono ?_); rintro e w' ⟨rfl, rfl⟩))
    | (go_at_call 10; ((with_reducible refine (works _ HT2.out).mono ?_); rintro e w3 ⟨rfl, hb⟩; have HB3 : Hid (Below w.heap.size w w3) := Lib.hid (below_on HB2.out hb); clear hb)))
  go_ret
  exact ⟨rfl, HB3.out⟩
set_option maxRecDepth 100000 in
set_option maxHeartbeats 1000000 in
theorem putNo {x c k ns nr : Nat} {pf : Bool} (w : World) (HT : Hid (Tab w))
    (C1 : Hid (Calls Tryd.prog 8 #[.int .u8 (k : Int), .bool pf, .int .u8 (ns : Int), .int .u8 (nr : Int)] w fun e w' => e = .returned (.tuple #[.int .u8 (x : Int), .int .i64 0]) ∧ w = w'))
    (C2 : Hid (∀ w, Tab w → Calls Tryd.prog 11 #[.int .u8 (x : Int)] w fun e w' => e = .returned (.tuple #[.int .u8 (k : Int), .bool pf, .int .u8 (ns : Int), .int .u8 (nr : Int), .int .i64 0]) ∧ Below w.heap.size w w'))
    (C3 : Hid (∀ w, Tab w → Calls Tryd.prog 11 #[.int .u8 (c : Int)] w fun e w' => e = .returned (.tuple #[.int .u8 0, .bool false, .int .u8 0, .int .u8 0, .int .i64 30]) ∧ Below w.heap.size w w')) :
    Calls Tryd.prog 6 #[.int .u8 (k : Int), .bool pf, .int .u8 (ns : Int), .int .u8 (nr : Int), .int .u8 (c : Int)] w fun e w' => e = .returned (.bool true) ∧ Below w.heap.size w w' := by
  go_enter Tryd.func6, Tryd.ntmps6
  go_wp2_with (first
    | (go_at_call 8; ((with_reducible refine (C1.out).mono ?_); rintro e w' ⟨rfl, rfl⟩))
    | (go_at_call 11; ((with_reducible refine (C2.out _ HT.out).mono ?_); rintro e w1 ⟨rfl, hb⟩; have HB1 : Hid (Below w.heap.size w w1) := Lib.hid hb; clear hb; have HT1 := Lib.hid (tab_below HT.out HB1.out)))
    | (go_at_call 11; ((with_reducible refine (C3.out _ HT1.out).mono ?_); rintro e w2 ⟨rfl, hb⟩; have HB2 : Hid (Below w.heap.size w w2) := Lib.hid (below_on HB1.out hb); clear hb; have HT2 := Lib.hid (tab_below HT.out HB2.out)))
    | (go_at_call 10; ((with_reducible refine (works _ HT2.out).mono ?_); rintro e w3 ⟨rfl, hb⟩; have HB3 : Hid (Below w.heap.size w w3) := Lib.hid (below_on HB2.out hb); clear hb)))
  go_ret
  exact ⟨rfl, HB3.out⟩
set_option maxRecDepth 100000 in
set_option maxHeartbeats 1000000 in
theorem putSame {c k ns nr : Nat} {pf : Bool} (w : World) (HT : Hid (Tab w))
    (C1 : Hid (Calls Tryd.prog 8 #[.int .u8 (k : Int), .bool pf, .int .u8 (ns : Int), .int .u8 (nr : Int)] w fun e w' => e = .returned (.tuple #[.int .u8 (c : Int), .int .i64 0]) ∧ w = w'))
    (C2 : Hid (∀ w, Tab w → Calls Tryd.prog 11 #[.int .u8 (c : Int)] w fun e w' => e = .returned (.tuple #[.int .u8 (k : Int), .bool pf, .int .u8 (ns : Int), .int .u8 (nr : Int), .int .i64 0]) ∧ Below w.heap.size w w'))
    (C3 : Hid (∀ w, Tab w → Calls Tryd.prog 11 #[.int .u8 (c : Int)] w fun e w' => e = .returned (.tuple #[.int .u8 (k : Int), .bool pf, .int .u8 (ns : Int), .int .u8 (nr : Int), .int .i64 0]) ∧ Below w.heap.size w w'))
    (C4 : Hid (∀ w, Tab w → Calls Tryd.prog 8 #[.int .u8 (k : Int), .bool pf, .int .u8 (ns : Int), .int .u8 (nr : Int)] w fun e w' => e = .returned (.tuple #[.int .u8 (c : Int), .int .i64 0]) ∧ w = w')) :
    Calls Tryd.prog 6 #[.int .u8 (k : Int), .bool pf, .int .u8 (ns : Int), .int .u8 (nr : Int), .int .u8 (c : Int)] w fun e w' => e = .returned (.bool true) ∧ Below w.heap.size w w' := by
  go_enter Tryd.func6, Tryd.ntmps6
  go_wp2_with (first
    | (go_at_call 8; ((with_reducible refine (C1.out).mono ?_); rintro e w' ⟨rfl, rfl⟩))
    | (go_at_call 11; ((with_reducible refine (C2.out _ HT.out).mono ?_); rintro e w1 ⟨rfl, hb⟩; have HB1 : Hid (Below w.heap.size w w1) := Lib.hid hb; clear hb; have HT1 := Lib.hid (tab_below HT.out HB1.out)))
    | (go_at_call 11; ((with_reducible refine (C3.out _ HT1.out).mono ?_); rintro e w2 ⟨rfl, hb⟩; have HB2 : Hid (Below w.heap.size w w2) := Lib.hid (below_on HB1.out hb); clear hb; have HT2 := Lib.hid (tab_below HT.out HB2.out)))
    | (go_at_call 8; ((with_reducible refine (C4.out _ HT2.out).mono ?_); rintro e w' ⟨rfl, rfl⟩))
    | (go_at_call 10; ((with_reducible refine (works _ HT2.out).mono ?_); rintro e w3 ⟨rfl, hb⟩; have HB3 : Hid (Below w.heap.size w w3) := Lib.hid (below_on HB2.out hb); clear hb)))
  go_ret
  exact ⟨rfl, HB3.out⟩
set_option maxRecDepth 100000 in
set_option maxHeartbeats 1000000 in
theorem putOther1 {x c k ns nr K S R : Nat} {pf P : Bool} (w : World) (HT : Hid (Tab w))
    (C1 : Hid (Calls Tryd.prog 8 #[.int .u8 (k : Int), .bool pf, .int .u8 (ns : Int), .int .u8 (nr : Int)] w fun e w' => e = .returned (.tuple #[.int .u8 (x : Int), .int .i64 0]) ∧ w = w'))
    (C2 : Hid (∀ w, Tab w → Calls Tryd.prog 11 #[.int .u8 (x : Int)] w fun e w' => e = .returned (.tuple #[.int .u8 (k : Int), .bool pf, .int .u8 (ns : Int), .int .u8 (nr : Int), .int .i64 0]) ∧ Below w.heap.size w w'))
    (C3 : Hid (∀ w, Tab w → Calls Tryd.prog 11 #[.int .u8 (c : Int)] w fun e w' => e = .returned (.tuple #[.int .u8 (K : Int), .bool P, .int .u8 (S : Int), .int .u8 (R : Int), .int .i64 0]) ∧ Below w.heap.size w w'))
    (C4 : Hid (∀ w, Tab w → Calls Tryd.prog 8 #[.int .u8 (K : Int), .bool P, .int .u8 (S : Int), .int .u8 (R : Int)] w fun e w' => e = .returned (.tuple #[.int .u8 (c : Int), .int .i64 0]) ∧ w = w'))
    (q0 : ((x : Int) == (c : Int)) = false)
    (q1 : ((K : Int) == (k : Int)) = false) :
    Calls Tryd.prog 6 #[.int .u8 (k : Int), .bool pf, .int .u8 (ns : Int), .int .u8 (nr : Int), .int .u8 (c : Int)] w fun e w' => e = .returned (.bool true) ∧ Below w.heap.size w w' := by
  go_enter Tryd.func6, Tryd.ntmps6
  go_wp2_with (first
    | (go_at_call 8; ((with_reducible refine (C1.out).mono ?_); rintro e w' ⟨rfl, rfl⟩))
    | (go_at_call 11; ((with_reducible refine (C2.out _ HT.out).mono ?_); rintro e w1 ⟨rfl, hb⟩; have HB1 : Hid (Below w.heap.size w w1) := Lib.hid hb; clear hb; have HT1 := Lib.hid (tab_below HT.out HB1.out)))
    | (go_at_call 11; ((with_reducible refine (C3.out _ HT1.out).mono ?_); rintro e w2 ⟨rfl, hb⟩; have HB2 : Hid (Below w.heap.size w w2) := Lib.hid (below_on HB1.out hb); clear hb; have HT2 := Lib.hid (tab_below HT.out HB2.out)))
    | (go_at_call 8; ((with_reducible refine (C4.out _ HT2.out).mono ?_); rintro e w' ⟨rfl, rfl⟩))
    | (go_at_call 10; ((with_reducible refine (works _ HT2.out).mono ?_); rintro e w3 ⟨rfl, hb⟩; have HB3 : Hid (Below w.heap.size w w3) := Lib.hid (below_on HB2.out hb); clear hb)))
  go_ret
  exact ⟨rfl, HB3.out⟩
set_option maxRecDepth 100000 in
set_option maxHeartbeats 1000000 in
theorem putOther2 {x c k ns nr S R : Nat} {pf P : Bool} (w : World) (HT : Hid (Tab w))
    (C1 : Hid (Calls Tryd.prog 8 #[.int .u8 (k : Int), .bool pf, .int .u8 (ns : Int), .int .u8 (nr : Int)] w fun e w' => e = .returned (.tuple #[.int .u8 (x : Int), .int .i64 0]) ∧ w = w'))
    (C2 : Hid (∀ w, Tab w → Calls Tryd.prog 11 #[.int .u8 (x : Int)] w fun e w' => e = .returned (.tuple #[.int .u8 (k : Int), .bool pf, .int .u8 (ns : Int), .int .u8 (nr : Int), .int .i64 0]) ∧ Below w.heap.size w w'))
    (C3 : Hid (∀ w, Tab w → Calls Tryd.prog 11 #[.int .u8 (c : Int)] w fun e w' => e = .returned (.tuple #[.int .u8 (k : Int), .bool P, .int .u8 (S : Int), .int .u8 (R : Int), .int .i64 0]) ∧ Below w.heap.size w w'))
    (C4 : Hid (∀ w, Tab w → Calls Tryd.prog 8 #[.int .u8 (k : Int), .bool P, .int .u8 (S : Int), .int .u8 (R : Int)] w fun e w' => e = .returned (.tuple #[.int .u8 (c : Int), .int .i64 0]) ∧ w = w'))
    (q0 : ((x : Int) == (c : Int)) = false)
    (q1 : P ≠ pf) :
    Calls Tryd.prog 6 #[.int .u8 (k : Int), .bool pf, .int .u8 (ns : Int), .int .u8 (nr : Int), .int .u8 (c : Int)] w fun e w' => e = .returned (.bool true) ∧ Below w.heap.size w w' := by
  obtain rfl : P = !pf := by cases P <;> cases pf <;> simp_all
  clear q1
  cases pf
  all_goals
    simp only [Bool.not_false, Bool.not_true] at C3 C4
    go_enter Tryd.func6, Tryd.ntmps6
    go_wp2_with (first
      | (go_at_call 8; ((with_reducible refine (C1.out).mono ?_); rintro e w' ⟨rfl, rfl⟩))
      | (go_at_call 11; ((with_reducible refine (C2.out _ HT.out).mono ?_); rintro e w1 ⟨rfl, hb⟩; have HB1 : Hid (Below w.heap.size w w1) := Lib.hid hb; clear hb; have HT1 := Lib.hid (tab_below HT.out HB1.out)))
      | (go_at_call 11; ((with_reducible refine (C3.out _ HT1.out).mono ?_); rintro e w2 ⟨rfl, hb⟩; have HB2 : Hid (Below w.heap.size w w2) := Lib.hid (below_on HB1.out hb); clear hb; have HT2 := Lib.hid (tab_below HT.out HB2.out)))
      | (go_at_call 8; ((with_reducible refine (C4.out _ HT2.out).mono ?_); rintro e w' ⟨rfl, rfl⟩))
      | (go_at_call 10; ((with_reducible refine (works _ HT2.out).mono ?_); rintro e w3 ⟨rfl, hb⟩; have HB3 : Hid (Below w.heap.size w w3) := Lib.hid (below_on HB2.out hb); clear hb)))
    go_ret
    exact ⟨rfl, HB3.out⟩
set_option maxRecDepth 100000 in
set_option maxHeartbeats 1000000 in
theorem putOther3 {x c k ns nr S R : Nat} {pf : Bool} (w : World) (HT : Hid (Tab w))
    (C1 : Hid (Calls Tryd.prog 8 #[.int .u8 (k : Int), .bool pf, .int .u8 (ns : Int), .int .u8 (nr : Int)] w fun e w' => e = .returned (.tuple #[.int .u8 (x : Int), .int .i64 0]) ∧ w = w'))
    (C2 : Hid (∀ w, Tab w → Calls Tryd.prog 11 #[.int .u8 (x : Int)] w fun e w' => e = .returned (.tuple #[.int .u8 (k : Int), .bool pf, .int .u8 (ns : Int), .int .u8 (nr : Int), .int .i64 0]) ∧ Below w.heap.size w w'))
    (C3 : Hid (∀ w, Tab w → Calls Tryd.prog 11 #[.int .u8 (c : Int)] w fun e w' => e = .returned (.tuple #[.int .u8 (k : Int), .bool pf, .int .u8 (S : Int), .int .u8 (R : Int), .int .i64 0]) ∧ Below w.heap.size w w'))
    (C4 : Hid (∀ w, Tab w → Calls Tryd.prog 8 #[.int .u8 (k : Int), .bool pf, .int .u8 (S : Int), .int .u8 (R : Int)] w fun e w' => e = .returned (.tuple #[.int .u8 (c : Int), .int .i64 0]) ∧ w = w'))
    (q0 : ((x : Int) == (c : Int)) = false)
    (q1 : ((S : Int) == (ns : Int)) = false) :
    Calls Tryd.prog 6 #[.int .u8 (k : Int), .bool pf, .int .u8 (ns : Int), .int .u8 (nr : Int), .int .u8 (c : Int)] w fun e w' => e = .returned (.bool true) ∧ Below w.heap.size w w' := by
  go_enter Tryd.func6, Tryd.ntmps6
  go_wp2_with (first
    | (go_at_call 8; ((with_reducible refine (C1.out).mono ?_); rintro e w' ⟨rfl, rfl⟩))
    | (go_at_call 11; ((with_reducible refine (C2.out _ HT.out).mono ?_); rintro e w1 ⟨rfl, hb⟩; have HB1 : Hid (Below w.heap.size w w1) := Lib.hid hb; clear hb; have HT1 := Lib.hid (tab_below HT.out HB1.out)))
    | (go_at_call 11; ((with_reducible refine (C3.out _ HT1.out).mono ?_); rintro e w2 ⟨rfl, hb⟩; have HB2 : Hid (Below w.heap.size w w2) := Lib.hid (below_on HB1.out hb); clear hb; have HT2 := Lib.hid (tab_below HT.out HB2.out)))
    | (go_at_call 8; ((with_reducible refine (C4.out _ HT2.out).mono ?_); rintro e w' ⟨rfl, rfl⟩))
    | (go_at_call 10; ((with_reducible refine (works _ HT2.out).mono ?_); rintro e w3 ⟨rfl, hb⟩; have HB3 : Hid (Below w.heap.size w w3) := Lib.hid (below_on HB2.out hb); clear hb)))
  go_ret
  exact ⟨rfl, HB3.out⟩
set_option maxRecDepth 100000 in
set_option maxHeartbeats 1000000 in
theorem putOther4 {x c k ns nr R : Nat} {pf : Bool} (w : World) (HT : Hid (Tab w))
    (C1 : Hid (Calls Tryd.prog 8 #[.int .u8 (k : Int), .bool pf, .int .u8 (ns : Int), .int .u8 (nr : Int)] w fun e w' => e = .returned (.tuple #[.int .u8 (x : Int), .int .i64 0]) ∧ w = w'))
    (C2 : Hid (∀ w, Tab w → Calls Tryd.prog 11 #[.int .u8 (x : Int)] w fun e w' => e = .returned (.tuple #[.int .u8 (k : Int), .bool pf, .int .u8 (ns : Int), .int .u8 (nr : Int), .int .i64 0]) ∧ Below w.heap.size w w'))
    (C3 : Hid (∀ w, Tab w → Calls Tryd.prog 11 #[.int .u8 (c : Int)] w fun e w' => e = .returned (.tuple #[.int .u8 (k : Int), .bool pf, .int .u8 (ns : Int), .int .u8 (R : Int), .int .i64 0]) ∧ Below w.heap.size w w'))
    (C4 : Hid (∀ w, Tab w → Calls Tryd.prog 8 #[.int .u8 (k : Int), .bool pf, .int .u8 (ns : Int), .int .u8 (R : Int)] w fun e w' => e = .returned (.tuple #[.int .u8 (c : Int), .int .i64 0]) ∧ w = w'))
    (q0 : ((x : Int) == (c : Int)) = false)
    (q1 : ((R : Int) == (nr : Int)) = false) :
    Calls Tryd.prog 6 #[.int .u8 (k : Int), .bool pf, .int .u8 (ns : Int), .int .u8 (nr : Int), .int .u8 (c : Int)] w fun e w' => e = .returned (.bool true) ∧ Below w.heap.size w w' := by
  go_enter Tryd.func6, Tryd.ntmps6
  go_wp2_with (first
    | (go_at_call 8; ((with_reducible refine (C1.out).mono ?_); rintro e w' ⟨rfl, rfl⟩))
    | (go_at_call 11; ((with_reducible refine (C2.out _ HT.out).mono ?_); rintro e w1 ⟨rfl, hb⟩; have HB1 : Hid (Below w.heap.size w w1) := Lib.hid hb; clear hb; have HT1 := Lib.hid (tab_below HT.out HB1.out)))
    | (go_at_call 11; ((with_reducible refine (C3.out _ HT1.out).mono ?_); rintro e w2 ⟨rfl, hb⟩; have HB2 : Hid (Below w.heap.size w w2) := Lib.hid (below_on HB1.out hb); clear hb; have HT2 := Lib.hid (tab_below HT.out HB2.out)))
    | (go_at_call 8; ((with_reducible refine (C4.out _ HT2.out).mono ?_); rintro e w' ⟨rfl, rfl⟩))
    | (go_at_call 10; ((with_reducible refine (works _ HT2.out).mono ?_); rintro e w3 ⟨rfl, hb⟩; have HB3 : Hid (Below w.heap.size w w3) := Lib.hid (below_on HB2.out hb); clear hb)))
  go_ret
  exact ⟨rfl, HB3.out⟩
theorem beq_no {a b : Nat} (h : a ≠ b) : ((a : Int) == (b : Int)) = false := by rw [beq_eq_false_iff_ne]; omega
theorem law (k : Nat) (hk : k < 256) (pf : Bool) (ns : Nat) (hs : ns < 256) (nr : Nat) (hr : nr < 256) (c : Nat) (hc : c < 256) (w : World) (ht : Tab w) :
    Calls Tryd.prog 6 #[.int .u8 (k : Int), .bool pf, .int .u8 (ns : Int), .int .u8 (nr : Int), .int .u8 (c : Int)] w fun e w' => e = .returned (.bool true) ∧ Below w.heap.size w w' := by
  by_cases hg : gK c = 0
  · obtain ⟨e1, e2, e3, e4⟩ := get_none hg
    have C3 := Lib.hid (fun w ht => getAt hc (a := 0) (b := false) (d := 0) (g := 0) (e := 30) (by rw [hg]; rfl) e1 (by rw [e2]; rfl) (by rw [e3]; rfl) (by rw [e4]; rfl) w ht)
    by_cases ho : okP k ns nr = true
    · obtain ⟨p1, p2, p3, p4, p5⟩ := put_get pf ho
      exact putNo w (Lib.hid ht) (Lib.hid (fput_ok k ns nr pf hk hs hr ho w ht))
        (Lib.hid (fun w ht => getAt (oct_lt pf ho) (by rw [p1]) p2 (by rw [p3]) (by rw [p4]) (by rw [p5]; rfl) w ht)) C3
    · exact noNo w (Lib.hid ht) (Lib.hid (fput_no k ns nr pf hk hs hr (by simpa using ho) w)) C3
  · obtain ⟨g1, g2⟩ := get_put hc hg
    obtain ⟨b1, b2, b3, b4, _⟩ := okP_bounds g1
    have C3 := Lib.hid (fun w ht => getAt hc (e := 0) rfl rfl rfl rfl (by rw [gE_ok hg]; rfl) w ht)
    have C4 := Lib.hid (fun w ht => putAt (k := gK c) (ns := gNS c) (nr := gNR c) (pf := gPF c) (x := (c : Int)) (y := 0) (by omega) (by omega) (by omega) (by rw [pC_ok _ g1, g2]) (by rw [pE_ok g1]; rfl) w ht)
    by_cases ho : okP k ns nr = true
    · obtain ⟨p1, p2, p3, p4, p5⟩ := put_get pf ho
      have C1 := Lib.hid (fput_ok k ns nr pf hk hs hr ho w ht)
      have C2 := Lib.hid (fun w ht => getAt (oct_lt pf ho) (a := (k : Int)) (b := pf) (d := (ns : Int)) (g := (nr : Int)) (e := 0) (by rw [p1]) p2 (by rw [p3]) (by rw [p4]) (by rw [p5]; rfl) w ht)
      by_cases hx : oct k pf ns nr = c
      · rw [hx] at C1 C2 p1 p2 p3 p4
        rw [p1, p2, p3, p4] at C3 C4
        exact putSame w (Lib.hid ht) C1 C2 C3 C4
      · have q0 := beq_no hx
        by_cases hK : gK c = k
        · rw [hK] at C3 C4 g2
          by_cases hP : gPF c = pf
          · rw [hP] at C3 C4 g2
            by_cases hS : gNS c = ns
            · rw [hS] at C3 C4 g2
              have hR : gNR c ≠ nr := fun h => hx (by rw [← g2, h])
              exact putOther4 w (Lib.hid ht) C1 C2 C3 C4 q0 (beq_no hR)
            · exact putOther3 w (Lib.hid ht) C1 C2 C3 C4 q0 (beq_no hS)
          · exact putOther2 w (Lib.hid ht) C1 C2 C3 C4 q0 hP
        · exact putOther1 w (Lib.hid ht) C1 C2 C3 C4 q0 (beq_no hK)
    · exact noGot w (Lib.hid ht) (Lib.hid (fput_no k ns nr pf hk hs hr (by simpa using ho) w)) C3 C4
end Go.Proofs.YtabbjfecnhedpaaDoor.fieldBack

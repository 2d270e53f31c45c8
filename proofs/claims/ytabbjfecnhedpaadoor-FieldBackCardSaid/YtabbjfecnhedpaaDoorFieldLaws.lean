/-
  The chapter's examples of layer 3 hold, and FieldPut, FieldGet and FieldKinds answer true for every input; memory that was there stays. Condition: the table of the kinds' octets lies where the program lays it.
-/
import Derived.Test.YtabbjfecnhedpaaDoorFieldGet
namespace Go.Proofs.YtabbjfecnhedpaaDoor.Field
open Go.RowKit Go.Proofs.YtabbjfecnhedpaaDoor.Base
/-- The table's numbers, as the row's datum has them. -/
def tabL : List Int := [0, 47, 99, 15, 67, 239, 3, 0, 1, 5, 9]
theorem tab_getD (i : Nat) (h : i < 11) : tabL.getD i 0 = (bareN i : Int) := by
  have : ∀ j : Fin 11, tabL.getD j.val 0 = (bareN j.val : Int) := by decide
  exact this ⟨i, h⟩
theorem getAt {c : Nat} {a d g e : Int} {b : Bool} (hc : c < 256) (h : (gK c : Int) = a) (h1 : gPF c = b) (h2 : (gNS c : Int) = d) (h3 : (gNR c : Int) = g) (h4 : (gE c : Int) = e) (w : World) (ht : Tab w) :
    Calls Tryd.prog 11 #[.int .u8 (c : Int)] w fun x w' => x = .returned (.tuple #[.int .u8 a, .bool b, .int .u8 d, .int .u8 g, .int .i64 e]) ∧ Below w.heap.size w w' := by
  rw [getV_eq h h1 h2 h3 h4]; exact fget c hc w ht
theorem putAt {k ns nr : Nat} {pf : Bool} {x y : Int} (hk : k < 256) (hs : ns < 256) (hr : nr < 256) (h : (pC k pf ns nr : Int) = x) (h1 : (pE k ns nr : Int) = y) (w : World) (ht : Tab w) :
    Calls Tryd.prog 8 #[.int .u8 (k : Int), .bool pf, .int .u8 (ns : Int), .int .u8 (nr : Int)] w fun e w' => e = .returned (.tuple #[.int .u8 x, .int .i64 y]) ∧ w = w' := by
  rw [← h, ← h1]; exact fput k ns nr pf hk hs hr w ht
theorem k1 (w : World) (ht : Tab w) : Calls Tryd.prog 8 #[.int .u8 1, .bool true, .int .u8 0, .int .u8 0] w fun e w' => e = .returned (.tuple #[.int .u8 63, .int .i64 0]) ∧ w = w' := putAt (k := 1) (ns := 0) (nr := 0) (by decide) (by decide) (by decide) (by decide) (by decide) w ht
theorem k2 (w : World) (ht : Tab w) : Calls Tryd.prog 8 #[.int .u8 7, .bool false, .int .u8 2, .int .u8 5] w fun e w' => e = .returned (.tuple #[.int .u8 164, .int .i64 0]) ∧ w = w' := putAt (k := 7) (ns := 2) (nr := 5) (by decide) (by decide) (by decide) (by decide) (by decide) w ht
theorem k3 (w : World) (ht : Tab w) : Calls Tryd.prog 8 #[.int .u8 8, .bool false, .int .u8 1, .int .u8 0] w fun e w' => e = .returned (.tuple #[.int .u8 0, .int .i64 2]) ∧ w = w' := putAt (k := 8) (ns := 1) (nr := 0) (by decide) (by decide) (by decide) (by decide) (by decide) w ht
theorem k4 (w : World) (ht : Tab w) : Calls Tryd.prog 11 #[.int .u8 115] w fun e w' => e = .returned (.tuple #[.int .u8 2, .bool true, .int .u8 0, .int .u8 0, .int .i64 0]) ∧ Below w.heap.size w w' := getAt (c := 115) (by decide) (by decide) (by decide) (by decide) (by decide) (by decide) w ht
theorem k5 (w : World) (ht : Tab w) : Calls Tryd.prog 11 #[.int .u8 13] w fun e w' => e = .returned (.tuple #[.int .u8 0, .bool false, .int .u8 0, .int .u8 0, .int .i64 30]) ∧ Below w.heap.size w w' := getAt (c := 13) (by decide) (by decide) (by decide) (by decide) (by decide) (by decide) w ht
theorem k6 (w : World) (ht : Tab w) : Calls Tryd.prog 11 #[.int .u8 225] w fun e w' => e = .returned (.tuple #[.int .u8 8, .bool false, .int .u8 0, .int .u8 7, .int .i64 0]) ∧ Below w.heap.size w w' := getAt (c := 225) (by decide) (by decide) (by decide) (by decide) (by decide) (by decide) w ht
theorem k7 (w : World) : Calls Tryd.prog 14 #[.int .u8 7] w fun e w' => e = .returned (.bool true) ∧ w = w' := fcarries 7 (by decide) w
theorem k8 (w : World) : Calls Tryd.prog 13 #[.int .u8 1, .bool false] w fun e w' => e = .returned (.bool false) ∧ w = w' := fmay 1 false (by decide) w
set_option maxRecDepth 100000 in
theorem works (w : World) (ht : Tab w) : Calls Tryd.prog 10 #[] w fun e w' => e = .returned (.bool true) ∧ Below w.heap.size w w' := by
  have HT := Lib.hid ht
  clear ht
  go_enter Tryd.func10, Tryd.ntmps10
  go_wp2_with (first
    | (go_at_call 8; (first | ((with_reducible refine (k1 _ HT.out).mono ?_); rintro e w' ⟨rfl, rfl⟩) | ((with_reducible refine (k2 _ HT.out).mono ?_); rintro e w' ⟨rfl, rfl⟩) | ((with_reducible refine (k3 _ HT.out).mono ?_); rintro e w' ⟨rfl, rfl⟩)))
    | (go_at_call 11; (first
        | ((with_reducible refine (k4 _ HT.out).mono ?_); rintro e w1 ⟨rfl, hb⟩; have HB1 : Hid (Below w.heap.size w w1) := Lib.hid hb; clear hb; have HT1 := Lib.hid (tab_below HT.out HB1.out))
        | ((with_reducible refine (k5 _ HT1.out).mono ?_); rintro e w2 ⟨rfl, hb⟩; have HB2 : Hid (Below w.heap.size w w2) := Lib.hid (below_on HB1.out hb); clear hb; have HT2 := Lib.hid (tab_below HT.out HB2.out))
        | ((with_reducible refine (k6 _ HT2.out).mono ?_); rintro e w3 ⟨rfl, hb⟩; have HB3 : Hid (Below w.heap.size w w3) := Lib.hid (below_on HB2.out hb); clear hb)))
    | (go_at_call 14; ((with_reducible refine (k7 _).mono ?_); rintro e w' ⟨rfl, rfl⟩))
    | (go_at_call 13; ((with_reducible refine (k8 _).mono ?_); rintro e w' ⟨rfl, rfl⟩)))
  go_ret
  exact ⟨rfl, HB3.out⟩
end Go.Proofs.YtabbjfecnhedpaaDoor.Field
namespace Go.Proofs.YtabbjfecnhedpaaDoor.fieldPut
open Go.RowKit Go.Proofs.YtabbjfecnhedpaaDoor.Field Go.Proofs.YtabbjfecnhedpaaDoor.Base
theorem law (k : Nat) (hk : k < 256) (pf : Bool) (ns : Nat) (hs : ns < 256) (nr : Nat) (hr : nr < 256) (w : World) (ht : Tab w) :
    Calls Tryd.prog 3 #[.int .u8 (k : Int), .bool pf, .int .u8 (ns : Int), .int .u8 (nr : Int)] w fun e w' => e = .returned (.bool true) ∧ Below w.heap.size w w' := by
  have HT := Lib.hid ht
  clear ht
  go_enter Tryd.func3, Tryd.ntmps3
  go_wp2_with (first
    | (go_at_call 8; ((with_reducible refine (fput _ _ _ _ hk hs hr _ HT.out).mono ?_); rintro e w' ⟨rfl, rfl⟩))
    | (go_at_call 9; ((with_reducible refine (rput _ _ _ _ hk hs hr _).mono ?_); rintro e w' ⟨rfl, rfl⟩))
    | (go_at_call 10; ((with_reducible refine (works _ HT.out).mono ?_); rintro e w1 ⟨rfl, hb⟩; have HB := Lib.hid hb; clear hb)))
  go_ret
  exact ⟨rfl, HB.out⟩
end Go.Proofs.YtabbjfecnhedpaaDoor.fieldPut
namespace Go.Proofs.YtabbjfecnhedpaaDoor.fieldGet
open Go.RowKit Go.Proofs.YtabbjfecnhedpaaDoor.Field Go.Proofs.YtabbjfecnhedpaaDoor.Base
theorem law (c : Nat) (hc : c < 256) (w : World) (ht : Tab w) :
    Calls Tryd.prog 4 #[.int .u8 (c : Int)] w fun e w' => e = .returned (.bool true) ∧ Below w.heap.size w w' := by
  have HT := Lib.hid ht
  clear ht
  have HF := Lib.hid (getAt hc rfl rfl rfl rfl rfl)
  have HR := Lib.hid (rget c hc)
  unfold getV at HR
  go_enter Tryd.func4, Tryd.ntmps4
  go_wp2_with (first
    | (go_at_call 11; ((with_reducible refine (HF.out _ HT.out).mono ?_); rintro e w1 ⟨rfl, hb⟩; have HB := Lib.hid hb; clear hb; have HT1 := Lib.hid (tab_below HT.out HB.out)))
    | (go_at_call 12; ((with_reducible refine (HR.out _).mono ?_); rintro e w' ⟨rfl, rfl⟩))
    | (go_at_call 10; ((with_reducible refine (works _ HT1.out).mono ?_); rintro e w2 ⟨rfl, hb⟩; have HB2 := Lib.hid (below_on HB.out hb); clear hb)))
  go_ret
  exact ⟨rfl, HB2.out⟩
end Go.Proofs.YtabbjfecnhedpaaDoor.fieldGet
namespace Go.Proofs.YtabbjfecnhedpaaDoor.fieldKinds
open Go.RowKit Go.Proofs.YtabbjfecnhedpaaDoor.Field Go.Proofs.YtabbjfecnhedpaaDoor.Base
theorem law (k : Nat) (hk : k < 256) (b : Bool) (w : World) (ht : Tab w) :
    Calls Tryd.prog 5 #[.int .u8 (k : Int), .bool b] w fun e w' => e = .returned (.bool true) ∧ Below w.heap.size w w' := by
  have HT := Lib.hid ht
  clear ht
  by_cases h : 1 ≤ k ∧ k ≤ 10
  · obtain ⟨h1, h2⟩ := h
    by_cases m : mayB k true = true
    · go_enter Tryd.func5, Tryd.ntmps5
      go_wp2_with (first
        | (go_at_call 13; ((with_reducible refine (fmay _ _ hk _).mono ?_); rintro e w' ⟨rfl, rfl⟩))
        | (go_at_call 16; ((with_reducible refine (rmay _ _ hk _).mono ?_); rintro e w' ⟨rfl, rfl⟩))
        | (go_at_call 14; ((with_reducible refine (fcarries _ hk _).mono ?_); rintro e w' ⟨rfl, rfl⟩))
        | (go_at_call 15; ((with_reducible refine (rcarries _ hk _).mono ?_); rintro e w' ⟨rfl, rfl⟩))
        | (go_at_call 10; ((with_reducible refine (works _ HT.out).mono ?_); rintro e w1 ⟨rfl, hb⟩; have HB := Lib.hid hb; clear hb)))
      go_ret
      exact ⟨rfl, HB.out⟩
    · have m1 : mayB k true = false := by simpa using m
      have m2 : mayB k false = true := by
        revert m
        rw [mayB, mayB]
        simp
        omega
      clear m
      go_enter Tryd.func5, Tryd.ntmps5
      go_wp2_with (first
        | (go_at_call 13; ((with_reducible refine (fmay _ _ hk _).mono ?_); rintro e w' ⟨rfl, rfl⟩))
        | (go_at_call 16; ((with_reducible refine (rmay _ _ hk _).mono ?_); rintro e w' ⟨rfl, rfl⟩))
        | (go_at_call 14; ((with_reducible refine (fcarries _ hk _).mono ?_); rintro e w' ⟨rfl, rfl⟩))
        | (go_at_call 15; ((with_reducible refine (rcarries _ hk _).mono ?_); rintro e w' ⟨rfl, rfl⟩))
        | (go_at_call 10; ((with_reducible refine (works _ HT.out).mono ?_); rintro e w1 ⟨rfl, hb⟩; have HB := Lib.hid hb; clear hb)))
      go_ret
      exact ⟨rfl, HB.out⟩
  · have m1 : mayB k true = false := by rw [mayB, Bool.eq_false_iff]; simp; omega
    have m2 : mayB k false = false := by rw [mayB, Bool.eq_false_iff]; simp; omega
    by_cases h1 : 1 ≤ k
    · have h2 : ¬ k ≤ 10 := fun h3 => h ⟨h1, h3⟩
      have q : decide ((k : Int) ≤ 10) = false := by simp; omega
      clear h
      go_enter Tryd.func5, Tryd.ntmps5
      go_wp2_with (first
        | (go_at_call 13; ((with_reducible refine (fmay _ _ hk _).mono ?_); rintro e w' ⟨rfl, rfl⟩))
        | (go_at_call 16; ((with_reducible refine (rmay _ _ hk _).mono ?_); rintro e w' ⟨rfl, rfl⟩))
        | (go_at_call 14; ((with_reducible refine (fcarries _ hk _).mono ?_); rintro e w' ⟨rfl, rfl⟩))
        | (go_at_call 15; ((with_reducible refine (rcarries _ hk _).mono ?_); rintro e w' ⟨rfl, rfl⟩))
        | (go_at_call 10; ((with_reducible refine (works _ HT.out).mono ?_); rintro e w1 ⟨rfl, hb⟩; have HB := Lib.hid hb; clear hb)))
      go_ret
      exact ⟨rfl, HB.out⟩
    · clear h
      go_enter Tryd.func5, Tryd.ntmps5
      go_wp2_with (first
        | (go_at_call 13; ((with_reducible refine (fmay _ _ hk _).mono ?_); rintro e w' ⟨rfl, rfl⟩))
        | (go_at_call 16; ((with_reducible refine (rmay _ _ hk _).mono ?_); rintro e w' ⟨rfl, rfl⟩))
        | (go_at_call 14; ((with_reducible refine (fcarries _ hk _).mono ?_); rintro e w' ⟨rfl, rfl⟩))
        | (go_at_call 15; ((with_reducible refine (rcarries _ hk _).mono ?_); rintro e w' ⟨rfl, rfl⟩))
        | (go_at_call 10; ((with_reducible refine (works _ HT.out).mono ?_); rintro e w1 ⟨rfl, hb⟩; have HB := Lib.hid hb; clear hb)))
      go_ret
      exact ⟨rfl, HB.out⟩
end Go.Proofs.YtabbjfecnhedpaaDoor.fieldKinds

/-
  FcsSums answers true for every bytes, and turns no memory. Condition: the table of sixteen numbers lies where the program lays it.
-/
import Derived.Test.YtfkmneohdkjheaaDoorFcsCalls
namespace Go.Proofs.YtfkmneohdkjheaaDoor.fcsSums
open Go.RowKit Go.Proofs.YtfkmneohdkjheaaDoor.Fcs
theorem law (s : ByteArray) (hs : s.size ≤ maxLen) (w : World) (ht : Tab w) :
    Calls Tryd.prog 4 #[.string s] w fun e w' => e = .returned (.bool true) ∧ Below w.heap.size w w' := by
  have HT := Lib.hid ht
  clear ht
  have hg : (goodB s.data.toList == (((reg s.data.toList : Nat) : Int) == 207)) = true := by
    unfold goodB; rw [beq_iff_eq, Bool.eq_iff_iff]; simp; omega
  by_cases h : 3000 < s.size
  · go_enter Tryd.func4, Tryd.ntmps4
    go_wp2_with (go_at_call 12; ((with_reducible refine (works _ HT.out).mono ?_); rintro e w' ⟨rfl, rfl⟩))
    go_ret
    exact ⟨rfl, Below.refl _ _⟩
  · go_enter Tryd.func4, Tryd.ntmps4
    go_wp2_with (first
      | (go_at_call 13; ((with_reducible refine (fsum _ hs _ HT.out).mono ?_); rintro e w' ⟨rfl, rfl⟩))
      | (go_at_call 14; ((with_reducible refine (rsum _ hs _).mono ?_); rintro e w' ⟨rfl, rfl⟩))
      | (go_at_call 15; ((with_reducible refine (fgood _ hs _ HT.out).mono ?_); rintro e w' ⟨rfl, rfl⟩))
      | (go_at_call 16; ((with_reducible refine (register _ hs _).mono ?_); rintro e w' ⟨rfl, rfl⟩))
      | (go_at_call 12; ((with_reducible refine (works _ HT.out).mono ?_); rintro e w' ⟨rfl, rfl⟩)))
    go_ret
    exact ⟨rfl, Below.refl _ _⟩
end Go.Proofs.YtfkmneohdkjheaaDoor.fcsSums

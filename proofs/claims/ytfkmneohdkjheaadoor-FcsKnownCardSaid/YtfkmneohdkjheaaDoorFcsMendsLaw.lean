/-
  FcsMends answers true for every bytes and every number, and turns nothing that was there. Condition: the table of sixteen numbers lies where the program lays it.
-/
import Derived.Test.YtfkmneohdkjheaaDoorFcsTurned
namespace Go.Proofs.YtfkmneohdkjheaaDoor.fcsMends
open Go.RowKit Go.Proofs.YtfkmneohdkjheaaDoor.Fcs
theorem law (s : ByteArray) (hs : s.size ≤ maxLen) (bit : Int) (hi : -9223372036854775808 ≤ bit ∧ bit ≤ 9223372036854775807) (w : World) (ht : Tab w) :
    Calls Tryd.prog 5 #[.string s, .int .i64 bit] w fun e w' => e = .returned (.bool true) ∧ Below w.heap.size w w' := by
  have HT := Lib.hid ht
  clear ht
  have HI := Lib.hid hi.2
  clear hi
  by_cases h : 1000 < s.size
  · go_enter Tryd.func5, Tryd.ntmps5
    go_wp2_with (go_at_call 12; ((with_reducible refine (works _ HT.out).mono ?_); rintro e w' ⟨rfl, rfl⟩))
    go_ret
    exact ⟨rfl, Below.refl _ _⟩
  · go_enter Tryd.func5, Tryd.ntmps5
    go_wp2_with (first
      | (go_at_call 17; ((with_reducible refine (fmend s bit hs _ HT.out HI.out).mono ?_); rintro e w' ⟨rfl, rfl⟩))
      | (go_at_call 18; ((with_reducible refine (rmend s bit _ hs HI.out).mono ?_); rintro e w1 ⟨rfl, hb⟩; have HB := Lib.hid hb; clear hb))
      | (go_at_call 12; ((with_reducible refine (works _ (tab_below HT.out HB.out)).mono ?_); rintro e w' ⟨rfl, rfl⟩)))
    go_ret
    exact ⟨rfl, HB.out⟩
end Go.Proofs.YtfkmneohdkjheaaDoor.fcsMends

/-
  LineNone answers true for everything, and turns nothing that was there. No condition.
-/
import Derived.Test.YtllojgmlngfibaaLnVal
namespace Go.Proofs.Ytllojgmlngfibaa.lineNone
open Go.RowKit Go.Proofs.Ytllojgmlngfibaa.Base Go.Proofs.Ytllojgmlngfibaa.Mem Go.Proofs.Ytllojgmlngfibaa.Ln
set_option maxHeartbeats 2000000 in
set_option maxRecDepth 100000 in
theorem law (s : ByteArray) (hs : s.size ≤ maxLen) (n : Int) (_ : -9223372036854775808 ≤ n ∧ n ≤ 9223372036854775807) (x : Dm) (_ : x.In) (w : World) :
    Calls Try.prog 4 #[.string s, .int .i64 n, dv x] w fun e w' => e = .returned (.bool true) ∧ Below w.heap.size w w' := by
  have CW := Lib.hid (fun W => fworks W)
  have CS := Lib.hid (fun W v => fsend_nil W s v)
  have CH := Lib.hid (fun W => fhand_nil W n)
  have CP := Lib.hid (fun W => fpieces_nil W)
  have CT := Lib.hid (fun W => fwaits_nil W)
  have hs63 : s.size ≤ 9223372036854775807 := by unfold maxLen at hs; omega
  obtain ⟨z, hz⟩ : ∃ z, s.size = z := ⟨_, rfl⟩
  rw [hz] at hs63
  by_cases h1 : 100 < z
  · have h2 : (100 : Int) < (z : Int) := by omega
    have h3 : decide ((100 : Int) < (z : Int)) = true := decide_eq_true h2
    go_enter Try.func4, Try.ntmps4
    go_wp2_with (go_at_call 6; ((with_reducible refine (CW.out _).mono ?_); rintro e w1 ⟨rfl, hb⟩; have HB := Lib.hid (on_new (Below.refl _ _) hb); clear hb))
    go_ret
    exact ⟨rfl, HB.out⟩
  · have h2 : ¬ (100 : Int) < (z : Int) := by omega
    have h3 : decide ((100 : Int) < (z : Int)) = false := decide_eq_false h2
    go_enter Try.func4, Try.ntmps4
    go_wp2_with (first
      | (go_at_call 10; ((with_reducible refine (CS.out _ _).mono ?_); rintro e w1 ⟨rfl, hw⟩; rw [hw]; clear hw))
      | (go_at_call 12; ((with_reducible refine (CH.out _).mono ?_); rintro e w1 ⟨rfl, hw⟩; rw [hw]; clear hw))
      | (go_at_call 13; ((with_reducible refine (CP.out _).mono ?_); rintro e w1 ⟨rfl, hw⟩; rw [hw]; clear hw))
      | (go_at_call 11; ((with_reducible refine (CT.out _).mono ?_); rintro e w1 ⟨rfl, hw⟩; rw [hw]; clear hw))
      | (go_at_call 6; ((with_reducible refine (CW.out _).mono ?_); rintro e w1 ⟨rfl, hb⟩; have HB := Lib.hid (below_on (nest_below w [_, _]) hb); clear hb)))
    go_ret
    exact ⟨rfl, HB.out⟩
end Go.Proofs.Ytllojgmlngfibaa.lineNone

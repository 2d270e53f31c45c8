/-
  QueueNone answers true whatever came in, and turns nothing that was there. No condition.
-/
import Derived.Test.YthocanbbonikiaaQuWorks
namespace Go.Proofs.Ythocanbbonikiaa.queueNone
open Go.RowKit Go.Proofs.Ythocanbbonikiaa.Base Go.Proofs.Ythocanbbonikiaa.Mem Go.Proofs.Ythocanbbonikiaa.Cr Go.Proofs.Ythocanbbonikiaa.Qu
set_option maxHeartbeats 4000000 in
theorem all (s : ByteArray) (n : Int) (w : World) : Calls Try.prog 5 #[.string s, im n] w fun e w' => e = .returned (.bool true) ∧ Below w.heap.size w w' := by
  have CW := Lib.hid (fun w => fworks w)
  by_cases h : 300 < s.size
  · have s1 : decide ((300 : Int) < (s.size : Int)) = true := decide_eq_true (by omega)
    have s2 : (300 : Int) < (s.size : Int) := by omega
    go_enter Try.func5, Try.ntmps5
    go_wp2_with (go_at_call 8; refine (CW.out _).mono ?_; rintro x v ⟨rfl, hb⟩; have HB := Lib.hid hb; clear hb)
    go_ret
    exact ⟨rfl, HB.out⟩
  · have s1 : decide ((300 : Int) < (s.size : Int)) = false := decide_eq_false (by omega)
    have s2 : ¬ (300 : Int) < (s.size : Int) := by omega
    go_enter Try.func5, Try.ntmps5
    go_wp2_with (first
      | (go_at_call 18; refine (fput_nil _ _).mono ?_; rintro x v ⟨rfl, rfl⟩)
      | (go_at_call 12; refine (fnext_nil _ _).mono ?_; rintro x v ⟨rfl, rfl⟩)
      | (go_at_call 14; refine (fpeek_nil _ _).mono ?_; rintro x v ⟨rfl, rfl⟩)
      | (go_at_call 20; refine (flen_nil _).mono ?_; rintro x v ⟨rfl, rfl⟩)
      | (go_at_call 21; refine (ffree_nil _).mono ?_; rintro x v ⟨rfl, rfl⟩)
      | (go_at_call 16; refine (fclear_nil _).mono ?_; rintro x v ⟨rfl, rfl⟩)
      | (go_at_call 8; refine (CW.out _).mono ?_; rintro x v ⟨rfl, hb⟩; have HB := Lib.hid hb; clear hb))
    go_ret
    exact ⟨rfl, HB.out⟩
theorem law (s : ByteArray) (_ : s.size ≤ maxLen) (n : Int) (_ : -9223372036854775808 ≤ n ∧ n ≤ 9223372036854775807) (w : World) : Calls Try.prog 5 #[.string s, im n] w fun e w' => e = .returned (.bool true) ∧ Below w.heap.size w w' := all s n w
end Go.Proofs.Ythocanbbonikiaa.queueNone

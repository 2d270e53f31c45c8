/-
  What the small functions of layer 9, and of the document's own, answer. No condition but the bounds of octets.
-/
import Derived.Test.YtffahjlboakakaaDoorMscMem
namespace Go.Proofs.YtffahjlboakakaaDoor.Msc
open Go.RowKit Go.Proofs.YtffahjlboakakaaDoor.Base Go.Proofs.YtffahjlboakakaaDoor.Mem
theorem fhas (n : Nat) (hn : n < 256) (w : World) :
    Calls Tryd.prog 67 #[.int .u8 (n : Int)] w fun x w' => x = .returned (.bool (decide (n % 2 = 0))) ∧ w = w' := by
  have h1 := u8_and1 n hn
  go_enter Tryd.func67, Tryd.ntmps67
  go_wp2
  go_ret
  exact ⟨ret_bool (by rw [Bool.eq_iff_iff]; simp <;> omega), rfl⟩
theorem fmay (p : St) (w : World) :
    Calls Tryd.prog 54 #[sv p] w fun x w' => x = .returned (.bool (may p)) ∧ Below w.heap.size w w' := by
  obtain ⟨x, hx⟩ : ∃ x, may p = x := ⟨_, rfl⟩
  have HX := Lib.hid hx
  rw [hx]
  clear hx
  obtain ⟨d, f, c, r, i, v, b, k⟩ := p
  cases b
  · go_enter Tryd.func54, Tryd.ntmps54
    go_wp2
    all_goals go_ret
    all_goals exact ⟨ret_bool (by rw [← HX.out, Bool.eq_iff_iff]; clear HX; first | (simp_all [may]; done) | (simp_all [may]; omega)), nest_below w [_]⟩
  · go_enter Tryd.func54, Tryd.ntmps54
    go_wp2
    all_goals go_ret
    all_goals exact ⟨ret_bool (by rw [← HX.out, Bool.eq_iff_iff]; clear HX; first | (simp_all [may]; done) | (simp_all [may]; omega)), nest_below w [_]⟩
end Go.Proofs.YtffahjlboakakaaDoor.Msc

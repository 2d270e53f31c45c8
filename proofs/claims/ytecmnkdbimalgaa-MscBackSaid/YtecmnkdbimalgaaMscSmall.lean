/-
  What the small functions of layer 9, and of the document's own, answer. No condition but the bounds of octets.
-/
import Derived.Test.YtecmnkdbimalgaaMscMem
namespace Go.Proofs.Ytecmnkdbimalgaa.Msc
open Go.RowKit Go.Proofs.Ytecmnkdbimalgaa.Base Go.Proofs.Ytecmnkdbimalgaa.Mem
theorem ref_results (tmps : Array Value) (W : World) (b : Nat) (p : St) (h : Cells W b p) (p2 : tmps[2]?.getD undef = ptr b) :
    (results Try.f10 tmps).run Try.prog W = .ok (sv p) W := by
  obtain ⟨g0, g1, g2, g3, g4, g5, g6, g7⟩ := h
  simp [results, Try.results10, go_sem, p2, g0, g1, g2, g3, g4, g5, g6, g7]
theorem fref (p : St) (w : World) :
    Calls Try.prog 10 #[sv p] w fun x w' => x = .returned (sv p) ∧ Below w.heap.size w w' := by
  go_enter Try.func10, Try.ntmps10
  go_wp2
  exact bodyPost_ret (ref_results _ _ (w.heap.size + 1) p (cells_of (nest w [_, _] 1 _ rfl)) rfl) rfl ⟨rfl, nest_below w [_, _]⟩
theorem fhas (n : Nat) (hn : n < 256) (w : World) :
    Calls Try.prog 24 #[.int .u8 (n : Int)] w fun x w' => x = .returned (.bool (decide (n % 2 = 0))) ∧ w = w' := by
  have h1 := u8_and1 n hn
  go_enter Try.func24, Try.ntmps24
  go_wp2
  go_ret
  exact ⟨ret_bool (by rw [Bool.eq_iff_iff]; simp <;> omega), rfl⟩
theorem fmay (p : St) (w : World) :
    Calls Try.prog 16 #[sv p] w fun x w' => x = .returned (.bool (may p)) ∧ Below w.heap.size w w' := by
  obtain ⟨x, hx⟩ : ∃ x, may p = x := ⟨_, rfl⟩
  have HX := Lib.hid hx
  rw [hx]
  clear hx
  obtain ⟨d, f, c, r, i, v, b, k⟩ := p
  cases b
  · go_enter Try.func16, Try.ntmps16
    go_wp2
    all_goals go_ret
    all_goals exact ⟨ret_bool (by rw [← HX.out, Bool.eq_iff_iff]; clear HX; first | (simp_all [may]; done) | (simp_all [may]; omega)), nest_below w [_]⟩
  · go_enter Try.func16, Try.ntmps16
    go_wp2
    all_goals go_ret
    all_goals exact ⟨ret_bool (by rw [← HX.out, Bool.eq_iff_iff]; clear HX; first | (simp_all [may]; done) | (simp_all [may]; omega)), nest_below w [_]⟩
end Go.Proofs.Ytecmnkdbimalgaa.Msc

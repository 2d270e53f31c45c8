/-
  What the small functions of layer 8, and of the document's own, answer. No condition but the bounds of octets.
-/
import Derived.Test.YtffahjlboakakaaDoorPnMem
namespace Go.Proofs.YtffahjlboakakaaDoor.Pn
open Go.RowKit Go.Proofs.YtffahjlboakakaaDoor.Base Go.Proofs.YtffahjlboakakaaDoor.Mem
theorem bounded_results (tmps : Array Value) (W : World) (b : Nat) (p : Pr) (h : Cells W b p) (p2 : tmps[2]?.getD undef = ptr b) :
    (results Tryd.f64 tmps).run Tryd.prog W = .ok (pv p) W := by
  obtain ⟨g0, g1, g2, g3, g4, g5, g6, g7⟩ := h
  simp [results, Tryd.results64, go_sem, p2, g0, g1, g2, g3, g4, g5, g6, g7]
theorem fbounded (p : Pr) (w : World) :
    Calls Tryd.prog 64 #[pv p] w fun x w' => x = .returned (pv (bounded p)) ∧ Below w.heap.size w w' := by
  go_enter Tryd.func64, Tryd.ntmps64
  go_wp2
  exact bodyPost_ret (bounded_results _ _ (w.heap.size + 1) (bounded p) (cells_of (nest w [_, _] 1 _ rfl)) rfl) rfl ⟨rfl, nest_below w [_, _]⟩
theorem fwithin' (n a b : Int) (x : Bool) (hx : x = decide (a ≤ n ∧ n ≤ b)) (w : World) :
    Calls Tryd.prog 41 #[.int .i64 n, .int .i64 a, .int .i64 b] w fun e w' => e = .returned (.bool x) ∧ w = w' := by
  have HX := Lib.hid hx
  clear hx
  go_enter Tryd.func41, Tryd.ntmps41
  go_wp2
  all_goals go_ret
  all_goals exact ⟨ret_bool (by rw [HX.out, Bool.eq_iff_iff]; simp; omega), rfl⟩
theorem fwithin (n a b : Int) (w : World) :
    Calls Tryd.prog 41 #[.int .i64 n, .int .i64 a, .int .i64 b] w fun x w' => x = .returned (.bool (decide (a ≤ n ∧ n ≤ b))) ∧ w = w' := fwithin' n a b _ rfl w
end Go.Proofs.YtffahjlboakakaaDoor.Pn

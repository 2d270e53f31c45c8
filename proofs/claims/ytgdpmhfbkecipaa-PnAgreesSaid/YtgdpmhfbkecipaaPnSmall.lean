/-
  What the small functions of layer 8, and of the document's own, answer. No condition but the bounds of octets.
-/
import Derived.Test.YtgdpmhfbkecipaaPnMem
namespace Go.Proofs.Ytgdpmhfbkecipaa.Pn
open Go.RowKit Go.Proofs.Ytgdpmhfbkecipaa.Base Go.Proofs.Ytgdpmhfbkecipaa.Mem
theorem bounded_results (tmps : Array Value) (W : World) (b : Nat) (p : Pr) (h : Cells W b p) (p2 : tmps[2]?.getD undef = ptr b) :
    (results Try.f20 tmps).run Try.prog W = .ok (pv p) W := by
  obtain ⟨g0, g1, g2, g3, g4, g5, g6, g7⟩ := h
  simp [results, Try.results20, go_sem, p2, g0, g1, g2, g3, g4, g5, g6, g7]
theorem fbounded (p : Pr) (w : World) :
    Calls Try.prog 20 #[pv p] w fun x w' => x = .returned (pv (bounded p)) ∧ Below w.heap.size w w' := by
  go_enter Try.func20, Try.ntmps20
  go_wp2
  exact bodyPost_ret (bounded_results _ _ (w.heap.size + 1) (bounded p) (cells_of (nest w [_, _] 1 _ rfl)) rfl) rfl ⟨rfl, nest_below w [_, _]⟩
theorem fwithin' (n a b : Int) (x : Bool) (hx : x = decide (a ≤ n ∧ n ≤ b)) (w : World) :
    Calls Try.prog 21 #[.int .i64 n, .int .i64 a, .int .i64 b] w fun e w' => e = .returned (.bool x) ∧ w = w' := by
  have HX := Lib.hid hx
  clear hx
  go_enter Try.func21, Try.ntmps21
  go_wp2
  all_goals go_ret
  all_goals exact ⟨ret_bool (by rw [HX.out, Bool.eq_iff_iff]; simp; omega), rfl⟩
theorem fwithin (n a b : Int) (w : World) :
    Calls Try.prog 21 #[.int .i64 n, .int .i64 a, .int .i64 b] w fun x w' => x = .returned (.bool (decide (a ≤ n ∧ n ≤ b))) ∧ w = w' := fwithin' n a b _ rfl w
theorem ref_results (tmps : Array Value) (W : World) (b : Nat) (p : Pr) (h : Cells W b p) (p2 : tmps[2]?.getD undef = ptr b) :
    (results Try.f10 tmps).run Try.prog W = .ok (pv p) W := by
  obtain ⟨g0, g1, g2, g3, g4, g5, g6, g7⟩ := h
  simp [results, Try.results10, go_sem, p2, g0, g1, g2, g3, g4, g5, g6, g7]
theorem fref (p : Pr) (w : World) :
    Calls Try.prog 10 #[pv p] w fun x w' => x = .returned (pv p) ∧ Below w.heap.size w w' := by
  go_enter Try.func10, Try.ntmps10
  go_wp2
  exact bodyPost_ret (ref_results _ _ (w.heap.size + 1) p (cells_of (nest w [_, _] 1 _ rfl)) rfl) rfl ⟨rfl, nest_below w [_, _]⟩
theorem agree_results (tmps : Array Value) (W : World) (b : Nat) (p : Pr) (h : Cells W b p) (p4 : tmps[4]?.getD undef = ptr b) :
    (results Try.f15 tmps).run Try.prog W = .ok (pv p) W := by
  obtain ⟨g0, g1, g2, g3, g4, g5, g6, g7⟩ := h
  simp [results, Try.results15, go_sem, p4, g0, g1, g2, g3, g4, g5, g6, g7]
theorem fagree (o a : Pr) (w : World) :
    Calls Try.prog 15 #[pv o, pv a] w fun x w' => x = .returned (pv (agree o a)) ∧ Below w.heap.size w w' := by
  go_enter Try.func15, Try.ntmps15
  go_wp2
  exact bodyPost_ret (agree_results _ _ (w.heap.size + 2) (agree o a) (cells_of (nest w [_, _, _] 2 _ rfl)) rfl) rfl ⟨rfl, nest_below w [_, _, _]⟩
theorem ragree_results (tmps : Array Value) (W : World) (b : Nat) (p : Pr) (h : Cells W b p) (p4 : tmps[4]?.getD undef = ptr b) :
    (results Try.f16 tmps).run Try.prog W = .ok (pv p) W := by
  obtain ⟨g0, g1, g2, g3, g4, g5, g6, g7⟩ := h
  simp [results, Try.results16, go_sem, p4, g0, g1, g2, g3, g4, g5, g6, g7]
theorem ragree (o a : Pr) (w : World) :
    Calls Try.prog 16 #[pv o, pv a] w fun x w' => x = .returned (pv (agree o a)) ∧ Below w.heap.size w w' := by
  go_enter Try.func16, Try.ntmps16
  go_wp2
  exact bodyPost_ret (ragree_results _ _ (w.heap.size + 2) (agree o a) (cells_of (nest w [_, _, _] 2 _ rfl)) rfl) rfl ⟨rfl, nest_below w [_, _, _]⟩
end Go.Proofs.Ytgdpmhfbkecipaa.Pn

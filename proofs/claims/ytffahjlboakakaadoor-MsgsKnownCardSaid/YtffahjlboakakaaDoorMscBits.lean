/-
  What Bits of layer 9, and the document's own, answer: the signals' octet. No condition.
-/
import Derived.Test.YtffahjlboakakaaDoorMscOctet
namespace Go.Proofs.YtffahjlboakakaaDoor.Msc
open Go.RowKit Go.Proofs.YtffahjlboakakaaDoor.Base Go.Proofs.YtffahjlboakakaaDoor.Mem
/-- The row of the bits. -/
def rowB (s : St) : Nat → Bool
  | 0 => true
  | 1 => s.f
  | 2 => s.c
  | 3 => s.r
  | 6 => s.i
  | 7 => s.v
  | _ => false
theorem acc_row (s : St) : acc (rowB s) 8 = bt s := by
  show 0 + 2 ^ 0 * true.toNat + 2 ^ 1 * s.f.toNat + 2 ^ 2 * s.c.toNat + 2 ^ 3 * s.r.toNat + 2 ^ 4 * false.toNat + 2 ^ 5 * false.toNat + 2 ^ 6 * s.i.toNat + 2 ^ 7 * s.v.toNat = _
  unfold bt sig
  simp
theorem fbits (s : St) (w : World) :
    Calls Tryd.prog 56 #[sv s] w fun x w' => x = .returned (.int .u8 (bt s : Int)) ∧ Below w.heap.size w w' := by
  have CO : Hid (∀ w' : World, (∀ k, k < 8 → w'.cell? ⟨w.heap.size + 1, k, none⟩ = some (.bool (rowB s k))) → Calls Tryd.prog 65 #[.slice (some ⟨w.heap.size + 1, 0, none⟩) 8 8] w' fun x w'' => x = .returned (.int .u8 (bt s : Int)) ∧ w' = w'') :=
    Lib.hid (fun w' h => by have := foctet (w.heap.size + 1) (rowB s) w' h; rw [acc_row] at this; exact this)
  have HR : Hid (∀ (os : Obj) (w' : World) (t : TypeId), w' = (w.alloc os).alloc (.cells #[.bool true, .bool s.f, .bool s.c, .bool s.r, .bool false, .bool false, .bool s.i, .bool s.v] t) → ∀ k, k < 8 → w'.cell? ⟨w.heap.size + 1, k, none⟩ = some (.bool (rowB s k))) :=
    Lib.hid (fun os w' t e k hk => by
      subst e
      have h1 := nest w [os, .cells #[.bool true, .bool s.f, .bool s.c, .bool s.r, .bool false, .bool false, .bool s.i, .bool s.v] t] 1 _ rfl
      match k, hk with
      | 0, _ => exact cell_of h1 rfl
      | 1, _ => exact cell_of h1 rfl
      | 2, _ => exact cell_of h1 rfl
      | 3, _ => exact cell_of h1 rfl
      | 4, _ => exact cell_of h1 rfl
      | 5, _ => exact cell_of h1 rfl
      | 6, _ => exact cell_of h1 rfl
      | 7, _ => exact cell_of h1 rfl)
  go_enter Tryd.func56, Tryd.ntmps56
  go_wp2_with (go_at_call 65; ((with_reducible refine (CO.out _ (HR.out _ _ _ rfl)).mono ?_); rintro e w1 ⟨rfl, rfl⟩))
  go_ret
  exact ⟨rfl, nest_below w [_, _]⟩
set_option maxHeartbeats 4000000 in
theorem rbits (s : St) (w : World) :
    Calls Tryd.prog 43 #[sv s] w fun x w' => x = .returned (.int .u8 (bt s : Int)) ∧ Below w.heap.size w w' := by
  obtain ⟨d, f, c, r, i, v, b, k⟩ := s
  obtain ⟨n, hn⟩ : ∃ n : Int, (bt ⟨d, f, c, r, i, v, b, k⟩ : Int) = n := ⟨_, rfl⟩
  rw [hn]
  have HN := Lib.hid hn
  clear hn
  go_enter Tryd.func43, Tryd.ntmps43
  go_wp2
  all_goals go_ret
  all_goals exact ⟨ret_int (by rw [← HN.out]; simp_all [bt, sig]), nest_below w [_]⟩
end Go.Proofs.YtffahjlboakakaaDoor.Msc

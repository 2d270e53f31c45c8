/-
  What the document's own May, Put and Lowers of layer 8 answer. No condition but the bounds of octets.
-/
import Derived.Test.YtffahjlboakakaaDoorPnSmall
namespace Go.Proofs.YtffahjlboakakaaDoor.Pn
open Go.RowKit Go.Proofs.YtffahjlboakakaaDoor.Base Go.Proofs.YtffahjlboakakaaDoor.Mem
theorem rmay (p : Pr) (hp : p.In) (w : World) :
    Calls Tryd.prog 25 #[pv p] w fun x w' => x = .returned (.bool (may p)) ∧ Below w.heap.size w w' := by
  obtain ⟨b1, h1⟩ : ∃ b, b = decide (1 ≤ p.d ∧ p.d ≤ 63) := ⟨_, rfl⟩
  obtain ⟨b5, h5⟩ : ∃ b, b = decide (1 ≤ p.t ∧ p.t ≤ 255) := ⟨_, rfl⟩
  obtain ⟨b6, h6⟩ : ∃ b, b = decide (1 ≤ p.n ∧ p.n ≤ 65535) := ⟨_, rfl⟩
  obtain ⟨b7, h7⟩ : ∃ b, b = decide (0 ≤ p.z ∧ p.z ≤ 255) := ⟨_, rfl⟩
  obtain ⟨b8, h8⟩ : ∃ b, b = decide (1 ≤ p.k ∧ p.k ≤ 7) := ⟨_, rfl⟩
  have HM : Hid (may p = (b1 && decide (p.f ≤ 2) && decide (p.c ≤ 3) && decide (p.r ≤ 63) && b5 && b6 && b7 && b8)) := Lib.hid (by unfold may; rw [h1, h5, h6, h7, h8])
  have C1 := Lib.hid (fun w => fwithin' _ _ _ _ h1 w)
  have C5 := Lib.hid (fun w => fwithin' _ _ _ _ h5 w)
  have C6 := Lib.hid (fun w => fwithin' _ _ _ _ h6 w)
  have C7 := Lib.hid (fun w => fwithin' _ _ _ _ h7 w)
  have C8 := Lib.hid (fun w => fwithin' _ _ _ _ h8 w)
  clear h1 h5 h6 h7 h8
  obtain ⟨d0, d1⟩ := hp.d
  clear hp
  rw [HM.out]
  go_enter Tryd.func25, Tryd.ntmps25
  go_wp2_with (go_at_call 41; first
    | ((with_reducible refine (C1.out _).mono ?_); rintro e w' ⟨rfl, rfl⟩)
    | ((with_reducible refine (C5.out _).mono ?_); rintro e w' ⟨rfl, rfl⟩)
    | ((with_reducible refine (C6.out _).mono ?_); rintro e w' ⟨rfl, rfl⟩)
    | ((with_reducible refine (C7.out _).mono ?_); rintro e w' ⟨rfl, rfl⟩)
    | ((with_reducible refine (C8.out _).mono ?_); rintro e w' ⟨rfl, rfl⟩))
  all_goals go_ret
  all_goals exact ⟨ret_bool (by first | (simp_all; done) | (simp_all; intros; omega)), nest_below w [_]⟩
end Go.Proofs.YtffahjlboakakaaDoor.Pn

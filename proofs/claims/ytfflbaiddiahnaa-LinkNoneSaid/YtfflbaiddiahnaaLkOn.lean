/-
  What a link does in each of its states, event by event. Condition: a link lies where it says, its tries are within its N2.
-/
import Derived.Test.YtfflbaiddiahnaaLkOnDown
import Derived.Test.YtfflbaiddiahnaaLkOnOpening
import Derived.Test.YtfflbaiddiahnaaLkOnUp
import Derived.Test.YtfflbaiddiahnaaLkOnClosing
import Derived.Handy
namespace Go.Proofs.Ytfflbaiddiahnaa.Lk
open Go.RowKit Go.Proofs.Ytfflbaiddiahnaa.Base Go.Proofs.Ytfflbaiddiahnaa.Mem
set_option maxHeartbeats 1000000 in
/-- What the event does in the state that the link is in. -/
theorem fdoes (w : World) (pb : Nat) (l : Lk) (e : Ev) (hl : l.Ok) (h : LkAt w pb l) :
    Calls Try.prog 28 #[ptr pb, evV e] w fun x w' => x = .returned (av (on l e).2) ∧ Does pb (on l e).1 w w' := by
  have CS : Hid (∀ w, LkAt w pb l → Calls Try.prog 15 #[ptr pb] w fun e w' => e = .returned (.int .u8 l.s) ∧ w = w') := Lib.hid fun w h => fstate w pb l h hl.s0
  have H := Lib.hid h
  have HL := Lib.hid hl
  have hs : l.s = 1 ∨ l.s = 2 ∨ l.s = 3 ∨ l.s = 4 ∨ l.s = 5 := by have := hl.s0; have := hl.s1; omega
  have hlt := h.lt
  obtain ⟨V, hV⟩ : ∃ V, V = evV e := ⟨_, rfl⟩
  rw [← hV]
  clear h hl
  rcases hs with hs | hs | hs | hs | hs
  · have CW : Hid (∀ w, LkAt w pb l → Calls Try.prog 33 #[ptr pb, V] w fun x w' => x = .returned (av (on l e).2) ∧ Does pb (on l e).1 w w') := by
      intro w h
      have := fDown w pb l e h
      have he : on l e = onDown l e := by unfold on; simp [hs]
      rw [he, hV]; exact this
    rw [hs] at CS
    clear hs hV HL
    generalize hr : on l e = r at CW ⊢
    obtain ⟨l2, a⟩ := r
    clear hr
    go_enter Try.func28, Try.ntmps28
    go_wp2_with (first
      | (go_at_call 15; ((with_reducible refine (CS.out _ (H.out.alloc _)).mono ?_); rintro x w1 ⟨rfl, rfl⟩))
      | (go_at_call 33; ((with_reducible refine (CW.out _ (H.out.alloc _)).mono ?_); rintro x w2 ⟨rfl, hd⟩; have H2 := Lib.hid ((In.start (Does.refl H.out) rfl).next hd); clear hd; obtain ⟨⟨k0, k1, k2, k3, k4⟩, kf⟩ := H2.out.cells)))
    exact bodyPost_ret (v := av a) (by simp [results, Try.results28, go_sem, k0, k1, k2, k3, k4]) rfl ⟨rfl, H2.out.out _ _ _ _ _⟩
  · have CW : Hid (∀ w, LkAt w pb l → Calls Try.prog 34 #[ptr pb, V] w fun x w' => x = .returned (av (on l e).2) ∧ Does pb (on l e).1 w w') := by
      intro w h
      have := fOpening w pb l e HL.out h
      have he : on l e = onOpening l e := by unfold on; simp [hs]
      rw [he, hV]; exact this
    rw [hs] at CS
    clear hs hV HL
    generalize hr : on l e = r at CW ⊢
    obtain ⟨l2, a⟩ := r
    clear hr
    go_enter Try.func28, Try.ntmps28
    go_wp2_with (first
      | (go_at_call 15; ((with_reducible refine (CS.out _ (H.out.alloc _)).mono ?_); rintro x w1 ⟨rfl, rfl⟩))
      | (go_at_call 34; ((with_reducible refine (CW.out _ (H.out.alloc _)).mono ?_); rintro x w2 ⟨rfl, hd⟩; have H2 := Lib.hid ((In.start (Does.refl H.out) rfl).next hd); clear hd; obtain ⟨⟨k0, k1, k2, k3, k4⟩, kf⟩ := H2.out.cells)))
    exact bodyPost_ret (v := av a) (by simp [results, Try.results28, go_sem, k0, k1, k2, k3, k4]) rfl ⟨rfl, H2.out.out _ _ _ _ _⟩
  · have CW : Hid (∀ w, LkAt w pb l → Calls Try.prog 35 #[ptr pb, V] w fun x w' => x = .returned (av (on l e).2) ∧ Does pb (on l e).1 w w') := by
      intro w h
      have := fUp w pb l e h
      have he : on l e = onUp l e := by unfold on; simp [hs]
      rw [he, hV]; exact this
    rw [hs] at CS
    clear hs hV HL
    generalize hr : on l e = r at CW ⊢
    obtain ⟨l2, a⟩ := r
    clear hr
    go_enter Try.func28, Try.ntmps28
    go_wp2_with (first
      | (go_at_call 15; ((with_reducible refine (CS.out _ (H.out.alloc _)).mono ?_); rintro x w1 ⟨rfl, rfl⟩))
      | (go_at_call 35; ((with_reducible refine (CW.out _ (H.out.alloc _)).mono ?_); rintro x w2 ⟨rfl, hd⟩; have H2 := Lib.hid ((In.start (Does.refl H.out) rfl).next hd); clear hd; obtain ⟨⟨k0, k1, k2, k3, k4⟩, kf⟩ := H2.out.cells)))
    exact bodyPost_ret (v := av a) (by simp [results, Try.results28, go_sem, k0, k1, k2, k3, k4]) rfl ⟨rfl, H2.out.out _ _ _ _ _⟩
  · have CW : Hid (∀ w, LkAt w pb l → Calls Try.prog 36 #[ptr pb, V] w fun x w' => x = .returned (av (on l e).2) ∧ Does pb (on l e).1 w w') := by
      intro w h
      have := fClosing w pb l e HL.out h
      have he : on l e = onClosing l e := by unfold on; simp [hs]
      rw [he, hV]; exact this
    rw [hs] at CS
    clear hs hV HL
    generalize hr : on l e = r at CW ⊢
    obtain ⟨l2, a⟩ := r
    clear hr
    go_enter Try.func28, Try.ntmps28
    go_wp2_with (first
      | (go_at_call 15; ((with_reducible refine (CS.out _ (H.out.alloc _)).mono ?_); rintro x w1 ⟨rfl, rfl⟩))
      | (go_at_call 36; ((with_reducible refine (CW.out _ (H.out.alloc _)).mono ?_); rintro x w2 ⟨rfl, hd⟩; have H2 := Lib.hid ((In.start (Does.refl H.out) rfl).next hd); clear hd; obtain ⟨⟨k0, k1, k2, k3, k4⟩, kf⟩ := H2.out.cells)))
    exact bodyPost_ret (v := av a) (by simp [results, Try.results28, go_sem, k0, k1, k2, k3, k4]) rfl ⟨rfl, H2.out.out _ _ _ _ _⟩
  · have CW : Hid (∀ w, LkAt w pb l → Calls Try.prog 33 #[ptr pb, V] w fun x w' => x = .returned (av (on l e).2) ∧ Does pb (on l e).1 w w') := by
      intro w h
      have := fDown w pb l e h
      have he : on l e = onDown l e := by unfold on; simp [hs]
      rw [he, hV]; exact this
    rw [hs] at CS
    clear hs hV HL
    generalize hr : on l e = r at CW ⊢
    obtain ⟨l2, a⟩ := r
    clear hr
    go_enter Try.func28, Try.ntmps28
    go_wp2_with (first
      | (go_at_call 15; ((with_reducible refine (CS.out _ (H.out.alloc _)).mono ?_); rintro x w1 ⟨rfl, rfl⟩))
      | (go_at_call 33; ((with_reducible refine (CW.out _ (H.out.alloc _)).mono ?_); rintro x w2 ⟨rfl, hd⟩; have H2 := Lib.hid ((In.start (Does.refl H.out) rfl).next hd); clear hd; obtain ⟨⟨k0, k1, k2, k3, k4⟩, kf⟩ := H2.out.cells)))
    exact bodyPost_ret (v := av a) (by simp [results, Try.results28, go_sem, k0, k1, k2, k3, k4]) rfl ⟨rfl, H2.out.out _ _ _ _ _⟩
end Go.Proofs.Ytfflbaiddiahnaa.Lk

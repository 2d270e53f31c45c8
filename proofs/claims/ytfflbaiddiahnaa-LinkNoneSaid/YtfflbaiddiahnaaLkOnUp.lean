/-
  What a link does in each of its states, event by event. Condition: a link lies where it says, its tries are within its N2.
-/
import Derived.Test.YtfflbaiddiahnaaLkAs
import Derived.Handy
namespace Go.Proofs.Ytfflbaiddiahnaa.Lk
open Go.RowKit Go.Proofs.Ytfflbaiddiahnaa.Base Go.Proofs.Ytfflbaiddiahnaa.Mem
set_option maxHeartbeats 1000000 in
theorem fUp_opens (w : World) (pb : Nat) (l : Lk) (h : LkAt w pb l) :
    Calls Try.prog 35 #[ptr pb, (.iface 64 (.agg #[]))] w fun e w' => e = .returned (av nop) ∧ Does pb l w w' := by
  have H := Lib.hid h
  have hf := h.free
  have hlt := h.lt
  have a0 := fun W => as_opens_closes W
  have a1 := fun W => as_opens_sabm W
  have a2 := fun W => as_opens_disc W
  have a3 := fun W => as_opens_dm W
  clear h
  go_enter Try.func35, Try.ntmps35
  go_wp2
  exact bodyPost_ret (v := av nop) (by simp [results, Try.results35, go_sem, nop]) rfl ⟨rfl, (Does.refl H.out).alloc _⟩
set_option maxHeartbeats 1000000 in
theorem fUp_closes (w : World) (pb : Nat) (l : Lk) (h : LkAt w pb l) :
    Calls Try.prog 35 #[ptr pb, (.iface 65 (.agg #[]))] w fun e w' => e = .returned (av (cmd 4)) ∧ Does pb ⟨4, l.li, l.n, 0⟩ w w' := by
  have H := Lib.hid h
  have hf := h.free
  have hlt := h.lt
  have a0 := fun W => as_closes_closes W
  clear h
  go_enter Try.func35, Try.ntmps35
  go_wp2_with (first
    | (go_at_call 37; ((with_reducible refine (fbegins _ pb _ 4 4 (by decide) (In.start (Does.refl H.out) rfl).at_).mono ?_); rintro e w2 ⟨rfl, hd⟩; have H2 := Lib.hid ((In.start (Does.refl H.out) rfl).next hd); clear hd; obtain ⟨⟨k0, k1, k2, k3, k4⟩, kf⟩ := H2.out.cells)))
  exact bodyPost_ret (v := av (cmd 4)) (by simp [results, Try.results35, go_sem, k0, k1, k2, k3, k4]) rfl ⟨rfl, H2.out.out _ _ _ _ _⟩
set_option maxHeartbeats 1000000 in
theorem fUp_due (w : World) (pb : Nat) (l : Lk) (h : LkAt w pb l) :
    Calls Try.prog 35 #[ptr pb, (.iface 69 (.agg #[]))] w fun e w' => e = .returned (av nop) ∧ Does pb l w w' := by
  have H := Lib.hid h
  have hf := h.free
  have hlt := h.lt
  have a0 := fun W => as_due_closes W
  have a1 := fun W => as_due_sabm W
  have a2 := fun W => as_due_disc W
  have a3 := fun W => as_due_dm W
  clear h
  go_enter Try.func35, Try.ntmps35
  go_wp2
  exact bodyPost_ret (v := av nop) (by simp [results, Try.results35, go_sem, nop]) rfl ⟨rfl, (Does.refl H.out).alloc _⟩
set_option maxHeartbeats 1000000 in
theorem fUp_sabm (w : World) (pb : Nat) (l : Lk) (p : Bool) (h : LkAt w pb l) :
    Calls Try.prog 35 #[ptr pb, (.iface 76 (.agg #[.bool p]))] w fun e w' => e = .returned (av ⟨2, false, p, 0, 3⟩) ∧ Does pb l w w' := by
  have H := Lib.hid h
  have hf := h.free
  have hlt := h.lt
  have a0 := fun W => as_sabm_closes p W
  have a1 := fun W => as_sabm_sabm p W
  clear h
  go_enter Try.func35, Try.ntmps35
  go_wp2_with (first
    | (go_at_call 57; ((refine calls_arg (b := .agg #[.bool p]) (by kernel_rfl) ?_; with_reducible refine (fframe p _).mono ?_); rintro e w1 ⟨rfl, hb⟩; have H1 := Lib.hid ((In.start (Does.refl H.out) rfl).below hb); clear hb; obtain ⟨⟨k0, k1, k2, k3, k4⟩, kf⟩ := H1.out.cells)))
  exact bodyPost_ret (v := av ⟨2, false, p, 0, 3⟩) (by simp [results, Try.results35, go_sem, k0, k1, k2, k3, k4]) rfl ⟨rfl, H1.out.out _ _ _ _ _⟩
set_option maxHeartbeats 1000000 in
theorem fUp_disc (w : World) (pb : Nat) (l : Lk) (p : Bool) (h : LkAt w pb l) :
    Calls Try.prog 35 #[ptr pb, (.iface 77 (.agg #[.bool p]))] w fun e w' => e = .returned (av ⟨2, false, p, 0, 5⟩) ∧ Does pb ⟨1, l.li, l.n, l.t⟩ w w' := by
  have H := Lib.hid h
  have hf := h.free
  have hlt := h.lt
  have a0 := fun W => as_disc_closes p W
  have a1 := fun W => as_disc_sabm p W
  have a2 := fun W => as_disc_disc p W
  clear h
  go_enter Try.func35, Try.ntmps35
  go_wp2_with (first
    | (go_at_call 57; ((refine calls_arg (b := .agg #[.bool p]) (by kernel_rfl) ?_; with_reducible refine (fframe p _).mono ?_); rintro e w1 ⟨rfl, hb⟩; have H1 := Lib.hid ((In.start (Does.refl H.out) rfl).below hb); clear hb; obtain ⟨⟨k0, k1, k2, k3, k4⟩, kf⟩ := H1.out.cells))
    | (go_at_call 38; ((with_reducible refine (fbecomes _ pb _ 1 ⟨2, false, p, 0, 5⟩ H1.out.at_).mono ?_); rintro e w2 ⟨rfl, hd⟩; have H2 := Lib.hid (H1.out.next hd); clear hd k0 k1 k2 k3 k4 kf; obtain ⟨⟨k0, k1, k2, k3, k4⟩, kf⟩ := H2.out.cells)))
  exact bodyPost_ret (v := av ⟨2, false, p, 0, 5⟩) (by simp [results, Try.results35, go_sem, k0, k1, k2, k3, k4]) rfl ⟨rfl, H2.out.out _ _ _ _ _⟩
set_option maxHeartbeats 1000000 in
theorem fUp_ua (w : World) (pb : Nat) (l : Lk) (p : Bool) (h : LkAt w pb l) :
    Calls Try.prog 35 #[ptr pb, (.iface 78 (.agg #[.bool p]))] w fun e w' => e = .returned (av nop) ∧ Does pb l w w' := by
  have H := Lib.hid h
  have hf := h.free
  have hlt := h.lt
  have a0 := fun W => as_ua_closes p W
  have a1 := fun W => as_ua_sabm p W
  have a2 := fun W => as_ua_disc p W
  have a3 := fun W => as_ua_dm p W
  clear h
  go_enter Try.func35, Try.ntmps35
  go_wp2
  exact bodyPost_ret (v := av nop) (by simp [results, Try.results35, go_sem, nop]) rfl ⟨rfl, (Does.refl H.out).alloc _⟩
set_option maxHeartbeats 1000000 in
theorem fUp_dm (w : World) (pb : Nat) (l : Lk) (p : Bool) (h : LkAt w pb l) :
    Calls Try.prog 35 #[ptr pb, (.iface 79 (.agg #[.bool p]))] w fun e w' => e = .returned (av ⟨0, false, false, 0, 5⟩) ∧ Does pb ⟨1, l.li, l.n, l.t⟩ w w' := by
  have H := Lib.hid h
  have hf := h.free
  have hlt := h.lt
  have a0 := fun W => as_dm_closes p W
  have a1 := fun W => as_dm_sabm p W
  have a2 := fun W => as_dm_disc p W
  have a3 := fun W => as_dm_dm p W
  clear h
  go_enter Try.func35, Try.ntmps35
  go_wp2_with (first
    | (go_at_call 38; ((with_reducible refine (fbecomes _ pb _ 1 ⟨0, false, false, 0, 5⟩ (In.start (Does.refl H.out) rfl).at_).mono ?_); rintro e w2 ⟨rfl, hd⟩; have H2 := Lib.hid ((In.start (Does.refl H.out) rfl).next hd); clear hd; obtain ⟨⟨k0, k1, k2, k3, k4⟩, kf⟩ := H2.out.cells)))
  exact bodyPost_ret (v := av ⟨0, false, false, 0, 5⟩) (by simp [results, Try.results35, go_sem, k0, k1, k2, k3, k4]) rfl ⟨rfl, H2.out.out _ _ _ _ _⟩
set_option maxHeartbeats 1000000 in
theorem fUp_poll (w : World) (pb : Nat) (l : Lk) (p : Bool) (h : LkAt w pb l) :
    Calls Try.prog 35 #[ptr pb, (.iface 80 (.agg #[.bool p]))] w fun e w' => e = .returned (av nop) ∧ Does pb l w w' := by
  have H := Lib.hid h
  have hf := h.free
  have hlt := h.lt
  have a0 := fun W => as_poll_closes p W
  have a1 := fun W => as_poll_sabm p W
  have a2 := fun W => as_poll_disc p W
  have a3 := fun W => as_poll_dm p W
  clear h
  go_enter Try.func35, Try.ntmps35
  go_wp2
  exact bodyPost_ret (v := av nop) (by simp [results, Try.results35, go_sem, nop]) rfl ⟨rfl, (Does.refl H.out).alloc _⟩
set_option maxHeartbeats 1000000 in
theorem fUp_noise (w : World) (pb : Nat) (l : Lk) (h : LkAt w pb l) :
    Calls Try.prog 35 #[ptr pb, (.iface 81 (.agg #[]))] w fun e w' => e = .returned (av nop) ∧ Does pb l w w' := by
  have H := Lib.hid h
  have hf := h.free
  have hlt := h.lt
  have a0 := fun W => as_noise_closes W
  have a1 := fun W => as_noise_sabm W
  have a2 := fun W => as_noise_disc W
  have a3 := fun W => as_noise_dm W
  clear h
  go_enter Try.func35, Try.ntmps35
  go_wp2
  exact bodyPost_ret (v := av nop) (by simp [results, Try.results35, go_sem, nop]) rfl ⟨rfl, (Does.refl H.out).alloc _⟩
theorem fUp (w : World) (pb : Nat) (l : Lk) (e : Ev) (h : LkAt w pb l) :
    Calls Try.prog 35 #[ptr pb, evV e] w fun x w' => x = .returned (av (onUp l e).2) ∧ Does pb (onUp l e).1 w w' := by
  cases e with
  | opens => exact fUp_opens w pb l h
  | closes => exact fUp_closes w pb l h
  | due => exact fUp_due w pb l h
  | sabm p => exact fUp_sabm w pb l p h
  | disc p => exact fUp_disc w pb l p h
  | ua p => exact fUp_ua w pb l p h
  | dm p => exact fUp_dm w pb l p h
  | poll p => exact fUp_poll w pb l p h
  | noise => exact fUp_noise w pb l h
end Go.Proofs.Ytfflbaiddiahnaa.Lk

/-
  What a link does in each of its states, event by event. Condition: a link lies where it says, its tries are within its N2.
-/
import Derived.Test.YtfflbaiddiahnaaLkAs
import Derived.Handy
namespace Go.Proofs.Ytfflbaiddiahnaa.Lk
open Go.RowKit Go.Proofs.Ytfflbaiddiahnaa.Base Go.Proofs.Ytfflbaiddiahnaa.Mem
set_option maxHeartbeats 1000000 in
theorem fDown_opens (w : World) (pb : Nat) (l : Lk) (h : LkAt w pb l) :
    Calls Try.prog 33 #[ptr pb, (.iface 64 (.agg #[]))] w fun e w' => e = .returned (av (cmd 1)) ∧ Does pb ⟨2, l.li, l.n, 0⟩ w w' := by
  have H := Lib.hid h
  have hf := h.free
  have hlt := h.lt
  have a0 := fun W => as_opens_opens W
  clear h
  go_enter Try.func33, Try.ntmps33
  go_wp2_with (first
    | (go_at_call 37; ((with_reducible refine (fbegins _ pb _ 2 1 (by decide) (In.start (Does.refl H.out) rfl).at_).mono ?_); rintro e w2 ⟨rfl, hd⟩; have H2 := Lib.hid ((In.start (Does.refl H.out) rfl).next hd); clear hd; obtain ⟨⟨k0, k1, k2, k3, k4⟩, kf⟩ := H2.out.cells)))
  exact bodyPost_ret (v := av (cmd 1)) (by simp [results, Try.results33, go_sem, k0, k1, k2, k3, k4]) rfl ⟨rfl, H2.out.out _ _ _ _ _⟩
set_option maxHeartbeats 1000000 in
theorem fDown_closes (w : World) (pb : Nat) (l : Lk) (h : LkAt w pb l) :
    Calls Try.prog 33 #[ptr pb, (.iface 65 (.agg #[]))] w fun e w' => e = .returned (av nop) ∧ Does pb l w w' := by
  have H := Lib.hid h
  have hf := h.free
  have hlt := h.lt
  have a0 := fun W => as_closes_opens W
  have a1 := fun W => as_closes_sabm W
  have a2 := fun W => as_closes_disc W
  have a3 := fun W => as_closes_poll W
  clear h
  go_enter Try.func33, Try.ntmps33
  go_wp2
  exact bodyPost_ret (v := av nop) (by simp [results, Try.results33, go_sem, nop]) rfl ⟨rfl, (Does.refl H.out).alloc _⟩
set_option maxHeartbeats 1000000 in
theorem fDown_due (w : World) (pb : Nat) (l : Lk) (h : LkAt w pb l) :
    Calls Try.prog 33 #[ptr pb, (.iface 69 (.agg #[]))] w fun e w' => e = .returned (av nop) ∧ Does pb l w w' := by
  have H := Lib.hid h
  have hf := h.free
  have hlt := h.lt
  have a0 := fun W => as_due_opens W
  have a1 := fun W => as_due_sabm W
  have a2 := fun W => as_due_disc W
  have a3 := fun W => as_due_poll W
  clear h
  go_enter Try.func33, Try.ntmps33
  go_wp2
  exact bodyPost_ret (v := av nop) (by simp [results, Try.results33, go_sem, nop]) rfl ⟨rfl, (Does.refl H.out).alloc _⟩
set_option maxHeartbeats 1000000 in
theorem fDown_sabm_y (w : World) (pb : Nat) (l : Lk) (p : Bool) (hli : l.li = true) (h : LkAt w pb l) :
    Calls Try.prog 33 #[ptr pb, (.iface 76 (.agg #[.bool p]))] w fun e w' => e = .returned (av ⟨2, false, p, 0, 2⟩) ∧ Does pb ⟨3, l.li, l.n, l.t⟩ w w' := by
  have H := Lib.hid h
  have hf := h.free
  have hlt := h.lt
  obtain ⟨-, c1, -, -⟩ := h.cells
  rw [hli] at c1
  have a0 := fun W => as_sabm_opens p W
  have a1 := fun W => as_sabm_sabm p W
  clear h hli
  go_enter Try.func33, Try.ntmps33
  go_wp2_with (first
    | (go_at_call 57; ((refine calls_arg (b := .agg #[.bool p]) (by kernel_rfl) ?_; with_reducible refine (fframe p _).mono ?_); rintro e w1 ⟨rfl, hb⟩; have H1 := Lib.hid ((In.start (Does.refl H.out) rfl).below hb); clear hb; obtain ⟨⟨k0, k1, k2, k3, k4⟩, kf⟩ := H1.out.cells))
    | (go_at_call 38; ((with_reducible refine (fbecomes _ pb _ 3 ⟨2, false, p, 0, 2⟩ H1.out.at_).mono ?_); rintro e w2 ⟨rfl, hd⟩; have H2 := Lib.hid (H1.out.next hd); clear hd k0 k1 k2 k3 k4 kf; obtain ⟨⟨k0, k1, k2, k3, k4⟩, kf⟩ := H2.out.cells)))
  exact bodyPost_ret (v := av ⟨2, false, p, 0, 2⟩) (by simp [results, Try.results33, go_sem, k0, k1, k2, k3, k4]) rfl ⟨rfl, H2.out.out _ _ _ _ _⟩
set_option maxHeartbeats 1000000 in
theorem fDown_sabm_n (w : World) (pb : Nat) (l : Lk) (p : Bool) (hli : l.li = false) (h : LkAt w pb l) :
    Calls Try.prog 33 #[ptr pb, (.iface 76 (.agg #[.bool p]))] w fun e w' => e = .returned (av ⟨3, false, p, 0, 0⟩) ∧ Does pb l w w' := by
  have H := Lib.hid h
  have hf := h.free
  have hlt := h.lt
  obtain ⟨-, c1, -, -⟩ := h.cells
  rw [hli] at c1
  have a0 := fun W => as_sabm_opens p W
  have a1 := fun W => as_sabm_sabm p W
  clear h hli
  go_enter Try.func33, Try.ntmps33
  go_wp2_with (first
    | (go_at_call 57; ((refine calls_arg (b := .agg #[.bool p]) (by kernel_rfl) ?_; with_reducible refine (fframe p _).mono ?_); rintro e w1 ⟨rfl, hb⟩; have H1 := Lib.hid ((In.start (Does.refl H.out) rfl).below hb); clear hb; obtain ⟨⟨k0, k1, k2, k3, k4⟩, kf⟩ := H1.out.cells)))
  exact bodyPost_ret (v := av ⟨3, false, p, 0, 0⟩) (by simp [results, Try.results33, go_sem, k0, k1, k2, k3, k4]) rfl ⟨rfl, H1.out.out _ _ _ _ _⟩
set_option maxHeartbeats 1000000 in
theorem fDown_disc (w : World) (pb : Nat) (l : Lk) (p : Bool) (h : LkAt w pb l) :
    Calls Try.prog 33 #[ptr pb, (.iface 77 (.agg #[.bool p]))] w fun e w' => e = .returned (av ⟨3, false, p, 0, 0⟩) ∧ Does pb l w w' := by
  have H := Lib.hid h
  have hf := h.free
  have hlt := h.lt
  have a0 := fun W => as_disc_opens p W
  have a1 := fun W => as_disc_sabm p W
  have a2 := fun W => as_disc_disc p W
  have a3 := fun W => as_disc_poll p W
  clear h
  go_enter Try.func33, Try.ntmps33
  go_wp2_with (first
    | (go_at_call 57; ((refine calls_arg (b := .agg #[.bool p]) (by kernel_rfl) ?_; with_reducible refine (fframe p _).mono ?_); rintro e w1 ⟨rfl, hb⟩; have H1 := Lib.hid ((In.start (Does.refl H.out) rfl).below hb); clear hb; obtain ⟨⟨k0, k1, k2, k3, k4⟩, kf⟩ := H1.out.cells)))
  exact bodyPost_ret (v := av ⟨3, false, p, 0, 0⟩) (by simp [results, Try.results33, go_sem, k0, k1, k2, k3, k4]) rfl ⟨rfl, H1.out.out _ _ _ _ _⟩
set_option maxHeartbeats 1000000 in
theorem fDown_ua (w : World) (pb : Nat) (l : Lk) (p : Bool) (h : LkAt w pb l) :
    Calls Try.prog 33 #[ptr pb, (.iface 78 (.agg #[.bool p]))] w fun e w' => e = .returned (av nop) ∧ Does pb l w w' := by
  have H := Lib.hid h
  have hf := h.free
  have hlt := h.lt
  have a0 := fun W => as_ua_opens p W
  have a1 := fun W => as_ua_sabm p W
  have a2 := fun W => as_ua_disc p W
  have a3 := fun W => as_ua_poll p W
  clear h
  go_enter Try.func33, Try.ntmps33
  go_wp2
  exact bodyPost_ret (v := av nop) (by simp [results, Try.results33, go_sem, nop]) rfl ⟨rfl, (Does.refl H.out).alloc _⟩
set_option maxHeartbeats 1000000 in
theorem fDown_dm (w : World) (pb : Nat) (l : Lk) (p : Bool) (h : LkAt w pb l) :
    Calls Try.prog 33 #[ptr pb, (.iface 79 (.agg #[.bool p]))] w fun e w' => e = .returned (av nop) ∧ Does pb l w w' := by
  have H := Lib.hid h
  have hf := h.free
  have hlt := h.lt
  have a0 := fun W => as_dm_opens p W
  have a1 := fun W => as_dm_sabm p W
  have a2 := fun W => as_dm_disc p W
  have a3 := fun W => as_dm_poll p W
  clear h
  go_enter Try.func33, Try.ntmps33
  go_wp2
  exact bodyPost_ret (v := av nop) (by simp [results, Try.results33, go_sem, nop]) rfl ⟨rfl, (Does.refl H.out).alloc _⟩
set_option maxHeartbeats 1000000 in
theorem fDown_poll (w : World) (pb : Nat) (l : Lk) (p : Bool) (h : LkAt w pb l) :
    Calls Try.prog 33 #[ptr pb, (.iface 80 (.agg #[.bool p]))] w fun e w' => e = .returned (av ⟨3, false, p, 0, 0⟩) ∧ Does pb l w w' := by
  have H := Lib.hid h
  have hf := h.free
  have hlt := h.lt
  have a0 := fun W => as_poll_opens p W
  have a1 := fun W => as_poll_sabm p W
  have a2 := fun W => as_poll_disc p W
  have a3 := fun W => as_poll_poll p W
  clear h
  go_enter Try.func33, Try.ntmps33
  go_wp2_with (first
    | (go_at_call 57; ((refine calls_arg (b := .agg #[.bool p]) (by kernel_rfl) ?_; with_reducible refine (fframe p _).mono ?_); rintro e w1 ⟨rfl, hb⟩; have H1 := Lib.hid ((In.start (Does.refl H.out) rfl).below hb); clear hb; obtain ⟨⟨k0, k1, k2, k3, k4⟩, kf⟩ := H1.out.cells)))
  exact bodyPost_ret (v := av ⟨3, false, p, 0, 0⟩) (by simp [results, Try.results33, go_sem, k0, k1, k2, k3, k4]) rfl ⟨rfl, H1.out.out _ _ _ _ _⟩
set_option maxHeartbeats 1000000 in
theorem fDown_noise (w : World) (pb : Nat) (l : Lk) (h : LkAt w pb l) :
    Calls Try.prog 33 #[ptr pb, (.iface 81 (.agg #[]))] w fun e w' => e = .returned (av nop) ∧ Does pb l w w' := by
  have H := Lib.hid h
  have hf := h.free
  have hlt := h.lt
  have a0 := fun W => as_noise_opens W
  have a1 := fun W => as_noise_sabm W
  have a2 := fun W => as_noise_disc W
  have a3 := fun W => as_noise_poll W
  clear h
  go_enter Try.func33, Try.ntmps33
  go_wp2
  exact bodyPost_ret (v := av nop) (by simp [results, Try.results33, go_sem, nop]) rfl ⟨rfl, (Does.refl H.out).alloc _⟩
theorem fDown (w : World) (pb : Nat) (l : Lk) (e : Ev) (h : LkAt w pb l) :
    Calls Try.prog 33 #[ptr pb, evV e] w fun x w' => x = .returned (av (onDown l e).2) ∧ Does pb (onDown l e).1 w w' := by
  cases e with
  | opens => exact fDown_opens w pb l h
  | closes => exact fDown_closes w pb l h
  | due => exact fDown_due w pb l h
  | sabm p =>
    cases hli : l.li with
    | true => have e : onDown l (.sabm p) = (⟨3, l.li, l.n, l.t⟩, ⟨2, false, p, 0, 2⟩) := if_pos hli
              rw [e]; exact fDown_sabm_y w pb l p hli h
    | false => have e : onDown l (.sabm p) = (l, ⟨3, false, p, 0, 0⟩) := if_neg (by simp [hli])
               rw [e]; exact fDown_sabm_n w pb l p hli h
  | disc p => exact fDown_disc w pb l p h
  | ua p => exact fDown_ua w pb l p h
  | dm p => exact fDown_dm w pb l p h
  | poll p => exact fDown_poll w pb l p h
  | noise => exact fDown_noise w pb l h
end Go.Proofs.Ytfflbaiddiahnaa.Lk

/-
  What a link does in each of its states, event by event. Condition: a link lies where it says, its tries are within its N2.
-/
import Derived.Test.YtfflbaiddiahnaaLkAs
import Derived.Handy
namespace Go.Proofs.Ytfflbaiddiahnaa.Lk
open Go.RowKit Go.Proofs.Ytfflbaiddiahnaa.Base Go.Proofs.Ytfflbaiddiahnaa.Mem
set_option maxHeartbeats 1000000 in
theorem fOpening_opens (w : World) (pb : Nat) (l : Lk) (h : LkAt w pb l) :
    Calls Try.prog 34 #[ptr pb, (.iface 64 (.agg #[]))] w fun e w' => e = .returned (av nop) ∧ Does pb l w w' := by
  have H := Lib.hid h
  have hf := h.free
  have hlt := h.lt
  have a0 := fun W => as_opens_closes W
  have a1 := fun W => as_opens_ua W
  have a2 := fun W => as_opens_dm W
  have a3 := fun W => as_opens_sabm W
  have a4 := fun W => as_opens_disc W
  have a5 := fun W => as_opens_due W
  clear h
  go_enter Try.func34, Try.ntmps34
  go_wp2
  exact bodyPost_ret (v := av nop) (by simp [results, Try.results34, go_sem, nop]) rfl ⟨rfl, (Does.refl H.out).alloc _⟩
set_option maxHeartbeats 1000000 in
theorem fOpening_closes (w : World) (pb : Nat) (l : Lk) (h : LkAt w pb l) :
    Calls Try.prog 34 #[ptr pb, (.iface 65 (.agg #[]))] w fun e w' => e = .returned (av (cmd 4)) ∧ Does pb ⟨4, l.li, l.n, 0⟩ w w' := by
  have H := Lib.hid h
  have hf := h.free
  have hlt := h.lt
  have a0 := fun W => as_closes_closes W
  clear h
  go_enter Try.func34, Try.ntmps34
  go_wp2_with (first
    | (go_at_call 37; ((with_reducible refine (fbegins _ pb _ 4 4 (by decide) (In.start (Does.refl H.out) rfl).at_).mono ?_); rintro e w2 ⟨rfl, hd⟩; have H2 := Lib.hid ((In.start (Does.refl H.out) rfl).next hd); clear hd; obtain ⟨⟨k0, k1, k2, k3, k4⟩, kf⟩ := H2.out.cells)))
  exact bodyPost_ret (v := av (cmd 4)) (by simp [results, Try.results34, go_sem, k0, k1, k2, k3, k4]) rfl ⟨rfl, H2.out.out _ _ _ _ _⟩
set_option maxHeartbeats 1000000 in
theorem fOpening_due (w : World) (pb : Nat) (l : Lk) (hl : l.Ok) (h : LkAt w pb l) :
    Calls Try.prog 34 #[ptr pb, (.iface 69 (.agg #[]))] w fun e w' => e = .returned (av (again l).2) ∧ Does pb (again l).1 w w' := by
  have H := Lib.hid h
  have hf := h.free
  have hlt := h.lt
  have a0 := fun W => as_due_closes W
  have a1 := fun W => as_due_ua W
  have a2 := fun W => as_due_dm W
  have a3 := fun W => as_due_sabm W
  have a4 := fun W => as_due_disc W
  have a5 := fun W => as_due_due W
  have HL := Lib.hid hl
  clear h hl
  go_enter Try.func34, Try.ntmps34
  go_wp2_with (first
    | (go_at_call 39; ((with_reducible refine (ftries _ pb l HL.out (In.start (Does.refl H.out) rfl).at_).mono ?_); rintro e w2 ⟨rfl, hd⟩; have H2 := Lib.hid ((In.start (Does.refl H.out) rfl).next hd); clear hd; obtain ⟨⟨k0, k1, k2, k3, k4⟩, kf⟩ := H2.out.cells)))
  exact bodyPost_ret (v := av (again l).2) (by simp [results, Try.results34, go_sem, k0, k1, k2, k3, k4]) rfl ⟨rfl, H2.out.out _ _ _ _ _⟩
set_option maxHeartbeats 1000000 in
theorem fOpening_sabm (w : World) (pb : Nat) (l : Lk) (p : Bool) (h : LkAt w pb l) :
    Calls Try.prog 34 #[ptr pb, (.iface 76 (.agg #[.bool p]))] w fun e w' => e = .returned (av ⟨2, false, p, 0, 0⟩) ∧ Does pb l w w' := by
  have H := Lib.hid h
  have hf := h.free
  have hlt := h.lt
  have a0 := fun W => as_sabm_closes p W
  have a1 := fun W => as_sabm_ua p W
  have a2 := fun W => as_sabm_dm p W
  have a3 := fun W => as_sabm_sabm p W
  clear h
  go_enter Try.func34, Try.ntmps34
  go_wp2_with (first
    | (go_at_call 57; ((refine calls_arg (b := .agg #[.bool p]) (by kernel_rfl) ?_; with_reducible refine (fframe p _).mono ?_); rintro e w1 ⟨rfl, hb⟩; have H1 := Lib.hid ((In.start (Does.refl H.out) rfl).below hb); clear hb; obtain ⟨⟨k0, k1, k2, k3, k4⟩, kf⟩ := H1.out.cells)))
  exact bodyPost_ret (v := av ⟨2, false, p, 0, 0⟩) (by simp [results, Try.results34, go_sem, k0, k1, k2, k3, k4]) rfl ⟨rfl, H1.out.out _ _ _ _ _⟩
set_option maxHeartbeats 1000000 in
theorem fOpening_disc (w : World) (pb : Nat) (l : Lk) (p : Bool) (h : LkAt w pb l) :
    Calls Try.prog 34 #[ptr pb, (.iface 77 (.agg #[.bool p]))] w fun e w' => e = .returned (av ⟨3, false, p, 2, 4⟩) ∧ Does pb ⟨1, l.li, l.n, l.t⟩ w w' := by
  have H := Lib.hid h
  have hf := h.free
  have hlt := h.lt
  have a0 := fun W => as_disc_closes p W
  have a1 := fun W => as_disc_ua p W
  have a2 := fun W => as_disc_dm p W
  have a3 := fun W => as_disc_sabm p W
  have a4 := fun W => as_disc_disc p W
  clear h
  go_enter Try.func34, Try.ntmps34
  go_wp2_with (first
    | (go_at_call 57; ((refine calls_arg (b := .agg #[.bool p]) (by kernel_rfl) ?_; with_reducible refine (fframe p _).mono ?_); rintro e w1 ⟨rfl, hb⟩; have H1 := Lib.hid ((In.start (Does.refl H.out) rfl).below hb); clear hb; obtain ⟨⟨k0, k1, k2, k3, k4⟩, kf⟩ := H1.out.cells))
    | (go_at_call 38; ((with_reducible refine (fbecomes _ pb _ 1 ⟨3, false, p, 2, 4⟩ H1.out.at_).mono ?_); rintro e w2 ⟨rfl, hd⟩; have H2 := Lib.hid (H1.out.next hd); clear hd k0 k1 k2 k3 k4 kf; obtain ⟨⟨k0, k1, k2, k3, k4⟩, kf⟩ := H2.out.cells)))
  exact bodyPost_ret (v := av ⟨3, false, p, 2, 4⟩) (by simp [results, Try.results34, go_sem, k0, k1, k2, k3, k4]) rfl ⟨rfl, H2.out.out _ _ _ _ _⟩
set_option maxHeartbeats 1000000 in
theorem fOpening_ua_y (w : World) (pb : Nat) (l : Lk) (h : LkAt w pb l) :
    Calls Try.prog 34 #[ptr pb, (.iface 78 (.agg #[.bool true]))] w fun e w' => e = .returned (av ⟨0, false, false, 2, 1⟩) ∧ Does pb ⟨3, l.li, l.n, l.t⟩ w w' := by
  have H := Lib.hid h
  have hf := h.free
  have hlt := h.lt
  have a0 := fun W => as_ua_closes true W
  have a1 := fun W => as_ua_ua true W
  clear h
  go_enter Try.func34, Try.ntmps34
  go_wp2_with (first
    | (go_at_call 57; ((refine calls_arg (b := .agg #[.bool true]) (by kernel_rfl) ?_; with_reducible refine (fframe true _).mono ?_); rintro e w1 ⟨rfl, hb⟩; have H1 := Lib.hid ((In.start (Does.refl H.out) rfl).below hb); clear hb; obtain ⟨⟨k0, k1, k2, k3, k4⟩, kf⟩ := H1.out.cells))
    | (go_at_call 38; ((with_reducible refine (fbecomes _ pb _ 3 ⟨0, false, false, 2, 1⟩ H1.out.at_).mono ?_); rintro e w2 ⟨rfl, hd⟩; have H2 := Lib.hid (H1.out.next hd); clear hd k0 k1 k2 k3 k4 kf; obtain ⟨⟨k0, k1, k2, k3, k4⟩, kf⟩ := H2.out.cells)))
  exact bodyPost_ret (v := av ⟨0, false, false, 2, 1⟩) (by simp [results, Try.results34, go_sem, k0, k1, k2, k3, k4]) rfl ⟨rfl, H2.out.out _ _ _ _ _⟩
set_option maxHeartbeats 1000000 in
theorem fOpening_ua_n (w : World) (pb : Nat) (l : Lk) (h : LkAt w pb l) :
    Calls Try.prog 34 #[ptr pb, (.iface 78 (.agg #[.bool false]))] w fun e w' => e = .returned (av nop) ∧ Does pb l w w' := by
  have H := Lib.hid h
  have hf := h.free
  have hlt := h.lt
  have a0 := fun W => as_ua_closes false W
  have a1 := fun W => as_ua_ua false W
  clear h
  go_enter Try.func34, Try.ntmps34
  go_wp2_with (first
    | (go_at_call 57; ((refine calls_arg (b := .agg #[.bool false]) (by kernel_rfl) ?_; with_reducible refine (fframe false _).mono ?_); rintro e w1 ⟨rfl, hb⟩; have H1 := Lib.hid ((In.start (Does.refl H.out) rfl).below hb); clear hb; obtain ⟨⟨k0, k1, k2, k3, k4⟩, kf⟩ := H1.out.cells)))
  exact bodyPost_ret (v := av nop) (by simp [results, Try.results34, go_sem, nop, k0, k1, k2, k3, k4]) rfl ⟨rfl, H1.out.out _ _ _ _ _⟩
set_option maxHeartbeats 1000000 in
theorem fOpening_dm_y (w : World) (pb : Nat) (l : Lk) (h : LkAt w pb l) :
    Calls Try.prog 34 #[ptr pb, (.iface 79 (.agg #[.bool true]))] w fun e w' => e = .returned (av ⟨0, false, false, 2, 4⟩) ∧ Does pb ⟨1, l.li, l.n, l.t⟩ w w' := by
  have H := Lib.hid h
  have hf := h.free
  have hlt := h.lt
  have a0 := fun W => as_dm_closes true W
  have a1 := fun W => as_dm_ua true W
  have a2 := fun W => as_dm_dm true W
  clear h
  go_enter Try.func34, Try.ntmps34
  go_wp2_with (first
    | (go_at_call 57; ((refine calls_arg (b := .agg #[.bool true]) (by kernel_rfl) ?_; with_reducible refine (fframe true _).mono ?_); rintro e w1 ⟨rfl, hb⟩; have H1 := Lib.hid ((In.start (Does.refl H.out) rfl).below hb); clear hb; obtain ⟨⟨k0, k1, k2, k3, k4⟩, kf⟩ := H1.out.cells))
    | (go_at_call 38; ((with_reducible refine (fbecomes _ pb _ 1 ⟨0, false, false, 2, 4⟩ H1.out.at_).mono ?_); rintro e w2 ⟨rfl, hd⟩; have H2 := Lib.hid (H1.out.next hd); clear hd k0 k1 k2 k3 k4 kf; obtain ⟨⟨k0, k1, k2, k3, k4⟩, kf⟩ := H2.out.cells)))
  exact bodyPost_ret (v := av ⟨0, false, false, 2, 4⟩) (by simp [results, Try.results34, go_sem, k0, k1, k2, k3, k4]) rfl ⟨rfl, H2.out.out _ _ _ _ _⟩
set_option maxHeartbeats 1000000 in
theorem fOpening_dm_n (w : World) (pb : Nat) (l : Lk) (h : LkAt w pb l) :
    Calls Try.prog 34 #[ptr pb, (.iface 79 (.agg #[.bool false]))] w fun e w' => e = .returned (av nop) ∧ Does pb l w w' := by
  have H := Lib.hid h
  have hf := h.free
  have hlt := h.lt
  have a0 := fun W => as_dm_closes false W
  have a1 := fun W => as_dm_ua false W
  have a2 := fun W => as_dm_dm false W
  clear h
  go_enter Try.func34, Try.ntmps34
  go_wp2_with (first
    | (go_at_call 57; ((refine calls_arg (b := .agg #[.bool false]) (by kernel_rfl) ?_; with_reducible refine (fframe false _).mono ?_); rintro e w1 ⟨rfl, hb⟩; have H1 := Lib.hid ((In.start (Does.refl H.out) rfl).below hb); clear hb; obtain ⟨⟨k0, k1, k2, k3, k4⟩, kf⟩ := H1.out.cells)))
  exact bodyPost_ret (v := av nop) (by simp [results, Try.results34, go_sem, nop, k0, k1, k2, k3, k4]) rfl ⟨rfl, H1.out.out _ _ _ _ _⟩
set_option maxHeartbeats 1000000 in
theorem fOpening_poll (w : World) (pb : Nat) (l : Lk) (p : Bool) (h : LkAt w pb l) :
    Calls Try.prog 34 #[ptr pb, (.iface 80 (.agg #[.bool p]))] w fun e w' => e = .returned (av nop) ∧ Does pb l w w' := by
  have H := Lib.hid h
  have hf := h.free
  have hlt := h.lt
  have a0 := fun W => as_poll_closes p W
  have a1 := fun W => as_poll_ua p W
  have a2 := fun W => as_poll_dm p W
  have a3 := fun W => as_poll_sabm p W
  have a4 := fun W => as_poll_disc p W
  have a5 := fun W => as_poll_due p W
  clear h
  go_enter Try.func34, Try.ntmps34
  go_wp2
  exact bodyPost_ret (v := av nop) (by simp [results, Try.results34, go_sem, nop]) rfl ⟨rfl, (Does.refl H.out).alloc _⟩
set_option maxHeartbeats 1000000 in
theorem fOpening_noise (w : World) (pb : Nat) (l : Lk) (h : LkAt w pb l) :
    Calls Try.prog 34 #[ptr pb, (.iface 81 (.agg #[]))] w fun e w' => e = .returned (av nop) ∧ Does pb l w w' := by
  have H := Lib.hid h
  have hf := h.free
  have hlt := h.lt
  have a0 := fun W => as_noise_closes W
  have a1 := fun W => as_noise_ua W
  have a2 := fun W => as_noise_dm W
  have a3 := fun W => as_noise_sabm W
  have a4 := fun W => as_noise_disc W
  have a5 := fun W => as_noise_due W
  clear h
  go_enter Try.func34, Try.ntmps34
  go_wp2
  exact bodyPost_ret (v := av nop) (by simp [results, Try.results34, go_sem, nop]) rfl ⟨rfl, (Does.refl H.out).alloc _⟩
theorem fOpening (w : World) (pb : Nat) (l : Lk) (e : Ev) (hl : l.Ok) (h : LkAt w pb l) :
    Calls Try.prog 34 #[ptr pb, evV e] w fun x w' => x = .returned (av (onOpening l e).2) ∧ Does pb (onOpening l e).1 w w' := by
  cases e with
  | opens => exact fOpening_opens w pb l h
  | closes => exact fOpening_closes w pb l h
  | due => exact fOpening_due w pb l hl h
  | sabm p => exact fOpening_sabm w pb l p h
  | disc p => exact fOpening_disc w pb l p h
  | ua p =>
    cases p with
    | true => exact fOpening_ua_y w pb l h
    | false => exact fOpening_ua_n w pb l h
  | dm p =>
    cases p with
    | true => exact fOpening_dm_y w pb l h
    | false => exact fOpening_dm_n w pb l h
  | poll p => exact fOpening_poll w pb l p h
  | noise => exact fOpening_noise w pb l h
end Go.Proofs.Ytfflbaiddiahnaa.Lk

/-
  The document's own link: a frame is heard. Condition: it lies where it says, its tries are within its N2; a kind is an octet.
-/
import Derived.Test.YtfflbaiddiahnaaLkRCmd
namespace Go.Proofs.Ytfflbaiddiahnaa.Lk
open Go.RowKit Go.Proofs.Ytfflbaiddiahnaa.Base Go.Proofs.Ytfflbaiddiahnaa.Mem
set_option maxHeartbeats 1000000 in
theorem rh_zero (w : World) (pb : Nat) (l : Lk) (p c : Bool) (h : RfAt w pb l) :
    Calls Try.prog 27 #[ptr pb, .int .u8 0, .bool p, .bool c] w fun e w' => e = .returned (av ⟨0, false, false, 0, 0⟩) ∧ RDoes pb l w w' := by
  have H := Lib.hid h
  clear h
  go_enter Try.func27, Try.ntmps27
  go_wp2
  exact bodyPost_ret (v := av ⟨0, false, false, 0, 0⟩) (by simp [results, Try.results27, go_sem]) rfl ⟨rfl, (RDoes.refl H.out).alloc _⟩
set_option maxHeartbeats 1000000 in
theorem rh_high (w : World) (pb : Nat) (l : Lk) (k : Int) (p c : Bool) (hk : 10 < k) (h : RfAt w pb l) :
    Calls Try.prog 27 #[ptr pb, .int .u8 k, .bool p, .bool c] w fun e w' => e = .returned (av ⟨0, false, false, 0, 0⟩) ∧ RDoes pb l w w' := by
  have H := Lib.hid h
  have t0 : (k == 2) = false := beq_false (by omega)
  have t1 : (k == 3) = false := beq_false (by omega)
  have t2 : decide (k < 1) = false := decide_eq_false (by omega)
  have t3 : decide (10 < k) = true := decide_eq_true hk
  clear h
  go_enter Try.func27, Try.ntmps27
  go_wp2
  exact bodyPost_ret (v := av ⟨0, false, false, 0, 0⟩) (by simp [results, Try.results27, go_sem]) rfl ⟨rfl, (RDoes.refl H.out).alloc _⟩
set_option maxHeartbeats 1000000 in
theorem rh_c2 (w : World) (pb : Nat) (l : Lk) (p : Bool) (h : RfAt w pb l) :
    Calls Try.prog 27 #[ptr pb, .int .u8 2, .bool p, .bool true] w fun e w' => e = .returned (av ⟨0, false, false, 0, 0⟩) ∧ RDoes pb l w w' := by
  have H := Lib.hid h
  clear h
  go_enter Try.func27, Try.ntmps27
  go_wp2
  exact bodyPost_ret (v := av ⟨0, false, false, 0, 0⟩) (by simp [results, Try.results27, go_sem]) rfl ⟨rfl, (RDoes.refl H.out).alloc _⟩
set_option maxHeartbeats 1000000 in
theorem rh_c3 (w : World) (pb : Nat) (l : Lk) (p : Bool) (h : RfAt w pb l) :
    Calls Try.prog 27 #[ptr pb, .int .u8 3, .bool p, .bool true] w fun e w' => e = .returned (av ⟨0, false, false, 0, 0⟩) ∧ RDoes pb l w w' := by
  have H := Lib.hid h
  clear h
  go_enter Try.func27, Try.ntmps27
  go_wp2
  exact bodyPost_ret (v := av ⟨0, false, false, 0, 0⟩) (by simp [results, Try.results27, go_sem]) rfl ⟨rfl, (RDoes.refl H.out).alloc _⟩
set_option maxHeartbeats 1000000 in
theorem rh_r1 (w : World) (pb : Nat) (l : Lk) (p : Bool) (h : RfAt w pb l) :
    Calls Try.prog 27 #[ptr pb, .int .u8 1, .bool p, .bool false] w fun e w' => e = .returned (av ⟨0, false, false, 0, 0⟩) ∧ RDoes pb l w w' := by
  have H := Lib.hid h
  clear h
  go_enter Try.func27, Try.ntmps27
  go_wp2
  exact bodyPost_ret (v := av ⟨0, false, false, 0, 0⟩) (by simp [results, Try.results27, go_sem]) rfl ⟨rfl, (RDoes.refl H.out).alloc _⟩
set_option maxHeartbeats 1000000 in
theorem rh_r4 (w : World) (pb : Nat) (l : Lk) (p : Bool) (h : RfAt w pb l) :
    Calls Try.prog 27 #[ptr pb, .int .u8 4, .bool p, .bool false] w fun e w' => e = .returned (av ⟨0, false, false, 0, 0⟩) ∧ RDoes pb l w w' := by
  have H := Lib.hid h
  clear h
  go_enter Try.func27, Try.ntmps27
  go_wp2
  exact bodyPost_ret (v := av ⟨0, false, false, 0, 0⟩) (by simp [results, Try.results27, go_sem]) rfl ⟨rfl, (RDoes.refl H.out).alloc _⟩
set_option maxHeartbeats 1000000 in
theorem rh_c (w : World) (pb : Nat) (l : Lk) (k : Int) (p : Bool) (hl : l.Ok) (h : RfAt w pb l) (h2 : k ≠ 2) (h3 : k ≠ 3) (ka : 1 ≤ k) (kb : k ≤ 10) (r : Lk × Ac) (hr : on l (evOf k p true) = r) :
    Calls Try.prog 27 #[ptr pb, .int .u8 k, .bool p, .bool true] w fun x w' => x = .returned (av r.2) ∧ RDoes pb r.1 w w' := by
  have H := Lib.hid h
  have CW : Hid (∀ w, RfAt w pb l → Calls Try.prog 32 #[ptr pb, .int .u8 k, .bool p] w fun x w' => x = .returned (av r.2) ∧ RDoes pb r.1 w w') := Lib.hid fun w h => rcommand w pb l k p hl h h2 h3 ka kb r hr
  obtain ⟨l2, a⟩ := r
  have t0 : (k == 2) = false := beq_false h2
  have t1 : (k == 3) = false := beq_false h3
  have t2 : decide (k < 1) = false := decide_eq_false (by omega)
  have t3 : decide (10 < k) = false := decide_eq_false (by omega)
  clear h hl hr h2 h3 ka kb
  go_enter Try.func27, Try.ntmps27
  go_wp2_with (first
    | (go_at_call 32; ((with_reducible refine (CW.out _ (H.out.alloc _)).mono ?_); rintro e w2 ⟨rfl, hd⟩; have H2 := Lib.hid ((RIn.start (RDoes.refl H.out) rfl).next hd); clear hd; obtain ⟨⟨k0, k1, k2, k3, k4⟩, kf⟩ := H2.out.cells)))
  exact bodyPost_ret (v := av a) (by simp [results, Try.results27, go_sem, k0, k1, k2, k3, k4]) rfl ⟨rfl, H2.out.out _ _ _ _ _⟩
set_option maxHeartbeats 1000000 in
theorem rh_1_2 (w : World) (pb : Nat) (li : Bool) (n t : Int) (p : Bool) (h : RfAt w pb ⟨1, li, n, t⟩) :
    Calls Try.prog 27 #[ptr pb, .int .u8 2, .bool p, .bool false] w fun e w' => e = .returned (av ⟨0, false, false, 0, 0⟩) ∧ RDoes pb ⟨1, li, n, t⟩ w w' := by
  have H := Lib.hid h
  have hf := h.free
  have hlt := h.lt
  obtain ⟨c0, -, -, -⟩ := h.cells
  clear h
  go_enter Try.func27, Try.ntmps27
  go_wp2
  exact bodyPost_ret (v := av ⟨0, false, false, 0, 0⟩) (by simp [results, Try.results27, go_sem]) rfl ⟨rfl, (RDoes.refl H.out).alloc _⟩
set_option maxHeartbeats 1000000 in
theorem rh_1_3 (w : World) (pb : Nat) (li : Bool) (n t : Int) (p : Bool) (h : RfAt w pb ⟨1, li, n, t⟩) :
    Calls Try.prog 27 #[ptr pb, .int .u8 3, .bool p, .bool false] w fun e w' => e = .returned (av ⟨0, false, false, 0, 0⟩) ∧ RDoes pb ⟨1, li, n, t⟩ w w' := by
  have H := Lib.hid h
  have hf := h.free
  have hlt := h.lt
  obtain ⟨c0, -, -, -⟩ := h.cells
  clear h
  go_enter Try.func27, Try.ntmps27
  go_wp2
  exact bodyPost_ret (v := av ⟨0, false, false, 0, 0⟩) (by simp [results, Try.results27, go_sem]) rfl ⟨rfl, (RDoes.refl H.out).alloc _⟩
set_option maxHeartbeats 1000000 in
theorem rh_5_2 (w : World) (pb : Nat) (li : Bool) (n t : Int) (p : Bool) (h : RfAt w pb ⟨5, li, n, t⟩) :
    Calls Try.prog 27 #[ptr pb, .int .u8 2, .bool p, .bool false] w fun e w' => e = .returned (av ⟨0, false, false, 0, 0⟩) ∧ RDoes pb ⟨5, li, n, t⟩ w w' := by
  have H := Lib.hid h
  have hf := h.free
  have hlt := h.lt
  obtain ⟨c0, -, -, -⟩ := h.cells
  clear h
  go_enter Try.func27, Try.ntmps27
  go_wp2
  exact bodyPost_ret (v := av ⟨0, false, false, 0, 0⟩) (by simp [results, Try.results27, go_sem]) rfl ⟨rfl, (RDoes.refl H.out).alloc _⟩
set_option maxHeartbeats 1000000 in
theorem rh_5_3 (w : World) (pb : Nat) (li : Bool) (n t : Int) (p : Bool) (h : RfAt w pb ⟨5, li, n, t⟩) :
    Calls Try.prog 27 #[ptr pb, .int .u8 3, .bool p, .bool false] w fun e w' => e = .returned (av ⟨0, false, false, 0, 0⟩) ∧ RDoes pb ⟨5, li, n, t⟩ w w' := by
  have H := Lib.hid h
  have hf := h.free
  have hlt := h.lt
  obtain ⟨c0, -, -, -⟩ := h.cells
  clear h
  go_enter Try.func27, Try.ntmps27
  go_wp2
  exact bodyPost_ret (v := av ⟨0, false, false, 0, 0⟩) (by simp [results, Try.results27, go_sem]) rfl ⟨rfl, (RDoes.refl H.out).alloc _⟩
set_option maxHeartbeats 1000000 in
theorem rh_2_2_y (w : World) (pb : Nat) (li : Bool) (n t : Int) (h : RfAt w pb ⟨2, li, n, t⟩) :
    Calls Try.prog 27 #[ptr pb, .int .u8 2, .bool true, .bool false] w fun e w' => e = .returned (av ⟨0, false, false, 2, 1⟩) ∧ RDoes pb ⟨3, li, n, t⟩ w w' := by
  have H := Lib.hid h
  have hf := h.free
  have hlt := h.lt
  obtain ⟨c0, -, -, -⟩ := h.cells
  clear h
  go_enter Try.func27, Try.ntmps27
  go_wp2_with (first
    | (go_at_call 31; ((with_reducible refine (rto _ pb _ 3 ⟨0, false, false, 2, 1⟩ (H.out.alloc _)).mono ?_); rintro e w2 ⟨rfl, hd⟩; have H2 := Lib.hid ((RIn.start (RDoes.refl H.out) rfl).next hd); clear hd; obtain ⟨⟨k0, k1, k2, k3, k4⟩, kf⟩ := H2.out.cells)))
  exact bodyPost_ret (v := av ⟨0, false, false, 2, 1⟩) (by simp [results, Try.results27, go_sem, k0, k1, k2, k3, k4]) rfl ⟨rfl, H2.out.out _ _ _ _ _⟩
set_option maxHeartbeats 1000000 in
theorem rh_2_2_n (w : World) (pb : Nat) (li : Bool) (n t : Int) (h : RfAt w pb ⟨2, li, n, t⟩) :
    Calls Try.prog 27 #[ptr pb, .int .u8 2, .bool false, .bool false] w fun e w' => e = .returned (av ⟨0, false, false, 0, 0⟩) ∧ RDoes pb ⟨2, li, n, t⟩ w w' := by
  have H := Lib.hid h
  have hf := h.free
  have hlt := h.lt
  obtain ⟨c0, -, -, -⟩ := h.cells
  clear h
  go_enter Try.func27, Try.ntmps27
  go_wp2
  exact bodyPost_ret (v := av ⟨0, false, false, 0, 0⟩) (by simp [results, Try.results27, go_sem]) rfl ⟨rfl, (RDoes.refl H.out).alloc _⟩
set_option maxHeartbeats 1000000 in
theorem rh_2_3_y (w : World) (pb : Nat) (li : Bool) (n t : Int) (h : RfAt w pb ⟨2, li, n, t⟩) :
    Calls Try.prog 27 #[ptr pb, .int .u8 3, .bool true, .bool false] w fun e w' => e = .returned (av ⟨0, false, false, 2, 4⟩) ∧ RDoes pb ⟨1, li, n, t⟩ w w' := by
  have H := Lib.hid h
  have hf := h.free
  have hlt := h.lt
  obtain ⟨c0, -, -, -⟩ := h.cells
  clear h
  go_enter Try.func27, Try.ntmps27
  go_wp2_with (first
    | (go_at_call 31; ((with_reducible refine (rto _ pb _ 1 ⟨0, false, false, 2, 4⟩ (H.out.alloc _)).mono ?_); rintro e w2 ⟨rfl, hd⟩; have H2 := Lib.hid ((RIn.start (RDoes.refl H.out) rfl).next hd); clear hd; obtain ⟨⟨k0, k1, k2, k3, k4⟩, kf⟩ := H2.out.cells)))
  exact bodyPost_ret (v := av ⟨0, false, false, 2, 4⟩) (by simp [results, Try.results27, go_sem, k0, k1, k2, k3, k4]) rfl ⟨rfl, H2.out.out _ _ _ _ _⟩
set_option maxHeartbeats 1000000 in
theorem rh_2_3_n (w : World) (pb : Nat) (li : Bool) (n t : Int) (h : RfAt w pb ⟨2, li, n, t⟩) :
    Calls Try.prog 27 #[ptr pb, .int .u8 3, .bool false, .bool false] w fun e w' => e = .returned (av ⟨0, false, false, 0, 0⟩) ∧ RDoes pb ⟨2, li, n, t⟩ w w' := by
  have H := Lib.hid h
  have hf := h.free
  have hlt := h.lt
  obtain ⟨c0, -, -, -⟩ := h.cells
  clear h
  go_enter Try.func27, Try.ntmps27
  go_wp2
  exact bodyPost_ret (v := av ⟨0, false, false, 0, 0⟩) (by simp [results, Try.results27, go_sem]) rfl ⟨rfl, (RDoes.refl H.out).alloc _⟩
set_option maxHeartbeats 1000000 in
theorem rh_3_2 (w : World) (pb : Nat) (li : Bool) (n t : Int) (p : Bool) (h : RfAt w pb ⟨3, li, n, t⟩) :
    Calls Try.prog 27 #[ptr pb, .int .u8 2, .bool p, .bool false] w fun e w' => e = .returned (av ⟨0, false, false, 0, 0⟩) ∧ RDoes pb ⟨3, li, n, t⟩ w w' := by
  have H := Lib.hid h
  have hf := h.free
  have hlt := h.lt
  obtain ⟨c0, -, -, -⟩ := h.cells
  clear h
  go_enter Try.func27, Try.ntmps27
  go_wp2
  exact bodyPost_ret (v := av ⟨0, false, false, 0, 0⟩) (by simp [results, Try.results27, go_sem]) rfl ⟨rfl, (RDoes.refl H.out).alloc _⟩
set_option maxHeartbeats 1000000 in
theorem rh_3_3 (w : World) (pb : Nat) (li : Bool) (n t : Int) (p : Bool) (h : RfAt w pb ⟨3, li, n, t⟩) :
    Calls Try.prog 27 #[ptr pb, .int .u8 3, .bool p, .bool false] w fun e w' => e = .returned (av ⟨0, false, false, 0, 5⟩) ∧ RDoes pb ⟨1, li, n, t⟩ w w' := by
  have H := Lib.hid h
  have hf := h.free
  have hlt := h.lt
  obtain ⟨c0, -, -, -⟩ := h.cells
  clear h
  go_enter Try.func27, Try.ntmps27
  go_wp2_with (first
    | (go_at_call 31; ((with_reducible refine (rto _ pb _ 1 ⟨0, false, false, 0, 5⟩ (H.out.alloc _)).mono ?_); rintro e w2 ⟨rfl, hd⟩; have H2 := Lib.hid ((RIn.start (RDoes.refl H.out) rfl).next hd); clear hd; obtain ⟨⟨k0, k1, k2, k3, k4⟩, kf⟩ := H2.out.cells)))
  exact bodyPost_ret (v := av ⟨0, false, false, 0, 5⟩) (by simp [results, Try.results27, go_sem, k0, k1, k2, k3, k4]) rfl ⟨rfl, H2.out.out _ _ _ _ _⟩
set_option maxHeartbeats 1000000 in
theorem rh_4_2_y (w : World) (pb : Nat) (li : Bool) (n t : Int) (h : RfAt w pb ⟨4, li, n, t⟩) :
    Calls Try.prog 27 #[ptr pb, .int .u8 2, .bool true, .bool false] w fun e w' => e = .returned (av ⟨0, false, false, 2, 5⟩) ∧ RDoes pb ⟨1, li, n, t⟩ w w' := by
  have H := Lib.hid h
  have hf := h.free
  have hlt := h.lt
  obtain ⟨c0, -, -, -⟩ := h.cells
  clear h
  go_enter Try.func27, Try.ntmps27
  go_wp2_with (first
    | (go_at_call 31; ((with_reducible refine (rto _ pb _ 1 ⟨0, false, false, 2, 5⟩ (H.out.alloc _)).mono ?_); rintro e w2 ⟨rfl, hd⟩; have H2 := Lib.hid ((RIn.start (RDoes.refl H.out) rfl).next hd); clear hd; obtain ⟨⟨k0, k1, k2, k3, k4⟩, kf⟩ := H2.out.cells)))
  exact bodyPost_ret (v := av ⟨0, false, false, 2, 5⟩) (by simp [results, Try.results27, go_sem, k0, k1, k2, k3, k4]) rfl ⟨rfl, H2.out.out _ _ _ _ _⟩
set_option maxHeartbeats 1000000 in
theorem rh_4_2_n (w : World) (pb : Nat) (li : Bool) (n t : Int) (h : RfAt w pb ⟨4, li, n, t⟩) :
    Calls Try.prog 27 #[ptr pb, .int .u8 2, .bool false, .bool false] w fun e w' => e = .returned (av ⟨0, false, false, 0, 0⟩) ∧ RDoes pb ⟨4, li, n, t⟩ w w' := by
  have H := Lib.hid h
  have hf := h.free
  have hlt := h.lt
  obtain ⟨c0, -, -, -⟩ := h.cells
  clear h
  go_enter Try.func27, Try.ntmps27
  go_wp2
  exact bodyPost_ret (v := av ⟨0, false, false, 0, 0⟩) (by simp [results, Try.results27, go_sem]) rfl ⟨rfl, (RDoes.refl H.out).alloc _⟩
set_option maxHeartbeats 1000000 in
theorem rh_4_3_y (w : World) (pb : Nat) (li : Bool) (n t : Int) (h : RfAt w pb ⟨4, li, n, t⟩) :
    Calls Try.prog 27 #[ptr pb, .int .u8 3, .bool true, .bool false] w fun e w' => e = .returned (av ⟨0, false, false, 2, 5⟩) ∧ RDoes pb ⟨1, li, n, t⟩ w w' := by
  have H := Lib.hid h
  have hf := h.free
  have hlt := h.lt
  obtain ⟨c0, -, -, -⟩ := h.cells
  clear h
  go_enter Try.func27, Try.ntmps27
  go_wp2_with (first
    | (go_at_call 31; ((with_reducible refine (rto _ pb _ 1 ⟨0, false, false, 2, 5⟩ (H.out.alloc _)).mono ?_); rintro e w2 ⟨rfl, hd⟩; have H2 := Lib.hid ((RIn.start (RDoes.refl H.out) rfl).next hd); clear hd; obtain ⟨⟨k0, k1, k2, k3, k4⟩, kf⟩ := H2.out.cells)))
  exact bodyPost_ret (v := av ⟨0, false, false, 2, 5⟩) (by simp [results, Try.results27, go_sem, k0, k1, k2, k3, k4]) rfl ⟨rfl, H2.out.out _ _ _ _ _⟩
set_option maxHeartbeats 1000000 in
theorem rh_4_3_n (w : World) (pb : Nat) (li : Bool) (n t : Int) (h : RfAt w pb ⟨4, li, n, t⟩) :
    Calls Try.prog 27 #[ptr pb, .int .u8 3, .bool false, .bool false] w fun e w' => e = .returned (av ⟨0, false, false, 0, 0⟩) ∧ RDoes pb ⟨4, li, n, t⟩ w w' := by
  have H := Lib.hid h
  have hf := h.free
  have hlt := h.lt
  obtain ⟨c0, -, -, -⟩ := h.cells
  clear h
  go_enter Try.func27, Try.ntmps27
  go_wp2
  exact bodyPost_ret (v := av ⟨0, false, false, 0, 0⟩) (by simp [results, Try.results27, go_sem]) rfl ⟨rfl, (RDoes.refl H.out).alloc _⟩
set_option maxHeartbeats 1000000 in
theorem rh_1_o (w : World) (pb : Nat) (li : Bool) (n t : Int) (k : Int) (p : Bool) (h1 : k ≠ 1) (h2 : k ≠ 2) (h3 : k ≠ 3) (h4 : k ≠ 4) (ka : 1 ≤ k) (kb : k ≤ 10) (h : RfAt w pb ⟨1, li, n, t⟩) :
    Calls Try.prog 27 #[ptr pb, .int .u8 k, .bool p, .bool false] w fun e w' => e = .returned (av ⟨0, false, false, 0, 0⟩) ∧ RDoes pb ⟨1, li, n, t⟩ w w' := by
  have H := Lib.hid h
  have hf := h.free
  have hlt := h.lt
  obtain ⟨c0, -, -, -⟩ := h.cells
  have t0 : (k == 1) = false := beq_false h1
  have t1 : (k == 2) = false := beq_false h2
  have t2 : (k == 3) = false := beq_false h3
  have t3 : (k == 4) = false := beq_false h4
  have t4 : decide (k < 1) = false := decide_eq_false (by omega)
  have t5 : decide (10 < k) = false := decide_eq_false (by omega)
  clear h
  go_enter Try.func27, Try.ntmps27
  go_wp2
  exact bodyPost_ret (v := av ⟨0, false, false, 0, 0⟩) (by simp [results, Try.results27, go_sem]) rfl ⟨rfl, (RDoes.refl H.out).alloc _⟩
set_option maxHeartbeats 1000000 in
theorem rh_2_o (w : World) (pb : Nat) (li : Bool) (n t : Int) (k : Int) (p : Bool) (h1 : k ≠ 1) (h2 : k ≠ 2) (h3 : k ≠ 3) (h4 : k ≠ 4) (ka : 1 ≤ k) (kb : k ≤ 10) (h : RfAt w pb ⟨2, li, n, t⟩) :
    Calls Try.prog 27 #[ptr pb, .int .u8 k, .bool p, .bool false] w fun e w' => e = .returned (av ⟨0, false, false, 0, 0⟩) ∧ RDoes pb ⟨2, li, n, t⟩ w w' := by
  have H := Lib.hid h
  have hf := h.free
  have hlt := h.lt
  obtain ⟨c0, -, -, -⟩ := h.cells
  have t0 : (k == 1) = false := beq_false h1
  have t1 : (k == 2) = false := beq_false h2
  have t2 : (k == 3) = false := beq_false h3
  have t3 : (k == 4) = false := beq_false h4
  have t4 : decide (k < 1) = false := decide_eq_false (by omega)
  have t5 : decide (10 < k) = false := decide_eq_false (by omega)
  clear h
  go_enter Try.func27, Try.ntmps27
  go_wp2
  exact bodyPost_ret (v := av ⟨0, false, false, 0, 0⟩) (by simp [results, Try.results27, go_sem]) rfl ⟨rfl, (RDoes.refl H.out).alloc _⟩
set_option maxHeartbeats 1000000 in
theorem rh_3_o (w : World) (pb : Nat) (li : Bool) (n t : Int) (k : Int) (p : Bool) (h1 : k ≠ 1) (h2 : k ≠ 2) (h3 : k ≠ 3) (h4 : k ≠ 4) (ka : 1 ≤ k) (kb : k ≤ 10) (h : RfAt w pb ⟨3, li, n, t⟩) :
    Calls Try.prog 27 #[ptr pb, .int .u8 k, .bool p, .bool false] w fun e w' => e = .returned (av ⟨0, false, false, 0, 0⟩) ∧ RDoes pb ⟨3, li, n, t⟩ w w' := by
  have H := Lib.hid h
  have hf := h.free
  have hlt := h.lt
  obtain ⟨c0, -, -, -⟩ := h.cells
  have t0 : (k == 1) = false := beq_false h1
  have t1 : (k == 2) = false := beq_false h2
  have t2 : (k == 3) = false := beq_false h3
  have t3 : (k == 4) = false := beq_false h4
  have t4 : decide (k < 1) = false := decide_eq_false (by omega)
  have t5 : decide (10 < k) = false := decide_eq_false (by omega)
  clear h
  go_enter Try.func27, Try.ntmps27
  go_wp2
  exact bodyPost_ret (v := av ⟨0, false, false, 0, 0⟩) (by simp [results, Try.results27, go_sem]) rfl ⟨rfl, (RDoes.refl H.out).alloc _⟩
set_option maxHeartbeats 1000000 in
theorem rh_4_o (w : World) (pb : Nat) (li : Bool) (n t : Int) (k : Int) (p : Bool) (h1 : k ≠ 1) (h2 : k ≠ 2) (h3 : k ≠ 3) (h4 : k ≠ 4) (ka : 1 ≤ k) (kb : k ≤ 10) (h : RfAt w pb ⟨4, li, n, t⟩) :
    Calls Try.prog 27 #[ptr pb, .int .u8 k, .bool p, .bool false] w fun e w' => e = .returned (av ⟨0, false, false, 0, 0⟩) ∧ RDoes pb ⟨4, li, n, t⟩ w w' := by
  have H := Lib.hid h
  have hf := h.free
  have hlt := h.lt
  obtain ⟨c0, -, -, -⟩ := h.cells
  have t0 : (k == 1) = false := beq_false h1
  have t1 : (k == 2) = false := beq_false h2
  have t2 : (k == 3) = false := beq_false h3
  have t3 : (k == 4) = false := beq_false h4
  have t4 : decide (k < 1) = false := decide_eq_false (by omega)
  have t5 : decide (10 < k) = false := decide_eq_false (by omega)
  clear h
  go_enter Try.func27, Try.ntmps27
  go_wp2
  exact bodyPost_ret (v := av ⟨0, false, false, 0, 0⟩) (by simp [results, Try.results27, go_sem]) rfl ⟨rfl, (RDoes.refl H.out).alloc _⟩
set_option maxHeartbeats 1000000 in
theorem rh_5_o (w : World) (pb : Nat) (li : Bool) (n t : Int) (k : Int) (p : Bool) (h1 : k ≠ 1) (h2 : k ≠ 2) (h3 : k ≠ 3) (h4 : k ≠ 4) (ka : 1 ≤ k) (kb : k ≤ 10) (h : RfAt w pb ⟨5, li, n, t⟩) :
    Calls Try.prog 27 #[ptr pb, .int .u8 k, .bool p, .bool false] w fun e w' => e = .returned (av ⟨0, false, false, 0, 0⟩) ∧ RDoes pb ⟨5, li, n, t⟩ w w' := by
  have H := Lib.hid h
  have hf := h.free
  have hlt := h.lt
  obtain ⟨c0, -, -, -⟩ := h.cells
  have t0 : (k == 1) = false := beq_false h1
  have t1 : (k == 2) = false := beq_false h2
  have t2 : (k == 3) = false := beq_false h3
  have t3 : (k == 4) = false := beq_false h4
  have t4 : decide (k < 1) = false := decide_eq_false (by omega)
  have t5 : decide (10 < k) = false := decide_eq_false (by omega)
  clear h
  go_enter Try.func27, Try.ntmps27
  go_wp2
  exact bodyPost_ret (v := av ⟨0, false, false, 0, 0⟩) (by simp [results, Try.results27, go_sem]) rfl ⟨rfl, (RDoes.refl H.out).alloc _⟩
theorem on_noise (l : Lk) : on l .noise = (l, nop) := by
  unfold on
  split
  · rfl
  split
  · rfl
  split
  · rfl
  · rfl
theorem rHear (w : World) (pb : Nat) (l : Lk) (k : Int) (p c : Bool) (k0 : 0 ≤ k) (hl : l.Ok) (h : RfAt w pb l) (r : Lk × Ac) (hr : on l (evOf k p c) = r) :
    Calls Try.prog 27 #[ptr pb, .int .u8 k, .bool p, .bool c] w fun x w' => x = .returned (av r.2) ∧ RDoes pb r.1 w w' := by
  have no : evOf k p c = .noise → (l, nop) = r := fun e => by rw [← hr, e, on_noise]
  by_cases hz : k = 0
  · subst hz
    obtain rfl := no (by unfold evOf; cases c <;> simp)
    exact rh_zero w pb l p c h
  by_cases hb : 10 < k
  · obtain rfl := no (by unfold evOf; cases c <;> simp <;> (try simp [show ¬ k = 1 by omega, show ¬ k = 4 by omega, show ¬ k = 2 by omega, show ¬ k = 3 by omega, show ¬ k ≤ 10 by omega]))
    exact rh_high w pb l k p c hb h
  cases c with
  | true =>
    by_cases h2 : k = 2
    · subst h2
      obtain rfl := no (by unfold evOf; simp)
      exact rh_c2 w pb l p h
    by_cases h3 : k = 3
    · subst h3
      obtain rfl := no (by unfold evOf; simp)
      exact rh_c3 w pb l p h
    exact rh_c w pb l k p hl h h2 h3 (by omega) (by omega) r hr
  | false =>
    have hs : l.s = 1 ∨ l.s = 2 ∨ l.s = 3 ∨ l.s = 4 ∨ l.s = 5 := by have := hl.s0; have := hl.s1; omega
    by_cases h1 : k = 1
    · subst h1
      obtain rfl := no (by unfold evOf; simp)
      exact rh_r1 w pb l p h
    by_cases h4 : k = 4
    · subst h4
      obtain rfl := no (by unfold evOf; simp)
      exact rh_r4 w pb l p h
    subst hr
    obtain ⟨s, li, n, t⟩ := l
    dsimp only at hs
    by_cases h2 : k = 2
    · subst h2
      rcases hs with rfl | rfl | rfl | rfl | rfl
      · exact rh_1_2 w pb li n t p h
      · cases p with
        | true => exact rh_2_2_y w pb li n t h
        | false => exact rh_2_2_n w pb li n t h
      · exact rh_3_2 w pb li n t p h
      · cases p with
        | true => exact rh_4_2_y w pb li n t h
        | false => exact rh_4_2_n w pb li n t h
      · exact rh_5_2 w pb li n t p h
    by_cases h3 : k = 3
    · subst h3
      rcases hs with rfl | rfl | rfl | rfl | rfl
      · exact rh_1_3 w pb li n t p h
      · cases p with
        | true => exact rh_2_3_y w pb li n t h
        | false => exact rh_2_3_n w pb li n t h
      · exact rh_3_3 w pb li n t p h
      · cases p with
        | true => exact rh_4_3_y w pb li n t h
        | false => exact rh_4_3_n w pb li n t h
      · exact rh_5_3 w pb li n t p h
    have e : evOf k p false = .noise := by unfold evOf; simp [h2, h3]
    rw [e, on_noise]
    rcases hs with rfl | rfl | rfl | rfl | rfl
    · exact rh_1_o w pb li n t k p h1 h2 h3 h4 (by omega) (by omega) h
    · exact rh_2_o w pb li n t k p h1 h2 h3 h4 (by omega) (by omega) h
    · exact rh_3_o w pb li n t k p h1 h2 h3 h4 (by omega) (by omega) h
    · exact rh_4_o w pb li n t k p h1 h2 h3 h4 (by omega) (by omega) h
    · exact rh_5_o w pb li n t k p h1 h2 h3 h4 (by omega) (by omega) h
end Go.Proofs.Ytfflbaiddiahnaa.Lk

/-
  The document's own link: a command is heard. Condition: it lies where it says.
-/
import Derived.Test.YtfflbaiddiahnaaLkRSmall
namespace Go.Proofs.Ytfflbaiddiahnaa.Lk
open Go.RowKit Go.Proofs.Ytfflbaiddiahnaa.Base Go.Proofs.Ytfflbaiddiahnaa.Mem
set_option maxHeartbeats 1000000 in
theorem rc_1_sabm_true (w : World) (pb : Nat) (p : Bool) (n t : Int) (h : RfAt w pb ⟨1, true, n, t⟩) :
    Calls Try.prog 32 #[ptr pb, .int .u8 1, .bool p] w fun e w' => e = .returned (av ⟨2, false, p, 0, 2⟩) ∧ RDoes pb ⟨3, true, n, t⟩ w w' := by
  have H := Lib.hid h
  have hf := h.free
  have hlt := h.lt
  have hlt1 : pb < w.heap.size + 1 := by omega
  have hlt2 : pb < w.heap.size + 1 + 1 := by omega
  obtain ⟨c0, c1, -, -⟩ := h.cells
  clear h
  go_enter Try.func32, Try.ntmps32
  go_wp2_with (first
    | (go_at_call 31; ((with_reducible refine (rto _ pb _ 3 ⟨2, false, p, 0, 2⟩ (((H.out.alloc _).alloc _).alloc _)).mono ?_); rintro e w2 ⟨rfl, hd⟩; have H2 := Lib.hid (((RIn.start (RDoes.refl H.out) rfl).below (((Below.refl _ _).alloc (Nat.le_refl _) _).alloc (by simp) _)).next hd); clear hd; obtain ⟨⟨k0, k1, k2, k3, k4⟩, kf⟩ := H2.out.cells)))
  exact bodyPost_ret (v := av ⟨2, false, p, 0, 2⟩) (by simp [results, Try.results32, go_sem, k0, k1, k2, k3, k4]) rfl ⟨rfl, H2.out.out _ _ _ _ _⟩
set_option maxHeartbeats 1000000 in
theorem rc_1_sabm_false (w : World) (pb : Nat) (p : Bool) (n t : Int) (h : RfAt w pb ⟨1, false, n, t⟩) :
    Calls Try.prog 32 #[ptr pb, .int .u8 1, .bool p] w fun e w' => e = .returned (av ⟨3, false, p, 0, 0⟩) ∧ RDoes pb ⟨1, false, n, t⟩ w w' := by
  have H := Lib.hid h
  have hf := h.free
  have hlt := h.lt
  have hlt1 : pb < w.heap.size + 1 := by omega
  have hlt2 : pb < w.heap.size + 1 + 1 := by omega
  obtain ⟨c0, c1, -, -⟩ := h.cells
  clear h
  go_enter Try.func32, Try.ntmps32
  go_wp2
  exact bodyPost_ret (v := av ⟨3, false, p, 0, 0⟩) (by simp [results, Try.results32, go_sem]) rfl ⟨rfl, (((RDoes.refl H.out).alloc _).alloc _).alloc _⟩
set_option maxHeartbeats 1000000 in
theorem rc_1_disc (w : World) (pb : Nat) (li : Bool) (p : Bool) (n t : Int) (h : RfAt w pb ⟨1, li, n, t⟩) :
    Calls Try.prog 32 #[ptr pb, .int .u8 4, .bool p] w fun e w' => e = .returned (av ⟨3, false, p, 0, 0⟩) ∧ RDoes pb ⟨1, li, n, t⟩ w w' := by
  have H := Lib.hid h
  have hf := h.free
  have hlt := h.lt
  have hlt1 : pb < w.heap.size + 1 := by omega
  have hlt2 : pb < w.heap.size + 1 + 1 := by omega
  obtain ⟨c0, c1, -, -⟩ := h.cells
  clear h
  go_enter Try.func32, Try.ntmps32
  go_wp2
  exact bodyPost_ret (v := av ⟨3, false, p, 0, 0⟩) (by simp [results, Try.results32, go_sem]) rfl ⟨rfl, (((RDoes.refl H.out).alloc _).alloc _).alloc _⟩
set_option maxHeartbeats 1000000 in
theorem rc_1_o_true (w : World) (pb : Nat) (li : Bool) (n t : Int) (k : Int) (h1 : k ≠ 1) (h4 : k ≠ 4) (h : RfAt w pb ⟨1, li, n, t⟩) :
    Calls Try.prog 32 #[ptr pb, .int .u8 k, .bool true] w fun e w' => e = .returned (av ⟨3, false, true, 0, 0⟩) ∧ RDoes pb ⟨1, li, n, t⟩ w w' := by
  have H := Lib.hid h
  have hf := h.free
  have hlt := h.lt
  have hlt1 : pb < w.heap.size + 1 := by omega
  have hlt2 : pb < w.heap.size + 1 + 1 := by omega
  obtain ⟨c0, c1, -, -⟩ := h.cells
  have t1 : (k == 1) = false := beq_false h1
  have t4 : (k == 4) = false := beq_false h4
  clear h
  go_enter Try.func32, Try.ntmps32
  go_wp2
  exact bodyPost_ret (v := av ⟨3, false, true, 0, 0⟩) (by simp [results, Try.results32, go_sem]) rfl ⟨rfl, (((RDoes.refl H.out).alloc _).alloc _).alloc _⟩
set_option maxHeartbeats 1000000 in
theorem rc_1_o_false (w : World) (pb : Nat) (li : Bool) (n t : Int) (k : Int) (h1 : k ≠ 1) (h4 : k ≠ 4) (h : RfAt w pb ⟨1, li, n, t⟩) :
    Calls Try.prog 32 #[ptr pb, .int .u8 k, .bool false] w fun e w' => e = .returned (av ⟨0, false, false, 0, 0⟩) ∧ RDoes pb ⟨1, li, n, t⟩ w w' := by
  have H := Lib.hid h
  have hf := h.free
  have hlt := h.lt
  have hlt1 : pb < w.heap.size + 1 := by omega
  have hlt2 : pb < w.heap.size + 1 + 1 := by omega
  obtain ⟨c0, c1, -, -⟩ := h.cells
  have t1 : (k == 1) = false := beq_false h1
  have t4 : (k == 4) = false := beq_false h4
  clear h
  go_enter Try.func32, Try.ntmps32
  go_wp2
  exact bodyPost_ret (v := av ⟨0, false, false, 0, 0⟩) (by simp [results, Try.results32, go_sem]) rfl ⟨rfl, (((RDoes.refl H.out).alloc _).alloc _).alloc _⟩
set_option maxHeartbeats 1000000 in
theorem rc_5_sabm_true (w : World) (pb : Nat) (p : Bool) (n t : Int) (h : RfAt w pb ⟨5, true, n, t⟩) :
    Calls Try.prog 32 #[ptr pb, .int .u8 1, .bool p] w fun e w' => e = .returned (av ⟨2, false, p, 0, 2⟩) ∧ RDoes pb ⟨3, true, n, t⟩ w w' := by
  have H := Lib.hid h
  have hf := h.free
  have hlt := h.lt
  have hlt1 : pb < w.heap.size + 1 := by omega
  have hlt2 : pb < w.heap.size + 1 + 1 := by omega
  obtain ⟨c0, c1, -, -⟩ := h.cells
  clear h
  go_enter Try.func32, Try.ntmps32
  go_wp2_with (first
    | (go_at_call 31; ((with_reducible refine (rto _ pb _ 3 ⟨2, false, p, 0, 2⟩ (((H.out.alloc _).alloc _).alloc _)).mono ?_); rintro e w2 ⟨rfl, hd⟩; have H2 := Lib.hid (((RIn.start (RDoes.refl H.out) rfl).below (((Below.refl _ _).alloc (Nat.le_refl _) _).alloc (by simp) _)).next hd); clear hd; obtain ⟨⟨k0, k1, k2, k3, k4⟩, kf⟩ := H2.out.cells)))
  exact bodyPost_ret (v := av ⟨2, false, p, 0, 2⟩) (by simp [results, Try.results32, go_sem, k0, k1, k2, k3, k4]) rfl ⟨rfl, H2.out.out _ _ _ _ _⟩
set_option maxHeartbeats 1000000 in
theorem rc_5_sabm_false (w : World) (pb : Nat) (p : Bool) (n t : Int) (h : RfAt w pb ⟨5, false, n, t⟩) :
    Calls Try.prog 32 #[ptr pb, .int .u8 1, .bool p] w fun e w' => e = .returned (av ⟨3, false, p, 0, 0⟩) ∧ RDoes pb ⟨5, false, n, t⟩ w w' := by
  have H := Lib.hid h
  have hf := h.free
  have hlt := h.lt
  have hlt1 : pb < w.heap.size + 1 := by omega
  have hlt2 : pb < w.heap.size + 1 + 1 := by omega
  obtain ⟨c0, c1, -, -⟩ := h.cells
  clear h
  go_enter Try.func32, Try.ntmps32
  go_wp2
  exact bodyPost_ret (v := av ⟨3, false, p, 0, 0⟩) (by simp [results, Try.results32, go_sem]) rfl ⟨rfl, (((RDoes.refl H.out).alloc _).alloc _).alloc _⟩
set_option maxHeartbeats 1000000 in
theorem rc_5_disc (w : World) (pb : Nat) (li : Bool) (p : Bool) (n t : Int) (h : RfAt w pb ⟨5, li, n, t⟩) :
    Calls Try.prog 32 #[ptr pb, .int .u8 4, .bool p] w fun e w' => e = .returned (av ⟨3, false, p, 0, 0⟩) ∧ RDoes pb ⟨5, li, n, t⟩ w w' := by
  have H := Lib.hid h
  have hf := h.free
  have hlt := h.lt
  have hlt1 : pb < w.heap.size + 1 := by omega
  have hlt2 : pb < w.heap.size + 1 + 1 := by omega
  obtain ⟨c0, c1, -, -⟩ := h.cells
  clear h
  go_enter Try.func32, Try.ntmps32
  go_wp2
  exact bodyPost_ret (v := av ⟨3, false, p, 0, 0⟩) (by simp [results, Try.results32, go_sem]) rfl ⟨rfl, (((RDoes.refl H.out).alloc _).alloc _).alloc _⟩
set_option maxHeartbeats 1000000 in
theorem rc_5_o_true (w : World) (pb : Nat) (li : Bool) (n t : Int) (k : Int) (h1 : k ≠ 1) (h4 : k ≠ 4) (h : RfAt w pb ⟨5, li, n, t⟩) :
    Calls Try.prog 32 #[ptr pb, .int .u8 k, .bool true] w fun e w' => e = .returned (av ⟨3, false, true, 0, 0⟩) ∧ RDoes pb ⟨5, li, n, t⟩ w w' := by
  have H := Lib.hid h
  have hf := h.free
  have hlt := h.lt
  have hlt1 : pb < w.heap.size + 1 := by omega
  have hlt2 : pb < w.heap.size + 1 + 1 := by omega
  obtain ⟨c0, c1, -, -⟩ := h.cells
  have t1 : (k == 1) = false := beq_false h1
  have t4 : (k == 4) = false := beq_false h4
  clear h
  go_enter Try.func32, Try.ntmps32
  go_wp2
  exact bodyPost_ret (v := av ⟨3, false, true, 0, 0⟩) (by simp [results, Try.results32, go_sem]) rfl ⟨rfl, (((RDoes.refl H.out).alloc _).alloc _).alloc _⟩
set_option maxHeartbeats 1000000 in
theorem rc_5_o_false (w : World) (pb : Nat) (li : Bool) (n t : Int) (k : Int) (h1 : k ≠ 1) (h4 : k ≠ 4) (h : RfAt w pb ⟨5, li, n, t⟩) :
    Calls Try.prog 32 #[ptr pb, .int .u8 k, .bool false] w fun e w' => e = .returned (av ⟨0, false, false, 0, 0⟩) ∧ RDoes pb ⟨5, li, n, t⟩ w w' := by
  have H := Lib.hid h
  have hf := h.free
  have hlt := h.lt
  have hlt1 : pb < w.heap.size + 1 := by omega
  have hlt2 : pb < w.heap.size + 1 + 1 := by omega
  obtain ⟨c0, c1, -, -⟩ := h.cells
  have t1 : (k == 1) = false := beq_false h1
  have t4 : (k == 4) = false := beq_false h4
  clear h
  go_enter Try.func32, Try.ntmps32
  go_wp2
  exact bodyPost_ret (v := av ⟨0, false, false, 0, 0⟩) (by simp [results, Try.results32, go_sem]) rfl ⟨rfl, (((RDoes.refl H.out).alloc _).alloc _).alloc _⟩
set_option maxHeartbeats 1000000 in
theorem rc_2_sabm (w : World) (pb : Nat) (li : Bool) (p : Bool) (n t : Int) (h : RfAt w pb ⟨2, li, n, t⟩) :
    Calls Try.prog 32 #[ptr pb, .int .u8 1, .bool p] w fun e w' => e = .returned (av ⟨2, false, p, 0, 0⟩) ∧ RDoes pb ⟨2, li, n, t⟩ w w' := by
  have H := Lib.hid h
  have hf := h.free
  have hlt := h.lt
  have hlt1 : pb < w.heap.size + 1 := by omega
  have hlt2 : pb < w.heap.size + 1 + 1 := by omega
  obtain ⟨c0, c1, -, -⟩ := h.cells
  clear h
  go_enter Try.func32, Try.ntmps32
  go_wp2
  exact bodyPost_ret (v := av ⟨2, false, p, 0, 0⟩) (by simp [results, Try.results32, go_sem]) rfl ⟨rfl, (((RDoes.refl H.out).alloc _).alloc _).alloc _⟩
set_option maxHeartbeats 1000000 in
theorem rc_2_disc (w : World) (pb : Nat) (li : Bool) (p : Bool) (n t : Int) (h : RfAt w pb ⟨2, li, n, t⟩) :
    Calls Try.prog 32 #[ptr pb, .int .u8 4, .bool p] w fun e w' => e = .returned (av ⟨3, false, p, 2, 4⟩) ∧ RDoes pb ⟨1, li, n, t⟩ w w' := by
  have H := Lib.hid h
  have hf := h.free
  have hlt := h.lt
  have hlt1 : pb < w.heap.size + 1 := by omega
  have hlt2 : pb < w.heap.size + 1 + 1 := by omega
  obtain ⟨c0, c1, -, -⟩ := h.cells
  clear h
  go_enter Try.func32, Try.ntmps32
  go_wp2_with (first
    | (go_at_call 31; ((with_reducible refine (rto _ pb _ 1 ⟨3, false, p, 2, 4⟩ (((H.out.alloc _).alloc _).alloc _)).mono ?_); rintro e w2 ⟨rfl, hd⟩; have H2 := Lib.hid (((RIn.start (RDoes.refl H.out) rfl).below (((Below.refl _ _).alloc (Nat.le_refl _) _).alloc (by simp) _)).next hd); clear hd; obtain ⟨⟨k0, k1, k2, k3, k4⟩, kf⟩ := H2.out.cells)))
  exact bodyPost_ret (v := av ⟨3, false, p, 2, 4⟩) (by simp [results, Try.results32, go_sem, k0, k1, k2, k3, k4]) rfl ⟨rfl, H2.out.out _ _ _ _ _⟩
set_option maxHeartbeats 1000000 in
theorem rc_2_o (w : World) (pb : Nat) (li : Bool) (p : Bool) (n t : Int) (k : Int) (h1 : k ≠ 1) (h4 : k ≠ 4) (h : RfAt w pb ⟨2, li, n, t⟩) :
    Calls Try.prog 32 #[ptr pb, .int .u8 k, .bool p] w fun e w' => e = .returned (av ⟨0, false, false, 0, 0⟩) ∧ RDoes pb ⟨2, li, n, t⟩ w w' := by
  have H := Lib.hid h
  have hf := h.free
  have hlt := h.lt
  have hlt1 : pb < w.heap.size + 1 := by omega
  have hlt2 : pb < w.heap.size + 1 + 1 := by omega
  obtain ⟨c0, c1, -, -⟩ := h.cells
  have t1 : (k == 1) = false := beq_false h1
  have t4 : (k == 4) = false := beq_false h4
  clear h
  go_enter Try.func32, Try.ntmps32
  go_wp2
  exact bodyPost_ret (v := av ⟨0, false, false, 0, 0⟩) (by simp [results, Try.results32, go_sem]) rfl ⟨rfl, (((RDoes.refl H.out).alloc _).alloc _).alloc _⟩
set_option maxHeartbeats 1000000 in
theorem rc_3_sabm (w : World) (pb : Nat) (li : Bool) (p : Bool) (n t : Int) (h : RfAt w pb ⟨3, li, n, t⟩) :
    Calls Try.prog 32 #[ptr pb, .int .u8 1, .bool p] w fun e w' => e = .returned (av ⟨2, false, p, 0, 3⟩) ∧ RDoes pb ⟨3, li, n, t⟩ w w' := by
  have H := Lib.hid h
  have hf := h.free
  have hlt := h.lt
  have hlt1 : pb < w.heap.size + 1 := by omega
  have hlt2 : pb < w.heap.size + 1 + 1 := by omega
  obtain ⟨c0, c1, -, -⟩ := h.cells
  clear h
  go_enter Try.func32, Try.ntmps32
  go_wp2
  exact bodyPost_ret (v := av ⟨2, false, p, 0, 3⟩) (by simp [results, Try.results32, go_sem]) rfl ⟨rfl, (((RDoes.refl H.out).alloc _).alloc _).alloc _⟩
set_option maxHeartbeats 1000000 in
theorem rc_3_disc (w : World) (pb : Nat) (li : Bool) (p : Bool) (n t : Int) (h : RfAt w pb ⟨3, li, n, t⟩) :
    Calls Try.prog 32 #[ptr pb, .int .u8 4, .bool p] w fun e w' => e = .returned (av ⟨2, false, p, 0, 5⟩) ∧ RDoes pb ⟨1, li, n, t⟩ w w' := by
  have H := Lib.hid h
  have hf := h.free
  have hlt := h.lt
  have hlt1 : pb < w.heap.size + 1 := by omega
  have hlt2 : pb < w.heap.size + 1 + 1 := by omega
  obtain ⟨c0, c1, -, -⟩ := h.cells
  clear h
  go_enter Try.func32, Try.ntmps32
  go_wp2_with (first
    | (go_at_call 31; ((with_reducible refine (rto _ pb _ 1 ⟨2, false, p, 0, 5⟩ (((H.out.alloc _).alloc _).alloc _)).mono ?_); rintro e w2 ⟨rfl, hd⟩; have H2 := Lib.hid (((RIn.start (RDoes.refl H.out) rfl).below (((Below.refl _ _).alloc (Nat.le_refl _) _).alloc (by simp) _)).next hd); clear hd; obtain ⟨⟨k0, k1, k2, k3, k4⟩, kf⟩ := H2.out.cells)))
  exact bodyPost_ret (v := av ⟨2, false, p, 0, 5⟩) (by simp [results, Try.results32, go_sem, k0, k1, k2, k3, k4]) rfl ⟨rfl, H2.out.out _ _ _ _ _⟩
set_option maxHeartbeats 1000000 in
theorem rc_3_o (w : World) (pb : Nat) (li : Bool) (p : Bool) (n t : Int) (k : Int) (h1 : k ≠ 1) (h4 : k ≠ 4) (h : RfAt w pb ⟨3, li, n, t⟩) :
    Calls Try.prog 32 #[ptr pb, .int .u8 k, .bool p] w fun e w' => e = .returned (av ⟨0, false, false, 0, 0⟩) ∧ RDoes pb ⟨3, li, n, t⟩ w w' := by
  have H := Lib.hid h
  have hf := h.free
  have hlt := h.lt
  have hlt1 : pb < w.heap.size + 1 := by omega
  have hlt2 : pb < w.heap.size + 1 + 1 := by omega
  obtain ⟨c0, c1, -, -⟩ := h.cells
  have t1 : (k == 1) = false := beq_false h1
  have t4 : (k == 4) = false := beq_false h4
  clear h
  go_enter Try.func32, Try.ntmps32
  go_wp2
  exact bodyPost_ret (v := av ⟨0, false, false, 0, 0⟩) (by simp [results, Try.results32, go_sem]) rfl ⟨rfl, (((RDoes.refl H.out).alloc _).alloc _).alloc _⟩
set_option maxHeartbeats 1000000 in
theorem rc_4_sabm (w : World) (pb : Nat) (li : Bool) (p : Bool) (n t : Int) (h : RfAt w pb ⟨4, li, n, t⟩) :
    Calls Try.prog 32 #[ptr pb, .int .u8 1, .bool p] w fun e w' => e = .returned (av ⟨3, false, p, 0, 0⟩) ∧ RDoes pb ⟨4, li, n, t⟩ w w' := by
  have H := Lib.hid h
  have hf := h.free
  have hlt := h.lt
  have hlt1 : pb < w.heap.size + 1 := by omega
  have hlt2 : pb < w.heap.size + 1 + 1 := by omega
  obtain ⟨c0, c1, -, -⟩ := h.cells
  clear h
  go_enter Try.func32, Try.ntmps32
  go_wp2
  exact bodyPost_ret (v := av ⟨3, false, p, 0, 0⟩) (by simp [results, Try.results32, go_sem]) rfl ⟨rfl, (((RDoes.refl H.out).alloc _).alloc _).alloc _⟩
set_option maxHeartbeats 1000000 in
theorem rc_4_disc (w : World) (pb : Nat) (li : Bool) (p : Bool) (n t : Int) (h : RfAt w pb ⟨4, li, n, t⟩) :
    Calls Try.prog 32 #[ptr pb, .int .u8 4, .bool p] w fun e w' => e = .returned (av ⟨2, false, p, 0, 0⟩) ∧ RDoes pb ⟨4, li, n, t⟩ w w' := by
  have H := Lib.hid h
  have hf := h.free
  have hlt := h.lt
  have hlt1 : pb < w.heap.size + 1 := by omega
  have hlt2 : pb < w.heap.size + 1 + 1 := by omega
  obtain ⟨c0, c1, -, -⟩ := h.cells
  clear h
  go_enter Try.func32, Try.ntmps32
  go_wp2
  exact bodyPost_ret (v := av ⟨2, false, p, 0, 0⟩) (by simp [results, Try.results32, go_sem]) rfl ⟨rfl, (((RDoes.refl H.out).alloc _).alloc _).alloc _⟩
set_option maxHeartbeats 1000000 in
theorem rc_4_o (w : World) (pb : Nat) (li : Bool) (p : Bool) (n t : Int) (k : Int) (h1 : k ≠ 1) (h4 : k ≠ 4) (h : RfAt w pb ⟨4, li, n, t⟩) :
    Calls Try.prog 32 #[ptr pb, .int .u8 k, .bool p] w fun e w' => e = .returned (av ⟨0, false, false, 0, 0⟩) ∧ RDoes pb ⟨4, li, n, t⟩ w w' := by
  have H := Lib.hid h
  have hf := h.free
  have hlt := h.lt
  have hlt1 : pb < w.heap.size + 1 := by omega
  have hlt2 : pb < w.heap.size + 1 + 1 := by omega
  obtain ⟨c0, c1, -, -⟩ := h.cells
  have t1 : (k == 1) = false := beq_false h1
  have t4 : (k == 4) = false := beq_false h4
  clear h
  go_enter Try.func32, Try.ntmps32
  go_wp2
  exact bodyPost_ret (v := av ⟨0, false, false, 0, 0⟩) (by simp [results, Try.results32, go_sem]) rfl ⟨rfl, (((RDoes.refl H.out).alloc _).alloc _).alloc _⟩
theorem rcommand (w : World) (pb : Nat) (l : Lk) (k : Int) (p : Bool) (hl : l.Ok) (h : RfAt w pb l) (h2 : k ≠ 2) (h3 : k ≠ 3) (ka : 1 ≤ k) (kb : k ≤ 10) (r : Lk × Ac) (hr : on l (evOf k p true) = r) :
    Calls Try.prog 32 #[ptr pb, .int .u8 k, .bool p] w fun x w' => x = .returned (av r.2) ∧ RDoes pb r.1 w w' := by
  subst hr
  have hs : l.s = 1 ∨ l.s = 2 ∨ l.s = 3 ∨ l.s = 4 ∨ l.s = 5 := by have := hl.s0; have := hl.s1; omega
  obtain ⟨s, li, n, t⟩ := l
  dsimp only at hs
  by_cases h1 : k = 1
  · subst h1
    rcases hs with rfl | rfl | rfl | rfl | rfl
    · cases li with
      | true => exact rc_1_sabm_true w pb p n t h
      | false => exact rc_1_sabm_false w pb p n t h
    · exact rc_2_sabm w pb li p n t h
    · exact rc_3_sabm w pb li p n t h
    · exact rc_4_sabm w pb li p n t h
    · cases li with
      | true => exact rc_5_sabm_true w pb p n t h
      | false => exact rc_5_sabm_false w pb p n t h
  by_cases h4 : k = 4
  · subst h4
    rcases hs with rfl | rfl | rfl | rfl | rfl
    · exact rc_1_disc w pb li p n t h
    · exact rc_2_disc w pb li p n t h
    · exact rc_3_disc w pb li p n t h
    · exact rc_4_disc w pb li p n t h
    · exact rc_5_disc w pb li p n t h
  cases p with
  | true =>
    have e : evOf k true true = .poll true := by unfold evOf; simp [h1, h4, kb, show (5 : Int) ≤ k by omega]
    rw [e]
    rcases hs with rfl | rfl | rfl | rfl | rfl
    · exact rc_1_o_true w pb li n t k h1 h4 h
    · exact rc_2_o w pb li true n t k h1 h4 h
    · exact rc_3_o w pb li true n t k h1 h4 h
    · exact rc_4_o w pb li true n t k h1 h4 h
    · exact rc_5_o_true w pb li n t k h1 h4 h
  | false =>
    have e : evOf k false true = .noise := by unfold evOf; simp [h1, h4]
    rw [e]
    rcases hs with rfl | rfl | rfl | rfl | rfl
    · exact rc_1_o_false w pb li n t k h1 h4 h
    · exact rc_2_o w pb li false n t k h1 h4 h
    · exact rc_3_o w pb li false n t k h1 h4 h
    · exact rc_4_o w pb li false n t k h1 h4 h
    · exact rc_5_o_false w pb li n t k h1 h4 h
end Go.Proofs.Ytfflbaiddiahnaa.Lk

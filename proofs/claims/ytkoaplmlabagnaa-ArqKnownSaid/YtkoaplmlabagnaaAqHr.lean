/-
  The document's own side: what Hear does not hear, and at what it fails. Condition: it lies where it says; its numbers are small.
-/
import Derived.Test.YtkoaplmlabagnaaAqRef5
import Derived.Test.YtkoaplmlabagnaaAqInv
namespace Go.Proofs.Ytkoaplmlabagnaa.Aq
open Go.RowKit Go.Proofs.Ytkoaplmlabagnaa.Base Go.Proofs.Ytkoaplmlabagnaa.Mem
theorem Pre.fit {N : Nat} {x : Sd} (h : Pre N x) (hN : N ≤ 1000000) : Fit x :=
  ⟨h.k, h.n2, h.t1, h.t1p, h.hs, h.sT, h.tp, h.pk, Nat.le_trans h.few hN, Nat.le_trans h.g hN, by have := h.tr; have := h.n2; omega, by have := h.lft; have := h.t1; omega⟩
theorem RIm.first2 {pb : Nat} {x : Sd} {v : Value} {w : World} (h0 : RAt w pb x v) (o1 o2 : Obj) : RIm [(w.heap.size + 1, o2), (w.heap.size, o1)] pb x v w ((w.alloc o1).alloc o2) := by
  have := ((RIm.start h0 (RDo.refl h0)).alloc o1).alloc o2
  rwa [size_alloc] at this
theorem RIm.make {m : List (Nat × Obj)} {pb n : Nat} {x : Sd} {v : Value} {w w1 : World} (h : RIm m pb x v w w1) (hn : w1.heap.size = n) (o : Obj) : RIm ((n, o) :: m) pb x v w (w1.alloc o) := hn ▸ h.alloc o
theorem RDo.two {pb : Nat} {y : Sd} {v : Value} {w w1 : World} (h : RDo pb y v w w1) (o1 o2 : Obj) : RDo pb y v w ((w1.alloc o1).alloc o2) := (h.on ((Below.refl _ _).alloc (Nat.le_refl _) o1)).on ((Below.refl _ _).alloc (Nat.le_refl _) o2)
theorem three_ne {a b c e : Nat} {o p q : Obj} (h : a ≠ c) (h' : b ≠ c) (h2 : e ≠ c) : ∀ x ∈ [(a, o), (b, p), (e, q)], x.1 ≠ c := fun x hx => by
  rcases List.mem_cons.1 hx with rfl | hx
  · exact h
  · exact two_ne' h' h2 x hx
theorem take_acked (f : Fm) (x : Sd) (m : Am) : (take f x m).2.acked = m.acked := by
  unfold take
  repeat' split
  all_goals rfl
set_option maxHeartbeats 2000000 in
theorem rhear_fl (w : World) (pb d : Nat) (x : Sd) (v : Value) (c : Bool) (k : Nat) (pf : Bool) (ns nr : Nat) (i : ByteArray) (h : RAt w pb x v) (hl : x.fl = true) :
    Calls Try.prog 28 #[ptr pb, fmvd d ⟨c, k, pf, ns, nr, i⟩] w fun e w' => e = .returned (amv noAm) ∧ RDo pb x v w w' := by
  have H := Lib.hid h
  have H1 : Hid (RIm [(w.heap.size + 1, noM TR), (w.heap.size, fmOd d ⟨c, k, pf, ns, nr, i⟩)] pb x v w ((w.alloc (fmOd d ⟨c, k, pf, ns, nr, i⟩)).alloc (noM TR))) := Lib.hid (RIm.first2 h _ _)
  have hlt := h.lt
  have c16 := h.cell 16 (.bool x.fl) rfl
  rw [hl] at c16
  clear h H1
  go_enter Try.func28, Try.ntmps28
  go_wp2
  exact bodyPost_ret (v := amv noAm) (by simp [results, Try.results28, go_sem, noAm, bE]) rfl ⟨rfl, RDo.two (RDo.refl H.out) _ _⟩
set_option maxHeartbeats 2000000 in
theorem rhear_no (w : World) (pb d : Nat) (x : Sd) (v : Value) (c : Bool) (k : Nat) (pf : Bool) (ns nr : Nat) (i : ByteArray) (h : RAt w pb x v) (hl : x.fl = false) (hk : k ≠ 7 ∧ k ≠ 8 ∧ k ≠ 9 ∧ k ≠ 10) :
    Calls Try.prog 28 #[ptr pb, fmvd d ⟨c, k, pf, ns, nr, i⟩] w fun e w' => e = .returned (amv noAm) ∧ RDo pb x v w w' := by
  have H := Lib.hid h
  have H1 : Hid (RIm [(w.heap.size + 1, noM TR), (w.heap.size, fmOd d ⟨c, k, pf, ns, nr, i⟩)] pb x v w ((w.alloc (fmOd d ⟨c, k, pf, ns, nr, i⟩)).alloc (noM TR))) := Lib.hid (RIm.first2 h _ _)
  have hlt := h.lt
  have c16 := h.cell 16 (.bool x.fl) rfl
  rw [hl] at c16
  have g7 : ((k : Int) != 7) = true := bne_true (by omega)
  have e7 : ((k : Int) == 7) = false := beq_false (by omega)
  have f7 : ¬ (k : Int) = 7 := by omega
  have g8 : ((k : Int) != 8) = true := bne_true (by omega)
  have e8 : ((k : Int) == 8) = false := beq_false (by omega)
  have f8 : ¬ (k : Int) = 8 := by omega
  have g9 : ((k : Int) != 9) = true := bne_true (by omega)
  have e9 : ((k : Int) == 9) = false := beq_false (by omega)
  have f9 : ¬ (k : Int) = 9 := by omega
  have g10 : ((k : Int) != 10) = true := bne_true (by omega)
  have e10 : ((k : Int) == 10) = false := beq_false (by omega)
  have f10 : ¬ (k : Int) = 10 := by omega
  clear h H1
  go_enter Try.func28, Try.ntmps28
  go_wp2
  exact bodyPost_ret (v := amv noAm) (by simp [results, Try.results28, go_sem, noAm, bE]) rfl ⟨rfl, RDo.two (RDo.refl H.out) _ _⟩
set_option maxHeartbeats 2000000 in
theorem rhear_fail7 (w : World) (pb d : Nat) (x : Sd) (v : Value) (c pf : Bool) (ns nr : Nat) (i : ByteArray) (h : RAt w pb x v) (hf : Fit x) (hl : x.fl = false) (hnr : nr < 256) (ha : ackd x nr = none) :
    Calls Try.prog 28 #[ptr pb, fmvd d ⟨c, 7, pf, ns, nr, i⟩] w fun e w' => e = .returned (amv ⟨bE, false, 0, true⟩) ∧ RDo pb { x with fl := true, lf := 0 } v w w' := by
  have H1 : Hid (RIm [(w.heap.size + 1, noM TR), (w.heap.size, fmOd d ⟨c, 7, pf, ns, nr, i⟩)] pb x v w ((w.alloc (.cells #[.int .u8 (d : Int), .bool c, .int .u8 7, .bool pf, .int .u8 (ns : Int), .int .u8 (nr : Int), .string i] TF (0, 0))).alloc (noM TR))) := Lib.hid (RIm.first2 h _ _)
  have CK := Lib.hid (rack _ pb x v nr hnr H1.out.does.at_ hf)
  rw [ha] at CK
  have hlt := h.lt
  have c16 := h.cell 16 (.bool x.fl) rfl
  rw [hl] at c16
  clear h hf ha hl
  go_enter Try.func28, Try.ntmps28
  go_wp2_with fail
  generalize (w.alloc (.cells #[.int .u8 (d : Int), .bool c, .int .u8 7, .bool pf, .int .u8 (ns : Int), .int .u8 (nr : Int), .string i] TF (0, 0))).alloc (noM TR) = w1 at H1 CK ⊢
  clear c16
  refine CK.out.mono ?_
  rintro _ w2 ⟨rfl, rfl⟩
  have hfr := H1.out.does.at_.free
  have d16 := H1.out.does.at_.cell 16 (.bool x.fl) rfl
  have d19 := H1.out.does.at_.cell 19 (.int .i64 (x.lf : Int)) rfl
  obtain ⟨⟨k0, k1, k2, k3⟩, kf⟩ := cells4 H1.out.at0
  have HZ := Lib.hid (((H1.out.set 16 (.bool true) { x with fl := true } rfl rfl).set 19 (.int .i64 0) { x with fl := true, lf := 0 } rfl rfl).put4 (one_ne (by omega)) (.string bE) (.bool false) (nm 0) (.bool true))
  clear CK
  go_wp2
  exact bodyPost_ret (res_amR rfl rfl _ _ _ ⟨bE, false, 0, true⟩ HZ.out.at0 rfl) rfl ⟨rfl, HZ.out.does⟩
set_option maxHeartbeats 2000000 in
theorem rhear_fail8 (w : World) (pb d : Nat) (x : Sd) (v : Value) (c pf : Bool) (ns nr : Nat) (i : ByteArray) (h : RAt w pb x v) (hf : Fit x) (hl : x.fl = false) (hnr : nr < 256) (ha : ackd x nr = none) :
    Calls Try.prog 28 #[ptr pb, fmvd d ⟨c, 8, pf, ns, nr, i⟩] w fun e w' => e = .returned (amv ⟨bE, false, 0, true⟩) ∧ RDo pb { x with fl := true, lf := 0 } v w w' := by
  have H1 : Hid (RIm [(w.heap.size + 1, noM TR), (w.heap.size, fmOd d ⟨c, 8, pf, ns, nr, i⟩)] pb x v w ((w.alloc (.cells #[.int .u8 (d : Int), .bool c, .int .u8 8, .bool pf, .int .u8 (ns : Int), .int .u8 (nr : Int), .string i] TF (0, 0))).alloc (noM TR))) := Lib.hid (RIm.first2 h _ _)
  have CK := Lib.hid (rack _ pb x v nr hnr H1.out.does.at_ hf)
  rw [ha] at CK
  have hlt := h.lt
  have c16 := h.cell 16 (.bool x.fl) rfl
  rw [hl] at c16
  clear h hf ha hl
  go_enter Try.func28, Try.ntmps28
  go_wp2_with fail
  generalize (w.alloc (.cells #[.int .u8 (d : Int), .bool c, .int .u8 8, .bool pf, .int .u8 (ns : Int), .int .u8 (nr : Int), .string i] TF (0, 0))).alloc (noM TR) = w1 at H1 CK ⊢
  clear c16
  refine CK.out.mono ?_
  rintro _ w2 ⟨rfl, rfl⟩
  have hfr := H1.out.does.at_.free
  have d16 := H1.out.does.at_.cell 16 (.bool x.fl) rfl
  have d19 := H1.out.does.at_.cell 19 (.int .i64 (x.lf : Int)) rfl
  obtain ⟨⟨k0, k1, k2, k3⟩, kf⟩ := cells4 H1.out.at0
  have HZ := Lib.hid (((H1.out.set 16 (.bool true) { x with fl := true } rfl rfl).set 19 (.int .i64 0) { x with fl := true, lf := 0 } rfl rfl).put4 (one_ne (by omega)) (.string bE) (.bool false) (nm 0) (.bool true))
  clear CK
  go_wp2
  exact bodyPost_ret (res_amR rfl rfl _ _ _ ⟨bE, false, 0, true⟩ HZ.out.at0 rfl) rfl ⟨rfl, HZ.out.does⟩
set_option maxHeartbeats 2000000 in
theorem rhear_fail9 (w : World) (pb d : Nat) (x : Sd) (v : Value) (c pf : Bool) (ns nr : Nat) (i : ByteArray) (h : RAt w pb x v) (hf : Fit x) (hl : x.fl = false) (hnr : nr < 256) (ha : ackd x nr = none) :
    Calls Try.prog 28 #[ptr pb, fmvd d ⟨c, 9, pf, ns, nr, i⟩] w fun e w' => e = .returned (amv ⟨bE, false, 0, true⟩) ∧ RDo pb { x with fl := true, lf := 0 } v w w' := by
  have H1 : Hid (RIm [(w.heap.size + 1, noM TR), (w.heap.size, fmOd d ⟨c, 9, pf, ns, nr, i⟩)] pb x v w ((w.alloc (.cells #[.int .u8 (d : Int), .bool c, .int .u8 9, .bool pf, .int .u8 (ns : Int), .int .u8 (nr : Int), .string i] TF (0, 0))).alloc (noM TR))) := Lib.hid (RIm.first2 h _ _)
  have CK := Lib.hid (rack _ pb x v nr hnr H1.out.does.at_ hf)
  rw [ha] at CK
  have hlt := h.lt
  have c16 := h.cell 16 (.bool x.fl) rfl
  rw [hl] at c16
  clear h hf ha hl
  go_enter Try.func28, Try.ntmps28
  go_wp2_with fail
  generalize (w.alloc (.cells #[.int .u8 (d : Int), .bool c, .int .u8 9, .bool pf, .int .u8 (ns : Int), .int .u8 (nr : Int), .string i] TF (0, 0))).alloc (noM TR) = w1 at H1 CK ⊢
  clear c16
  refine CK.out.mono ?_
  rintro _ w2 ⟨rfl, rfl⟩
  have hfr := H1.out.does.at_.free
  have d16 := H1.out.does.at_.cell 16 (.bool x.fl) rfl
  have d19 := H1.out.does.at_.cell 19 (.int .i64 (x.lf : Int)) rfl
  obtain ⟨⟨k0, k1, k2, k3⟩, kf⟩ := cells4 H1.out.at0
  have HZ := Lib.hid (((H1.out.set 16 (.bool true) { x with fl := true } rfl rfl).set 19 (.int .i64 0) { x with fl := true, lf := 0 } rfl rfl).put4 (one_ne (by omega)) (.string bE) (.bool false) (nm 0) (.bool true))
  clear CK
  go_wp2
  exact bodyPost_ret (res_amR rfl rfl _ _ _ ⟨bE, false, 0, true⟩ HZ.out.at0 rfl) rfl ⟨rfl, HZ.out.does⟩
set_option maxHeartbeats 2000000 in
theorem rhear_fail10 (w : World) (pb d : Nat) (x : Sd) (v : Value) (c pf : Bool) (ns nr : Nat) (i : ByteArray) (h : RAt w pb x v) (hf : Fit x) (hl : x.fl = false) (hnr : nr < 256) (ha : ackd x nr = none) :
    Calls Try.prog 28 #[ptr pb, fmvd d ⟨c, 10, pf, ns, nr, i⟩] w fun e w' => e = .returned (amv ⟨bE, false, 0, true⟩) ∧ RDo pb { x with fl := true, lf := 0 } v w w' := by
  have H1 : Hid (RIm [(w.heap.size + 1, noM TR), (w.heap.size, fmOd d ⟨c, 10, pf, ns, nr, i⟩)] pb x v w ((w.alloc (.cells #[.int .u8 (d : Int), .bool c, .int .u8 10, .bool pf, .int .u8 (ns : Int), .int .u8 (nr : Int), .string i] TF (0, 0))).alloc (noM TR))) := Lib.hid (RIm.first2 h _ _)
  have CK := Lib.hid (rack _ pb x v nr hnr H1.out.does.at_ hf)
  rw [ha] at CK
  have hlt := h.lt
  have c16 := h.cell 16 (.bool x.fl) rfl
  rw [hl] at c16
  clear h hf ha hl
  go_enter Try.func28, Try.ntmps28
  go_wp2_with fail
  generalize (w.alloc (.cells #[.int .u8 (d : Int), .bool c, .int .u8 10, .bool pf, .int .u8 (ns : Int), .int .u8 (nr : Int), .string i] TF (0, 0))).alloc (noM TR) = w1 at H1 CK ⊢
  clear c16
  refine CK.out.mono ?_
  rintro _ w2 ⟨rfl, rfl⟩
  have hfr := H1.out.does.at_.free
  have d16 := H1.out.does.at_.cell 16 (.bool x.fl) rfl
  have d19 := H1.out.does.at_.cell 19 (.int .i64 (x.lf : Int)) rfl
  obtain ⟨⟨k0, k1, k2, k3⟩, kf⟩ := cells4 H1.out.at0
  have HZ := Lib.hid (((H1.out.set 16 (.bool true) { x with fl := true } rfl rfl).set 19 (.int .i64 0) { x with fl := true, lf := 0 } rfl rfl).put4 (one_ne (by omega)) (.string bE) (.bool false) (nm 0) (.bool true))
  clear CK
  go_wp2
  exact bodyPost_ret (res_amR rfl rfl _ _ _ ⟨bE, false, 0, true⟩ HZ.out.at0 rfl) rfl ⟨rfl, HZ.out.does⟩
end Go.Proofs.Ytkoaplmlabagnaa.Aq

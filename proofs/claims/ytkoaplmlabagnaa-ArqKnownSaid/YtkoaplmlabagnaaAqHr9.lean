/-
  The document's own side: Hear of a frame of kind 9. Condition: it lies where it says; its numbers are small.
-/
import Derived.Test.YtkoaplmlabagnaaAqHr
import Derived.Lib.MinMax
import Derived.Deep.DeepCutAuto
namespace Go.Proofs.Ytkoaplmlabagnaa.Aq
open Go.RowKit Go.Proofs.Ytkoaplmlabagnaa.Base Go.Proofs.Ytkoaplmlabagnaa.Mem
set_option maxHeartbeats 4000000 in
theorem rhear9_yFFV (w : World) (pb d : Nat) (x : Sd) (v : Value) (c : Bool) (ns nr n : Nat) (i : ByteArray) (h : RAt w pb x v) (hf : Fit x) (hl : x.fl = false) (hak : x.ak = false) (hna : x.a < n) (_hle : x.a ≤ n) (hnb : n ≤ 1000000) (_hns : ns < 256) (hnr : nr < 256) (ha : ackd x nr = some n) (hfin : Fit (hear5 ⟨c, 9, false, ns, nr, i⟩ (hear4 ⟨c, 9, false, ns, nr, i⟩ (hear3 ⟨c, 9, false, ns, nr, i⟩ (hear2 ⟨c, 9, false, ns, nr, i⟩ (hear1 n x)))))) :
    Calls Try.prog 28 #[ptr pb, fmvd d ⟨c, 9, false, ns, nr, i⟩] w fun e w' => e = .returned (amv ⟨bE, false, n - x.a, false⟩) ∧ RDo pb (cnt (decide (0 < n - x.a)) (hear5 ⟨c, 9, false, ns, nr, i⟩ (hear4 ⟨c, 9, false, ns, nr, i⟩ (hear3 ⟨c, 9, false, ns, nr, i⟩ (hear2 ⟨c, 9, false, ns, nr, i⟩ (hear1 n x)))))) v w w' := by
  have hsb : x.s ≤ 1000000 := by have := hf.sT; have := hf.tp; have := hf.few; omega
  obtain ⟨s1, hs1⟩ : ∃ s1, max x.s n = s1 := ⟨_, rfl⟩
  have HY : hear4 ⟨c, 9, false, ns, nr, i⟩ (hear3 ⟨c, 9, false, ns, nr, i⟩ (hear2 ⟨c, 9, false, ns, nr, i⟩ (hear1 n x))) = { x with a := n, tr := 0, s := n, pb := true } := by
    unfold hear4 hear3 hear2 hear1
    simp [hak, hna]
  rw [HY] at hfin ⊢
  obtain ⟨dn, hdn⟩ : ∃ dn, n - x.a = dn := ⟨_, rfl⟩
  rw [hdn]
  have q1 : IntKind.i64.wrap ((n : Int) - (x.a : Int)) = (dn : Int) := by rw [IntKind.wrap_i64]; omega
  have q2 : max (x.s : Int) (n : Int) = (s1 : Int) := by omega
  have g1 : decide ((0 : Int) < (dn : Int)) = true := decide_eq_true (by omega)
  have g1b : decide (0 < dn) = true := decide_eq_true (by omega)
  rw [g1b]
  have H1 : Hid (RIm [(w.heap.size + 1, noM TR), (w.heap.size, fmOd d ⟨c, 9, false, ns, nr, i⟩)] pb x v w ((w.alloc (.cells #[.int .u8 (d : Int), .bool c, .int .u8 9, .bool false, .int .u8 (ns : Int), .int .u8 (nr : Int), .string i] TF (0, 0))).alloc (noM TR))) := Lib.hid (RIm.first2 h _ _)
  have CK := Lib.hid (rack _ pb x v nr hnr H1.out.does.at_ hf)
  rw [ha] at CK
  have hlt := h.lt
  have c16 := h.cell 16 (.bool x.fl) rfl
  rw [hl] at c16
  have HF := Lib.hid hfin
  clear h hf ha hl hs1 hdn hnb HY hfin hna
  go_enter Try.func28, Try.ntmps28
  go_wp2_with fail
  generalize (w.alloc (.cells #[.int .u8 (d : Int), .bool c, .int .u8 9, .bool false, .int .u8 (ns : Int), .int .u8 (nr : Int), .string i] TF (0, 0))).alloc (noM TR) = w1 at H1 CK ⊢
  clear c16
  refine CK.out.mono ?_
  rintro _ w2 ⟨rfl, rfl⟩
  have hfr := H1.out.does.at_.free
  have d4 := H1.out.does.at_.cell 4 (.int .i64 (x.a : Int)) rfl
  have d5 := H1.out.does.at_.cell 5 (.int .i64 (x.s : Int)) rfl
  have d8 := H1.out.does.at_.cell 8 (.bool x.due) rfl
  have d9 := H1.out.does.at_.cell 9 (.bool x.fin) rfl
  have d11 := H1.out.does.at_.cell 11 (.bool x.poll) rfl
  have d12 := H1.out.does.at_.cell 12 (.bool x.pb) rfl
  have d15 := H1.out.does.at_.cell 15 (.bool x.ak) rfl
  have d18 := H1.out.does.at_.cell 18 (.int .i64 (x.tr : Int)) rfl
  rw [hak] at d15
  clear hak
  obtain ⟨⟨l0, l1, l2, l3, l4, l5, l6⟩, lf⟩ := cells7 (show w1.heap[w.heap.size]? = some (.cells #[.int .u8 (d : Int), .bool c, .int .u8 9, .bool false, .int .u8 (ns : Int), .int .u8 (nr : Int), .string i] TF (0, 0)) from H1.out.tail.at0)
  have hl2 := lt_heap H1.out.tail.at0
  have hl3 := lt_heap H1.out.at0
  have hl4 := H1.out.does.at_.lt
  have HC := Lib.hid (((((((H1.out).set 4 (.int .i64 (n : Int)) { x with a := n } rfl rfl).set 5 (.int .i64 (s1 : Int)) { x with a := n, s := s1 } rfl rfl).set 18 (.int .i64 0) { x with a := n, s := s1, tr := 0 } rfl rfl).set 5 (.int .i64 (n : Int)) { x with a := n, tr := 0, s := n } rfl rfl).set 12 (.bool true) { x with a := n, tr := 0, s := n, pb := true } rfl rfl).make (n := w1.heap.size) (by simp) (.cells #[.string ⟨#[]⟩, .bool false, .int .i64 (dn : Int), .bool false] TR (0, 0)))
  clear CK
  have CC := Lib.hid (rcount _ pb _ v true HC.out.does.at_ HF.out)
  go_wp2_with fail
  refine CC.out.mono ?_
  rintro _ w6 ⟨rfl, hd⟩
  have H6 := Lib.hid (HC.out.next hd)
  clear hd HC CC
  clear d4 d5 d8 d9 d11 d12 d15 d18 hfr l0 l1 l2 l3 l4 l5 l6 lf H1
  generalize w1.heap.size = lb at H6 hl2 hl3 hl4 ⊢
  obtain ⟨⟨a0, a1, a2, a3⟩, af⟩ := cells4 H6.out.at0
  obtain ⟨⟨k0, k1, k2, k3⟩, kf⟩ := cells4 H6.out.tail.at0
  have HZ := Lib.hid (H6.out.swap.put4 (two_ne' (by omega) (by omega)) (.string ⟨#[]⟩) (.bool false) (.int .i64 (dn : Int)) (.bool false))
  go_wp2
  exact bodyPost_ret (res_amR rfl rfl _ _ _ ⟨⟨#[]⟩, false, dn, false⟩ HZ.out.at0 rfl) rfl ⟨rfl, HZ.out.does⟩
set_option maxHeartbeats 4000000 in
theorem rhear9_yTFV (w : World) (pb d : Nat) (x : Sd) (v : Value) (c : Bool) (ns nr n : Nat) (i : ByteArray) (h : RAt w pb x v) (hf : Fit x) (hl : x.fl = false) (hak : x.ak = true) (hna : x.a < n) (_hle : x.a ≤ n) (hnb : n ≤ 1000000) (_hns : ns < 256) (hnr : nr < 256) (ha : ackd x nr = some n) (hfin : Fit (hear5 ⟨c, 9, false, ns, nr, i⟩ (hear4 ⟨c, 9, false, ns, nr, i⟩ (hear3 ⟨c, 9, false, ns, nr, i⟩ (hear2 ⟨c, 9, false, ns, nr, i⟩ (hear1 n x)))))) :
    Calls Try.prog 28 #[ptr pb, fmvd d ⟨c, 9, false, ns, nr, i⟩] w fun e w' => e = .returned (amv ⟨bE, false, n - x.a, false⟩) ∧ RDo pb (cnt (decide (0 < n - x.a)) (hear5 ⟨c, 9, false, ns, nr, i⟩ (hear4 ⟨c, 9, false, ns, nr, i⟩ (hear3 ⟨c, 9, false, ns, nr, i⟩ (hear2 ⟨c, 9, false, ns, nr, i⟩ (hear1 n x)))))) v w w' := by
  have hsb : x.s ≤ 1000000 := by have := hf.sT; have := hf.tp; have := hf.few; omega
  obtain ⟨s1, hs1⟩ : ∃ s1, max x.s n = s1 := ⟨_, rfl⟩
  have HY : hear4 ⟨c, 9, false, ns, nr, i⟩ (hear3 ⟨c, 9, false, ns, nr, i⟩ (hear2 ⟨c, 9, false, ns, nr, i⟩ (hear1 n x))) = { x with a := n, tr := 0, s := n, pb := true } := by
    unfold hear4 hear3 hear2 hear1
    simp [hak, hna]
  rw [HY] at hfin ⊢
  obtain ⟨dn, hdn⟩ : ∃ dn, n - x.a = dn := ⟨_, rfl⟩
  rw [hdn]
  have q1 : IntKind.i64.wrap ((n : Int) - (x.a : Int)) = (dn : Int) := by rw [IntKind.wrap_i64]; omega
  have q2 : max (x.s : Int) (n : Int) = (s1 : Int) := by omega
  have g1 : decide ((0 : Int) < (dn : Int)) = true := decide_eq_true (by omega)
  have g1b : decide (0 < dn) = true := decide_eq_true (by omega)
  rw [g1b]
  have H1 : Hid (RIm [(w.heap.size + 1, noM TR), (w.heap.size, fmOd d ⟨c, 9, false, ns, nr, i⟩)] pb x v w ((w.alloc (.cells #[.int .u8 (d : Int), .bool c, .int .u8 9, .bool false, .int .u8 (ns : Int), .int .u8 (nr : Int), .string i] TF (0, 0))).alloc (noM TR))) := Lib.hid (RIm.first2 h _ _)
  have CK := Lib.hid (rack _ pb x v nr hnr H1.out.does.at_ hf)
  rw [ha] at CK
  have hlt := h.lt
  have c16 := h.cell 16 (.bool x.fl) rfl
  rw [hl] at c16
  have HF := Lib.hid hfin
  clear h hf ha hl hs1 hdn hnb HY hfin hna
  go_enter Try.func28, Try.ntmps28
  go_wp2_with fail
  generalize (w.alloc (.cells #[.int .u8 (d : Int), .bool c, .int .u8 9, .bool false, .int .u8 (ns : Int), .int .u8 (nr : Int), .string i] TF (0, 0))).alloc (noM TR) = w1 at H1 CK ⊢
  clear c16
  refine CK.out.mono ?_
  rintro _ w2 ⟨rfl, rfl⟩
  have hfr := H1.out.does.at_.free
  have d4 := H1.out.does.at_.cell 4 (.int .i64 (x.a : Int)) rfl
  have d5 := H1.out.does.at_.cell 5 (.int .i64 (x.s : Int)) rfl
  have d8 := H1.out.does.at_.cell 8 (.bool x.due) rfl
  have d9 := H1.out.does.at_.cell 9 (.bool x.fin) rfl
  have d11 := H1.out.does.at_.cell 11 (.bool x.poll) rfl
  have d12 := H1.out.does.at_.cell 12 (.bool x.pb) rfl
  have d15 := H1.out.does.at_.cell 15 (.bool x.ak) rfl
  have d18 := H1.out.does.at_.cell 18 (.int .i64 (x.tr : Int)) rfl
  rw [hak] at d15
  clear hak
  obtain ⟨⟨l0, l1, l2, l3, l4, l5, l6⟩, lf⟩ := cells7 (show w1.heap[w.heap.size]? = some (.cells #[.int .u8 (d : Int), .bool c, .int .u8 9, .bool false, .int .u8 (ns : Int), .int .u8 (nr : Int), .string i] TF (0, 0)) from H1.out.tail.at0)
  have hl2 := lt_heap H1.out.tail.at0
  have hl3 := lt_heap H1.out.at0
  have hl4 := H1.out.does.at_.lt
  have HC := Lib.hid (((((((H1.out).set 4 (.int .i64 (n : Int)) { x with a := n } rfl rfl).set 5 (.int .i64 (s1 : Int)) { x with a := n, s := s1 } rfl rfl).set 18 (.int .i64 0) { x with a := n, s := s1, tr := 0 } rfl rfl).set 5 (.int .i64 (n : Int)) { x with a := n, tr := 0, s := n } rfl rfl).set 12 (.bool true) { x with a := n, tr := 0, s := n, pb := true } rfl rfl).make (n := w1.heap.size) (by simp) (.cells #[.string ⟨#[]⟩, .bool false, .int .i64 (dn : Int), .bool false] TR (0, 0)))
  clear CK
  have CC := Lib.hid (rcount _ pb _ v true HC.out.does.at_ HF.out)
  go_wp2_with fail
  refine CC.out.mono ?_
  rintro _ w6 ⟨rfl, hd⟩
  have H6 := Lib.hid (HC.out.next hd)
  clear hd HC CC
  clear d4 d5 d8 d9 d11 d12 d15 d18 hfr l0 l1 l2 l3 l4 l5 l6 lf H1
  generalize w1.heap.size = lb at H6 hl2 hl3 hl4 ⊢
  obtain ⟨⟨a0, a1, a2, a3⟩, af⟩ := cells4 H6.out.at0
  obtain ⟨⟨k0, k1, k2, k3⟩, kf⟩ := cells4 H6.out.tail.at0
  have HZ := Lib.hid (H6.out.swap.put4 (two_ne' (by omega) (by omega)) (.string ⟨#[]⟩) (.bool false) (.int .i64 (dn : Int)) (.bool false))
  go_wp2
  exact bodyPost_ret (res_amR rfl rfl _ _ _ ⟨⟨#[]⟩, false, dn, false⟩ HZ.out.at0 rfl) rfl ⟨rfl, HZ.out.does⟩
set_option maxHeartbeats 4000000 in
theorem rhear9_yFTT (w : World) (pb d : Nat) (x : Sd) (v : Value) (ns nr n : Nat) (i : ByteArray) (h : RAt w pb x v) (hf : Fit x) (hl : x.fl = false) (hak : x.ak = false) (hna : x.a < n) (_hle : x.a ≤ n) (hnb : n ≤ 1000000) (_hns : ns < 256) (hnr : nr < 256) (ha : ackd x nr = some n) (hfin : Fit (hear5 ⟨true, 9, true, ns, nr, i⟩ (hear4 ⟨true, 9, true, ns, nr, i⟩ (hear3 ⟨true, 9, true, ns, nr, i⟩ (hear2 ⟨true, 9, true, ns, nr, i⟩ (hear1 n x)))))) :
    Calls Try.prog 28 #[ptr pb, fmvd d ⟨true, 9, true, ns, nr, i⟩] w fun e w' => e = .returned (amv ⟨bE, false, n - x.a, false⟩) ∧ RDo pb (cnt (decide (0 < n - x.a)) (hear5 ⟨true, 9, true, ns, nr, i⟩ (hear4 ⟨true, 9, true, ns, nr, i⟩ (hear3 ⟨true, 9, true, ns, nr, i⟩ (hear2 ⟨true, 9, true, ns, nr, i⟩ (hear1 n x)))))) v w w' := by
  have hsb : x.s ≤ 1000000 := by have := hf.sT; have := hf.tp; have := hf.few; omega
  obtain ⟨s1, hs1⟩ : ∃ s1, max x.s n = s1 := ⟨_, rfl⟩
  have HY : hear4 ⟨true, 9, true, ns, nr, i⟩ (hear3 ⟨true, 9, true, ns, nr, i⟩ (hear2 ⟨true, 9, true, ns, nr, i⟩ (hear1 n x))) = { x with a := n, tr := 0, s := n, pb := true } := by
    unfold hear4 hear3 hear2 hear1
    simp [hak, hna]
  rw [HY] at hfin ⊢
  obtain ⟨dn, hdn⟩ : ∃ dn, n - x.a = dn := ⟨_, rfl⟩
  rw [hdn]
  have q1 : IntKind.i64.wrap ((n : Int) - (x.a : Int)) = (dn : Int) := by rw [IntKind.wrap_i64]; omega
  have q2 : max (x.s : Int) (n : Int) = (s1 : Int) := by omega
  have g1 : decide ((0 : Int) < (dn : Int)) = true := decide_eq_true (by omega)
  have g1b : decide (0 < dn) = true := decide_eq_true (by omega)
  rw [g1b]
  have H1 : Hid (RIm [(w.heap.size + 1, noM TR), (w.heap.size, fmOd d ⟨true, 9, true, ns, nr, i⟩)] pb x v w ((w.alloc (.cells #[.int .u8 (d : Int), .bool true, .int .u8 9, .bool true, .int .u8 (ns : Int), .int .u8 (nr : Int), .string i] TF (0, 0))).alloc (noM TR))) := Lib.hid (RIm.first2 h _ _)
  have CK := Lib.hid (rack _ pb x v nr hnr H1.out.does.at_ hf)
  rw [ha] at CK
  have hlt := h.lt
  have c16 := h.cell 16 (.bool x.fl) rfl
  rw [hl] at c16
  have HF := Lib.hid hfin
  clear h hf ha hl hs1 hdn hnb HY hfin hna
  go_enter Try.func28, Try.ntmps28
  go_wp2_with fail
  generalize (w.alloc (.cells #[.int .u8 (d : Int), .bool true, .int .u8 9, .bool true, .int .u8 (ns : Int), .int .u8 (nr : Int), .string i] TF (0, 0))).alloc (noM TR) = w1 at H1 CK ⊢
  clear c16
  refine CK.out.mono ?_
  rintro _ w2 ⟨rfl, rfl⟩
  have hfr := H1.out.does.at_.free
  have d4 := H1.out.does.at_.cell 4 (.int .i64 (x.a : Int)) rfl
  have d5 := H1.out.does.at_.cell 5 (.int .i64 (x.s : Int)) rfl
  have d8 := H1.out.does.at_.cell 8 (.bool x.due) rfl
  have d9 := H1.out.does.at_.cell 9 (.bool x.fin) rfl
  have d11 := H1.out.does.at_.cell 11 (.bool x.poll) rfl
  have d12 := H1.out.does.at_.cell 12 (.bool x.pb) rfl
  have d15 := H1.out.does.at_.cell 15 (.bool x.ak) rfl
  have d18 := H1.out.does.at_.cell 18 (.int .i64 (x.tr : Int)) rfl
  rw [hak] at d15
  clear hak
  obtain ⟨⟨l0, l1, l2, l3, l4, l5, l6⟩, lf⟩ := cells7 (show w1.heap[w.heap.size]? = some (.cells #[.int .u8 (d : Int), .bool true, .int .u8 9, .bool true, .int .u8 (ns : Int), .int .u8 (nr : Int), .string i] TF (0, 0)) from H1.out.tail.at0)
  have hl2 := lt_heap H1.out.tail.at0
  have hl3 := lt_heap H1.out.at0
  have hl4 := H1.out.does.at_.lt
  have HC := Lib.hid (((((((((H1.out).set 4 (.int .i64 (n : Int)) { x with a := n } rfl rfl).set 5 (.int .i64 (s1 : Int)) { x with a := n, s := s1 } rfl rfl).set 18 (.int .i64 0) { x with a := n, s := s1, tr := 0 } rfl rfl).set 5 (.int .i64 (n : Int)) { x with a := n, tr := 0, s := n } rfl rfl).set 12 (.bool true) { x with a := n, tr := 0, s := n, pb := true } rfl rfl).set 8 (.bool true) { x with a := n, tr := 0, s := n, pb := true, due := true } rfl rfl).set 9 (.bool true) { x with a := n, tr := 0, s := n, pb := true, due := true, fin := true } rfl rfl).make (n := w1.heap.size) (by simp) (.cells #[.string ⟨#[]⟩, .bool false, .int .i64 (dn : Int), .bool false] TR (0, 0)))
  clear CK
  have CC := Lib.hid (rcount _ pb _ v true HC.out.does.at_ HF.out)
  go_wp2_with fail
  refine CC.out.mono ?_
  rintro _ w6 ⟨rfl, hd⟩
  have H6 := Lib.hid (HC.out.next hd)
  clear hd HC CC
  clear d4 d5 d8 d9 d11 d12 d15 d18 hfr l0 l1 l2 l3 l4 l5 l6 lf H1
  generalize w1.heap.size = lb at H6 hl2 hl3 hl4 ⊢
  obtain ⟨⟨a0, a1, a2, a3⟩, af⟩ := cells4 H6.out.at0
  obtain ⟨⟨k0, k1, k2, k3⟩, kf⟩ := cells4 H6.out.tail.at0
  have HZ := Lib.hid (H6.out.swap.put4 (two_ne' (by omega) (by omega)) (.string ⟨#[]⟩) (.bool false) (.int .i64 (dn : Int)) (.bool false))
  go_wp2
  exact bodyPost_ret (res_amR rfl rfl _ _ _ ⟨⟨#[]⟩, false, dn, false⟩ HZ.out.at0 rfl) rfl ⟨rfl, HZ.out.does⟩
set_option maxHeartbeats 4000000 in
theorem rhear9_yFTF (w : World) (pb d : Nat) (x : Sd) (v : Value) (ns nr n : Nat) (i : ByteArray) (h : RAt w pb x v) (hf : Fit x) (hl : x.fl = false) (hak : x.ak = false) (hna : x.a < n) (_hle : x.a ≤ n) (hnb : n ≤ 1000000) (_hns : ns < 256) (hnr : nr < 256) (ha : ackd x nr = some n) (hfin : Fit (hear5 ⟨false, 9, true, ns, nr, i⟩ (hear4 ⟨false, 9, true, ns, nr, i⟩ (hear3 ⟨false, 9, true, ns, nr, i⟩ (hear2 ⟨false, 9, true, ns, nr, i⟩ (hear1 n x)))))) :
    Calls Try.prog 28 #[ptr pb, fmvd d ⟨false, 9, true, ns, nr, i⟩] w fun e w' => e = .returned (amv ⟨bE, false, n - x.a, false⟩) ∧ RDo pb (cnt (decide (0 < n - x.a)) (hear5 ⟨false, 9, true, ns, nr, i⟩ (hear4 ⟨false, 9, true, ns, nr, i⟩ (hear3 ⟨false, 9, true, ns, nr, i⟩ (hear2 ⟨false, 9, true, ns, nr, i⟩ (hear1 n x)))))) v w w' := by
  have hsb : x.s ≤ 1000000 := by have := hf.sT; have := hf.tp; have := hf.few; omega
  obtain ⟨s1, hs1⟩ : ∃ s1, max x.s n = s1 := ⟨_, rfl⟩
  have HY : hear4 ⟨false, 9, true, ns, nr, i⟩ (hear3 ⟨false, 9, true, ns, nr, i⟩ (hear2 ⟨false, 9, true, ns, nr, i⟩ (hear1 n x))) = { x with a := n, tr := 0, s := n, pb := true } := by
    unfold hear4 hear3 hear2 hear1
    simp [hak, hna]
  rw [HY] at hfin ⊢
  obtain ⟨dn, hdn⟩ : ∃ dn, n - x.a = dn := ⟨_, rfl⟩
  rw [hdn]
  have q1 : IntKind.i64.wrap ((n : Int) - (x.a : Int)) = (dn : Int) := by rw [IntKind.wrap_i64]; omega
  have q2 : max (x.s : Int) (n : Int) = (s1 : Int) := by omega
  have g1 : decide ((0 : Int) < (dn : Int)) = true := decide_eq_true (by omega)
  have g1b : decide (0 < dn) = true := decide_eq_true (by omega)
  rw [g1b]
  have H1 : Hid (RIm [(w.heap.size + 1, noM TR), (w.heap.size, fmOd d ⟨false, 9, true, ns, nr, i⟩)] pb x v w ((w.alloc (.cells #[.int .u8 (d : Int), .bool false, .int .u8 9, .bool true, .int .u8 (ns : Int), .int .u8 (nr : Int), .string i] TF (0, 0))).alloc (noM TR))) := Lib.hid (RIm.first2 h _ _)
  have CK := Lib.hid (rack _ pb x v nr hnr H1.out.does.at_ hf)
  rw [ha] at CK
  have hlt := h.lt
  have c16 := h.cell 16 (.bool x.fl) rfl
  rw [hl] at c16
  have HF := Lib.hid hfin
  clear h hf ha hl hs1 hdn hnb HY hfin hna
  go_enter Try.func28, Try.ntmps28
  go_wp2_with fail
  generalize (w.alloc (.cells #[.int .u8 (d : Int), .bool false, .int .u8 9, .bool true, .int .u8 (ns : Int), .int .u8 (nr : Int), .string i] TF (0, 0))).alloc (noM TR) = w1 at H1 CK ⊢
  clear c16
  refine CK.out.mono ?_
  rintro _ w2 ⟨rfl, rfl⟩
  have hfr := H1.out.does.at_.free
  have d4 := H1.out.does.at_.cell 4 (.int .i64 (x.a : Int)) rfl
  have d5 := H1.out.does.at_.cell 5 (.int .i64 (x.s : Int)) rfl
  have d8 := H1.out.does.at_.cell 8 (.bool x.due) rfl
  have d9 := H1.out.does.at_.cell 9 (.bool x.fin) rfl
  have d11 := H1.out.does.at_.cell 11 (.bool x.poll) rfl
  have d12 := H1.out.does.at_.cell 12 (.bool x.pb) rfl
  have d15 := H1.out.does.at_.cell 15 (.bool x.ak) rfl
  have d18 := H1.out.does.at_.cell 18 (.int .i64 (x.tr : Int)) rfl
  rw [hak] at d15
  clear hak
  obtain ⟨⟨l0, l1, l2, l3, l4, l5, l6⟩, lf⟩ := cells7 (show w1.heap[w.heap.size]? = some (.cells #[.int .u8 (d : Int), .bool false, .int .u8 9, .bool true, .int .u8 (ns : Int), .int .u8 (nr : Int), .string i] TF (0, 0)) from H1.out.tail.at0)
  have hl2 := lt_heap H1.out.tail.at0
  have hl3 := lt_heap H1.out.at0
  have hl4 := H1.out.does.at_.lt
  have HC := Lib.hid (((((((H1.out).set 4 (.int .i64 (n : Int)) { x with a := n } rfl rfl).set 5 (.int .i64 (s1 : Int)) { x with a := n, s := s1 } rfl rfl).set 18 (.int .i64 0) { x with a := n, s := s1, tr := 0 } rfl rfl).set 5 (.int .i64 (n : Int)) { x with a := n, tr := 0, s := n } rfl rfl).set 12 (.bool true) { x with a := n, tr := 0, s := n, pb := true } rfl rfl).make (n := w1.heap.size) (by simp) (.cells #[.string ⟨#[]⟩, .bool false, .int .i64 (dn : Int), .bool false] TR (0, 0)))
  clear CK
  have CC := Lib.hid (rcount _ pb _ v true HC.out.does.at_ HF.out)
  go_wp2_with fail
  refine CC.out.mono ?_
  rintro _ w6 ⟨rfl, hd⟩
  have H6 := Lib.hid (HC.out.next hd)
  clear hd HC CC
  clear d4 d5 d8 d9 d11 d12 d15 d18 hfr l0 l1 l2 l3 l4 l5 l6 lf H1
  generalize w1.heap.size = lb at H6 hl2 hl3 hl4 ⊢
  obtain ⟨⟨a0, a1, a2, a3⟩, af⟩ := cells4 H6.out.at0
  obtain ⟨⟨k0, k1, k2, k3⟩, kf⟩ := cells4 H6.out.tail.at0
  have HZ := Lib.hid (H6.out.swap.put4 (two_ne' (by omega) (by omega)) (.string ⟨#[]⟩) (.bool false) (.int .i64 (dn : Int)) (.bool false))
  go_wp2
  exact bodyPost_ret (res_amR rfl rfl _ _ _ ⟨⟨#[]⟩, false, dn, false⟩ HZ.out.at0 rfl) rfl ⟨rfl, HZ.out.does⟩
set_option maxHeartbeats 4000000 in
theorem rhear9_yTTT (w : World) (pb d : Nat) (x : Sd) (v : Value) (ns nr n : Nat) (i : ByteArray) (h : RAt w pb x v) (hf : Fit x) (hl : x.fl = false) (hak : x.ak = true) (hna : x.a < n) (_hle : x.a ≤ n) (hnb : n ≤ 1000000) (_hns : ns < 256) (hnr : nr < 256) (ha : ackd x nr = some n) (hfin : Fit (hear5 ⟨true, 9, true, ns, nr, i⟩ (hear4 ⟨true, 9, true, ns, nr, i⟩ (hear3 ⟨true, 9, true, ns, nr, i⟩ (hear2 ⟨true, 9, true, ns, nr, i⟩ (hear1 n x)))))) :
    Calls Try.prog 28 #[ptr pb, fmvd d ⟨true, 9, true, ns, nr, i⟩] w fun e w' => e = .returned (amv ⟨bE, false, n - x.a, false⟩) ∧ RDo pb (cnt (decide (0 < n - x.a)) (hear5 ⟨true, 9, true, ns, nr, i⟩ (hear4 ⟨true, 9, true, ns, nr, i⟩ (hear3 ⟨true, 9, true, ns, nr, i⟩ (hear2 ⟨true, 9, true, ns, nr, i⟩ (hear1 n x)))))) v w w' := by
  have hsb : x.s ≤ 1000000 := by have := hf.sT; have := hf.tp; have := hf.few; omega
  obtain ⟨s1, hs1⟩ : ∃ s1, max x.s n = s1 := ⟨_, rfl⟩
  have HY : hear4 ⟨true, 9, true, ns, nr, i⟩ (hear3 ⟨true, 9, true, ns, nr, i⟩ (hear2 ⟨true, 9, true, ns, nr, i⟩ (hear1 n x))) = { x with a := n, tr := 0, s := n, pb := true } := by
    unfold hear4 hear3 hear2 hear1
    simp [hak, hna]
  rw [HY] at hfin ⊢
  obtain ⟨dn, hdn⟩ : ∃ dn, n - x.a = dn := ⟨_, rfl⟩
  rw [hdn]
  have q1 : IntKind.i64.wrap ((n : Int) - (x.a : Int)) = (dn : Int) := by rw [IntKind.wrap_i64]; omega
  have q2 : max (x.s : Int) (n : Int) = (s1 : Int) := by omega
  have g1 : decide ((0 : Int) < (dn : Int)) = true := decide_eq_true (by omega)
  have g1b : decide (0 < dn) = true := decide_eq_true (by omega)
  rw [g1b]
  have H1 : Hid (RIm [(w.heap.size + 1, noM TR), (w.heap.size, fmOd d ⟨true, 9, true, ns, nr, i⟩)] pb x v w ((w.alloc (.cells #[.int .u8 (d : Int), .bool true, .int .u8 9, .bool true, .int .u8 (ns : Int), .int .u8 (nr : Int), .string i] TF (0, 0))).alloc (noM TR))) := Lib.hid (RIm.first2 h _ _)
  have CK := Lib.hid (rack _ pb x v nr hnr H1.out.does.at_ hf)
  rw [ha] at CK
  have hlt := h.lt
  have c16 := h.cell 16 (.bool x.fl) rfl
  rw [hl] at c16
  have HF := Lib.hid hfin
  clear h hf ha hl hs1 hdn hnb HY hfin hna
  go_enter Try.func28, Try.ntmps28
  go_wp2_with fail
  generalize (w.alloc (.cells #[.int .u8 (d : Int), .bool true, .int .u8 9, .bool true, .int .u8 (ns : Int), .int .u8 (nr : Int), .string i] TF (0, 0))).alloc (noM TR) = w1 at H1 CK ⊢
  clear c16
  refine CK.out.mono ?_
  rintro _ w2 ⟨rfl, rfl⟩
  have hfr := H1.out.does.at_.free
  have d4 := H1.out.does.at_.cell 4 (.int .i64 (x.a : Int)) rfl
  have d5 := H1.out.does.at_.cell 5 (.int .i64 (x.s : Int)) rfl
  have d8 := H1.out.does.at_.cell 8 (.bool x.due) rfl
  have d9 := H1.out.does.at_.cell 9 (.bool x.fin) rfl
  have d11 := H1.out.does.at_.cell 11 (.bool x.poll) rfl
  have d12 := H1.out.does.at_.cell 12 (.bool x.pb) rfl
  have d15 := H1.out.does.at_.cell 15 (.bool x.ak) rfl
  have d18 := H1.out.does.at_.cell 18 (.int .i64 (x.tr : Int)) rfl
  rw [hak] at d15
  clear hak
  obtain ⟨⟨l0, l1, l2, l3, l4, l5, l6⟩, lf⟩ := cells7 (show w1.heap[w.heap.size]? = some (.cells #[.int .u8 (d : Int), .bool true, .int .u8 9, .bool true, .int .u8 (ns : Int), .int .u8 (nr : Int), .string i] TF (0, 0)) from H1.out.tail.at0)
  have hl2 := lt_heap H1.out.tail.at0
  have hl3 := lt_heap H1.out.at0
  have hl4 := H1.out.does.at_.lt
  have HC := Lib.hid (((((((((H1.out).set 4 (.int .i64 (n : Int)) { x with a := n } rfl rfl).set 5 (.int .i64 (s1 : Int)) { x with a := n, s := s1 } rfl rfl).set 18 (.int .i64 0) { x with a := n, s := s1, tr := 0 } rfl rfl).set 5 (.int .i64 (n : Int)) { x with a := n, tr := 0, s := n } rfl rfl).set 12 (.bool true) { x with a := n, tr := 0, s := n, pb := true } rfl rfl).set 8 (.bool true) { x with a := n, tr := 0, s := n, pb := true, due := true } rfl rfl).set 9 (.bool true) { x with a := n, tr := 0, s := n, pb := true, due := true, fin := true } rfl rfl).make (n := w1.heap.size) (by simp) (.cells #[.string ⟨#[]⟩, .bool false, .int .i64 (dn : Int), .bool false] TR (0, 0)))
  clear CK
  have CC := Lib.hid (rcount _ pb _ v true HC.out.does.at_ HF.out)
  go_wp2_with fail
  refine CC.out.mono ?_
  rintro _ w6 ⟨rfl, hd⟩
  have H6 := Lib.hid (HC.out.next hd)
  clear hd HC CC
  clear d4 d5 d8 d9 d11 d12 d15 d18 hfr l0 l1 l2 l3 l4 l5 l6 lf H1
  generalize w1.heap.size = lb at H6 hl2 hl3 hl4 ⊢
  obtain ⟨⟨a0, a1, a2, a3⟩, af⟩ := cells4 H6.out.at0
  obtain ⟨⟨k0, k1, k2, k3⟩, kf⟩ := cells4 H6.out.tail.at0
  have HZ := Lib.hid (H6.out.swap.put4 (two_ne' (by omega) (by omega)) (.string ⟨#[]⟩) (.bool false) (.int .i64 (dn : Int)) (.bool false))
  go_wp2
  exact bodyPost_ret (res_amR rfl rfl _ _ _ ⟨⟨#[]⟩, false, dn, false⟩ HZ.out.at0 rfl) rfl ⟨rfl, HZ.out.does⟩
set_option maxHeartbeats 4000000 in
theorem rhear9_yTTF (w : World) (pb d : Nat) (x : Sd) (v : Value) (ns nr n : Nat) (i : ByteArray) (h : RAt w pb x v) (hf : Fit x) (hl : x.fl = false) (hak : x.ak = true) (hna : x.a < n) (_hle : x.a ≤ n) (hnb : n ≤ 1000000) (_hns : ns < 256) (hnr : nr < 256) (ha : ackd x nr = some n) (hfin : Fit (hear5 ⟨false, 9, true, ns, nr, i⟩ (hear4 ⟨false, 9, true, ns, nr, i⟩ (hear3 ⟨false, 9, true, ns, nr, i⟩ (hear2 ⟨false, 9, true, ns, nr, i⟩ (hear1 n x)))))) :
    Calls Try.prog 28 #[ptr pb, fmvd d ⟨false, 9, true, ns, nr, i⟩] w fun e w' => e = .returned (amv ⟨bE, false, n - x.a, false⟩) ∧ RDo pb (cnt (decide (0 < n - x.a)) (hear5 ⟨false, 9, true, ns, nr, i⟩ (hear4 ⟨false, 9, true, ns, nr, i⟩ (hear3 ⟨false, 9, true, ns, nr, i⟩ (hear2 ⟨false, 9, true, ns, nr, i⟩ (hear1 n x)))))) v w w' := by
  have hsb : x.s ≤ 1000000 := by have := hf.sT; have := hf.tp; have := hf.few; omega
  obtain ⟨s1, hs1⟩ : ∃ s1, max x.s n = s1 := ⟨_, rfl⟩
  have HY : hear4 ⟨false, 9, true, ns, nr, i⟩ (hear3 ⟨false, 9, true, ns, nr, i⟩ (hear2 ⟨false, 9, true, ns, nr, i⟩ (hear1 n x))) = { x with a := n, pb := true, ak := false, poll := false, tr := 0, s := n } := by
    unfold hear4 hear3 hear2 hear1
    simp [hak, hna]
  rw [HY] at hfin ⊢
  obtain ⟨dn, hdn⟩ : ∃ dn, n - x.a = dn := ⟨_, rfl⟩
  rw [hdn]
  have q1 : IntKind.i64.wrap ((n : Int) - (x.a : Int)) = (dn : Int) := by rw [IntKind.wrap_i64]; omega
  have q2 : max (x.s : Int) (n : Int) = (s1 : Int) := by omega
  have g1 : decide ((0 : Int) < (dn : Int)) = true := decide_eq_true (by omega)
  have g1b : decide (0 < dn) = true := decide_eq_true (by omega)
  rw [g1b]
  have H1 : Hid (RIm [(w.heap.size + 1, noM TR), (w.heap.size, fmOd d ⟨false, 9, true, ns, nr, i⟩)] pb x v w ((w.alloc (.cells #[.int .u8 (d : Int), .bool false, .int .u8 9, .bool true, .int .u8 (ns : Int), .int .u8 (nr : Int), .string i] TF (0, 0))).alloc (noM TR))) := Lib.hid (RIm.first2 h _ _)
  have CK := Lib.hid (rack _ pb x v nr hnr H1.out.does.at_ hf)
  rw [ha] at CK
  have hlt := h.lt
  have c16 := h.cell 16 (.bool x.fl) rfl
  rw [hl] at c16
  have HF := Lib.hid hfin
  clear h hf ha hl hs1 hdn hnb HY hfin hna
  go_enter Try.func28, Try.ntmps28
  go_wp2_with fail
  generalize (w.alloc (.cells #[.int .u8 (d : Int), .bool false, .int .u8 9, .bool true, .int .u8 (ns : Int), .int .u8 (nr : Int), .string i] TF (0, 0))).alloc (noM TR) = w1 at H1 CK ⊢
  clear c16
  refine CK.out.mono ?_
  rintro _ w2 ⟨rfl, rfl⟩
  have hfr := H1.out.does.at_.free
  have d4 := H1.out.does.at_.cell 4 (.int .i64 (x.a : Int)) rfl
  have d5 := H1.out.does.at_.cell 5 (.int .i64 (x.s : Int)) rfl
  have d8 := H1.out.does.at_.cell 8 (.bool x.due) rfl
  have d9 := H1.out.does.at_.cell 9 (.bool x.fin) rfl
  have d11 := H1.out.does.at_.cell 11 (.bool x.poll) rfl
  have d12 := H1.out.does.at_.cell 12 (.bool x.pb) rfl
  have d15 := H1.out.does.at_.cell 15 (.bool x.ak) rfl
  have d18 := H1.out.does.at_.cell 18 (.int .i64 (x.tr : Int)) rfl
  rw [hak] at d15
  have hak2 := Lib.hid hak
  clear hak
  obtain ⟨⟨l0, l1, l2, l3, l4, l5, l6⟩, lf⟩ := cells7 (show w1.heap[w.heap.size]? = some (.cells #[.int .u8 (d : Int), .bool false, .int .u8 9, .bool true, .int .u8 (ns : Int), .int .u8 (nr : Int), .string i] TF (0, 0)) from H1.out.tail.at0)
  have hl2 := lt_heap H1.out.tail.at0
  have hl3 := lt_heap H1.out.at0
  have hl4 := H1.out.does.at_.lt
  have HM : Hid (RIm [(w1.heap.size, mO ⟨⟨#[]⟩, false, dn, false⟩ TR), (w.heap.size + 1, noM TR), (w.heap.size, fmOd d ⟨false, 9, true, ns, nr, i⟩)] pb { x with a := n, tr := 0, s := n, pb := true } v w ((((((w1.setCell ⟨pb, 4, none⟩ (.int .i64 (n : Int))).setCell ⟨pb, 5, none⟩ (.int .i64 (s1 : Int))).setCell ⟨pb, 18, none⟩ (.int .i64 0)).setCell ⟨pb, 5, none⟩ (.int .i64 (n : Int))).setCell ⟨pb, 12, none⟩ (.bool true)).alloc (.cells #[.string ⟨#[]⟩, .bool false, .int .i64 (dn : Int), .bool false] TR (0, 0)))) := Lib.hid (((((((H1.out).set 4 (.int .i64 (n : Int)) { x with a := n } rfl rfl).set 5 (.int .i64 (s1 : Int)) { x with a := n, s := s1 } rfl rfl).set 18 (.int .i64 0) { x with a := n, s := s1, tr := 0 } rfl rfl).set 5 (.int .i64 (n : Int)) { x with a := n, tr := 0, s := n } rfl rfl).set 12 (.bool true) { x with a := n, tr := 0, s := n, pb := true } rfl rfl).make (n := w1.heap.size) (by simp) (.cells #[.string ⟨#[]⟩, .bool false, .int .i64 (dn : Int), .bool false] TR (0, 0)))
  clear CK
  go_upto_region 17 with fail
  generalize (((((w1.setCell ⟨pb, 4, none⟩ (.int .i64 (n : Int))).setCell ⟨pb, 5, none⟩ (.int .i64 (s1 : Int))).setCell ⟨pb, 18, none⟩ (.int .i64 0)).setCell ⟨pb, 5, none⟩ (.int .i64 (n : Int))).setCell ⟨pb, 12, none⟩ (.bool true)).alloc (.cells #[.string ⟨#[]⟩, .bool false, .int .i64 (dn : Int), .bool false] TR (0, 0)) = wm at HM ⊢
  clear d4 d5 d8 d9 d11 d12 d15 d18 hfr l0 l1 l2 l3 l4 l5 l6 lf
  have hfr := HM.out.does.at_.free
  have d4 := HM.out.does.at_.cell 4 (.int .i64 (n : Int)) rfl
  have d5 := HM.out.does.at_.cell 5 (.int .i64 (n : Int)) rfl
  have d8 := HM.out.does.at_.cell 8 (.bool x.due) rfl
  have d9 := HM.out.does.at_.cell 9 (.bool x.fin) rfl
  have d11 := HM.out.does.at_.cell 11 (.bool x.poll) rfl
  have d12 := HM.out.does.at_.cell 12 (.bool true) rfl
  have d15 := HM.out.does.at_.cell 15 (.bool x.ak) rfl
  have d18 := HM.out.does.at_.cell 18 (.int .i64 0) rfl
  rw [hak2.out] at d15
  obtain ⟨⟨m0, m1, m2, m3⟩, mf⟩ := cells4 HM.out.at0
  obtain ⟨⟨l0, l1, l2, l3, l4, l5, l6⟩, lf⟩ := cells7 (show wm.heap[w.heap.size]? = some (.cells #[.int .u8 (d : Int), .bool false, .int .u8 9, .bool true, .int .u8 (ns : Int), .int .u8 (nr : Int), .string i] TF (0, 0)) from HM.out.tail.tail.at0)
  have HC := Lib.hid (((((HM.out).set 15 (.bool false) { x with a := n, tr := 0, s := n, pb := true, ak := false } rfl rfl).set 11 (.bool false) { x with a := n, tr := 0, s := n, pb := true, ak := false, poll := false } rfl rfl).set 18 (.int .i64 0) { x with a := n, s := n, pb := true, ak := false, poll := false, tr := 0 } rfl rfl).set 5 (.int .i64 (n : Int)) { x with a := n, pb := true, ak := false, poll := false, tr := 0, s := n } rfl rfl)
  have CC := Lib.hid (rcount _ pb _ v true HC.out.does.at_ HF.out)
  go_wp2_with fail
  refine CC.out.mono ?_
  rintro _ w6 ⟨rfl, hd⟩
  have H6 := Lib.hid (HC.out.next hd)
  clear hd HC CC
  clear d4 d5 d8 d9 d11 d12 d15 d18 hfr l0 l1 l2 l3 l4 l5 l6 lf H1
  generalize w1.heap.size = lb at H6 hl2 hl3 hl4 ⊢
  obtain ⟨⟨a0, a1, a2, a3⟩, af⟩ := cells4 H6.out.at0
  obtain ⟨⟨k0, k1, k2, k3⟩, kf⟩ := cells4 H6.out.tail.at0
  have HZ := Lib.hid (H6.out.swap.put4 (two_ne' (by omega) (by omega)) (.string ⟨#[]⟩) (.bool false) (.int .i64 (dn : Int)) (.bool false))
  go_wp2
  exact bodyPost_ret (res_amR rfl rfl _ _ _ ⟨⟨#[]⟩, false, dn, false⟩ HZ.out.at0 rfl) rfl ⟨rfl, HZ.out.does⟩
set_option maxHeartbeats 4000000 in
theorem rhear9_nFFV (w : World) (pb d : Nat) (x : Sd) (v : Value) (c : Bool) (ns nr n : Nat) (i : ByteArray) (h : RAt w pb x v) (hf : Fit x) (hl : x.fl = false) (hak : x.ak = false) (hna : ¬ x.a < n) (hle : x.a ≤ n) (_hnb : n ≤ 1000000) (_hns : ns < 256) (hnr : nr < 256) (ha : ackd x nr = some n) (hfin : Fit (hear5 ⟨c, 9, false, ns, nr, i⟩ (hear4 ⟨c, 9, false, ns, nr, i⟩ (hear3 ⟨c, 9, false, ns, nr, i⟩ (hear2 ⟨c, 9, false, ns, nr, i⟩ (hear1 n x)))))) :
    Calls Try.prog 28 #[ptr pb, fmvd d ⟨c, 9, false, ns, nr, i⟩] w fun e w' => e = .returned (amv ⟨bE, false, n - x.a, false⟩) ∧ RDo pb (cnt (decide (0 < n - x.a)) (hear5 ⟨c, 9, false, ns, nr, i⟩ (hear4 ⟨c, 9, false, ns, nr, i⟩ (hear3 ⟨c, 9, false, ns, nr, i⟩ (hear2 ⟨c, 9, false, ns, nr, i⟩ (hear1 n x)))))) v w w' := by
  have hsb : x.s ≤ 1000000 := by have := hf.sT; have := hf.tp; have := hf.few; omega
  obtain ⟨s1, hs1⟩ : ∃ s1, max x.s n = s1 := ⟨_, rfl⟩
  have HY : hear4 ⟨c, 9, false, ns, nr, i⟩ (hear3 ⟨c, 9, false, ns, nr, i⟩ (hear2 ⟨c, 9, false, ns, nr, i⟩ (hear1 n x))) = { x with a := n, s := n, pb := true } := by
    unfold hear4 hear3 hear2 hear1
    simp [hak, hna]
  rw [HY] at hfin ⊢
  obtain ⟨dn, hdn⟩ : ∃ dn, n - x.a = dn := ⟨_, rfl⟩
  rw [hdn]
  have q1 : IntKind.i64.wrap ((n : Int) - (x.a : Int)) = (dn : Int) := by rw [IntKind.wrap_i64]; omega
  have q2 : max (x.s : Int) (n : Int) = (s1 : Int) := by omega
  have g1 : decide ((0 : Int) < (dn : Int)) = false := decide_eq_false (by omega)
  have g1b : decide (0 < dn) = false := decide_eq_false (by omega)
  rw [g1b]
  have H1 : Hid (RIm [(w.heap.size + 1, noM TR), (w.heap.size, fmOd d ⟨c, 9, false, ns, nr, i⟩)] pb x v w ((w.alloc (.cells #[.int .u8 (d : Int), .bool c, .int .u8 9, .bool false, .int .u8 (ns : Int), .int .u8 (nr : Int), .string i] TF (0, 0))).alloc (noM TR))) := Lib.hid (RIm.first2 h _ _)
  have CK := Lib.hid (rack _ pb x v nr hnr H1.out.does.at_ hf)
  rw [ha] at CK
  have hlt := h.lt
  have c16 := h.cell 16 (.bool x.fl) rfl
  rw [hl] at c16
  have HF := Lib.hid hfin
  clear h hf ha hl hs1 hdn HY hfin hle hna
  go_enter Try.func28, Try.ntmps28
  go_wp2_with fail
  generalize (w.alloc (.cells #[.int .u8 (d : Int), .bool c, .int .u8 9, .bool false, .int .u8 (ns : Int), .int .u8 (nr : Int), .string i] TF (0, 0))).alloc (noM TR) = w1 at H1 CK ⊢
  clear c16
  refine CK.out.mono ?_
  rintro _ w2 ⟨rfl, rfl⟩
  have hfr := H1.out.does.at_.free
  have d4 := H1.out.does.at_.cell 4 (.int .i64 (x.a : Int)) rfl
  have d5 := H1.out.does.at_.cell 5 (.int .i64 (x.s : Int)) rfl
  have d8 := H1.out.does.at_.cell 8 (.bool x.due) rfl
  have d9 := H1.out.does.at_.cell 9 (.bool x.fin) rfl
  have d11 := H1.out.does.at_.cell 11 (.bool x.poll) rfl
  have d12 := H1.out.does.at_.cell 12 (.bool x.pb) rfl
  have d15 := H1.out.does.at_.cell 15 (.bool x.ak) rfl
  have d18 := H1.out.does.at_.cell 18 (.int .i64 (x.tr : Int)) rfl
  rw [hak] at d15
  clear hak
  obtain ⟨⟨l0, l1, l2, l3, l4, l5, l6⟩, lf⟩ := cells7 (show w1.heap[w.heap.size]? = some (.cells #[.int .u8 (d : Int), .bool c, .int .u8 9, .bool false, .int .u8 (ns : Int), .int .u8 (nr : Int), .string i] TF (0, 0)) from H1.out.tail.at0)
  have hl2 := lt_heap H1.out.tail.at0
  have hl3 := lt_heap H1.out.at0
  have hl4 := H1.out.does.at_.lt
  have HC := Lib.hid ((((((H1.out).set 4 (.int .i64 (n : Int)) { x with a := n } rfl rfl).set 5 (.int .i64 (s1 : Int)) { x with a := n, s := s1 } rfl rfl).set 5 (.int .i64 (n : Int)) { x with a := n, s := n } rfl rfl).set 12 (.bool true) { x with a := n, s := n, pb := true } rfl rfl).make (n := w1.heap.size) (by simp) (.cells #[.string ⟨#[]⟩, .bool false, .int .i64 (dn : Int), .bool false] TR (0, 0)))
  clear CK
  have CC := Lib.hid (rcount _ pb _ v false HC.out.does.at_ HF.out)
  go_wp2_with fail
  refine CC.out.mono ?_
  rintro _ w6 ⟨rfl, hd⟩
  have H6 := Lib.hid (HC.out.next hd)
  clear hd HC CC
  clear d4 d5 d8 d9 d11 d12 d15 d18 hfr l0 l1 l2 l3 l4 l5 l6 lf H1
  generalize w1.heap.size = lb at H6 hl2 hl3 hl4 ⊢
  obtain ⟨⟨a0, a1, a2, a3⟩, af⟩ := cells4 H6.out.at0
  obtain ⟨⟨k0, k1, k2, k3⟩, kf⟩ := cells4 H6.out.tail.at0
  have HZ := Lib.hid (H6.out.swap.put4 (two_ne' (by omega) (by omega)) (.string ⟨#[]⟩) (.bool false) (.int .i64 (dn : Int)) (.bool false))
  go_wp2
  exact bodyPost_ret (res_amR rfl rfl _ _ _ ⟨⟨#[]⟩, false, dn, false⟩ HZ.out.at0 rfl) rfl ⟨rfl, HZ.out.does⟩
set_option maxHeartbeats 4000000 in
theorem rhear9_nTFV (w : World) (pb d : Nat) (x : Sd) (v : Value) (c : Bool) (ns nr n : Nat) (i : ByteArray) (h : RAt w pb x v) (hf : Fit x) (hl : x.fl = false) (hak : x.ak = true) (hna : ¬ x.a < n) (hle : x.a ≤ n) (_hnb : n ≤ 1000000) (_hns : ns < 256) (hnr : nr < 256) (ha : ackd x nr = some n) (hfin : Fit (hear5 ⟨c, 9, false, ns, nr, i⟩ (hear4 ⟨c, 9, false, ns, nr, i⟩ (hear3 ⟨c, 9, false, ns, nr, i⟩ (hear2 ⟨c, 9, false, ns, nr, i⟩ (hear1 n x)))))) :
    Calls Try.prog 28 #[ptr pb, fmvd d ⟨c, 9, false, ns, nr, i⟩] w fun e w' => e = .returned (amv ⟨bE, false, n - x.a, false⟩) ∧ RDo pb (cnt (decide (0 < n - x.a)) (hear5 ⟨c, 9, false, ns, nr, i⟩ (hear4 ⟨c, 9, false, ns, nr, i⟩ (hear3 ⟨c, 9, false, ns, nr, i⟩ (hear2 ⟨c, 9, false, ns, nr, i⟩ (hear1 n x)))))) v w w' := by
  have hsb : x.s ≤ 1000000 := by have := hf.sT; have := hf.tp; have := hf.few; omega
  obtain ⟨s1, hs1⟩ : ∃ s1, max x.s n = s1 := ⟨_, rfl⟩
  have HY : hear4 ⟨c, 9, false, ns, nr, i⟩ (hear3 ⟨c, 9, false, ns, nr, i⟩ (hear2 ⟨c, 9, false, ns, nr, i⟩ (hear1 n x))) = { x with a := n, s := n, pb := true } := by
    unfold hear4 hear3 hear2 hear1
    simp [hak, hna]
  rw [HY] at hfin ⊢
  obtain ⟨dn, hdn⟩ : ∃ dn, n - x.a = dn := ⟨_, rfl⟩
  rw [hdn]
  have q1 : IntKind.i64.wrap ((n : Int) - (x.a : Int)) = (dn : Int) := by rw [IntKind.wrap_i64]; omega
  have q2 : max (x.s : Int) (n : Int) = (s1 : Int) := by omega
  have g1 : decide ((0 : Int) < (dn : Int)) = false := decide_eq_false (by omega)
  have g1b : decide (0 < dn) = false := decide_eq_false (by omega)
  rw [g1b]
  have H1 : Hid (RIm [(w.heap.size + 1, noM TR), (w.heap.size, fmOd d ⟨c, 9, false, ns, nr, i⟩)] pb x v w ((w.alloc (.cells #[.int .u8 (d : Int), .bool c, .int .u8 9, .bool false, .int .u8 (ns : Int), .int .u8 (nr : Int), .string i] TF (0, 0))).alloc (noM TR))) := Lib.hid (RIm.first2 h _ _)
  have CK := Lib.hid (rack _ pb x v nr hnr H1.out.does.at_ hf)
  rw [ha] at CK
  have hlt := h.lt
  have c16 := h.cell 16 (.bool x.fl) rfl
  rw [hl] at c16
  have HF := Lib.hid hfin
  clear h hf ha hl hs1 hdn HY hfin hle hna
  go_enter Try.func28, Try.ntmps28
  go_wp2_with fail
  generalize (w.alloc (.cells #[.int .u8 (d : Int), .bool c, .int .u8 9, .bool false, .int .u8 (ns : Int), .int .u8 (nr : Int), .string i] TF (0, 0))).alloc (noM TR) = w1 at H1 CK ⊢
  clear c16
  refine CK.out.mono ?_
  rintro _ w2 ⟨rfl, rfl⟩
  have hfr := H1.out.does.at_.free
  have d4 := H1.out.does.at_.cell 4 (.int .i64 (x.a : Int)) rfl
  have d5 := H1.out.does.at_.cell 5 (.int .i64 (x.s : Int)) rfl
  have d8 := H1.out.does.at_.cell 8 (.bool x.due) rfl
  have d9 := H1.out.does.at_.cell 9 (.bool x.fin) rfl
  have d11 := H1.out.does.at_.cell 11 (.bool x.poll) rfl
  have d12 := H1.out.does.at_.cell 12 (.bool x.pb) rfl
  have d15 := H1.out.does.at_.cell 15 (.bool x.ak) rfl
  have d18 := H1.out.does.at_.cell 18 (.int .i64 (x.tr : Int)) rfl
  rw [hak] at d15
  clear hak
  obtain ⟨⟨l0, l1, l2, l3, l4, l5, l6⟩, lf⟩ := cells7 (show w1.heap[w.heap.size]? = some (.cells #[.int .u8 (d : Int), .bool c, .int .u8 9, .bool false, .int .u8 (ns : Int), .int .u8 (nr : Int), .string i] TF (0, 0)) from H1.out.tail.at0)
  have hl2 := lt_heap H1.out.tail.at0
  have hl3 := lt_heap H1.out.at0
  have hl4 := H1.out.does.at_.lt
  have HC := Lib.hid ((((((H1.out).set 4 (.int .i64 (n : Int)) { x with a := n } rfl rfl).set 5 (.int .i64 (s1 : Int)) { x with a := n, s := s1 } rfl rfl).set 5 (.int .i64 (n : Int)) { x with a := n, s := n } rfl rfl).set 12 (.bool true) { x with a := n, s := n, pb := true } rfl rfl).make (n := w1.heap.size) (by simp) (.cells #[.string ⟨#[]⟩, .bool false, .int .i64 (dn : Int), .bool false] TR (0, 0)))
  clear CK
  have CC := Lib.hid (rcount _ pb _ v false HC.out.does.at_ HF.out)
  go_wp2_with fail
  refine CC.out.mono ?_
  rintro _ w6 ⟨rfl, hd⟩
  have H6 := Lib.hid (HC.out.next hd)
  clear hd HC CC
  clear d4 d5 d8 d9 d11 d12 d15 d18 hfr l0 l1 l2 l3 l4 l5 l6 lf H1
  generalize w1.heap.size = lb at H6 hl2 hl3 hl4 ⊢
  obtain ⟨⟨a0, a1, a2, a3⟩, af⟩ := cells4 H6.out.at0
  obtain ⟨⟨k0, k1, k2, k3⟩, kf⟩ := cells4 H6.out.tail.at0
  have HZ := Lib.hid (H6.out.swap.put4 (two_ne' (by omega) (by omega)) (.string ⟨#[]⟩) (.bool false) (.int .i64 (dn : Int)) (.bool false))
  go_wp2
  exact bodyPost_ret (res_amR rfl rfl _ _ _ ⟨⟨#[]⟩, false, dn, false⟩ HZ.out.at0 rfl) rfl ⟨rfl, HZ.out.does⟩
set_option maxHeartbeats 4000000 in
theorem rhear9_nFTT (w : World) (pb d : Nat) (x : Sd) (v : Value) (ns nr n : Nat) (i : ByteArray) (h : RAt w pb x v) (hf : Fit x) (hl : x.fl = false) (hak : x.ak = false) (hna : ¬ x.a < n) (hle : x.a ≤ n) (_hnb : n ≤ 1000000) (_hns : ns < 256) (hnr : nr < 256) (ha : ackd x nr = some n) (hfin : Fit (hear5 ⟨true, 9, true, ns, nr, i⟩ (hear4 ⟨true, 9, true, ns, nr, i⟩ (hear3 ⟨true, 9, true, ns, nr, i⟩ (hear2 ⟨true, 9, true, ns, nr, i⟩ (hear1 n x)))))) :
    Calls Try.prog 28 #[ptr pb, fmvd d ⟨true, 9, true, ns, nr, i⟩] w fun e w' => e = .returned (amv ⟨bE, false, n - x.a, false⟩) ∧ RDo pb (cnt (decide (0 < n - x.a)) (hear5 ⟨true, 9, true, ns, nr, i⟩ (hear4 ⟨true, 9, true, ns, nr, i⟩ (hear3 ⟨true, 9, true, ns, nr, i⟩ (hear2 ⟨true, 9, true, ns, nr, i⟩ (hear1 n x)))))) v w w' := by
  have hsb : x.s ≤ 1000000 := by have := hf.sT; have := hf.tp; have := hf.few; omega
  obtain ⟨s1, hs1⟩ : ∃ s1, max x.s n = s1 := ⟨_, rfl⟩
  have HY : hear4 ⟨true, 9, true, ns, nr, i⟩ (hear3 ⟨true, 9, true, ns, nr, i⟩ (hear2 ⟨true, 9, true, ns, nr, i⟩ (hear1 n x))) = { x with a := n, s := n, pb := true } := by
    unfold hear4 hear3 hear2 hear1
    simp [hak, hna]
  rw [HY] at hfin ⊢
  obtain ⟨dn, hdn⟩ : ∃ dn, n - x.a = dn := ⟨_, rfl⟩
  rw [hdn]
  have q1 : IntKind.i64.wrap ((n : Int) - (x.a : Int)) = (dn : Int) := by rw [IntKind.wrap_i64]; omega
  have q2 : max (x.s : Int) (n : Int) = (s1 : Int) := by omega
  have g1 : decide ((0 : Int) < (dn : Int)) = false := decide_eq_false (by omega)
  have g1b : decide (0 < dn) = false := decide_eq_false (by omega)
  rw [g1b]
  have H1 : Hid (RIm [(w.heap.size + 1, noM TR), (w.heap.size, fmOd d ⟨true, 9, true, ns, nr, i⟩)] pb x v w ((w.alloc (.cells #[.int .u8 (d : Int), .bool true, .int .u8 9, .bool true, .int .u8 (ns : Int), .int .u8 (nr : Int), .string i] TF (0, 0))).alloc (noM TR))) := Lib.hid (RIm.first2 h _ _)
  have CK := Lib.hid (rack _ pb x v nr hnr H1.out.does.at_ hf)
  rw [ha] at CK
  have hlt := h.lt
  have c16 := h.cell 16 (.bool x.fl) rfl
  rw [hl] at c16
  have HF := Lib.hid hfin
  clear h hf ha hl hs1 hdn HY hfin hle hna
  go_enter Try.func28, Try.ntmps28
  go_wp2_with fail
  generalize (w.alloc (.cells #[.int .u8 (d : Int), .bool true, .int .u8 9, .bool true, .int .u8 (ns : Int), .int .u8 (nr : Int), .string i] TF (0, 0))).alloc (noM TR) = w1 at H1 CK ⊢
  clear c16
  refine CK.out.mono ?_
  rintro _ w2 ⟨rfl, rfl⟩
  have hfr := H1.out.does.at_.free
  have d4 := H1.out.does.at_.cell 4 (.int .i64 (x.a : Int)) rfl
  have d5 := H1.out.does.at_.cell 5 (.int .i64 (x.s : Int)) rfl
  have d8 := H1.out.does.at_.cell 8 (.bool x.due) rfl
  have d9 := H1.out.does.at_.cell 9 (.bool x.fin) rfl
  have d11 := H1.out.does.at_.cell 11 (.bool x.poll) rfl
  have d12 := H1.out.does.at_.cell 12 (.bool x.pb) rfl
  have d15 := H1.out.does.at_.cell 15 (.bool x.ak) rfl
  have d18 := H1.out.does.at_.cell 18 (.int .i64 (x.tr : Int)) rfl
  rw [hak] at d15
  clear hak
  obtain ⟨⟨l0, l1, l2, l3, l4, l5, l6⟩, lf⟩ := cells7 (show w1.heap[w.heap.size]? = some (.cells #[.int .u8 (d : Int), .bool true, .int .u8 9, .bool true, .int .u8 (ns : Int), .int .u8 (nr : Int), .string i] TF (0, 0)) from H1.out.tail.at0)
  have hl2 := lt_heap H1.out.tail.at0
  have hl3 := lt_heap H1.out.at0
  have hl4 := H1.out.does.at_.lt
  have HC := Lib.hid ((((((((H1.out).set 4 (.int .i64 (n : Int)) { x with a := n } rfl rfl).set 5 (.int .i64 (s1 : Int)) { x with a := n, s := s1 } rfl rfl).set 5 (.int .i64 (n : Int)) { x with a := n, s := n } rfl rfl).set 12 (.bool true) { x with a := n, s := n, pb := true } rfl rfl).set 8 (.bool true) { x with a := n, s := n, pb := true, due := true } rfl rfl).set 9 (.bool true) { x with a := n, s := n, pb := true, due := true, fin := true } rfl rfl).make (n := w1.heap.size) (by simp) (.cells #[.string ⟨#[]⟩, .bool false, .int .i64 (dn : Int), .bool false] TR (0, 0)))
  clear CK
  have CC := Lib.hid (rcount _ pb _ v false HC.out.does.at_ HF.out)
  go_wp2_with fail
  refine CC.out.mono ?_
  rintro _ w6 ⟨rfl, hd⟩
  have H6 := Lib.hid (HC.out.next hd)
  clear hd HC CC
  clear d4 d5 d8 d9 d11 d12 d15 d18 hfr l0 l1 l2 l3 l4 l5 l6 lf H1
  generalize w1.heap.size = lb at H6 hl2 hl3 hl4 ⊢
  obtain ⟨⟨a0, a1, a2, a3⟩, af⟩ := cells4 H6.out.at0
  obtain ⟨⟨k0, k1, k2, k3⟩, kf⟩ := cells4 H6.out.tail.at0
  have HZ := Lib.hid (H6.out.swap.put4 (two_ne' (by omega) (by omega)) (.string ⟨#[]⟩) (.bool false) (.int .i64 (dn : Int)) (.bool false))
  go_wp2
  exact bodyPost_ret (res_amR rfl rfl _ _ _ ⟨⟨#[]⟩, false, dn, false⟩ HZ.out.at0 rfl) rfl ⟨rfl, HZ.out.does⟩
set_option maxHeartbeats 4000000 in
theorem rhear9_nFTF (w : World) (pb d : Nat) (x : Sd) (v : Value) (ns nr n : Nat) (i : ByteArray) (h : RAt w pb x v) (hf : Fit x) (hl : x.fl = false) (hak : x.ak = false) (hna : ¬ x.a < n) (hle : x.a ≤ n) (_hnb : n ≤ 1000000) (_hns : ns < 256) (hnr : nr < 256) (ha : ackd x nr = some n) (hfin : Fit (hear5 ⟨false, 9, true, ns, nr, i⟩ (hear4 ⟨false, 9, true, ns, nr, i⟩ (hear3 ⟨false, 9, true, ns, nr, i⟩ (hear2 ⟨false, 9, true, ns, nr, i⟩ (hear1 n x)))))) :
    Calls Try.prog 28 #[ptr pb, fmvd d ⟨false, 9, true, ns, nr, i⟩] w fun e w' => e = .returned (amv ⟨bE, false, n - x.a, false⟩) ∧ RDo pb (cnt (decide (0 < n - x.a)) (hear5 ⟨false, 9, true, ns, nr, i⟩ (hear4 ⟨false, 9, true, ns, nr, i⟩ (hear3 ⟨false, 9, true, ns, nr, i⟩ (hear2 ⟨false, 9, true, ns, nr, i⟩ (hear1 n x)))))) v w w' := by
  have hsb : x.s ≤ 1000000 := by have := hf.sT; have := hf.tp; have := hf.few; omega
  obtain ⟨s1, hs1⟩ : ∃ s1, max x.s n = s1 := ⟨_, rfl⟩
  have HY : hear4 ⟨false, 9, true, ns, nr, i⟩ (hear3 ⟨false, 9, true, ns, nr, i⟩ (hear2 ⟨false, 9, true, ns, nr, i⟩ (hear1 n x))) = { x with a := n, s := n, pb := true } := by
    unfold hear4 hear3 hear2 hear1
    simp [hak, hna]
  rw [HY] at hfin ⊢
  obtain ⟨dn, hdn⟩ : ∃ dn, n - x.a = dn := ⟨_, rfl⟩
  rw [hdn]
  have q1 : IntKind.i64.wrap ((n : Int) - (x.a : Int)) = (dn : Int) := by rw [IntKind.wrap_i64]; omega
  have q2 : max (x.s : Int) (n : Int) = (s1 : Int) := by omega
  have g1 : decide ((0 : Int) < (dn : Int)) = false := decide_eq_false (by omega)
  have g1b : decide (0 < dn) = false := decide_eq_false (by omega)
  rw [g1b]
  have H1 : Hid (RIm [(w.heap.size + 1, noM TR), (w.heap.size, fmOd d ⟨false, 9, true, ns, nr, i⟩)] pb x v w ((w.alloc (.cells #[.int .u8 (d : Int), .bool false, .int .u8 9, .bool true, .int .u8 (ns : Int), .int .u8 (nr : Int), .string i] TF (0, 0))).alloc (noM TR))) := Lib.hid (RIm.first2 h _ _)
  have CK := Lib.hid (rack _ pb x v nr hnr H1.out.does.at_ hf)
  rw [ha] at CK
  have hlt := h.lt
  have c16 := h.cell 16 (.bool x.fl) rfl
  rw [hl] at c16
  have HF := Lib.hid hfin
  clear h hf ha hl hs1 hdn HY hfin hle hna
  go_enter Try.func28, Try.ntmps28
  go_wp2_with fail
  generalize (w.alloc (.cells #[.int .u8 (d : Int), .bool false, .int .u8 9, .bool true, .int .u8 (ns : Int), .int .u8 (nr : Int), .string i] TF (0, 0))).alloc (noM TR) = w1 at H1 CK ⊢
  clear c16
  refine CK.out.mono ?_
  rintro _ w2 ⟨rfl, rfl⟩
  have hfr := H1.out.does.at_.free
  have d4 := H1.out.does.at_.cell 4 (.int .i64 (x.a : Int)) rfl
  have d5 := H1.out.does.at_.cell 5 (.int .i64 (x.s : Int)) rfl
  have d8 := H1.out.does.at_.cell 8 (.bool x.due) rfl
  have d9 := H1.out.does.at_.cell 9 (.bool x.fin) rfl
  have d11 := H1.out.does.at_.cell 11 (.bool x.poll) rfl
  have d12 := H1.out.does.at_.cell 12 (.bool x.pb) rfl
  have d15 := H1.out.does.at_.cell 15 (.bool x.ak) rfl
  have d18 := H1.out.does.at_.cell 18 (.int .i64 (x.tr : Int)) rfl
  rw [hak] at d15
  clear hak
  obtain ⟨⟨l0, l1, l2, l3, l4, l5, l6⟩, lf⟩ := cells7 (show w1.heap[w.heap.size]? = some (.cells #[.int .u8 (d : Int), .bool false, .int .u8 9, .bool true, .int .u8 (ns : Int), .int .u8 (nr : Int), .string i] TF (0, 0)) from H1.out.tail.at0)
  have hl2 := lt_heap H1.out.tail.at0
  have hl3 := lt_heap H1.out.at0
  have hl4 := H1.out.does.at_.lt
  have HC := Lib.hid ((((((H1.out).set 4 (.int .i64 (n : Int)) { x with a := n } rfl rfl).set 5 (.int .i64 (s1 : Int)) { x with a := n, s := s1 } rfl rfl).set 5 (.int .i64 (n : Int)) { x with a := n, s := n } rfl rfl).set 12 (.bool true) { x with a := n, s := n, pb := true } rfl rfl).make (n := w1.heap.size) (by simp) (.cells #[.string ⟨#[]⟩, .bool false, .int .i64 (dn : Int), .bool false] TR (0, 0)))
  clear CK
  have CC := Lib.hid (rcount _ pb _ v false HC.out.does.at_ HF.out)
  go_wp2_with fail
  refine CC.out.mono ?_
  rintro _ w6 ⟨rfl, hd⟩
  have H6 := Lib.hid (HC.out.next hd)
  clear hd HC CC
  clear d4 d5 d8 d9 d11 d12 d15 d18 hfr l0 l1 l2 l3 l4 l5 l6 lf H1
  generalize w1.heap.size = lb at H6 hl2 hl3 hl4 ⊢
  obtain ⟨⟨a0, a1, a2, a3⟩, af⟩ := cells4 H6.out.at0
  obtain ⟨⟨k0, k1, k2, k3⟩, kf⟩ := cells4 H6.out.tail.at0
  have HZ := Lib.hid (H6.out.swap.put4 (two_ne' (by omega) (by omega)) (.string ⟨#[]⟩) (.bool false) (.int .i64 (dn : Int)) (.bool false))
  go_wp2
  exact bodyPost_ret (res_amR rfl rfl _ _ _ ⟨⟨#[]⟩, false, dn, false⟩ HZ.out.at0 rfl) rfl ⟨rfl, HZ.out.does⟩
set_option maxHeartbeats 4000000 in
theorem rhear9_nTTT (w : World) (pb d : Nat) (x : Sd) (v : Value) (ns nr n : Nat) (i : ByteArray) (h : RAt w pb x v) (hf : Fit x) (hl : x.fl = false) (hak : x.ak = true) (hna : ¬ x.a < n) (hle : x.a ≤ n) (_hnb : n ≤ 1000000) (_hns : ns < 256) (hnr : nr < 256) (ha : ackd x nr = some n) (hfin : Fit (hear5 ⟨true, 9, true, ns, nr, i⟩ (hear4 ⟨true, 9, true, ns, nr, i⟩ (hear3 ⟨true, 9, true, ns, nr, i⟩ (hear2 ⟨true, 9, true, ns, nr, i⟩ (hear1 n x)))))) :
    Calls Try.prog 28 #[ptr pb, fmvd d ⟨true, 9, true, ns, nr, i⟩] w fun e w' => e = .returned (amv ⟨bE, false, n - x.a, false⟩) ∧ RDo pb (cnt (decide (0 < n - x.a)) (hear5 ⟨true, 9, true, ns, nr, i⟩ (hear4 ⟨true, 9, true, ns, nr, i⟩ (hear3 ⟨true, 9, true, ns, nr, i⟩ (hear2 ⟨true, 9, true, ns, nr, i⟩ (hear1 n x)))))) v w w' := by
  have hsb : x.s ≤ 1000000 := by have := hf.sT; have := hf.tp; have := hf.few; omega
  obtain ⟨s1, hs1⟩ : ∃ s1, max x.s n = s1 := ⟨_, rfl⟩
  have HY : hear4 ⟨true, 9, true, ns, nr, i⟩ (hear3 ⟨true, 9, true, ns, nr, i⟩ (hear2 ⟨true, 9, true, ns, nr, i⟩ (hear1 n x))) = { x with a := n, s := n, pb := true } := by
    unfold hear4 hear3 hear2 hear1
    simp [hak, hna]
  rw [HY] at hfin ⊢
  obtain ⟨dn, hdn⟩ : ∃ dn, n - x.a = dn := ⟨_, rfl⟩
  rw [hdn]
  have q1 : IntKind.i64.wrap ((n : Int) - (x.a : Int)) = (dn : Int) := by rw [IntKind.wrap_i64]; omega
  have q2 : max (x.s : Int) (n : Int) = (s1 : Int) := by omega
  have g1 : decide ((0 : Int) < (dn : Int)) = false := decide_eq_false (by omega)
  have g1b : decide (0 < dn) = false := decide_eq_false (by omega)
  rw [g1b]
  have H1 : Hid (RIm [(w.heap.size + 1, noM TR), (w.heap.size, fmOd d ⟨true, 9, true, ns, nr, i⟩)] pb x v w ((w.alloc (.cells #[.int .u8 (d : Int), .bool true, .int .u8 9, .bool true, .int .u8 (ns : Int), .int .u8 (nr : Int), .string i] TF (0, 0))).alloc (noM TR))) := Lib.hid (RIm.first2 h _ _)
  have CK := Lib.hid (rack _ pb x v nr hnr H1.out.does.at_ hf)
  rw [ha] at CK
  have hlt := h.lt
  have c16 := h.cell 16 (.bool x.fl) rfl
  rw [hl] at c16
  have HF := Lib.hid hfin
  clear h hf ha hl hs1 hdn HY hfin hle hna
  go_enter Try.func28, Try.ntmps28
  go_wp2_with fail
  generalize (w.alloc (.cells #[.int .u8 (d : Int), .bool true, .int .u8 9, .bool true, .int .u8 (ns : Int), .int .u8 (nr : Int), .string i] TF (0, 0))).alloc (noM TR) = w1 at H1 CK ⊢
  clear c16
  refine CK.out.mono ?_
  rintro _ w2 ⟨rfl, rfl⟩
  have hfr := H1.out.does.at_.free
  have d4 := H1.out.does.at_.cell 4 (.int .i64 (x.a : Int)) rfl
  have d5 := H1.out.does.at_.cell 5 (.int .i64 (x.s : Int)) rfl
  have d8 := H1.out.does.at_.cell 8 (.bool x.due) rfl
  have d9 := H1.out.does.at_.cell 9 (.bool x.fin) rfl
  have d11 := H1.out.does.at_.cell 11 (.bool x.poll) rfl
  have d12 := H1.out.does.at_.cell 12 (.bool x.pb) rfl
  have d15 := H1.out.does.at_.cell 15 (.bool x.ak) rfl
  have d18 := H1.out.does.at_.cell 18 (.int .i64 (x.tr : Int)) rfl
  rw [hak] at d15
  clear hak
  obtain ⟨⟨l0, l1, l2, l3, l4, l5, l6⟩, lf⟩ := cells7 (show w1.heap[w.heap.size]? = some (.cells #[.int .u8 (d : Int), .bool true, .int .u8 9, .bool true, .int .u8 (ns : Int), .int .u8 (nr : Int), .string i] TF (0, 0)) from H1.out.tail.at0)
  have hl2 := lt_heap H1.out.tail.at0
  have hl3 := lt_heap H1.out.at0
  have hl4 := H1.out.does.at_.lt
  have HC := Lib.hid ((((((((H1.out).set 4 (.int .i64 (n : Int)) { x with a := n } rfl rfl).set 5 (.int .i64 (s1 : Int)) { x with a := n, s := s1 } rfl rfl).set 5 (.int .i64 (n : Int)) { x with a := n, s := n } rfl rfl).set 12 (.bool true) { x with a := n, s := n, pb := true } rfl rfl).set 8 (.bool true) { x with a := n, s := n, pb := true, due := true } rfl rfl).set 9 (.bool true) { x with a := n, s := n, pb := true, due := true, fin := true } rfl rfl).make (n := w1.heap.size) (by simp) (.cells #[.string ⟨#[]⟩, .bool false, .int .i64 (dn : Int), .bool false] TR (0, 0)))
  clear CK
  have CC := Lib.hid (rcount _ pb _ v false HC.out.does.at_ HF.out)
  go_wp2_with fail
  refine CC.out.mono ?_
  rintro _ w6 ⟨rfl, hd⟩
  have H6 := Lib.hid (HC.out.next hd)
  clear hd HC CC
  clear d4 d5 d8 d9 d11 d12 d15 d18 hfr l0 l1 l2 l3 l4 l5 l6 lf H1
  generalize w1.heap.size = lb at H6 hl2 hl3 hl4 ⊢
  obtain ⟨⟨a0, a1, a2, a3⟩, af⟩ := cells4 H6.out.at0
  obtain ⟨⟨k0, k1, k2, k3⟩, kf⟩ := cells4 H6.out.tail.at0
  have HZ := Lib.hid (H6.out.swap.put4 (two_ne' (by omega) (by omega)) (.string ⟨#[]⟩) (.bool false) (.int .i64 (dn : Int)) (.bool false))
  go_wp2
  exact bodyPost_ret (res_amR rfl rfl _ _ _ ⟨⟨#[]⟩, false, dn, false⟩ HZ.out.at0 rfl) rfl ⟨rfl, HZ.out.does⟩
set_option maxHeartbeats 4000000 in
theorem rhear9_nTTF (w : World) (pb d : Nat) (x : Sd) (v : Value) (ns nr n : Nat) (i : ByteArray) (h : RAt w pb x v) (hf : Fit x) (hl : x.fl = false) (hak : x.ak = true) (hna : ¬ x.a < n) (hle : x.a ≤ n) (_hnb : n ≤ 1000000) (_hns : ns < 256) (hnr : nr < 256) (ha : ackd x nr = some n) (hfin : Fit (hear5 ⟨false, 9, true, ns, nr, i⟩ (hear4 ⟨false, 9, true, ns, nr, i⟩ (hear3 ⟨false, 9, true, ns, nr, i⟩ (hear2 ⟨false, 9, true, ns, nr, i⟩ (hear1 n x)))))) :
    Calls Try.prog 28 #[ptr pb, fmvd d ⟨false, 9, true, ns, nr, i⟩] w fun e w' => e = .returned (amv ⟨bE, false, n - x.a, false⟩) ∧ RDo pb (cnt (decide (0 < n - x.a)) (hear5 ⟨false, 9, true, ns, nr, i⟩ (hear4 ⟨false, 9, true, ns, nr, i⟩ (hear3 ⟨false, 9, true, ns, nr, i⟩ (hear2 ⟨false, 9, true, ns, nr, i⟩ (hear1 n x)))))) v w w' := by
  have hsb : x.s ≤ 1000000 := by have := hf.sT; have := hf.tp; have := hf.few; omega
  obtain ⟨s1, hs1⟩ : ∃ s1, max x.s n = s1 := ⟨_, rfl⟩
  have HY : hear4 ⟨false, 9, true, ns, nr, i⟩ (hear3 ⟨false, 9, true, ns, nr, i⟩ (hear2 ⟨false, 9, true, ns, nr, i⟩ (hear1 n x))) = { x with a := n, pb := true, ak := false, poll := false, tr := 0, s := n } := by
    unfold hear4 hear3 hear2 hear1
    simp [hak, hna]
  rw [HY] at hfin ⊢
  obtain ⟨dn, hdn⟩ : ∃ dn, n - x.a = dn := ⟨_, rfl⟩
  rw [hdn]
  have q1 : IntKind.i64.wrap ((n : Int) - (x.a : Int)) = (dn : Int) := by rw [IntKind.wrap_i64]; omega
  have q2 : max (x.s : Int) (n : Int) = (s1 : Int) := by omega
  have g1 : decide ((0 : Int) < (dn : Int)) = false := decide_eq_false (by omega)
  have g1b : decide (0 < dn) = false := decide_eq_false (by omega)
  rw [g1b]
  have H1 : Hid (RIm [(w.heap.size + 1, noM TR), (w.heap.size, fmOd d ⟨false, 9, true, ns, nr, i⟩)] pb x v w ((w.alloc (.cells #[.int .u8 (d : Int), .bool false, .int .u8 9, .bool true, .int .u8 (ns : Int), .int .u8 (nr : Int), .string i] TF (0, 0))).alloc (noM TR))) := Lib.hid (RIm.first2 h _ _)
  have CK := Lib.hid (rack _ pb x v nr hnr H1.out.does.at_ hf)
  rw [ha] at CK
  have hlt := h.lt
  have c16 := h.cell 16 (.bool x.fl) rfl
  rw [hl] at c16
  have HF := Lib.hid hfin
  clear h hf ha hl hs1 hdn HY hfin hle hna
  go_enter Try.func28, Try.ntmps28
  go_wp2_with fail
  generalize (w.alloc (.cells #[.int .u8 (d : Int), .bool false, .int .u8 9, .bool true, .int .u8 (ns : Int), .int .u8 (nr : Int), .string i] TF (0, 0))).alloc (noM TR) = w1 at H1 CK ⊢
  clear c16
  refine CK.out.mono ?_
  rintro _ w2 ⟨rfl, rfl⟩
  have hfr := H1.out.does.at_.free
  have d4 := H1.out.does.at_.cell 4 (.int .i64 (x.a : Int)) rfl
  have d5 := H1.out.does.at_.cell 5 (.int .i64 (x.s : Int)) rfl
  have d8 := H1.out.does.at_.cell 8 (.bool x.due) rfl
  have d9 := H1.out.does.at_.cell 9 (.bool x.fin) rfl
  have d11 := H1.out.does.at_.cell 11 (.bool x.poll) rfl
  have d12 := H1.out.does.at_.cell 12 (.bool x.pb) rfl
  have d15 := H1.out.does.at_.cell 15 (.bool x.ak) rfl
  have d18 := H1.out.does.at_.cell 18 (.int .i64 (x.tr : Int)) rfl
  rw [hak] at d15
  have hak2 := Lib.hid hak
  clear hak
  obtain ⟨⟨l0, l1, l2, l3, l4, l5, l6⟩, lf⟩ := cells7 (show w1.heap[w.heap.size]? = some (.cells #[.int .u8 (d : Int), .bool false, .int .u8 9, .bool true, .int .u8 (ns : Int), .int .u8 (nr : Int), .string i] TF (0, 0)) from H1.out.tail.at0)
  have hl2 := lt_heap H1.out.tail.at0
  have hl3 := lt_heap H1.out.at0
  have hl4 := H1.out.does.at_.lt
  have HM : Hid (RIm [(w1.heap.size, mO ⟨⟨#[]⟩, false, dn, false⟩ TR), (w.heap.size + 1, noM TR), (w.heap.size, fmOd d ⟨false, 9, true, ns, nr, i⟩)] pb { x with a := n, s := n, pb := true } v w (((((w1.setCell ⟨pb, 4, none⟩ (.int .i64 (n : Int))).setCell ⟨pb, 5, none⟩ (.int .i64 (s1 : Int))).setCell ⟨pb, 5, none⟩ (.int .i64 (n : Int))).setCell ⟨pb, 12, none⟩ (.bool true)).alloc (.cells #[.string ⟨#[]⟩, .bool false, .int .i64 (dn : Int), .bool false] TR (0, 0)))) := Lib.hid ((((((H1.out).set 4 (.int .i64 (n : Int)) { x with a := n } rfl rfl).set 5 (.int .i64 (s1 : Int)) { x with a := n, s := s1 } rfl rfl).set 5 (.int .i64 (n : Int)) { x with a := n, s := n } rfl rfl).set 12 (.bool true) { x with a := n, s := n, pb := true } rfl rfl).make (n := w1.heap.size) (by simp) (.cells #[.string ⟨#[]⟩, .bool false, .int .i64 (dn : Int), .bool false] TR (0, 0)))
  clear CK
  go_upto_region 17 with fail
  generalize ((((w1.setCell ⟨pb, 4, none⟩ (.int .i64 (n : Int))).setCell ⟨pb, 5, none⟩ (.int .i64 (s1 : Int))).setCell ⟨pb, 5, none⟩ (.int .i64 (n : Int))).setCell ⟨pb, 12, none⟩ (.bool true)).alloc (.cells #[.string ⟨#[]⟩, .bool false, .int .i64 (dn : Int), .bool false] TR (0, 0)) = wm at HM ⊢
  clear d4 d5 d8 d9 d11 d12 d15 d18 hfr l0 l1 l2 l3 l4 l5 l6 lf
  have hfr := HM.out.does.at_.free
  have d4 := HM.out.does.at_.cell 4 (.int .i64 (n : Int)) rfl
  have d5 := HM.out.does.at_.cell 5 (.int .i64 (n : Int)) rfl
  have d8 := HM.out.does.at_.cell 8 (.bool x.due) rfl
  have d9 := HM.out.does.at_.cell 9 (.bool x.fin) rfl
  have d11 := HM.out.does.at_.cell 11 (.bool x.poll) rfl
  have d12 := HM.out.does.at_.cell 12 (.bool true) rfl
  have d15 := HM.out.does.at_.cell 15 (.bool x.ak) rfl
  have d18 := HM.out.does.at_.cell 18 (.int .i64 (x.tr : Int)) rfl
  rw [hak2.out] at d15
  obtain ⟨⟨m0, m1, m2, m3⟩, mf⟩ := cells4 HM.out.at0
  obtain ⟨⟨l0, l1, l2, l3, l4, l5, l6⟩, lf⟩ := cells7 (show wm.heap[w.heap.size]? = some (.cells #[.int .u8 (d : Int), .bool false, .int .u8 9, .bool true, .int .u8 (ns : Int), .int .u8 (nr : Int), .string i] TF (0, 0)) from HM.out.tail.tail.at0)
  have HC := Lib.hid (((((HM.out).set 15 (.bool false) { x with a := n, s := n, pb := true, ak := false } rfl rfl).set 11 (.bool false) { x with a := n, s := n, pb := true, ak := false, poll := false } rfl rfl).set 18 (.int .i64 0) { x with a := n, s := n, pb := true, ak := false, poll := false, tr := 0 } rfl rfl).set 5 (.int .i64 (n : Int)) { x with a := n, pb := true, ak := false, poll := false, tr := 0, s := n } rfl rfl)
  have CC := Lib.hid (rcount _ pb _ v false HC.out.does.at_ HF.out)
  go_wp2_with fail
  refine CC.out.mono ?_
  rintro _ w6 ⟨rfl, hd⟩
  have H6 := Lib.hid (HC.out.next hd)
  clear hd HC CC
  clear d4 d5 d8 d9 d11 d12 d15 d18 hfr l0 l1 l2 l3 l4 l5 l6 lf H1
  generalize w1.heap.size = lb at H6 hl2 hl3 hl4 ⊢
  obtain ⟨⟨a0, a1, a2, a3⟩, af⟩ := cells4 H6.out.at0
  obtain ⟨⟨k0, k1, k2, k3⟩, kf⟩ := cells4 H6.out.tail.at0
  have HZ := Lib.hid (H6.out.swap.put4 (two_ne' (by omega) (by omega)) (.string ⟨#[]⟩) (.bool false) (.int .i64 (dn : Int)) (.bool false))
  go_wp2
  exact bodyPost_ret (res_amR rfl rfl _ _ _ ⟨⟨#[]⟩, false, dn, false⟩ HZ.out.at0 rfl) rfl ⟨rfl, HZ.out.does⟩
end Go.Proofs.Ytkoaplmlabagnaa.Aq

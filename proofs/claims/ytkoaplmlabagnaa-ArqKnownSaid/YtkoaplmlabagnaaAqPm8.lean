/-
  The program's own side: what a frame's kind and its bit do. Condition: it lies where it says; its numbers are small.
  The program's own side: Hear. Condition: it lies where it says; its numbers are small.
-/
import Derived.Test.YtkoaplmlabagnaaAqPm6
import Derived.Test.YtkoaplmlabagnaaAqPm4
namespace Go.Proofs.Ytkoaplmlabagnaa.Aq
open Go.RowKit Go.Proofs.Ytkoaplmlabagnaa.Base Go.Proofs.Ytkoaplmlabagnaa.Mem
/-- A frame of a DLCI, as a value, and in a block. -/
abbrev fmvd (d : Nat) (f : Fm) : Value := .agg #[.int .u8 (d : Int), .bool f.c, .int .u8 (f.k : Int), .bool f.pf, .int .u8 (f.ns : Int), .int .u8 (f.nr : Int), .string f.i]
abbrev fmOd (d : Nat) (f : Fm) : Obj := .cells #[.int .u8 (d : Int), .bool f.c, .int .u8 (f.k : Int), .bool f.pf, .int .u8 (f.ns : Int), .int .u8 (f.nr : Int), .string f.i] TF (0, 0)
theorem AIn.first2 {pb : Nat} {x : Ps} {v : Value} {w : World} (h0 : PAt w pb x v) (o1 o2 : Obj) : AIn [(w.heap.size + 1, o2), (w.heap.size, o1)] pb x v w ((w.alloc o1).alloc o2) := by
  have := (AIn.first h0 o1).alloc o2
  rwa [size_alloc] at this
theorem ADo.two {pb : Nat} {y : Ps} {v : Value} {w w1 : World} (h : ADo pb y v w w1) (o1 o2 : Obj) : ADo pb y v w ((w1.alloc o1).alloc o2) := (h.on ((Below.refl _ _).alloc (Nat.le_refl _) o1)).on ((Below.refl _ _).alloc (Nat.le_refl _) o2)
set_option maxHeartbeats 1000000 in
theorem fbit_cmd (w : World) (pb d : Nat) (y : Ps) (v : Value) (k ns nr : Nat) (i : ByteArray) (h : PAt w pb y v) :
    Calls Try.prog 48 #[ptr pb, fmvd d ⟨true, k, true, ns, nr, i⟩] w fun e w' => e = .returned (.tuple #[]) ∧ ADo pb { y with due := true, fin := true } v w w' := by
  have H := Lib.hid h
  have hfr := h.free
  have hlt := h.lt
  have c16 := h.cell 16 (.bool y.due) rfl
  have c17 := h.cell 17 (.bool y.fin) rfl
  have c8 := h.cell 8 (.bool y.ak) rfl
  have c19 := h.cell 19 (.bool y.poll) rfl
  have c3 := h.cell 3 (.int .i64 (y.tr : Int)) rfl
  have c2 := h.cell 2 (.int .i64 (y.out : Int)) rfl
  clear h
  go_enter Try.func48, Try.ntmps48
  go_wp2
  go_end0
  exact ⟨rfl, (((ADo.refl H.out).set 16 (.bool true) { y with due := true } rfl rfl).set 17 (.bool true) { y with due := true, fin := true } rfl rfl).on ((Below.refl _ _).alloc (Nat.le_refl _) _)⟩
set_option maxHeartbeats 1000000 in
theorem fbit_ask (w : World) (pb d : Nat) (y : Ps) (v : Value) (k ns nr : Nat) (i : ByteArray) (h : PAt w pb y v) (hk : y.ak = true) :
    Calls Try.prog 48 #[ptr pb, fmvd d ⟨false, k, true, ns, nr, i⟩] w fun e w' => e = .returned (.tuple #[]) ∧ ADo pb { y with ak := false, poll := false, tr := 0, out := 0 } v w w' := by
  have H := Lib.hid h
  have hfr := h.free
  have hlt := h.lt
  have c16 := h.cell 16 (.bool y.due) rfl
  have c17 := h.cell 17 (.bool y.fin) rfl
  have c8 := h.cell 8 (.bool y.ak) rfl
  have c19 := h.cell 19 (.bool y.poll) rfl
  have c3 := h.cell 3 (.int .i64 (y.tr : Int)) rfl
  have c2 := h.cell 2 (.int .i64 (y.out : Int)) rfl
  rw [hk] at c8
  clear h
  go_enter Try.func48, Try.ntmps48
  go_wp2
  go_end0
  exact ⟨rfl, (((((ADo.refl H.out).set 8 (.bool false) { y with ak := false } rfl rfl).set 19 (.bool false) { y with ak := false, poll := false } rfl rfl).set 3 (.int .i64 0) { y with ak := false, poll := false, tr := 0 } rfl rfl).set 2 (.int .i64 0) { y with ak := false, poll := false, tr := 0, out := 0 } rfl rfl).on ((Below.refl _ _).alloc (Nat.le_refl _) _)⟩
set_option maxHeartbeats 1000000 in
theorem fbit_idle (w : World) (pb d : Nat) (y : Ps) (v : Value) (k ns nr : Nat) (i : ByteArray) (h : PAt w pb y v) (hk : y.ak = false) :
    Calls Try.prog 48 #[ptr pb, fmvd d ⟨false, k, true, ns, nr, i⟩] w fun e w' => e = .returned (.tuple #[]) ∧ ADo pb y v w w' := by
  have H := Lib.hid h
  have hfr := h.free
  have hlt := h.lt
  have c16 := h.cell 16 (.bool y.due) rfl
  have c17 := h.cell 17 (.bool y.fin) rfl
  have c8 := h.cell 8 (.bool y.ak) rfl
  have c19 := h.cell 19 (.bool y.poll) rfl
  have c3 := h.cell 3 (.int .i64 (y.tr : Int)) rfl
  have c2 := h.cell 2 (.int .i64 (y.out : Int)) rfl
  rw [hk] at c8
  clear h
  go_enter Try.func48, Try.ntmps48
  go_wp2
  go_end0
  exact ⟨rfl, (ADo.refl H.out).on ((Below.refl _ _).alloc (Nat.le_refl _) _)⟩
set_option maxHeartbeats 1000000 in
theorem fbit_no (w : World) (pb d : Nat) (y : Ps) (v : Value) (k ns nr : Nat) (i : ByteArray) (c : Bool) (h : PAt w pb y v) :
    Calls Try.prog 48 #[ptr pb, fmvd d ⟨c, k, false, ns, nr, i⟩] w fun e w' => e = .returned (.tuple #[]) ∧ ADo pb y v w w' := by
  have H := Lib.hid h
  have hfr := h.free
  have hlt := h.lt
  have c16 := h.cell 16 (.bool y.due) rfl
  have c17 := h.cell 17 (.bool y.fin) rfl
  have c8 := h.cell 8 (.bool y.ak) rfl
  have c19 := h.cell 19 (.bool y.poll) rfl
  have c3 := h.cell 3 (.int .i64 (y.tr : Int)) rfl
  have c2 := h.cell 2 (.int .i64 (y.out : Int)) rfl
  cases c
  · clear h
    go_enter Try.func48, Try.ntmps48
    go_wp2
    go_end0
    exact ⟨rfl, (ADo.refl H.out).on ((Below.refl _ _).alloc (Nat.le_refl _) _)⟩
  · clear h
    go_enter Try.func48, Try.ntmps48
    go_wp2
    go_end0
    exact ⟨rfl, (ADo.refl H.out).on ((Below.refl _ _).alloc (Nat.le_refl _) _)⟩
theorem fbit (w : World) (pb d : Nat) (y : Ps) (v : Value) (f : Fm) (h : PAt w pb y v) :
    Calls Try.prog 48 #[ptr pb, fmvd d f] w fun e w' => e = .returned (.tuple #[]) ∧ ADo pb (Ps.bit f y) v w w' := by
  obtain ⟨c, k, pf, ns, nr, i⟩ := f
  unfold Ps.bit
  dsimp only
  cases pf
  · rw [if_neg (by simp), if_neg (by simp)]; exact fbit_no w pb d y v k ns nr i c h
  cases c
  · rw [if_neg (by simp)]
    by_cases hk : y.ak = true
    · rw [if_pos ⟨rfl, hk⟩]; exact fbit_ask w pb d y v k ns nr i h hk
    · rw [if_neg (by simp [hk])]; exact fbit_idle w pb d y v k ns nr i h (by simpa using hk)
  · rw [if_pos ⟨rfl, rfl⟩]; exact fbit_cmd w pb d y v k ns nr i h
set_option maxHeartbeats 4000000 in
theorem finfo_busy (w : World) (pb d : Nat) (y : Ps) (v : Value) (c : Bool) (k : Nat) (pf : Bool) (ns nr : Nat) (i : ByteArray) (h : PAt w pb y v) (_hv : y.vr < 8) (hns : ns < 256) (hn : ns % 8 = y.vr) (hb : y.bu = true) :
    Calls Try.prog 60 #[ptr pb, fmvd d ⟨c, k, pf, ns, nr, i⟩] w fun e w' => e = .returned (amv noAm) ∧ ADo pb { y with due := true } v w w' := by
  have H1 : Hid (AIn [(w.heap.size + 1, noM TA), (w.heap.size, fmOd d ⟨c, k, pf, ns, nr, i⟩)] pb y v w ((w.alloc (fmOd d ⟨c, k, pf, ns, nr, i⟩)).alloc (noM TA))) := Lib.hid (AIn.first2 h _ _)
  have hlt := h.lt
  have hfr := h.free
  have c1 := h.cell 1 (.int .u8 (y.vr : Int)) rfl
  obtain ⟨vr, hvr⟩ : ∃ vr, y.vr = vr := ⟨_, rfl⟩
  have HV := Lib.hid hvr
  rw [hvr] at c1 _hv hn
  obtain ⟨r, hr0⟩ : ∃ r, Sq.wy vr ns = r := ⟨_, rfl⟩
  have CW := Lib.hid (fun w => Sq.fWay vr ns r (by omega) hns hr0 w)
  have hz : r = 0 := by rw [← hr0]; unfold Sq.wy; omega
  have z0 : ((r : Int) == 0) = true := beq_true (by omega)
  have z0b : (r == 0) = true := by simpa using hz
  clear h hvr hr0 hz hn
  go_enter Try.func60, Try.ntmps60
  go_wp2_with fail
  go_quiet ((go_at_call 56; exact quiet_left (CW.out _)))
  have H2 := Lib.hid (H1.out.drewN nq)
  generalize ((w.alloc (fmOd d ⟨c, k, pf, ns, nr, i⟩)).alloc (noM TA)).drewN nq = w2 at H2 ⊢
  clear H1 hfr c1
  have hfr := H2.out.does.at_.free
  have d1 := H2.out.does.at_.cell 1 (.int .u8 (y.vr : Int)) rfl
  have d6 := H2.out.does.at_.cell 6 (.bool y.bu) rfl
  have d7 := H2.out.does.at_.cell 7 (.bool y.rj) rfl
  have d16 := H2.out.does.at_.cell 16 (.bool y.due) rfl
  have d18 := H2.out.does.at_.cell 18 (.bool y.rej) rfl
  rw [HV.out] at d1
  rw [hb] at d6
  clear hb
  obtain ⟨⟨k0, k1, k2, k3⟩, kf⟩ := cells4 H2.out.at0
  obtain ⟨⟨l0, l1, l2, l3, l4, l5, l6⟩, lf⟩ := cells7 H2.out.tail.at0
  have HZ := Lib.hid (((H2.out).set 16 (.bool true) { y with due := true } rfl rfl).put4 (one_ne (by omega)) (.string ⟨#[]⟩) (.bool false) (.int .i64 0) (.bool false))
  go_wp2
  exact bodyPost_ret (res_am rfl rfl _ _ _ noAm HZ.out.at0 rfl) rfl ⟨rfl, HZ.out.does⟩
set_option maxHeartbeats 4000000 in
theorem finfo_take (w : World) (pb d : Nat) (y : Ps) (v : Value) (c : Bool) (k : Nat) (pf : Bool) (ns nr : Nat) (i : ByteArray) (h : PAt w pb y v) (_hv : y.vr < 8) (hns : ns < 256) (hn : ns % 8 = y.vr) (hb : y.bu = false) :
    Calls Try.prog 60 #[ptr pb, fmvd d ⟨c, k, pf, ns, nr, i⟩] w fun e w' => e = .returned (amv ⟨i, true, 0, false⟩) ∧ ADo pb { y with vr := (y.vr + 1) % 8, rj := false, due := true, rej := false } v w w' := by
  have H1 : Hid (AIn [(w.heap.size + 1, noM TA), (w.heap.size, fmOd d ⟨c, k, pf, ns, nr, i⟩)] pb y v w ((w.alloc (fmOd d ⟨c, k, pf, ns, nr, i⟩)).alloc (noM TA))) := Lib.hid (AIn.first2 h _ _)
  have hlt := h.lt
  have hfr := h.free
  have c1 := h.cell 1 (.int .u8 (y.vr : Int)) rfl
  obtain ⟨vr, hvr⟩ : ∃ vr, y.vr = vr := ⟨_, rfl⟩
  have HV := Lib.hid hvr
  rw [hvr] at c1 _hv hn ⊢
  obtain ⟨r, hr0⟩ : ∃ r, Sq.wy vr ns = r := ⟨_, rfl⟩
  have CW := Lib.hid (fun w => Sq.fWay vr ns r (by omega) hns hr0 w)
  have hz : r = 0 := by rw [← hr0]; unfold Sq.wy; omega
  have z0 : ((r : Int) == 0) = true := beq_true (by omega)
  have z0b : (r == 0) = true := by simpa using hz
  obtain ⟨vr2, hvr2⟩ : ∃ vr2, (vr + 1) % 8 = vr2 := ⟨_, rfl⟩
  have CA := Lib.hid (fun w => Sq.fadd vr 1 vr2 (by omega) (by unfold Sq.ad; omega) w)
  rw [hvr2]
  clear h hvr hr0 hz hn
  go_enter Try.func60, Try.ntmps60
  go_wp2_with fail
  go_quiet ((go_at_call 56; exact quiet_left (CW.out _)))
  have H2 := Lib.hid (H1.out.drewN nq)
  generalize ((w.alloc (fmOd d ⟨c, k, pf, ns, nr, i⟩)).alloc (noM TA)).drewN nq = w2 at H2 ⊢
  clear H1 hfr c1
  have hfr := H2.out.does.at_.free
  have d1 := H2.out.does.at_.cell 1 (.int .u8 (y.vr : Int)) rfl
  have d6 := H2.out.does.at_.cell 6 (.bool y.bu) rfl
  have d7 := H2.out.does.at_.cell 7 (.bool y.rj) rfl
  have d16 := H2.out.does.at_.cell 16 (.bool y.due) rfl
  have d18 := H2.out.does.at_.cell 18 (.bool y.rej) rfl
  rw [HV.out] at d1
  rw [hb] at d6
  clear hb
  obtain ⟨⟨k0, k1, k2, k3⟩, kf⟩ := cells4 H2.out.at0
  obtain ⟨⟨l0, l1, l2, l3, l4, l5, l6⟩, lf⟩ := cells7 H2.out.tail.at0
  have HZ := Lib.hid ((((((H2.out).set 1 (.int .u8 (vr2 : Int)) { y with vr := vr2 } rfl rfl).set 7 (.bool false) { y with vr := vr2, rj := false } rfl rfl).set 16 (.bool true) { y with vr := vr2, rj := false, due := true } rfl rfl).set 18 (.bool false) { y with vr := vr2, rj := false, due := true, rej := false } rfl rfl).put4 (one_ne (by omega)) (.string i) (.bool true) (.int .i64 0) (.bool false))
  go_wp2_with (go_at_call 45; ((with_reducible refine (CA.out _).mono ?_); rintro e w3 ⟨rfl, rfl⟩))
  exact bodyPost_ret (res_am rfl rfl _ _ _ ⟨i, true, 0, false⟩ HZ.out.at0 rfl) rfl ⟨rfl, HZ.out.does⟩
set_option maxHeartbeats 4000000 in
theorem finfo_ask (w : World) (pb d : Nat) (y : Ps) (v : Value) (c : Bool) (k : Nat) (pf : Bool) (ns nr : Nat) (i : ByteArray) (h : PAt w pb y v) (hv : y.vr < 8) (hns : ns < 256) (hn : ¬ ns % 8 = y.vr) (hr : y.rj = false) (hb : y.bu = false) :
    Calls Try.prog 60 #[ptr pb, fmvd d ⟨c, k, pf, ns, nr, i⟩] w fun e w' => e = .returned (amv noAm) ∧ ADo pb { y with rj := true, due := true, rej := true } v w w' := by
  have H1 : Hid (AIn [(w.heap.size + 1, noM TA), (w.heap.size, fmOd d ⟨c, k, pf, ns, nr, i⟩)] pb y v w ((w.alloc (fmOd d ⟨c, k, pf, ns, nr, i⟩)).alloc (noM TA))) := Lib.hid (AIn.first2 h _ _)
  have hlt := h.lt
  have hfr := h.free
  have c1 := h.cell 1 (.int .u8 (y.vr : Int)) rfl
  obtain ⟨vr, hvr⟩ : ∃ vr, y.vr = vr := ⟨_, rfl⟩
  have HV := Lib.hid hvr
  rw [hvr] at c1 hv hn
  obtain ⟨r, hr0⟩ : ∃ r, Sq.wy vr ns = r := ⟨_, rfl⟩
  have CW := Lib.hid (fun w => Sq.fWay vr ns r (by omega) hns hr0 w)
  have hz : ¬ r = 0 := by rw [← hr0]; unfold Sq.wy; omega
  have z0 : ((r : Int) == 0) = false := beq_false (by omega)
  have z0b : (r == 0) = false := by simpa using hz
  clear h hvr hr0 hz hn
  go_enter Try.func60, Try.ntmps60
  go_wp2_with fail
  go_quiet ((go_at_call 56; exact quiet_left (CW.out _)))
  have H2 := Lib.hid (H1.out.drewN nq)
  generalize ((w.alloc (fmOd d ⟨c, k, pf, ns, nr, i⟩)).alloc (noM TA)).drewN nq = w2 at H2 ⊢
  clear H1 hfr c1
  have hfr := H2.out.does.at_.free
  have d1 := H2.out.does.at_.cell 1 (.int .u8 (y.vr : Int)) rfl
  have d6 := H2.out.does.at_.cell 6 (.bool y.bu) rfl
  have d7 := H2.out.does.at_.cell 7 (.bool y.rj) rfl
  have d16 := H2.out.does.at_.cell 16 (.bool y.due) rfl
  have d18 := H2.out.does.at_.cell 18 (.bool y.rej) rfl
  rw [HV.out] at d1
  rw [hr] at d7
  clear hr
  rw [hb] at d6
  clear hb
  obtain ⟨⟨k0, k1, k2, k3⟩, kf⟩ := cells4 H2.out.at0
  obtain ⟨⟨l0, l1, l2, l3, l4, l5, l6⟩, lf⟩ := cells7 H2.out.tail.at0
  have HZ := Lib.hid (((((H2.out).set 7 (.bool true) { y with rj := true } rfl rfl).set 16 (.bool true) { y with rj := true, due := true } rfl rfl).set 18 (.bool true) { y with rj := true, due := true, rej := true } rfl rfl).put4 (one_ne (by omega)) (.string ⟨#[]⟩) (.bool false) (.int .i64 0) (.bool false))
  go_wp2
  exact bodyPost_ret (res_am rfl rfl _ _ _ noAm HZ.out.at0 rfl) rfl ⟨rfl, HZ.out.does⟩
set_option maxHeartbeats 4000000 in
theorem finfo_rj (w : World) (pb d : Nat) (y : Ps) (v : Value) (c : Bool) (k : Nat) (pf : Bool) (ns nr : Nat) (i : ByteArray) (h : PAt w pb y v) (hv : y.vr < 8) (hns : ns < 256) (hn : ¬ ns % 8 = y.vr) (hr : y.rj = true) :
    Calls Try.prog 60 #[ptr pb, fmvd d ⟨c, k, pf, ns, nr, i⟩] w fun e w' => e = .returned (amv noAm) ∧ ADo pb y v w w' := by
  have H1 : Hid (AIn [(w.heap.size + 1, noM TA), (w.heap.size, fmOd d ⟨c, k, pf, ns, nr, i⟩)] pb y v w ((w.alloc (fmOd d ⟨c, k, pf, ns, nr, i⟩)).alloc (noM TA))) := Lib.hid (AIn.first2 h _ _)
  have hlt := h.lt
  have hfr := h.free
  have c1 := h.cell 1 (.int .u8 (y.vr : Int)) rfl
  obtain ⟨vr, hvr⟩ : ∃ vr, y.vr = vr := ⟨_, rfl⟩
  have HV := Lib.hid hvr
  rw [hvr] at c1 hv hn
  obtain ⟨r, hr0⟩ : ∃ r, Sq.wy vr ns = r := ⟨_, rfl⟩
  have CW := Lib.hid (fun w => Sq.fWay vr ns r (by omega) hns hr0 w)
  have hz : ¬ r = 0 := by rw [← hr0]; unfold Sq.wy; omega
  have z0 : ((r : Int) == 0) = false := beq_false (by omega)
  have z0b : (r == 0) = false := by simpa using hz
  clear h hvr hr0 hz hn
  go_enter Try.func60, Try.ntmps60
  go_wp2_with fail
  go_quiet ((go_at_call 56; exact quiet_left (CW.out _)))
  have H2 := Lib.hid (H1.out.drewN nq)
  generalize ((w.alloc (fmOd d ⟨c, k, pf, ns, nr, i⟩)).alloc (noM TA)).drewN nq = w2 at H2 ⊢
  clear H1 hfr c1
  have hfr := H2.out.does.at_.free
  have d1 := H2.out.does.at_.cell 1 (.int .u8 (y.vr : Int)) rfl
  have d6 := H2.out.does.at_.cell 6 (.bool y.bu) rfl
  have d7 := H2.out.does.at_.cell 7 (.bool y.rj) rfl
  have d16 := H2.out.does.at_.cell 16 (.bool y.due) rfl
  have d18 := H2.out.does.at_.cell 18 (.bool y.rej) rfl
  rw [HV.out] at d1
  rw [hr] at d7
  clear hr
  obtain ⟨⟨k0, k1, k2, k3⟩, kf⟩ := cells4 H2.out.at0
  obtain ⟨⟨l0, l1, l2, l3, l4, l5, l6⟩, lf⟩ := cells7 H2.out.tail.at0
  have HZ := Lib.hid ((H2.out).put4 (one_ne (by omega)) (.string ⟨#[]⟩) (.bool false) (.int .i64 0) (.bool false))
  go_wp2
  exact bodyPost_ret (res_am rfl rfl _ _ _ noAm HZ.out.at0 rfl) rfl ⟨rfl, HZ.out.does⟩
set_option maxHeartbeats 4000000 in
theorem finfo_bu (w : World) (pb d : Nat) (y : Ps) (v : Value) (c : Bool) (k : Nat) (pf : Bool) (ns nr : Nat) (i : ByteArray) (h : PAt w pb y v) (hv : y.vr < 8) (hns : ns < 256) (hn : ¬ ns % 8 = y.vr) (hr : y.rj = false) (hb : y.bu = true) :
    Calls Try.prog 60 #[ptr pb, fmvd d ⟨c, k, pf, ns, nr, i⟩] w fun e w' => e = .returned (amv noAm) ∧ ADo pb y v w w' := by
  have H1 : Hid (AIn [(w.heap.size + 1, noM TA), (w.heap.size, fmOd d ⟨c, k, pf, ns, nr, i⟩)] pb y v w ((w.alloc (fmOd d ⟨c, k, pf, ns, nr, i⟩)).alloc (noM TA))) := Lib.hid (AIn.first2 h _ _)
  have hlt := h.lt
  have hfr := h.free
  have c1 := h.cell 1 (.int .u8 (y.vr : Int)) rfl
  obtain ⟨vr, hvr⟩ : ∃ vr, y.vr = vr := ⟨_, rfl⟩
  have HV := Lib.hid hvr
  rw [hvr] at c1 hv hn
  obtain ⟨r, hr0⟩ : ∃ r, Sq.wy vr ns = r := ⟨_, rfl⟩
  have CW := Lib.hid (fun w => Sq.fWay vr ns r (by omega) hns hr0 w)
  have hz : ¬ r = 0 := by rw [← hr0]; unfold Sq.wy; omega
  have z0 : ((r : Int) == 0) = false := beq_false (by omega)
  have z0b : (r == 0) = false := by simpa using hz
  clear h hvr hr0 hz hn
  go_enter Try.func60, Try.ntmps60
  go_wp2_with fail
  go_quiet ((go_at_call 56; exact quiet_left (CW.out _)))
  have H2 := Lib.hid (H1.out.drewN nq)
  generalize ((w.alloc (fmOd d ⟨c, k, pf, ns, nr, i⟩)).alloc (noM TA)).drewN nq = w2 at H2 ⊢
  clear H1 hfr c1
  have hfr := H2.out.does.at_.free
  have d1 := H2.out.does.at_.cell 1 (.int .u8 (y.vr : Int)) rfl
  have d6 := H2.out.does.at_.cell 6 (.bool y.bu) rfl
  have d7 := H2.out.does.at_.cell 7 (.bool y.rj) rfl
  have d16 := H2.out.does.at_.cell 16 (.bool y.due) rfl
  have d18 := H2.out.does.at_.cell 18 (.bool y.rej) rfl
  rw [HV.out] at d1
  rw [hr] at d7
  clear hr
  rw [hb] at d6
  clear hb
  obtain ⟨⟨k0, k1, k2, k3⟩, kf⟩ := cells4 H2.out.at0
  obtain ⟨⟨l0, l1, l2, l3, l4, l5, l6⟩, lf⟩ := cells7 H2.out.tail.at0
  have HZ := Lib.hid ((H2.out).put4 (one_ne (by omega)) (.string ⟨#[]⟩) (.bool false) (.int .i64 0) (.bool false))
  go_wp2
  exact bodyPost_ret (res_am rfl rfl _ _ _ noAm HZ.out.at0 rfl) rfl ⟨rfl, HZ.out.does⟩
theorem finfo (w : World) (pb d : Nat) (y : Ps) (v : Value) (f : Fm) (h : PAt w pb y v) (hv : y.vr < 8) (hns : f.ns < 256) :
    Calls Try.prog 60 #[ptr pb, fmvd d f] w fun e w' => e = .returned (amv (Ps.info f y).2) ∧ ADo pb (Ps.info f y).1 v w w' := by
  obtain ⟨c, k, pf, ns, nr, i⟩ := f
  unfold Ps.info
  dsimp only at hns ⊢
  by_cases hn : ns % 8 = y.vr
  · rw [if_pos hn]
    by_cases hb : y.bu = true
    · rw [if_pos hb]; exact finfo_busy w pb d y v c k pf ns nr i h hv hns hn hb
    · rw [if_neg hb]; exact finfo_take w pb d y v c k pf ns nr i h hv hns hn (by simpa using hb)
  · rw [if_neg hn]
    by_cases hr : y.rj = true
    · rw [if_neg (by simp [hr])]; exact finfo_rj w pb d y v c k pf ns nr i h hv hns hn hr
    have hr : y.rj = false := by simpa using hr
    by_cases hb : y.bu = true
    · rw [if_neg (by simp [hb])]; exact finfo_bu w pb d y v c k pf ns nr i h hv hns hn hr hb
    have hb : y.bu = false := by simpa using hb
    rw [if_pos ⟨hr, hb⟩]; exact finfo_ask w pb d y v c k pf ns nr i h hv hns hn hr hb
set_option maxHeartbeats 1000000 in
theorem fkind_rnr (w : World) (pb d : Nat) (y : Ps) (v : Value) (c : Bool) (k : Nat) (pf : Bool) (ns nr : Nat) (i : ByteArray) (h : PAt w pb y v) (hk : k = 9) :
    Calls Try.prog 47 #[ptr pb, fmvd d ⟨c, k, pf, ns, nr, i⟩] w fun e w' => e = .returned (amv noAm) ∧ ADo pb { y with pb := true, out := 0 } v w w' := by
  have H := Lib.hid h
  have hfr := h.free
  have hlt := h.lt
  have c5 := h.cell 5 (.bool y.pb) rfl
  have c2 := h.cell 2 (.int .i64 (y.out : Int)) rfl
  obtain ⟨kv, hkv⟩ : ∃ kv : Int, (k : Int) = kv := ⟨_, rfl⟩
  have hkv2 : kv = 9 := by omega
  have HF : fmvd d ⟨c, k, pf, ns, nr, i⟩ = .agg #[.int .u8 (d : Int), .bool c, .int .u8 9, .bool pf, .int .u8 (ns : Int), .int .u8 (nr : Int), .string i] := by rw [← hkv2, ← hkv]
  rw [HF]
  clear h HF hkv hkv2 hk
  go_enter Try.func47, Try.ntmps47
  go_wp2
  exact bodyPost_ret (v := amv noAm) (by simp [results, Try.results47, go_sem, noAm, bE]) rfl ⟨rfl, ADo.two (((ADo.refl H.out).set 5 (.bool true) { y with pb := true } rfl rfl).set 2 (.int .i64 0) { y with pb := true, out := 0 } rfl rfl) _ _⟩
set_option maxHeartbeats 1000000 in
theorem fkind_rej (w : World) (pb d : Nat) (y : Ps) (v : Value) (c : Bool) (k : Nat) (pf : Bool) (ns nr : Nat) (i : ByteArray) (h : PAt w pb y v) (hk : k = 10) :
    Calls Try.prog 47 #[ptr pb, fmvd d ⟨c, k, pf, ns, nr, i⟩] w fun e w' => e = .returned (amv noAm) ∧ ADo pb { y with out := 0, pb := false } v w w' := by
  have H := Lib.hid h
  have hfr := h.free
  have hlt := h.lt
  have c5 := h.cell 5 (.bool y.pb) rfl
  have c2 := h.cell 2 (.int .i64 (y.out : Int)) rfl
  obtain ⟨kv, hkv⟩ : ∃ kv : Int, (k : Int) = kv := ⟨_, rfl⟩
  have hkv2 : kv = 10 := by omega
  have HF : fmvd d ⟨c, k, pf, ns, nr, i⟩ = .agg #[.int .u8 (d : Int), .bool c, .int .u8 10, .bool pf, .int .u8 (ns : Int), .int .u8 (nr : Int), .string i] := by rw [← hkv2, ← hkv]
  rw [HF]
  clear h HF hkv hkv2 hk
  go_enter Try.func47, Try.ntmps47
  go_wp2
  exact bodyPost_ret (v := amv noAm) (by simp [results, Try.results47, go_sem, noAm, bE]) rfl ⟨rfl, ADo.two (((ADo.refl H.out).set 2 (.int .i64 0) { y with out := 0 } rfl rfl).set 5 (.bool false) { y with out := 0, pb := false } rfl rfl) _ _⟩
set_option maxHeartbeats 1000000 in
theorem fkind_rr (w : World) (pb d : Nat) (y : Ps) (v : Value) (c : Bool) (k : Nat) (pf : Bool) (ns nr : Nat) (i : ByteArray) (h : PAt w pb y v) (hk : k = 8) :
    Calls Try.prog 47 #[ptr pb, fmvd d ⟨c, k, pf, ns, nr, i⟩] w fun e w' => e = .returned (amv noAm) ∧ ADo pb { y with pb := false } v w w' := by
  have H := Lib.hid h
  have hfr := h.free
  have hlt := h.lt
  have c5 := h.cell 5 (.bool y.pb) rfl
  have c2 := h.cell 2 (.int .i64 (y.out : Int)) rfl
  obtain ⟨kv, hkv⟩ : ∃ kv : Int, (k : Int) = kv := ⟨_, rfl⟩
  have hkv2 : kv = 8 := by omega
  have HF : fmvd d ⟨c, k, pf, ns, nr, i⟩ = .agg #[.int .u8 (d : Int), .bool c, .int .u8 8, .bool pf, .int .u8 (ns : Int), .int .u8 (nr : Int), .string i] := by rw [← hkv2, ← hkv]
  rw [HF]
  clear h HF hkv hkv2 hk
  go_enter Try.func47, Try.ntmps47
  go_wp2
  exact bodyPost_ret (v := amv noAm) (by simp [results, Try.results47, go_sem, noAm, bE]) rfl ⟨rfl, ADo.two ((ADo.refl H.out).set 5 (.bool false) { y with pb := false } rfl rfl) _ _⟩
set_option maxHeartbeats 2000000 in
theorem fkind_i (w : World) (pb d : Nat) (y : Ps) (v : Value) (c : Bool) (k : Nat) (pf : Bool) (ns nr : Nat) (i : ByteArray) (h : PAt w pb y v) (hk : k = 7) (hv : y.vr < 8) (hns : ns < 256) :
    Calls Try.prog 47 #[ptr pb, fmvd d ⟨c, k, pf, ns, nr, i⟩] w fun e w' => e = .returned (amv (Ps.info ⟨c, k, pf, ns, nr, i⟩ y).2) ∧ ADo pb (Ps.info ⟨c, k, pf, ns, nr, i⟩ y).1 v w w' := by
  have H1 : Hid (AIn [(w.heap.size + 1, noM TA), (w.heap.size, fmOd d ⟨c, k, pf, ns, nr, i⟩)] pb y v w ((w.alloc (fmOd d ⟨c, k, pf, ns, nr, i⟩)).alloc (noM TA))) := Lib.hid (AIn.first2 h _ _)
  have CI := Lib.hid (finfo _ pb d y v ⟨c, k, pf, ns, nr, i⟩ H1.out.does.at_ hv hns)
  generalize hr : Ps.info ⟨c, k, pf, ns, nr, i⟩ y = r at CI ⊢
  obtain ⟨y2, m⟩ := r
  have hkv : (k : Int) = 7 := by omega
  rw [show fmvd d ⟨c, k, pf, ns, nr, i⟩ = .agg #[.int .u8 (d : Int), .bool c, .int .u8 7, .bool pf, .int .u8 (ns : Int), .int .u8 (nr : Int), .string i] by rw [← hkv]] at CI ⊢
  rw [show fmOd d ⟨c, k, pf, ns, nr, i⟩ = .cells #[.int .u8 (d : Int), .bool c, .int .u8 7, .bool pf, .int .u8 (ns : Int), .int .u8 (nr : Int), .string i] TF (0, 0) by rw [← hkv]] at CI H1
  clear h hr hk hkv
  go_enter Try.func47, Try.ntmps47
  go_wp2_with fail
  refine CI.out.mono ?_
  rintro _ w2 ⟨rfl, hd⟩
  have H2 := Lib.hid (H1.out.next hd)
  clear hd CI H1
  obtain ⟨⟨k0, k1, k2, k3⟩, kf⟩ := cells4 H2.out.at0
  have HZ := Lib.hid (H2.out.put4 (one_ne (by omega)) (.string m.i) (.bool m.taken) (.int .i64 (m.acked : Int)) (.bool m.failed))
  go_wp2
  exact bodyPost_ret (res_am rfl rfl _ _ _ m HZ.out.at0 rfl) rfl ⟨rfl, HZ.out.does⟩
theorem fkind (w : World) (pb d : Nat) (y : Ps) (v : Value) (f : Fm) (h : PAt w pb y v) (hv : y.vr < 8) (hns : f.ns < 256) (hk : f.k = 7 ∨ f.k = 8 ∨ f.k = 9 ∨ f.k = 10) :
    Calls Try.prog 47 #[ptr pb, fmvd d f] w fun e w' => e = .returned (amv (Ps.kinds f y).2) ∧ ADo pb (Ps.kinds f y).1 v w w' := by
  obtain ⟨c, k, pf, ns, nr, i⟩ := f
  unfold Ps.kinds
  dsimp only at hk hns ⊢
  rcases hk with hk | hk | hk | hk
  · rw [if_pos hk]; exact fkind_i w pb d y v c k pf ns nr i h hk hv hns
  · rw [if_neg (by omega), if_neg (by omega), if_neg (by omega), if_pos hk]; exact fkind_rr w pb d y v c k pf ns nr i h hk
  · rw [if_neg (by omega), if_pos hk]; exact fkind_rnr w pb d y v c k pf ns nr i h hk
  · rw [if_neg (by omega), if_neg (by omega), if_pos hk]; exact fkind_rej w pb d y v c k pf ns nr i h hk
/-- Within Hear: that side, what waits in the block that it lay in, and blocks of the call's own. -/
structure HIn (m : List (Nat × Obj)) (pb : Nat) (y : Ps) (v u : Value) (w w1 : World) : Prop where
  at_ : PAt w1 pb y u
  chg : Chg (fun k => k = pb ∨ v.ownBlock = some k) w w1
  own : u.ownBlock = v.ownBlock
  lt : pb < w.heap.size
  q : ∀ g, v.ownBlock = some g → g < w.heap.size
  new : ∀ x ∈ m, w.heap.size ≤ x.1 ∧ w1.heap[x.1]? = some x.2
section
variable {m m' : List (Nat × Obj)} {pb b : Nat} {x y : Ps} {v u u' : Value} {w w' w1 w2 : World} {o : Obj}
theorem HIn.of (h : AIn m pb y v w w1) : HIn m pb y v v w w1 := ⟨h.does.at_, h.does.chg.mono fun _ e => Or.inl e, rfl, h.lt, h.q, h.new⟩
theorem HIn.acked (h : HIn m pb x v u w w1) (h2 : QDo pb y u u' w1 w2) (ho : u'.ownBlock = u.ownBlock) : HIn m pb y v u' w w2 :=
  ⟨h2.at_, h.chg.then (h2.chg.mono fun _ e => e.imp id fun e => by rw [← h.own]; exact e), ho.trans h.own, h.lt, h.q, fun z hz => ⟨(h.new z hz).1, h2.chg.stays (h.new z hz).2 (fun e => by
    have h3 := (h.new z hz).1
    rcases e with e | e
    · have := h.lt; omega
    · rw [h.own] at e; have := h.q _ e; omega)⟩⟩
theorem HIn.next (h : HIn m pb x v u w w1) (h2 : ADo pb y u w1 w2) : HIn m pb y v u w w2 := h.acked (QDo.of h2) rfl
theorem HIn.below (h : HIn m pb y v u w w1) (hb : Below w1.heap.size w1 w2) : HIn m pb y v u w w2 := ⟨h.at_.below hb, h.chg.on hb, h.own, h.lt, h.q, fun z hz => ⟨(h.new z hz).1, stays (h.new z hz).2 hb⟩⟩
theorem HIn.alloc (h : HIn m pb y v u w w1) (o : Obj) : HIn ((w1.heap.size, o) :: m) pb y v u w (w1.alloc o) :=
  ⟨h.at_.below ((Below.refl _ _).alloc (Nat.le_refl _) o), h.chg.alloc o, h.own, h.lt, h.q, fun z hz => by
    rcases List.mem_cons.1 hz with rfl | hz
    · exact ⟨h.chg.size, nest w1 [_] 0 _ rfl⟩
    · exact ⟨(h.new z hz).1, stays (h.new z hz).2 ((Below.refl _ _).alloc (Nat.le_refl _) o)⟩⟩
theorem HIn.wr (h : HIn m pb y v u w w1) (hc : Chg (fun k => k = b) w1 w2) (hb : w.heap.size ≤ b) (hm : ∀ x ∈ m', w.heap.size ≤ x.1 ∧ w2.heap[x.1]? = some x.2) : HIn m' pb y v u w w2 :=
  ⟨⟨hc.stays h.at_.blk (by have := h.lt; omega), h.at_.q.eqv fun g hg => hc.block g (h.at_.q.lt g hg).2 (by have := h.q g (h.own ▸ hg); omega)⟩, h.chg.trans hc (fun k hk e => by omega), h.own, h.lt, h.q, hm⟩
theorem HIn.at0 (h : HIn ((b, o) :: m) pb y v u w w1) : w1.heap[b]? = some o := (h.new _ (List.mem_cons_self ..)).2
theorem HIn.lo0 (h : HIn ((b, o) :: m) pb y v u w w1) : w.heap.size ≤ b := (h.new _ (List.mem_cons_self ..)).1
theorem HIn.tail (h : HIn ((b, o) :: m) pb y v u w w1) : HIn m pb y v u w w1 := ⟨h.at_, h.chg, h.own, h.lt, h.q, fun x hx => h.new x (List.mem_cons_of_mem _ hx)⟩
theorem HIn.put (h : HIn ((b, o) :: m) pb y v u w w1) (hc : Chg (fun k => k = b) w1 w2) {o2 : Obj} (ho : w2.heap[b]? = some o2) (hm : ∀ x ∈ m, x.1 ≠ b) : HIn ((b, o2) :: m) pb y v u w w2 :=
  h.wr hc h.lo0 fun x hx => by
    rcases List.mem_cons.1 hx with rfl | hx
    · exact ⟨h.lo0, ho⟩
    · have := h.new x (List.mem_cons_of_mem _ hx)
      exact ⟨this.1, hc.stays this.2 (hm x hx)⟩
theorem HIn.swap {b' : Nat} {o' : Obj} (h : HIn ((b, o) :: (b', o') :: m) pb y v u w w1) : HIn ((b', o') :: (b, o) :: m) pb y v u w w1 :=
  ⟨h.at_, h.chg, h.own, h.lt, h.q, fun x hx => h.new x (by
    rcases List.mem_cons.1 hx with rfl | hx
    · exact List.mem_cons_of_mem _ (List.mem_cons_self ..)
    · rcases List.mem_cons.1 hx with rfl | hx
      · exact List.mem_cons_self ..
      · exact List.mem_cons_of_mem _ (List.mem_cons_of_mem _ hx))⟩
theorem HIn.put4 {u0 u1 u2 u3 : Value} {t : TypeId} (h : HIn ((b, .cells #[u0, u1, u2, u3] t (0, 0)) :: m) pb y v u w w1) (hm : ∀ x ∈ m, x.1 ≠ b) (v0 v1 v2 v3 : Value) : HIn ((b, .cells #[v0, v1, v2, v3] t (0, 0)) :: m) pb y v u w (set4 w1 b v0 v1 v2 v3) :=
  h.put (chg_set4 (S := fun k => k = b) (Chg.refl _ _) (fun _ => rfl) _ _ _ _) (set4_at h.at0 _ _ _ _) hm
theorem HIn.puta {a : Am} (h : HIn ((b, mO a TA) :: m) pb y v u w w1) (n : Nat) (hm : ∀ x ∈ m, x.1 ≠ b) : HIn ((b, mO { a with acked := n } TA) :: m) pb y v u w (w1.setCell ⟨b, 2, none⟩ (nm n)) :=
  h.put (Chg.set (S := fun k => k = b) b 2 _ rfl w1) (block_set (i := 2) h.at0 _) hm
theorem HIn.out (h : HIn m pb y v u w w1) : QDo pb y v u w w1 := ⟨h.at_, h.chg, Or.inl h.own⟩
end
theorem two_ne {a b c : Nat} {o p : Obj} (h : a ≠ c) (h' : b ≠ c) : ∀ x ∈ [(a, o), (b, p)], x.1 ≠ c := fun x hx => by
  rcases List.mem_cons.1 hx with rfl | hx
  · exact h
  · obtain rfl := List.mem_singleton.1 hx
    exact h'
theorem fack' (w : World) (pb : Nat) (y : Ps) (v : Value) (n : Nat) (h : PAt w pb y v) (hf : PFit y) (hn : n ≤ y.hi) :
    Calls Try.prog 46 #[ptr pb, .int .i64 (n : Int)] w fun e w' => e = .returned (.tuple #[]) ∧ ∃ u, QDo pb (Ps.ack n y) v u w w' ∧ u.ownBlock = v.ownBlock := by
  by_cases h0 : n = 0
  · subst h0
    exact (fack_no w pb).mono fun e w' ⟨h1, h2⟩ => ⟨h1, v, by cases h2; exact ⟨QDo.of (by rw [show Ps.ack 0 y = y from if_pos rfl]; exact ADo.refl h), rfl⟩⟩
  · rcases h.q with ⟨_, hq⟩ | ⟨g, off, cap, rfl, _, hR⟩
    · have := hf.hi
      rw [hq, List.length_nil] at this
      omega
    · exact (fack_do w pb y g off cap n h hR hf (by omega) hn).mono fun e w' ⟨h1, h2⟩ => ⟨h1, _, h2, rfl⟩
set_option maxHeartbeats 2000000 in
theorem fhear_fl (w : World) (pb d : Nat) (y : Ps) (v : Value) (c : Bool) (k : Nat) (pf : Bool) (ns nr : Nat) (i : ByteArray) (h : PAt w pb y v) (hl : y.fl = true) :
    Calls Try.prog 24 #[ptr pb, fmvd d ⟨c, k, pf, ns, nr, i⟩] w fun e w' => e = .returned (amv noAm) ∧ ADo pb y v w w' := by
  have H := Lib.hid h
  have H1 : Hid (AIn [(w.heap.size + 1, noM TA), (w.heap.size, fmOd d ⟨c, k, pf, ns, nr, i⟩)] pb y v w ((w.alloc (fmOd d ⟨c, k, pf, ns, nr, i⟩)).alloc (noM TA))) := Lib.hid (AIn.first2 h _ _)
  have C1 := Lib.hid (flives _ pb y v H1.out.does.at_)
  rw [hl] at C1
  clear h H1
  go_enter Try.func24, Try.ntmps24
  go_wp2_with (go_at_call 34; ((with_reducible refine C1.out.mono ?_); rintro e w' ⟨rfl, rfl⟩))
  exact bodyPost_ret (v := amv noAm) (by simp [results, Try.results24, go_sem, noAm, bE]) rfl ⟨rfl, ADo.two (ADo.refl H.out) _ _⟩
set_option maxHeartbeats 2000000 in
theorem fhear_lo (w : World) (pb d : Nat) (y : Ps) (v : Value) (c : Bool) (k : Nat) (pf : Bool) (ns nr : Nat) (i : ByteArray) (h : PAt w pb y v) (hl : y.fl = false) (hk : k < 7) :
    Calls Try.prog 24 #[ptr pb, fmvd d ⟨c, k, pf, ns, nr, i⟩] w fun e w' => e = .returned (amv noAm) ∧ ADo pb y v w w' := by
  have H := Lib.hid h
  have H1 : Hid (AIn [(w.heap.size + 1, noM TA), (w.heap.size, fmOd d ⟨c, k, pf, ns, nr, i⟩)] pb y v w ((w.alloc (fmOd d ⟨c, k, pf, ns, nr, i⟩)).alloc (noM TA))) := Lib.hid (AIn.first2 h _ _)
  have C1 := Lib.hid (flives _ pb y v H1.out.does.at_)
  rw [hl] at C1
  have g0 : decide ((k : Int) < 7) = true := decide_eq_true (by omega)
  have g0b : decide (k < 7) = true := decide_eq_true hk
  clear h H1
  go_enter Try.func24, Try.ntmps24
  go_wp2_with (go_at_call 34; ((with_reducible refine C1.out.mono ?_); rintro e w' ⟨rfl, rfl⟩))
  exact bodyPost_ret (v := amv noAm) (by simp [results, Try.results24, go_sem, noAm, bE]) rfl ⟨rfl, ADo.two (ADo.refl H.out) _ _⟩
set_option maxHeartbeats 2000000 in
theorem fhear_hi (w : World) (pb d : Nat) (y : Ps) (v : Value) (c : Bool) (k : Nat) (pf : Bool) (ns nr : Nat) (i : ByteArray) (h : PAt w pb y v) (hl : y.fl = false) (hk : 10 < k) :
    Calls Try.prog 24 #[ptr pb, fmvd d ⟨c, k, pf, ns, nr, i⟩] w fun e w' => e = .returned (amv noAm) ∧ ADo pb y v w w' := by
  have H := Lib.hid h
  have H1 : Hid (AIn [(w.heap.size + 1, noM TA), (w.heap.size, fmOd d ⟨c, k, pf, ns, nr, i⟩)] pb y v w ((w.alloc (fmOd d ⟨c, k, pf, ns, nr, i⟩)).alloc (noM TA))) := Lib.hid (AIn.first2 h _ _)
  have C1 := Lib.hid (flives _ pb y v H1.out.does.at_)
  rw [hl] at C1
  have g0 : decide ((k : Int) < 7) = false := decide_eq_false (by omega)
  have g0b : decide (k < 7) = false := decide_eq_false (by omega)
  have g1 : decide (10 < (k : Int)) = true := decide_eq_true (by omega)
  have g1b : decide (10 < k) = true := decide_eq_true hk
  clear h H1
  go_enter Try.func24, Try.ntmps24
  go_wp2_with (go_at_call 34; ((with_reducible refine C1.out.mono ?_); rintro e w' ⟨rfl, rfl⟩))
  exact bodyPost_ret (v := amv noAm) (by simp [results, Try.results24, go_sem, noAm, bE]) rfl ⟨rfl, ADo.two (ADo.refl H.out) _ _⟩
set_option maxHeartbeats 4000000 in
theorem fhear_fail (w : World) (pb d : Nat) (y : Ps) (v : Value) (c : Bool) (k : Nat) (pf : Bool) (ns nr : Nat) (i : ByteArray) (h : PAt w pb y v) (hf : PFit y) (hl : y.fl = false) (hk7 : 7 ≤ k) (hk10 : k ≤ 10) (hnr : nr < 256) (hq : y.hi < Ps.far y nr) :
    Calls Try.prog 24 #[ptr pb, fmvd d ⟨c, k, pf, ns, nr, i⟩] w fun e w' => e = .returned (amv ⟨bE, false, 0, true⟩) ∧ ADo pb (Ps.fail y) v w w' := by
  have H1 : Hid (AIn [(w.heap.size + 1, noM TA), (w.heap.size, fmOd d ⟨c, k, pf, ns, nr, i⟩)] pb y v w ((w.alloc (fmOd d ⟨c, k, pf, ns, nr, i⟩)).alloc (noM TA))) := Lib.hid (AIn.first2 h _ _)
  have C1 := Lib.hid (flives _ pb y v H1.out.does.at_)
  rw [hl] at C1
  have hlt := h.lt
  have hfr := h.free
  have g0 : decide ((k : Int) < 7) = false := decide_eq_false (by omega)
  have g0b : decide (k < 7) = false := decide_eq_false (by omega)
  have g1 : decide (10 < (k : Int)) = false := decide_eq_false (by omega)
  have g1b : decide (10 < k) = false := decide_eq_false (by omega)
  have c0 := h.cell 0 (.int .u8 (y.va : Int)) rfl
  have c15 := h.cell 15 (.int .i64 (y.hi : Int)) rfl
  have hva := hf.va
  have hhi : y.hi ≤ 7 := by have := hf.hi; have := hf.q; omega
  have HF := Lib.hid hf
  obtain ⟨va, hva2⟩ : ∃ va, y.va = va := ⟨_, rfl⟩
  obtain ⟨hi, hhi2⟩ : ∃ hi, y.hi = hi := ⟨_, rfl⟩
  obtain ⟨n, hn⟩ : ∃ n, Ps.far y nr = n := ⟨_, rfl⟩
  have HVA := Lib.hid hva2
  have HHI := Lib.hid hhi2
  rw [hn, hhi2] at hq
  have HQ := Lib.hid hq
  have HN := Lib.hid hn
  have hn2 := hn
  unfold Ps.far at hn2
  rw [hva2] at c0 hva hn2
  rw [hhi2] at c15 hhi
  obtain ⟨vs, hvs⟩ : ∃ vs, (va + hi) % 8 = vs := ⟨_, rfl⟩
  have CA := Lib.hid (fun w => Sq.fadd va hi vs (by omega) (by unfold Sq.ad; omega) w)
  have hw1 : Sq.wy va nr = n := by unfold Sq.wy; omega
  have hw2 : Sq.wy va vs = hi := by unfold Sq.wy; omega
  have CK := Lib.hid (fun w => Sq.fAcks va vs nr 0 false (by omega) (by omega) hnr (by unfold Sq.acN; rw [hw1, hw2, if_pos hq]) (by unfold Sq.acB; rw [hw1, hw2]; exact decide_eq_false (by omega)) w)
  clear h hf hva2 hhi2 hn hn2 hvs hw1 hw2 hq
  go_enter Try.func24, Try.ntmps24
  go_wp2_with (go_at_call 34; ((with_reducible refine C1.out.mono ?_); rintro e w' ⟨rfl, rfl⟩))
  go_quiet ((first | (go_at_call 45; exact quiet_left (CA.out _)) | (go_at_call 44; exact quiet_left (CK.out _))))
  have H2 := Lib.hid (H1.out.drewN nq)
  generalize ((w.alloc (fmOd d ⟨c, k, pf, ns, nr, i⟩)).alloc (noM TA)).drewN nq = w2 at H2 ⊢
  clear H1 hfr c0 c15 C1
  have CF := Lib.hid (ffail _ pb _ v H2.out.does.at_)
  go_wp2_with fail
  refine CF.out.mono ?_
  rintro _ w3 ⟨rfl, hd⟩
  have H3 := Lib.hid (H2.out.next hd)
  clear hd CF H2
  obtain ⟨⟨k0, k1, k2, k3⟩, kf⟩ := cells4 H3.out.at0
  have HZ := Lib.hid (H3.out.put4 (one_ne (by omega)) (.string bE) (.bool false) (nm 0) (.bool true))
  go_wp2
  exact bodyPost_ret (res_am rfl rfl _ _ _ ⟨bE, false, 0, true⟩ HZ.out.at0 rfl) rfl ⟨rfl, HZ.out.does⟩
set_option maxHeartbeats 8000000 in
theorem fhear_do (w : World) (pb d : Nat) (y : Ps) (v : Value) (c : Bool) (k : Nat) (pf : Bool) (ns nr : Nat) (i : ByteArray) (h : PAt w pb y v) (hf : PFit y) (hl : y.fl = false) (hk7 : 7 ≤ k) (hk10 : k ≤ 10) (hns : ns < 256) (hnr : nr < 256) (hq : ¬ y.hi < Ps.far y nr) :
    Calls Try.prog 24 #[ptr pb, fmvd d ⟨c, k, pf, ns, nr, i⟩] w fun e w' => e = .returned (amv { (Ps.kinds ⟨c, k, pf, ns, nr, i⟩ (Ps.ack (Ps.far y nr) y)).2 with acked := Ps.far y nr }) ∧ ∃ u, QDo pb (Ps.count (decide (0 < Ps.far y nr)) (Ps.bit ⟨c, k, pf, ns, nr, i⟩ (Ps.kinds ⟨c, k, pf, ns, nr, i⟩ (Ps.ack (Ps.far y nr) y)).1)) v u w w' := by
  have H1 : Hid (AIn [(w.heap.size + 1, noM TA), (w.heap.size, fmOd d ⟨c, k, pf, ns, nr, i⟩)] pb y v w ((w.alloc (fmOd d ⟨c, k, pf, ns, nr, i⟩)).alloc (noM TA))) := Lib.hid (AIn.first2 h _ _)
  have C1 := Lib.hid (flives _ pb y v H1.out.does.at_)
  rw [hl] at C1
  have hlt := h.lt
  have hfr := h.free
  have g0 : decide ((k : Int) < 7) = false := decide_eq_false (by omega)
  have g0b : decide (k < 7) = false := decide_eq_false (by omega)
  have g1 : decide (10 < (k : Int)) = false := decide_eq_false (by omega)
  have g1b : decide (10 < k) = false := decide_eq_false (by omega)
  have c0 := h.cell 0 (.int .u8 (y.va : Int)) rfl
  have c15 := h.cell 15 (.int .i64 (y.hi : Int)) rfl
  have hva := hf.va
  have hhi : y.hi ≤ 7 := by have := hf.hi; have := hf.q; omega
  have HF := Lib.hid hf
  obtain ⟨va, hva2⟩ : ∃ va, y.va = va := ⟨_, rfl⟩
  obtain ⟨hi, hhi2⟩ : ∃ hi, y.hi = hi := ⟨_, rfl⟩
  obtain ⟨n, hn⟩ : ∃ n, Ps.far y nr = n := ⟨_, rfl⟩
  have HVA := Lib.hid hva2
  have HHI := Lib.hid hhi2
  rw [hn, hhi2] at hq
  have HQ := Lib.hid hq
  have HN := Lib.hid hn
  have hn2 := hn
  unfold Ps.far at hn2
  rw [hva2] at c0 hva hn2
  rw [hhi2] at c15 hhi
  obtain ⟨vs, hvs⟩ : ∃ vs, (va + hi) % 8 = vs := ⟨_, rfl⟩
  have CA := Lib.hid (fun w => Sq.fadd va hi vs (by omega) (by unfold Sq.ad; omega) w)
  have hw1 : Sq.wy va nr = n := by unfold Sq.wy; omega
  have hw2 : Sq.wy va vs = hi := by unfold Sq.wy; omega
  have CK := Lib.hid (fun w => Sq.fAcks va vs nr n true (by omega) (by omega) hnr (by unfold Sq.acN; rw [hw1, hw2, if_neg hq]) (by unfold Sq.acB; rw [hw1, hw2]; exact decide_eq_true (by omega)) w)
  rw [hn]
  have HK : Hid (∀ w1 u, PAt w1 pb (Ps.ack n y) u → Calls Try.prog 47 #[ptr pb, fmvd d ⟨c, k, pf, ns, nr, i⟩] w1 fun e w' => e = .returned (amv (Ps.kinds ⟨c, k, pf, ns, nr, i⟩ (Ps.ack n y)).2) ∧ ADo pb (Ps.kinds ⟨c, k, pf, ns, nr, i⟩ (Ps.ack n y)).1 u w1 w') := Lib.hid fun w1 u h1 => fkind w1 pb d _ u ⟨c, k, pf, ns, nr, i⟩ h1 (by unfold Ps.ack; split; exact hf.vr; exact hf.vr) hns (by dsimp only; omega)
  generalize hr : Ps.kinds ⟨c, k, pf, ns, nr, i⟩ (Ps.ack n y) = r at HK ⊢
  obtain ⟨y2, m⟩ := r
  have HB : Hid (∀ w1 u, PAt w1 pb y2 u → Calls Try.prog 48 #[ptr pb, fmvd d ⟨c, k, pf, ns, nr, i⟩] w1 fun e w' => e = .returned (.tuple #[]) ∧ ADo pb (Ps.bit ⟨c, k, pf, ns, nr, i⟩ y2) u w1 w') := Lib.hid fun w1 u h1 => fbit w1 pb d y2 u ⟨c, k, pf, ns, nr, i⟩ h1
  generalize Ps.bit ⟨c, k, pf, ns, nr, i⟩ y2 = y3 at HB ⊢
  obtain ⟨b0, hb0⟩ : ∃ b0, decide (0 < n) = b0 := ⟨_, rfl⟩
  have gb : decide ((0 : Int) < (n : Int)) = b0 := by rw [← hb0]; exact decide_eq_decide.2 (by omega)
  rw [hb0]
  clear h hf hva2 hhi2 hn hn2 hvs hw1 hw2 hq hr
  go_enter Try.func24, Try.ntmps24
  go_wp2_with (go_at_call 34; ((with_reducible refine C1.out.mono ?_); rintro e w' ⟨rfl, rfl⟩))
  go_quiet ((first | (go_at_call 45; exact quiet_left (CA.out _)) | (go_at_call 44; exact quiet_left (CK.out _))))
  have H2 := Lib.hid (HIn.of (H1.out.drewN nq))
  generalize ((w.alloc (fmOd d ⟨c, k, pf, ns, nr, i⟩)).alloc (noM TA)).drewN nq = w2 at H2 ⊢
  clear H1 hfr c0 c15 C1
  have CAC := Lib.hid (fack' _ pb y v n H2.out.at_ HF.out (by have := HQ.out; have := HHI.out; omega))
  go_wp2_with fail
  refine CAC.out.mono ?_
  rintro _ w3 ⟨rfl, u, hd, hu⟩
  have H3 := Lib.hid (H2.out.acked hd hu)
  clear hd hu CAC H2
  obtain ⟨⟨l0, l1, l2, l3, l4, l5, l6⟩, lf⟩ := cells7 H3.out.tail.at0
  go_wp2_with fail
  refine (HK.out _ _ H3.out.at_).mono ?_
  rintro _ w4 ⟨rfl, hd⟩
  have H4 := Lib.hid (H3.out.next hd)
  clear hd HK H3 l0 l1 l2 l3 l4 l5 l6 lf
  have hab : w.heap.size + 1 < w4.heap.size := lt_heap H4.out.at0
  obtain ⟨ab, hab2⟩ : ∃ ab, w4.heap.size = ab := ⟨_, rfl⟩
  rw [hab2] at hab
  have H5 : Hid (HIn [(ab, mO { m with acked := n } TA), (w.heap.size + 1, noM TA), (w.heap.size, fmOd d ⟨c, k, pf, ns, nr, i⟩)] pb y2 v u w (w4.alloc (.cells #[.string m.i, .bool m.taken, .int .i64 (n : Int), .bool m.failed] TA (0, 0)))) := Lib.hid (hab2 ▸ H4.out.alloc _)
  have HAB := Lib.hid hab2
  clear hab2
  obtain ⟨⟨l0, l1, l2, l3, l4, l5, l6⟩, lf⟩ := cells7 H4.out.tail.at0
  have hfs : w.heap.size < w4.heap.size := lt_heap H4.out.tail.at0
  go_wp2_with fail
  refine (HB.out _ u H5.out.at_).mono ?_
  rintro _ w5 ⟨rfl, hd⟩
  have H6 := Lib.hid (H5.out.next hd)
  clear hd HB H4 H5 l0 l1 l2 l3 l4 l5 l6 lf
  go_wp2_with fail
  refine (fcount _ pb y3 u b0 H6.out.at_).mono ?_
  rintro _ w6 ⟨rfl, hd⟩
  have H7 := Lib.hid (H6.out.next hd)
  clear hd H6
  rw [HAB.out]
  rw [HAB.out] at hfs
  obtain ⟨⟨l0, l1, l2, l3⟩, lf⟩ := cells4 (show w6.heap[ab]? = some (.cells #[.string m.i, .bool m.taken, .int .i64 (n : Int), .bool m.failed] TA (0, 0)) from H7.out.at0)
  obtain ⟨⟨k0, k1, k2, k3⟩, kf⟩ := cells4 H7.out.tail.at0
  have HZ := Lib.hid (H7.out.swap.put4 (two_ne (by omega) (by omega)) (.string m.i) (.bool m.taken) (.int .i64 (n : Int)) (.bool m.failed))
  go_wp2
  exact bodyPost_ret (res_am rfl rfl _ _ _ { m with acked := n } HZ.out.at0 rfl) rfl ⟨rfl, u, HZ.out.out⟩
theorem fhear (w : World) (pb d : Nat) (y : Ps) (v : Value) (f : Fm) (h : PAt w pb y v) (hf : PFit y) (hns : f.ns < 256) (hnr : f.nr < 256) :
    Calls Try.prog 24 #[ptr pb, fmvd d f] w fun e w' => e = .returned (amv (Ps.hear f y).2) ∧ ∃ u, QDo pb (Ps.hear f y).1 v u w w' := by
  obtain ⟨c, k, pf, ns, nr, i⟩ := f
  unfold Ps.hear
  dsimp only at hns hnr ⊢
  by_cases hl : y.fl = true
  · rw [if_pos (Or.inl hl)]
    exact (fhear_fl w pb d y v c k pf ns nr i h hl).mono fun _ _ ⟨h1, h2⟩ => ⟨h1, v, QDo.of h2⟩
  have hl : y.fl = false := by simpa using hl
  by_cases hk7 : k < 7
  · rw [if_pos (Or.inr (Or.inl hk7))]
    exact (fhear_lo w pb d y v c k pf ns nr i h hl hk7).mono fun _ _ ⟨h1, h2⟩ => ⟨h1, v, QDo.of h2⟩
  by_cases hk10 : 10 < k
  · rw [if_pos (Or.inr (Or.inr hk10))]
    exact (fhear_hi w pb d y v c k pf ns nr i h hl hk10).mono fun _ _ ⟨h1, h2⟩ => ⟨h1, v, QDo.of h2⟩
  rw [if_neg (by simp [hl, hk7, hk10])]
  by_cases hq : y.hi < Ps.far y nr
  · rw [if_pos hq]
    exact (fhear_fail w pb d y v c k pf ns nr i h hf hl (by omega) (by omega) hnr hq).mono fun _ _ ⟨h1, h2⟩ => ⟨h1, v, QDo.of h2⟩
  · rw [if_neg hq]
    exact fhear_do w pb d y v c k pf ns nr i h hf hl (by omega) (by omega) hns hnr hq
end Go.Proofs.Ytkoaplmlabagnaa.Aq

/-
  The program's own side: what a frame's kind and its bit do. Condition: it lies where it says; its numbers are small.
-/
import Derived.Test.YtkoaplmlabagnaaAqPm7
namespace Go.Proofs.Ytkoaplmlabagnaa.Aq
open Go.RowKit Go.Proofs.Ytkoaplmlabagnaa.Base Go.Proofs.Ytkoaplmlabagnaa.Mem
/-- A frame of a DLCI, as a value, and in a block. -/
abbrev fmvd (d : Nat) (f : Fm) : Value := .agg #[.int .u8 (d : Int), .bool f.c, .int .u8 (f.k : Int), .bool f.pf, .int .u8 (f.ns : Int), .int .u8 (f.nr : Int), .string f.i]
abbrev fmOd (d : Nat) (f : Fm) : Obj := .cells #[.int .u8 (d : Int), .bool f.c, .int .u8 (f.k : Int), .bool f.pf, .int .u8 (f.ns : Int), .int .u8 (f.nr : Int), .string f.i] TF (0, 0)
theorem AIn.first2 {pb : Nat} {x : Ps} {v : Value} {w : World} (h0 : PAt w pb x v) (o1 o2 : Obj) : AIn [(w.heap.size + 1, o2), (w.heap.size, o1)] pb x v w ((w.alloc o1).alloc o2) := by
  have := (AIn.first h0 o1).alloc o2
  rwa [size_alloc] at this
theorem ADo.two {pb : Nat} {y : Ps} {v : Value} {w w1 : World} (h : ADo pb y v w w1) (o1 o2 : Obj) : ADo pb y v w ((w1.alloc o1).alloc o2) := (h.on ((Below.refl _ _).alloc (Nat.le_refl _) o1)).on ((Below.refl _ _).alloc (Nat.le_refl _) o2)
set_option maxHeartbeats 1000000 in
theorem fbit_cmd (w : World) (pb d : Nat) (y : Ps) (v : Value) (k ns nr : Nat) (i : ByteArray) (h : PAt w pb y v) :
    Calls Try.prog 48 #[ptr pb, fmvd d ⟨true, k, true, ns, nr, i⟩] w fun e w' => e = .returned (.tuple #[]) ∧ ADo pb { y with due := true, fin := true } v w w' := by
  have H := Lib.hid h
  have hfr := h.free
  have hlt := h.lt
  have c16 := h.cell 16 (.bool y.due) rfl
  have c17 := h.cell 17 (.bool y.fin) rfl
  have c8 := h.cell 8 (.bool y.ak) rfl
  have c19 := h.cell 19 (.bool y.poll) rfl
  have c3 := h.cell 3 (.int .i64 (y.tr : Int)) rfl
  have c2 := h.cell 2 (.int .i64 (y.out : Int)) rfl
  clear h
  go_enter Try.func48, Try.ntmps48
  go_wp2
  go_end0
  exact ⟨rfl, (((ADo.refl H.out).set 16 (.bool true) { y with due := true } rfl rfl).set 17 (.bool true) { y with due := true, fin := true } rfl rfl).on ((Below.refl _ _).alloc (Nat.le_refl _) _)⟩
set_option maxHeartbeats 1000000 in
theorem fbit_ask (w : World) (pb d : Nat) (y : Ps) (v : Value) (k ns nr : Nat) (i : ByteArray) (h : PAt w pb y v) (hk : y.ak = true) :
    Calls Try.prog 48 #[ptr pb, fmvd d ⟨false, k, true, ns, nr, i⟩] w fun e w' => e = .returned (.tuple #[]) ∧ ADo pb { y with ak := false, poll := false, tr := 0, out := 0 } v w w' := by
  have H := Lib.hid h
  have hfr := h.free
  have hlt := h.lt
  have c16 := h.cell 16 (.bool y.due) rfl
  have c17 := h.cell 17 (.bool y.fin) rfl
  have c8 := h.cell 8 (.bool y.ak) rfl
  have c19 := h.cell 19 (.bool y.poll) rfl
  have c3 := h.cell 3 (.int .i64 (y.tr : Int)) rfl
  have c2 := h.cell 2 (.int .i64 (y.out : Int)) rfl
  rw [hk] at c8
  clear h
  go_enter Try.func48, Try.ntmps48
  go_wp2
  go_end0
  exact ⟨rfl, (((((ADo.refl H.out).set 8 (.bool false) { y with ak := false } rfl rfl).set 19 (.bool false) { y with ak := false, poll := false } rfl rfl).set 3 (.int .i64 0) { y with ak := false, poll := false, tr := 0 } rfl rfl).set 2 (.int .i64 0) { y with ak := false, poll := false, tr := 0, out := 0 } rfl rfl).on ((Below.refl _ _).alloc (Nat.le_refl _) _)⟩
set_option maxHeartbeats 1000000 in
theorem fbit_idle (w : World) (pb d : Nat) (y : Ps) (v : Value) (k ns nr : Nat) (i : ByteArray) (h : PAt w pb y v) (hk : y.ak = false) :
    Calls Try.prog 48 #[ptr pb, fmvd d ⟨false, k, true, ns, nr, i⟩] w fun e w' => e = .returned (.tuple #[]) ∧ ADo pb y v w w' := by
  have H := Lib.hid h
  have hfr := h.free
  have hlt := h.lt
  have c16 := h.cell 16 (.bool y.due) rfl
  have c17 := h.cell 17 (.bool y.fin) rfl
  have c8 := h.cell 8 (.bool y.ak) rfl
  have c19 := h.cell 19 (.bool y.poll) rfl
  have c3 := h.cell 3 (.int .i64 (y.tr : Int)) rfl
  have c2 := h.cell 2 (.int .i64 (y.out : Int)) rfl
  rw [hk] at c8
  clear h
  go_enter Try.func48, Try.ntmps48
  go_wp2
  go_end0
  exact ⟨rfl, (ADo.refl H.out).on ((Below.refl _ _).alloc (Nat.le_refl _) _)⟩
set_option maxHeartbeats 1000000 in
theorem fbit_no (w : World) (pb d : Nat) (y : Ps) (v : Value) (k ns nr : Nat) (i : ByteArray) (c : Bool) (h : PAt w pb y v) :
    Calls Try.prog 48 #[ptr pb, fmvd d ⟨c, k, false, ns, nr, i⟩] w fun e w' => e = .returned (.tuple #[]) ∧ ADo pb y v w w' := by
  have H := Lib.hid h
  have hfr := h.free
  have hlt := h.lt
  have c16 := h.cell 16 (.bool y.due) rfl
  have c17 := h.cell 17 (.bool y.fin) rfl
  have c8 := h.cell 8 (.bool y.ak) rfl
  have c19 := h.cell 19 (.bool y.poll) rfl
  have c3 := h.cell 3 (.int .i64 (y.tr : Int)) rfl
  have c2 := h.cell 2 (.int .i64 (y.out : Int)) rfl
  cases c
  · clear h
    go_enter Try.func48, Try.ntmps48
    go_wp2
    go_end0
    exact ⟨rfl, (ADo.refl H.out).on ((Below.refl _ _).alloc (Nat.le_refl _) _)⟩
  · clear h
    go_enter Try.func48, Try.ntmps48
    go_wp2
    go_end0
    exact ⟨rfl, (ADo.refl H.out).on ((Below.refl _ _).alloc (Nat.le_refl _) _)⟩
theorem fbit (w : World) (pb d : Nat) (y : Ps) (v : Value) (f : Fm) (h : PAt w pb y v) :
    Calls Try.prog 48 #[ptr pb, fmvd d f] w fun e w' => e = .returned (.tuple #[]) ∧ ADo pb (Ps.bit f y) v w w' := by
  obtain ⟨c, k, pf, ns, nr, i⟩ := f
  unfold Ps.bit
  dsimp only
  cases pf
  · rw [if_neg (by simp), if_neg (by simp)]; exact fbit_no w pb d y v k ns nr i c h
  cases c
  · rw [if_neg (by simp)]
    by_cases hk : y.ak = true
    · rw [if_pos ⟨rfl, hk⟩]; exact fbit_ask w pb d y v k ns nr i h hk
    · rw [if_neg (by simp [hk])]; exact fbit_idle w pb d y v k ns nr i h (by simpa using hk)
  · rw [if_pos ⟨rfl, rfl⟩]; exact fbit_cmd w pb d y v k ns nr i h
set_option maxHeartbeats 4000000 in
theorem finfo_busy (w : World) (pb d : Nat) (y : Ps) (v : Value) (c : Bool) (k : Nat) (pf : Bool) (ns nr : Nat) (i : ByteArray) (h : PAt w pb y v) (_hv : y.vr < 8) (hns : ns < 256) (hn : ns % 8 = y.vr) (hb : y.bu = true) :
    Calls Try.prog 60 #[ptr pb, fmvd d ⟨c, k, pf, ns, nr, i⟩] w fun e w' => e = .returned (amv noAm) ∧ ADo pb { y with due := true } v w w' := by
  have H1 : Hid (AIn [(w.heap.size + 1, noM TA), (w.heap.size, fmOd d ⟨c, k, pf, ns, nr, i⟩)] pb y v w ((w.alloc (fmOd d ⟨c, k, pf, ns, nr, i⟩)).alloc (noM TA))) := Lib.hid (AIn.first2 h _ _)
  have hlt := h.lt
  have hfr := h.free
  have c1 := h.cell 1 (.int .u8 (y.vr : Int)) rfl
  obtain ⟨vr, hvr⟩ : ∃ vr, y.vr = vr := ⟨_, rfl⟩
  have HV := Lib.hid hvr
  rw [hvr] at c1 _hv hn
  obtain ⟨r, hr0⟩ : ∃ r, Sq.wy vr ns = r := ⟨_, rfl⟩
  have CW := Lib.hid (fun w => Sq.fWay vr ns r (by omega) hns hr0 w)
  have hz : r = 0 := by rw [← hr0]; unfold Sq.wy; omega
  have z0 : ((r : Int) == 0) = true := beq_true (by omega)
  have z0b : (r == 0) = true := by simpa using hz
  clear h hvr hr0 hz hn
  go_enter Try.func60, Try.ntmps60
  go_wp2_with fail
  go_quiet ((go_at_call 56; exact quiet_left (CW.out _)))
  have H2 := Lib.hid (H1.out.drewN nq)
  generalize ((w.alloc (fmOd d ⟨c, k, pf, ns, nr, i⟩)).alloc (noM TA)).drewN nq = w2 at H2 ⊢
  clear H1 hfr c1
  have hfr := H2.out.does.at_.free
  have d1 := H2.out.does.at_.cell 1 (.int .u8 (y.vr : Int)) rfl
  have d6 := H2.out.does.at_.cell 6 (.bool y.bu) rfl
  have d7 := H2.out.does.at_.cell 7 (.bool y.rj) rfl
  have d16 := H2.out.does.at_.cell 16 (.bool y.due) rfl
  have d18 := H2.out.does.at_.cell 18 (.bool y.rej) rfl
  rw [HV.out] at d1
  rw [hb] at d6
  clear hb
  obtain ⟨⟨k0, k1, k2, k3⟩, kf⟩ := cells4 H2.out.at0
  obtain ⟨⟨l0, l1, l2, l3, l4, l5, l6⟩, lf⟩ := cells7 H2.out.tail.at0
  have HZ := Lib.hid (((H2.out).set 16 (.bool true) { y with due := true } rfl rfl).put4 (one_ne (by omega)) (.string ⟨#[]⟩) (.bool false) (.int .i64 0) (.bool false))
  go_wp2
  exact bodyPost_ret (res_am rfl rfl _ _ _ noAm HZ.out.at0 rfl) rfl ⟨rfl, HZ.out.does⟩
set_option maxHeartbeats 4000000 in
theorem finfo_take (w : World) (pb d : Nat) (y : Ps) (v : Value) (c : Bool) (k : Nat) (pf : Bool) (ns nr : Nat) (i : ByteArray) (h : PAt w pb y v) (_hv : y.vr < 8) (hns : ns < 256) (hn : ns % 8 = y.vr) (hb : y.bu = false) :
    Calls Try.prog 60 #[ptr pb, fmvd d ⟨c, k, pf, ns, nr, i⟩] w fun e w' => e = .returned (amv ⟨i, true, 0, false⟩) ∧ ADo pb { y with vr := (y.vr + 1) % 8, rj := false, due := true, rej := false } v w w' := by
  have H1 : Hid (AIn [(w.heap.size + 1, noM TA), (w.heap.size, fmOd d ⟨c, k, pf, ns, nr, i⟩)] pb y v w ((w.alloc (fmOd d ⟨c, k, pf, ns, nr, i⟩)).alloc (noM TA))) := Lib.hid (AIn.first2 h _ _)
  have hlt := h.lt
  have hfr := h.free
  have c1 := h.cell 1 (.int .u8 (y.vr : Int)) rfl
  obtain ⟨vr, hvr⟩ : ∃ vr, y.vr = vr := ⟨_, rfl⟩
  have HV := Lib.hid hvr
  rw [hvr] at c1 _hv hn ⊢
  obtain ⟨r, hr0⟩ : ∃ r, Sq.wy vr ns = r := ⟨_, rfl⟩
  have CW := Lib.hid (fun w => Sq.fWay vr ns r (by omega) hns hr0 w)
  have hz : r = 0 := by rw [← hr0]; unfold Sq.wy; omega
  have z0 : ((r : Int) == 0) = true := beq_true (by omega)
  have z0b : (r == 0) = true := by simpa using hz
  obtain ⟨vr2, hvr2⟩ : ∃ vr2, (vr + 1) % 8 = vr2 := ⟨_, rfl⟩
  have CA := Lib.hid (fun w => Sq.fadd vr 1 vr2 (by omega) (by unfold Sq.ad; omega) w)
  rw [hvr2]
  clear h hvr hr0 hz hn
  go_enter Try.func60, Try.ntmps60
  go_wp2_with fail
  go_quiet ((go_at_call 56; exact quiet_left (CW.out _)))
  have H2 := Lib.hid (H1.out.drewN nq)
  generalize ((w.alloc (fmOd d ⟨c, k, pf, ns, nr, i⟩)).alloc (noM TA)).drewN nq = w2 at H2 ⊢
  clear H1 hfr c1
  have hfr := H2.out.does.at_.free
  have d1 := H2.out.does.at_.cell 1 (.int .u8 (y.vr : Int)) rfl
  have d6 := H2.out.does.at_.cell 6 (.bool y.bu) rfl
  have d7 := H2.out.does.at_.cell 7 (.bool y.rj) rfl
  have d16 := H2.out.does.at_.cell 16 (.bool y.due) rfl
  have d18 := H2.out.does.at_.cell 18 (.bool y.rej) rfl
  rw [HV.out] at d1
  rw [hb] at d6
  clear hb
  obtain ⟨⟨k0, k1, k2, k3⟩, kf⟩ := cells4 H2.out.at0
  obtain ⟨⟨l0, l1, l2, l3, l4, l5, l6⟩, lf⟩ := cells7 H2.out.tail.at0
  have HZ := Lib.hid ((((((H2.out).set 1 (.int .u8 (vr2 : Int)) { y with vr := vr2 } rfl rfl).set 7 (.bool false) { y with vr := vr2, rj := false } rfl rfl).set 16 (.bool true) { y with vr := vr2, rj := false, due := true } rfl rfl).set 18 (.bool false) { y with vr := vr2, rj := false, due := true, rej := false } rfl rfl).put4 (one_ne (by omega)) (.string i) (.bool true) (.int .i64 0) (.bool false))
  go_wp2_with (go_at_call 45; ((with_reducible refine (CA.out _).mono ?_); rintro e w3 ⟨rfl, rfl⟩))
  exact bodyPost_ret (res_am rfl rfl _ _ _ ⟨i, true, 0, false⟩ HZ.out.at0 rfl) rfl ⟨rfl, HZ.out.does⟩
set_option maxHeartbeats 4000000 in
theorem finfo_ask (w : World) (pb d : Nat) (y : Ps) (v : Value) (c : Bool) (k : Nat) (pf : Bool) (ns nr : Nat) (i : ByteArray) (h : PAt w pb y v) (hv : y.vr < 8) (hns : ns < 256) (hn : ¬ ns % 8 = y.vr) (hr : y.rj = false) (hb : y.bu = false) :
    Calls Try.prog 60 #[ptr pb, fmvd d ⟨c, k, pf, ns, nr, i⟩] w fun e w' => e = .returned (amv noAm) ∧ ADo pb { y with rj := true, due := true, rej := true } v w w' := by
  have H1 : Hid (AIn [(w.heap.size + 1, noM TA), (w.heap.size, fmOd d ⟨c, k, pf, ns, nr, i⟩)] pb y v w ((w.alloc (fmOd d ⟨c, k, pf, ns, nr, i⟩)).alloc (noM TA))) := Lib.hid (AIn.first2 h _ _)
  have hlt := h.lt
  have hfr := h.free
  have c1 := h.cell 1 (.int .u8 (y.vr : Int)) rfl
  obtain ⟨vr, hvr⟩ : ∃ vr, y.vr = vr := ⟨_, rfl⟩
  have HV := Lib.hid hvr
  rw [hvr] at c1 hv hn
  obtain ⟨r, hr0⟩ : ∃ r, Sq.wy vr ns = r := ⟨_, rfl⟩
  have CW := Lib.hid (fun w => Sq.fWay vr ns r (by omega) hns hr0 w)
  have hz : ¬ r = 0 := by rw [← hr0]; unfold Sq.wy; omega
  have z0 : ((r : Int) == 0) = false := beq_false (by omega)
  have z0b : (r == 0) = false := by simpa using hz
  clear h hvr hr0 hz hn
  go_enter Try.func60, Try.ntmps60
  go_wp2_with fail
  go_quiet ((go_at_call 56; exact quiet_left (CW.out _)))
  have H2 := Lib.hid (H1.out.drewN nq)
  generalize ((w.alloc (fmOd d ⟨c, k, pf, ns, nr, i⟩)).alloc (noM TA)).drewN nq = w2 at H2 ⊢
  clear H1 hfr c1
  have hfr := H2.out.does.at_.free
  have d1 := H2.out.does.at_.cell 1 (.int .u8 (y.vr : Int)) rfl
  have d6 := H2.out.does.at_.cell 6 (.bool y.bu) rfl
  have d7 := H2.out.does.at_.cell 7 (.bool y.rj) rfl
  have d16 := H2.out.does.at_.cell 16 (.bool y.due) rfl
  have d18 := H2.out.does.at_.cell 18 (.bool y.rej) rfl
  rw [HV.out] at d1
  rw [hr] at d7
  clear hr
  rw [hb] at d6
  clear hb
  obtain ⟨⟨k0, k1, k2, k3⟩, kf⟩ := cells4 H2.out.at0
  obtain ⟨⟨l0, l1, l2, l3, l4, l5, l6⟩, lf⟩ := cells7 H2.out.tail.at0
  have HZ := Lib.hid (((((H2.out).set 7 (.bool true) { y with rj := true } rfl rfl).set 16 (.bool true) { y with rj := true, due := true } rfl rfl).set 18 (.bool true) { y with rj := true, due := true, rej := true } rfl rfl).put4 (one_ne (by omega)) (.string ⟨#[]⟩) (.bool false) (.int .i64 0) (.bool false))
  go_wp2
  exact bodyPost_ret (res_am rfl rfl _ _ _ noAm HZ.out.at0 rfl) rfl ⟨rfl, HZ.out.does⟩
set_option maxHeartbeats 4000000 in
theorem finfo_rj (w : World) (pb d : Nat) (y : Ps) (v : Value) (c : Bool) (k : Nat) (pf : Bool) (ns nr : Nat) (i : ByteArray) (h : PAt w pb y v) (hv : y.vr < 8) (hns : ns < 256) (hn : ¬ ns % 8 = y.vr) (hr : y.rj = true) :
    Calls Try.prog 60 #[ptr pb, fmvd d ⟨c, k, pf, ns, nr, i⟩] w fun e w' => e = .returned (amv noAm) ∧ ADo pb y v w w' := by
  have H1 : Hid (AIn [(w.heap.size + 1, noM TA), (w.heap.size, fmOd d ⟨c, k, pf, ns, nr, i⟩)] pb y v w ((w.alloc (fmOd d ⟨c, k, pf, ns, nr, i⟩)).alloc (noM TA))) := Lib.hid (AIn.first2 h _ _)
  have hlt := h.lt
  have hfr := h.free
  have c1 := h.cell 1 (.int .u8 (y.vr : Int)) rfl
  obtain ⟨vr, hvr⟩ : ∃ vr, y.vr = vr := ⟨_, rfl⟩
  have HV := Lib.hid hvr
  rw [hvr] at c1 hv hn
  obtain ⟨r, hr0⟩ : ∃ r, Sq.wy vr ns = r := ⟨_, rfl⟩
  have CW := Lib.hid (fun w => Sq.fWay vr ns r (by omega) hns hr0 w)
  have hz : ¬ r = 0 := by rw [← hr0]; unfold Sq.wy; omega
  have z0 : ((r : Int) == 0) = false := beq_false (by omega)
  have z0b : (r == 0) = false := by simpa using hz
  clear h hvr hr0 hz hn
  go_enter Try.func60, Try.ntmps60
  go_wp2_with fail
  go_quiet ((go_at_call 56; exact quiet_left (CW.out _)))
  have H2 := Lib.hid (H1.out.drewN nq)
  generalize ((w.alloc (fmOd d ⟨c, k, pf, ns, nr, i⟩)).alloc (noM TA)).drewN nq = w2 at H2 ⊢
  clear H1 hfr c1
  have hfr := H2.out.does.at_.free
  have d1 := H2.out.does.at_.cell 1 (.int .u8 (y.vr : Int)) rfl
  have d6 := H2.out.does.at_.cell 6 (.bool y.bu) rfl
  have d7 := H2.out.does.at_.cell 7 (.bool y.rj) rfl
  have d16 := H2.out.does.at_.cell 16 (.bool y.due) rfl
  have d18 := H2.out.does.at_.cell 18 (.bool y.rej) rfl
  rw [HV.out] at d1
  rw [hr] at d7
  clear hr
  obtain ⟨⟨k0, k1, k2, k3⟩, kf⟩ := cells4 H2.out.at0
  obtain ⟨⟨l0, l1, l2, l3, l4, l5, l6⟩, lf⟩ := cells7 H2.out.tail.at0
  have HZ := Lib.hid ((H2.out).put4 (one_ne (by omega)) (.string ⟨#[]⟩) (.bool false) (.int .i64 0) (.bool false))
  go_wp2
  exact bodyPost_ret (res_am rfl rfl _ _ _ noAm HZ.out.at0 rfl) rfl ⟨rfl, HZ.out.does⟩
set_option maxHeartbeats 4000000 in
theorem finfo_bu (w : World) (pb d : Nat) (y : Ps) (v : Value) (c : Bool) (k : Nat) (pf : Bool) (ns nr : Nat) (i : ByteArray) (h : PAt w pb y v) (hv : y.vr < 8) (hns : ns < 256) (hn : ¬ ns % 8 = y.vr) (hr : y.rj = false) (hb : y.bu = true) :
    Calls Try.prog 60 #[ptr pb, fmvd d ⟨c, k, pf, ns, nr, i⟩] w fun e w' => e = .returned (amv noAm) ∧ ADo pb y v w w' := by
  have H1 : Hid (AIn [(w.heap.size + 1, noM TA), (w.heap.size, fmOd d ⟨c, k, pf, ns, nr, i⟩)] pb y v w ((w.alloc (fmOd d ⟨c, k, pf, ns, nr, i⟩)).alloc (noM TA))) := Lib.hid (AIn.first2 h _ _)
  have hlt := h.lt
  have hfr := h.free
  have c1 := h.cell 1 (.int .u8 (y.vr : Int)) rfl
  obtain ⟨vr, hvr⟩ : ∃ vr, y.vr = vr := ⟨_, rfl⟩
  have HV := Lib.hid hvr
  rw [hvr] at c1 hv hn
  obtain ⟨r, hr0⟩ : ∃ r, Sq.wy vr ns = r := ⟨_, rfl⟩
  have CW := Lib.hid (fun w => Sq.fWay vr ns r (by omega) hns hr0 w)
  have hz : ¬ r = 0 := by rw [← hr0]; unfold Sq.wy; omega
  have z0 : ((r : Int) == 0) = false := beq_false (by omega)
  have z0b : (r == 0) = false := by simpa using hz
  clear h hvr hr0 hz hn
  go_enter Try.func60, Try.ntmps60
  go_wp2_with fail
  go_quiet ((go_at_call 56; exact quiet_left (CW.out _)))
  have H2 := Lib.hid (H1.out.drewN nq)
  generalize ((w.alloc (fmOd d ⟨c, k, pf, ns, nr, i⟩)).alloc (noM TA)).drewN nq = w2 at H2 ⊢
  clear H1 hfr c1
  have hfr := H2.out.does.at_.free
  have d1 := H2.out.does.at_.cell 1 (.int .u8 (y.vr : Int)) rfl
  have d6 := H2.out.does.at_.cell 6 (.bool y.bu) rfl
  have d7 := H2.out.does.at_.cell 7 (.bool y.rj) rfl
  have d16 := H2.out.does.at_.cell 16 (.bool y.due) rfl
  have d18 := H2.out.does.at_.cell 18 (.bool y.rej) rfl
  rw [HV.out] at d1
  rw [hr] at d7
  clear hr
  rw [hb] at d6
  clear hb
  obtain ⟨⟨k0, k1, k2, k3⟩, kf⟩ := cells4 H2.out.at0
  obtain ⟨⟨l0, l1, l2, l3, l4, l5, l6⟩, lf⟩ := cells7 H2.out.tail.at0
  have HZ := Lib.hid ((H2.out).put4 (one_ne (by omega)) (.string ⟨#[]⟩) (.bool false) (.int .i64 0) (.bool false))
  go_wp2
  exact bodyPost_ret (res_am rfl rfl _ _ _ noAm HZ.out.at0 rfl) rfl ⟨rfl, HZ.out.does⟩
theorem finfo (w : World) (pb d : Nat) (y : Ps) (v : Value) (f : Fm) (h : PAt w pb y v) (hv : y.vr < 8) (hns : f.ns < 256) :
    Calls Try.prog 60 #[ptr pb, fmvd d f] w fun e w' => e = .returned (amv (Ps.info f y).2) ∧ ADo pb (Ps.info f y).1 v w w' := by
  obtain ⟨c, k, pf, ns, nr, i⟩ := f
  unfold Ps.info
  dsimp only at hns ⊢
  by_cases hn : ns % 8 = y.vr
  · rw [if_pos hn]
    by_cases hb : y.bu = true
    · rw [if_pos hb]; exact finfo_busy w pb d y v c k pf ns nr i h hv hns hn hb
    · rw [if_neg hb]; exact finfo_take w pb d y v c k pf ns nr i h hv hns hn (by simpa using hb)
  · rw [if_neg hn]
    by_cases hr : y.rj = true
    · rw [if_neg (by simp [hr])]; exact finfo_rj w pb d y v c k pf ns nr i h hv hns hn hr
    have hr : y.rj = false := by simpa using hr
    by_cases hb : y.bu = true
    · rw [if_neg (by simp [hb])]; exact finfo_bu w pb d y v c k pf ns nr i h hv hns hn hr hb
    have hb : y.bu = false := by simpa using hb
    rw [if_pos ⟨hr, hb⟩]; exact finfo_ask w pb d y v c k pf ns nr i h hv hns hn hr hb
set_option maxHeartbeats 1000000 in
theorem fkind_rnr (w : World) (pb d : Nat) (y : Ps) (v : Value) (c : Bool) (k : Nat) (pf : Bool) (ns nr : Nat) (i : ByteArray) (h : PAt w pb y v) (hk : k = 9) :
    Calls Try.prog 47 #[ptr pb, fmvd d ⟨c, k, pf, ns, nr, i⟩] w fun e w' => e = .returned (amv noAm) ∧ ADo pb { y with pb := true, out := 0 } v w w' := by
  have H := Lib.hid h
  have hfr := h.free
  have hlt := h.lt
  have c5 := h.cell 5 (.bool y.pb) rfl
  have c2 := h.cell 2 (.int .i64 (y.out : Int)) rfl
  obtain ⟨kv, hkv⟩ : ∃ kv : Int, (k : Int) = kv := ⟨_, rfl⟩
  have hkv2 : kv = 9 := by omega
  have HF : fmvd d ⟨c, k, pf, ns, nr, i⟩ = .agg #[.int .u8 (d : Int), .bool c, .int .u8 9, .bool pf, .int .u8 (ns : Int), .int .u8 (nr : Int), .string i] := by rw [← hkv2, ← hkv]
  rw [HF]
  clear h HF hkv hkv2 hk
  go_enter Try.func47, Try.ntmps47
  go_wp2
  exact bodyPost_ret (v := amv noAm) (by simp [results, Try.results47, go_sem, noAm, bE]) rfl ⟨rfl, ADo.two (((ADo.refl H.out).set 5 (.bool true) { y with pb := true } rfl rfl).set 2 (.int .i64 0) { y with pb := true, out := 0 } rfl rfl) _ _⟩
set_option maxHeartbeats 1000000 in
theorem fkind_rej (w : World) (pb d : Nat) (y : Ps) (v : Value) (c : Bool) (k : Nat) (pf : Bool) (ns nr : Nat) (i : ByteArray) (h : PAt w pb y v) (hk : k = 10) :
    Calls Try.prog 47 #[ptr pb, fmvd d ⟨c, k, pf, ns, nr, i⟩] w fun e w' => e = .returned (amv noAm) ∧ ADo pb { y with out := 0, pb := false } v w w' := by
  have H := Lib.hid h
  have hfr := h.free
  have hlt := h.lt
  have c5 := h.cell 5 (.bool y.pb) rfl
  have c2 := h.cell 2 (.int .i64 (y.out : Int)) rfl
  obtain ⟨kv, hkv⟩ : ∃ kv : Int, (k : Int) = kv := ⟨_, rfl⟩
  have hkv2 : kv = 10 := by omega
  have HF : fmvd d ⟨c, k, pf, ns, nr, i⟩ = .agg #[.int .u8 (d : Int), .bool c, .int .u8 10, .bool pf, .int .u8 (ns : Int), .int .u8 (nr : Int), .string i] := by rw [← hkv2, ← hkv]
  rw [HF]
  clear h HF hkv hkv2 hk
  go_enter Try.func47, Try.ntmps47
  go_wp2
  exact bodyPost_ret (v := amv noAm) (by simp [results, Try.results47, go_sem, noAm, bE]) rfl ⟨rfl, ADo.two (((ADo.refl H.out).set 2 (.int .i64 0) { y with out := 0 } rfl rfl).set 5 (.bool false) { y with out := 0, pb := false } rfl rfl) _ _⟩
set_option maxHeartbeats 1000000 in
theorem fkind_rr (w : World) (pb d : Nat) (y : Ps) (v : Value) (c : Bool) (k : Nat) (pf : Bool) (ns nr : Nat) (i : ByteArray) (h : PAt w pb y v) (hk : k = 8) :
    Calls Try.prog 47 #[ptr pb, fmvd d ⟨c, k, pf, ns, nr, i⟩] w fun e w' => e = .returned (amv noAm) ∧ ADo pb { y with pb := false } v w w' := by
  have H := Lib.hid h
  have hfr := h.free
  have hlt := h.lt
  have c5 := h.cell 5 (.bool y.pb) rfl
  have c2 := h.cell 2 (.int .i64 (y.out : Int)) rfl
  obtain ⟨kv, hkv⟩ : ∃ kv : Int, (k : Int) = kv := ⟨_, rfl⟩
  have hkv2 : kv = 8 := by omega
  have HF : fmvd d ⟨c, k, pf, ns, nr, i⟩ = .agg #[.int .u8 (d : Int), .bool c, .int .u8 8, .bool pf, .int .u8 (ns : Int), .int .u8 (nr : Int), .string i] := by rw [← hkv2, ← hkv]
  rw [HF]
  clear h HF hkv hkv2 hk
  go_enter Try.func47, Try.ntmps47
  go_wp2
  exact bodyPost_ret (v := amv noAm) (by simp [results, Try.results47, go_sem, noAm, bE]) rfl ⟨rfl, ADo.two ((ADo.refl H.out).set 5 (.bool false) { y with pb := false } rfl rfl) _ _⟩
set_option maxHeartbeats 2000000 in
theorem fkind_i (w : World) (pb d : Nat) (y : Ps) (v : Value) (c : Bool) (k : Nat) (pf : Bool) (ns nr : Nat) (i : ByteArray) (h : PAt w pb y v) (hk : k = 7) (hv : y.vr < 8) (hns : ns < 256) :
    Calls Try.prog 47 #[ptr pb, fmvd d ⟨c, k, pf, ns, nr, i⟩] w fun e w' => e = .returned (amv (Ps.info ⟨c, k, pf, ns, nr, i⟩ y).2) ∧ ADo pb (Ps.info ⟨c, k, pf, ns, nr, i⟩ y).1 v w w' := by
  have H1 : Hid (AIn [(w.heap.size + 1, noM TA), (w.heap.size, fmOd d ⟨c, k, pf, ns, nr, i⟩)] pb y v w ((w.alloc (fmOd d ⟨c, k, pf, ns, nr, i⟩)).alloc (noM TA))) := Lib.hid (AIn.first2 h _ _)
  have CI := Lib.hid (finfo _ pb d y v ⟨c, k, pf, ns, nr, i⟩ H1.out.does.at_ hv hns)
  generalize hr : Ps.info ⟨c, k, pf, ns, nr, i⟩ y = r at CI ⊢
  obtain ⟨y2, m⟩ := r
  have hkv : (k : Int) = 7 := by omega
  rw [show fmvd d ⟨c, k, pf, ns, nr, i⟩ = .agg #[.int .u8 (d : Int), .bool c, .int .u8 7, .bool pf, .int .u8 (ns : Int), .int .u8 (nr : Int), .string i] by rw [← hkv]] at CI ⊢
  rw [show fmOd d ⟨c, k, pf, ns, nr, i⟩ = .cells #[.int .u8 (d : Int), .bool c, .int .u8 7, .bool pf, .int .u8 (ns : Int), .int .u8 (nr : Int), .string i] TF (0, 0) by rw [← hkv]] at CI H1
  clear h hr hk hkv
  go_enter Try.func47, Try.ntmps47
  go_wp2_with fail
  refine CI.out.mono ?_
  rintro _ w2 ⟨rfl, hd⟩
  have H2 := Lib.hid (H1.out.next hd)
  clear hd CI H1
  obtain ⟨⟨k0, k1, k2, k3⟩, kf⟩ := cells4 H2.out.at0
  have HZ := Lib.hid (H2.out.put4 (one_ne (by omega)) (.string m.i) (.bool m.taken) (.int .i64 (m.acked : Int)) (.bool m.failed))
  go_wp2
  exact bodyPost_ret (res_am rfl rfl _ _ _ m HZ.out.at0 rfl) rfl ⟨rfl, HZ.out.does⟩
theorem fkind (w : World) (pb d : Nat) (y : Ps) (v : Value) (f : Fm) (h : PAt w pb y v) (hv : y.vr < 8) (hns : f.ns < 256) (hk : f.k = 7 ∨ f.k = 8 ∨ f.k = 9 ∨ f.k = 10) :
    Calls Try.prog 47 #[ptr pb, fmvd d f] w fun e w' => e = .returned (amv (Ps.kinds f y).2) ∧ ADo pb (Ps.kinds f y).1 v w w' := by
  obtain ⟨c, k, pf, ns, nr, i⟩ := f
  unfold Ps.kinds
  dsimp only at hk hns ⊢
  rcases hk with hk | hk | hk | hk
  · rw [if_pos hk]; exact fkind_i w pb d y v c k pf ns nr i h hk hv hns
  · rw [if_neg (by omega), if_neg (by omega), if_neg (by omega), if_pos hk]; exact fkind_rr w pb d y v c k pf ns nr i h hk
  · rw [if_neg (by omega), if_pos hk]; exact fkind_rnr w pb d y v c k pf ns nr i h hk
  · rw [if_neg (by omega), if_neg (by omega), if_pos hk]; exact fkind_rej w pb d y v c k pf ns nr i h hk
end Go.Proofs.Ytkoaplmlabagnaa.Aq

/-
  The program's own side: Tick. Condition: it lies where it says; its numbers are small.
-/
import Derived.Test.YtkoaplmlabagnaaAqPm2
namespace Go.Proofs.Ytkoaplmlabagnaa.Aq
open Go.RowKit Go.Proofs.Ytkoaplmlabagnaa.Base Go.Proofs.Ytkoaplmlabagnaa.Mem
set_option maxHeartbeats 1000000 in
theorem ftick_fl (w : World) (pb : Nat) (y : Ps) (v : Value) (h : PAt w pb y v) (hl : y.fl = true) :
    Calls Try.prog 20 #[ptr pb] w fun e w' => e = .returned (amv noAm) ∧ ADo pb y v w w' := by
  have H1 := Lib.hid (AIn.first h (noM TA))
  have C1 := Lib.hid (flives _ pb y v H1.out.does.at_)
  rw [hl] at C1
  have HE := Lib.hid (ADo.refl h)
  have hfr := h.free
  have hlt := h.lt
  have c4 := h.cell 4 (.int .i64 (y.lf : Int)) rfl
  clear h
  go_enter Try.func20, Try.ntmps20
  go_wp2_with (go_at_call 34; ((with_reducible refine C1.out.mono ?_); rintro e w' ⟨rfl, rfl⟩))
  exact bodyPost_ret (v := amv noAm) (by simp [results, Try.results20, go_sem, noAm, bE]) rfl ⟨rfl, HE.out.on ((Below.refl _ _).alloc (Nat.le_refl _) _)⟩
set_option maxHeartbeats 1000000 in
theorem ftick_no (w : World) (pb : Nat) (y : Ps) (v : Value) (h : PAt w pb y v) (hl : y.fl = false) (hz : y.lf = 0) :
    Calls Try.prog 20 #[ptr pb] w fun e w' => e = .returned (amv noAm) ∧ ADo pb y v w w' := by
  have H1 := Lib.hid (AIn.first h (noM TA))
  have C1 := Lib.hid (flives _ pb y v H1.out.does.at_)
  rw [hl] at C1
  have z0 : ((y.lf : Int) == 0) = true := beq_true (by omega)
  have HE := Lib.hid (ADo.refl h)
  have hfr := h.free
  have hlt := h.lt
  have c4 := h.cell 4 (.int .i64 (y.lf : Int)) rfl
  clear h
  go_enter Try.func20, Try.ntmps20
  go_wp2_with (go_at_call 34; ((with_reducible refine C1.out.mono ?_); rintro e w' ⟨rfl, rfl⟩))
  exact bodyPost_ret (v := amv noAm) (by simp [results, Try.results20, go_sem, noAm, bE]) rfl ⟨rfl, HE.out.on ((Below.refl _ _).alloc (Nat.le_refl _) _)⟩
set_option maxHeartbeats 1000000 in
theorem ftick_less (w : World) (pb : Nat) (y : Ps) (v : Value) (h : PAt w pb y v) (hl : y.fl = false) (hb : y.lf ≤ 255) (hz : 1 < y.lf) :
    Calls Try.prog 20 #[ptr pb] w fun e w' => e = .returned (amv noAm) ∧ ADo pb { y with lf := y.lf - 1 } v w w' := by
  have H1 := Lib.hid (AIn.first h (noM TA))
  have C1 := Lib.hid (flives _ pb y v H1.out.does.at_)
  rw [hl] at C1
  have z0 : ((y.lf : Int) == 0) = false := beq_false (by omega)
  have z1 : IntKind.i64.wrap ((y.lf : Int) - 1) = ((y.lf - 1 : Nat) : Int) := by rw [IntKind.wrap_i64]; omega
  obtain ⟨m, hm⟩ : ∃ m, y.lf - 1 = m := ⟨_, rfl⟩
  have z2 : decide ((0 : Int) < (m : Int)) = true := decide_eq_true (by omega)
  have z2b : decide (0 < m) = true := decide_eq_true (by omega)
  have z3 : (0 : Int) < (m : Int) := by omega
  rw [hm] at z1 ⊢
  clear hm
  have HE := Lib.hid ((ADo.refl h).set 4 (nm m) { y with lf := m } rfl rfl)
  have hfr := h.free
  have hlt := h.lt
  have c4 := h.cell 4 (.int .i64 (y.lf : Int)) rfl
  clear h
  go_enter Try.func20, Try.ntmps20
  go_wp2_with (go_at_call 34; ((with_reducible refine C1.out.mono ?_); rintro e w' ⟨rfl, rfl⟩))
  exact bodyPost_ret (v := amv noAm) (by simp [results, Try.results20, go_sem, noAm, bE]) rfl ⟨rfl, HE.out.on ((Below.refl _ _).alloc (Nat.le_refl _) _)⟩
set_option maxHeartbeats 2000000 in
theorem ftick_out_y (w : World) (pb : Nat) (y : Ps) (v : Value) (h : PAt w pb y v) (ht : y.tr ≤ 1000) (hl : y.fl = false) (hz : y.lf = 1) (ho : 0 < y.out) (hn : y.n2 < y.tr + 1) :
    Calls Try.prog 20 #[ptr pb] w fun e w' => e = .returned (amv ⟨bE, false, 0, true⟩) ∧ ADo pb { y with lf := 0, tr := y.tr + 1, fl := true } v w w' := by
  have H1 := Lib.hid (AIn.first h (noM TA))
  have C1 := Lib.hid (flives _ pb y v H1.out.does.at_)
  rw [hl] at C1
  have hfr := h.free
  have hlt := h.lt
  have c2 := h.cell 2 (.int .i64 (y.out : Int)) rfl
  have c8 := h.cell 8 (.bool y.ak) rfl
  have c4 := h.cell 4 (.int .i64 (y.lf : Int)) rfl
  have c3 := h.cell 3 (.int .i64 (y.tr : Int)) rfl
  have c12 := h.cell 12 (.int .i64 (y.n2 : Int)) rfl
  rw [hz] at c4
  obtain ⟨m, hm⟩ : ∃ m, y.out = m := ⟨_, rfl⟩
  rw [hm] at c2 ho
  have g0 : decide ((0 : Int) < (m : Int)) = true := decide_eq_true (by omega)
  have g0b : decide (0 < m) = true := decide_eq_true (by omega)
  have vt : IntKind.i64.wrap ((y.tr : Int) + 1) = ((y.tr + 1 : Nat) : Int) := by rw [IntKind.wrap_i64]; omega
  have vl : IntKind.i64.wrap 0 = 0 := by decide
  obtain ⟨tr, htr⟩ : ∃ tr, y.tr + 1 = tr := ⟨_, rfl⟩
  rw [htr] at hn vt ⊢
  have g2 : decide ((y.n2 : Int) < (tr : Int)) = true := decide_eq_true (by omega)
  have g3 : decide (y.n2 < tr) = true := decide_eq_true (by omega)
  have HI2 : Hid (AIn [(w.heap.size, noM TA)] pb { y with lf := 0, tr := tr } v w (((w.setCell ⟨pb, 4, none⟩ (.int .i64 0)).setCell ⟨pb, 3, none⟩ (nm tr)).alloc (noM TA))) := Lib.hid (AIn.made h (((ADo.refl h).set 4 (.int .i64 0) { y with lf := 0 } rfl rfl).set 3 (nm tr) { y with lf := 0, tr := tr } rfl rfl) (by simp) _)
  clear h hm ho hz
  go_enter Try.func20, Try.ntmps20
  go_wp2_with (go_at_call 34; ((with_reducible refine C1.out.mono ?_); rintro e w' ⟨rfl, rfl⟩))
  go_quiet (fail)
  have HI3 := Lib.hid (HI2.out.drewN nq)
  generalize (((w.setCell ⟨pb, 4, none⟩ (.int .i64 0)).setCell ⟨pb, 3, none⟩ (nm tr)).alloc (noM TA)).drewN nq = w2 at HI3 ⊢
  clear HI2 H1 C1 c2 c8 c4 c3 c12 hfr
  have CF := Lib.hid (ffail _ pb _ v HI3.out.does.at_)
  go_wp2_with fail
  refine CF.out.mono ?_
  rintro _ w3 ⟨rfl, hd⟩
  have HI4 := Lib.hid (HI3.out.next hd)
  clear hd CF HI3
  obtain ⟨⟨k0, k1, k2, k3⟩, kf⟩ := cells4 HI4.out.at0
  have HE := Lib.hid (HI4.out.put4 nil_ne (.string bE) (.bool false) (nm 0) (.bool true))
  go_wp2
  exact bodyPost_ret (res_am rfl rfl _ _ _ ⟨bE, false, 0, true⟩ HE.out.at0 rfl) rfl ⟨rfl, HE.out.does⟩
set_option maxHeartbeats 2000000 in
theorem ftick_out_n (w : World) (pb : Nat) (y : Ps) (v : Value) (h : PAt w pb y v) (ht : y.tr ≤ 1000) (hl : y.fl = false) (hz : y.lf = 1) (ho : 0 < y.out) (hn : ¬ y.n2 < y.tr + 1) :
    Calls Try.prog 20 #[ptr pb] w fun e w' => e = .returned (amv noAm) ∧ ADo pb { y with lf := y.t1, tr := y.tr + 1, ak := true, poll := true } v w w' := by
  have H1 := Lib.hid (AIn.first h (noM TA))
  have C1 := Lib.hid (flives _ pb y v H1.out.does.at_)
  rw [hl] at C1
  have hfr := h.free
  have hlt := h.lt
  have c2 := h.cell 2 (.int .i64 (y.out : Int)) rfl
  have c8 := h.cell 8 (.bool y.ak) rfl
  have c4 := h.cell 4 (.int .i64 (y.lf : Int)) rfl
  have c3 := h.cell 3 (.int .i64 (y.tr : Int)) rfl
  have c12 := h.cell 12 (.int .i64 (y.n2 : Int)) rfl
  rw [hz] at c4
  obtain ⟨m, hm⟩ : ∃ m, y.out = m := ⟨_, rfl⟩
  rw [hm] at c2 ho
  have g0 : decide ((0 : Int) < (m : Int)) = true := decide_eq_true (by omega)
  have g0b : decide (0 < m) = true := decide_eq_true (by omega)
  have vt : IntKind.i64.wrap ((y.tr : Int) + 1) = ((y.tr + 1 : Nat) : Int) := by rw [IntKind.wrap_i64]; omega
  have vl : IntKind.i64.wrap 0 = 0 := by decide
  obtain ⟨tr, htr⟩ : ∃ tr, y.tr + 1 = tr := ⟨_, rfl⟩
  rw [htr] at hn vt ⊢
  have g2 : decide ((y.n2 : Int) < (tr : Int)) = false := decide_eq_false (by omega)
  have g3 : decide (y.n2 < tr) = false := decide_eq_false (by omega)
  have HI2 : Hid (AIn [(w.heap.size, noM TA)] pb { y with lf := 0, tr := tr } v w (((w.setCell ⟨pb, 4, none⟩ (.int .i64 0)).setCell ⟨pb, 3, none⟩ (nm tr)).alloc (noM TA))) := Lib.hid (AIn.made h (((ADo.refl h).set 4 (.int .i64 0) { y with lf := 0 } rfl rfl).set 3 (nm tr) { y with lf := 0, tr := tr } rfl rfl) (by simp) _)
  clear h hm ho hz
  go_enter Try.func20, Try.ntmps20
  go_wp2_with (go_at_call 34; ((with_reducible refine C1.out.mono ?_); rintro e w' ⟨rfl, rfl⟩))
  go_quiet (fail)
  have HI3 := Lib.hid (HI2.out.drewN nq)
  generalize (((w.setCell ⟨pb, 4, none⟩ (.int .i64 0)).setCell ⟨pb, 3, none⟩ (nm tr)).alloc (noM TA)).drewN nq = w2 at HI3 ⊢
  clear HI2 H1 C1 c2 c8 c4 c3 c12 hfr
  have hfr := HI3.out.does.at_.free
  have hl2 := HI3.out.lt
  obtain ⟨⟨k0, k1, k2, k3⟩, kf⟩ := cells4 HI3.out.at0
  have d8 := HI3.out.does.at_.cell 8 (.bool y.ak) rfl
  have d19 := HI3.out.does.at_.cell 19 (.bool y.poll) rfl
  have d4 := HI3.out.does.at_.cell 4 (.int .i64 0) rfl
  have d13 := HI3.out.does.at_.cell 13 (.int .i64 (y.t1 : Int)) rfl
  have HE := Lib.hid ((((HI3.out.set 8 (.bool true) { y with lf := 0, tr := tr, ak := true } rfl rfl).set 19 (.bool true) { y with lf := 0, tr := tr, ak := true, poll := true } rfl rfl).set 4 (nm y.t1) { y with lf := y.t1, tr := tr, ak := true, poll := true } rfl rfl).put4 nil_ne (.string ⟨#[]⟩) (.bool false) (.int .i64 0) (.bool false))
  go_wp2
  exact bodyPost_ret (res_am rfl rfl _ _ _ noAm HE.out.at0 rfl) rfl ⟨rfl, HE.out.does⟩
set_option maxHeartbeats 2000000 in
theorem ftick_ask_y (w : World) (pb : Nat) (y : Ps) (v : Value) (h : PAt w pb y v) (ht : y.tr ≤ 1000) (hl : y.fl = false) (hz : y.lf = 1) (ho : ¬ 0 < y.out) (hk : y.ak = true) (hn : y.n2 < y.tr + 1) :
    Calls Try.prog 20 #[ptr pb] w fun e w' => e = .returned (amv ⟨bE, false, 0, true⟩) ∧ ADo pb { y with lf := 0, tr := y.tr + 1, fl := true } v w w' := by
  have H1 := Lib.hid (AIn.first h (noM TA))
  have C1 := Lib.hid (flives _ pb y v H1.out.does.at_)
  rw [hl] at C1
  have hfr := h.free
  have hlt := h.lt
  have c2 := h.cell 2 (.int .i64 (y.out : Int)) rfl
  have c8 := h.cell 8 (.bool y.ak) rfl
  have c4 := h.cell 4 (.int .i64 (y.lf : Int)) rfl
  have c3 := h.cell 3 (.int .i64 (y.tr : Int)) rfl
  have c12 := h.cell 12 (.int .i64 (y.n2 : Int)) rfl
  rw [hz] at c4
  obtain ⟨m, hm⟩ : ∃ m, y.out = m := ⟨_, rfl⟩
  rw [hm] at c2 ho
  have g0 : decide ((0 : Int) < (m : Int)) = false := decide_eq_false (by omega)
  have g0b : decide (0 < m) = false := decide_eq_false (by omega)
  rw [hk] at c8
  have vt : IntKind.i64.wrap ((y.tr : Int) + 1) = ((y.tr + 1 : Nat) : Int) := by rw [IntKind.wrap_i64]; omega
  have vl : IntKind.i64.wrap 0 = 0 := by decide
  obtain ⟨tr, htr⟩ : ∃ tr, y.tr + 1 = tr := ⟨_, rfl⟩
  rw [htr] at hn vt ⊢
  have g2 : decide ((y.n2 : Int) < (tr : Int)) = true := decide_eq_true (by omega)
  have g3 : decide (y.n2 < tr) = true := decide_eq_true (by omega)
  have HI2 : Hid (AIn [(w.heap.size, noM TA)] pb { y with lf := 0, tr := tr } v w (((w.setCell ⟨pb, 4, none⟩ (.int .i64 0)).setCell ⟨pb, 3, none⟩ (nm tr)).alloc (noM TA))) := Lib.hid (AIn.made h (((ADo.refl h).set 4 (.int .i64 0) { y with lf := 0 } rfl rfl).set 3 (nm tr) { y with lf := 0, tr := tr } rfl rfl) (by simp) _)
  clear h hm ho hz
  go_enter Try.func20, Try.ntmps20
  go_wp2_with (go_at_call 34; ((with_reducible refine C1.out.mono ?_); rintro e w' ⟨rfl, rfl⟩))
  go_quiet (fail)
  have HI3 := Lib.hid (HI2.out.drewN nq)
  generalize (((w.setCell ⟨pb, 4, none⟩ (.int .i64 0)).setCell ⟨pb, 3, none⟩ (nm tr)).alloc (noM TA)).drewN nq = w2 at HI3 ⊢
  clear HI2 H1 C1 c2 c8 c4 c3 c12 hfr
  have CF := Lib.hid (ffail _ pb _ v HI3.out.does.at_)
  go_wp2_with fail
  refine CF.out.mono ?_
  rintro _ w3 ⟨rfl, hd⟩
  have HI4 := Lib.hid (HI3.out.next hd)
  clear hd CF HI3
  obtain ⟨⟨k0, k1, k2, k3⟩, kf⟩ := cells4 HI4.out.at0
  have HE := Lib.hid (HI4.out.put4 nil_ne (.string bE) (.bool false) (nm 0) (.bool true))
  go_wp2
  exact bodyPost_ret (res_am rfl rfl _ _ _ ⟨bE, false, 0, true⟩ HE.out.at0 rfl) rfl ⟨rfl, HE.out.does⟩
set_option maxHeartbeats 2000000 in
theorem ftick_ask_n (w : World) (pb : Nat) (y : Ps) (v : Value) (h : PAt w pb y v) (ht : y.tr ≤ 1000) (hl : y.fl = false) (hz : y.lf = 1) (ho : ¬ 0 < y.out) (hk : y.ak = true) (hn : ¬ y.n2 < y.tr + 1) :
    Calls Try.prog 20 #[ptr pb] w fun e w' => e = .returned (amv noAm) ∧ ADo pb { y with lf := y.t1, tr := y.tr + 1, ak := true, poll := true } v w w' := by
  have H1 := Lib.hid (AIn.first h (noM TA))
  have C1 := Lib.hid (flives _ pb y v H1.out.does.at_)
  rw [hl] at C1
  have hfr := h.free
  have hlt := h.lt
  have c2 := h.cell 2 (.int .i64 (y.out : Int)) rfl
  have c8 := h.cell 8 (.bool y.ak) rfl
  have c4 := h.cell 4 (.int .i64 (y.lf : Int)) rfl
  have c3 := h.cell 3 (.int .i64 (y.tr : Int)) rfl
  have c12 := h.cell 12 (.int .i64 (y.n2 : Int)) rfl
  rw [hz] at c4
  obtain ⟨m, hm⟩ : ∃ m, y.out = m := ⟨_, rfl⟩
  rw [hm] at c2 ho
  have g0 : decide ((0 : Int) < (m : Int)) = false := decide_eq_false (by omega)
  have g0b : decide (0 < m) = false := decide_eq_false (by omega)
  rw [hk] at c8
  have vt : IntKind.i64.wrap ((y.tr : Int) + 1) = ((y.tr + 1 : Nat) : Int) := by rw [IntKind.wrap_i64]; omega
  have vl : IntKind.i64.wrap 0 = 0 := by decide
  obtain ⟨tr, htr⟩ : ∃ tr, y.tr + 1 = tr := ⟨_, rfl⟩
  rw [htr] at hn vt ⊢
  have g2 : decide ((y.n2 : Int) < (tr : Int)) = false := decide_eq_false (by omega)
  have g3 : decide (y.n2 < tr) = false := decide_eq_false (by omega)
  have HI2 : Hid (AIn [(w.heap.size, noM TA)] pb { y with lf := 0, tr := tr } v w (((w.setCell ⟨pb, 4, none⟩ (.int .i64 0)).setCell ⟨pb, 3, none⟩ (nm tr)).alloc (noM TA))) := Lib.hid (AIn.made h (((ADo.refl h).set 4 (.int .i64 0) { y with lf := 0 } rfl rfl).set 3 (nm tr) { y with lf := 0, tr := tr } rfl rfl) (by simp) _)
  clear h hm ho hz
  go_enter Try.func20, Try.ntmps20
  go_wp2_with (go_at_call 34; ((with_reducible refine C1.out.mono ?_); rintro e w' ⟨rfl, rfl⟩))
  go_quiet (fail)
  have HI3 := Lib.hid (HI2.out.drewN nq)
  generalize (((w.setCell ⟨pb, 4, none⟩ (.int .i64 0)).setCell ⟨pb, 3, none⟩ (nm tr)).alloc (noM TA)).drewN nq = w2 at HI3 ⊢
  clear HI2 H1 C1 c2 c8 c4 c3 c12 hfr
  have hfr := HI3.out.does.at_.free
  have hl2 := HI3.out.lt
  obtain ⟨⟨k0, k1, k2, k3⟩, kf⟩ := cells4 HI3.out.at0
  have d8 := HI3.out.does.at_.cell 8 (.bool y.ak) rfl
  have d19 := HI3.out.does.at_.cell 19 (.bool y.poll) rfl
  have d4 := HI3.out.does.at_.cell 4 (.int .i64 0) rfl
  have d13 := HI3.out.does.at_.cell 13 (.int .i64 (y.t1 : Int)) rfl
  have HE := Lib.hid ((((HI3.out.set 8 (.bool true) { y with lf := 0, tr := tr, ak := true } rfl rfl).set 19 (.bool true) { y with lf := 0, tr := tr, ak := true, poll := true } rfl rfl).set 4 (nm y.t1) { y with lf := y.t1, tr := tr, ak := true, poll := true } rfl rfl).put4 nil_ne (.string ⟨#[]⟩) (.bool false) (.int .i64 0) (.bool false))
  go_wp2
  exact bodyPost_ret (res_am rfl rfl _ _ _ noAm HE.out.at0 rfl) rfl ⟨rfl, HE.out.does⟩
set_option maxHeartbeats 2000000 in
theorem ftick_none_y (w : World) (pb : Nat) (y : Ps) (v : Value) (h : PAt w pb y v) (ht : y.tr ≤ 1000) (hl : y.fl = false) (hz : y.lf = 1) (ho : ¬ 0 < y.out) (hk : y.ak = false) (hn : y.n2 < y.tr) :
    Calls Try.prog 20 #[ptr pb] w fun e w' => e = .returned (amv ⟨bE, false, 0, true⟩) ∧ ADo pb { y with lf := 0, tr := y.tr, fl := true } v w w' := by
  have H1 := Lib.hid (AIn.first h (noM TA))
  have C1 := Lib.hid (flives _ pb y v H1.out.does.at_)
  rw [hl] at C1
  have hfr := h.free
  have hlt := h.lt
  have c2 := h.cell 2 (.int .i64 (y.out : Int)) rfl
  have c8 := h.cell 8 (.bool y.ak) rfl
  have c4 := h.cell 4 (.int .i64 (y.lf : Int)) rfl
  have c3 := h.cell 3 (.int .i64 (y.tr : Int)) rfl
  have c12 := h.cell 12 (.int .i64 (y.n2 : Int)) rfl
  rw [hz] at c4
  obtain ⟨m, hm⟩ : ∃ m, y.out = m := ⟨_, rfl⟩
  rw [hm] at c2 ho
  have g0 : decide ((0 : Int) < (m : Int)) = false := decide_eq_false (by omega)
  have g0b : decide (0 < m) = false := decide_eq_false (by omega)
  rw [hk] at c8
  have vt : IntKind.i64.wrap ((y.tr : Int) + 1) = ((y.tr + 1 : Nat) : Int) := by rw [IntKind.wrap_i64]; omega
  have vl : IntKind.i64.wrap 0 = 0 := by decide
  obtain ⟨tr, htr⟩ : ∃ tr, y.tr = tr := ⟨_, rfl⟩
  rw [htr] at hn ⊢
  have g2 : decide ((y.n2 : Int) < (tr : Int)) = true := decide_eq_true (by omega)
  have g3 : decide (y.n2 < tr) = true := decide_eq_true (by omega)
  have HI2 : Hid (AIn [(w.heap.size, noM TA)] pb { y with lf := 0, tr := tr } v w ((w.setCell ⟨pb, 4, none⟩ (.int .i64 0)).alloc (noM TA))) := Lib.hid (htr ▸ AIn.made h ((ADo.refl h).set 4 (.int .i64 0) { y with lf := 0 } rfl rfl) (by simp) _)
  clear h hm ho hz
  go_enter Try.func20, Try.ntmps20
  go_wp2_with (go_at_call 34; ((with_reducible refine C1.out.mono ?_); rintro e w' ⟨rfl, rfl⟩))
  go_quiet (fail)
  have HI3 := Lib.hid (HI2.out.drewN nq)
  generalize ((w.setCell ⟨pb, 4, none⟩ (.int .i64 0)).alloc (noM TA)).drewN nq = w2 at HI3 ⊢
  clear HI2 H1 C1 c2 c8 c4 c3 c12 hfr
  have CF := Lib.hid (ffail _ pb _ v HI3.out.does.at_)
  go_wp2_with fail
  refine CF.out.mono ?_
  rintro _ w3 ⟨rfl, hd⟩
  have HI4 := Lib.hid (HI3.out.next hd)
  clear hd CF HI3
  obtain ⟨⟨k0, k1, k2, k3⟩, kf⟩ := cells4 HI4.out.at0
  have HE := Lib.hid (HI4.out.put4 nil_ne (.string bE) (.bool false) (nm 0) (.bool true))
  go_wp2
  exact bodyPost_ret (res_am rfl rfl _ _ _ ⟨bE, false, 0, true⟩ HE.out.at0 rfl) rfl ⟨rfl, HE.out.does⟩
set_option maxHeartbeats 2000000 in
theorem ftick_none_n (w : World) (pb : Nat) (y : Ps) (v : Value) (h : PAt w pb y v) (ht : y.tr ≤ 1000) (hl : y.fl = false) (hz : y.lf = 1) (ho : ¬ 0 < y.out) (hk : y.ak = false) (hn : ¬ y.n2 < y.tr) :
    Calls Try.prog 20 #[ptr pb] w fun e w' => e = .returned (amv noAm) ∧ ADo pb { y with lf := y.t1, tr := y.tr, ak := true, poll := true } v w w' := by
  have H1 := Lib.hid (AIn.first h (noM TA))
  have C1 := Lib.hid (flives _ pb y v H1.out.does.at_)
  rw [hl] at C1
  have hfr := h.free
  have hlt := h.lt
  have c2 := h.cell 2 (.int .i64 (y.out : Int)) rfl
  have c8 := h.cell 8 (.bool y.ak) rfl
  have c4 := h.cell 4 (.int .i64 (y.lf : Int)) rfl
  have c3 := h.cell 3 (.int .i64 (y.tr : Int)) rfl
  have c12 := h.cell 12 (.int .i64 (y.n2 : Int)) rfl
  rw [hz] at c4
  obtain ⟨m, hm⟩ : ∃ m, y.out = m := ⟨_, rfl⟩
  rw [hm] at c2 ho
  have g0 : decide ((0 : Int) < (m : Int)) = false := decide_eq_false (by omega)
  have g0b : decide (0 < m) = false := decide_eq_false (by omega)
  rw [hk] at c8
  have vt : IntKind.i64.wrap ((y.tr : Int) + 1) = ((y.tr + 1 : Nat) : Int) := by rw [IntKind.wrap_i64]; omega
  have vl : IntKind.i64.wrap 0 = 0 := by decide
  obtain ⟨tr, htr⟩ : ∃ tr, y.tr = tr := ⟨_, rfl⟩
  rw [htr] at hn ⊢
  have g2 : decide ((y.n2 : Int) < (tr : Int)) = false := decide_eq_false (by omega)
  have g3 : decide (y.n2 < tr) = false := decide_eq_false (by omega)
  have HI2 : Hid (AIn [(w.heap.size, noM TA)] pb { y with lf := 0, tr := tr } v w ((w.setCell ⟨pb, 4, none⟩ (.int .i64 0)).alloc (noM TA))) := Lib.hid (htr ▸ AIn.made h ((ADo.refl h).set 4 (.int .i64 0) { y with lf := 0 } rfl rfl) (by simp) _)
  clear h hm ho hz
  go_enter Try.func20, Try.ntmps20
  go_wp2_with (go_at_call 34; ((with_reducible refine C1.out.mono ?_); rintro e w' ⟨rfl, rfl⟩))
  go_quiet (fail)
  have HI3 := Lib.hid (HI2.out.drewN nq)
  generalize ((w.setCell ⟨pb, 4, none⟩ (.int .i64 0)).alloc (noM TA)).drewN nq = w2 at HI3 ⊢
  clear HI2 H1 C1 c2 c8 c4 c3 c12 hfr
  have hfr := HI3.out.does.at_.free
  have hl2 := HI3.out.lt
  obtain ⟨⟨k0, k1, k2, k3⟩, kf⟩ := cells4 HI3.out.at0
  have d8 := HI3.out.does.at_.cell 8 (.bool y.ak) rfl
  have d19 := HI3.out.does.at_.cell 19 (.bool y.poll) rfl
  have d4 := HI3.out.does.at_.cell 4 (.int .i64 0) rfl
  have d13 := HI3.out.does.at_.cell 13 (.int .i64 (y.t1 : Int)) rfl
  have HE := Lib.hid ((((HI3.out.set 8 (.bool true) { y with lf := 0, tr := tr, ak := true } rfl rfl).set 19 (.bool true) { y with lf := 0, tr := tr, ak := true, poll := true } rfl rfl).set 4 (nm y.t1) { y with lf := y.t1, tr := tr, ak := true, poll := true } rfl rfl).put4 nil_ne (.string ⟨#[]⟩) (.bool false) (.int .i64 0) (.bool false))
  go_wp2
  exact bodyPost_ret (res_am rfl rfl _ _ _ noAm HE.out.at0 rfl) rfl ⟨rfl, HE.out.does⟩
end Go.Proofs.Ytkoaplmlabagnaa.Aq

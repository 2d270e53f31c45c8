/-
  The program's own side: takeDue, Next. Condition: it lies where it says; its numbers are small.
-/
import Derived.Test.YtkoaplmlabagnaaAqPm6
namespace Go.Proofs.Ytkoaplmlabagnaa.Aq
open Go.RowKit Go.Proofs.Ytkoaplmlabagnaa.Base Go.Proofs.Ytkoaplmlabagnaa.Mem
set_option maxHeartbeats 2000000 in
theorem ftakeDue_due (w : World) (pb : Nat) (y : Ps) (v : Value) (h : PAt w pb y v) (hd : y.due = true) :
    Calls Try.prog 41 #[ptr pb] w fun e w' => e = .returned (fmv (Ps.takeAnswer y).2) ∧ ADo pb (Ps.takeAnswer y).1 v w w' := by
  have H1 : Hid (AIn [(w.heap.size, noF)] pb y v w (w.alloc noF)) := Lib.hid (AIn.first h _)
  have CT := Lib.hid (ftakeAnswer _ pb y v H1.out.does.at_)
  have hlt := h.lt
  have hfr := h.free
  have c16 := h.cell 16 (.bool y.due) rfl
  have c19 := h.cell 19 (.bool y.poll) rfl
  rw [hd] at c16
  generalize hr : Ps.takeAnswer y = r at CT ⊢
  obtain ⟨y2, f⟩ := r
  clear h hr
  go_enter Try.func41, Try.ntmps41
  go_wp2_with fail
  refine CT.out.mono ?_
  rintro _ w2 ⟨rfl, hd2⟩
  have H2 := Lib.hid (H1.out.next hd2)
  clear hd2 CT H1 c16 c19 hfr
  obtain ⟨⟨k0, k1, k2, k3, k4, k5, k6⟩, kf⟩ := cells7 H2.out.at0
  have HZ := Lib.hid (H2.out.put7 nil_ne (.int .u8 0) (.bool f.c) (.int .u8 (f.k : Int)) (.bool f.pf) (.int .u8 (f.ns : Int)) (.int .u8 (f.nr : Int)) (.string f.i))
  go_wp2
  exact bodyPost_ret (res_fm rfl rfl _ _ _ f HZ.out.at0 rfl) rfl ⟨rfl, HZ.out.does⟩
set_option maxHeartbeats 2000000 in
theorem ftakeDue_poll (w : World) (pb : Nat) (y : Ps) (v : Value) (h : PAt w pb y v) (hd : y.due = false) (hp : y.poll = true) :
    Calls Try.prog 41 #[ptr pb] w fun e w' => e = .returned (fmv (Ps.takePoll y).2) ∧ ADo pb (Ps.takePoll y).1 v w w' := by
  have H1 : Hid (AIn [(w.heap.size, noF)] pb y v w (w.alloc noF)) := Lib.hid (AIn.first h _)
  have CT := Lib.hid (ftakePoll _ pb y v H1.out.does.at_)
  have hlt := h.lt
  have hfr := h.free
  have c16 := h.cell 16 (.bool y.due) rfl
  have c19 := h.cell 19 (.bool y.poll) rfl
  rw [hd] at c16
  rw [hp] at c19
  generalize hr : Ps.takePoll y = r at CT ⊢
  obtain ⟨y2, f⟩ := r
  clear h hr
  go_enter Try.func41, Try.ntmps41
  go_wp2_with fail
  refine CT.out.mono ?_
  rintro _ w2 ⟨rfl, hd2⟩
  have H2 := Lib.hid (H1.out.next hd2)
  clear hd2 CT H1 c16 c19 hfr
  obtain ⟨⟨k0, k1, k2, k3, k4, k5, k6⟩, kf⟩ := cells7 H2.out.at0
  have HZ := Lib.hid (H2.out.put7 nil_ne (.int .u8 0) (.bool f.c) (.int .u8 (f.k : Int)) (.bool f.pf) (.int .u8 (f.ns : Int)) (.int .u8 (f.nr : Int)) (.string f.i))
  go_wp2
  exact bodyPost_ret (res_fm rfl rfl _ _ _ f HZ.out.at0 rfl) rfl ⟨rfl, HZ.out.does⟩
set_option maxHeartbeats 2000000 in
theorem ftakeDue_info (w : World) (pb : Nat) (y : Ps) (v : Value) (h : PAt w pb y v) (hd : y.due = false) (hp : y.poll = false) (hf : PFit y) (hm : y.out < y.q.length) :
    Calls Try.prog 41 #[ptr pb] w fun e w' => e = .returned (fmv (Ps.takeInfo y).2) ∧ ADo pb (Ps.takeInfo y).1 v w w' := by
  have H1 : Hid (AIn [(w.heap.size, noF)] pb y v w (w.alloc noF)) := Lib.hid (AIn.first h _)
  have CT := Lib.hid (ftakeInfo _ pb y v H1.out.does.at_ hf hm)
  have hlt := h.lt
  have hfr := h.free
  have c16 := h.cell 16 (.bool y.due) rfl
  have c19 := h.cell 19 (.bool y.poll) rfl
  rw [hd] at c16
  rw [hp] at c19
  generalize hr : Ps.takeInfo y = r at CT ⊢
  obtain ⟨y2, f⟩ := r
  clear h hr hm hf
  go_enter Try.func41, Try.ntmps41
  go_wp2_with fail
  refine CT.out.mono ?_
  rintro _ w2 ⟨rfl, hd2⟩
  have H2 := Lib.hid (H1.out.next hd2)
  clear hd2 CT H1 c16 c19 hfr
  obtain ⟨⟨k0, k1, k2, k3, k4, k5, k6⟩, kf⟩ := cells7 H2.out.at0
  have HZ := Lib.hid (H2.out.put7 nil_ne (.int .u8 0) (.bool f.c) (.int .u8 (f.k : Int)) (.bool f.pf) (.int .u8 (f.ns : Int)) (.int .u8 (f.nr : Int)) (.string f.i))
  go_wp2
  exact bodyPost_ret (res_fm rfl rfl _ _ _ f HZ.out.at0 rfl) rfl ⟨rfl, HZ.out.does⟩
theorem ftakeDue (w : World) (pb : Nat) (y : Ps) (v : Value) (h : PAt w pb y v) (hf : PFit y) (hh : Ps.has y = true) :
    Calls Try.prog 41 #[ptr pb] w fun e w' => e = .returned (fmv (Ps.takeDue y).2) ∧ ADo pb (Ps.takeDue y).1 v w w' := by
  unfold Ps.takeDue
  by_cases hd : y.due = true
  · rw [if_pos hd]; exact ftakeDue_due w pb y v h hd
  rw [if_neg hd]
  have hd : y.due = false := by simpa using hd
  by_cases hp : y.poll = true
  · rw [if_pos hp]; exact ftakeDue_poll w pb y v h hd hp
  rw [if_neg hp]
  have hp : y.poll = false := by simpa using hp
  have hm : y.out < y.q.length := by
    unfold Ps.has Ps.may at hh
    simp [hd, hp] at hh
    exact hh.2.2
  exact ftakeDue_info w pb y v h hd hp hf hm
set_option maxHeartbeats 2000000 in
theorem fnext_no (w : World) (p : Value) (CH : ∀ w1, Below w.heap.size w w1 → Calls Try.prog 13 #[p] w1 fun e w' => e = .returned (.bool false) ∧ ∃ m, w' = w1.drewN m) :
    Calls Try.prog 19 #[p] w fun e w' => e = .returned (.tuple #[fmv noFm, .bool false]) ∧ Below w.heap.size w w' := by
  have C := Lib.hid (CH _ (nest_below w [noF]))
  rw [show [noF].foldl World.alloc w = w.alloc noF from rfl] at C
  have HB : Hid (Below w.heap.size w (w.alloc noF)) := Lib.hid (nest_below w [noF])
  have hn : (w.alloc noF).heap[w.heap.size]? = some noF := nest w [noF] 0 _ rfl
  have HN := Lib.hid hn
  clear CH hn
  go_enter Try.func19, Try.ntmps19
  go_wp2_with fail
  refine C.out.mono ?_
  rintro _ w2 ⟨rfl, hd⟩
  have HB2 := Lib.hid (below_on HB.out (drewN_below hd))
  have hn2 := stays HN.out (drewN_below hd)
  obtain ⟨⟨k0, k1, k2, k3, k4, k5, k6⟩, kf⟩ := cells7 hn2
  have HZ := Lib.hid (set7_at hn2 (.int .u8 0) (.bool false) (.int .u8 0) (.bool false) (.int .u8 0) (.int .u8 0) (.string ⟨#[]⟩))
  have HB3 : Hid (Below w.heap.size w (set7 w2 w.heap.size (.int .u8 0) (.bool false) (.int .u8 0) (.bool false) (.int .u8 0) (.int .u8 0) (.string ⟨#[]⟩))) := Lib.hid (((((((HB2.out.setCell (p := ⟨w.heap.size, 0, none⟩) (Nat.le_refl _) _).setCell (p := ⟨w.heap.size, 1, none⟩) (Nat.le_refl _) _).setCell (p := ⟨w.heap.size, 2, none⟩) (Nat.le_refl _) _).setCell (p := ⟨w.heap.size, 3, none⟩) (Nat.le_refl _) _).setCell (p := ⟨w.heap.size, 4, none⟩) (Nat.le_refl _) _).setCell (p := ⟨w.heap.size, 5, none⟩) (Nat.le_refl _) _).setCell (p := ⟨w.heap.size, 6, none⟩) (Nat.le_refl _) _)
  clear hn2 hd C HB HN HB2
  go_wp2
  exact bodyPost_ret (res_fmb rfl rfl _ _ _ noFm false HZ.out rfl rfl) rfl ⟨rfl, HB3.out⟩
set_option maxHeartbeats 2000000 in
theorem fnext_do (w : World) (pb : Nat) (y : Ps) (v : Value) (h : PAt w pb y v) (hf : PFit y) (hh : Ps.has y = true) :
    Calls Try.prog 19 #[ptr pb] w fun e w' => e = .returned (.tuple #[fmv (Ps.takeDue y).2, .bool true]) ∧ ADo pb (Ps.count false (Ps.takeDue y).1) v w w' := by
  have H1 : Hid (AIn [(w.heap.size, noF)] pb y v w (w.alloc noF)) := Lib.hid (AIn.first h _)
  have C1 := Lib.hid (fhas _ pb y v H1.out.does.at_)
  rw [hh] at C1
  have CT : Hid (∀ w1, PAt w1 pb y v → Calls Try.prog 41 #[ptr pb] w1 fun e w' => e = .returned (fmv (Ps.takeDue y).2) ∧ ADo pb (Ps.takeDue y).1 v w1 w') := Lib.hid fun w1 h1 => ftakeDue w1 pb y v h1 hf hh
  generalize hr : Ps.takeDue y = r at CT ⊢
  obtain ⟨y2, f⟩ := r
  clear h hr hf hh
  go_enter Try.func19, Try.ntmps19
  go_wp2_with fail
  refine C1.out.mono ?_
  rintro _ w2 ⟨rfl, hd⟩
  have H2 := Lib.hid (H1.out.below (drewN_below hd))
  clear H1 C1 hd
  go_wp2_with fail
  refine (CT.out _ H2.out.does.at_).mono ?_
  rintro _ w3 ⟨rfl, hd⟩
  have H3 := Lib.hid (H2.out.next hd)
  clear CT hd H2
  have hlb : w.heap.size < w3.heap.size := lt_heap H3.out.at0
  have HE : Hid (AIn [(w3.heap.size, fmO f), (w.heap.size, noF)] pb y2 v w (w3.alloc (.cells #[.int .u8 0, .bool f.c, .int .u8 (f.k : Int), .bool f.pf, .int .u8 (f.ns : Int), .int .u8 (f.nr : Int), .string f.i] TF (0, 0)))) := Lib.hid (H3.out.alloc _)
  have CN := Lib.hid (fcount _ pb y2 v false HE.out.does.at_)
  clear H3
  go_wp2_with fail
  refine CN.out.mono ?_
  rintro _ w4 ⟨rfl, hd⟩
  have H4 := Lib.hid (HE.out.next hd)
  clear CN hd HE
  generalize w3.heap.size = lb at H4 hlb ⊢
  obtain ⟨⟨l0, l1, l2, l3, l4, l5, l6⟩, lf⟩ := cells7 (show w4.heap[lb]? = some (.cells #[.int .u8 0, .bool f.c, .int .u8 (f.k : Int), .bool f.pf, .int .u8 (f.ns : Int), .int .u8 (f.nr : Int), .string f.i] TF (0, 0)) from H4.out.at0)
  obtain ⟨⟨k0, k1, k2, k3, k4, k5, k6⟩, kf⟩ := cells7 H4.out.tail.at0
  have HZ := Lib.hid (H4.out.swap.put7 (one_ne (by omega)) (.int .u8 0) (.bool f.c) (.int .u8 (f.k : Int)) (.bool f.pf) (.int .u8 (f.ns : Int)) (.int .u8 (f.nr : Int)) (.string f.i))
  go_wp2
  exact bodyPost_ret (res_fmb rfl rfl _ _ _ f true HZ.out.at0 rfl rfl) rfl ⟨rfl, HZ.out.does⟩
theorem fnext (w : World) (pb : Nat) (y : Ps) (v : Value) (h : PAt w pb y v) (hf : PFit y) :
    Calls Try.prog 19 #[ptr pb] w fun e w' => e = .returned (.tuple #[fmv (Ps.next y).2.1, .bool (Ps.next y).2.2]) ∧ ADo pb (Ps.next y).1 v w w' := by
  unfold Ps.next
  by_cases hh : Ps.has y = true
  · rw [if_pos hh]; exact fnext_do w pb y v h hf hh
  · rw [if_neg hh]
    have hh : Ps.has y = false := by simpa using hh
    exact (fnext_no w (ptr pb) fun w1 hb => by rw [← hh]; exact fhas w1 pb y v (h.below hb)).mono fun e w' ⟨h1, h2⟩ => ⟨h1, (ADo.refl h).on h2⟩
theorem fnext_nil (w : World) : Calls Try.prog 19 #[.pointer none] w fun e w' => e = .returned (.tuple #[fmv noFm, .bool false]) ∧ Below w.heap.size w w' :=
  fnext_no w _ fun w1 _ => (fhas_nil w1).mono fun _ _ ⟨h1, h2⟩ => ⟨h1, 0, h2.symm⟩
end Go.Proofs.Ytkoaplmlabagnaa.Aq

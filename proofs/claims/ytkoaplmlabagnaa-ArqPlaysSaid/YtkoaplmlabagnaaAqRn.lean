/-
  The document's own side: Next. Condition: it lies where it says; its numbers are small.
-/
import Derived.Test.YtkoaplmlabagnaaAqHr
import Derived.Lib.MinMax
import Derived.Deep.RegionHeld
namespace Go.Proofs.Ytkoaplmlabagnaa.Aq
open Go.RowKit Go.Proofs.Ytkoaplmlabagnaa.Base Go.Proofs.Ytkoaplmlabagnaa.Mem
theorem RIm.made1 {pb : Nat} {x y : Sd} {v : Value} {w w1 : World} (h0 : RAt w pb x v) (h : RDo pb y v w w1) (hs : w1.heap.size = w.heap.size) (o1 o2 : Obj) : RIm [(w.heap.size + 1, o2), (w.heap.size, o1)] pb y v w ((w1.alloc o1).alloc o2) := by
  have := ((RIm.start h0 h).alloc o1).alloc o2
  rwa [size_alloc, hs] at this
set_option maxHeartbeats 1000000 in
theorem rnext_fl (w : World) (pb : Nat) (x : Sd) (v : Value) (h : RAt w pb x v) (hl : x.fl = true) :
    Calls Try.prog 26 #[ptr pb] w fun e w' => e = .returned (.tuple #[fmv noFm, .bool false]) ∧ RDo pb x v w w' := by
  have H := Lib.hid h
  have hlt := h.lt
  have c16 := h.cell 16 (.bool x.fl) rfl
  rw [hl] at c16
  have HN : Hid ((w.alloc noF).heap[w.heap.size]? = some (fmO noFm)) := Lib.hid (nest w [noF] 0 _ rfl)
  clear h
  go_enter Try.func26, Try.ntmps26
  go_wp2
  exact bodyPost_ret (res_fmb rfl rfl _ _ _ noFm false HN.out rfl rfl) rfl ⟨rfl, (RDo.refl H.out).on (nest_below w [noF])⟩
set_option maxHeartbeats 4000000 in
set_option maxRecDepth 100000 in
theorem rnext_dueb (w : World) (pb : Nat) (x : Sd) (v : Value) (h : RAt w pb x v) (hf : Fit x) (hl : x.fl = false) (hb : x.bu = true) (hd : x.due = true) :
    Calls Try.prog 26 #[ptr pb] w fun e w' => e = .returned (.tuple #[fmv ⟨false, 9, x.fin, 0, x.g % 8, bE⟩, .bool true]) ∧ RDo pb (cnt false { x with due := false, fin := false, rej := false }) v w w' := by
  have H := Lib.hid h
  have hlt := h.lt
  have hfr := h.free
  obtain ⟨r, hr⟩ : ∃ r, x.g % 8 = r := ⟨_, rfl⟩
  have r8 : (x.g : Int) % 8 = (r : Int) := by omega
  have rw8 : IntKind.u8.wrap (r : Int) = (r : Int) := by rw [IntKind.wrap_u8]; omega
  have hg := hf.g
  have c7 := h.cell 7 (.int .i64 (x.g : Int)) rfl
  have c8 := h.cell 8 (.bool x.due) rfl
  have c9 := h.cell 9 (.bool x.fin) rfl
  have c10 := h.cell 10 (.bool x.rej) rfl
  have c13 := h.cell 13 (.bool x.bu) rfl
  have c16 := h.cell 16 (.bool x.fl) rfl
  rw [hl] at c16
  rw [hb] at c13
  rw [hd] at c8
  rw [hr]
  have hfin : Fit { x with due := false, fin := false, rej := false } := ⟨hf.k, hf.n2, hf.t1, hf.t1p, hf.hs, hf.sT, hf.tp, hf.pk, hf.few, hf.g, hf.tr, hf.lf⟩
  have HC : Hid (RIm [(w.heap.size + 1, (.cells #[.int .u8 0, .bool false, .int .u8 9, .bool x.fin, .int .u8 0, .int .u8 (r : Int), .string ⟨#[]⟩] TF (0, 0))), (w.heap.size, noF)] pb { x with due := false, fin := false, rej := false } v w (((((w.setCell ⟨pb, 8, none⟩ (.bool false)).setCell ⟨pb, 9, none⟩ (.bool false)).setCell ⟨pb, 10, none⟩ (.bool false)).alloc noF).alloc (.cells #[.int .u8 0, .bool false, .int .u8 9, .bool x.fin, .int .u8 0, .int .u8 (r : Int), .string ⟨#[]⟩] TF (0, 0)))) := Lib.hid (RIm.made1 h ((((RDo.refl h).set 8 (.bool false) { x with due := false } rfl rfl).set 9 (.bool false) { x with due := false, fin := false } rfl rfl).set 10 (.bool false) { x with due := false, fin := false, rej := false } rfl rfl) (by simp) _ _)
  have CC := Lib.hid (rcount _ pb _ v false HC.out.does.at_ hfin)
  clear h hf hr hfin H
  go_enter Try.func26, Try.ntmps26
  go_wp2_with fail
  refine CC.out.mono ?_
  rintro _ w6 ⟨rfl, hd⟩
  have H6 := Lib.hid (HC.out.next hd)
  clear hd HC CC hfr c7 c8 c9 c10 c13 c16
  obtain ⟨⟨l0, l1, l2, l3, l4, l5, l6⟩, lf⟩ := cells7 (show w6.heap[w.heap.size + 1]? = some (.cells #[.int .u8 0, .bool false, .int .u8 9, .bool x.fin, .int .u8 0, .int .u8 (r : Int), .string ⟨#[]⟩] TF (0, 0)) from H6.out.at0)
  obtain ⟨⟨k0, k1, k2, k3, k4, k5, k6⟩, kf⟩ := cells7 H6.out.tail.at0
  have HZ := Lib.hid (H6.out.swap.put7 (one_ne (by omega)) (.int .u8 0) (.bool false) (.int .u8 9) (.bool x.fin) (.int .u8 0) (.int .u8 (r : Int)) (.string ⟨#[]⟩))
  go_wp2
  exact bodyPost_ret (res_fmb rfl rfl _ _ _ ⟨false, 9, x.fin, 0, r, bE⟩ true HZ.out.at0 rfl rfl) rfl ⟨rfl, HZ.out.does⟩
set_option maxHeartbeats 4000000 in
set_option maxRecDepth 100000 in
theorem rnext_pollb (w : World) (pb : Nat) (x : Sd) (v : Value) (h : RAt w pb x v) (hf : Fit x) (hl : x.fl = false) (hb : x.bu = true) (hd : x.due = false) (hp : x.poll = true) :
    Calls Try.prog 26 #[ptr pb] w fun e w' => e = .returned (.tuple #[fmv ⟨true, 9, true, 0, x.g % 8, bE⟩, .bool true]) ∧ RDo pb (cnt false { x with poll := false }) v w w' := by
  have H := Lib.hid h
  have hlt := h.lt
  have hfr := h.free
  obtain ⟨r, hr⟩ : ∃ r, x.g % 8 = r := ⟨_, rfl⟩
  have r8 : (x.g : Int) % 8 = (r : Int) := by omega
  have rw8 : IntKind.u8.wrap (r : Int) = (r : Int) := by rw [IntKind.wrap_u8]; omega
  have hg := hf.g
  have c7 := h.cell 7 (.int .i64 (x.g : Int)) rfl
  have c8 := h.cell 8 (.bool x.due) rfl
  have c11 := h.cell 11 (.bool x.poll) rfl
  have c13 := h.cell 13 (.bool x.bu) rfl
  have c16 := h.cell 16 (.bool x.fl) rfl
  rw [hl] at c16
  rw [hb] at c13
  rw [hd] at c8
  rw [hp] at c11
  rw [hr]
  have hfin : Fit { x with poll := false } := ⟨hf.k, hf.n2, hf.t1, hf.t1p, hf.hs, hf.sT, hf.tp, hf.pk, hf.few, hf.g, hf.tr, hf.lf⟩
  have HC : Hid (RIm [(w.heap.size + 1, (.cells #[.int .u8 0, .bool true, .int .u8 9, .bool true, .int .u8 0, .int .u8 (r : Int), .string ⟨#[]⟩] TF (0, 0))), (w.heap.size, noF)] pb { x with poll := false } v w (((w.setCell ⟨pb, 11, none⟩ (.bool false)).alloc noF).alloc (.cells #[.int .u8 0, .bool true, .int .u8 9, .bool true, .int .u8 0, .int .u8 (r : Int), .string ⟨#[]⟩] TF (0, 0)))) := Lib.hid (RIm.made1 h ((RDo.refl h).set 11 (.bool false) { x with poll := false } rfl rfl) (by simp) _ _)
  have CC := Lib.hid (rcount _ pb _ v false HC.out.does.at_ hfin)
  clear h hf hr hfin H
  go_enter Try.func26, Try.ntmps26
  go_wp2_with fail
  refine CC.out.mono ?_
  rintro _ w6 ⟨rfl, hd⟩
  have H6 := Lib.hid (HC.out.next hd)
  clear hd HC CC hfr c7 c8 c11 c13 c16
  obtain ⟨⟨l0, l1, l2, l3, l4, l5, l6⟩, lf⟩ := cells7 (show w6.heap[w.heap.size + 1]? = some (.cells #[.int .u8 0, .bool true, .int .u8 9, .bool true, .int .u8 0, .int .u8 (r : Int), .string ⟨#[]⟩] TF (0, 0)) from H6.out.at0)
  obtain ⟨⟨k0, k1, k2, k3, k4, k5, k6⟩, kf⟩ := cells7 H6.out.tail.at0
  have HZ := Lib.hid (H6.out.swap.put7 (one_ne (by omega)) (.int .u8 0) (.bool true) (.int .u8 9) (.bool true) (.int .u8 0) (.int .u8 (r : Int)) (.string ⟨#[]⟩))
  go_wp2
  exact bodyPost_ret (res_fmb rfl rfl _ _ _ ⟨true, 9, true, 0, r, bE⟩ true HZ.out.at0 rfl rfl) rfl ⟨rfl, HZ.out.does⟩
set_option maxHeartbeats 4000000 in
set_option maxRecDepth 100000 in
theorem rnext_pbb (w : World) (pb : Nat) (x : Sd) (v : Value) (h : RAt w pb x v) (hf : Fit x) (hl : x.fl = false) (hb : x.bu = true) (hd : x.due = false) (hp : x.poll = false) (hpb : x.pb = true) :
    Calls Try.prog 26 #[ptr pb] w fun e w' => e = .returned (.tuple #[fmv noFm, .bool false]) ∧ RDo pb x v w w' := by
  obtain ⟨oa, cap, rfl⟩ := h.q.form
  have c3 := h.cell 3 (.slice oa x.p.length cap) rfl
  have H := Lib.hid h
  have hlt := h.lt
  have hfr := h.free
  obtain ⟨r, hr⟩ : ∃ r, x.g % 8 = r := ⟨_, rfl⟩
  have r8 : (x.g : Int) % 8 = (r : Int) := by omega
  have rw8 : IntKind.u8.wrap (r : Int) = (r : Int) := by rw [IntKind.wrap_u8]; omega
  have hg := hf.g
  have c7 := h.cell 7 (.int .i64 (x.g : Int)) rfl
  have c8 := h.cell 8 (.bool x.due) rfl
  have c11 := h.cell 11 (.bool x.poll) rfl
  have c13 := h.cell 13 (.bool x.bu) rfl
  have c16 := h.cell 16 (.bool x.fl) rfl
  have c12 := h.cell 12 (.bool x.pb) rfl
  have c15 := h.cell 15 (.bool x.ak) rfl
  have c5 := h.cell 5 (.int .i64 (x.s : Int)) rfl
  rw [hl] at c16
  rw [hb] at c13
  rw [hd] at c8
  rw [hp] at c11
  rw [hpb] at c12
  obtain ⟨np, hnp⟩ : ∃ np, x.p.length = np := ⟨_, rfl⟩
  rw [hnp] at c3
  have H1 : Hid (RIm [(w.heap.size + 1, (.cells #[.int .u8 0, .bool false, .int .u8 9, .bool false, .int .u8 0, .int .u8 (r : Int), .string ⟨#[]⟩] TF (0, 0))), (w.heap.size, noF)] pb x (.slice oa x.p.length cap) w ((w.alloc noF).alloc (.cells #[.int .u8 0, .bool false, .int .u8 9, .bool false, .int .u8 0, .int .u8 (r : Int), .string ⟨#[]⟩] TF (0, 0)))) := Lib.hid (RIm.made1 h (RDo.refl h) rfl _ _)
  clear h hf hr hnp
  go_enter Try.func26, Try.ntmps26
  go_wp2_with fail
  go_quiet (fail)
  have H2 := Lib.hid (H1.out.drewN nq)
  generalize ((w.alloc noF).alloc (.cells #[.int .u8 0, .bool false, .int .u8 9, .bool false, .int .u8 0, .int .u8 (r : Int), .string ⟨#[]⟩] TF (0, 0))).drewN nq = w2 at H2 ⊢
  clear H1 hfr H c7 c8 c11 c13 c16 c12 c15 c5 c3
  obtain ⟨⟨k0, k1, k2, k3, k4, k5, k6⟩, kf⟩ := cells7 H2.out.tail.at0
  have HZ := Lib.hid (H2.out.swap.put7 (one_ne (by omega)) (.int .u8 0) (.bool false) (.int .u8 0) (.bool false) (.int .u8 0) (.int .u8 0) (.string ⟨#[]⟩))
  go_wp2
  exact bodyPost_ret (res_fmb rfl rfl _ _ _ noFm false HZ.out.at0 rfl rfl) rfl ⟨rfl, HZ.out.does⟩
set_option maxHeartbeats 4000000 in
set_option maxRecDepth 100000 in
theorem rnext_akb (w : World) (pb : Nat) (x : Sd) (v : Value) (h : RAt w pb x v) (hf : Fit x) (hl : x.fl = false) (hb : x.bu = true) (hd : x.due = false) (hp : x.poll = false) (hpb : x.pb = false) (hak : x.ak = true) :
    Calls Try.prog 26 #[ptr pb] w fun e w' => e = .returned (.tuple #[fmv noFm, .bool false]) ∧ RDo pb x v w w' := by
  obtain ⟨oa, cap, rfl⟩ := h.q.form
  have c3 := h.cell 3 (.slice oa x.p.length cap) rfl
  have H := Lib.hid h
  have hlt := h.lt
  have hfr := h.free
  obtain ⟨r, hr⟩ : ∃ r, x.g % 8 = r := ⟨_, rfl⟩
  have r8 : (x.g : Int) % 8 = (r : Int) := by omega
  have rw8 : IntKind.u8.wrap (r : Int) = (r : Int) := by rw [IntKind.wrap_u8]; omega
  have hg := hf.g
  have c7 := h.cell 7 (.int .i64 (x.g : Int)) rfl
  have c8 := h.cell 8 (.bool x.due) rfl
  have c11 := h.cell 11 (.bool x.poll) rfl
  have c13 := h.cell 13 (.bool x.bu) rfl
  have c16 := h.cell 16 (.bool x.fl) rfl
  have c12 := h.cell 12 (.bool x.pb) rfl
  have c15 := h.cell 15 (.bool x.ak) rfl
  have c5 := h.cell 5 (.int .i64 (x.s : Int)) rfl
  rw [hl] at c16
  rw [hb] at c13
  rw [hd] at c8
  rw [hp] at c11
  rw [hpb] at c12
  rw [hak] at c15
  obtain ⟨np, hnp⟩ : ∃ np, x.p.length = np := ⟨_, rfl⟩
  rw [hnp] at c3
  have H1 : Hid (RIm [(w.heap.size + 1, (.cells #[.int .u8 0, .bool false, .int .u8 9, .bool false, .int .u8 0, .int .u8 (r : Int), .string ⟨#[]⟩] TF (0, 0))), (w.heap.size, noF)] pb x (.slice oa x.p.length cap) w ((w.alloc noF).alloc (.cells #[.int .u8 0, .bool false, .int .u8 9, .bool false, .int .u8 0, .int .u8 (r : Int), .string ⟨#[]⟩] TF (0, 0)))) := Lib.hid (RIm.made1 h (RDo.refl h) rfl _ _)
  clear h hf hr hnp
  go_enter Try.func26, Try.ntmps26
  go_wp2_with fail
  go_quiet (fail)
  have H2 := Lib.hid (H1.out.drewN nq)
  generalize ((w.alloc noF).alloc (.cells #[.int .u8 0, .bool false, .int .u8 9, .bool false, .int .u8 0, .int .u8 (r : Int), .string ⟨#[]⟩] TF (0, 0))).drewN nq = w2 at H2 ⊢
  clear H1 hfr H c7 c8 c11 c13 c16 c12 c15 c5 c3
  obtain ⟨⟨k0, k1, k2, k3, k4, k5, k6⟩, kf⟩ := cells7 H2.out.tail.at0
  have HZ := Lib.hid (H2.out.swap.put7 (one_ne (by omega)) (.int .u8 0) (.bool false) (.int .u8 0) (.bool false) (.int .u8 0) (.int .u8 0) (.string ⟨#[]⟩))
  go_wp2
  exact bodyPost_ret (res_fmb rfl rfl _ _ _ noFm false HZ.out.at0 rfl rfl) rfl ⟨rfl, HZ.out.does⟩
set_option maxHeartbeats 4000000 in
set_option maxRecDepth 100000 in
theorem rnext_nob (w : World) (pb : Nat) (x : Sd) (v : Value) (h : RAt w pb x v) (hf : Fit x) (hl : x.fl = false) (hb : x.bu = true) (hd : x.due = false) (hp : x.poll = false) (hpb : x.pb = false) (hak : x.ak = false) (hm : ¬ x.s < x.p.length) :
    Calls Try.prog 26 #[ptr pb] w fun e w' => e = .returned (.tuple #[fmv noFm, .bool false]) ∧ RDo pb x v w w' := by
  obtain ⟨oa, cap, rfl⟩ := h.q.form
  have c3 := h.cell 3 (.slice oa x.p.length cap) rfl
  have H := Lib.hid h
  have hlt := h.lt
  have hfr := h.free
  obtain ⟨r, hr⟩ : ∃ r, x.g % 8 = r := ⟨_, rfl⟩
  have r8 : (x.g : Int) % 8 = (r : Int) := by omega
  have rw8 : IntKind.u8.wrap (r : Int) = (r : Int) := by rw [IntKind.wrap_u8]; omega
  have hg := hf.g
  have c7 := h.cell 7 (.int .i64 (x.g : Int)) rfl
  have c8 := h.cell 8 (.bool x.due) rfl
  have c11 := h.cell 11 (.bool x.poll) rfl
  have c13 := h.cell 13 (.bool x.bu) rfl
  have c16 := h.cell 16 (.bool x.fl) rfl
  have c12 := h.cell 12 (.bool x.pb) rfl
  have c15 := h.cell 15 (.bool x.ak) rfl
  have c5 := h.cell 5 (.int .i64 (x.s : Int)) rfl
  rw [hl] at c16
  rw [hb] at c13
  rw [hd] at c8
  rw [hp] at c11
  rw [hpb] at c12
  rw [hak] at c15
  obtain ⟨np, hnp⟩ : ∃ np, x.p.length = np := ⟨_, rfl⟩
  rw [hnp] at c3
  obtain ⟨ns, hns⟩ : ∃ ns, x.s = ns := ⟨_, rfl⟩
  rw [hns] at c5
  have g0 : decide ((ns : Int) < (np : Int)) = false := decide_eq_false (by omega)
  have g0b : decide (ns < np) = false := decide_eq_false (by omega)
  have H1 : Hid (RIm [(w.heap.size + 1, (.cells #[.int .u8 0, .bool false, .int .u8 9, .bool false, .int .u8 0, .int .u8 (r : Int), .string ⟨#[]⟩] TF (0, 0))), (w.heap.size, noF)] pb x (.slice oa x.p.length cap) w ((w.alloc noF).alloc (.cells #[.int .u8 0, .bool false, .int .u8 9, .bool false, .int .u8 0, .int .u8 (r : Int), .string ⟨#[]⟩] TF (0, 0)))) := Lib.hid (RIm.made1 h (RDo.refl h) rfl _ _)
  clear h hf hr hnp hns hm
  go_enter Try.func26, Try.ntmps26
  go_wp2_with fail
  go_quiet (fail)
  have H2 := Lib.hid (H1.out.drewN nq)
  generalize ((w.alloc noF).alloc (.cells #[.int .u8 0, .bool false, .int .u8 9, .bool false, .int .u8 0, .int .u8 (r : Int), .string ⟨#[]⟩] TF (0, 0))).drewN nq = w2 at H2 ⊢
  clear H1 hfr H c7 c8 c11 c13 c16 c12 c15 c5 c3
  obtain ⟨⟨k0, k1, k2, k3, k4, k5, k6⟩, kf⟩ := cells7 H2.out.tail.at0
  have HZ := Lib.hid (H2.out.swap.put7 (one_ne (by omega)) (.int .u8 0) (.bool false) (.int .u8 0) (.bool false) (.int .u8 0) (.int .u8 0) (.string ⟨#[]⟩))
  go_wp2
  exact bodyPost_ret (res_fmb rfl rfl _ _ _ noFm false HZ.out.at0 rfl rfl) rfl ⟨rfl, HZ.out.does⟩
set_option maxHeartbeats 4000000 in
set_option maxRecDepth 100000 in
theorem rnext_moreb (w : World) (pb : Nat) (x : Sd) (v : Value) (h : RAt w pb x v) (hf : Fit x) (hl : x.fl = false) (hb : x.bu = true) (hd : x.due = false) (hp : x.poll = false) (hpb : x.pb = false) (hak : x.ak = false) (hm : x.s < x.p.length) :
    Calls Try.prog 26 #[ptr pb] w fun e w' => e = .returned (.tuple #[fmv ⟨true, 7, false, x.s % 8, x.g % 8, x.p.getD x.s bE⟩, .bool true]) ∧ RDo pb (cnt false { x with s := x.s + 1, T := max x.T (x.s + 1) }) v w w' := by
  rcases h.q with ⟨_, hq0⟩ | ⟨gb, go, cap, rfl, hgl, hR⟩
  · rw [hq0] at hm; exact absurd hm (Nat.not_lt_zero _)
  have c3 := h.cell 3 (.slice (some ⟨gb, go, none⟩) x.p.length cap) rfl
  have H := Lib.hid h
  have hlt := h.lt
  have hfr := h.free
  obtain ⟨r, hr⟩ : ∃ r, x.g % 8 = r := ⟨_, rfl⟩
  have r8 : (x.g : Int) % 8 = (r : Int) := by omega
  have rw8 : IntKind.u8.wrap (r : Int) = (r : Int) := by rw [IntKind.wrap_u8]; omega
  have hg := hf.g
  have c7 := h.cell 7 (.int .i64 (x.g : Int)) rfl
  have c8 := h.cell 8 (.bool x.due) rfl
  have c11 := h.cell 11 (.bool x.poll) rfl
  have c13 := h.cell 13 (.bool x.bu) rfl
  have c16 := h.cell 16 (.bool x.fl) rfl
  have c12 := h.cell 12 (.bool x.pb) rfl
  have c15 := h.cell 15 (.bool x.ak) rfl
  have c5 := h.cell 5 (.int .i64 (x.s : Int)) rfl
  rw [hl] at c16
  rw [hb] at c13
  rw [hd] at c8
  rw [hp] at c11
  rw [hpb] at c12
  rw [hak] at c15
  obtain ⟨st, hst⟩ : ∃ st, x.p.getD x.s bE = st := ⟨_, rfl⟩
  have hxs : x.p[x.s]? = some st := by
    rw [← hst, List.getD_eq_getElem?_getD, List.getElem?_eq_getElem hm]; rfl
  have hgs : w.cell? ⟨gb, go + x.s, none⟩ = some (.string st) := by
    have := hR.cell x.s st hxs 0 (by decide)
    rwa [show go + (1 * x.s + 0) = go + x.s by omega] at this
  have HG : Hid (∀ w', Below w.heap.size w w' → w'.cell? ⟨gb, go + x.s, none⟩ = some (.string st)) := Lib.hid fun w' hb => cell_below hgs hb
  have hgw := hR.lt
  obtain ⟨np, hnp⟩ : ∃ np, x.p.length = np := ⟨_, rfl⟩
  have HNP := Lib.hid hnp
  rw [hnp] at c3 hm
  have hsb : x.s ≤ 1000000 := by have := hf.few; omega
  have hTb : x.T ≤ 1000000 := by have := hf.tp; have := hf.few; omega
  have hfin : Fit { x with s := x.s + 1, T := max x.T (x.s + 1) } := ⟨hf.k, hf.n2, hf.t1, hf.t1p, by have := hf.hs; dsimp only; omega, by dsimp only; omega, by have := hf.tp; dsimp only; omega, hf.pk, hf.few, hf.g, hf.tr, hf.lf⟩
  have HF := Lib.hid hfin
  obtain ⟨ns, hns⟩ : ∃ ns, x.s = ns := ⟨_, rfl⟩
  have HNS := Lib.hid hns
  rw [hns] at c5 hm hsb HG
  have g0 : decide ((ns : Int) < (np : Int)) = true := decide_eq_true (by omega)
  have g0b : decide (ns < np) = true := decide_eq_true hm
  have j1 : (ns : Int) < (np : Int) := by omega
  have j0 : (0 : Int) ≤ (ns : Int) := by omega
  obtain ⟨rs, hrs⟩ : ∃ rs, ns % 8 = rs := ⟨_, rfl⟩
  have s8 : (ns : Int) % 8 = (rs : Int) := by omega
  have s8t : (ns : Int).tmod 8 = (rs : Int) := by rw [Int.tmod_eq_emod_of_nonneg (by omega)]; exact s8
  have r8t : (x.g : Int).tmod 8 = (r : Int) := by rw [Int.tmod_eq_emod_of_nonneg (by omega)]; exact r8
  have sw8 : IntKind.u8.wrap (rs : Int) = (rs : Int) := by rw [IntKind.wrap_u8]; omega
  obtain ⟨n1, hn1⟩ : ∃ n1, ns + 1 = n1 := ⟨_, rfl⟩
  obtain ⟨T1, hT1⟩ : ∃ T1, x.T = T1 := ⟨_, rfl⟩
  obtain ⟨mx, hmx⟩ : ∃ mx, max T1 n1 = mx := ⟨_, rfl⟩
  have q1 : IntKind.i64.wrap ((ns : Int) + 1) = (n1 : Int) := by rw [IntKind.wrap_i64]; omega
  have q2 : max (T1 : Int) (n1 : Int) = (mx : Int) := by omega
  have q3 : max T1 n1 = mx := hmx
  have HT1 := Lib.hid hT1
  have HXF : Hid (({ x with s := n1, T := mx } : Sd) = { x with s := x.s + 1, T := max x.T (x.s + 1) }) := by
    show _ = _
    rw [hns, hn1, hT1, hmx]
  have H1 : Hid (RIm [(w.heap.size + 1, (.cells #[.int .u8 0, .bool false, .int .u8 9, .bool false, .int .u8 0, .int .u8 (r : Int), .string ⟨#[]⟩] TF (0, 0))), (w.heap.size, noF)] pb x (.slice (some ⟨gb, go, none⟩) np cap) w ((w.alloc noF).alloc (.cells #[.int .u8 0, .bool false, .int .u8 9, .bool false, .int .u8 0, .int .u8 (r : Int), .string ⟨#[]⟩] TF (0, 0)))) := Lib.hid (by rw [← hnp]; exact RIm.made1 h (RDo.refl h) rfl _ _)
  rw [hst, hns, hrs, hr, hnp]
  rw [hn1, hT1, hmx]
  rw [hns, hn1, hT1, hmx] at HF
  have hlt2 := h.lt
  clear h hf hr hnp hns hxs hgs hst hrs hn1 hT1 hmx hfin hR hgl H hTb HXF
  go_enter Try.func26, Try.ntmps26
  go_wp2_with fail
  go_quiet (fail)
  have H2 := Lib.hid (H1.out.drewN nq)
  have hg1 := HG.out _ (below_on (nest_below w [noF, (.cells #[.int .u8 0, .bool false, .int .u8 9, .bool false, .int .u8 0, .int .u8 (r : Int), .string ⟨#[]⟩] TF (0, 0))]) (show Below ((w.alloc noF).alloc (.cells #[.int .u8 0, .bool false, .int .u8 9, .bool false, .int .u8 0, .int .u8 (r : Int), .string ⟨#[]⟩] TF (0, 0))).heap.size ((w.alloc noF).alloc (.cells #[.int .u8 0, .bool false, .int .u8 9, .bool false, .int .u8 0, .int .u8 (r : Int), .string ⟨#[]⟩] TF (0, 0))) (((w.alloc noF).alloc (.cells #[.int .u8 0, .bool false, .int .u8 9, .bool false, .int .u8 0, .int .u8 (r : Int), .string ⟨#[]⟩] TF (0, 0))).drewN nq) from ⟨rfl, rfl, rfl, Nat.le_refl _, fun _ _ => rfl⟩))
  generalize ((w.alloc noF).alloc (.cells #[.int .u8 0, .bool false, .int .u8 9, .bool false, .int .u8 0, .int .u8 (r : Int), .string ⟨#[]⟩] TF (0, 0))).drewN nq = w2 at H2 hg1 ⊢
  clear H1 hfr c7 c8 c11 c13 c16 c12 c15 c5 c3
  go_wp2_with fail
  have H3 := Lib.hid H2.out.drew
  have hg3 : w2.drew.cell? ⟨gb, go + ns, none⟩ = some (.string st) := hg1
  clear H2 hg1
  refine wp_region_held_drew (S := (fun w' => RIm [(w.heap.size, noF)] pb x (.slice (some ⟨gb, go, none⟩) np cap) w w' ∧ w'.cell? ⟨gb, go + ns, none⟩ = some (.string st))) (by kernel_rfl) ⟨H3.out.tail, hg3⟩ (fun hHeld => ?_)
  refine' wpAnyH_take (i := 0) (oi := { dst := some 89, op := Go.Op.move (Go.Operand.tmp 0), type := 30, pos := "ref.go:92", after := #[], guard := none }) (v := _) rfl (by kernel_rfl) (by kernel_rfl) (by kernel_rfl) (fun _ _ _ h => h) (Or.inl ⟨by rfl, ?hy1⟩) (by assumption) ?hr1
  case hy1 => (intro _ hSw; (try dsimp only at hSw); go_simp <;> with_reducible rfl)
  simp only [Act.put, List.setIfInBounds_toArray, List.set_cons_zero, List.set_cons_succ]
  refine' wpAnyH_take (i := 1) (oi := { dst := some 90, op := Go.Op.nilCheck (Go.Operand.tmp 89), type := 0, pos := "ref.go:92", after := #[{ on := 0, ground := Go.Ground.data }], guard := none }) (v := _) rfl (by kernel_rfl) (by kernel_rfl) (by kernel_rfl) (fun _ _ _ h => h) (Or.inl ⟨by rfl, ?hy2⟩) (by assumption) ?hr2
  case hy2 => (intro _ hSw; (try dsimp only at hSw); go_simp <;> with_reducible rfl)
  simp only [Act.put, List.setIfInBounds_toArray, List.set_cons_zero, List.set_cons_succ]
  refine' wpAnyH_take (i := 2) (oi := { dst := some 91, op := Go.Op.fieldAddr 69 (Go.Operand.tmp 90) 5, type := 0, pos := "ref.go:92", after := #[{ on := 1, ground := Go.Ground.data }], guard := none }) (v := _) rfl (by kernel_rfl) (by kernel_rfl) (by kernel_rfl) (fun _ _ _ h => h) (Or.inl ⟨by rfl, ?hy3⟩) (by assumption) ?hr3
  case hy3 => (intro _ hSw; (try dsimp only at hSw); go_simp <;> with_reducible rfl)
  simp only [Act.put, List.setIfInBounds_toArray, List.set_cons_zero, List.set_cons_succ]
  refine' wpAnyH_take (i := 3) (oi := { dst := some 92, op := Go.Op.load 3 (Go.Operand.tmp 91), type := 3, pos := "ref.go:92", after := #[{ on := 2, ground := Go.Ground.data }], guard := none }) (v := _) rfl (by kernel_rfl) (by kernel_rfl) (by kernel_rfl) (fun _ _ _ h => h) (Or.inl ⟨by rfl, ?hy4⟩) (by assumption) ?hr4
  case hy4 => (intro _ hSw; (try dsimp only at hSw); have hc := hSw.1.does.at_.cell 5 (.int .i64 (x.s : Int)) rfl; rw [HNS.out] at hc; go_simp <;> with_reducible rfl)
  simp only [Act.put, List.setIfInBounds_toArray, List.set_cons_zero, List.set_cons_succ]
  refine' wpAnyH_take (i := 4) (oi := { dst := some 93, op := Go.Op.binOp Go.BinOp.rem 3 (Go.Operand.tmp 92) (Go.Operand.const (Go.Value.int Go.IntKind.i64 8)) 3, type := 3, pos := "ref.go:92", after := #[{ on := 3, ground := Go.Ground.data }], guard := none }) (v := _) rfl (by kernel_rfl) (by kernel_rfl) (by kernel_rfl) (fun _ _ _ h => h) (Or.inl ⟨by rfl, ?hy5⟩) (by assumption) ?hr5
  case hy5 => (intro _ hSw; (try dsimp only at hSw); go_simp <;> with_reducible rfl)
  simp only [Act.put, List.setIfInBounds_toArray, List.set_cons_zero, List.set_cons_succ]
  refine' wpAnyH_take (i := 5) (oi := { dst := some 94, op := Go.Op.convert 3 5 (Go.Operand.tmp 93), type := 5, pos := "ref.go:92", after := #[{ on := 4, ground := Go.Ground.data }], guard := none }) (v := _) rfl (by kernel_rfl) (by kernel_rfl) (by kernel_rfl) (fun _ _ _ h => h) (Or.inl ⟨by rfl, ?hy6⟩) (by assumption) ?hr6
  case hy6 => (intro _ hSw; (try dsimp only at hSw); go_simp <;> with_reducible rfl)
  simp only [Act.put, List.setIfInBounds_toArray, List.set_cons_zero, List.set_cons_succ]
  refine' wpAnyH_take (i := 6) (oi := { dst := some 95, op := Go.Op.move (Go.Operand.tmp 0), type := 30, pos := "ref.go:92", after := #[], guard := none }) (v := _) rfl (by kernel_rfl) (by kernel_rfl) (by kernel_rfl) (fun _ _ _ h => h) (Or.inl ⟨by rfl, ?hy7⟩) (by assumption) ?hr7
  case hy7 => (intro _ hSw; (try dsimp only at hSw); go_simp <;> with_reducible rfl)
  simp only [Act.put, List.setIfInBounds_toArray, List.set_cons_zero, List.set_cons_succ]
  refine' wpAnyH_take (i := 7) (oi := { dst := some 96, op := Go.Op.nilCheck (Go.Operand.tmp 95), type := 0, pos := "ref.go:92", after := #[{ on := 6, ground := Go.Ground.data }], guard := none }) (v := _) rfl (by kernel_rfl) (by kernel_rfl) (by kernel_rfl) (fun _ _ _ h => h) (Or.inl ⟨by rfl, ?hy8⟩) (by assumption) ?hr8
  case hy8 => (intro _ hSw; (try dsimp only at hSw); go_simp <;> with_reducible rfl)
  simp only [Act.put, List.setIfInBounds_toArray, List.set_cons_zero, List.set_cons_succ]
  refine' wpAnyH_take (i := 8) (oi := { dst := some 97, op := Go.Op.fieldAddr 69 (Go.Operand.tmp 96) 7, type := 0, pos := "ref.go:92", after := #[{ on := 7, ground := Go.Ground.data }], guard := none }) (v := _) rfl (by kernel_rfl) (by kernel_rfl) (by kernel_rfl) (fun _ _ _ h => h) (Or.inl ⟨by rfl, ?hy9⟩) (by assumption) ?hr9
  case hy9 => (intro _ hSw; (try dsimp only at hSw); go_simp <;> with_reducible rfl)
  simp only [Act.put, List.setIfInBounds_toArray, List.set_cons_zero, List.set_cons_succ]
  refine' wpAnyH_take (i := 9) (oi := { dst := some 98, op := Go.Op.load 3 (Go.Operand.tmp 97), type := 3, pos := "ref.go:92", after := #[{ on := 8, ground := Go.Ground.data }], guard := none }) (v := _) rfl (by kernel_rfl) (by kernel_rfl) (by kernel_rfl) (fun _ _ _ h => h) (Or.inl ⟨by rfl, ?hy10⟩) (by assumption) ?hr10
  case hy10 => (intro _ hSw; (try dsimp only at hSw); have hc := hSw.1.does.at_.cell 7 (.int .i64 (x.g : Int)) rfl; go_simp <;> with_reducible rfl)
  simp only [Act.put, List.setIfInBounds_toArray, List.set_cons_zero, List.set_cons_succ]
  refine' wpAnyH_take (i := 10) (oi := { dst := some 99, op := Go.Op.binOp Go.BinOp.rem 3 (Go.Operand.tmp 98) (Go.Operand.const (Go.Value.int Go.IntKind.i64 8)) 3, type := 3, pos := "ref.go:92", after := #[{ on := 9, ground := Go.Ground.data }], guard := none }) (v := _) rfl (by kernel_rfl) (by kernel_rfl) (by kernel_rfl) (fun _ _ _ h => h) (Or.inl ⟨by rfl, ?hy11⟩) (by assumption) ?hr11
  case hy11 => (intro _ hSw; (try dsimp only at hSw); go_simp <;> with_reducible rfl)
  simp only [Act.put, List.setIfInBounds_toArray, List.set_cons_zero, List.set_cons_succ]
  refine' wpAnyH_take (i := 11) (oi := { dst := some 100, op := Go.Op.convert 3 5 (Go.Operand.tmp 99), type := 5, pos := "ref.go:92", after := #[{ on := 10, ground := Go.Ground.data }], guard := none }) (v := _) rfl (by kernel_rfl) (by kernel_rfl) (by kernel_rfl) (fun _ _ _ h => h) (Or.inl ⟨by rfl, ?hy12⟩) (by assumption) ?hr12
  case hy12 => (intro _ hSw; (try dsimp only at hSw); go_simp <;> with_reducible rfl)
  simp only [Act.put, List.setIfInBounds_toArray, List.set_cons_zero, List.set_cons_succ]
  refine' wpAnyH_take (i := 12) (oi := { dst := some 101, op := Go.Op.move (Go.Operand.tmp 0), type := 30, pos := "ref.go:92", after := #[], guard := none }) (v := _) rfl (by kernel_rfl) (by kernel_rfl) (by kernel_rfl) (fun _ _ _ h => h) (Or.inl ⟨by rfl, ?hy13⟩) (by assumption) ?hr13
  case hy13 => (intro _ hSw; (try dsimp only at hSw); go_simp <;> with_reducible rfl)
  simp only [Act.put, List.setIfInBounds_toArray, List.set_cons_zero, List.set_cons_succ]
  refine' wpAnyH_take (i := 13) (oi := { dst := some 102, op := Go.Op.nilCheck (Go.Operand.tmp 101), type := 0, pos := "ref.go:92", after := #[{ on := 12, ground := Go.Ground.data }], guard := none }) (v := _) rfl (by kernel_rfl) (by kernel_rfl) (by kernel_rfl) (fun _ _ _ h => h) (Or.inl ⟨by rfl, ?hy14⟩) (by assumption) ?hr14
  case hy14 => (intro _ hSw; (try dsimp only at hSw); go_simp <;> with_reducible rfl)
  simp only [Act.put, List.setIfInBounds_toArray, List.set_cons_zero, List.set_cons_succ]
  refine' wpAnyH_take (i := 14) (oi := { dst := some 103, op := Go.Op.fieldAddr 69 (Go.Operand.tmp 102) 3, type := 0, pos := "ref.go:92", after := #[{ on := 13, ground := Go.Ground.data }], guard := none }) (v := _) rfl (by kernel_rfl) (by kernel_rfl) (by kernel_rfl) (fun _ _ _ h => h) (Or.inl ⟨by rfl, ?hy15⟩) (by assumption) ?hr15
  case hy15 => (intro _ hSw; (try dsimp only at hSw); go_simp <;> with_reducible rfl)
  simp only [Act.put, List.setIfInBounds_toArray, List.set_cons_zero, List.set_cons_succ]
  refine' wpAnyH_take (i := 15) (oi := { dst := some 104, op := Go.Op.load 63 (Go.Operand.tmp 103), type := 63, pos := "ref.go:92", after := #[{ on := 14, ground := Go.Ground.data }], guard := none }) (v := _) rfl (by kernel_rfl) (by kernel_rfl) (by kernel_rfl) (fun _ _ _ h => h) (Or.inl ⟨by rfl, ?hy16⟩) (by assumption) ?hr16
  case hy16 => (intro _ hSw; (try dsimp only at hSw); have hc := hSw.1.does.at_.cell 3 (.slice (some ⟨gb, go, none⟩) np cap) rfl; go_simp <;> with_reducible rfl)
  simp only [Act.put, List.setIfInBounds_toArray, List.set_cons_zero, List.set_cons_succ]
  refine' wpAnyH_take (i := 16) (oi := { dst := some 105, op := Go.Op.move (Go.Operand.tmp 0), type := 30, pos := "ref.go:92", after := #[], guard := none }) (v := _) rfl (by kernel_rfl) (by kernel_rfl) (by kernel_rfl) (fun _ _ _ h => h) (Or.inl ⟨by rfl, ?hy17⟩) (by assumption) ?hr17
  case hy17 => (intro _ hSw; (try dsimp only at hSw); go_simp <;> with_reducible rfl)
  simp only [Act.put, List.setIfInBounds_toArray, List.set_cons_zero, List.set_cons_succ]
  refine' wpAnyH_take (i := 17) (oi := { dst := some 106, op := Go.Op.nilCheck (Go.Operand.tmp 105), type := 0, pos := "ref.go:92", after := #[{ on := 16, ground := Go.Ground.data }], guard := none }) (v := _) rfl (by kernel_rfl) (by kernel_rfl) (by kernel_rfl) (fun _ _ _ h => h) (Or.inl ⟨by rfl, ?hy18⟩) (by assumption) ?hr18
  case hy18 => (intro _ hSw; (try dsimp only at hSw); go_simp <;> with_reducible rfl)
  simp only [Act.put, List.setIfInBounds_toArray, List.set_cons_zero, List.set_cons_succ]
  refine' wpAnyH_take (i := 18) (oi := { dst := some 107, op := Go.Op.fieldAddr 69 (Go.Operand.tmp 106) 5, type := 0, pos := "ref.go:92", after := #[{ on := 17, ground := Go.Ground.data }], guard := none }) (v := _) rfl (by kernel_rfl) (by kernel_rfl) (by kernel_rfl) (fun _ _ _ h => h) (Or.inl ⟨by rfl, ?hy19⟩) (by assumption) ?hr19
  case hy19 => (intro _ hSw; (try dsimp only at hSw); go_simp <;> with_reducible rfl)
  simp only [Act.put, List.setIfInBounds_toArray, List.set_cons_zero, List.set_cons_succ]
  refine' wpAnyH_take (i := 19) (oi := { dst := some 108, op := Go.Op.load 3 (Go.Operand.tmp 107), type := 3, pos := "ref.go:92", after := #[{ on := 18, ground := Go.Ground.data }], guard := none }) (v := _) rfl (by kernel_rfl) (by kernel_rfl) (by kernel_rfl) (fun _ _ _ h => h) (Or.inl ⟨by rfl, ?hy20⟩) (by assumption) ?hr20
  case hy20 => (intro _ hSw; (try dsimp only at hSw); have hc := hSw.1.does.at_.cell 5 (.int .i64 (x.s : Int)) rfl; rw [HNS.out] at hc; go_simp <;> with_reducible rfl)
  simp only [Act.put, List.setIfInBounds_toArray, List.set_cons_zero, List.set_cons_succ]
  refine' wpAnyH_take (i := 20) (oi := { dst := some 109, op := Go.Op.indexAddr 63 (Go.Operand.tmp 104) (Go.Operand.tmp 108), type := 0, pos := "ref.go:92", after := #[{ on := 15, ground := Go.Ground.data }, { on := 19, ground := Go.Ground.data }], guard := none }) (v := _) rfl (by kernel_rfl) (by kernel_rfl) (by kernel_rfl) (fun _ _ _ h => h) (Or.inl ⟨by rfl, ?hy21⟩) (by assumption) ?hr21
  case hy21 => (intro _ hSw; (try dsimp only at hSw); go_simp <;> with_reducible rfl)
  simp only [Act.put, List.setIfInBounds_toArray, List.set_cons_zero, List.set_cons_succ]
  refine' wpAnyH_take (i := 21) (oi := { dst := some 110, op := Go.Op.load 9 (Go.Operand.tmp 109), type := 9, pos := "ref.go:92", after := #[{ on := 20, ground := Go.Ground.data }], guard := none }) (v := _) rfl (by kernel_rfl) (by kernel_rfl) (by kernel_rfl) (fun _ _ _ h => h) (Or.inl ⟨by rfl, ?hy22⟩) (by assumption) ?hr22
  case hy22 => (intro _ hSw; (try dsimp only at hSw); have hc := hSw.2; go_simp <;> with_reducible rfl)
  simp only [Act.put, List.setIfInBounds_toArray, List.set_cons_zero, List.set_cons_succ]
  refine' wpAnyH_take (i := 22) (oi := { dst := some 111, op := Go.Op.build 25 #[(1, Go.Operand.const (Go.Value.bool true)), (2, Go.Operand.const (Go.Value.int Go.IntKind.u8 7)), (4, Go.Operand.tmp 94), (5, Go.Operand.tmp 100), (6, Go.Operand.tmp 110)], type := 25, pos := "ref.go:92", after := #[{ on := 5, ground := Go.Ground.data }, { on := 11, ground := Go.Ground.data }, { on := 21, ground := Go.Ground.data }], guard := none }) (v := _) rfl (by kernel_rfl) (by kernel_rfl) (by kernel_rfl) (fun _ _ _ h => h) (Or.inl ⟨by rfl, ?hy23⟩) (by assumption) ?hr23
  case hy23 => (intro _ hSw; (try dsimp only at hSw); go_simp <;> with_reducible rfl)
  simp only [Act.put, List.setIfInBounds_toArray, List.set_cons_zero, List.set_cons_succ]
  clear hHeld
  have hg4 : w2.drew.cell? ⟨gb, go + ns, none⟩ = some (.string st) := hg3
  clear hg3
  generalize w2.drew = w3 at H3 hg4 ⊢
  obtain ⟨⟨z0, z1, z2, z3, z4, z5, z6⟩, zf⟩ := cells7 (show w3.heap[w.heap.size + 1]? = some (.cells #[.int .u8 0, .bool false, .int .u8 9, .bool false, .int .u8 0, .int .u8 (r : Int), .string ⟨#[]⟩] TF (0, 0)) from H3.out.at0)
  have HE : Hid (RIm [(w.heap.size + 1, (.cells #[.int .u8 0, .bool true, .int .u8 7, .bool false, .int .u8 (rs : Int), .int .u8 (r : Int), .string st] TF (0, 0))), (w.heap.size, noF)] pb x (.slice (some ⟨gb, go, none⟩) np cap) w (((((((w3.setCell ⟨w.heap.size + 1, 0, none⟩ (.int .u8 0)).setCell ⟨w.heap.size + 1, 1, none⟩ (.bool true)).setCell ⟨w.heap.size + 1, 2, none⟩ (.int .u8 7)).setCell ⟨w.heap.size + 1, 3, none⟩ (.bool false)).setCell ⟨w.heap.size + 1, 4, none⟩ (.int .u8 (rs : Int))).setCell ⟨w.heap.size + 1, 5, none⟩ (.int .u8 (r : Int))).setCell ⟨w.heap.size + 1, 6, none⟩ (.string st))) := Lib.hid (H3.out.put7 (one_ne (by omega)) _ _ _ _ _ _ _)
  have hne : gb ≠ w.heap.size + 1 := by omega
  have hg5 : ((((((((w3.setCell ⟨w.heap.size + 1, 0, none⟩ (.int .u8 0)).setCell ⟨w.heap.size + 1, 1, none⟩ (.bool true)).setCell ⟨w.heap.size + 1, 2, none⟩ (.int .u8 7)).setCell ⟨w.heap.size + 1, 3, none⟩ (.bool false)).setCell ⟨w.heap.size + 1, 4, none⟩ (.int .u8 (rs : Int))).setCell ⟨w.heap.size + 1, 5, none⟩ (.int .u8 (r : Int))).setCell ⟨w.heap.size + 1, 6, none⟩ (.string st))).cell? ⟨gb, go + ns, none⟩ = some (.string st) := (World.cell?_of_block (a := ⟨gb, go + ns, none⟩) ((chg_set7 (S := fun k => k = w.heap.size + 1) (Chg.refl _ w3) (fun _ => rfl) _ _ _ _ _ _ _).block gb (World.block_lt_of_cell? w3 ⟨gb, go + ns, none⟩ hg4) hne)).trans hg4
  refine wpAnyH_ready (rs := [23]) (by kernel_rfl) (by simp) ?_
  refine AllReadyH.cons (o := { dst := none, op := Go.Op.store 25 (Go.Operand.tmp 4) (Go.Operand.tmp 111), type := 0, pos := "ref.go:92", after := #[{ on := 22, ground := Go.Ground.data }, { on := 0, ground := Go.Ground.phase }, { on := 1, ground := Go.Ground.phase }, { on := 2, ground := Go.Ground.phase }, { on := 3, ground := Go.Ground.phase }, { on := 4, ground := Go.Ground.phase }, { on := 5, ground := Go.Ground.phase }, { on := 6, ground := Go.Ground.phase }, { on := 7, ground := Go.Ground.phase }, { on := 8, ground := Go.Ground.phase }, { on := 9, ground := Go.Ground.phase }, { on := 10, ground := Go.Ground.phase }, { on := 11, ground := Go.Ground.phase }, { on := 12, ground := Go.Ground.phase }, { on := 13, ground := Go.Ground.phase }, { on := 14, ground := Go.Ground.phase }, { on := 15, ground := Go.Ground.phase }, { on := 16, ground := Go.Ground.phase }, { on := 17, ground := Go.Ground.phase }, { on := 18, ground := Go.Ground.phase }, { on := 19, ground := Go.Ground.phase }, { on := 20, ground := Go.Ground.phase }, { on := 21, ground := Go.Ground.phase }, { on := 22, ground := Go.Ground.phase }], guard := none }) rfl (fun K hK => ?_) AllReadyH.nil
  go_simp
  go_wp2_with fail
  refine hK.out _ _ ⟨HE.out.tail, hg5⟩ (fun hNext => ?_)
  clear hK K
  have hHeld := hNext
  clear hNext
  (try simp only [Act.put, List.setIfInBounds_toArray, List.set_cons_zero, List.set_cons_succ])
  refine wpAnyH_done (by kernel_rfl) ?_ _
  clear hHeld z0 z1 z2 z3 z4 z5 z6 zf hg4 hg5 H3 hne
  generalize (((((((w3.setCell ⟨w.heap.size + 1, 0, none⟩ (.int .u8 0)).setCell ⟨w.heap.size + 1, 1, none⟩ (.bool true)).setCell ⟨w.heap.size + 1, 2, none⟩ (.int .u8 7)).setCell ⟨w.heap.size + 1, 3, none⟩ (.bool false)).setCell ⟨w.heap.size + 1, 4, none⟩ (.int .u8 (rs : Int))).setCell ⟨w.heap.size + 1, 5, none⟩ (.int .u8 (r : Int))).setCell ⟨w.heap.size + 1, 6, none⟩ (.string st)) = w4 at HE ⊢
  have hpf := HE.out.does.at_.free
  have hpl := HE.out.lt
  have c5 := HE.out.does.at_.cell 5 (.int .i64 (x.s : Int)) rfl
  rw [HNS.out] at c5
  have HM := Lib.hid (HE.out.set 5 (.int .i64 (n1 : Int)) { x with s := n1 } rfl rfl)
  go_wp2_with fail
  generalize w4.setCell ⟨pb, 5, none⟩ (.int .i64 (n1 : Int)) = w5 at HM ⊢
  clear c5 hpf HE
  have d5 := HM.out.does.at_.cell 5 (.int .i64 (n1 : Int)) rfl
  have d6 := HM.out.does.at_.cell 6 (.int .i64 (x.T : Int)) rfl
  rw [HT1.out] at d6
  have hpf := HM.out.does.at_.free
  have hd2 : w5.drew.cell? ⟨pb, 5, none⟩ = some (.int .i64 (n1 : Int)) := d5
  refine wp_region_held_drew (S := (fun w' => w'.cell? ⟨pb, 5, none⟩ = some (.int .i64 (n1 : Int)))) (by kernel_rfl) hd2 (fun hHeld => ?_)
  refine' wpAnyH_take (i := 0) (oi := { dst := some 119, op := Go.Op.move (Go.Operand.tmp 0), type := 30, pos := "ref.go:94", after := #[], guard := none }) (v := _) rfl (by kernel_rfl) (by kernel_rfl) (by kernel_rfl) (fun _ _ _ h => h) (Or.inl ⟨by rfl, ?hy24⟩) (by assumption) ?hr24
  case hy24 => (intro _ hSw; (try dsimp only at hSw); go_simp <;> with_reducible rfl)
  simp only [Act.put, List.setIfInBounds_toArray, List.set_cons_zero, List.set_cons_succ]
  refine' wpAnyH_take (i := 1) (oi := { dst := some 120, op := Go.Op.move (Go.Operand.tmp 0), type := 30, pos := "ref.go:94", after := #[], guard := none }) (v := _) rfl (by kernel_rfl) (by kernel_rfl) (by kernel_rfl) (fun _ _ _ h => h) (Or.inl ⟨by rfl, ?hy25⟩) (by assumption) ?hr25
  case hy25 => (intro _ hSw; (try dsimp only at hSw); go_simp <;> with_reducible rfl)
  simp only [Act.put, List.setIfInBounds_toArray, List.set_cons_zero, List.set_cons_succ]
  refine' wpAnyH_take (i := 2) (oi := { dst := some 121, op := Go.Op.nilCheck (Go.Operand.tmp 120), type := 0, pos := "ref.go:94", after := #[{ on := 1, ground := Go.Ground.data }], guard := none }) (v := _) rfl (by kernel_rfl) (by kernel_rfl) (by kernel_rfl) (fun _ _ _ h => h) (Or.inl ⟨by rfl, ?hy26⟩) (by assumption) ?hr26
  case hy26 => (intro _ hSw; (try dsimp only at hSw); go_simp <;> with_reducible rfl)
  simp only [Act.put, List.setIfInBounds_toArray, List.set_cons_zero, List.set_cons_succ]
  refine' wpAnyH_take (i := 3) (oi := { dst := some 122, op := Go.Op.fieldAddr 69 (Go.Operand.tmp 121) 6, type := 0, pos := "ref.go:94", after := #[{ on := 2, ground := Go.Ground.data }], guard := none }) (v := _) rfl (by kernel_rfl) (by kernel_rfl) (by kernel_rfl) (fun _ _ _ h => h) (Or.inl ⟨by rfl, ?hy27⟩) (by assumption) ?hr27
  case hy27 => (intro _ hSw; (try dsimp only at hSw); go_simp <;> with_reducible rfl)
  simp only [Act.put, List.setIfInBounds_toArray, List.set_cons_zero, List.set_cons_succ]
  refine' wpAnyH_take (i := 5) (oi := { dst := some 124, op := Go.Op.move (Go.Operand.tmp 0), type := 30, pos := "ref.go:94", after := #[], guard := none }) (v := _) rfl (by kernel_rfl) (by kernel_rfl) (by kernel_rfl) (fun _ _ _ h => h) (Or.inl ⟨by rfl, ?hy28⟩) (by assumption) ?hr28
  case hy28 => (intro _ hSw; (try dsimp only at hSw); go_simp <;> with_reducible rfl)
  simp only [Act.put, List.setIfInBounds_toArray, List.set_cons_zero, List.set_cons_succ]
  refine' wpAnyH_take (i := 6) (oi := { dst := some 125, op := Go.Op.nilCheck (Go.Operand.tmp 124), type := 0, pos := "ref.go:94", after := #[{ on := 5, ground := Go.Ground.data }], guard := none }) (v := _) rfl (by kernel_rfl) (by kernel_rfl) (by kernel_rfl) (fun _ _ _ h => h) (Or.inl ⟨by rfl, ?hy29⟩) (by assumption) ?hr29
  case hy29 => (intro _ hSw; (try dsimp only at hSw); go_simp <;> with_reducible rfl)
  simp only [Act.put, List.setIfInBounds_toArray, List.set_cons_zero, List.set_cons_succ]
  refine' wpAnyH_take (i := 7) (oi := { dst := some 126, op := Go.Op.fieldAddr 69 (Go.Operand.tmp 125) 5, type := 0, pos := "ref.go:94", after := #[{ on := 6, ground := Go.Ground.data }], guard := none }) (v := _) rfl (by kernel_rfl) (by kernel_rfl) (by kernel_rfl) (fun _ _ _ h => h) (Or.inl ⟨by rfl, ?hy30⟩) (by assumption) ?hr30
  case hy30 => (intro _ hSw; (try dsimp only at hSw); go_simp <;> with_reducible rfl)
  simp only [Act.put, List.setIfInBounds_toArray, List.set_cons_zero, List.set_cons_succ]
  refine' wpAnyH_take (i := 8) (oi := { dst := some 127, op := Go.Op.load 3 (Go.Operand.tmp 126), type := 3, pos := "ref.go:94", after := #[{ on := 7, ground := Go.Ground.data }], guard := none }) (v := _) rfl (by kernel_rfl) (by kernel_rfl) (by kernel_rfl) (fun _ _ _ h => h) (Or.inl ⟨by rfl, ?hy31⟩) (by assumption) ?hr31
  case hy31 => (intro _ hSw; (try dsimp only at hSw); have hc := hSw; go_simp <;> with_reducible rfl)
  simp only [Act.put, List.setIfInBounds_toArray, List.set_cons_zero, List.set_cons_succ]
  refine wpAnyH_ready (rs := [4]) (by kernel_rfl) (by simp) ?_
  refine AllReadyH.cons (o := { dst := some 123, op := Go.Op.load 3 (Go.Operand.tmp 122), type := 3, pos := "ref.go:94", after := #[{ on := 3, ground := Go.Ground.data }], guard := none }) rfl (fun K hK => ?_) AllReadyH.nil
  go_simp
  go_wp2_with fail
  refine hK.out _ _ hd2 (fun hNext => ?_)
  clear hHeld
  clear hK K
  have hHeld := hNext
  clear hNext
  (try simp only [Act.put, List.setIfInBounds_toArray, List.set_cons_zero, List.set_cons_succ])
  refine wpAnyH_ready (rs := [9]) (by kernel_rfl) (by simp) ?_
  refine AllReadyH.cons (o := { dst := some 128, op := Go.Op.call { callee := Go.Callee.builtin Go.Builtin.max, args := #[Go.Operand.tmp 123, Go.Operand.tmp 127], argTypes := #[3, 3] }, type := 3, pos := "ref.go:94", after := #[{ on := 4, ground := Go.Ground.data }, { on := 8, ground := Go.Ground.data }], guard := none }) rfl (fun K hK => ?_) AllReadyH.nil
  go_simp
  go_wp2_with fail
  refine hK.out _ _ hd2 (fun hNext => ?_)
  clear hHeld
  clear hK K
  have hHeld := hNext
  clear hNext
  (try simp only [Act.put, List.setIfInBounds_toArray, List.set_cons_zero, List.set_cons_succ])
  refine' wpAnyH_take (i := 10) (oi := { dst := some 129, op := Go.Op.nilCheck (Go.Operand.tmp 119), type := 0, pos := "ref.go:94", after := #[{ on := 0, ground := Go.Ground.data }, { on := 0, ground := Go.Ground.phase }, { on := 1, ground := Go.Ground.phase }, { on := 2, ground := Go.Ground.phase }, { on := 3, ground := Go.Ground.phase }, { on := 4, ground := Go.Ground.phase }, { on := 5, ground := Go.Ground.phase }, { on := 6, ground := Go.Ground.phase }, { on := 7, ground := Go.Ground.phase }, { on := 8, ground := Go.Ground.phase }, { on := 9, ground := Go.Ground.phase }], guard := none }) (v := _) rfl (by kernel_rfl) (by kernel_rfl) (by kernel_rfl) (fun _ _ _ h => h) (Or.inl ⟨by rfl, ?hy32⟩) (by assumption) ?hr32
  case hy32 => (intro _ hSw; (try dsimp only at hSw); go_simp <;> with_reducible rfl)
  simp only [Act.put, List.setIfInBounds_toArray, List.set_cons_zero, List.set_cons_succ]
  refine' wpAnyH_take (i := 11) (oi := { dst := some 130, op := Go.Op.fieldAddr 69 (Go.Operand.tmp 129) 6, type := 0, pos := "ref.go:94", after := #[{ on := 10, ground := Go.Ground.data }, { on := 0, ground := Go.Ground.phase }, { on := 1, ground := Go.Ground.phase }, { on := 2, ground := Go.Ground.phase }, { on := 3, ground := Go.Ground.phase }, { on := 4, ground := Go.Ground.phase }, { on := 5, ground := Go.Ground.phase }, { on := 6, ground := Go.Ground.phase }, { on := 7, ground := Go.Ground.phase }, { on := 8, ground := Go.Ground.phase }, { on := 9, ground := Go.Ground.phase }], guard := none }) (v := _) rfl (by kernel_rfl) (by kernel_rfl) (by kernel_rfl) (fun _ _ _ h => h) (Or.inl ⟨by rfl, ?hy33⟩) (by assumption) ?hr33
  case hy33 => (intro _ hSw; (try dsimp only at hSw); go_simp <;> with_reducible rfl)
  simp only [Act.put, List.setIfInBounds_toArray, List.set_cons_zero, List.set_cons_succ]
  have HP := Lib.hid (HM.out.set 6 (.int .i64 (mx : Int)) { x with s := n1, T := mx } rfl rfl).drew
  refine wpAnyH_ready (rs := [12]) (by kernel_rfl) (by simp) ?_
  refine AllReadyH.cons (o := { dst := none, op := Go.Op.store 3 (Go.Operand.tmp 130) (Go.Operand.tmp 128), type := 0, pos := "ref.go:94", after := #[{ on := 11, ground := Go.Ground.data }, { on := 9, ground := Go.Ground.data }, { on := 0, ground := Go.Ground.phase }, { on := 1, ground := Go.Ground.phase }, { on := 2, ground := Go.Ground.phase }, { on := 3, ground := Go.Ground.phase }, { on := 4, ground := Go.Ground.phase }, { on := 5, ground := Go.Ground.phase }, { on := 6, ground := Go.Ground.phase }, { on := 7, ground := Go.Ground.phase }, { on := 8, ground := Go.Ground.phase }, { on := 9, ground := Go.Ground.phase }], guard := none }) rfl (fun K hK => ?_) AllReadyH.nil
  go_simp
  go_wp2_with fail
  refine hK.out _ _ (HP.out.does.at_.cell 5 (.int .i64 (n1 : Int)) rfl) (fun hNext => ?_)
  clear hHeld
  clear hK K
  have hHeld := hNext
  clear hNext
  (try simp only [Act.put, List.setIfInBounds_toArray, List.set_cons_zero, List.set_cons_succ])
  refine wpAnyH_done (by kernel_rfl) ?_ _
  clear hHeld HM d5 d6 hpf hd2
  have CC := Lib.hid (rcount _ pb _ (.slice (some ⟨gb, go, none⟩) np cap) false HP.out.does.at_ HF.out)
  go_wp2_with fail
  refine CC.out.mono ?_
  rintro _ w6 ⟨rfl, hd2⟩
  have H6 := Lib.hid (HP.out.next hd2)
  clear hd2 HP CC
  obtain ⟨⟨l0, l1, l2, l3, l4, l5, l6⟩, lf⟩ := cells7 (show w6.heap[w.heap.size + 1]? = some (.cells #[.int .u8 0, .bool true, .int .u8 7, .bool false, .int .u8 (rs : Int), .int .u8 (r : Int), .string st] TF (0, 0)) from H6.out.at0)
  obtain ⟨⟨k0, k1, k2, k3, k4, k5, k6⟩, kf⟩ := cells7 H6.out.tail.at0
  have HZ := Lib.hid (H6.out.swap.put7 (one_ne (by omega)) (.int .u8 0) (.bool true) (.int .u8 7) (.bool false) (.int .u8 (rs : Int)) (.int .u8 (r : Int)) (.string st))
  go_wp2
  exact bodyPost_ret (res_fmb rfl rfl _ _ _ ⟨true, 7, false, rs, r, st⟩ true HZ.out.at0 rfl rfl) rfl ⟨rfl, HZ.out.does⟩
set_option maxHeartbeats 4000000 in
set_option maxRecDepth 100000 in
theorem rnext_duefr (w : World) (pb : Nat) (x : Sd) (v : Value) (h : RAt w pb x v) (hf : Fit x) (hl : x.fl = false) (hb : x.bu = false) (hd : x.due = true) (hj : x.rej = true) :
    Calls Try.prog 26 #[ptr pb] w fun e w' => e = .returned (.tuple #[fmv ⟨false, 10, x.fin, 0, x.g % 8, bE⟩, .bool true]) ∧ RDo pb (cnt false { x with due := false, fin := false, rej := false }) v w w' := by
  have H := Lib.hid h
  have hlt := h.lt
  have hfr := h.free
  obtain ⟨r, hr⟩ : ∃ r, x.g % 8 = r := ⟨_, rfl⟩
  have r8 : (x.g : Int) % 8 = (r : Int) := by omega
  have rw8 : IntKind.u8.wrap (r : Int) = (r : Int) := by rw [IntKind.wrap_u8]; omega
  have hg := hf.g
  have c7 := h.cell 7 (.int .i64 (x.g : Int)) rfl
  have c8 := h.cell 8 (.bool x.due) rfl
  have c9 := h.cell 9 (.bool x.fin) rfl
  have c10 := h.cell 10 (.bool x.rej) rfl
  have c13 := h.cell 13 (.bool x.bu) rfl
  have c16 := h.cell 16 (.bool x.fl) rfl
  rw [hl] at c16
  rw [hb] at c13
  rw [hd] at c8
  rw [hj] at c10
  rw [hr]
  have hfin : Fit { x with due := false, fin := false, rej := false } := ⟨hf.k, hf.n2, hf.t1, hf.t1p, hf.hs, hf.sT, hf.tp, hf.pk, hf.few, hf.g, hf.tr, hf.lf⟩
  have HC : Hid (RIm [(w.heap.size + 1, (.cells #[.int .u8 0, .bool false, .int .u8 10, .bool x.fin, .int .u8 0, .int .u8 (r : Int), .string ⟨#[]⟩] TF (0, 0))), (w.heap.size, noF)] pb { x with due := false, fin := false, rej := false } v w (((((w.setCell ⟨pb, 8, none⟩ (.bool false)).setCell ⟨pb, 9, none⟩ (.bool false)).setCell ⟨pb, 10, none⟩ (.bool false)).alloc noF).alloc (.cells #[.int .u8 0, .bool false, .int .u8 10, .bool x.fin, .int .u8 0, .int .u8 (r : Int), .string ⟨#[]⟩] TF (0, 0)))) := Lib.hid (RIm.made1 h ((((RDo.refl h).set 8 (.bool false) { x with due := false } rfl rfl).set 9 (.bool false) { x with due := false, fin := false } rfl rfl).set 10 (.bool false) { x with due := false, fin := false, rej := false } rfl rfl) (by simp) _ _)
  have CC := Lib.hid (rcount _ pb _ v false HC.out.does.at_ hfin)
  clear h hf hr hfin H
  go_enter Try.func26, Try.ntmps26
  go_wp2_with fail
  refine CC.out.mono ?_
  rintro _ w6 ⟨rfl, hd⟩
  have H6 := Lib.hid (HC.out.next hd)
  clear hd HC CC hfr c7 c8 c9 c10 c13 c16
  obtain ⟨⟨l0, l1, l2, l3, l4, l5, l6⟩, lf⟩ := cells7 (show w6.heap[w.heap.size + 1]? = some (.cells #[.int .u8 0, .bool false, .int .u8 10, .bool x.fin, .int .u8 0, .int .u8 (r : Int), .string ⟨#[]⟩] TF (0, 0)) from H6.out.at0)
  obtain ⟨⟨k0, k1, k2, k3, k4, k5, k6⟩, kf⟩ := cells7 H6.out.tail.at0
  have HZ := Lib.hid (H6.out.swap.put7 (one_ne (by omega)) (.int .u8 0) (.bool false) (.int .u8 10) (.bool x.fin) (.int .u8 0) (.int .u8 (r : Int)) (.string ⟨#[]⟩))
  go_wp2
  exact bodyPost_ret (res_fmb rfl rfl _ _ _ ⟨false, 10, x.fin, 0, r, bE⟩ true HZ.out.at0 rfl rfl) rfl ⟨rfl, HZ.out.does⟩
set_option maxHeartbeats 4000000 in
set_option maxRecDepth 100000 in
theorem rnext_duefn (w : World) (pb : Nat) (x : Sd) (v : Value) (h : RAt w pb x v) (hf : Fit x) (hl : x.fl = false) (hb : x.bu = false) (hd : x.due = true) (hj : x.rej = false) :
    Calls Try.prog 26 #[ptr pb] w fun e w' => e = .returned (.tuple #[fmv ⟨false, 8, x.fin, 0, x.g % 8, bE⟩, .bool true]) ∧ RDo pb (cnt false { x with due := false, fin := false, rej := false }) v w w' := by
  have H := Lib.hid h
  have hlt := h.lt
  have hfr := h.free
  obtain ⟨r, hr⟩ : ∃ r, x.g % 8 = r := ⟨_, rfl⟩
  have r8 : (x.g : Int) % 8 = (r : Int) := by omega
  have rw8 : IntKind.u8.wrap (r : Int) = (r : Int) := by rw [IntKind.wrap_u8]; omega
  have hg := hf.g
  have c7 := h.cell 7 (.int .i64 (x.g : Int)) rfl
  have c8 := h.cell 8 (.bool x.due) rfl
  have c9 := h.cell 9 (.bool x.fin) rfl
  have c10 := h.cell 10 (.bool x.rej) rfl
  have c13 := h.cell 13 (.bool x.bu) rfl
  have c16 := h.cell 16 (.bool x.fl) rfl
  rw [hl] at c16
  rw [hb] at c13
  rw [hd] at c8
  rw [hj] at c10
  rw [hr]
  have hfin : Fit { x with due := false, fin := false, rej := false } := ⟨hf.k, hf.n2, hf.t1, hf.t1p, hf.hs, hf.sT, hf.tp, hf.pk, hf.few, hf.g, hf.tr, hf.lf⟩
  have HC : Hid (RIm [(w.heap.size + 1, (.cells #[.int .u8 0, .bool false, .int .u8 8, .bool x.fin, .int .u8 0, .int .u8 (r : Int), .string ⟨#[]⟩] TF (0, 0))), (w.heap.size, noF)] pb { x with due := false, fin := false, rej := false } v w (((((w.setCell ⟨pb, 8, none⟩ (.bool false)).setCell ⟨pb, 9, none⟩ (.bool false)).setCell ⟨pb, 10, none⟩ (.bool false)).alloc noF).alloc (.cells #[.int .u8 0, .bool false, .int .u8 8, .bool x.fin, .int .u8 0, .int .u8 (r : Int), .string ⟨#[]⟩] TF (0, 0)))) := Lib.hid (RIm.made1 h ((((RDo.refl h).set 8 (.bool false) { x with due := false } rfl rfl).set 9 (.bool false) { x with due := false, fin := false } rfl rfl).set 10 (.bool false) { x with due := false, fin := false, rej := false } rfl rfl) (by simp) _ _)
  have CC := Lib.hid (rcount _ pb _ v false HC.out.does.at_ hfin)
  clear h hf hr hfin H
  go_enter Try.func26, Try.ntmps26
  go_wp2_with fail
  refine CC.out.mono ?_
  rintro _ w6 ⟨rfl, hd⟩
  have H6 := Lib.hid (HC.out.next hd)
  clear hd HC CC hfr c7 c8 c9 c10 c13 c16
  obtain ⟨⟨l0, l1, l2, l3, l4, l5, l6⟩, lf⟩ := cells7 (show w6.heap[w.heap.size + 1]? = some (.cells #[.int .u8 0, .bool false, .int .u8 8, .bool x.fin, .int .u8 0, .int .u8 (r : Int), .string ⟨#[]⟩] TF (0, 0)) from H6.out.at0)
  obtain ⟨⟨k0, k1, k2, k3, k4, k5, k6⟩, kf⟩ := cells7 H6.out.tail.at0
  have HZ := Lib.hid (H6.out.swap.put7 (one_ne (by omega)) (.int .u8 0) (.bool false) (.int .u8 8) (.bool x.fin) (.int .u8 0) (.int .u8 (r : Int)) (.string ⟨#[]⟩))
  go_wp2
  exact bodyPost_ret (res_fmb rfl rfl _ _ _ ⟨false, 8, x.fin, 0, r, bE⟩ true HZ.out.at0 rfl rfl) rfl ⟨rfl, HZ.out.does⟩
set_option maxHeartbeats 4000000 in
set_option maxRecDepth 100000 in
theorem rnext_pollf (w : World) (pb : Nat) (x : Sd) (v : Value) (h : RAt w pb x v) (hf : Fit x) (hl : x.fl = false) (hb : x.bu = false) (hd : x.due = false) (hp : x.poll = true) :
    Calls Try.prog 26 #[ptr pb] w fun e w' => e = .returned (.tuple #[fmv ⟨true, 8, true, 0, x.g % 8, bE⟩, .bool true]) ∧ RDo pb (cnt false { x with poll := false }) v w w' := by
  have H := Lib.hid h
  have hlt := h.lt
  have hfr := h.free
  obtain ⟨r, hr⟩ : ∃ r, x.g % 8 = r := ⟨_, rfl⟩
  have r8 : (x.g : Int) % 8 = (r : Int) := by omega
  have rw8 : IntKind.u8.wrap (r : Int) = (r : Int) := by rw [IntKind.wrap_u8]; omega
  have hg := hf.g
  have c7 := h.cell 7 (.int .i64 (x.g : Int)) rfl
  have c8 := h.cell 8 (.bool x.due) rfl
  have c11 := h.cell 11 (.bool x.poll) rfl
  have c13 := h.cell 13 (.bool x.bu) rfl
  have c16 := h.cell 16 (.bool x.fl) rfl
  rw [hl] at c16
  rw [hb] at c13
  rw [hd] at c8
  rw [hp] at c11
  rw [hr]
  have hfin : Fit { x with poll := false } := ⟨hf.k, hf.n2, hf.t1, hf.t1p, hf.hs, hf.sT, hf.tp, hf.pk, hf.few, hf.g, hf.tr, hf.lf⟩
  have HC : Hid (RIm [(w.heap.size + 1, (.cells #[.int .u8 0, .bool true, .int .u8 8, .bool true, .int .u8 0, .int .u8 (r : Int), .string ⟨#[]⟩] TF (0, 0))), (w.heap.size, noF)] pb { x with poll := false } v w (((w.setCell ⟨pb, 11, none⟩ (.bool false)).alloc noF).alloc (.cells #[.int .u8 0, .bool true, .int .u8 8, .bool true, .int .u8 0, .int .u8 (r : Int), .string ⟨#[]⟩] TF (0, 0)))) := Lib.hid (RIm.made1 h ((RDo.refl h).set 11 (.bool false) { x with poll := false } rfl rfl) (by simp) _ _)
  have CC := Lib.hid (rcount _ pb _ v false HC.out.does.at_ hfin)
  clear h hf hr hfin H
  go_enter Try.func26, Try.ntmps26
  go_wp2_with fail
  refine CC.out.mono ?_
  rintro _ w6 ⟨rfl, hd⟩
  have H6 := Lib.hid (HC.out.next hd)
  clear hd HC CC hfr c7 c8 c11 c13 c16
  obtain ⟨⟨l0, l1, l2, l3, l4, l5, l6⟩, lf⟩ := cells7 (show w6.heap[w.heap.size + 1]? = some (.cells #[.int .u8 0, .bool true, .int .u8 8, .bool true, .int .u8 0, .int .u8 (r : Int), .string ⟨#[]⟩] TF (0, 0)) from H6.out.at0)
  obtain ⟨⟨k0, k1, k2, k3, k4, k5, k6⟩, kf⟩ := cells7 H6.out.tail.at0
  have HZ := Lib.hid (H6.out.swap.put7 (one_ne (by omega)) (.int .u8 0) (.bool true) (.int .u8 8) (.bool true) (.int .u8 0) (.int .u8 (r : Int)) (.string ⟨#[]⟩))
  go_wp2
  exact bodyPost_ret (res_fmb rfl rfl _ _ _ ⟨true, 8, true, 0, r, bE⟩ true HZ.out.at0 rfl rfl) rfl ⟨rfl, HZ.out.does⟩
set_option maxHeartbeats 4000000 in
set_option maxRecDepth 100000 in
theorem rnext_pbf (w : World) (pb : Nat) (x : Sd) (v : Value) (h : RAt w pb x v) (hf : Fit x) (hl : x.fl = false) (hb : x.bu = false) (hd : x.due = false) (hp : x.poll = false) (hpb : x.pb = true) :
    Calls Try.prog 26 #[ptr pb] w fun e w' => e = .returned (.tuple #[fmv noFm, .bool false]) ∧ RDo pb x v w w' := by
  obtain ⟨oa, cap, rfl⟩ := h.q.form
  have c3 := h.cell 3 (.slice oa x.p.length cap) rfl
  have H := Lib.hid h
  have hlt := h.lt
  have hfr := h.free
  obtain ⟨r, hr⟩ : ∃ r, x.g % 8 = r := ⟨_, rfl⟩
  have r8 : (x.g : Int) % 8 = (r : Int) := by omega
  have rw8 : IntKind.u8.wrap (r : Int) = (r : Int) := by rw [IntKind.wrap_u8]; omega
  have hg := hf.g
  have c7 := h.cell 7 (.int .i64 (x.g : Int)) rfl
  have c8 := h.cell 8 (.bool x.due) rfl
  have c11 := h.cell 11 (.bool x.poll) rfl
  have c13 := h.cell 13 (.bool x.bu) rfl
  have c16 := h.cell 16 (.bool x.fl) rfl
  have c12 := h.cell 12 (.bool x.pb) rfl
  have c15 := h.cell 15 (.bool x.ak) rfl
  have c5 := h.cell 5 (.int .i64 (x.s : Int)) rfl
  rw [hl] at c16
  rw [hb] at c13
  rw [hd] at c8
  rw [hp] at c11
  rw [hpb] at c12
  obtain ⟨np, hnp⟩ : ∃ np, x.p.length = np := ⟨_, rfl⟩
  rw [hnp] at c3
  have H1 : Hid (RIm [(w.heap.size + 1, (.cells #[.int .u8 0, .bool false, .int .u8 8, .bool false, .int .u8 0, .int .u8 (r : Int), .string ⟨#[]⟩] TF (0, 0))), (w.heap.size, noF)] pb x (.slice oa x.p.length cap) w ((w.alloc noF).alloc (.cells #[.int .u8 0, .bool false, .int .u8 8, .bool false, .int .u8 0, .int .u8 (r : Int), .string ⟨#[]⟩] TF (0, 0)))) := Lib.hid (RIm.made1 h (RDo.refl h) rfl _ _)
  clear h hf hr hnp
  go_enter Try.func26, Try.ntmps26
  go_wp2_with fail
  go_quiet (fail)
  have H2 := Lib.hid (H1.out.drewN nq)
  generalize ((w.alloc noF).alloc (.cells #[.int .u8 0, .bool false, .int .u8 8, .bool false, .int .u8 0, .int .u8 (r : Int), .string ⟨#[]⟩] TF (0, 0))).drewN nq = w2 at H2 ⊢
  clear H1 hfr H c7 c8 c11 c13 c16 c12 c15 c5 c3
  obtain ⟨⟨k0, k1, k2, k3, k4, k5, k6⟩, kf⟩ := cells7 H2.out.tail.at0
  have HZ := Lib.hid (H2.out.swap.put7 (one_ne (by omega)) (.int .u8 0) (.bool false) (.int .u8 0) (.bool false) (.int .u8 0) (.int .u8 0) (.string ⟨#[]⟩))
  go_wp2
  exact bodyPost_ret (res_fmb rfl rfl _ _ _ noFm false HZ.out.at0 rfl rfl) rfl ⟨rfl, HZ.out.does⟩
set_option maxHeartbeats 4000000 in
set_option maxRecDepth 100000 in
theorem rnext_akf (w : World) (pb : Nat) (x : Sd) (v : Value) (h : RAt w pb x v) (hf : Fit x) (hl : x.fl = false) (hb : x.bu = false) (hd : x.due = false) (hp : x.poll = false) (hpb : x.pb = false) (hak : x.ak = true) :
    Calls Try.prog 26 #[ptr pb] w fun e w' => e = .returned (.tuple #[fmv noFm, .bool false]) ∧ RDo pb x v w w' := by
  obtain ⟨oa, cap, rfl⟩ := h.q.form
  have c3 := h.cell 3 (.slice oa x.p.length cap) rfl
  have H := Lib.hid h
  have hlt := h.lt
  have hfr := h.free
  obtain ⟨r, hr⟩ : ∃ r, x.g % 8 = r := ⟨_, rfl⟩
  have r8 : (x.g : Int) % 8 = (r : Int) := by omega
  have rw8 : IntKind.u8.wrap (r : Int) = (r : Int) := by rw [IntKind.wrap_u8]; omega
  have hg := hf.g
  have c7 := h.cell 7 (.int .i64 (x.g : Int)) rfl
  have c8 := h.cell 8 (.bool x.due) rfl
  have c11 := h.cell 11 (.bool x.poll) rfl
  have c13 := h.cell 13 (.bool x.bu) rfl
  have c16 := h.cell 16 (.bool x.fl) rfl
  have c12 := h.cell 12 (.bool x.pb) rfl
  have c15 := h.cell 15 (.bool x.ak) rfl
  have c5 := h.cell 5 (.int .i64 (x.s : Int)) rfl
  rw [hl] at c16
  rw [hb] at c13
  rw [hd] at c8
  rw [hp] at c11
  rw [hpb] at c12
  rw [hak] at c15
  obtain ⟨np, hnp⟩ : ∃ np, x.p.length = np := ⟨_, rfl⟩
  rw [hnp] at c3
  have H1 : Hid (RIm [(w.heap.size + 1, (.cells #[.int .u8 0, .bool false, .int .u8 8, .bool false, .int .u8 0, .int .u8 (r : Int), .string ⟨#[]⟩] TF (0, 0))), (w.heap.size, noF)] pb x (.slice oa x.p.length cap) w ((w.alloc noF).alloc (.cells #[.int .u8 0, .bool false, .int .u8 8, .bool false, .int .u8 0, .int .u8 (r : Int), .string ⟨#[]⟩] TF (0, 0)))) := Lib.hid (RIm.made1 h (RDo.refl h) rfl _ _)
  clear h hf hr hnp
  go_enter Try.func26, Try.ntmps26
  go_wp2_with fail
  go_quiet (fail)
  have H2 := Lib.hid (H1.out.drewN nq)
  generalize ((w.alloc noF).alloc (.cells #[.int .u8 0, .bool false, .int .u8 8, .bool false, .int .u8 0, .int .u8 (r : Int), .string ⟨#[]⟩] TF (0, 0))).drewN nq = w2 at H2 ⊢
  clear H1 hfr H c7 c8 c11 c13 c16 c12 c15 c5 c3
  obtain ⟨⟨k0, k1, k2, k3, k4, k5, k6⟩, kf⟩ := cells7 H2.out.tail.at0
  have HZ := Lib.hid (H2.out.swap.put7 (one_ne (by omega)) (.int .u8 0) (.bool false) (.int .u8 0) (.bool false) (.int .u8 0) (.int .u8 0) (.string ⟨#[]⟩))
  go_wp2
  exact bodyPost_ret (res_fmb rfl rfl _ _ _ noFm false HZ.out.at0 rfl rfl) rfl ⟨rfl, HZ.out.does⟩
set_option maxHeartbeats 4000000 in
set_option maxRecDepth 100000 in
theorem rnext_nof (w : World) (pb : Nat) (x : Sd) (v : Value) (h : RAt w pb x v) (hf : Fit x) (hl : x.fl = false) (hb : x.bu = false) (hd : x.due = false) (hp : x.poll = false) (hpb : x.pb = false) (hak : x.ak = false) (hm : ¬ x.s < x.p.length) :
    Calls Try.prog 26 #[ptr pb] w fun e w' => e = .returned (.tuple #[fmv noFm, .bool false]) ∧ RDo pb x v w w' := by
  obtain ⟨oa, cap, rfl⟩ := h.q.form
  have c3 := h.cell 3 (.slice oa x.p.length cap) rfl
  have H := Lib.hid h
  have hlt := h.lt
  have hfr := h.free
  obtain ⟨r, hr⟩ : ∃ r, x.g % 8 = r := ⟨_, rfl⟩
  have r8 : (x.g : Int) % 8 = (r : Int) := by omega
  have rw8 : IntKind.u8.wrap (r : Int) = (r : Int) := by rw [IntKind.wrap_u8]; omega
  have hg := hf.g
  have c7 := h.cell 7 (.int .i64 (x.g : Int)) rfl
  have c8 := h.cell 8 (.bool x.due) rfl
  have c11 := h.cell 11 (.bool x.poll) rfl
  have c13 := h.cell 13 (.bool x.bu) rfl
  have c16 := h.cell 16 (.bool x.fl) rfl
  have c12 := h.cell 12 (.bool x.pb) rfl
  have c15 := h.cell 15 (.bool x.ak) rfl
  have c5 := h.cell 5 (.int .i64 (x.s : Int)) rfl
  rw [hl] at c16
  rw [hb] at c13
  rw [hd] at c8
  rw [hp] at c11
  rw [hpb] at c12
  rw [hak] at c15
  obtain ⟨np, hnp⟩ : ∃ np, x.p.length = np := ⟨_, rfl⟩
  rw [hnp] at c3
  obtain ⟨ns, hns⟩ : ∃ ns, x.s = ns := ⟨_, rfl⟩
  rw [hns] at c5
  have g0 : decide ((ns : Int) < (np : Int)) = false := decide_eq_false (by omega)
  have g0b : decide (ns < np) = false := decide_eq_false (by omega)
  have H1 : Hid (RIm [(w.heap.size + 1, (.cells #[.int .u8 0, .bool false, .int .u8 8, .bool false, .int .u8 0, .int .u8 (r : Int), .string ⟨#[]⟩] TF (0, 0))), (w.heap.size, noF)] pb x (.slice oa x.p.length cap) w ((w.alloc noF).alloc (.cells #[.int .u8 0, .bool false, .int .u8 8, .bool false, .int .u8 0, .int .u8 (r : Int), .string ⟨#[]⟩] TF (0, 0)))) := Lib.hid (RIm.made1 h (RDo.refl h) rfl _ _)
  clear h hf hr hnp hns hm
  go_enter Try.func26, Try.ntmps26
  go_wp2_with fail
  go_quiet (fail)
  have H2 := Lib.hid (H1.out.drewN nq)
  generalize ((w.alloc noF).alloc (.cells #[.int .u8 0, .bool false, .int .u8 8, .bool false, .int .u8 0, .int .u8 (r : Int), .string ⟨#[]⟩] TF (0, 0))).drewN nq = w2 at H2 ⊢
  clear H1 hfr H c7 c8 c11 c13 c16 c12 c15 c5 c3
  obtain ⟨⟨k0, k1, k2, k3, k4, k5, k6⟩, kf⟩ := cells7 H2.out.tail.at0
  have HZ := Lib.hid (H2.out.swap.put7 (one_ne (by omega)) (.int .u8 0) (.bool false) (.int .u8 0) (.bool false) (.int .u8 0) (.int .u8 0) (.string ⟨#[]⟩))
  go_wp2
  exact bodyPost_ret (res_fmb rfl rfl _ _ _ noFm false HZ.out.at0 rfl rfl) rfl ⟨rfl, HZ.out.does⟩
set_option maxHeartbeats 4000000 in
set_option maxRecDepth 100000 in
theorem rnext_moref (w : World) (pb : Nat) (x : Sd) (v : Value) (h : RAt w pb x v) (hf : Fit x) (hl : x.fl = false) (hb : x.bu = false) (hd : x.due = false) (hp : x.poll = false) (hpb : x.pb = false) (hak : x.ak = false) (hm : x.s < x.p.length) :
    Calls Try.prog 26 #[ptr pb] w fun e w' => e = .returned (.tuple #[fmv ⟨true, 7, false, x.s % 8, x.g % 8, x.p.getD x.s bE⟩, .bool true]) ∧ RDo pb (cnt false { x with s := x.s + 1, T := max x.T (x.s + 1) }) v w w' := by
  rcases h.q with ⟨_, hq0⟩ | ⟨gb, go, cap, rfl, hgl, hR⟩
  · rw [hq0] at hm; exact absurd hm (Nat.not_lt_zero _)
  have c3 := h.cell 3 (.slice (some ⟨gb, go, none⟩) x.p.length cap) rfl
  have H := Lib.hid h
  have hlt := h.lt
  have hfr := h.free
  obtain ⟨r, hr⟩ : ∃ r, x.g % 8 = r := ⟨_, rfl⟩
  have r8 : (x.g : Int) % 8 = (r : Int) := by omega
  have rw8 : IntKind.u8.wrap (r : Int) = (r : Int) := by rw [IntKind.wrap_u8]; omega
  have hg := hf.g
  have c7 := h.cell 7 (.int .i64 (x.g : Int)) rfl
  have c8 := h.cell 8 (.bool x.due) rfl
  have c11 := h.cell 11 (.bool x.poll) rfl
  have c13 := h.cell 13 (.bool x.bu) rfl
  have c16 := h.cell 16 (.bool x.fl) rfl
  have c12 := h.cell 12 (.bool x.pb) rfl
  have c15 := h.cell 15 (.bool x.ak) rfl
  have c5 := h.cell 5 (.int .i64 (x.s : Int)) rfl
  rw [hl] at c16
  rw [hb] at c13
  rw [hd] at c8
  rw [hp] at c11
  rw [hpb] at c12
  rw [hak] at c15
  obtain ⟨st, hst⟩ : ∃ st, x.p.getD x.s bE = st := ⟨_, rfl⟩
  have hxs : x.p[x.s]? = some st := by
    rw [← hst, List.getD_eq_getElem?_getD, List.getElem?_eq_getElem hm]; rfl
  have hgs : w.cell? ⟨gb, go + x.s, none⟩ = some (.string st) := by
    have := hR.cell x.s st hxs 0 (by decide)
    rwa [show go + (1 * x.s + 0) = go + x.s by omega] at this
  have HG : Hid (∀ w', Below w.heap.size w w' → w'.cell? ⟨gb, go + x.s, none⟩ = some (.string st)) := Lib.hid fun w' hb => cell_below hgs hb
  have hgw := hR.lt
  obtain ⟨np, hnp⟩ : ∃ np, x.p.length = np := ⟨_, rfl⟩
  have HNP := Lib.hid hnp
  rw [hnp] at c3 hm
  have hsb : x.s ≤ 1000000 := by have := hf.few; omega
  have hTb : x.T ≤ 1000000 := by have := hf.tp; have := hf.few; omega
  have hfin : Fit { x with s := x.s + 1, T := max x.T (x.s + 1) } := ⟨hf.k, hf.n2, hf.t1, hf.t1p, by have := hf.hs; dsimp only; omega, by dsimp only; omega, by have := hf.tp; dsimp only; omega, hf.pk, hf.few, hf.g, hf.tr, hf.lf⟩
  have HF := Lib.hid hfin
  obtain ⟨ns, hns⟩ : ∃ ns, x.s = ns := ⟨_, rfl⟩
  have HNS := Lib.hid hns
  rw [hns] at c5 hm hsb HG
  have g0 : decide ((ns : Int) < (np : Int)) = true := decide_eq_true (by omega)
  have g0b : decide (ns < np) = true := decide_eq_true hm
  have j1 : (ns : Int) < (np : Int) := by omega
  have j0 : (0 : Int) ≤ (ns : Int) := by omega
  obtain ⟨rs, hrs⟩ : ∃ rs, ns % 8 = rs := ⟨_, rfl⟩
  have s8 : (ns : Int) % 8 = (rs : Int) := by omega
  have s8t : (ns : Int).tmod 8 = (rs : Int) := by rw [Int.tmod_eq_emod_of_nonneg (by omega)]; exact s8
  have r8t : (x.g : Int).tmod 8 = (r : Int) := by rw [Int.tmod_eq_emod_of_nonneg (by omega)]; exact r8
  have sw8 : IntKind.u8.wrap (rs : Int) = (rs : Int) := by rw [IntKind.wrap_u8]; omega
  obtain ⟨n1, hn1⟩ : ∃ n1, ns + 1 = n1 := ⟨_, rfl⟩
  obtain ⟨T1, hT1⟩ : ∃ T1, x.T = T1 := ⟨_, rfl⟩
  obtain ⟨mx, hmx⟩ : ∃ mx, max T1 n1 = mx := ⟨_, rfl⟩
  have q1 : IntKind.i64.wrap ((ns : Int) + 1) = (n1 : Int) := by rw [IntKind.wrap_i64]; omega
  have q2 : max (T1 : Int) (n1 : Int) = (mx : Int) := by omega
  have q3 : max T1 n1 = mx := hmx
  have HT1 := Lib.hid hT1
  have HXF : Hid (({ x with s := n1, T := mx } : Sd) = { x with s := x.s + 1, T := max x.T (x.s + 1) }) := by
    show _ = _
    rw [hns, hn1, hT1, hmx]
  have H1 : Hid (RIm [(w.heap.size + 1, (.cells #[.int .u8 0, .bool false, .int .u8 8, .bool false, .int .u8 0, .int .u8 (r : Int), .string ⟨#[]⟩] TF (0, 0))), (w.heap.size, noF)] pb x (.slice (some ⟨gb, go, none⟩) np cap) w ((w.alloc noF).alloc (.cells #[.int .u8 0, .bool false, .int .u8 8, .bool false, .int .u8 0, .int .u8 (r : Int), .string ⟨#[]⟩] TF (0, 0)))) := Lib.hid (by rw [← hnp]; exact RIm.made1 h (RDo.refl h) rfl _ _)
  rw [hst, hns, hrs, hr, hnp]
  rw [hn1, hT1, hmx]
  rw [hns, hn1, hT1, hmx] at HF
  have hlt2 := h.lt
  clear h hf hr hnp hns hxs hgs hst hrs hn1 hT1 hmx hfin hR hgl H hTb HXF
  go_enter Try.func26, Try.ntmps26
  go_wp2_with fail
  go_quiet (fail)
  have H2 := Lib.hid (H1.out.drewN nq)
  have hg1 := HG.out _ (below_on (nest_below w [noF, (.cells #[.int .u8 0, .bool false, .int .u8 8, .bool false, .int .u8 0, .int .u8 (r : Int), .string ⟨#[]⟩] TF (0, 0))]) (show Below ((w.alloc noF).alloc (.cells #[.int .u8 0, .bool false, .int .u8 8, .bool false, .int .u8 0, .int .u8 (r : Int), .string ⟨#[]⟩] TF (0, 0))).heap.size ((w.alloc noF).alloc (.cells #[.int .u8 0, .bool false, .int .u8 8, .bool false, .int .u8 0, .int .u8 (r : Int), .string ⟨#[]⟩] TF (0, 0))) (((w.alloc noF).alloc (.cells #[.int .u8 0, .bool false, .int .u8 8, .bool false, .int .u8 0, .int .u8 (r : Int), .string ⟨#[]⟩] TF (0, 0))).drewN nq) from ⟨rfl, rfl, rfl, Nat.le_refl _, fun _ _ => rfl⟩))
  generalize ((w.alloc noF).alloc (.cells #[.int .u8 0, .bool false, .int .u8 8, .bool false, .int .u8 0, .int .u8 (r : Int), .string ⟨#[]⟩] TF (0, 0))).drewN nq = w2 at H2 hg1 ⊢
  clear H1 hfr c7 c8 c11 c13 c16 c12 c15 c5 c3
  go_wp2_with fail
  have H3 := Lib.hid H2.out.drew
  have hg3 : w2.drew.cell? ⟨gb, go + ns, none⟩ = some (.string st) := hg1
  clear H2 hg1
  refine wp_region_held_drew (S := (fun w' => RIm [(w.heap.size, noF)] pb x (.slice (some ⟨gb, go, none⟩) np cap) w w' ∧ w'.cell? ⟨gb, go + ns, none⟩ = some (.string st))) (by kernel_rfl) ⟨H3.out.tail, hg3⟩ (fun hHeld => ?_)
  refine' wpAnyH_take (i := 0) (oi := { dst := some 89, op := Go.Op.move (Go.Operand.tmp 0), type := 30, pos := "ref.go:92", after := #[], guard := none }) (v := _) rfl (by kernel_rfl) (by kernel_rfl) (by kernel_rfl) (fun _ _ _ h => h) (Or.inl ⟨by rfl, ?hy34⟩) (by assumption) ?hr34
  case hy34 => (intro _ hSw; (try dsimp only at hSw); go_simp <;> with_reducible rfl)
  simp only [Act.put, List.setIfInBounds_toArray, List.set_cons_zero, List.set_cons_succ]
  refine' wpAnyH_take (i := 1) (oi := { dst := some 90, op := Go.Op.nilCheck (Go.Operand.tmp 89), type := 0, pos := "ref.go:92", after := #[{ on := 0, ground := Go.Ground.data }], guard := none }) (v := _) rfl (by kernel_rfl) (by kernel_rfl) (by kernel_rfl) (fun _ _ _ h => h) (Or.inl ⟨by rfl, ?hy35⟩) (by assumption) ?hr35
  case hy35 => (intro _ hSw; (try dsimp only at hSw); go_simp <;> with_reducible rfl)
  simp only [Act.put, List.setIfInBounds_toArray, List.set_cons_zero, List.set_cons_succ]
  refine' wpAnyH_take (i := 2) (oi := { dst := some 91, op := Go.Op.fieldAddr 69 (Go.Operand.tmp 90) 5, type := 0, pos := "ref.go:92", after := #[{ on := 1, ground := Go.Ground.data }], guard := none }) (v := _) rfl (by kernel_rfl) (by kernel_rfl) (by kernel_rfl) (fun _ _ _ h => h) (Or.inl ⟨by rfl, ?hy36⟩) (by assumption) ?hr36
  case hy36 => (intro _ hSw; (try dsimp only at hSw); go_simp <;> with_reducible rfl)
  simp only [Act.put, List.setIfInBounds_toArray, List.set_cons_zero, List.set_cons_succ]
  refine' wpAnyH_take (i := 3) (oi := { dst := some 92, op := Go.Op.load 3 (Go.Operand.tmp 91), type := 3, pos := "ref.go:92", after := #[{ on := 2, ground := Go.Ground.data }], guard := none }) (v := _) rfl (by kernel_rfl) (by kernel_rfl) (by kernel_rfl) (fun _ _ _ h => h) (Or.inl ⟨by rfl, ?hy37⟩) (by assumption) ?hr37
  case hy37 => (intro _ hSw; (try dsimp only at hSw); have hc := hSw.1.does.at_.cell 5 (.int .i64 (x.s : Int)) rfl; rw [HNS.out] at hc; go_simp <;> with_reducible rfl)
  simp only [Act.put, List.setIfInBounds_toArray, List.set_cons_zero, List.set_cons_succ]
  refine' wpAnyH_take (i := 4) (oi := { dst := some 93, op := Go.Op.binOp Go.BinOp.rem 3 (Go.Operand.tmp 92) (Go.Operand.const (Go.Value.int Go.IntKind.i64 8)) 3, type := 3, pos := "ref.go:92", after := #[{ on := 3, ground := Go.Ground.data }], guard := none }) (v := _) rfl (by kernel_rfl) (by kernel_rfl) (by kernel_rfl) (fun _ _ _ h => h) (Or.inl ⟨by rfl, ?hy38⟩) (by assumption) ?hr38
  case hy38 => (intro _ hSw; (try dsimp only at hSw); go_simp <;> with_reducible rfl)
  simp only [Act.put, List.setIfInBounds_toArray, List.set_cons_zero, List.set_cons_succ]
  refine' wpAnyH_take (i := 5) (oi := { dst := some 94, op := Go.Op.convert 3 5 (Go.Operand.tmp 93), type := 5, pos := "ref.go:92", after := #[{ on := 4, ground := Go.Ground.data }], guard := none }) (v := _) rfl (by kernel_rfl) (by kernel_rfl) (by kernel_rfl) (fun _ _ _ h => h) (Or.inl ⟨by rfl, ?hy39⟩) (by assumption) ?hr39
  case hy39 => (intro _ hSw; (try dsimp only at hSw); go_simp <;> with_reducible rfl)
  simp only [Act.put, List.setIfInBounds_toArray, List.set_cons_zero, List.set_cons_succ]
  refine' wpAnyH_take (i := 6) (oi := { dst := some 95, op := Go.Op.move (Go.Operand.tmp 0), type := 30, pos := "ref.go:92", after := #[], guard := none }) (v := _) rfl (by kernel_rfl) (by kernel_rfl) (by kernel_rfl) (fun _ _ _ h => h) (Or.inl ⟨by rfl, ?hy40⟩) (by assumption) ?hr40
  case hy40 => (intro _ hSw; (try dsimp only at hSw); go_simp <;> with_reducible rfl)
  simp only [Act.put, List.setIfInBounds_toArray, List.set_cons_zero, List.set_cons_succ]
  refine' wpAnyH_take (i := 7) (oi := { dst := some 96, op := Go.Op.nilCheck (Go.Operand.tmp 95), type := 0, pos := "ref.go:92", after := #[{ on := 6, ground := Go.Ground.data }], guard := none }) (v := _) rfl (by kernel_rfl) (by kernel_rfl) (by kernel_rfl) (fun _ _ _ h => h) (Or.inl ⟨by rfl, ?hy41⟩) (by assumption) ?hr41
  case hy41 => (intro _ hSw; (try dsimp only at hSw); go_simp <;> with_reducible rfl)
  simp only [Act.put, List.setIfInBounds_toArray, List.set_cons_zero, List.set_cons_succ]
  refine' wpAnyH_take (i := 8) (oi := { dst := some 97, op := Go.Op.fieldAddr 69 (Go.Operand.tmp 96) 7, type := 0, pos := "ref.go:92", after := #[{ on := 7, ground := Go.Ground.data }], guard := none }) (v := _) rfl (by kernel_rfl) (by kernel_rfl) (by kernel_rfl) (fun _ _ _ h => h) (Or.inl ⟨by rfl, ?hy42⟩) (by assumption) ?hr42
  case hy42 => (intro _ hSw; (try dsimp only at hSw); go_simp <;> with_reducible rfl)
  simp only [Act.put, List.setIfInBounds_toArray, List.set_cons_zero, List.set_cons_succ]
  refine' wpAnyH_take (i := 9) (oi := { dst := some 98, op := Go.Op.load 3 (Go.Operand.tmp 97), type := 3, pos := "ref.go:92", after := #[{ on := 8, ground := Go.Ground.data }], guard := none }) (v := _) rfl (by kernel_rfl) (by kernel_rfl) (by kernel_rfl) (fun _ _ _ h => h) (Or.inl ⟨by rfl, ?hy43⟩) (by assumption) ?hr43
  case hy43 => (intro _ hSw; (try dsimp only at hSw); have hc := hSw.1.does.at_.cell 7 (.int .i64 (x.g : Int)) rfl; go_simp <;> with_reducible rfl)
  simp only [Act.put, List.setIfInBounds_toArray, List.set_cons_zero, List.set_cons_succ]
  refine' wpAnyH_take (i := 10) (oi := { dst := some 99, op := Go.Op.binOp Go.BinOp.rem 3 (Go.Operand.tmp 98) (Go.Operand.const (Go.Value.int Go.IntKind.i64 8)) 3, type := 3, pos := "ref.go:92", after := #[{ on := 9, ground := Go.Ground.data }], guard := none }) (v := _) rfl (by kernel_rfl) (by kernel_rfl) (by kernel_rfl) (fun _ _ _ h => h) (Or.inl ⟨by rfl, ?hy44⟩) (by assumption) ?hr44
  case hy44 => (intro _ hSw; (try dsimp only at hSw); go_simp <;> with_reducible rfl)
  simp only [Act.put, List.setIfInBounds_toArray, List.set_cons_zero, List.set_cons_succ]
  refine' wpAnyH_take (i := 11) (oi := { dst := some 100, op := Go.Op.convert 3 5 (Go.Operand.tmp 99), type := 5, pos := "ref.go:92", after := #[{ on := 10, ground := Go.Ground.data }], guard := none }) (v := _) rfl (by kernel_rfl) (by kernel_rfl) (by kernel_rfl) (fun _ _ _ h => h) (Or.inl ⟨by rfl, ?hy45⟩) (by assumption) ?hr45
  case hy45 => (intro _ hSw; (try dsimp only at hSw); go_simp <;> with_reducible rfl)
  simp only [Act.put, List.setIfInBounds_toArray, List.set_cons_zero, List.set_cons_succ]
  refine' wpAnyH_take (i := 12) (oi := { dst := some 101, op := Go.Op.move (Go.Operand.tmp 0), type := 30, pos := "ref.go:92", after := #[], guard := none }) (v := _) rfl (by kernel_rfl) (by kernel_rfl) (by kernel_rfl) (fun _ _ _ h => h) (Or.inl ⟨by rfl, ?hy46⟩) (by assumption) ?hr46
  case hy46 => (intro _ hSw; (try dsimp only at hSw); go_simp <;> with_reducible rfl)
  simp only [Act.put, List.setIfInBounds_toArray, List.set_cons_zero, List.set_cons_succ]
  refine' wpAnyH_take (i := 13) (oi := { dst := some 102, op := Go.Op.nilCheck (Go.Operand.tmp 101), type := 0, pos := "ref.go:92", after := #[{ on := 12, ground := Go.Ground.data }], guard := none }) (v := _) rfl (by kernel_rfl) (by kernel_rfl) (by kernel_rfl) (fun _ _ _ h => h) (Or.inl ⟨by rfl, ?hy47⟩) (by assumption) ?hr47
  case hy47 => (intro _ hSw; (try dsimp only at hSw); go_simp <;> with_reducible rfl)
  simp only [Act.put, List.setIfInBounds_toArray, List.set_cons_zero, List.set_cons_succ]
  refine' wpAnyH_take (i := 14) (oi := { dst := some 103, op := Go.Op.fieldAddr 69 (Go.Operand.tmp 102) 3, type := 0, pos := "ref.go:92", after := #[{ on := 13, ground := Go.Ground.data }], guard := none }) (v := _) rfl (by kernel_rfl) (by kernel_rfl) (by kernel_rfl) (fun _ _ _ h => h) (Or.inl ⟨by rfl, ?hy48⟩) (by assumption) ?hr48
  case hy48 => (intro _ hSw; (try dsimp only at hSw); go_simp <;> with_reducible rfl)
  simp only [Act.put, List.setIfInBounds_toArray, List.set_cons_zero, List.set_cons_succ]
  refine' wpAnyH_take (i := 15) (oi := { dst := some 104, op := Go.Op.load 63 (Go.Operand.tmp 103), type := 63, pos := "ref.go:92", after := #[{ on := 14, ground := Go.Ground.data }], guard := none }) (v := _) rfl (by kernel_rfl) (by kernel_rfl) (by kernel_rfl) (fun _ _ _ h => h) (Or.inl ⟨by rfl, ?hy49⟩) (by assumption) ?hr49
  case hy49 => (intro _ hSw; (try dsimp only at hSw); have hc := hSw.1.does.at_.cell 3 (.slice (some ⟨gb, go, none⟩) np cap) rfl; go_simp <;> with_reducible rfl)
  simp only [Act.put, List.setIfInBounds_toArray, List.set_cons_zero, List.set_cons_succ]
  refine' wpAnyH_take (i := 16) (oi := { dst := some 105, op := Go.Op.move (Go.Operand.tmp 0), type := 30, pos := "ref.go:92", after := #[], guard := none }) (v := _) rfl (by kernel_rfl) (by kernel_rfl) (by kernel_rfl) (fun _ _ _ h => h) (Or.inl ⟨by rfl, ?hy50⟩) (by assumption) ?hr50
  case hy50 => (intro _ hSw; (try dsimp only at hSw); go_simp <;> with_reducible rfl)
  simp only [Act.put, List.setIfInBounds_toArray, List.set_cons_zero, List.set_cons_succ]
  refine' wpAnyH_take (i := 17) (oi := { dst := some 106, op := Go.Op.nilCheck (Go.Operand.tmp 105), type := 0, pos := "ref.go:92", after := #[{ on := 16, ground := Go.Ground.data }], guard := none }) (v := _) rfl (by kernel_rfl) (by kernel_rfl) (by kernel_rfl) (fun _ _ _ h => h) (Or.inl ⟨by rfl, ?hy51⟩) (by assumption) ?hr51
  case hy51 => (intro _ hSw; (try dsimp only at hSw); go_simp <;> with_reducible rfl)
  simp only [Act.put, List.setIfInBounds_toArray, List.set_cons_zero, List.set_cons_succ]
  refine' wpAnyH_take (i := 18) (oi := { dst := some 107, op := Go.Op.fieldAddr 69 (Go.Operand.tmp 106) 5, type := 0, pos := "ref.go:92", after := #[{ on := 17, ground := Go.Ground.data }], guard := none }) (v := _) rfl (by kernel_rfl) (by kernel_rfl) (by kernel_rfl) (fun _ _ _ h => h) (Or.inl ⟨by rfl, ?hy52⟩) (by assumption) ?hr52
  case hy52 => (intro _ hSw; (try dsimp only at hSw); go_simp <;> with_reducible rfl)
  simp only [Act.put, List.setIfInBounds_toArray, List.set_cons_zero, List.set_cons_succ]
  refine' wpAnyH_take (i := 19) (oi := { dst := some 108, op := Go.Op.load 3 (Go.Operand.tmp 107), type := 3, pos := "ref.go:92", after := #[{ on := 18, ground := Go.Ground.data }], guard := none }) (v := _) rfl (by kernel_rfl) (by kernel_rfl) (by kernel_rfl) (fun _ _ _ h => h) (Or.inl ⟨by rfl, ?hy53⟩) (by assumption) ?hr53
  case hy53 => (intro _ hSw; (try dsimp only at hSw); have hc := hSw.1.does.at_.cell 5 (.int .i64 (x.s : Int)) rfl; rw [HNS.out] at hc; go_simp <;> with_reducible rfl)
  simp only [Act.put, List.setIfInBounds_toArray, List.set_cons_zero, List.set_cons_succ]
  refine' wpAnyH_take (i := 20) (oi := { dst := some 109, op := Go.Op.indexAddr 63 (Go.Operand.tmp 104) (Go.Operand.tmp 108), type := 0, pos := "ref.go:92", after := #[{ on := 15, ground := Go.Ground.data }, { on := 19, ground := Go.Ground.data }], guard := none }) (v := _) rfl (by kernel_rfl) (by kernel_rfl) (by kernel_rfl) (fun _ _ _ h => h) (Or.inl ⟨by rfl, ?hy54⟩) (by assumption) ?hr54
  case hy54 => (intro _ hSw; (try dsimp only at hSw); go_simp <;> with_reducible rfl)
  simp only [Act.put, List.setIfInBounds_toArray, List.set_cons_zero, List.set_cons_succ]
  refine' wpAnyH_take (i := 21) (oi := { dst := some 110, op := Go.Op.load 9 (Go.Operand.tmp 109), type := 9, pos := "ref.go:92", after := #[{ on := 20, ground := Go.Ground.data }], guard := none }) (v := _) rfl (by kernel_rfl) (by kernel_rfl) (by kernel_rfl) (fun _ _ _ h => h) (Or.inl ⟨by rfl, ?hy55⟩) (by assumption) ?hr55
  case hy55 => (intro _ hSw; (try dsimp only at hSw); have hc := hSw.2; go_simp <;> with_reducible rfl)
  simp only [Act.put, List.setIfInBounds_toArray, List.set_cons_zero, List.set_cons_succ]
  refine' wpAnyH_take (i := 22) (oi := { dst := some 111, op := Go.Op.build 25 #[(1, Go.Operand.const (Go.Value.bool true)), (2, Go.Operand.const (Go.Value.int Go.IntKind.u8 7)), (4, Go.Operand.tmp 94), (5, Go.Operand.tmp 100), (6, Go.Operand.tmp 110)], type := 25, pos := "ref.go:92", after := #[{ on := 5, ground := Go.Ground.data }, { on := 11, ground := Go.Ground.data }, { on := 21, ground := Go.Ground.data }], guard := none }) (v := _) rfl (by kernel_rfl) (by kernel_rfl) (by kernel_rfl) (fun _ _ _ h => h) (Or.inl ⟨by rfl, ?hy56⟩) (by assumption) ?hr56
  case hy56 => (intro _ hSw; (try dsimp only at hSw); go_simp <;> with_reducible rfl)
  simp only [Act.put, List.setIfInBounds_toArray, List.set_cons_zero, List.set_cons_succ]
  clear hHeld
  have hg4 : w2.drew.cell? ⟨gb, go + ns, none⟩ = some (.string st) := hg3
  clear hg3
  generalize w2.drew = w3 at H3 hg4 ⊢
  obtain ⟨⟨z0, z1, z2, z3, z4, z5, z6⟩, zf⟩ := cells7 (show w3.heap[w.heap.size + 1]? = some (.cells #[.int .u8 0, .bool false, .int .u8 8, .bool false, .int .u8 0, .int .u8 (r : Int), .string ⟨#[]⟩] TF (0, 0)) from H3.out.at0)
  have HE : Hid (RIm [(w.heap.size + 1, (.cells #[.int .u8 0, .bool true, .int .u8 7, .bool false, .int .u8 (rs : Int), .int .u8 (r : Int), .string st] TF (0, 0))), (w.heap.size, noF)] pb x (.slice (some ⟨gb, go, none⟩) np cap) w (((((((w3.setCell ⟨w.heap.size + 1, 0, none⟩ (.int .u8 0)).setCell ⟨w.heap.size + 1, 1, none⟩ (.bool true)).setCell ⟨w.heap.size + 1, 2, none⟩ (.int .u8 7)).setCell ⟨w.heap.size + 1, 3, none⟩ (.bool false)).setCell ⟨w.heap.size + 1, 4, none⟩ (.int .u8 (rs : Int))).setCell ⟨w.heap.size + 1, 5, none⟩ (.int .u8 (r : Int))).setCell ⟨w.heap.size + 1, 6, none⟩ (.string st))) := Lib.hid (H3.out.put7 (one_ne (by omega)) _ _ _ _ _ _ _)
  have hne : gb ≠ w.heap.size + 1 := by omega
  have hg5 : ((((((((w3.setCell ⟨w.heap.size + 1, 0, none⟩ (.int .u8 0)).setCell ⟨w.heap.size + 1, 1, none⟩ (.bool true)).setCell ⟨w.heap.size + 1, 2, none⟩ (.int .u8 7)).setCell ⟨w.heap.size + 1, 3, none⟩ (.bool false)).setCell ⟨w.heap.size + 1, 4, none⟩ (.int .u8 (rs : Int))).setCell ⟨w.heap.size + 1, 5, none⟩ (.int .u8 (r : Int))).setCell ⟨w.heap.size + 1, 6, none⟩ (.string st))).cell? ⟨gb, go + ns, none⟩ = some (.string st) := (World.cell?_of_block (a := ⟨gb, go + ns, none⟩) ((chg_set7 (S := fun k => k = w.heap.size + 1) (Chg.refl _ w3) (fun _ => rfl) _ _ _ _ _ _ _).block gb (World.block_lt_of_cell? w3 ⟨gb, go + ns, none⟩ hg4) hne)).trans hg4
  refine wpAnyH_ready (rs := [23]) (by kernel_rfl) (by simp) ?_
  refine AllReadyH.cons (o := { dst := none, op := Go.Op.store 25 (Go.Operand.tmp 4) (Go.Operand.tmp 111), type := 0, pos := "ref.go:92", after := #[{ on := 22, ground := Go.Ground.data }, { on := 0, ground := Go.Ground.phase }, { on := 1, ground := Go.Ground.phase }, { on := 2, ground := Go.Ground.phase }, { on := 3, ground := Go.Ground.phase }, { on := 4, ground := Go.Ground.phase }, { on := 5, ground := Go.Ground.phase }, { on := 6, ground := Go.Ground.phase }, { on := 7, ground := Go.Ground.phase }, { on := 8, ground := Go.Ground.phase }, { on := 9, ground := Go.Ground.phase }, { on := 10, ground := Go.Ground.phase }, { on := 11, ground := Go.Ground.phase }, { on := 12, ground := Go.Ground.phase }, { on := 13, ground := Go.Ground.phase }, { on := 14, ground := Go.Ground.phase }, { on := 15, ground := Go.Ground.phase }, { on := 16, ground := Go.Ground.phase }, { on := 17, ground := Go.Ground.phase }, { on := 18, ground := Go.Ground.phase }, { on := 19, ground := Go.Ground.phase }, { on := 20, ground := Go.Ground.phase }, { on := 21, ground := Go.Ground.phase }, { on := 22, ground := Go.Ground.phase }], guard := none }) rfl (fun K hK => ?_) AllReadyH.nil
  go_simp
  go_wp2_with fail
  refine hK.out _ _ ⟨HE.out.tail, hg5⟩ (fun hNext => ?_)
  clear hK K
  have hHeld := hNext
  clear hNext
  (try simp only [Act.put, List.setIfInBounds_toArray, List.set_cons_zero, List.set_cons_succ])
  refine wpAnyH_done (by kernel_rfl) ?_ _
  clear hHeld z0 z1 z2 z3 z4 z5 z6 zf hg4 hg5 H3 hne
  generalize (((((((w3.setCell ⟨w.heap.size + 1, 0, none⟩ (.int .u8 0)).setCell ⟨w.heap.size + 1, 1, none⟩ (.bool true)).setCell ⟨w.heap.size + 1, 2, none⟩ (.int .u8 7)).setCell ⟨w.heap.size + 1, 3, none⟩ (.bool false)).setCell ⟨w.heap.size + 1, 4, none⟩ (.int .u8 (rs : Int))).setCell ⟨w.heap.size + 1, 5, none⟩ (.int .u8 (r : Int))).setCell ⟨w.heap.size + 1, 6, none⟩ (.string st)) = w4 at HE ⊢
  have hpf := HE.out.does.at_.free
  have hpl := HE.out.lt
  have c5 := HE.out.does.at_.cell 5 (.int .i64 (x.s : Int)) rfl
  rw [HNS.out] at c5
  have HM := Lib.hid (HE.out.set 5 (.int .i64 (n1 : Int)) { x with s := n1 } rfl rfl)
  go_wp2_with fail
  generalize w4.setCell ⟨pb, 5, none⟩ (.int .i64 (n1 : Int)) = w5 at HM ⊢
  clear c5 hpf HE
  have d5 := HM.out.does.at_.cell 5 (.int .i64 (n1 : Int)) rfl
  have d6 := HM.out.does.at_.cell 6 (.int .i64 (x.T : Int)) rfl
  rw [HT1.out] at d6
  have hpf := HM.out.does.at_.free
  have hd2 : w5.drew.cell? ⟨pb, 5, none⟩ = some (.int .i64 (n1 : Int)) := d5
  refine wp_region_held_drew (S := (fun w' => w'.cell? ⟨pb, 5, none⟩ = some (.int .i64 (n1 : Int)))) (by kernel_rfl) hd2 (fun hHeld => ?_)
  refine' wpAnyH_take (i := 0) (oi := { dst := some 119, op := Go.Op.move (Go.Operand.tmp 0), type := 30, pos := "ref.go:94", after := #[], guard := none }) (v := _) rfl (by kernel_rfl) (by kernel_rfl) (by kernel_rfl) (fun _ _ _ h => h) (Or.inl ⟨by rfl, ?hy57⟩) (by assumption) ?hr57
  case hy57 => (intro _ hSw; (try dsimp only at hSw); go_simp <;> with_reducible rfl)
  simp only [Act.put, List.setIfInBounds_toArray, List.set_cons_zero, List.set_cons_succ]
  refine' wpAnyH_take (i := 1) (oi := { dst := some 120, op := Go.Op.move (Go.Operand.tmp 0), type := 30, pos := "ref.go:94", after := #[], guard := none }) (v := _) rfl (by kernel_rfl) (by kernel_rfl) (by kernel_rfl) (fun _ _ _ h => h) (Or.inl ⟨by rfl, ?hy58⟩) (by assumption) ?hr58
  case hy58 => (intro _ hSw; (try dsimp only at hSw); go_simp <;> with_reducible rfl)
  simp only [Act.put, List.setIfInBounds_toArray, List.set_cons_zero, List.set_cons_succ]
  refine' wpAnyH_take (i := 2) (oi := { dst := some 121, op := Go.Op.nilCheck (Go.Operand.tmp 120), type := 0, pos := "ref.go:94", after := #[{ on := 1, ground := Go.Ground.data }], guard := none }) (v := _) rfl (by kernel_rfl) (by kernel_rfl) (by kernel_rfl) (fun _ _ _ h => h) (Or.inl ⟨by rfl, ?hy59⟩) (by assumption) ?hr59
  case hy59 => (intro _ hSw; (try dsimp only at hSw); go_simp <;> with_reducible rfl)
  simp only [Act.put, List.setIfInBounds_toArray, List.set_cons_zero, List.set_cons_succ]
  refine' wpAnyH_take (i := 3) (oi := { dst := some 122, op := Go.Op.fieldAddr 69 (Go.Operand.tmp 121) 6, type := 0, pos := "ref.go:94", after := #[{ on := 2, ground := Go.Ground.data }], guard := none }) (v := _) rfl (by kernel_rfl) (by kernel_rfl) (by kernel_rfl) (fun _ _ _ h => h) (Or.inl ⟨by rfl, ?hy60⟩) (by assumption) ?hr60
  case hy60 => (intro _ hSw; (try dsimp only at hSw); go_simp <;> with_reducible rfl)
  simp only [Act.put, List.setIfInBounds_toArray, List.set_cons_zero, List.set_cons_succ]
  refine' wpAnyH_take (i := 5) (oi := { dst := some 124, op := Go.Op.move (Go.Operand.tmp 0), type := 30, pos := "ref.go:94", after := #[], guard := none }) (v := _) rfl (by kernel_rfl) (by kernel_rfl) (by kernel_rfl) (fun _ _ _ h => h) (Or.inl ⟨by rfl, ?hy61⟩) (by assumption) ?hr61
  case hy61 => (intro _ hSw; (try dsimp only at hSw); go_simp <;> with_reducible rfl)
  simp only [Act.put, List.setIfInBounds_toArray, List.set_cons_zero, List.set_cons_succ]
  refine' wpAnyH_take (i := 6) (oi := { dst := some 125, op := Go.Op.nilCheck (Go.Operand.tmp 124), type := 0, pos := "ref.go:94", after := #[{ on := 5, ground := Go.Ground.data }], guard := none }) (v := _) rfl (by kernel_rfl) (by kernel_rfl) (by kernel_rfl) (fun _ _ _ h => h) (Or.inl ⟨by rfl, ?hy62⟩) (by assumption) ?hr62
  case hy62 => (intro _ hSw; (try dsimp only at hSw); go_simp <;> with_reducible rfl)
  simp only [Act.put, List.setIfInBounds_toArray, List.set_cons_zero, List.set_cons_succ]
  refine' wpAnyH_take (i := 7) (oi := { dst := some 126, op := Go.Op.fieldAddr 69 (Go.Operand.tmp 125) 5, type := 0, pos := "ref.go:94", after := #[{ on := 6, ground := Go.Ground.data }], guard := none }) (v := _) rfl (by kernel_rfl) (by kernel_rfl) (by kernel_rfl) (fun _ _ _ h => h) (Or.inl ⟨by rfl, ?hy63⟩) (by assumption) ?hr63
  case hy63 => (intro _ hSw; (try dsimp only at hSw); go_simp <;> with_reducible rfl)
  simp only [Act.put, List.setIfInBounds_toArray, List.set_cons_zero, List.set_cons_succ]
  refine' wpAnyH_take (i := 8) (oi := { dst := some 127, op := Go.Op.load 3 (Go.Operand.tmp 126), type := 3, pos := "ref.go:94", after := #[{ on := 7, ground := Go.Ground.data }], guard := none }) (v := _) rfl (by kernel_rfl) (by kernel_rfl) (by kernel_rfl) (fun _ _ _ h => h) (Or.inl ⟨by rfl, ?hy64⟩) (by assumption) ?hr64
  case hy64 => (intro _ hSw; (try dsimp only at hSw); have hc := hSw; go_simp <;> with_reducible rfl)
  simp only [Act.put, List.setIfInBounds_toArray, List.set_cons_zero, List.set_cons_succ]
  refine wpAnyH_ready (rs := [4]) (by kernel_rfl) (by simp) ?_
  refine AllReadyH.cons (o := { dst := some 123, op := Go.Op.load 3 (Go.Operand.tmp 122), type := 3, pos := "ref.go:94", after := #[{ on := 3, ground := Go.Ground.data }], guard := none }) rfl (fun K hK => ?_) AllReadyH.nil
  go_simp
  go_wp2_with fail
  refine hK.out _ _ hd2 (fun hNext => ?_)
  clear hHeld
  clear hK K
  have hHeld := hNext
  clear hNext
  (try simp only [Act.put, List.setIfInBounds_toArray, List.set_cons_zero, List.set_cons_succ])
  refine wpAnyH_ready (rs := [9]) (by kernel_rfl) (by simp) ?_
  refine AllReadyH.cons (o := { dst := some 128, op := Go.Op.call { callee := Go.Callee.builtin Go.Builtin.max, args := #[Go.Operand.tmp 123, Go.Operand.tmp 127], argTypes := #[3, 3] }, type := 3, pos := "ref.go:94", after := #[{ on := 4, ground := Go.Ground.data }, { on := 8, ground := Go.Ground.data }], guard := none }) rfl (fun K hK => ?_) AllReadyH.nil
  go_simp
  go_wp2_with fail
  refine hK.out _ _ hd2 (fun hNext => ?_)
  clear hHeld
  clear hK K
  have hHeld := hNext
  clear hNext
  (try simp only [Act.put, List.setIfInBounds_toArray, List.set_cons_zero, List.set_cons_succ])
  refine' wpAnyH_take (i := 10) (oi := { dst := some 129, op := Go.Op.nilCheck (Go.Operand.tmp 119), type := 0, pos := "ref.go:94", after := #[{ on := 0, ground := Go.Ground.data }, { on := 0, ground := Go.Ground.phase }, { on := 1, ground := Go.Ground.phase }, { on := 2, ground := Go.Ground.phase }, { on := 3, ground := Go.Ground.phase }, { on := 4, ground := Go.Ground.phase }, { on := 5, ground := Go.Ground.phase }, { on := 6, ground := Go.Ground.phase }, { on := 7, ground := Go.Ground.phase }, { on := 8, ground := Go.Ground.phase }, { on := 9, ground := Go.Ground.phase }], guard := none }) (v := _) rfl (by kernel_rfl) (by kernel_rfl) (by kernel_rfl) (fun _ _ _ h => h) (Or.inl ⟨by rfl, ?hy65⟩) (by assumption) ?hr65
  case hy65 => (intro _ hSw; (try dsimp only at hSw); go_simp <;> with_reducible rfl)
  simp only [Act.put, List.setIfInBounds_toArray, List.set_cons_zero, List.set_cons_succ]
  refine' wpAnyH_take (i := 11) (oi := { dst := some 130, op := Go.Op.fieldAddr 69 (Go.Operand.tmp 129) 6, type := 0, pos := "ref.go:94", after := #[{ on := 10, ground := Go.Ground.data }, { on := 0, ground := Go.Ground.phase }, { on := 1, ground := Go.Ground.phase }, { on := 2, ground := Go.Ground.phase }, { on := 3, ground := Go.Ground.phase }, { on := 4, ground := Go.Ground.phase }, { on := 5, ground := Go.Ground.phase }, { on := 6, ground := Go.Ground.phase }, { on := 7, ground := Go.Ground.phase }, { on := 8, ground := Go.Ground.phase }, { on := 9, ground := Go.Ground.phase }], guard := none }) (v := _) rfl (by kernel_rfl) (by kernel_rfl) (by kernel_rfl) (fun _ _ _ h => h) (Or.inl ⟨by rfl, ?hy66⟩) (by assumption) ?hr66
  case hy66 => (intro _ hSw; (try dsimp only at hSw); go_simp <;> with_reducible rfl)
  simp only [Act.put, List.setIfInBounds_toArray, List.set_cons_zero, List.set_cons_succ]
  have HP := Lib.hid (HM.out.set 6 (.int .i64 (mx : Int)) { x with s := n1, T := mx } rfl rfl).drew
  refine wpAnyH_ready (rs := [12]) (by kernel_rfl) (by simp) ?_
  refine AllReadyH.cons (o := { dst := none, op := Go.Op.store 3 (Go.Operand.tmp 130) (Go.Operand.tmp 128), type := 0, pos := "ref.go:94", after := #[{ on := 11, ground := Go.Ground.data }, { on := 9, ground := Go.Ground.data }, { on := 0, ground := Go.Ground.phase }, { on := 1, ground := Go.Ground.phase }, { on := 2, ground := Go.Ground.phase }, { on := 3, ground := Go.Ground.phase }, { on := 4, ground := Go.Ground.phase }, { on := 5, ground := Go.Ground.phase }, { on := 6, ground := Go.Ground.phase }, { on := 7, ground := Go.Ground.phase }, { on := 8, ground := Go.Ground.phase }, { on := 9, ground := Go.Ground.phase }], guard := none }) rfl (fun K hK => ?_) AllReadyH.nil
  go_simp
  go_wp2_with fail
  refine hK.out _ _ (HP.out.does.at_.cell 5 (.int .i64 (n1 : Int)) rfl) (fun hNext => ?_)
  clear hHeld
  clear hK K
  have hHeld := hNext
  clear hNext
  (try simp only [Act.put, List.setIfInBounds_toArray, List.set_cons_zero, List.set_cons_succ])
  refine wpAnyH_done (by kernel_rfl) ?_ _
  clear hHeld HM d5 d6 hpf hd2
  have CC := Lib.hid (rcount _ pb _ (.slice (some ⟨gb, go, none⟩) np cap) false HP.out.does.at_ HF.out)
  go_wp2_with fail
  refine CC.out.mono ?_
  rintro _ w6 ⟨rfl, hd2⟩
  have H6 := Lib.hid (HP.out.next hd2)
  clear hd2 HP CC
  obtain ⟨⟨l0, l1, l2, l3, l4, l5, l6⟩, lf⟩ := cells7 (show w6.heap[w.heap.size + 1]? = some (.cells #[.int .u8 0, .bool true, .int .u8 7, .bool false, .int .u8 (rs : Int), .int .u8 (r : Int), .string st] TF (0, 0)) from H6.out.at0)
  obtain ⟨⟨k0, k1, k2, k3, k4, k5, k6⟩, kf⟩ := cells7 H6.out.tail.at0
  have HZ := Lib.hid (H6.out.swap.put7 (one_ne (by omega)) (.int .u8 0) (.bool true) (.int .u8 7) (.bool false) (.int .u8 (rs : Int)) (.int .u8 (r : Int)) (.string st))
  go_wp2
  exact bodyPost_ret (res_fmb rfl rfl _ _ _ ⟨true, 7, false, rs, r, st⟩ true HZ.out.at0 rfl rfl) rfl ⟨rfl, HZ.out.does⟩
theorem rnext (w : World) (pb : Nat) (x : Sd) (v : Value) (h : RAt w pb x v) (hf : Fit x) :
    Calls Try.prog 26 #[ptr pb] w fun e w' => e = .returned (.tuple #[fmv (next x).2.1, .bool (next x).2.2]) ∧ RDo pb (next x).1 v w w' := by
  unfold next
  by_cases hl : x.fl = true
  · rw [if_pos hl]; exact rnext_fl w pb x v h hl
  rw [if_neg hl]
  have hl : x.fl = false := by simpa using hl
  by_cases hd : x.due = true
  · rw [if_pos hd]
    by_cases hb : x.bu = true
    · rw [show (if x.bu = true then 9 else if x.rej = true then 10 else 8) = 9 from if_pos hb]; exact rnext_dueb w pb x v h hf hl hb hd
    · have hb : x.bu = false := by simpa using hb
      by_cases hj : x.rej = true
      · rw [show (if x.bu = true then 9 else if x.rej = true then 10 else 8) = 10 by simp [hb, hj]]; exact rnext_duefr w pb x v h hf hl hb hd hj
      · rw [show (if x.bu = true then 9 else if x.rej = true then 10 else 8) = 8 by simp [hb, hj]]; exact rnext_duefn w pb x v h hf hl hb hd (by simpa using hj)
  rw [if_neg hd]
  have hd : x.due = false := by simpa using hd
  by_cases hp : x.poll = true
  · rw [if_pos hp]
    by_cases hb : x.bu = true
    · rw [show (if x.bu = true then 9 else 8) = 9 from if_pos hb]; exact rnext_pollb w pb x v h hf hl hb hd hp
    · rw [show (if x.bu = true then 9 else 8) = 8 from if_neg hb]; exact rnext_pollf w pb x v h hf hl (by simpa using hb) hd hp
  rw [if_neg hp]
  have hp : x.poll = false := by simpa using hp
  by_cases hpb : x.pb = true
  · rw [if_neg (by simp [more, hpb])]
    by_cases hb : x.bu = true
    · exact rnext_pbb w pb x v h hf hl hb hd hp hpb
    · exact rnext_pbf w pb x v h hf hl (by simpa using hb) hd hp hpb
  have hpb : x.pb = false := by simpa using hpb
  by_cases hak : x.ak = true
  · rw [if_neg (by simp [more, hak])]
    by_cases hb : x.bu = true
    · exact rnext_akb w pb x v h hf hl hb hd hp hpb hak
    · exact rnext_akf w pb x v h hf hl (by simpa using hb) hd hp hpb hak
  have hak : x.ak = false := by simpa using hak
  by_cases hm : x.s < x.p.length
  · rw [if_pos (by simp [more, hpb, hak, hm])]
    by_cases hb : x.bu = true
    · exact rnext_moreb w pb x v h hf hl hb hd hp hpb hak hm
    · exact rnext_moref w pb x v h hf hl (by simpa using hb) hd hp hpb hak hm
  · rw [if_neg (by simp [more, hm])]
    by_cases hb : x.bu = true
    · exact rnext_nob w pb x v h hf hl hb hd hp hpb hak hm
    · exact rnext_nof w pb x v h hf hl (by simpa using hb) hd hp hpb hak hm
end Go.Proofs.Ytkoaplmlabagnaa.Aq

/-
  The document's own side: Next. Condition: it lies where it says; its numbers are small.
-/
import Derived.Test.YtkoaplmlabagnaaTk
import Derived.Test.YtkoaplmlabagnaaAqHr
import Derived.Lib.MinMax
import Derived.Deep.RegionHeld
namespace Go.Proofs.Ytkoaplmlabagnaa.Aq
open Go.RowKit Go.Proofs.Ytkoaplmlabagnaa.Base Go.Proofs.Ytkoaplmlabagnaa.Mem
theorem RIm.made1 {pb : Nat} {x y : Sd} {v : Value} {w w1 : World} (h0 : RAt w pb x v) (h : RDo pb y v w w1) (hs : w1.heap.size = w.heap.size) (o1 o2 : Obj) : RIm [(w.heap.size + 1, o2), (w.heap.size, o1)] pb y v w ((w1.alloc o1).alloc o2) := by
  have := ((RIm.start h0 h).alloc o1).alloc o2
  rwa [size_alloc, hs] at this
set_option maxHeartbeats 1000000 in
theorem rnext_fl (w : World) (pb : Nat) (x : Sd) (v : Value) (h : RAt w pb x v) (hl : x.fl = true) :
    Calls Try.prog 26 #[ptr pb] w fun e w' => e = .returned (.tuple #[fmv noFm, .bool false]) ∧ RDo pb x v w w' := by
  have H := Lib.hid h
  have hlt := h.lt
  have c16 := h.cell 16 (.bool x.fl) rfl
  rw [hl] at c16
  have HN : Hid ((w.alloc noF).heap[w.heap.size]? = some (fmO noFm)) := Lib.hid (nest w [noF] 0 _ rfl)
  clear h
  go_enter Try.func26, Try.ntmps26
  go_wp2
  exact bodyPost_ret (res_fmb rfl rfl _ _ _ noFm false HN.out rfl rfl) rfl ⟨rfl, (RDo.refl H.out).on (nest_below w [noF])⟩
set_option maxHeartbeats 4000000 in
set_option maxRecDepth 100000 in
theorem rnext_dueb (w : World) (pb : Nat) (x : Sd) (v : Value) (h : RAt w pb x v) (hf : Fit x) (hl : x.fl = false) (hb : x.bu = true) (hd : x.due = true) :
    Calls Try.prog 26 #[ptr pb] w fun e w' => e = .returned (.tuple #[fmv ⟨false, 9, x.fin, 0, x.g % 8, bE⟩, .bool true]) ∧ RDo pb (cnt false { x with due := false, fin := false, rej := false }) v w w' := by
  have H := Lib.hid h
  have hlt := h.lt
  have hfr := h.free
  obtain ⟨r, hr⟩ : ∃ r, x.g % 8 = r := ⟨_, rfl⟩
  have r8 : (x.g : Int) % 8 = (r : Int) := by omega
  have rw8 : IntKind.u8.wrap (r : Int) = (r : Int) := by rw [IntKind.wrap_u8]; omega
  have hg := hf.g
  have c7 := h.cell 7 (.int .i64 (x.g : Int)) rfl
  have c8 := h.cell 8 (.bool x.due) rfl
  have c9 := h.cell 9 (.bool x.fin) rfl
  have c10 := h.cell 10 (.bool x.rej) rfl
  have c13 := h.cell 13 (.bool x.bu) rfl
  have c16 := h.cell 16 (.bool x.fl) rfl
  rw [hl] at c16
  rw [hb] at c13
  rw [hd] at c8
  rw [hr]
  have hfin : Fit { x with due := false, fin := false, rej := false } := ⟨hf.k, hf.n2, hf.t1, hf.t1p, hf.hs, hf.sT, hf.tp, hf.pk, hf.few, hf.g, hf.tr, hf.lf⟩
  have HC : Hid (RIm [(w.heap.size + 1, (.cells #[.int .u8 0, .bool false, .int .u8 9, .bool x.fin, .int .u8 0, .int .u8 (r : Int), .string ⟨#[]⟩] TF (0, 0))), (w.heap.size, noF)] pb { x with due := false, fin := false, rej := false } v w (((((w.setCell ⟨pb, 8, none⟩ (.bool false)).setCell ⟨pb, 9, none⟩ (.bool false)).setCell ⟨pb, 10, none⟩ (.bool false)).alloc noF).alloc (.cells #[.int .u8 0, .bool false, .int .u8 9, .bool x.fin, .int .u8 0, .int .u8 (r : Int), .string ⟨#[]⟩] TF (0, 0)))) := Lib.hid (RIm.made1 h ((((RDo.refl h).set 8 (.bool false) { x with due := false } rfl rfl).set 9 (.bool false) { x with due := false, fin := false } rfl rfl).set 10 (.bool false) { x with due := false, fin := false, rej := false } rfl rfl) (by simp) _ _)
  have CC := Lib.hid (rcount _ pb _ v false HC.out.does.at_ hfin)
  clear h hf hr hfin H
  go_enter Try.func26, Try.ntmps26
  go_wp2_with fail
  refine CC.out.mono ?_
  rintro _ w6 ⟨rfl, hd⟩
  have H6 := Lib.hid (HC.out.next hd)
  clear hd HC CC hfr c7 c8 c9 c10 c13 c16
  obtain ⟨⟨l0, l1, l2, l3, l4, l5, l6⟩, lf⟩ := cells7 (show w6.heap[w.heap.size + 1]? = some (.cells #[.int .u8 0, .bool false, .int .u8 9, .bool x.fin, .int .u8 0, .int .u8 (r : Int), .string ⟨#[]⟩] TF (0, 0)) from H6.out.at0)
  obtain ⟨⟨k0, k1, k2, k3, k4, k5, k6⟩, kf⟩ := cells7 H6.out.tail.at0
  have HZ := Lib.hid (H6.out.swap.put7 (one_ne (by omega)) (.int .u8 0) (.bool false) (.int .u8 9) (.bool x.fin) (.int .u8 0) (.int .u8 (r : Int)) (.string ⟨#[]⟩))
  go_wp2
  exact bodyPost_ret (res_fmb rfl rfl _ _ _ ⟨false, 9, x.fin, 0, r, bE⟩ true HZ.out.at0 rfl rfl) rfl ⟨rfl, HZ.out.does⟩
set_option maxHeartbeats 4000000 in
set_option maxRecDepth 100000 in
theorem rnext_pollb (w : World) (pb : Nat) (x : Sd) (v : Value) (h : RAt w pb x v) (hf : Fit x) (hl : x.fl = false) (hb : x.bu = true) (hd : x.due = false) (hp : x.poll = true) :
    Calls Try.prog 26 #[ptr pb] w fun e w' => e = .returned (.tuple #[fmv ⟨true, 9, true, 0, x.g % 8, bE⟩, .bool true]) ∧ RDo pb (cnt false { x with poll := false }) v w w' := by
  have H := Lib.hid h
  have hlt := h.lt
  have hfr := h.free
  obtain ⟨r, hr⟩ : ∃ r, x.g % 8 = r := ⟨_, rfl⟩
  have r8 : (x.g : Int) % 8 = (r : Int) := by omega
  have rw8 : IntKind.u8.wrap (r : Int) = (r : Int) := by rw [IntKind.wrap_u8]; omega
  have hg := hf.g
  have c7 := h.cell 7 (.int .i64 (x.g : Int)) rfl
  have c8 := h.cell 8 (.bool x.due) rfl
  have c11 := h.cell 11 (.bool x.poll) rfl
  have c13 := h.cell 13 (.bool x.bu) rfl
  have c16 := h.cell 16 (.bool x.fl) rfl
  rw [hl] at c16
  rw [hb] at c13
  rw [hd] at c8
  rw [hp] at c11
  rw [hr]
  have hfin : Fit { x with poll := false } := ⟨hf.k, hf.n2, hf.t1, hf.t1p, hf.hs, hf.sT, hf.tp, hf.pk, hf.few, hf.g, hf.tr, hf.lf⟩
  have HC : Hid (RIm [(w.heap.size + 1, (.cells #[.int .u8 0, .bool true, .int .u8 9, .bool true, .int .u8 0, .int .u8 (r : Int), .string ⟨#[]⟩] TF (0, 0))), (w.heap.size, noF)] pb { x with poll := false } v w (((w.setCell ⟨pb, 11, none⟩ (.bool false)).alloc noF).alloc (.cells #[.int .u8 0, .bool true, .int .u8 9, .bool true, .int .u8 0, .int .u8 (r : Int), .string ⟨#[]⟩] TF (0, 0)))) := Lib.hid (RIm.made1 h ((RDo.refl h).set 11 (.bool false) { x with poll := false } rfl rfl) (by simp) _ _)
  have CC := Lib.hid (rcount _ pb _ v false HC.out.does.at_ hfin)
  clear h hf hr hfin H
  go_enter Try.func26, Try.ntmps26
  go_wp2_with fail
  refine CC.out.mono ?_
  rintro _ w6 ⟨rfl, hd⟩
  have H6 := Lib.hid (HC.out.next hd)
  clear hd HC CC hfr c7 c8 c11 c13 c16
  obtain ⟨⟨l0, l1, l2, l3, l4, l5, l6⟩, lf⟩ := cells7 (show w6.heap[w.heap.size + 1]? = some (.cells #[.int .u8 0, .bool true, .int .u8 9, .bool true, .int .u8 0, .int .u8 (r : Int), .string ⟨#[]⟩] TF (0, 0)) from H6.out.at0)
  obtain ⟨⟨k0, k1, k2, k3, k4, k5, k6⟩, kf⟩ := cells7 H6.out.tail.at0
  have HZ := Lib.hid (H6.out.swap.put7 (one_ne (by omega)) (.int .u8 0) (.bool true) (.int .u8 9) (.bool true) (.int .u8 0) (.int .u8 (r : Int)) (.string ⟨#[]⟩))
  go_wp2
  exact bodyPost_ret (res_fmb rfl rfl _ _ _ ⟨true, 9, true, 0, r, bE⟩ true HZ.out.at0 rfl rfl) rfl ⟨rfl, HZ.out.does⟩
set_option maxHeartbeats 4000000 in
set_option maxRecDepth 100000 in
theorem rnext_pbb (w : World) (pb : Nat) (x : Sd) (v : Value) (h : RAt w pb x v) (hf : Fit x) (hl : x.fl = false) (hb : x.bu = true) (hd : x.due = false) (hp : x.poll = false) (hpb : x.pb = true) :
    Calls Try.prog 26 #[ptr pb] w fun e w' => e = .returned (.tuple #[fmv noFm, .bool false]) ∧ RDo pb x v w w' := by
  obtain ⟨oa, cap, rfl⟩ := h.q.form
  have c3 := h.cell 3 (.slice oa x.p.length cap) rfl
  have H := Lib.hid h
  have hlt := h.lt
  have hfr := h.free
  obtain ⟨r, hr⟩ : ∃ r, x.g % 8 = r := ⟨_, rfl⟩
  have r8 : (x.g : Int) % 8 = (r : Int) := by omega
  have rw8 : IntKind.u8.wrap (r : Int) = (r : Int) := by rw [IntKind.wrap_u8]; omega
  have hg := hf.g
  have c7 := h.cell 7 (.int .i64 (x.g : Int)) rfl
  have c8 := h.cell 8 (.bool x.due) rfl
  have c11 := h.cell 11 (.bool x.poll) rfl
  have c13 := h.cell 13 (.bool x.bu) rfl
  have c16 := h.cell 16 (.bool x.fl) rfl
  have c12 := h.cell 12 (.bool x.pb) rfl
  have c15 := h.cell 15 (.bool x.ak) rfl
  have c5 := h.cell 5 (.int .i64 (x.s : Int)) rfl
  rw [hl] at c16
  rw [hb] at c13
  rw [hd] at c8
  rw [hp] at c11
  rw [hpb] at c12
  obtain ⟨np, hnp⟩ : ∃ np, x.p.length = np := ⟨_, rfl⟩
  rw [hnp] at c3
  have H1 : Hid (RIm [(w.heap.size + 1, (.cells #[.int .u8 0, .bool false, .int .u8 9, .bool false, .int .u8 0, .int .u8 (r : Int), .string ⟨#[]⟩] TF (0, 0))), (w.heap.size, noF)] pb x (.slice oa x.p.length cap) w ((w.alloc noF).alloc (.cells #[.int .u8 0, .bool false, .int .u8 9, .bool false, .int .u8 0, .int .u8 (r : Int), .string ⟨#[]⟩] TF (0, 0)))) := Lib.hid (RIm.made1 h (RDo.refl h) rfl _ _)
  clear h hf hr hnp
  go_enter Try.func26, Try.ntmps26
  go_wp2_with fail
  go_quiet (fail)
  have H2 := Lib.hid (H1.out.drewN nq)
  generalize ((w.alloc noF).alloc (.cells #[.int .u8 0, .bool false, .int .u8 9, .bool false, .int .u8 0, .int .u8 (r : Int), .string ⟨#[]⟩] TF (0, 0))).drewN nq = w2 at H2 ⊢
  clear H1 hfr H c7 c8 c11 c13 c16 c12 c15 c5 c3
  obtain ⟨⟨k0, k1, k2, k3, k4, k5, k6⟩, kf⟩ := cells7 H2.out.tail.at0
  have HZ := Lib.hid (H2.out.swap.put7 (one_ne (by omega)) (.int .u8 0) (.bool false) (.int .u8 0) (.bool false) (.int .u8 0) (.int .u8 0) (.string ⟨#[]⟩))
  go_wp2
  exact bodyPost_ret (res_fmb rfl rfl _ _ _ noFm false HZ.out.at0 rfl rfl) rfl ⟨rfl, HZ.out.does⟩
set_option maxHeartbeats 4000000 in
set_option maxRecDepth 100000 in
theorem rnext_akb (w : World) (pb : Nat) (x : Sd) (v : Value) (h : RAt w pb x v) (hf : Fit x) (hl : x.fl = false) (hb : x.bu = true) (hd : x.due = false) (hp : x.poll = false) (hpb : x.pb = false) (hak : x.ak = true) :
    Calls Try.prog 26 #[ptr pb] w fun e w' => e = .returned (.tuple #[fmv noFm, .bool false]) ∧ RDo pb x v w w' := by
  obtain ⟨oa, cap, rfl⟩ := h.q.form
  have c3 := h.cell 3 (.slice oa x.p.length cap) rfl
  have H := Lib.hid h
  have hlt := h.lt
  have hfr := h.free
  obtain ⟨r, hr⟩ : ∃ r, x.g % 8 = r := ⟨_, rfl⟩
  have r8 : (x.g : Int) % 8 = (r : Int) := by omega
  have rw8 : IntKind.u8.wrap (r : Int) = (r : Int) := by rw [IntKind.wrap_u8]; omega
  have hg := hf.g
  have c7 := h.cell 7 (.int .i64 (x.g : Int)) rfl
  have c8 := h.cell 8 (.bool x.due) rfl
  have c11 := h.cell 11 (.bool x.poll) rfl
  have c13 := h.cell 13 (.bool x.bu) rfl
  have c16 := h.cell 16 (.bool x.fl) rfl
  have c12 := h.cell 12 (.bool x.pb) rfl
  have c15 := h.cell 15 (.bool x.ak) rfl
  have c5 := h.cell 5 (.int .i64 (x.s : Int)) rfl
  rw [hl] at c16
  rw [hb] at c13
  rw [hd] at c8
  rw [hp] at c11
  rw [hpb] at c12
  rw [hak] at c15
  obtain ⟨np, hnp⟩ : ∃ np, x.p.length = np := ⟨_, rfl⟩
  rw [hnp] at c3
  have H1 : Hid (RIm [(w.heap.size + 1, (.cells #[.int .u8 0, .bool false, .int .u8 9, .bool false, .int .u8 0, .int .u8 (r : Int), .string ⟨#[]⟩] TF (0, 0))), (w.heap.size, noF)] pb x (.slice oa x.p.length cap) w ((w.alloc noF).alloc (.cells #[.int .u8 0, .bool false, .int .u8 9, .bool false, .int .u8 0, .int .u8 (r : Int), .string ⟨#[]⟩] TF (0, 0)))) := Lib.hid (RIm.made1 h (RDo.refl h) rfl _ _)
  clear h hf hr hnp
  go_enter Try.func26, Try.ntmps26
  go_wp2_with fail
  go_quiet (fail)
  have H2 := Lib.hid (H1.out.drewN nq)
  generalize ((w.alloc noF).alloc (.cells #[.int .u8 0, .bool false, .int .u8 9, .bool false, .int .u8 0, .int .u8 (r : Int), .string ⟨#[]⟩] TF (0, 0))).drewN nq = w2 at H2 ⊢
  clear H1 hfr H c7 c8 c11 c13 c16 c12 c15 c5 c3
  obtain ⟨⟨k0, k1, k2, k3, k4, k5, k6⟩, kf⟩ := cells7 H2.out.tail.at0
  have HZ := Lib.hid (H2.out.swap.put7 (one_ne (by omega)) (.int .u8 0) (.bool false) (.int .u8 0) (.bool false) (.int .u8 0) (.int .u8 0) (.string ⟨#[]⟩))
  go_wp2
  exact bodyPost_ret (res_fmb rfl rfl _ _ _ noFm false HZ.out.at0 rfl rfl) rfl ⟨rfl, HZ.out.does⟩
set_option maxHeartbeats 4000000 in
set_option maxRecDepth 100000 in
theorem rnext_nob (w : World) (pb : Nat) (x : Sd) (v : Value) (h : RAt w pb x v) (hf : Fit x) (hl : x.fl = false) (hb : x.bu = true) (hd : x.due = false) (hp : x.poll = false) (hpb : x.pb = false) (hak : x.ak = false) (hm : ¬ x.s < x.p.length) :
    Calls Try.prog 26 #[ptr pb] w fun e w' => e = .returned (.tuple #[fmv noFm, .bool false]) ∧ RDo pb x v w w' := by
  obtain ⟨oa, cap, rfl⟩ := h.q.form
  have c3 := h.cell 3 (.slice oa x.p.length cap) rfl
  have H := Lib.hid h
  have hlt := h.lt
  have hfr := h.free
  obtain ⟨r, hr⟩ : ∃ r, x.g % 8 = r := ⟨_, rfl⟩
  have r8 : (x.g : Int) % 8 = (r : Int) := by omega
  have rw8 : IntKind.u8.wrap (r : Int) = (r : Int) := by rw [IntKind.wrap_u8]; omega
  have hg := hf.g
  have c7 := h.cell 7 (.int .i64 (x.g : Int)) rfl
  have c8 := h.cell 8 (.bool x.due) rfl
  have c11 := h.cell 11 (.bool x.poll) rfl
  have c13 := h.cell 13 (.bool x.bu) rfl
  have c16 := h.cell 16 (.bool x.fl) rfl
  have c12 := h.cell 12 (.bool x.pb) rfl
  have c15 := h.cell 15 (.bool x.ak) rfl
  have c5 := h.cell 5 (.int .i64 (x.s : Int)) rfl
  rw [hl] at c16
  rw [hb] at c13
  rw [hd] at c8
  rw [hp] at c11
  rw [hpb] at c12
  rw [hak] at c15
  obtain ⟨np, hnp⟩ : ∃ np, x.p.length = np := ⟨_, rfl⟩
  rw [hnp] at c3
  obtain ⟨ns, hns⟩ : ∃ ns, x.s = ns := ⟨_, rfl⟩
  rw [hns] at c5
  have g0 : decide ((ns : Int) < (np : Int)) = false := decide_eq_false (by omega)
  have g0b : decide (ns < np) = false := decide_eq_false (by omega)
  have H1 : Hid (RIm [(w.heap.size + 1, (.cells #[.int .u8 0, .bool false, .int .u8 9, .bool false, .int .u8 0, .int .u8 (r : Int), .string ⟨#[]⟩] TF (0, 0))), (w.heap.size, noF)] pb x (.slice oa x.p.length cap) w ((w.alloc noF).alloc (.cells #[.int .u8 0, .bool false, .int .u8 9, .bool false, .int .u8 0, .int .u8 (r : Int), .string ⟨#[]⟩] TF (0, 0)))) := Lib.hid (RIm.made1 h (RDo.refl h) rfl _ _)
  clear h hf hr hnp hns hm
  go_enter Try.func26, Try.ntmps26
  go_wp2_with fail
  go_quiet (fail)
  have H2 := Lib.hid (H1.out.drewN nq)
  generalize ((w.alloc noF).alloc (.cells #[.int .u8 0, .bool false, .int .u8 9, .bool false, .int .u8 0, .int .u8 (r : Int), .string ⟨#[]⟩] TF (0, 0))).drewN nq = w2 at H2 ⊢
  clear H1 hfr H c7 c8 c11 c13 c16 c12 c15 c5 c3
  obtain ⟨⟨k0, k1, k2, k3, k4, k5, k6⟩, kf⟩ := cells7 H2.out.tail.at0
  have HZ := Lib.hid (H2.out.swap.put7 (one_ne (by omega)) (.int .u8 0) (.bool false) (.int .u8 0) (.bool false) (.int .u8 0) (.int .u8 0) (.string ⟨#[]⟩))
  go_wp2
  exact bodyPost_ret (res_fmb rfl rfl _ _ _ noFm false HZ.out.at0 rfl rfl) rfl ⟨rfl, HZ.out.does⟩
set_option maxHeartbeats 4000000 in
set_option maxRecDepth 100000 in
theorem rnext_moreb (w : World) (pb : Nat) (x : Sd) (v : Value) (h : RAt w pb x v) (hf : Fit x) (hl : x.fl = false) (hb : x.bu = true) (hd : x.due = false) (hp : x.poll = false) (hpb : x.pb = false) (hak : x.ak = false) (hm : x.s < x.p.length) :
    Calls Try.prog 26 #[ptr pb] w fun e w' => e = .returned (.tuple #[fmv ⟨true, 7, false, x.s % 8, x.g % 8, x.p.getD x.s bE⟩, .bool true]) ∧ RDo pb (cnt false { x with s := x.s + 1, T := max x.T (x.s + 1) }) v w w' := by
  rcases h.q with ⟨_, hq0⟩ | ⟨gb, go, cap, rfl, hgl, hR⟩
  · rw [hq0] at hm; exact absurd hm (Nat.not_lt_zero _)
  have c3 := h.cell 3 (.slice (some ⟨gb, go, none⟩) x.p.length cap) rfl
  have H := Lib.hid h
  have hlt := h.lt
  have hfr := h.free
  obtain ⟨r, hr⟩ : ∃ r, x.g % 8 = r := ⟨_, rfl⟩
  have r8 : (x.g : Int) % 8 = (r : Int) := by omega
  have rw8 : IntKind.u8.wrap (r : Int) = (r : Int) := by rw [IntKind.wrap_u8]; omega
  have hg := hf.g
  have c7 := h.cell 7 (.int .i64 (x.g : Int)) rfl
  have c8 := h.cell 8 (.bool x.due) rfl
  have c11 := h.cell 11 (.bool x.poll) rfl
  have c13 := h.cell 13 (.bool x.bu) rfl
  have c16 := h.cell 16 (.bool x.fl) rfl
  have c12 := h.cell 12 (.bool x.pb) rfl
  have c15 := h.cell 15 (.bool x.ak) rfl
  have c5 := h.cell 5 (.int .i64 (x.s : Int)) rfl
  rw [hl] at c16
  rw [hb] at c13
  rw [hd] at c8
  rw [hp] at c11
  rw [hpb] at c12
  rw [hak] at c15
  obtain ⟨st, hst⟩ : ∃ st, x.p.getD x.s bE = st := ⟨_, rfl⟩
  have hxs : x.p[x.s]? = some st := by
    rw [← hst, List.getD_eq_getElem?_getD, List.getElem?_eq_getElem hm]; rfl
  have hgs : w.cell? ⟨gb, go + x.s, none⟩ = some (.string st) := by
    have := hR.cell x.s st hxs 0 (by decide)
    rwa [show go + (1 * x.s + 0) = go + x.s by omega] at this
  have HG : Hid (∀ w', Below w.heap.size w w' → w'.cell? ⟨gb, go + x.s, none⟩ = some (.string st)) := Lib.hid fun w' hb => cell_below hgs hb
  have hgw := hR.lt
  obtain ⟨np, hnp⟩ : ∃ np, x.p.length = np := ⟨_, rfl⟩
  have HNP := Lib.hid hnp
  rw [hnp] at c3 hm
  have hsb : x.s ≤ 1000000 := by have := hf.few; omega
  have hTb : x.T ≤ 1000000 := by have := hf.tp; have := hf.few; omega
  have hfin : Fit { x with s := x.s + 1, T := max x.T (x.s + 1) } := ⟨hf.k, hf.n2, hf.t1, hf.t1p, by have := hf.hs; dsimp only; omega, by dsimp only; omega, by have := hf.tp; dsimp only; omega, hf.pk, hf.few, hf.g, hf.tr, hf.lf⟩
  have HF := Lib.hid hfin
  obtain ⟨ns, hns⟩ : ∃ ns, x.s = ns := ⟨_, rfl⟩
  have HNS := Lib.hid hns
  rw [hns] at c5 hm hsb HG
  have g0 : decide ((ns : Int) < (np : Int)) = true := decide_eq_true (by omega)
  have g0b : decide (ns < np) = true := decide_eq_true hm
  have j1 : (ns : Int) < (np : Int) := by omega
  have j0 : (0 : Int) ≤ (ns : Int) := by omega
  obtain ⟨rs, hrs⟩ : ∃ rs, ns % 8 = rs := ⟨_, rfl⟩
  have s8 : (ns : Int) % 8 = (rs : Int) := by omega
  have s8t : (ns : Int).tmod 8 = (rs : Int) := by rw [Int.tmod_eq_emod_of_nonneg (by omega)]; exact s8
  have r8t : (x.g : Int).tmod 8 = (r : Int) := by rw [Int.tmod_eq_emod_of_nonneg (by omega)]; exact r8
  have sw8 : IntKind.u8.wrap (rs : Int) = (rs : Int) := by rw [IntKind.wrap_u8]; omega
  obtain ⟨n1, hn1⟩ : ∃ n1, ns + 1 = n1 := ⟨_, rfl⟩
  obtain ⟨T1, hT1⟩ : ∃ T1, x.T = T1 := ⟨_, rfl⟩
  obtain ⟨mx, hmx⟩ : ∃ mx, max T1 n1 = mx := ⟨_, rfl⟩
  have q1 : IntKind.i64.wrap ((ns : Int) + 1) = (n1 : Int) := by rw [IntKind.wrap_i64]; omega
  have q2 : max (T1 : Int) (n1 : Int) = (mx : Int) := by omega
  have q3 : max T1 n1 = mx := hmx
  have HT1 := Lib.hid hT1
  have HXF : Hid (({ x with s := n1, T := mx } : Sd) = { x with s := x.s + 1, T := max x.T (x.s + 1) }) := by
    show _ = _
    rw [hns, hn1, hT1, hmx]
  have H1 : Hid (RIm [(w.heap.size + 1, (.cells #[.int .u8 0, .bool false, .int .u8 9, .bool false, .int .u8 0, .int .u8 (r : Int), .string ⟨#[]⟩] TF (0, 0))), (w.heap.size, noF)] pb x (.slice (some ⟨gb, go, none⟩) np cap) w ((w.alloc noF).alloc (.cells #[.int .u8 0, .bool false, .int .u8 9, .bool false, .int .u8 0, .int .u8 (r : Int), .string ⟨#[]⟩] TF (0, 0)))) := Lib.hid (by rw [← hnp]; exact RIm.made1 h (RDo.refl h) rfl _ _)
  rw [hst, hns, hrs, hr, hnp]
  rw [hn1, hT1, hmx]
  rw [hns, hn1, hT1, hmx] at HF
  have hlt2 := h.lt
  clear h hf hr hnp hns hxs hgs hst hrs hn1 hT1 hmx hfin hR hgl H hTb HXF
  go_enter Try.func26, Try.ntmps26
  go_wp2_with fail
  go_quiet (fail)
  have H2 := Lib.hid (H1.out.drewN nq)
  have hg1 := HG.out _ (below_on (nest_below w [noF, (.cells #[.int .u8 0, .bool false, .int .u8 9, .bool false, .int .u8 0, .int .u8 (r : Int), .string ⟨#[]⟩] TF (0, 0))]) (show Below ((w.alloc noF).alloc (.cells #[.int .u8 0, .bool false, .int .u8 9, .bool false, .int .u8 0, .int .u8 (r : Int), .string ⟨#[]⟩] TF (0, 0))).heap.size ((w.alloc noF).alloc (.cells #[.int .u8 0, .bool false, .int .u8 9, .bool false, .int .u8 0, .int .u8 (r : Int), .string ⟨#[]⟩] TF (0, 0))) (((w.alloc noF).alloc (.cells #[.int .u8 0, .bool false, .int .u8 9, .bool false, .int .u8 0, .int .u8 (r : Int), .string ⟨#[]⟩] TF (0, 0))).drewN nq) from ⟨rfl, rfl, rfl, Nat.le_refl _, fun _ _ => rfl⟩))
  generalize ((w.alloc noF).alloc (.cells #[.int .u8 0, .bool false, .int .u8 9, .bool false, .int .u8 0, .int .u8 (r : Int), .string ⟨#[]⟩] TF (0, 0))).drewN nq = w2 at H2 hg1 ⊢
  clear H1 hfr c7 c8 c11 c13 c16 c12 c15 c5 c3
  go_wp2_with fail
  have H3 := Lib.hid H2.out.drew
  have hg3 : w2.drew.cell? ⟨gb, go + ns, none⟩ = some (.string st) := hg1
  clear H2 hg1
  refine wp_region_held_drew (S := (fun w' => RIm [(w.heap.size, noF)] pb x (.slice (some ⟨gb, go, none⟩) np cap) w w' ∧ w'.cell? ⟨gb, go + ns, none⟩ = some (.string st))) (by kernel_rfl) ⟨H3.out.tail, hg3⟩ (fun hHeld => ?_)
  refine' tk 0 ⟨some 89, .move (.tmp 0), 30, "ref.go:92", #[], none⟩ ?_
  simp only [Act.put, z1', z2', z3']
  refine' tk 1 ⟨some 90, .nilCheck (.tmp 89), 0, "ref.go:92", #[⟨0, .data⟩], none⟩ ?_
  simp only [Act.put, z1', z2', z3']
  refine' tk 2 ⟨some 91, .fieldAddr 69 (.tmp 90) 5, 0, "ref.go:92", #[⟨1, .data⟩], none⟩ ?_
  simp only [Act.put, z1', z2', z3']
  refine' tv 3 ⟨some 92, .load 3 (.tmp 91), 3, "ref.go:92", #[⟨2, .data⟩], none⟩ ?hy4 ?hr4
  case hy4 => (intro _ hSw; (try dsimp only at hSw); have hc := hSw.1.does.at_.cell 5 (.int .i64 (x.s : Int)) rfl; rw [HNS.out] at hc; go_simp <;> with_reducible rfl)
  simp only [Act.put, z1', z2', z3']
  refine' tk 4 ⟨some 93, .binOp .rem 3 (.tmp 92) (.const (.int .i64 8)) 3, 3, "ref.go:92", #[⟨3, .data⟩], none⟩ ?_
  simp only [Act.put, z1', z2', z3']
  refine' tk 5 ⟨some 94, .convert 3 5 (.tmp 93), 5, "ref.go:92", #[⟨4, .data⟩], none⟩ ?_
  simp only [Act.put, z1', z2', z3']
  refine' tk 6 ⟨some 95, .move (.tmp 0), 30, "ref.go:92", #[], none⟩ ?_
  simp only [Act.put, z1', z2', z3']
  refine' tk 7 ⟨some 96, .nilCheck (.tmp 95), 0, "ref.go:92", #[⟨6, .data⟩], none⟩ ?_
  simp only [Act.put, z1', z2', z3']
  refine' tk 8 ⟨some 97, .fieldAddr 69 (.tmp 96) 7, 0, "ref.go:92", #[⟨7, .data⟩], none⟩ ?_
  simp only [Act.put, z1', z2', z3']
  refine' tv 9 ⟨some 98, .load 3 (.tmp 97), 3, "ref.go:92", #[⟨8, .data⟩], none⟩ ?hy10 ?hr10
  case hy10 => (intro _ hSw; (try dsimp only at hSw); have hc := hSw.1.does.at_.cell 7 (.int .i64 (x.g : Int)) rfl; go_simp <;> with_reducible rfl)
  simp only [Act.put, z1', z2', z3']
  refine' tk 10 ⟨some 99, .binOp .rem 3 (.tmp 98) (.const (.int .i64 8)) 3, 3, "ref.go:92", #[⟨9, .data⟩], none⟩ ?_
  simp only [Act.put, z1', z2', z3']
  refine' tk 11 ⟨some 100, .convert 3 5 (.tmp 99), 5, "ref.go:92", #[⟨10, .data⟩], none⟩ ?_
  simp only [Act.put, z1', z2', z3']
  refine' tk 12 ⟨some 101, .move (.tmp 0), 30, "ref.go:92", #[], none⟩ ?_
  simp only [Act.put, z1', z2', z3']
  refine' tk 13 ⟨some 102, .nilCheck (.tmp 101), 0, "ref.go:92", #[⟨12, .data⟩], none⟩ ?_
  simp only [Act.put, z1', z2', z3']
  refine' tk 14 ⟨some 103, .fieldAddr 69 (.tmp 102) 3, 0, "ref.go:92", #[⟨13, .data⟩], none⟩ ?_
  simp only [Act.put, z1', z2', z3']
  refine' tv 15 ⟨some 104, .load 63 (.tmp 103), 63, "ref.go:92", #[⟨14, .data⟩], none⟩ ?hy16 ?hr16
  case hy16 => (intro _ hSw; (try dsimp only at hSw); have hc := hSw.1.does.at_.cell 3 (.slice (some ⟨gb, go, none⟩) np cap) rfl; go_simp <;> with_reducible rfl)
  simp only [Act.put, z1', z2', z3']
  refine' tk 16 ⟨some 105, .move (.tmp 0), 30, "ref.go:92", #[], none⟩ ?_
  simp only [Act.put, z1', z2', z3']
  refine' tk 17 ⟨some 106, .nilCheck (.tmp 105), 0, "ref.go:92", #[⟨16, .data⟩], none⟩ ?_
  simp only [Act.put, z1', z2', z3']
  refine' tk 18 ⟨some 107, .fieldAddr 69 (.tmp 106) 5, 0, "ref.go:92", #[⟨17, .data⟩], none⟩ ?_
  simp only [Act.put, z1', z2', z3']
  refine' tv 19 ⟨some 108, .load 3 (.tmp 107), 3, "ref.go:92", #[⟨18, .data⟩], none⟩ ?hy20 ?hr20
  case hy20 => (intro _ hSw; (try dsimp only at hSw); have hc := hSw.1.does.at_.cell 5 (.int .i64 (x.s : Int)) rfl; rw [HNS.out] at hc; go_simp <;> with_reducible rfl)
  simp only [Act.put, z1', z2', z3']
  refine' tk 20 ⟨some 109, .indexAddr 63 (.tmp 104) (.tmp 108), 0, "ref.go:92", #[⟨15, .data⟩, ⟨19, .data⟩], none⟩ ?_
  simp only [Act.put, z1', z2', z3']
  refine' tv 21 ⟨some 110, .load 9 (.tmp 109), 9, "ref.go:92", #[⟨20, .data⟩], none⟩ ?hy22 ?hr22
  case hy22 => (intro _ hSw; (try dsimp only at hSw); have hc := hSw.2; go_simp <;> with_reducible rfl)
  simp only [Act.put, z1', z2', z3']
  refine' tk 22 ⟨some 111, .build 25 #[(1, .const (.bool true)), (2, .const (.int .u8 7)), (4, .tmp 94), (5, .tmp 100), (6, .tmp 110)], 25, "ref.go:92", #[⟨5, .data⟩, ⟨11, .data⟩, ⟨21, .data⟩], none⟩ ?_
  simp only [Act.put, z1', z2', z3']
  clear hHeld
  have hg4 : w2.drew.cell? ⟨gb, go + ns, none⟩ = some (.string st) := hg3
  clear hg3
  generalize w2.drew = w3 at H3 hg4 ⊢
  obtain ⟨⟨z0, z1, z2, z3, z4, z5, z6⟩, zf⟩ := cells7 (show w3.heap[w.heap.size + 1]? = some (.cells #[.int .u8 0, .bool false, .int .u8 9, .bool false, .int .u8 0, .int .u8 (r : Int), .string ⟨#[]⟩] TF (0, 0)) from H3.out.at0)
  have HE : Hid (RIm [(w.heap.size + 1, (.cells #[.int .u8 0, .bool true, .int .u8 7, .bool false, .int .u8 (rs : Int), .int .u8 (r : Int), .string st] TF (0, 0))), (w.heap.size, noF)] pb x (.slice (some ⟨gb, go, none⟩) np cap) w (((((((w3.setCell ⟨w.heap.size + 1, 0, none⟩ (.int .u8 0)).setCell ⟨w.heap.size + 1, 1, none⟩ (.bool true)).setCell ⟨w.heap.size + 1, 2, none⟩ (.int .u8 7)).setCell ⟨w.heap.size + 1, 3, none⟩ (.bool false)).setCell ⟨w.heap.size + 1, 4, none⟩ (.int .u8 (rs : Int))).setCell ⟨w.heap.size + 1, 5, none⟩ (.int .u8 (r : Int))).setCell ⟨w.heap.size + 1, 6, none⟩ (.string st))) := Lib.hid (H3.out.put7 (one_ne (by omega)) _ _ _ _ _ _ _)
  have hne : gb ≠ w.heap.size + 1 := by omega
  have hg5 : ((((((((w3.setCell ⟨w.heap.size + 1, 0, none⟩ (.int .u8 0)).setCell ⟨w.heap.size + 1, 1, none⟩ (.bool true)).setCell ⟨w.heap.size + 1, 2, none⟩ (.int .u8 7)).setCell ⟨w.heap.size + 1, 3, none⟩ (.bool false)).setCell ⟨w.heap.size + 1, 4, none⟩ (.int .u8 (rs : Int))).setCell ⟨w.heap.size + 1, 5, none⟩ (.int .u8 (r : Int))).setCell ⟨w.heap.size + 1, 6, none⟩ (.string st))).cell? ⟨gb, go + ns, none⟩ = some (.string st) := (World.cell?_of_block (a := ⟨gb, go + ns, none⟩) ((chg_set7 (S := fun k => k = w.heap.size + 1) (Chg.refl _ w3) (fun _ => rfl) _ _ _ _ _ _ _).block gb (World.block_lt_of_cell? w3 ⟨gb, go + ns, none⟩ hg4) hne)).trans hg4
  refine ry [23] ?_
  refine AllReadyH.cons rfl (fun K hK => ?_) AllReadyH.nil
  go_simp
  go_wp2_with fail
  refine hK.out _ _ ⟨HE.out.tail, hg5⟩ (fun hNext => ?_)
  clear hK K
  have hHeld := hNext
  clear hNext
  (try simp only [Act.put, z1', z2', z3'])
  refine wpAnyH_done (by kernel_rfl) ?_ _
  clear hHeld z0 z1 z2 z3 z4 z5 z6 zf hg4 hg5 H3 hne
  generalize (((((((w3.setCell ⟨w.heap.size + 1, 0, none⟩ (.int .u8 0)).setCell ⟨w.heap.size + 1, 1, none⟩ (.bool true)).setCell ⟨w.heap.size + 1, 2, none⟩ (.int .u8 7)).setCell ⟨w.heap.size + 1, 3, none⟩ (.bool false)).setCell ⟨w.heap.size + 1, 4, none⟩ (.int .u8 (rs : Int))).setCell ⟨w.heap.size + 1, 5, none⟩ (.int .u8 (r : Int))).setCell ⟨w.heap.size + 1, 6, none⟩ (.string st)) = w4 at HE ⊢
  have hpf := HE.out.does.at_.free
  have hpl := HE.out.lt
  have c5 := HE.out.does.at_.cell 5 (.int .i64 (x.s : Int)) rfl
  rw [HNS.out] at c5
  have HM := Lib.hid (HE.out.set 5 (.int .i64 (n1 : Int)) { x with s := n1 } rfl rfl)
  go_wp2_with fail
  generalize w4.setCell ⟨pb, 5, none⟩ (.int .i64 (n1 : Int)) = w5 at HM ⊢
  clear c5 hpf HE
  have d5 := HM.out.does.at_.cell 5 (.int .i64 (n1 : Int)) rfl
  have d6 := HM.out.does.at_.cell 6 (.int .i64 (x.T : Int)) rfl
  rw [HT1.out] at d6
  have hpf := HM.out.does.at_.free
  have hd2 : w5.drew.cell? ⟨pb, 5, none⟩ = some (.int .i64 (n1 : Int)) := d5
  refine wp_region_held_drew (S := (fun w' => w'.cell? ⟨pb, 5, none⟩ = some (.int .i64 (n1 : Int)))) (by kernel_rfl) hd2 (fun hHeld => ?_)
  refine' tk 0 ⟨some 119, .move (.tmp 0), 30, "ref.go:94", #[], none⟩ ?_
  simp only [Act.put, z1', z2', z3']
  refine' tk 1 ⟨some 120, .move (.tmp 0), 30, "ref.go:94", #[], none⟩ ?_
  simp only [Act.put, z1', z2', z3']
  refine' tk 2 ⟨some 121, .nilCheck (.tmp 120), 0, "ref.go:94", #[⟨1, .data⟩], none⟩ ?_
  simp only [Act.put, z1', z2', z3']
  refine' tk 3 ⟨some 122, .fieldAddr 69 (.tmp 121) 6, 0, "ref.go:94", #[⟨2, .data⟩], none⟩ ?_
  simp only [Act.put, z1', z2', z3']
  refine' tk 5 ⟨some 124, .move (.tmp 0), 30, "ref.go:94", #[], none⟩ ?_
  simp only [Act.put, z1', z2', z3']
  refine' tk 6 ⟨some 125, .nilCheck (.tmp 124), 0, "ref.go:94", #[⟨5, .data⟩], none⟩ ?_
  simp only [Act.put, z1', z2', z3']
  refine' tk 7 ⟨some 126, .fieldAddr 69 (.tmp 125) 5, 0, "ref.go:94", #[⟨6, .data⟩], none⟩ ?_
  simp only [Act.put, z1', z2', z3']
  refine' tv 8 ⟨some 127, .load 3 (.tmp 126), 3, "ref.go:94", #[⟨7, .data⟩], none⟩ ?hy31 ?hr31
  case hy31 => (intro _ hSw; (try dsimp only at hSw); have hc := hSw; go_simp <;> with_reducible rfl)
  simp only [Act.put, z1', z2', z3']
  refine ry [4] ?_
  refine AllReadyH.cons rfl (fun K hK => ?_) AllReadyH.nil
  go_simp
  go_wp2_with fail
  refine hK.out _ _ hd2 (fun hNext => ?_)
  clear hHeld
  clear hK K
  have hHeld := hNext
  clear hNext
  (try simp only [Act.put, z1', z2', z3'])
  refine ry [9] ?_
  refine AllReadyH.cons rfl (fun K hK => ?_) AllReadyH.nil
  go_simp
  go_wp2_with fail
  refine hK.out _ _ hd2 (fun hNext => ?_)
  clear hHeld
  clear hK K
  have hHeld := hNext
  clear hNext
  (try simp only [Act.put, z1', z2', z3'])
  refine' tk 10 ⟨some 129, .nilCheck (.tmp 119), 0, "ref.go:94", #[⟨0, .data⟩, ⟨0, .phase⟩, ⟨1, .phase⟩, ⟨2, .phase⟩, ⟨3, .phase⟩, ⟨4, .phase⟩, ⟨5, .phase⟩, ⟨6, .phase⟩, ⟨7, .phase⟩, ⟨8, .phase⟩, ⟨9, .phase⟩], none⟩ ?_
  simp only [Act.put, z1', z2', z3']
  refine' tk 11 ⟨some 130, .fieldAddr 69 (.tmp 129) 6, 0, "ref.go:94", #[⟨10, .data⟩, ⟨0, .phase⟩, ⟨1, .phase⟩, ⟨2, .phase⟩, ⟨3, .phase⟩, ⟨4, .phase⟩, ⟨5, .phase⟩, ⟨6, .phase⟩, ⟨7, .phase⟩, ⟨8, .phase⟩, ⟨9, .phase⟩], none⟩ ?_
  simp only [Act.put, z1', z2', z3']
  have HP := Lib.hid (HM.out.set 6 (.int .i64 (mx : Int)) { x with s := n1, T := mx } rfl rfl).drew
  refine ry [12] ?_
  refine AllReadyH.cons rfl (fun K hK => ?_) AllReadyH.nil
  go_simp
  go_wp2_with fail
  refine hK.out _ _ (HP.out.does.at_.cell 5 (.int .i64 (n1 : Int)) rfl) (fun hNext => ?_)
  clear hHeld
  clear hK K
  have hHeld := hNext
  clear hNext
  (try simp only [Act.put, z1', z2', z3'])
  refine wpAnyH_done (by kernel_rfl) ?_ _
  clear hHeld HM d5 d6 hpf hd2
  have CC := Lib.hid (rcount _ pb _ (.slice (some ⟨gb, go, none⟩) np cap) false HP.out.does.at_ HF.out)
  go_wp2_with fail
  refine CC.out.mono ?_
  rintro _ w6 ⟨rfl, hd2⟩
  have H6 := Lib.hid (HP.out.next hd2)
  clear hd2 HP CC
  obtain ⟨⟨l0, l1, l2, l3, l4, l5, l6⟩, lf⟩ := cells7 (show w6.heap[w.heap.size + 1]? = some (.cells #[.int .u8 0, .bool true, .int .u8 7, .bool false, .int .u8 (rs : Int), .int .u8 (r : Int), .string st] TF (0, 0)) from H6.out.at0)
  obtain ⟨⟨k0, k1, k2, k3, k4, k5, k6⟩, kf⟩ := cells7 H6.out.tail.at0
  have HZ := Lib.hid (H6.out.swap.put7 (one_ne (by omega)) (.int .u8 0) (.bool true) (.int .u8 7) (.bool false) (.int .u8 (rs : Int)) (.int .u8 (r : Int)) (.string st))
  go_wp2
  exact bodyPost_ret (res_fmb rfl rfl _ _ _ ⟨true, 7, false, rs, r, st⟩ true HZ.out.at0 rfl rfl) rfl ⟨rfl, HZ.out.does⟩
set_option maxHeartbeats 4000000 in
set_option maxRecDepth 100000 in
theorem rnext_duefr (w : World) (pb : Nat) (x : Sd) (v : Value) (h : RAt w pb x v) (hf : Fit x) (hl : x.fl = false) (hb : x.bu = false) (hd : x.due = true) (hj : x.rej = true) :
    Calls Try.prog 26 #[ptr pb] w fun e w' => e = .returned (.tuple #[fmv ⟨false, 10, x.fin, 0, x.g % 8, bE⟩, .bool true]) ∧ RDo pb (cnt false { x with due := false, fin := false, rej := false }) v w w' := by
  have H := Lib.hid h
  have hlt := h.lt
  have hfr := h.free
  obtain ⟨r, hr⟩ : ∃ r, x.g % 8 = r := ⟨_, rfl⟩
  have r8 : (x.g : Int) % 8 = (r : Int) := by omega
  have rw8 : IntKind.u8.wrap (r : Int) = (r : Int) := by rw [IntKind.wrap_u8]; omega
  have hg := hf.g
  have c7 := h.cell 7 (.int .i64 (x.g : Int)) rfl
  have c8 := h.cell 8 (.bool x.due) rfl
  have c9 := h.cell 9 (.bool x.fin) rfl
  have c10 := h.cell 10 (.bool x.rej) rfl
  have c13 := h.cell 13 (.bool x.bu) rfl
  have c16 := h.cell 16 (.bool x.fl) rfl
  rw [hl] at c16
  rw [hb] at c13
  rw [hd] at c8
  rw [hj] at c10
  rw [hr]
  have hfin : Fit { x with due := false, fin := false, rej := false } := ⟨hf.k, hf.n2, hf.t1, hf.t1p, hf.hs, hf.sT, hf.tp, hf.pk, hf.few, hf.g, hf.tr, hf.lf⟩
  have HC : Hid (RIm [(w.heap.size + 1, (.cells #[.int .u8 0, .bool false, .int .u8 10, .bool x.fin, .int .u8 0, .int .u8 (r : Int), .string ⟨#[]⟩] TF (0, 0))), (w.heap.size, noF)] pb { x with due := false, fin := false, rej := false } v w (((((w.setCell ⟨pb, 8, none⟩ (.bool false)).setCell ⟨pb, 9, none⟩ (.bool false)).setCell ⟨pb, 10, none⟩ (.bool false)).alloc noF).alloc (.cells #[.int .u8 0, .bool false, .int .u8 10, .bool x.fin, .int .u8 0, .int .u8 (r : Int), .string ⟨#[]⟩] TF (0, 0)))) := Lib.hid (RIm.made1 h ((((RDo.refl h).set 8 (.bool false) { x with due := false } rfl rfl).set 9 (.bool false) { x with due := false, fin := false } rfl rfl).set 10 (.bool false) { x with due := false, fin := false, rej := false } rfl rfl) (by simp) _ _)
  have CC := Lib.hid (rcount _ pb _ v false HC.out.does.at_ hfin)
  clear h hf hr hfin H
  go_enter Try.func26, Try.ntmps26
  go_wp2_with fail
  refine CC.out.mono ?_
  rintro _ w6 ⟨rfl, hd⟩
  have H6 := Lib.hid (HC.out.next hd)
  clear hd HC CC hfr c7 c8 c9 c10 c13 c16
  obtain ⟨⟨l0, l1, l2, l3, l4, l5, l6⟩, lf⟩ := cells7 (show w6.heap[w.heap.size + 1]? = some (.cells #[.int .u8 0, .bool false, .int .u8 10, .bool x.fin, .int .u8 0, .int .u8 (r : Int), .string ⟨#[]⟩] TF (0, 0)) from H6.out.at0)
  obtain ⟨⟨k0, k1, k2, k3, k4, k5, k6⟩, kf⟩ := cells7 H6.out.tail.at0
  have HZ := Lib.hid (H6.out.swap.put7 (one_ne (by omega)) (.int .u8 0) (.bool false) (.int .u8 10) (.bool x.fin) (.int .u8 0) (.int .u8 (r : Int)) (.string ⟨#[]⟩))
  go_wp2
  exact bodyPost_ret (res_fmb rfl rfl _ _ _ ⟨false, 10, x.fin, 0, r, bE⟩ true HZ.out.at0 rfl rfl) rfl ⟨rfl, HZ.out.does⟩
set_option maxHeartbeats 4000000 in
set_option maxRecDepth 100000 in
theorem rnext_duefn (w : World) (pb : Nat) (x : Sd) (v : Value) (h : RAt w pb x v) (hf : Fit x) (hl : x.fl = false) (hb : x.bu = false) (hd : x.due = true) (hj : x.rej = false) :
    Calls Try.prog 26 #[ptr pb] w fun e w' => e = .returned (.tuple #[fmv ⟨false, 8, x.fin, 0, x.g % 8, bE⟩, .bool true]) ∧ RDo pb (cnt false { x with due := false, fin := false, rej := false }) v w w' := by
  have H := Lib.hid h
  have hlt := h.lt
  have hfr := h.free
  obtain ⟨r, hr⟩ : ∃ r, x.g % 8 = r := ⟨_, rfl⟩
  have r8 : (x.g : Int) % 8 = (r : Int) := by omega
  have rw8 : IntKind.u8.wrap (r : Int) = (r : Int) := by rw [IntKind.wrap_u8]; omega
  have hg := hf.g
  have c7 := h.cell 7 (.int .i64 (x.g : Int)) rfl
  have c8 := h.cell 8 (.bool x.due) rfl
  have c9 := h.cell 9 (.bool x.fin) rfl
  have c10 := h.cell 10 (.bool x.rej) rfl
  have c13 := h.cell 13 (.bool x.bu) rfl
  have c16 := h.cell 16 (.bool x.fl) rfl
  rw [hl] at c16
  rw [hb] at c13
  rw [hd] at c8
  rw [hj] at c10
  rw [hr]
  have hfin : Fit { x with due := false, fin := false, rej := false } := ⟨hf.k, hf.n2, hf.t1, hf.t1p, hf.hs, hf.sT, hf.tp, hf.pk, hf.few, hf.g, hf.tr, hf.lf⟩
  have HC : Hid (RIm [(w.heap.size + 1, (.cells #[.int .u8 0, .bool false, .int .u8 8, .bool x.fin, .int .u8 0, .int .u8 (r : Int), .string ⟨#[]⟩] TF (0, 0))), (w.heap.size, noF)] pb { x with due := false, fin := false, rej := false } v w (((((w.setCell ⟨pb, 8, none⟩ (.bool false)).setCell ⟨pb, 9, none⟩ (.bool false)).setCell ⟨pb, 10, none⟩ (.bool false)).alloc noF).alloc (.cells #[.int .u8 0, .bool false, .int .u8 8, .bool x.fin, .int .u8 0, .int .u8 (r : Int), .string ⟨#[]⟩] TF (0, 0)))) := Lib.hid (RIm.made1 h ((((RDo.refl h).set 8 (.bool false) { x with due := false } rfl rfl).set 9 (.bool false) { x with due := false, fin := false } rfl rfl).set 10 (.bool false) { x with due := false, fin := false, rej := false } rfl rfl) (by simp) _ _)
  have CC := Lib.hid (rcount _ pb _ v false HC.out.does.at_ hfin)
  clear h hf hr hfin H
  go_enter Try.func26, Try.ntmps26
  go_wp2_with fail
  refine CC.out.mono ?_
  rintro _ w6 ⟨rfl, hd⟩
  have H6 := Lib.hid (HC.out.next hd)
  clear hd HC CC hfr c7 c8 c9 c10 c13 c16
  obtain ⟨⟨l0, l1, l2, l3, l4, l5, l6⟩, lf⟩ := cells7 (show w6.heap[w.heap.size + 1]? = some (.cells #[.int .u8 0, .bool false, .int .u8 8, .bool x.fin, .int .u8 0, .int .u8 (r : Int), .string ⟨#[]⟩] TF (0, 0)) from H6.out.at0)
  obtain ⟨⟨k0, k1, k2, k3, k4, k5, k6⟩, kf⟩ := cells7 H6.out.tail.at0
  have HZ := Lib.hid (H6.out.swap.put7 (one_ne (by omega)) (.int .u8 0) (.bool false) (.int .u8 8) (.bool x.fin) (.int .u8 0) (.int .u8 (r : Int)) (.string ⟨#[]⟩))
  go_wp2
  exact bodyPost_ret (res_fmb rfl rfl _ _ _ ⟨false, 8, x.fin, 0, r, bE⟩ true HZ.out.at0 rfl rfl) rfl ⟨rfl, HZ.out.does⟩
set_option maxHeartbeats 4000000 in
set_option maxRecDepth 100000 in
theorem rnext_pollf (w : World) (pb : Nat) (x : Sd) (v : Value) (h : RAt w pb x v) (hf : Fit x) (hl : x.fl = false) (hb : x.bu = false) (hd : x.due = false) (hp : x.poll = true) :
    Calls Try.prog 26 #[ptr pb] w fun e w' => e = .returned (.tuple #[fmv ⟨true, 8, true, 0, x.g % 8, bE⟩, .bool true]) ∧ RDo pb (cnt false { x with poll := false }) v w w' := by
  have H := Lib.hid h
  have hlt := h.lt
  have hfr := h.free
  obtain ⟨r, hr⟩ : ∃ r, x.g % 8 = r := ⟨_, rfl⟩
  have r8 : (x.g : Int) % 8 = (r : Int) := by omega
  have rw8 : IntKind.u8.wrap (r : Int) = (r : Int) := by rw [IntKind.wrap_u8]; omega
  have hg := hf.g
  have c7 := h.cell 7 (.int .i64 (x.g : Int)) rfl
  have c8 := h.cell 8 (.bool x.due) rfl
  have c11 := h.cell 11 (.bool x.poll) rfl
  have c13 := h.cell 13 (.bool x.bu) rfl
  have c16 := h.cell 16 (.bool x.fl) rfl
  rw [hl] at c16
  rw [hb] at c13
  rw [hd] at c8
  rw [hp] at c11
  rw [hr]
  have hfin : Fit { x with poll := false } := ⟨hf.k, hf.n2, hf.t1, hf.t1p, hf.hs, hf.sT, hf.tp, hf.pk, hf.few, hf.g, hf.tr, hf.lf⟩
  have HC : Hid (RIm [(w.heap.size + 1, (.cells #[.int .u8 0, .bool true, .int .u8 8, .bool true, .int .u8 0, .int .u8 (r : Int), .string ⟨#[]⟩] TF (0, 0))), (w.heap.size, noF)] pb { x with poll := false } v w (((w.setCell ⟨pb, 11, none⟩ (.bool false)).alloc noF).alloc (.cells #[.int .u8 0, .bool true, .int .u8 8, .bool true, .int .u8 0, .int .u8 (r : Int), .string ⟨#[]⟩] TF (0, 0)))) := Lib.hid (RIm.made1 h ((RDo.refl h).set 11 (.bool false) { x with poll := false } rfl rfl) (by simp) _ _)
  have CC := Lib.hid (rcount _ pb _ v false HC.out.does.at_ hfin)
  clear h hf hr hfin H
  go_enter Try.func26, Try.ntmps26
  go_wp2_with fail
  refine CC.out.mono ?_
  rintro _ w6 ⟨rfl, hd⟩
  have H6 := Lib.hid (HC.out.next hd)
  clear hd HC CC hfr c7 c8 c11 c13 c16
  obtain ⟨⟨l0, l1, l2, l3, l4, l5, l6⟩, lf⟩ := cells7 (show w6.heap[w.heap.size + 1]? = some (.cells #[.int .u8 0, .bool true, .int .u8 8, .bool true, .int .u8 0, .int .u8 (r : Int), .string ⟨#[]⟩] TF (0, 0)) from H6.out.at0)
  obtain ⟨⟨k0, k1, k2, k3, k4, k5, k6⟩, kf⟩ := cells7 H6.out.tail.at0
  have HZ := Lib.hid (H6.out.swap.put7 (one_ne (by omega)) (.int .u8 0) (.bool true) (.int .u8 8) (.bool true) (.int .u8 0) (.int .u8 (r : Int)) (.string ⟨#[]⟩))
  go_wp2
  exact bodyPost_ret (res_fmb rfl rfl _ _ _ ⟨true, 8, true, 0, r, bE⟩ true HZ.out.at0 rfl rfl) rfl ⟨rfl, HZ.out.does⟩
set_option maxHeartbeats 4000000 in
set_option maxRecDepth 100000 in
theorem rnext_pbf (w : World) (pb : Nat) (x : Sd) (v : Value) (h : RAt w pb x v) (hf : Fit x) (hl : x.fl = false) (hb : x.bu = false) (hd : x.due = false) (hp : x.poll = false) (hpb : x.pb = true) :
    Calls Try.prog 26 #[ptr pb] w fun e w' => e = .returned (.tuple #[fmv noFm, .bool false]) ∧ RDo pb x v w w' := by
  obtain ⟨oa, cap, rfl⟩ := h.q.form
  have c3 := h.cell 3 (.slice oa x.p.length cap) rfl
  have H := Lib.hid h
  have hlt := h.lt
  have hfr := h.free
  obtain ⟨r, hr⟩ : ∃ r, x.g % 8 = r := ⟨_, rfl⟩
  have r8 : (x.g : Int) % 8 = (r : Int) := by omega
  have rw8 : IntKind.u8.wrap (r : Int) = (r : Int) := by rw [IntKind.wrap_u8]; omega
  have hg := hf.g
  have c7 := h.cell 7 (.int .i64 (x.g : Int)) rfl
  have c8 := h.cell 8 (.bool x.due) rfl
  have c11 := h.cell 11 (.bool x.poll) rfl
  have c13 := h.cell 13 (.bool x.bu) rfl
  have c16 := h.cell 16 (.bool x.fl) rfl
  have c12 := h.cell 12 (.bool x.pb) rfl
  have c15 := h.cell 15 (.bool x.ak) rfl
  have c5 := h.cell 5 (.int .i64 (x.s : Int)) rfl
  rw [hl] at c16
  rw [hb] at c13
  rw [hd] at c8
  rw [hp] at c11
  rw [hpb] at c12
  obtain ⟨np, hnp⟩ : ∃ np, x.p.length = np := ⟨_, rfl⟩
  rw [hnp] at c3
  have H1 : Hid (RIm [(w.heap.size + 1, (.cells #[.int .u8 0, .bool false, .int .u8 8, .bool false, .int .u8 0, .int .u8 (r : Int), .string ⟨#[]⟩] TF (0, 0))), (w.heap.size, noF)] pb x (.slice oa x.p.length cap) w ((w.alloc noF).alloc (.cells #[.int .u8 0, .bool false, .int .u8 8, .bool false, .int .u8 0, .int .u8 (r : Int), .string ⟨#[]⟩] TF (0, 0)))) := Lib.hid (RIm.made1 h (RDo.refl h) rfl _ _)
  clear h hf hr hnp
  go_enter Try.func26, Try.ntmps26
  go_wp2_with fail
  go_quiet (fail)
  have H2 := Lib.hid (H1.out.drewN nq)
  generalize ((w.alloc noF).alloc (.cells #[.int .u8 0, .bool false, .int .u8 8, .bool false, .int .u8 0, .int .u8 (r : Int), .string ⟨#[]⟩] TF (0, 0))).drewN nq = w2 at H2 ⊢
  clear H1 hfr H c7 c8 c11 c13 c16 c12 c15 c5 c3
  obtain ⟨⟨k0, k1, k2, k3, k4, k5, k6⟩, kf⟩ := cells7 H2.out.tail.at0
  have HZ := Lib.hid (H2.out.swap.put7 (one_ne (by omega)) (.int .u8 0) (.bool false) (.int .u8 0) (.bool false) (.int .u8 0) (.int .u8 0) (.string ⟨#[]⟩))
  go_wp2
  exact bodyPost_ret (res_fmb rfl rfl _ _ _ noFm false HZ.out.at0 rfl rfl) rfl ⟨rfl, HZ.out.does⟩
set_option maxHeartbeats 4000000 in
set_option maxRecDepth 100000 in
theorem rnext_akf (w : World) (pb : Nat) (x : Sd) (v : Value) (h : RAt w pb x v) (hf : Fit x) (hl : x.fl = false) (hb : x.bu = false) (hd : x.due = false) (hp : x.poll = false) (hpb : x.pb = false) (hak : x.ak = true) :
    Calls Try.prog 26 #[ptr pb] w fun e w' => e = .returned (.tuple #[fmv noFm, .bool false]) ∧ RDo pb x v w w' := by
  obtain ⟨oa, cap, rfl⟩ := h.q.form
  have c3 := h.cell 3 (.slice oa x.p.length cap) rfl
  have H := Lib.hid h
  have hlt := h.lt
  have hfr := h.free
  obtain ⟨r, hr⟩ : ∃ r, x.g % 8 = r := ⟨_, rfl⟩
  have r8 : (x.g : Int) % 8 = (r : Int) := by omega
  have rw8 : IntKind.u8.wrap (r : Int) = (r : Int) := by rw [IntKind.wrap_u8]; omega
  have hg := hf.g
  have c7 := h.cell 7 (.int .i64 (x.g : Int)) rfl
  have c8 := h.cell 8 (.bool x.due) rfl
  have c11 := h.cell 11 (.bool x.poll) rfl
  have c13 := h.cell 13 (.bool x.bu) rfl
  have c16 := h.cell 16 (.bool x.fl) rfl
  have c12 := h.cell 12 (.bool x.pb) rfl
  have c15 := h.cell 15 (.bool x.ak) rfl
  have c5 := h.cell 5 (.int .i64 (x.s : Int)) rfl
  rw [hl] at c16
  rw [hb] at c13
  rw [hd] at c8
  rw [hp] at c11
  rw [hpb] at c12
  rw [hak] at c15
  obtain ⟨np, hnp⟩ : ∃ np, x.p.length = np := ⟨_, rfl⟩
  rw [hnp] at c3
  have H1 : Hid (RIm [(w.heap.size + 1, (.cells #[.int .u8 0, .bool false, .int .u8 8, .bool false, .int .u8 0, .int .u8 (r : Int), .string ⟨#[]⟩] TF (0, 0))), (w.heap.size, noF)] pb x (.slice oa x.p.length cap) w ((w.alloc noF).alloc (.cells #[.int .u8 0, .bool false, .int .u8 8, .bool false, .int .u8 0, .int .u8 (r : Int), .string ⟨#[]⟩] TF (0, 0)))) := Lib.hid (RIm.made1 h (RDo.refl h) rfl _ _)
  clear h hf hr hnp
  go_enter Try.func26, Try.ntmps26
  go_wp2_with fail
  go_quiet (fail)
  have H2 := Lib.hid (H1.out.drewN nq)
  generalize ((w.alloc noF).alloc (.cells #[.int .u8 0, .bool false, .int .u8 8, .bool false, .int .u8 0, .int .u8 (r : Int), .string ⟨#[]⟩] TF (0, 0))).drewN nq = w2 at H2 ⊢
  clear H1 hfr H c7 c8 c11 c13 c16 c12 c15 c5 c3
  obtain ⟨⟨k0, k1, k2, k3, k4, k5, k6⟩, kf⟩ := cells7 H2.out.tail.at0
  have HZ := Lib.hid (H2.out.swap.put7 (one_ne (by omega)) (.int .u8 0) (.bool false) (.int .u8 0) (.bool false) (.int .u8 0) (.int .u8 0) (.string ⟨#[]⟩))
  go_wp2
  exact bodyPost_ret (res_fmb rfl rfl _ _ _ noFm false HZ.out.at0 rfl rfl) rfl ⟨rfl, HZ.out.does⟩
set_option maxHeartbeats 4000000 in
set_option maxRecDepth 100000 in
theorem rnext_nof (w : World) (pb : Nat) (x : Sd) (v : Value) (h : RAt w pb x v) (hf : Fit x) (hl : x.fl = false) (hb : x.bu = false) (hd : x.due = false) (hp : x.poll = false) (hpb : x.pb = false) (hak : x.ak = false) (hm : ¬ x.s < x.p.length) :
    Calls Try.prog 26 #[ptr pb] w fun e w' => e = .returned (.tuple #[fmv noFm, .bool false]) ∧ RDo pb x v w w' := by
  obtain ⟨oa, cap, rfl⟩ := h.q.form
  have c3 := h.cell 3 (.slice oa x.p.length cap) rfl
  have H := Lib.hid h
  have hlt := h.lt
  have hfr := h.free
  obtain ⟨r, hr⟩ : ∃ r, x.g % 8 = r := ⟨_, rfl⟩
  have r8 : (x.g : Int) % 8 = (r : Int) := by omega
  have rw8 : IntKind.u8.wrap (r : Int) = (r : Int) := by rw [IntKind.wrap_u8]; omega
  have hg := hf.g
  have c7 := h.cell 7 (.int .i64 (x.g : Int)) rfl
  have c8 := h.cell 8 (.bool x.due) rfl
  have c11 := h.cell 11 (.bool x.poll) rfl
  have c13 := h.cell 13 (.bool x.bu) rfl
  have c16 := h.cell 16 (.bool x.fl) rfl
  have c12 := h.cell 12 (.bool x.pb) rfl
  have c15 := h.cell 15 (.bool x.ak) rfl
  have c5 := h.cell 5 (.int .i64 (x.s : Int)) rfl
  rw [hl] at c16
  rw [hb] at c13
  rw [hd] at c8
  rw [hp] at c11
  rw [hpb] at c12
  rw [hak] at c15
  obtain ⟨np, hnp⟩ : ∃ np, x.p.length = np := ⟨_, rfl⟩
  rw [hnp] at c3
  obtain ⟨ns, hns⟩ : ∃ ns, x.s = ns := ⟨_, rfl⟩
  rw [hns] at c5
  have g0 : decide ((ns : Int) < (np : Int)) = false := decide_eq_false (by omega)
  have g0b : decide (ns < np) = false := decide_eq_false (by omega)
  have H1 : Hid (RIm [(w.heap.size + 1, (.cells #[.int .u8 0, .bool false, .int .u8 8, .bool false, .int .u8 0, .int .u8 (r : Int), .string ⟨#[]⟩] TF (0, 0))), (w.heap.size, noF)] pb x (.slice oa x.p.length cap) w ((w.alloc noF).alloc (.cells #[.int .u8 0, .bool false, .int .u8 8, .bool false, .int .u8 0, .int .u8 (r : Int), .string ⟨#[]⟩] TF (0, 0)))) := Lib.hid (RIm.made1 h (RDo.refl h) rfl _ _)
  clear h hf hr hnp hns hm
  go_enter Try.func26, Try.ntmps26
  go_wp2_with fail
  go_quiet (fail)
  have H2 := Lib.hid (H1.out.drewN nq)
  generalize ((w.alloc noF).alloc (.cells #[.int .u8 0, .bool false, .int .u8 8, .bool false, .int .u8 0, .int .u8 (r : Int), .string ⟨#[]⟩] TF (0, 0))).drewN nq = w2 at H2 ⊢
  clear H1 hfr H c7 c8 c11 c13 c16 c12 c15 c5 c3
  obtain ⟨⟨k0, k1, k2, k3, k4, k5, k6⟩, kf⟩ := cells7 H2.out.tail.at0
  have HZ := Lib.hid (H2.out.swap.put7 (one_ne (by omega)) (.int .u8 0) (.bool false) (.int .u8 0) (.bool false) (.int .u8 0) (.int .u8 0) (.string ⟨#[]⟩))
  go_wp2
  exact bodyPost_ret (res_fmb rfl rfl _ _ _ noFm false HZ.out.at0 rfl rfl) rfl ⟨rfl, HZ.out.does⟩
set_option maxHeartbeats 4000000 in
set_option maxRecDepth 100000 in
theorem rnext_moref (w : World) (pb : Nat) (x : Sd) (v : Value) (h : RAt w pb x v) (hf : Fit x) (hl : x.fl = false) (hb : x.bu = false) (hd : x.due = false) (hp : x.poll = false) (hpb : x.pb = false) (hak : x.ak = false) (hm : x.s < x.p.length) :
    Calls Try.prog 26 #[ptr pb] w fun e w' => e = .returned (.tuple #[fmv ⟨true, 7, false, x.s % 8, x.g % 8, x.p.getD x.s bE⟩, .bool true]) ∧ RDo pb (cnt false { x with s := x.s + 1, T := max x.T (x.s + 1) }) v w w' := by
  rcases h.q with ⟨_, hq0⟩ | ⟨gb, go, cap, rfl, hgl, hR⟩
  · rw [hq0] at hm; exact absurd hm (Nat.not_lt_zero _)
  have c3 := h.cell 3 (.slice (some ⟨gb, go, none⟩) x.p.length cap) rfl
  have H := Lib.hid h
  have hlt := h.lt
  have hfr := h.free
  obtain ⟨r, hr⟩ : ∃ r, x.g % 8 = r := ⟨_, rfl⟩
  have r8 : (x.g : Int) % 8 = (r : Int) := by omega
  have rw8 : IntKind.u8.wrap (r : Int) = (r : Int) := by rw [IntKind.wrap_u8]; omega
  have hg := hf.g
  have c7 := h.cell 7 (.int .i64 (x.g : Int)) rfl
  have c8 := h.cell 8 (.bool x.due) rfl
  have c11 := h.cell 11 (.bool x.poll) rfl
  have c13 := h.cell 13 (.bool x.bu) rfl
  have c16 := h.cell 16 (.bool x.fl) rfl
  have c12 := h.cell 12 (.bool x.pb) rfl
  have c15 := h.cell 15 (.bool x.ak) rfl
  have c5 := h.cell 5 (.int .i64 (x.s : Int)) rfl
  rw [hl] at c16
  rw [hb] at c13
  rw [hd] at c8
  rw [hp] at c11
  rw [hpb] at c12
  rw [hak] at c15
  obtain ⟨st, hst⟩ : ∃ st, x.p.getD x.s bE = st := ⟨_, rfl⟩
  have hxs : x.p[x.s]? = some st := by
    rw [← hst, List.getD_eq_getElem?_getD, List.getElem?_eq_getElem hm]; rfl
  have hgs : w.cell? ⟨gb, go + x.s, none⟩ = some (.string st) := by
    have := hR.cell x.s st hxs 0 (by decide)
    rwa [show go + (1 * x.s + 0) = go + x.s by omega] at this
  have HG : Hid (∀ w', Below w.heap.size w w' → w'.cell? ⟨gb, go + x.s, none⟩ = some (.string st)) := Lib.hid fun w' hb => cell_below hgs hb
  have hgw := hR.lt
  obtain ⟨np, hnp⟩ : ∃ np, x.p.length = np := ⟨_, rfl⟩
  have HNP := Lib.hid hnp
  rw [hnp] at c3 hm
  have hsb : x.s ≤ 1000000 := by have := hf.few; omega
  have hTb : x.T ≤ 1000000 := by have := hf.tp; have := hf.few; omega
  have hfin : Fit { x with s := x.s + 1, T := max x.T (x.s + 1) } := ⟨hf.k, hf.n2, hf.t1, hf.t1p, by have := hf.hs; dsimp only; omega, by dsimp only; omega, by have := hf.tp; dsimp only; omega, hf.pk, hf.few, hf.g, hf.tr, hf.lf⟩
  have HF := Lib.hid hfin
  obtain ⟨ns, hns⟩ : ∃ ns, x.s = ns := ⟨_, rfl⟩
  have HNS := Lib.hid hns
  rw [hns] at c5 hm hsb HG
  have g0 : decide ((ns : Int) < (np : Int)) = true := decide_eq_true (by omega)
  have g0b : decide (ns < np) = true := decide_eq_true hm
  have j1 : (ns : Int) < (np : Int) := by omega
  have j0 : (0 : Int) ≤ (ns : Int) := by omega
  obtain ⟨rs, hrs⟩ : ∃ rs, ns % 8 = rs := ⟨_, rfl⟩
  have s8 : (ns : Int) % 8 = (rs : Int) := by omega
  have s8t : (ns : Int).tmod 8 = (rs : Int) := by rw [Int.tmod_eq_emod_of_nonneg (by omega)]; exact s8
  have r8t : (x.g : Int).tmod 8 = (r : Int) := by rw [Int.tmod_eq_emod_of_nonneg (by omega)]; exact r8
  have sw8 : IntKind.u8.wrap (rs : Int) = (rs : Int) := by rw [IntKind.wrap_u8]; omega
  obtain ⟨n1, hn1⟩ : ∃ n1, ns + 1 = n1 := ⟨_, rfl⟩
  obtain ⟨T1, hT1⟩ : ∃ T1, x.T = T1 := ⟨_, rfl⟩
  obtain ⟨mx, hmx⟩ : ∃ mx, max T1 n1 = mx := ⟨_, rfl⟩
  have q1 : IntKind.i64.wrap ((ns : Int) + 1) = (n1 : Int) := by rw [IntKind.wrap_i64]; omega
  have q2 : max (T1 : Int) (n1 : Int) = (mx : Int) := by omega
  have q3 : max T1 n1 = mx := hmx
  have HT1 := Lib.hid hT1
  have HXF : Hid (({ x with s := n1, T := mx } : Sd) = { x with s := x.s + 1, T := max x.T (x.s + 1) }) := by
    show _ = _
    rw [hns, hn1, hT1, hmx]
  have H1 : Hid (RIm [(w.heap.size + 1, (.cells #[.int .u8 0, .bool false, .int .u8 8, .bool false, .int .u8 0, .int .u8 (r : Int), .string ⟨#[]⟩] TF (0, 0))), (w.heap.size, noF)] pb x (.slice (some ⟨gb, go, none⟩) np cap) w ((w.alloc noF).alloc (.cells #[.int .u8 0, .bool false, .int .u8 8, .bool false, .int .u8 0, .int .u8 (r : Int), .string ⟨#[]⟩] TF (0, 0)))) := Lib.hid (by rw [← hnp]; exact RIm.made1 h (RDo.refl h) rfl _ _)
  rw [hst, hns, hrs, hr, hnp]
  rw [hn1, hT1, hmx]
  rw [hns, hn1, hT1, hmx] at HF
  have hlt2 := h.lt
  clear h hf hr hnp hns hxs hgs hst hrs hn1 hT1 hmx hfin hR hgl H hTb HXF
  go_enter Try.func26, Try.ntmps26
  go_wp2_with fail
  go_quiet (fail)
  have H2 := Lib.hid (H1.out.drewN nq)
  have hg1 := HG.out _ (below_on (nest_below w [noF, (.cells #[.int .u8 0, .bool false, .int .u8 8, .bool false, .int .u8 0, .int .u8 (r : Int), .string ⟨#[]⟩] TF (0, 0))]) (show Below ((w.alloc noF).alloc (.cells #[.int .u8 0, .bool false, .int .u8 8, .bool false, .int .u8 0, .int .u8 (r : Int), .string ⟨#[]⟩] TF (0, 0))).heap.size ((w.alloc noF).alloc (.cells #[.int .u8 0, .bool false, .int .u8 8, .bool false, .int .u8 0, .int .u8 (r : Int), .string ⟨#[]⟩] TF (0, 0))) (((w.alloc noF).alloc (.cells #[.int .u8 0, .bool false, .int .u8 8, .bool false, .int .u8 0, .int .u8 (r : Int), .string ⟨#[]⟩] TF (0, 0))).drewN nq) from ⟨rfl, rfl, rfl, Nat.le_refl _, fun _ _ => rfl⟩))
  generalize ((w.alloc noF).alloc (.cells #[.int .u8 0, .bool false, .int .u8 8, .bool false, .int .u8 0, .int .u8 (r : Int), .string ⟨#[]⟩] TF (0, 0))).drewN nq = w2 at H2 hg1 ⊢
  clear H1 hfr c7 c8 c11 c13 c16 c12 c15 c5 c3
  go_wp2_with fail
  have H3 := Lib.hid H2.out.drew
  have hg3 : w2.drew.cell? ⟨gb, go + ns, none⟩ = some (.string st) := hg1
  clear H2 hg1
  refine wp_region_held_drew (S := (fun w' => RIm [(w.heap.size, noF)] pb x (.slice (some ⟨gb, go, none⟩) np cap) w w' ∧ w'.cell? ⟨gb, go + ns, none⟩ = some (.string st))) (by kernel_rfl) ⟨H3.out.tail, hg3⟩ (fun hHeld => ?_)
  refine' tk 0 ⟨some 89, .move (.tmp 0), 30, "ref.go:92", #[], none⟩ ?_
  simp only [Act.put, z1', z2', z3']
  refine' tk 1 ⟨some 90, .nilCheck (.tmp 89), 0, "ref.go:92", #[⟨0, .data⟩], none⟩ ?_
  simp only [Act.put, z1', z2', z3']
  refine' tk 2 ⟨some 91, .fieldAddr 69 (.tmp 90) 5, 0, "ref.go:92", #[⟨1, .data⟩], none⟩ ?_
  simp only [Act.put, z1', z2', z3']
  refine' tv 3 ⟨some 92, .load 3 (.tmp 91), 3, "ref.go:92", #[⟨2, .data⟩], none⟩ ?hy37 ?hr37
  case hy37 => (intro _ hSw; (try dsimp only at hSw); have hc := hSw.1.does.at_.cell 5 (.int .i64 (x.s : Int)) rfl; rw [HNS.out] at hc; go_simp <;> with_reducible rfl)
  simp only [Act.put, z1', z2', z3']
  refine' tk 4 ⟨some 93, .binOp .rem 3 (.tmp 92) (.const (.int .i64 8)) 3, 3, "ref.go:92", #[⟨3, .data⟩], none⟩ ?_
  simp only [Act.put, z1', z2', z3']
  refine' tk 5 ⟨some 94, .convert 3 5 (.tmp 93), 5, "ref.go:92", #[⟨4, .data⟩], none⟩ ?_
  simp only [Act.put, z1', z2', z3']
  refine' tk 6 ⟨some 95, .move (.tmp 0), 30, "ref.go:92", #[], none⟩ ?_
  simp only [Act.put, z1', z2', z3']
  refine' tk 7 ⟨some 96, .nilCheck (.tmp 95), 0, "ref.go:92", #[⟨6, .data⟩], none⟩ ?_
  simp only [Act.put, z1', z2', z3']
  refine' tk 8 ⟨some 97, .fieldAddr 69 (.tmp 96) 7, 0, "ref.go:92", #[⟨7, .data⟩], none⟩ ?_
  simp only [Act.put, z1', z2', z3']
  refine' tv 9 ⟨some 98, .load 3 (.tmp 97), 3, "ref.go:92", #[⟨8, .data⟩], none⟩ ?hy43 ?hr43
  case hy43 => (intro _ hSw; (try dsimp only at hSw); have hc := hSw.1.does.at_.cell 7 (.int .i64 (x.g : Int)) rfl; go_simp <;> with_reducible rfl)
  simp only [Act.put, z1', z2', z3']
  refine' tk 10 ⟨some 99, .binOp .rem 3 (.tmp 98) (.const (.int .i64 8)) 3, 3, "ref.go:92", #[⟨9, .data⟩], none⟩ ?_
  simp only [Act.put, z1', z2', z3']
  refine' tk 11 ⟨some 100, .convert 3 5 (.tmp 99), 5, "ref.go:92", #[⟨10, .data⟩], none⟩ ?_
  simp only [Act.put, z1', z2', z3']
  refine' tk 12 ⟨some 101, .move (.tmp 0), 30, "ref.go:92", #[], none⟩ ?_
  simp only [Act.put, z1', z2', z3']
  refine' tk 13 ⟨some 102, .nilCheck (.tmp 101), 0, "ref.go:92", #[⟨12, .data⟩], none⟩ ?_
  simp only [Act.put, z1', z2', z3']
  refine' tk 14 ⟨some 103, .fieldAddr 69 (.tmp 102) 3, 0, "ref.go:92", #[⟨13, .data⟩], none⟩ ?_
  simp only [Act.put, z1', z2', z3']
  refine' tv 15 ⟨some 104, .load 63 (.tmp 103), 63, "ref.go:92", #[⟨14, .data⟩], none⟩ ?hy49 ?hr49
  case hy49 => (intro _ hSw; (try dsimp only at hSw); have hc := hSw.1.does.at_.cell 3 (.slice (some ⟨gb, go, none⟩) np cap) rfl; go_simp <;> with_reducible rfl)
  simp only [Act.put, z1', z2', z3']
  refine' tk 16 ⟨some 105, .move (.tmp 0), 30, "ref.go:92", #[], none⟩ ?_
  simp only [Act.put, z1', z2', z3']
  refine' tk 17 ⟨some 106, .nilCheck (.tmp 105), 0, "ref.go:92", #[⟨16, .data⟩], none⟩ ?_
  simp only [Act.put, z1', z2', z3']
  refine' tk 18 ⟨some 107, .fieldAddr 69 (.tmp 106) 5, 0, "ref.go:92", #[⟨17, .data⟩], none⟩ ?_
  simp only [Act.put, z1', z2', z3']
  refine' tv 19 ⟨some 108, .load 3 (.tmp 107), 3, "ref.go:92", #[⟨18, .data⟩], none⟩ ?hy53 ?hr53
  case hy53 => (intro _ hSw; (try dsimp only at hSw); have hc := hSw.1.does.at_.cell 5 (.int .i64 (x.s : Int)) rfl; rw [HNS.out] at hc; go_simp <;> with_reducible rfl)
  simp only [Act.put, z1', z2', z3']
  refine' tk 20 ⟨some 109, .indexAddr 63 (.tmp 104) (.tmp 108), 0, "ref.go:92", #[⟨15, .data⟩, ⟨19, .data⟩], none⟩ ?_
  simp only [Act.put, z1', z2', z3']
  refine' tv 21 ⟨some 110, .load 9 (.tmp 109), 9, "ref.go:92", #[⟨20, .data⟩], none⟩ ?hy55 ?hr55
  case hy55 => (intro _ hSw; (try dsimp only at hSw); have hc := hSw.2; go_simp <;> with_reducible rfl)
  simp only [Act.put, z1', z2', z3']
  refine' tk 22 ⟨some 111, .build 25 #[(1, .const (.bool true)), (2, .const (.int .u8 7)), (4, .tmp 94), (5, .tmp 100), (6, .tmp 110)], 25, "ref.go:92", #[⟨5, .data⟩, ⟨11, .data⟩, ⟨21, .data⟩], none⟩ ?_
  simp only [Act.put, z1', z2', z3']
  clear hHeld
  have hg4 : w2.drew.cell? ⟨gb, go + ns, none⟩ = some (.string st) := hg3
  clear hg3
  generalize w2.drew = w3 at H3 hg4 ⊢
  obtain ⟨⟨z0, z1, z2, z3, z4, z5, z6⟩, zf⟩ := cells7 (show w3.heap[w.heap.size + 1]? = some (.cells #[.int .u8 0, .bool false, .int .u8 8, .bool false, .int .u8 0, .int .u8 (r : Int), .string ⟨#[]⟩] TF (0, 0)) from H3.out.at0)
  have HE : Hid (RIm [(w.heap.size + 1, (.cells #[.int .u8 0, .bool true, .int .u8 7, .bool false, .int .u8 (rs : Int), .int .u8 (r : Int), .string st] TF (0, 0))), (w.heap.size, noF)] pb x (.slice (some ⟨gb, go, none⟩) np cap) w (((((((w3.setCell ⟨w.heap.size + 1, 0, none⟩ (.int .u8 0)).setCell ⟨w.heap.size + 1, 1, none⟩ (.bool true)).setCell ⟨w.heap.size + 1, 2, none⟩ (.int .u8 7)).setCell ⟨w.heap.size + 1, 3, none⟩ (.bool false)).setCell ⟨w.heap.size + 1, 4, none⟩ (.int .u8 (rs : Int))).setCell ⟨w.heap.size + 1, 5, none⟩ (.int .u8 (r : Int))).setCell ⟨w.heap.size + 1, 6, none⟩ (.string st))) := Lib.hid (H3.out.put7 (one_ne (by omega)) _ _ _ _ _ _ _)
  have hne : gb ≠ w.heap.size + 1 := by omega
  have hg5 : ((((((((w3.setCell ⟨w.heap.size + 1, 0, none⟩ (.int .u8 0)).setCell ⟨w.heap.size + 1, 1, none⟩ (.bool true)).setCell ⟨w.heap.size + 1, 2, none⟩ (.int .u8 7)).setCell ⟨w.heap.size + 1, 3, none⟩ (.bool false)).setCell ⟨w.heap.size + 1, 4, none⟩ (.int .u8 (rs : Int))).setCell ⟨w.heap.size + 1, 5, none⟩ (.int .u8 (r : Int))).setCell ⟨w.heap.size + 1, 6, none⟩ (.string st))).cell? ⟨gb, go + ns, none⟩ = some (.string st) := (World.cell?_of_block (a := ⟨gb, go + ns, none⟩) ((chg_set7 (S := fun k => k = w.heap.size + 1) (Chg.refl _ w3) (fun _ => rfl) _ _ _ _ _ _ _).block gb (World.block_lt_of_cell? w3 ⟨gb, go + ns, none⟩ hg4) hne)).trans hg4
  refine ry [23] ?_
  refine AllReadyH.cons rfl (fun K hK => ?_) AllReadyH.nil
  go_simp
  go_wp2_with fail
  refine hK.out _ _ ⟨HE.out.tail, hg5⟩ (fun hNext => ?_)
  clear hK K
  have hHeld := hNext
  clear hNext
  (try simp only [Act.put, z1', z2', z3'])
  refine wpAnyH_done (by kernel_rfl) ?_ _
  clear hHeld z0 z1 z2 z3 z4 z5 z6 zf hg4 hg5 H3 hne
  generalize (((((((w3.setCell ⟨w.heap.size + 1, 0, none⟩ (.int .u8 0)).setCell ⟨w.heap.size + 1, 1, none⟩ (.bool true)).setCell ⟨w.heap.size + 1, 2, none⟩ (.int .u8 7)).setCell ⟨w.heap.size + 1, 3, none⟩ (.bool false)).setCell ⟨w.heap.size + 1, 4, none⟩ (.int .u8 (rs : Int))).setCell ⟨w.heap.size + 1, 5, none⟩ (.int .u8 (r : Int))).setCell ⟨w.heap.size + 1, 6, none⟩ (.string st)) = w4 at HE ⊢
  have hpf := HE.out.does.at_.free
  have hpl := HE.out.lt
  have c5 := HE.out.does.at_.cell 5 (.int .i64 (x.s : Int)) rfl
  rw [HNS.out] at c5
  have HM := Lib.hid (HE.out.set 5 (.int .i64 (n1 : Int)) { x with s := n1 } rfl rfl)
  go_wp2_with fail
  generalize w4.setCell ⟨pb, 5, none⟩ (.int .i64 (n1 : Int)) = w5 at HM ⊢
  clear c5 hpf HE
  have d5 := HM.out.does.at_.cell 5 (.int .i64 (n1 : Int)) rfl
  have d6 := HM.out.does.at_.cell 6 (.int .i64 (x.T : Int)) rfl
  rw [HT1.out] at d6
  have hpf := HM.out.does.at_.free
  have hd2 : w5.drew.cell? ⟨pb, 5, none⟩ = some (.int .i64 (n1 : Int)) := d5
  refine wp_region_held_drew (S := (fun w' => w'.cell? ⟨pb, 5, none⟩ = some (.int .i64 (n1 : Int)))) (by kernel_rfl) hd2 (fun hHeld => ?_)
  refine' tk 0 ⟨some 119, .move (.tmp 0), 30, "ref.go:94", #[], none⟩ ?_
  simp only [Act.put, z1', z2', z3']
  refine' tk 1 ⟨some 120, .move (.tmp 0), 30, "ref.go:94", #[], none⟩ ?_
  simp only [Act.put, z1', z2', z3']
  refine' tk 2 ⟨some 121, .nilCheck (.tmp 120), 0, "ref.go:94", #[⟨1, .data⟩], none⟩ ?_
  simp only [Act.put, z1', z2', z3']
  refine' tk 3 ⟨some 122, .fieldAddr 69 (.tmp 121) 6, 0, "ref.go:94", #[⟨2, .data⟩], none⟩ ?_
  simp only [Act.put, z1', z2', z3']
  refine' tk 5 ⟨some 124, .move (.tmp 0), 30, "ref.go:94", #[], none⟩ ?_
  simp only [Act.put, z1', z2', z3']
  refine' tk 6 ⟨some 125, .nilCheck (.tmp 124), 0, "ref.go:94", #[⟨5, .data⟩], none⟩ ?_
  simp only [Act.put, z1', z2', z3']
  refine' tk 7 ⟨some 126, .fieldAddr 69 (.tmp 125) 5, 0, "ref.go:94", #[⟨6, .data⟩], none⟩ ?_
  simp only [Act.put, z1', z2', z3']
  refine' tv 8 ⟨some 127, .load 3 (.tmp 126), 3, "ref.go:94", #[⟨7, .data⟩], none⟩ ?hy64 ?hr64
  case hy64 => (intro _ hSw; (try dsimp only at hSw); have hc := hSw; go_simp <;> with_reducible rfl)
  simp only [Act.put, z1', z2', z3']
  refine ry [4] ?_
  refine AllReadyH.cons rfl (fun K hK => ?_) AllReadyH.nil
  go_simp
  go_wp2_with fail
  refine hK.out _ _ hd2 (fun hNext => ?_)
  clear hHeld
  clear hK K
  have hHeld := hNext
  clear hNext
  (try simp only [Act.put, z1', z2', z3'])
  refine ry [9] ?_
  refine AllReadyH.cons rfl (fun K hK => ?_) AllReadyH.nil
  go_simp
  go_wp2_with fail
  refine hK.out _ _ hd2 (fun hNext => ?_)
  clear hHeld
  clear hK K
  have hHeld := hNext
  clear hNext
  (try simp only [Act.put, z1', z2', z3'])
  refine' tk 10 ⟨some 129, .nilCheck (.tmp 119), 0, "ref.go:94", #[⟨0, .data⟩, ⟨0, .phase⟩, ⟨1, .phase⟩, ⟨2, .phase⟩, ⟨3, .phase⟩, ⟨4, .phase⟩, ⟨5, .phase⟩, ⟨6, .phase⟩, ⟨7, .phase⟩, ⟨8, .phase⟩, ⟨9, .phase⟩], none⟩ ?_
  simp only [Act.put, z1', z2', z3']
  refine' tk 11 ⟨some 130, .fieldAddr 69 (.tmp 129) 6, 0, "ref.go:94", #[⟨10, .data⟩, ⟨0, .phase⟩, ⟨1, .phase⟩, ⟨2, .phase⟩, ⟨3, .phase⟩, ⟨4, .phase⟩, ⟨5, .phase⟩, ⟨6, .phase⟩, ⟨7, .phase⟩, ⟨8, .phase⟩, ⟨9, .phase⟩], none⟩ ?_
  simp only [Act.put, z1', z2', z3']
  have HP := Lib.hid (HM.out.set 6 (.int .i64 (mx : Int)) { x with s := n1, T := mx } rfl rfl).drew
  refine ry [12] ?_
  refine AllReadyH.cons rfl (fun K hK => ?_) AllReadyH.nil
  go_simp
  go_wp2_with fail
  refine hK.out _ _ (HP.out.does.at_.cell 5 (.int .i64 (n1 : Int)) rfl) (fun hNext => ?_)
  clear hHeld
  clear hK K
  have hHeld := hNext
  clear hNext
  (try simp only [Act.put, z1', z2', z3'])
  refine wpAnyH_done (by kernel_rfl) ?_ _
  clear hHeld HM d5 d6 hpf hd2
  have CC := Lib.hid (rcount _ pb _ (.slice (some ⟨gb, go, none⟩) np cap) false HP.out.does.at_ HF.out)
  go_wp2_with fail
  refine CC.out.mono ?_
  rintro _ w6 ⟨rfl, hd2⟩
  have H6 := Lib.hid (HP.out.next hd2)
  clear hd2 HP CC
  obtain ⟨⟨l0, l1, l2, l3, l4, l5, l6⟩, lf⟩ := cells7 (show w6.heap[w.heap.size + 1]? = some (.cells #[.int .u8 0, .bool true, .int .u8 7, .bool false, .int .u8 (rs : Int), .int .u8 (r : Int), .string st] TF (0, 0)) from H6.out.at0)
  obtain ⟨⟨k0, k1, k2, k3, k4, k5, k6⟩, kf⟩ := cells7 H6.out.tail.at0
  have HZ := Lib.hid (H6.out.swap.put7 (one_ne (by omega)) (.int .u8 0) (.bool true) (.int .u8 7) (.bool false) (.int .u8 (rs : Int)) (.int .u8 (r : Int)) (.string st))
  go_wp2
  exact bodyPost_ret (res_fmb rfl rfl _ _ _ ⟨true, 7, false, rs, r, st⟩ true HZ.out.at0 rfl rfl) rfl ⟨rfl, HZ.out.does⟩
theorem rnext (w : World) (pb : Nat) (x : Sd) (v : Value) (h : RAt w pb x v) (hf : Fit x) :
    Calls Try.prog 26 #[ptr pb] w fun e w' => e = .returned (.tuple #[fmv (next x).2.1, .bool (next x).2.2]) ∧ RDo pb (next x).1 v w w' := by
  unfold next
  by_cases hl : x.fl = true
  · rw [if_pos hl]; exact rnext_fl w pb x v h hl
  rw [if_neg hl]
  have hl : x.fl = false := by simpa using hl
  by_cases hd : x.due = true
  · rw [if_pos hd]
    by_cases hb : x.bu = true
    · rw [show (if x.bu = true then 9 else if x.rej = true then 10 else 8) = 9 from if_pos hb]; exact rnext_dueb w pb x v h hf hl hb hd
    · have hb : x.bu = false := by simpa using hb
      by_cases hj : x.rej = true
      · rw [show (if x.bu = true then 9 else if x.rej = true then 10 else 8) = 10 by simp [hb, hj]]; exact rnext_duefr w pb x v h hf hl hb hd hj
      · rw [show (if x.bu = true then 9 else if x.rej = true then 10 else 8) = 8 by simp [hb, hj]]; exact rnext_duefn w pb x v h hf hl hb hd (by simpa using hj)
  rw [if_neg hd]
  have hd : x.due = false := by simpa using hd
  by_cases hp : x.poll = true
  · rw [if_pos hp]
    by_cases hb : x.bu = true
    · rw [show (if x.bu = true then 9 else 8) = 9 from if_pos hb]; exact rnext_pollb w pb x v h hf hl hb hd hp
    · rw [show (if x.bu = true then 9 else 8) = 8 from if_neg hb]; exact rnext_pollf w pb x v h hf hl (by simpa using hb) hd hp
  rw [if_neg hp]
  have hp : x.poll = false := by simpa using hp
  by_cases hpb : x.pb = true
  · rw [if_neg (by simp [more, hpb])]
    by_cases hb : x.bu = true
    · exact rnext_pbb w pb x v h hf hl hb hd hp hpb
    · exact rnext_pbf w pb x v h hf hl (by simpa using hb) hd hp hpb
  have hpb : x.pb = false := by simpa using hpb
  by_cases hak : x.ak = true
  · rw [if_neg (by simp [more, hak])]
    by_cases hb : x.bu = true
    · exact rnext_akb w pb x v h hf hl hb hd hp hpb hak
    · exact rnext_akf w pb x v h hf hl (by simpa using hb) hd hp hpb hak
  have hak : x.ak = false := by simpa using hak
  by_cases hm : x.s < x.p.length
  · rw [if_pos (by simp [more, hpb, hak, hm])]
    by_cases hb : x.bu = true
    · exact rnext_moreb w pb x v h hf hl hb hd hp hpb hak hm
    · exact rnext_moref w pb x v h hf hl (by simpa using hb) hd hp hpb hak hm
  · rw [if_neg (by simp [more, hm])]
    by_cases hb : x.bu = true
    · exact rnext_nob w pb x v h hf hl hb hd hp hpb hak hm
    · exact rnext_nof w pb x v h hf hl (by simpa using hb) hd hp hpb hak hm
end Go.Proofs.Ytkoaplmlabagnaa.Aq

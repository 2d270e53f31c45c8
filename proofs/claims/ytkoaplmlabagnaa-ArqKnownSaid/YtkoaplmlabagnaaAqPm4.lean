/-
  The program's own side: Push, acknowledge. Condition: it lies where it says; its numbers are small.
-/
import Derived.Test.YtkoaplmlabagnaaAqPm2
import Derived.Test.YtkoaplmlabagnaaAqDel
import Derived.Lib.MinMax
namespace Go.Proofs.Ytkoaplmlabagnaa.Aq
open Go.RowKit Go.Proofs.Ytkoaplmlabagnaa.Base Go.Proofs.Ytkoaplmlabagnaa.Mem
/-- What a call leaves that may lay what waits elsewhere. -/
structure QDo (pb : Nat) (y : Ps) (v u : Value) (w w' : World) : Prop where
  at_ : PAt w' pb y u
  chg : Chg (fun k => k = pb ∨ v.ownBlock = some k) w w'
  own : u.ownBlock = v.ownBlock ∨ ∃ k, u.ownBlock = some k ∧ w.heap.size ≤ k
theorem QDo.of {pb : Nat} {y : Ps} {v : Value} {w w' : World} (h : ADo pb y v w w') : QDo pb y v v w w' := ⟨h.at_, h.chg.mono fun _ e => Or.inl e, Or.inl rfl⟩
theorem QDo.then {pb : Nat} {x y : Ps} {v u : Value} {w w1 w2 : World} (h : QDo pb x v u w w1) (h' : ADo pb y u w1 w2) : QDo pb y v u w w2 := ⟨h'.at_, h.chg.then (h'.chg.mono fun _ e => Or.inl e), h.own⟩
theorem QDo.on {pb : Nat} {x : Ps} {v u : Value} {w w1 w2 : World} (h : QDo pb x v u w w1) (hb : Below w1.heap.size w1 w2) : QDo pb x v u w w2 := ⟨h.at_.below hb, h.chg.on hb, h.own⟩
theorem fpush_nil (w : World) (i : ByteArray) : Calls Try.prog 18 #[.pointer none, .string i] w fun e w' => e = .returned (nm 1) ∧ w = w' := by
  go_enter Try.func18, Try.ntmps18
  go_wp2
  go_ret
  exact ⟨rfl, rfl⟩
set_option maxHeartbeats 1000000 in
theorem fpush_fl (w : World) (pb : Nat) (y : Ps) (v : Value) (i : ByteArray) (h : PAt w pb y v) (hl : y.fl = true) :
    Calls Try.prog 18 #[ptr pb, .string i] w fun e w' => e = .returned (nm 4) ∧ w = w' := by
  have hlt := h.lt
  have c10 := h.cell 10 (.bool y.fl) rfl
  rw [hl] at c10
  clear h hl
  go_enter Try.func18, Try.ntmps18
  go_wp2
  go_ret
  exact ⟨rfl, rfl⟩
set_option maxHeartbeats 2000000 in
theorem fpush_full (w : World) (pb : Nat) (y : Ps) (o : Option Addr) (c : Nat) (i : ByteArray) (h : PAt w pb y (.slice o y.q.length c)) (hl : y.fl = false) (hk : y.k ≤ y.q.length) :
    Calls Try.prog 18 #[ptr pb, .string i] w fun e w' => e = .returned (nm 3) ∧ ∃ m, w' = w.drewN m := by
  have hlt := h.lt
  have c10 := h.cell 10 (.bool y.fl) rfl
  have c11 := h.cell 11 (.int .i64 (y.k : Int)) rfl
  have c14 := h.cell 14 (.slice o y.q.length c) rfl
  rw [hl] at c10
  obtain ⟨n, hn⟩ : ∃ n, y.q.length = n := ⟨_, rfl⟩
  rw [hn] at c14 hk
  obtain ⟨k, hk2⟩ : ∃ k, y.k = k := ⟨_, rfl⟩
  rw [hk2] at c11 hk
  have g1 : decide ((k : Int) ≤ (n : Int)) = true := decide_eq_true (by omega)
  have g1b : decide (k ≤ n) = true := decide_eq_true hk
  clear h hl hn hk2
  go_enter Try.func18, Try.ntmps18
  go_wp2_with fail
  go_quiet (fail)
  go_wp2
  go_ret
  exact ⟨rfl, nq, rfl⟩
set_option maxHeartbeats 4000000 in
set_option maxRecDepth 100000 in
theorem fpush_ok (w : World) (pb : Nat) (y : Ps) (o : Option Addr) (c : Nat) (i : ByteArray) (h : PAt w pb y (.slice o y.q.length c)) (h7 : y.q.length ≤ 7) (hl : y.fl = false) (hk : ¬ y.k ≤ y.q.length) :
    Calls Try.prog 18 #[ptr pb, .string i] w fun e w' => e = .returned (nm 0) ∧ ∃ u, QDo pb (Ps.count false { y with q := y.q ++ [i] }) (.slice o y.q.length c) u w w' := by
  have H := Lib.hid h
  have hlt := h.lt
  have c10 := h.cell 10 (.bool y.fl) rfl
  have c11 := h.cell 11 (.int .i64 (y.k : Int)) rfl
  have c14 := h.cell 14 (.slice o y.q.length c) rfl
  rw [hl] at c10
  have H7 := Lib.hid h7
  obtain ⟨n, hn⟩ : ∃ n, y.q.length = n := ⟨_, rfl⟩
  have HN := Lib.hid hn
  rw [hn] at c14 hk ⊢
  obtain ⟨k, hk2⟩ : ∃ k, y.k = k := ⟨_, rfl⟩
  rw [hk2] at c11 hk
  have g1 : decide ((k : Int) ≤ (n : Int)) = false := decide_eq_false (by omega)
  have g1b : decide (k ≤ n) = false := decide_eq_false hk
  clear h hl hn hk2 h7
  go_enter Try.func18, Try.ntmps18
  go_wp2_with fail
  go_quiet (fail)
  have HD : Hid (ADo pb y (.slice o n c) w (w.drewN nq)) := Lib.hid (by rw [← HN.out]; exact (ADo.refl H.out).drewN nq)
  generalize w.drewN nq = w0 at HD ⊢
  clear c10 c11 c14 H
  have d14 := HD.out.at_.cell 14 (.slice o n c) rfl
  have H2 : Hid (ADo pb y (.slice o n c) w (w0.alloc (.cells #[.string i] 9))) := Lib.hid (HD.out.on (nest_below w0 [_]))
  have HSR : Hid (Src Try.prog 1 63 (.slice (some ⟨w0.heap.size, 0, none⟩) 1 1) 1 ([i].flatMap fcS) (w0.alloc (.cells #[.string i] 9))) := by
    refine Lib.hid (srcz_at eltS _ w0.heap.size 0 1 1 [i] rfl (fun j z hj k hk => ?_))
    have hlt := (List.getElem?_eq_some_iff.1 hj).1
    simp only [List.length_cons, List.length_nil] at hlt
    obtain rfl : j = 0 := by omega
    have hy := (Option.some.inj hj).symm
    rw [hy]
    have hb : (w0.alloc (.cells #[.string i] 9)).heap[w0.heap.size]? = some (.cells #[.string i] 9 (0, 0)) := nest w0 [_] 0 _ rfl
    match k, hk with
    | 0, _ => exact cell_of hb rfl
  obtain ⟨u, w2, hr, hq, hg, ho⟩ := run_append_q eltS (w0.alloc (.cells #[.string i] 9)) 63 (pb + 1) (.slice o n c) y.q H2.out.at_.q _ 1 [i] rfl HSR.out (by decide) (by have := H7.out; omega) (by have := lt_heap H2.out.at_.blk; omega)
  obtain ⟨ob, ucap, hu⟩ := hq.form
  rw [List.length_append, List.length_singleton, HN.out] at hu
  subst hu
  have hne : ∀ k, k ≤ pb → some k ≠ (Value.slice o n c).ownBlock := fun k hk e => by have := (H2.out.at_.q.lt k e.symm).1; omega
  have hb2 : w2.heap[pb]? = some (.cells (acs y (.slice o n c)) 67 (0, 0)) := (hg.block pb (lt_heap H2.out.at_.blk) (hne pb (Nat.le_refl _))).trans H2.out.at_.blk
  have HA : Hid (PAt (w2.setCell ⟨pb, 14, none⟩ (.slice ob (n + 1) ucap)) pb { y with q := y.q ++ [i] } (.slice ob (n + 1) ucap)) := Lib.hid ⟨block_set (i := 14) hb2 _, hq.eqv fun g e => Below.heap_setCell w2 _ _ _ (fun e2 => by have := (hq.lt g e).1; have : g = pb := e2; omega)⟩
  have HC : Hid (Chg (fun k => k = pb ∨ (Value.slice o n c).ownBlock = some k) w (w2.setCell ⟨pb, 14, none⟩ (.slice ob (n + 1) ucap))) := Lib.hid (((H2.out.chg.mono fun _ e => Or.inl e).grown hg (fun k e _ => Or.inr e)).setCell pb 14 _ (fun _ => Or.inl rfl))
  have HO : Hid ((Value.slice ob (n + 1) ucap).ownBlock = (Value.slice o n c).ownBlock ∨ ∃ k, (Value.slice ob (n + 1) ucap).ownBlock = some k ∧ w.heap.size ≤ k) := Lib.hid (ho.imp id fun e => ⟨_, e, H2.out.chg.size⟩)
  have CN := Lib.hid (fcount _ pb _ _ false HA.out)
  have f0 : ∀ j, w2.frozen? ⟨pb, j, none⟩ = false := fun _ => free_of hb2
  have d0 : w2.cell? ⟨pb, 14, none⟩ = some (.slice o n c) := cell_of hb2 rfl
  have HR := Lib.hid hr
  clear hq hg ho hb2 hne HSR hr
  go_wp2_with (first
    | (at_builtin; refine wpList_append_known (w0.alloc (.cells #[.string i] 9)) rfl _ _ _ _ rfl rfl rfl HR.out ?_)
    | (go_at_call 40; ((with_reducible refine CN.out.mono ?_); rintro e w4 ⟨rfl, hd⟩; have HE := Lib.hid hd; clear hd)))
  go_ret
  exact ⟨rfl, _, HE.out.at_, HC.out.then (HE.out.chg.mono fun _ e => Or.inl e), HO.out⟩
theorem fpush (w : World) (pb : Nat) (y : Ps) (v : Value) (i : ByteArray) (h : PAt w pb y v) (h7 : y.q.length ≤ 7) :
    Calls Try.prog 18 #[ptr pb, .string i] w fun e w' => e = .returned (nm (Ps.push i y).2) ∧ ∃ u, QDo pb (Ps.push i y).1 v u w w' := by
  obtain ⟨o, c, rfl⟩ := h.q.form
  unfold Ps.push
  by_cases hl : y.fl = true
  · rw [if_pos hl]
    exact (fpush_fl w pb y _ i h hl).mono fun e w' ⟨h1, h2⟩ => ⟨h1, _, by cases h2; exact QDo.of (ADo.refl h)⟩
  rw [if_neg hl]
  have hl : y.fl = false := by simpa using hl
  by_cases hk : y.k ≤ y.q.length
  · rw [if_pos hk]
    exact (fpush_full w pb y o c i h hl hk).mono fun e w' ⟨h1, m, h2⟩ => ⟨h1, _, by cases h2; exact QDo.of ((ADo.refl h).drewN m)⟩
  · rw [if_neg hk]
    exact fpush_ok w pb y o c i h h7 hl hk
theorem fack_no (w : World) (pb : Nat) : Calls Try.prog 46 #[ptr pb, .int .i64 0] w fun e w' => e = .returned (.tuple #[]) ∧ w = w' := by
  go_enter Try.func46, Try.ntmps46
  go_wp2
  refine bodyPost_ret (results_none rfl _ _ _) rfl ?_
  exact ⟨rfl, rfl⟩
set_option maxHeartbeats 4000000 in
set_option maxRecDepth 100000 in
theorem fack_do (w : World) (pb : Nat) (y : Ps) (g off cap n : Nat) (h : PAt w pb y (.slice (some ⟨g, off, none⟩) y.q.length cap)) (hR : Rz 1 fcS w g off cap y.q) (hf : PFit y) (hn0 : 0 < n) (hn : n ≤ y.hi) :
    Calls Try.prog 46 #[ptr pb, .int .i64 (n : Int)] w fun e w' => e = .returned (.tuple #[]) ∧ QDo pb (Ps.ack n y) (.slice (some ⟨g, off, none⟩) y.q.length cap) (.slice (some ⟨g, off, none⟩) (y.q.length - n) cap) w w' := by
  have H := Lib.hid h
  have hlt := h.lt
  have hfr := h.free
  have c14 := h.cell 14 (.slice (some ⟨g, off, none⟩) y.q.length cap) rfl
  have hq7 := hf.q
  have hi7 := hf.hi
  have hoh := hf.oh
  have hva := hf.va
  have CD := Lib.hid (fdelQ w g off cap y.q.length n y.q rfl hR hn0 (by omega))
  have hgb : pb + 1 ≤ g := (h.q.lt g rfl).1
  have HGB := Lib.hid hgb
  have HF := Lib.hid hf
  have HN := Lib.hid hn
  have HN0 := Lib.hid hn0
  obtain ⟨l, hl⟩ : ∃ l, y.q.length = l := ⟨_, rfl⟩
  have HL := Lib.hid hl
  rw [hl] at c14 CD hq7 hi7 ⊢
  obtain ⟨lo, hlo⟩ : ∃ lo, y.out = lo := ⟨_, rfl⟩
  obtain ⟨hi, hhi⟩ : ∃ hi, y.hi = hi := ⟨_, rfl⟩
  obtain ⟨va, hva2⟩ : ∃ va, y.va = va := ⟨_, rfl⟩
  rw [hhi] at hi7 hoh hn
  rw [hlo] at hoh
  rw [hva2] at hva
  obtain ⟨r, hr⟩ : ∃ r, (va + n) % 8 = r := ⟨_, rfl⟩
  have CA := Lib.hid (fun w => Sq.fadd va n r (by omega) (by unfold Sq.ad; omega) w)
  have z0 : ((n : Int) == 0) = false := beq_false (by omega)
  obtain ⟨d, hd⟩ : ∃ d : Int, (lo : Int) - (n : Int) = d := ⟨_, rfl⟩
  have q1 : IntKind.i64.wrap ((lo : Int) - (n : Int)) = d := by rw [IntKind.wrap_i64]; omega
  obtain ⟨m, hm⟩ : ∃ m, lo - n = m := ⟨_, rfl⟩
  have q2 : max d 0 = (m : Int) := by omega
  obtain ⟨hi2, hhi2⟩ : ∃ k, hi - n = k := ⟨_, rfl⟩
  have q3 : IntKind.i64.wrap ((hi : Int) - (n : Int)) = (hi2 : Int) := by rw [IntKind.wrap_i64]; omega
  have HY : Hid (({ y with q := y.q.drop n, va := r, out := m, hi := hi2, tr := 0 } : Ps) = Ps.ack n y) := by
    show _ = _
    unfold Ps.ack
    rw [if_neg (by omega), hva2, hlo, hhi, hr, hm, hhi2]
  have n0 : n ≠ 0 := by omega
  clear h hR hf hl hgb
  go_enter Try.func46, Try.ntmps46
  go_wp2_with fail
  refine CD.out.mono ?_
  rintro _ w1 ⟨rfl, hR, hg⟩
  have hb1 : w1.heap[pb]? = some (.cells (acs y (.slice (some ⟨g, off, none⟩) l cap)) 67 (0, 0)) := (hg.block pb (lt_heap H.out.blk) (fun e => by have := HGB.out; have : pb = g := Option.some.inj e; omega)).trans (by rw [← HL.out]; exact H.out.blk)
  have hq1 : Qz 1 fcS w1 (pb + 1) (.slice (some ⟨g, off, none⟩) (l - n) cap) (y.q.drop n) := Qz.of HGB.out hR (by rw [List.length_drop, HL.out])
  have HA : Hid (PAt (w1.setCell ⟨pb, 14, none⟩ (.slice (some ⟨g, off, none⟩) (l - n) cap)) pb { y with q := y.q.drop n } (.slice (some ⟨g, off, none⟩) (l - n) cap)) := Lib.hid ⟨block_set (i := 14) hb1 _, hq1.eqv fun k e => Below.heap_setCell w1 _ _ _ (fun e2 => by have := (hq1.lt k e).1; have : k = pb := e2; omega)⟩
  have HC : Hid (Chg (fun k => k = pb ∨ (Value.slice (some ⟨g, off, none⟩) l cap).ownBlock = some k) w (w1.setCell ⟨pb, 14, none⟩ (.slice (some ⟨g, off, none⟩) (l - n) cap))) := Lib.hid (((Chg.refl _ w).grown hg (fun k e _ => Or.inr e)).setCell pb 14 _ (fun _ => Or.inl rfl))
  have hlt1 : pb < w1.heap.size := lt_heap hb1
  have hfr1 : ∀ j, w1.frozen? ⟨pb, j, none⟩ = false := fun _ => free_of hb1
  have d14 : w1.cell? ⟨pb, 14, none⟩ = some (.slice (some ⟨g, off, none⟩) l cap) := cell_of hb1 rfl
  have d0 : w1.cell? ⟨pb, 0, none⟩ = some (.int .u8 (va : Int)) := by rw [← hva2]; exact cell_of hb1 rfl
  have d2 : w1.cell? ⟨pb, 2, none⟩ = some (.int .i64 (lo : Int)) := by rw [← hlo]; exact cell_of hb1 rfl
  have d15 : w1.cell? ⟨pb, 15, none⟩ = some (.int .i64 (hi : Int)) := by rw [← hhi]; exact cell_of hb1 rfl
  have d3 : w1.cell? ⟨pb, 3, none⟩ = some (.int .i64 (y.tr : Int)) := cell_of hb1 rfl
  have HB : Hid (ADo pb { y with q := y.q.drop n, va := r, out := m, hi := hi2, tr := 0 } (.slice (some ⟨g, off, none⟩) (l - n) cap) (w1.setCell ⟨pb, 14, none⟩ (.slice (some ⟨g, off, none⟩) (l - n) cap)) (((((w1.setCell ⟨pb, 14, none⟩ (.slice (some ⟨g, off, none⟩) (l - n) cap)).setCell ⟨pb, 0, none⟩ (.int .u8 (r : Int))).setCell ⟨pb, 2, none⟩ (.int .i64 (m : Int))).setCell ⟨pb, 15, none⟩ (.int .i64 (hi2 : Int))).setCell ⟨pb, 3, none⟩ (.int .i64 0))) :=
    Lib.hid (((((ADo.refl HA.out).set 0 _ { y with q := y.q.drop n, va := r } rfl rfl).set 2 _ { y with q := y.q.drop n, va := r, out := m } rfl rfl).set 15 _ { y with q := y.q.drop n, va := r, out := m, hi := hi2 } rfl rfl).set 3 _ { y with q := y.q.drop n, va := r, out := m, hi := hi2, tr := 0 } rfl rfl)
  clear hb1 hq1 hR hg c14 hfr hva2 hlo hhi hr hm hhi2 hd CD
  go_wp2_with (go_at_call 45; ((with_reducible refine (CA.out _).mono ?_); rintro e w2 ⟨rfl, rfl⟩))
  go_end0
  exact ⟨rfl, HY.out ▸ HB.out.at_, HC.out.then (HB.out.chg.mono fun _ e => Or.inl e), Or.inl rfl⟩
theorem fack (w : World) (pb : Nat) (y : Ps) (v : Value) (n : Nat) (h : PAt w pb y v) (hf : PFit y) (hn : n ≤ y.hi) :
    Calls Try.prog 46 #[ptr pb, .int .i64 (n : Int)] w fun e w' => e = .returned (.tuple #[]) ∧ ∃ u, QDo pb (Ps.ack n y) v u w w' := by
  by_cases h0 : n = 0
  · subst h0
    exact (fack_no w pb).mono fun e w' ⟨h1, h2⟩ => ⟨h1, v, by cases h2; exact QDo.of (by rw [show Ps.ack 0 y = y from if_pos rfl]; exact ADo.refl h)⟩
  · rcases h.q with ⟨_, hq⟩ | ⟨g, off, cap, rfl, _, hR⟩
    · have := hf.hi
      rw [hq, List.length_nil] at this
      omega
    · exact (fack_do w pb y g off cap n h hR hf (by omega) hn).mono fun e w' ⟨h1, h2⟩ => ⟨h1, _, h2⟩
end Go.Proofs.Ytkoaplmlabagnaa.Aq

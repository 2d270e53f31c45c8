/-
  The document's own side: Push. Condition: it lies where it says; its numbers are small.
-/
import Derived.Test.YtkoaplmlabagnaaAqRef1
namespace Go.Proofs.Ytkoaplmlabagnaa.Aq
open Go.RowKit Go.Proofs.Ytkoaplmlabagnaa.Base Go.Proofs.Ytkoaplmlabagnaa.Mem
section
variable {P : Program}
/-- An append whose run is known. -/
theorem wpList_append_known (w : World) {ops : Array Oper} {rest : List Oper} {o : Oper} {a : Act} {Q : Exit → Act → World → Prop} (hgd : o.guard = none) (d s : Operand) (t t' : TypeId)
    (ho : o.op = .call { callee := .builtin .append, args := #[d, s], argTypes := #[t, t'] }) {v u : Value} (hd : a.eval d = v) (hs : a.eval s = u) {v' : Value} {w' : World}
    (hr : (Builtin.append_ #[t, t'] o.type #[v, u]).run P w = .ok v' w') (h : wpList P ops Q rest (a.put o.dst v') w') : wpList P ops Q (o :: rest) a w :=
  wpList_plain hgd fun _ hQ => by
    unfold Oper.wp execOp
    simp only [ho, resolve, invoke, builtin, Sem.run_bind, Sem.run_pure, Result.andThen_ok, List.map_toArray, List.map_cons, List.map_nil, hd, hs, hr]
    exact hQ _ _ h
end
/-- What a call leaves that may lay what was pushed elsewhere. -/
structure PDo (pb : Nat) (x : Sd) (v u : Value) (w w' : World) : Prop where
  at_ : RAt w' pb x u
  chg : Chg (fun k => k = pb ∨ v.ownBlock = some k) w w'
  own : u.ownBlock = v.ownBlock ∨ ∃ k, u.ownBlock = some k ∧ w.heap.size ≤ k
theorem PDo.of {pb : Nat} {x : Sd} {v : Value} {w w' : World} (h : RDo pb x v w w') : PDo pb x v v w w' := ⟨h.at_, h.chg.mono fun _ e => Or.inl e, Or.inl rfl⟩
set_option maxHeartbeats 1000000 in
theorem rpush_fl (w : World) (pb : Nat) (x : Sd) (v : Value) (i : ByteArray) (h : RAt w pb x v) (hfl : x.fl = true) :
    Calls Try.prog 25 #[ptr pb, .string i] w fun e w' => e = .returned (nm 4) ∧ w = w' := by
  have hlt := h.lt
  have c16 := h.cell 16 (.bool x.fl) rfl
  rw [hfl] at c16
  clear h hfl
  go_enter Try.func25, Try.ntmps25
  go_wp2
  go_ret
  exact ⟨rfl, rfl⟩
set_option maxHeartbeats 2000000 in
theorem rpush_full (w : World) (pb : Nat) (x : Sd) (o : Option Addr) (c : Nat) (i : ByteArray) (h : RAt w pb x (.slice o x.p.length c)) (hf : Fit x) (hfl : x.fl = false) (hk : x.k ≤ x.p.length - x.a) :
    Calls Try.prog 25 #[ptr pb, .string i] w fun e w' => e = .returned (nm 3) ∧ ∃ m, w' = w.drewN m := by
  have hlt := h.lt
  have c0 := h.cell 0 (.int .i64 (x.k : Int)) rfl
  have c16 := h.cell 16 (.bool x.fl) rfl
  rw [hfl] at c16
  have CW : Hid (∀ n, Calls Try.prog 32 #[ptr pb] (w.drewN n) fun e w' => e = .returned (nm (x.p.length - x.a)) ∧ ∃ m, w' = (w.drewN n).drewN m) := Lib.hid fun n => rwaits _ pb x o c (h.drewN n) hf
  have CW2 : Hid (Calls Try.prog 32 #[ptr pb] w fun e w' => e = .returned (nm (x.p.length - x.a)) ∧ ∃ m, w' = w.drewN m) := Lib.hid (rwaits _ pb x o c h hf)
  obtain ⟨n, hn⟩ : ∃ n, x.p.length - x.a = n := ⟨_, rfl⟩
  rw [hn] at CW CW2 hk
  have g1 : decide ((x.k : Int) ≤ (n : Int)) = true := decide_eq_true (by omega)
  have g1b : decide (x.k ≤ n) = true := decide_eq_true hk
  clear h hfl hf hn
  go_enter Try.func25, Try.ntmps25
  go_wp2_with fail
  go_quiet ((go_at_call 32; exact quiet_left2 (CW.out _)))
  go_wp2
  go_ret
  exact ⟨rfl, nq, rfl⟩
set_option maxHeartbeats 4000000 in
set_option maxRecDepth 100000 in
theorem rpush_ok (w : World) (pb : Nat) (x : Sd) (o : Option Addr) (c : Nat) (i : ByteArray) (h : RAt w pb x (.slice o x.p.length c)) (hf : Fit x) (hfew : x.p.length + 1 ≤ 1000000) (hfl : x.fl = false) (hk : ¬ x.k ≤ x.p.length - x.a) :
    Calls Try.prog 25 #[ptr pb, .string i] w fun e w' => e = .returned (nm 0) ∧ ∃ u, PDo pb (cnt false { x with p := x.p ++ [i] }) (.slice o x.p.length c) u w w' := by
  have H := Lib.hid h
  have hlt := h.lt
  have c0 := h.cell 0 (.int .i64 (x.k : Int)) rfl
  have c16 := h.cell 16 (.bool x.fl) rfl
  rw [hfl] at c16
  have HF := Lib.hid hf
  have HN := Lib.hid hfew
  have HK := Lib.hid hk
  have CW : Hid (∀ n, Calls Try.prog 32 #[ptr pb] (w.drewN n) fun e w' => e = .returned (nm (x.p.length - x.a)) ∧ ∃ m, w' = (w.drewN n).drewN m) := Lib.hid fun n => rwaits _ pb x o c (h.drewN n) hf
  obtain ⟨n, hn⟩ : ∃ n, x.p.length - x.a = n := ⟨_, rfl⟩
  rw [hn] at CW hk
  have g1 : decide ((x.k : Int) ≤ (n : Int)) = false := decide_eq_false (by omega)
  have g1b : decide (x.k ≤ n) = false := decide_eq_false hk
  clear h hfl hf hn hfew
  go_enter Try.func25, Try.ntmps25
  go_wp2_with fail
  go_quiet ((go_at_call 32; exact quiet_left2 (CW.out _)))
  have HD : Hid (RDo pb x (.slice o x.p.length c) w (w.drewN nq)) := Lib.hid ((RDo.refl H.out).on ⟨rfl, rfl, rfl, Nat.le_refl _, fun _ _ => rfl⟩)
  generalize w.drewN nq = w0 at HD ⊢
  clear c0 c16 H CW
  have d3 := HD.out.at_.cell 3 (.slice o x.p.length c) rfl
  have H2 : Hid (RDo pb x (.slice o x.p.length c) w (w0.alloc (.cells #[.string i] 9))) := Lib.hid (HD.out.on (nest_below w0 [_]))
  have HSR : Hid (Src Try.prog 1 63 (.slice (some ⟨w0.heap.size, 0, none⟩) 1 1) 1 ([i].flatMap fcS) (w0.alloc (.cells #[.string i] 9))) := by
    refine Lib.hid (srcz_at eltS _ w0.heap.size 0 1 1 [i] rfl (fun j y hj k hk => ?_))
    have hlt := (List.getElem?_eq_some_iff.1 hj).1
    simp only [List.length_cons, List.length_nil] at hlt
    obtain rfl : j = 0 := by omega
    have hy := (Option.some.inj hj).symm
    rw [hy]
    have hb : (w0.alloc (.cells #[.string i] 9)).heap[w0.heap.size]? = some (.cells #[.string i] 9 (0, 0)) := nest w0 [_] 0 _ rfl
    match k, hk with
    | 0, _ => exact cell_of hb rfl
  obtain ⟨u, w2, hr, hq, hg, ho⟩ := run_append_q eltS (w0.alloc (.cells #[.string i] 9)) 63 (pb + 1) (.slice o x.p.length c) x.p H2.out.at_.q _ 1 [i] rfl HSR.out (by decide) (by have := HN.out; omega) (by have := lt_heap H2.out.at_.blk; omega)
  obtain ⟨ob, ucap, hu⟩ := hq.form
  rw [List.length_append, List.length_singleton] at hu
  subst hu
  have hne : ∀ k, k ≤ pb → some k ≠ (Value.slice o x.p.length c).ownBlock := fun k hk e => by have := (H2.out.at_.q.lt k e.symm).1; omega
  have hb2 : w2.heap[pb]? = some (.cells (rcs x (.slice o x.p.length c)) 69 (0, 0)) := (hg.block pb (lt_heap H2.out.at_.blk) (hne pb (Nat.le_refl _))).trans H2.out.at_.blk
  have HA : Hid (RAt (w2.setCell ⟨pb, 3, none⟩ (.slice ob (x.p.length + 1) ucap)) pb { x with p := x.p ++ [i] } (.slice ob (x.p.length + 1) ucap)) := Lib.hid ⟨block_set (i := 3) hb2 _, hq.eqv fun g e => Below.heap_setCell w2 _ _ _ (fun e2 => by have := (hq.lt g e).1; have : g = pb := e2; omega)⟩
  have HC : Hid (Chg (fun k => k = pb ∨ (Value.slice o x.p.length c).ownBlock = some k) w (w2.setCell ⟨pb, 3, none⟩ (.slice ob (x.p.length + 1) ucap))) := Lib.hid (((H2.out.chg.mono fun _ e => Or.inl e).grown hg (fun k e _ => Or.inr e)).setCell pb 3 _ (fun _ => Or.inl rfl))
  have HO : Hid ((Value.slice ob (x.p.length + 1) ucap).ownBlock = (Value.slice o x.p.length c).ownBlock ∨ ∃ k, (Value.slice ob (x.p.length + 1) ucap).ownBlock = some k ∧ w.heap.size ≤ k) := Lib.hid (ho.imp id fun e => ⟨_, e, H2.out.chg.size⟩)
  have HX : Hid (Fit { x with p := x.p ++ [i] }) := Lib.hid ⟨HF.out.k, HF.out.n2, HF.out.t1, HF.out.t1p, HF.out.hs, HF.out.sT, by have := HF.out.tp; simp only [List.length_append, List.length_singleton]; omega, by have := HK.out; simp only [List.length_append, List.length_singleton]; omega, by have := HN.out; simp only [List.length_append, List.length_singleton]; omega, HF.out.g, HF.out.tr, HF.out.lf⟩
  have CN := Lib.hid (rcount _ pb _ _ false HA.out HX.out)
  have f0 : ∀ j, w2.frozen? ⟨pb, j, none⟩ = false := fun _ => free_of hb2
  have d0 : w2.cell? ⟨pb, 3, none⟩ = some (.slice o x.p.length c) := cell_of hb2 rfl
  have HR := Lib.hid hr
  clear hq hg ho hb2 hne HSR hr
  go_wp2_with (first
    | (at_builtin; refine wpList_append_known (w0.alloc (.cells #[.string i] 9)) rfl _ _ _ _ rfl rfl rfl HR.out ?_)
    | (go_at_call 49; ((with_reducible refine CN.out.mono ?_); rintro e w4 ⟨rfl, hd⟩; have HE := Lib.hid hd; clear hd)))
  go_ret
  exact ⟨rfl, _, HE.out.at_, HC.out.then (HE.out.chg.mono fun _ e => Or.inl e), HO.out⟩
theorem rpush (w : World) (pb : Nat) (x : Sd) (v : Value) (i : ByteArray) (h : RAt w pb x v) (hf : Fit x) (hfew : x.p.length + 1 ≤ 1000000) :
    Calls Try.prog 25 #[ptr pb, .string i] w fun e w' => e = .returned (nm (push i x).2) ∧ ∃ u, PDo pb (push i x).1 v u w w' := by
  obtain ⟨o, c, rfl⟩ := h.q.form
  unfold push
  by_cases hfl : x.fl = true
  · rw [if_pos hfl]
    exact (rpush_fl w pb x _ i h hfl).mono fun e w' ⟨h1, h2⟩ => ⟨h1, _, by cases h2; exact PDo.of (RDo.refl h)⟩
  rw [if_neg hfl]
  have hfl : x.fl = false := by simpa using hfl
  by_cases hk : x.k ≤ x.p.length - x.a
  · rw [if_pos hk]
    exact (rpush_full w pb x o c i h hf hfl hk).mono fun e w' ⟨h1, m, h2⟩ => ⟨h1, _, by cases h2; exact PDo.of ((RDo.refl h).on ⟨rfl, rfl, rfl, Nat.le_refl _, fun _ _ => rfl⟩)⟩
  · rw [if_neg hk]
    exact rpush_ok w pb x o c i h hf hfew hfl hk
end Go.Proofs.Ytkoaplmlabagnaa.Aq

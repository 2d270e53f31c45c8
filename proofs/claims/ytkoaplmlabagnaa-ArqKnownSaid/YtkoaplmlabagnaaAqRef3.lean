/-
  The document's own side: Tick whole, New, and the number that an N(R) means. Condition: it lies where it says; its numbers are small.
  The document's own side: Push. Condition: it lies where it says; its numbers are small.
-/
import Derived.Test.YtkoaplmlabagnaaAqRef2
import Derived.Test.YtkoaplmlabagnaaAqRef1
namespace Go.Proofs.Ytkoaplmlabagnaa.Aq
open Go.RowKit Go.Proofs.Ytkoaplmlabagnaa.Base Go.Proofs.Ytkoaplmlabagnaa.Mem
theorem rtick (w : World) (pb : Nat) (x : Sd) (v : Value) (h : RAt w pb x v) (hf : Fit x) :
    Calls Try.prog 29 #[ptr pb] w fun e w' => e = .returned (amv (tick x).2) ∧ RDo pb (tick x).1 v w w' := by
  unfold tick
  by_cases hfl : x.fl = true
  · rw [if_pos (Or.inl hfl)]; exact rtick_fl w pb x v h hfl
  have hfl : x.fl = false := by simpa using hfl
  by_cases hz : x.lf = 0
  · rw [if_pos (Or.inr hz)]; exact rtick_no w pb x v h hfl hz
  rw [if_neg (by simp [hfl, hz])]
  by_cases h1 : 1 < x.lf
  · rw [if_pos h1]; exact rtick_less w pb x v h hf hfl h1
  rw [if_neg h1]
  have hz : x.lf = 1 := by omega
  dsimp only
  by_cases ho : x.a < x.s
  · rw [show (if x.a < x.s ∨ x.ak = true then x.tr + 1 else x.tr) = x.tr + 1 from if_pos (Or.inl ho)]
    by_cases hn : x.n2 < x.tr + 1
    · rw [if_pos hn]; exact rtick_out_y w pb x v h hf hfl hz ho hn
    · rw [if_neg hn]; exact rtick_out_n w pb x v h hf hfl hz ho hn
  by_cases hk : x.ak = true
  · rw [show (if x.a < x.s ∨ x.ak = true then x.tr + 1 else x.tr) = x.tr + 1 from if_pos (Or.inr hk)]
    by_cases hn : x.n2 < x.tr + 1
    · rw [if_pos hn]; exact rtick_ask_y w pb x v h hf hfl hz ho hk hn
    · rw [if_neg hn]; exact rtick_ask_n w pb x v h hf hfl hz ho hk hn
  rw [show (if x.a < x.s ∨ x.ak = true then x.tr + 1 else x.tr) = x.tr from if_neg (by simp [ho, hk])]
  have hk : x.ak = false := by simpa using hk
  by_cases hn : x.n2 < x.tr
  · rw [if_pos hn]; exact rtick_none_y w pb x v h hf hfl hz ho hk hn
  · rw [if_neg hn]; exact rtick_none_n w pb x v h hf hfl hz ho hk hn
/-- May there be such a side? -/
def mayN (k n2 t1 : Int) : Prop := 1 ≤ k ∧ k ≤ 7 ∧ 0 ≤ n2 ∧ n2 ≤ 255 ∧ 1 ≤ t1 ∧ t1 ≤ 255
set_option maxHeartbeats 1000000 in
theorem rnew_no (k n2 t1 : Int) (h : ¬ mayN k n2 t1) (w : World) :
    Calls Try.prog 9 #[.int .i64 k, .int .i64 n2, .int .i64 t1] w fun e w' => e = .returned (.pointer none) ∧ w = w' := by
  unfold mayN at h
  go_enter Try.func9, Try.ntmps9
  by_cases h1 : k < 1
  · have g1 : decide (k < 1) = true := decide_eq_true h1
    go_wp2
    go_ret
    exact ⟨rfl, rfl⟩
  have g1 : decide (k < 1) = false := decide_eq_false h1
  by_cases h2 : 7 < k
  · have g2 : decide (7 < k) = true := decide_eq_true h2
    go_wp2
    go_ret
    exact ⟨rfl, rfl⟩
  have g2 : decide (7 < k) = false := decide_eq_false h2
  by_cases h3 : n2 < 0
  · have g3 : decide (n2 < 0) = true := decide_eq_true h3
    go_wp2
    go_ret
    exact ⟨rfl, rfl⟩
  have g3 : decide (n2 < 0) = false := decide_eq_false h3
  by_cases h4 : 255 < n2
  · have g4 : decide (255 < n2) = true := decide_eq_true h4
    go_wp2
    go_ret
    exact ⟨rfl, rfl⟩
  have g4 : decide (255 < n2) = false := decide_eq_false h4
  by_cases h5 : t1 < 1
  · have g5 : decide (t1 < 1) = true := decide_eq_true h5
    go_wp2
    go_ret
    exact ⟨rfl, rfl⟩
  have g5 : decide (t1 < 1) = false := decide_eq_false h5
  by_cases h6 : 255 < t1
  · have g6 : decide (255 < t1) = true := decide_eq_true h6
    go_wp2
    go_ret
    exact ⟨rfl, rfl⟩
  exact absurd ⟨by omega, by omega, by omega, by omega, by omega, by omega⟩ h
set_option maxHeartbeats 1000000 in
theorem rnew_ok (k n2 t1 : Nat) (h : mayN k n2 t1) (w : World) :
    Calls Try.prog 9 #[nm k, nm n2, nm t1] w fun e w' => e = .returned (ptr w.heap.size) ∧ RAt w' w.heap.size (Aq.new k n2 t1) (.slice none 0 0) ∧ Below w.heap.size w w' := by
  obtain ⟨h1, h2, h3, h4, h5, h6⟩ := h
  have g1 : decide ((k : Int) < 1) = false := decide_eq_false (by omega)
  have g2 : decide (7 < (k : Int)) = false := decide_eq_false (by omega)
  have g3 : decide ((n2 : Int) < 0) = false := decide_eq_false (by omega)
  have g4 : decide (255 < (n2 : Int)) = false := decide_eq_false (by omega)
  have g5 : decide ((t1 : Int) < 1) = false := decide_eq_false (by omega)
  have g6 : decide (255 < (t1 : Int)) = false := decide_eq_false (by omega)
  clear h1 h2 h3 h4 h5 h6
  go_enter Try.func9, Try.ntmps9
  go_wp2
  go_ret
  exact ⟨rfl, ⟨nest w [_] 0 _ rfl, qz_nil _ _⟩, nest_below w [_]⟩
theorem wrapn (n : Nat) (h : n ≤ 1000000000) : IntKind.i64.wrap (n : Int) = (n : Int) := by rw [IntKind.wrap_i64]; omega
set_option maxHeartbeats 4000000 in
theorem rack (w : World) (pb : Nat) (x : Sd) (v : Value) (nr : Nat) (hr : nr < 256) (h : RAt w pb x v) (hf : Fit x) :
    Calls Try.prog 50 #[ptr pb, .int .u8 (nr : Int)] w fun e w' => e = .returned (match ackd x nr with | some n => .tuple #[nm n, .bool true] | none => .tuple #[nm 0, .bool false]) ∧ w = w' := by
  have H := Lib.hid h
  have c4 := h.cell 4 (.int .i64 (x.a : Int)) rfl
  have c6 := h.cell 6 (.int .i64 (x.T : Int)) rfl
  have hT : x.T ≤ 1000000 := by have := hf.tp; have := hf.few; omega
  have haT : x.a ≤ x.T := by have := hf.hs; have := hf.sT; omega
  obtain ⟨r, hrr⟩ : ∃ r, ackd x nr = r := ⟨_, rfl⟩
  have HR : Hid (seek nr x.a (x.T + 1 - x.a) = r) := Lib.hid hrr
  rw [hrr]
  obtain ⟨q, hq⟩ : ∃ q, nr % 8 = q := ⟨_, rfl⟩
  have HQ := Lib.hid hq
  have q8 : (nr : Int) % 8 = (q : Int) := by omega
  have hnr : (nr : Int) < 256 := by omega
  clear h hf hrr hq
  go_enter Try.func50, Try.ntmps50
  go_wp2_with fail
  go_loopg [6] (x.T + 1 - x.a) (fun gm s wr => ∃ n m : Nat, s = nm n ∧ m ≤ gm ∧ n + m = x.T + 1 ∧ Hid (wr = w) ∧ Hid (seek nr n m = r))
  case atStart => exact ⟨x.a, x.T + 1 - x.a, rfl, Nat.le_refl _, by omega, rfl, HR⟩
  case round =>
    clear HR
    obtain ⟨n, m, rfl, hgm, hnm, HW, HS⟩ := hrel
    obtain rfl := HW.out.symm
    clear HW
    have vn := wrapn (n + 1) (by omega)
    obtain ⟨d, hd⟩ : ∃ d, n % 8 = d := ⟨_, rfl⟩
    have HD := Lib.hid hd
    have d8 : (n : Int) % 8 = (d : Int) := by omega
    clear hd
    by_cases hn : n ≤ x.T
    · have g1 : decide ((n : Int) ≤ (x.T : Int)) = true := decide_eq_true (by omega)
      have g1b : decide (n ≤ x.T) = true := decide_eq_true hn
      obtain ⟨m2, rfl⟩ : ∃ m2, m = m2 + 1 := ⟨m - 1, by omega⟩
      by_cases he : d = q
      · have hr : r = some n := by rw [← HS.out]; unfold seek; rw [if_pos (by rw [HD.out, HQ.out]; exact he)]
        subst he
        subst hr
        go_wp2
        go_ret2
        exact ⟨rfl, rfl⟩
      · have g2 : ((d : Int) == (q : Int)) = false := beq_false (by omega)
        have g2b : (d == q) = false := by simpa using he
        have hs : seek nr (n + 1) m2 = r := by rw [← HS.out]; conv => rhs; unfold seek; rw [if_neg (by rw [HD.out, HQ.out]; exact he)]
        have HS2 := Lib.hid hs
        clear hs HS
        go_wp2
        go_roundg m2
        case measure => omega
        case rel => exact ⟨n + 1, m2, by first | rfl | go_num, Nat.le_refl _, by omega, rfl, HS2⟩
    · have g1 : decide ((n : Int) ≤ (x.T : Int)) = false := decide_eq_false (by omega)
      have g1b : decide (n ≤ x.T) = false := decide_eq_false hn
      obtain rfl : m = 0 := by omega
      have hr : r = none := by rw [← HS.out]; rfl
      subst hr
      go_wp2
      go_ret2
      exact ⟨rfl, rfl⟩
section
variable {P : Program}
/-- An append whose run is known. -/
theorem wpList_append_known (w : World) {ops : Array Oper} {rest : List Oper} {o : Oper} {a : Act} {Q : Exit → Act → World → Prop} (hgd : o.guard = none) (d s : Operand) (t t' : TypeId)
    (ho : o.op = .call { callee := .builtin .append, args := #[d, s], argTypes := #[t, t'] }) {v u : Value} (hd : a.eval d = v) (hs : a.eval s = u) {v' : Value} {w' : World}
    (hr : (Builtin.append_ #[t, t'] o.type #[v, u]).run P w = .ok v' w') (h : wpList P ops Q rest (a.put o.dst v') w') : wpList P ops Q (o :: rest) a w :=
  wpList_plain hgd fun _ hQ => by
    unfold Oper.wp execOp
    simp only [ho, resolve, invoke, builtin, Sem.run_bind, Sem.run_pure, Result.andThen_ok, List.map_toArray, List.map_cons, List.map_nil, hd, hs, hr]
    exact hQ _ _ h
end
/-- What a call leaves that may lay what was pushed elsewhere. -/
structure PDo (pb : Nat) (x : Sd) (v u : Value) (w w' : World) : Prop where
  at_ : RAt w' pb x u
  chg : Chg (fun k => k = pb ∨ v.ownBlock = some k) w w'
  own : u.ownBlock = v.ownBlock ∨ ∃ k, u.ownBlock = some k ∧ w.heap.size ≤ k
theorem PDo.of {pb : Nat} {x : Sd} {v : Value} {w w' : World} (h : RDo pb x v w w') : PDo pb x v v w w' := ⟨h.at_, h.chg.mono fun _ e => Or.inl e, Or.inl rfl⟩
set_option maxHeartbeats 1000000 in
theorem rpush_fl (w : World) (pb : Nat) (x : Sd) (v : Value) (i : ByteArray) (h : RAt w pb x v) (hfl : x.fl = true) :
    Calls Try.prog 25 #[ptr pb, .string i] w fun e w' => e = .returned (nm 4) ∧ w = w' := by
  have hlt := h.lt
  have c16 := h.cell 16 (.bool x.fl) rfl
  rw [hfl] at c16
  clear h hfl
  go_enter Try.func25, Try.ntmps25
  go_wp2
  go_ret
  exact ⟨rfl, rfl⟩
set_option maxHeartbeats 2000000 in
theorem rpush_full (w : World) (pb : Nat) (x : Sd) (o : Option Addr) (c : Nat) (i : ByteArray) (h : RAt w pb x (.slice o x.p.length c)) (hf : Fit x) (hfl : x.fl = false) (hk : x.k ≤ x.p.length - x.a) :
    Calls Try.prog 25 #[ptr pb, .string i] w fun e w' => e = .returned (nm 3) ∧ ∃ m, w' = w.drewN m := by
  have hlt := h.lt
  have c0 := h.cell 0 (.int .i64 (x.k : Int)) rfl
  have c16 := h.cell 16 (.bool x.fl) rfl
  rw [hfl] at c16
  have CW : Hid (∀ n, Calls Try.prog 32 #[ptr pb] (w.drewN n) fun e w' => e = .returned (nm (x.p.length - x.a)) ∧ ∃ m, w' = (w.drewN n).drewN m) := Lib.hid fun n => rwaits _ pb x o c (h.drewN n) hf
  have CW2 : Hid (Calls Try.prog 32 #[ptr pb] w fun e w' => e = .returned (nm (x.p.length - x.a)) ∧ ∃ m, w' = w.drewN m) := Lib.hid (rwaits _ pb x o c h hf)
  obtain ⟨n, hn⟩ : ∃ n, x.p.length - x.a = n := ⟨_, rfl⟩
  rw [hn] at CW CW2 hk
  have g1 : decide ((x.k : Int) ≤ (n : Int)) = true := decide_eq_true (by omega)
  have g1b : decide (x.k ≤ n) = true := decide_eq_true hk
  clear h hfl hf hn
  go_enter Try.func25, Try.ntmps25
  go_wp2_with fail
  go_quiet ((go_at_call 32; exact quiet_left2 (CW.out _)))
  go_wp2
  go_ret
  exact ⟨rfl, nq, rfl⟩
set_option maxHeartbeats 4000000 in
set_option maxRecDepth 100000 in
theorem rpush_ok (w : World) (pb : Nat) (x : Sd) (o : Option Addr) (c : Nat) (i : ByteArray) (h : RAt w pb x (.slice o x.p.length c)) (hf : Fit x) (hfew : x.p.length + 1 ≤ 1000000) (hfl : x.fl = false) (hk : ¬ x.k ≤ x.p.length - x.a) :
    Calls Try.prog 25 #[ptr pb, .string i] w fun e w' => e = .returned (nm 0) ∧ ∃ u, PDo pb (cnt false { x with p := x.p ++ [i] }) (.slice o x.p.length c) u w w' := by
  have H := Lib.hid h
  have hlt := h.lt
  have c0 := h.cell 0 (.int .i64 (x.k : Int)) rfl
  have c16 := h.cell 16 (.bool x.fl) rfl
  rw [hfl] at c16
  have HF := Lib.hid hf
  have HN := Lib.hid hfew
  have HK := Lib.hid hk
  have CW : Hid (∀ n, Calls Try.prog 32 #[ptr pb] (w.drewN n) fun e w' => e = .returned (nm (x.p.length - x.a)) ∧ ∃ m, w' = (w.drewN n).drewN m) := Lib.hid fun n => rwaits _ pb x o c (h.drewN n) hf
  obtain ⟨n, hn⟩ : ∃ n, x.p.length - x.a = n := ⟨_, rfl⟩
  rw [hn] at CW hk
  have g1 : decide ((x.k : Int) ≤ (n : Int)) = false := decide_eq_false (by omega)
  have g1b : decide (x.k ≤ n) = false := decide_eq_false hk
  clear h hfl hf hn hfew
  go_enter Try.func25, Try.ntmps25
  go_wp2_with fail
  go_quiet ((go_at_call 32; exact quiet_left2 (CW.out _)))
  have HD : Hid (RDo pb x (.slice o x.p.length c) w (w.drewN nq)) := Lib.hid ((RDo.refl H.out).on ⟨rfl, rfl, rfl, Nat.le_refl _, fun _ _ => rfl⟩)
  generalize w.drewN nq = w0 at HD ⊢
  clear c0 c16 H CW
  have d3 := HD.out.at_.cell 3 (.slice o x.p.length c) rfl
  have H2 : Hid (RDo pb x (.slice o x.p.length c) w (w0.alloc (.cells #[.string i] 9))) := Lib.hid (HD.out.on (nest_below w0 [_]))
  have HSR : Hid (Src Try.prog 1 63 (.slice (some ⟨w0.heap.size, 0, none⟩) 1 1) 1 ([i].flatMap fcS) (w0.alloc (.cells #[.string i] 9))) := by
    refine Lib.hid (srcz_at eltS _ w0.heap.size 0 1 1 [i] rfl (fun j y hj k hk => ?_))
    have hlt := (List.getElem?_eq_some_iff.1 hj).1
    simp only [List.length_cons, List.length_nil] at hlt
    obtain rfl : j = 0 := by omega
    have hy := (Option.some.inj hj).symm
    rw [hy]
    have hb : (w0.alloc (.cells #[.string i] 9)).heap[w0.heap.size]? = some (.cells #[.string i] 9 (0, 0)) := nest w0 [_] 0 _ rfl
    match k, hk with
    | 0, _ => exact cell_of hb rfl
  obtain ⟨u, w2, hr, hq, hg, ho⟩ := run_append_q eltS (w0.alloc (.cells #[.string i] 9)) 63 (pb + 1) (.slice o x.p.length c) x.p H2.out.at_.q _ 1 [i] rfl HSR.out (by decide) (by have := HN.out; omega) (by have := lt_heap H2.out.at_.blk; omega)
  obtain ⟨ob, ucap, hu⟩ := hq.form
  rw [List.length_append, List.length_singleton] at hu
  subst hu
  have hne : ∀ k, k ≤ pb → some k ≠ (Value.slice o x.p.length c).ownBlock := fun k hk e => by have := (H2.out.at_.q.lt k e.symm).1; omega
  have hb2 : w2.heap[pb]? = some (.cells (rcs x (.slice o x.p.length c)) 69 (0, 0)) := (hg.block pb (lt_heap H2.out.at_.blk) (hne pb (Nat.le_refl _))).trans H2.out.at_.blk
  have HA : Hid (RAt (w2.setCell ⟨pb, 3, none⟩ (.slice ob (x.p.length + 1) ucap)) pb { x with p := x.p ++ [i] } (.slice ob (x.p.length + 1) ucap)) := Lib.hid ⟨block_set (i := 3) hb2 _, hq.eqv fun g e => Below.heap_setCell w2 _ _ _ (fun e2 => by have := (hq.lt g e).1; have : g = pb := e2; omega)⟩
  have HC : Hid (Chg (fun k => k = pb ∨ (Value.slice o x.p.length c).ownBlock = some k) w (w2.setCell ⟨pb, 3, none⟩ (.slice ob (x.p.length + 1) ucap))) := Lib.hid (((H2.out.chg.mono fun _ e => Or.inl e).grown hg (fun k e _ => Or.inr e)).setCell pb 3 _ (fun _ => Or.inl rfl))
  have HO : Hid ((Value.slice ob (x.p.length + 1) ucap).ownBlock = (Value.slice o x.p.length c).ownBlock ∨ ∃ k, (Value.slice ob (x.p.length + 1) ucap).ownBlock = some k ∧ w.heap.size ≤ k) := Lib.hid (ho.imp id fun e => ⟨_, e, H2.out.chg.size⟩)
  have HX : Hid (Fit { x with p := x.p ++ [i] }) := Lib.hid ⟨HF.out.k, HF.out.n2, HF.out.t1, HF.out.t1p, HF.out.hs, HF.out.sT, by have := HF.out.tp; simp only [List.length_append, List.length_singleton]; omega, by have := HK.out; simp only [List.length_append, List.length_singleton]; omega, by have := HN.out; simp only [List.length_append, List.length_singleton]; omega, HF.out.g, HF.out.tr, HF.out.lf⟩
  have CN := Lib.hid (rcount _ pb _ _ false HA.out HX.out)
  have f0 : ∀ j, w2.frozen? ⟨pb, j, none⟩ = false := fun _ => free_of hb2
  have d0 : w2.cell? ⟨pb, 3, none⟩ = some (.slice o x.p.length c) := cell_of hb2 rfl
  have HR := Lib.hid hr
  clear hq hg ho hb2 hne HSR hr
  go_wp2_with (first
    | (at_builtin; refine wpList_append_known (w0.alloc (.cells #[.string i] 9)) rfl _ _ _ _ rfl rfl rfl HR.out ?_)
    | (go_at_call 49; ((with_reducible refine CN.out.mono ?_); rintro e w4 ⟨rfl, hd⟩; have HE := Lib.hid hd; clear hd)))
  go_ret
  exact ⟨rfl, _, HE.out.at_, HC.out.then (HE.out.chg.mono fun _ e => Or.inl e), HO.out⟩
theorem rpush (w : World) (pb : Nat) (x : Sd) (v : Value) (i : ByteArray) (h : RAt w pb x v) (hf : Fit x) (hfew : x.p.length + 1 ≤ 1000000) :
    Calls Try.prog 25 #[ptr pb, .string i] w fun e w' => e = .returned (nm (push i x).2) ∧ ∃ u, PDo pb (push i x).1 v u w w' := by
  obtain ⟨o, c, rfl⟩ := h.q.form
  unfold push
  by_cases hfl : x.fl = true
  · rw [if_pos hfl]
    exact (rpush_fl w pb x _ i h hfl).mono fun e w' ⟨h1, h2⟩ => ⟨h1, _, by cases h2; exact PDo.of (RDo.refl h)⟩
  rw [if_neg hfl]
  have hfl : x.fl = false := by simpa using hfl
  by_cases hk : x.k ≤ x.p.length - x.a
  · rw [if_pos hk]
    exact (rpush_full w pb x o c i h hf hfl hk).mono fun e w' ⟨h1, m, h2⟩ => ⟨h1, _, by cases h2; exact PDo.of ((RDo.refl h).on ⟨rfl, rfl, rfl, Nat.le_refl _, fun _ _ => rfl⟩)⟩
  · rw [if_neg hk]
    exact rpush_ok w pb x o c i h hf hfew hfl hk
end Go.Proofs.Ytkoaplmlabagnaa.Aq

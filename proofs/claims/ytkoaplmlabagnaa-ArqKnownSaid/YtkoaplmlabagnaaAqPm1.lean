/-
  The program's own side in memory, and its small methods. Condition: it lies where it says; its numbers are small.
-/
import Derived.Test.YtkoaplmlabagnaaAqMem
import Derived.Test.YtkoaplmlabagnaaAqPs
import Derived.Test.YtkoaplmlabagnaaSqSmall
namespace Go.Proofs.Ytkoaplmlabagnaa.Aq
open Go.RowKit Go.Proofs.Ytkoaplmlabagnaa.Base Go.Proofs.Ytkoaplmlabagnaa.Mem
abbrev acs (y : Ps) (v : Value) : Array Value := #[.int .u8 (y.va : Int), .int .u8 (y.vr : Int), .int .i64 (y.out : Int), .int .i64 (y.tr : Int), .int .i64 (y.lf : Int), .bool y.pb, .bool y.bu, .bool y.rj, .bool y.ak, .bool y.wa, .bool y.fl, .int .i64 (y.k : Int), .int .i64 (y.n2 : Int), .int .i64 (y.t1 : Int), v, .int .i64 (y.hi : Int), .bool y.due, .bool y.fin, .bool y.rej, .bool y.poll]
/-- The program's own side lies in a block, what waits behind it. -/
structure PAt (w : World) (pb : Nat) (y : Ps) (v : Value) : Prop where
  blk : w.heap[pb]? = some (.cells (acs y v) 67 (0, 0))
  q : Qz 1 fcS w (pb + 1) v y.q
/-- Its numbers are small. -/
structure PFit (y : Ps) : Prop where
  va : y.va < 8
  vr : y.vr < 8
  out : y.out ≤ y.q.length
  k : y.k ≤ 7
  n2 : y.n2 ≤ 255
  t1 : y.t1 ≤ 255
  q : y.q.length ≤ 7
  hi : y.hi ≤ y.q.length
  oh : y.out ≤ y.hi
  tr : y.tr ≤ 1000
  lf : y.lf ≤ 255
/-- What a call leaves: that side, all else as it was. -/
structure ADo (pb : Nat) (y : Ps) (v : Value) (w w' : World) : Prop where
  at_ : PAt w' pb y v
  chg : Chg (fun k => k = pb) w w'
section
variable {w w' w1 w2 : World} {pb : Nat} {x y : Ps} {v : Value}
theorem PAt.lt (h : PAt w pb x v) : pb < w.heap.size := lt_heap h.blk
theorem PAt.free (h : PAt w pb x v) : ∀ i, w.frozen? ⟨pb, i, none⟩ = false := fun _ => free_of h.blk
theorem PAt.below (h : PAt w pb x v) (hb : Below w.heap.size w w') : PAt w' pb x v := ⟨stays h.blk hb, h.q.below hb⟩
theorem PAt.drewN (h : PAt w pb x v) (n : Nat) : PAt (w.drewN n) pb x v := h.below ⟨rfl, rfl, rfl, Nat.le_refl _, fun _ _ => rfl⟩
theorem PAt.set (h : PAt w pb x v) (i : Nat) (u : Value) (y : Ps) (hy : (acs x v).setIfInBounds i u = acs y v) (hp : y.q = x.q) : PAt (w.setCell ⟨pb, i, none⟩ u) pb y v :=
  ⟨by rw [← hy]; exact block_set (i := i) h.blk u, by
    rw [hp]
    exact h.q.eqv fun g hg => Below.heap_setCell w _ _ _ (fun e => by have := (h.q.lt g hg).1; have : g = pb := e; omega)⟩
theorem ADo.refl (h : PAt w pb x v) : ADo pb x v w w := ⟨h, Chg.refl _ _⟩
theorem ADo.then (h : ADo pb x v w w1) (h' : ADo pb y v w1 w2) : ADo pb y v w w2 := ⟨h'.at_, h.chg.then h'.chg⟩
theorem ADo.on (h : ADo pb x v w w1) (hb : Below w1.heap.size w1 w2) : ADo pb x v w w2 := ⟨h.at_.below hb, h.chg.on hb⟩
theorem ADo.drewN (h : ADo pb x v w w1) (n : Nat) : ADo pb x v w (w1.drewN n) := h.on ⟨rfl, rfl, rfl, Nat.le_refl _, fun _ _ => rfl⟩
theorem ADo.set (h : ADo pb x v w w1) (i : Nat) (u : Value) (y : Ps) (hy : (acs x v).setIfInBounds i u = acs y v) (hp : y.q = x.q) : ADo pb y v w (w1.setCell ⟨pb, i, none⟩ u) :=
  ⟨h.at_.set i u y hy hp, h.chg.setCell pb i u fun _ => rfl⟩
theorem PAt.cell (h : PAt w pb x v) (i : Nat) (u : Value) (hu : (acs x v)[i]? = some u) : w.cell? ⟨pb, i, none⟩ = some u := cell_of h.blk hu
end
theorem flives (w : World) (pb : Nat) (y : Ps) (v : Value) (h : PAt w pb y v) :
    Calls Try.prog 34 #[ptr pb] w fun e w' => e = .returned (.bool (!y.fl)) ∧ w = w' := by
  have c10 := h.cell 10 (.bool y.fl) rfl
  obtain ⟨b, hb⟩ : ∃ b, y.fl = b := ⟨_, rfl⟩
  rw [hb] at c10 ⊢
  clear h hb
  cases b
  · go_enter Try.func34, Try.ntmps34
    go_wp2
    go_ret
    exact ⟨rfl, rfl⟩
  · go_enter Try.func34, Try.ntmps34
    go_wp2
    go_ret
    exact ⟨rfl, rfl⟩
theorem flives_nil (w : World) : Calls Try.prog 34 #[.pointer none] w fun e w' => e = .returned (.bool false) ∧ w = w' := by
  go_enter Try.func34, Try.ntmps34
  go_wp2
  go_ret
  exact ⟨rfl, rfl⟩
theorem fready (w : World) (pb : Nat) (y : Ps) (v : Value) (h : PAt w pb y v) :
    Calls Try.prog 61 #[ptr pb] w fun e w' => e = .returned (.int .u8 (Ps.kind y : Int)) ∧ w = w' := by
  have c6 := h.cell 6 (.bool y.bu) rfl
  unfold Ps.kind
  obtain ⟨b, hb⟩ : ∃ b, y.bu = b := ⟨_, rfl⟩
  rw [hb] at c6 ⊢
  clear h hb
  cases b
  · go_enter Try.func61, Try.ntmps61
    go_wp2
    go_ret
    exact ⟨rfl, rfl⟩
  · go_enter Try.func61, Try.ntmps61
    go_wp2
    go_ret
    exact ⟨rfl, rfl⟩
set_option maxHeartbeats 1000000 in
theorem fvs (w : World) (pb : Nat) (y : Ps) (v : Value) (h : PAt w pb y v) (hf : PFit y) :
    Calls Try.prog 33 #[ptr pb] w fun e w' => e = .returned (.int .u8 ((y.va + y.out) % 8 : Nat)) ∧ ∃ m, w' = w.drewN m := by
  have c0 := h.cell 0 (.int .u8 (y.va : Int)) rfl
  have c2 := h.cell 2 (.int .i64 (y.out : Int)) rfl
  have hlt := h.lt
  obtain ⟨a, ha⟩ : ∃ a, y.va = a := ⟨_, rfl⟩
  obtain ⟨n, hn⟩ : ∃ n, y.out = n := ⟨_, rfl⟩
  have ha8 := hf.va
  rw [ha] at c0 ha8
  rw [hn] at c2
  rw [ha, hn]
  obtain ⟨r, hr⟩ : ∃ r, (a + n) % 8 = r := ⟨_, rfl⟩
  have C1 := Lib.hid (fun w => Sq.fadd a n r (by omega) (by unfold Sq.ad; omega) w)
  rw [hr]
  clear h hf ha hn hr
  go_enter Try.func33, Try.ntmps33
  go_wp2_with fail
  go_quiet ((go_at_call 45; exact quiet_left (C1.out _)))
  go_wp2
  go_ret
  exact ⟨rfl, nq, rfl⟩
set_option maxHeartbeats 1000000 in
theorem fmay_pb (w : World) (pb : Nat) (y : Ps) (o : Option Addr) (c : Nat) (h : PAt w pb y (.slice o y.q.length c)) (hp : y.pb = true) :
    Calls Try.prog 35 #[ptr pb] w fun e w' => e = .returned (.bool (false)) ∧ ∃ m, w' = w.drewN m := by
  have hlt := h.lt
  have c5 := h.cell 5 (.bool y.pb) rfl
  have c8 := h.cell 8 (.bool y.ak) rfl
  have c2 := h.cell 2 (.int .i64 (y.out : Int)) rfl
  have c14 := h.cell 14 (.slice o y.q.length c) rfl
  obtain ⟨n, hn⟩ : ∃ n, y.q.length = n := ⟨_, rfl⟩
  rw [hn] at c14
  rw [hp] at c5
  clear h hn
  go_enter Try.func35, Try.ntmps35
  go_wp2_with fail
  go_quiet (fail)
  go_wp2
  go_ret
  exact ⟨rfl, nq, rfl⟩
set_option maxHeartbeats 1000000 in
theorem fmay_ak (w : World) (pb : Nat) (y : Ps) (o : Option Addr) (c : Nat) (h : PAt w pb y (.slice o y.q.length c)) (hp : y.pb = false) (hk : y.ak = true) :
    Calls Try.prog 35 #[ptr pb] w fun e w' => e = .returned (.bool (false)) ∧ ∃ m, w' = w.drewN m := by
  have hlt := h.lt
  have c5 := h.cell 5 (.bool y.pb) rfl
  have c8 := h.cell 8 (.bool y.ak) rfl
  have c2 := h.cell 2 (.int .i64 (y.out : Int)) rfl
  have c14 := h.cell 14 (.slice o y.q.length c) rfl
  obtain ⟨n, hn⟩ : ∃ n, y.q.length = n := ⟨_, rfl⟩
  rw [hn] at c14
  rw [hp] at c5
  rw [hk] at c8
  clear h hn
  go_enter Try.func35, Try.ntmps35
  go_wp2_with fail
  go_quiet (fail)
  go_wp2
  go_ret
  exact ⟨rfl, nq, rfl⟩
set_option maxHeartbeats 1000000 in
theorem fmay_go (w : World) (pb : Nat) (y : Ps) (o : Option Addr) (c : Nat) (h : PAt w pb y (.slice o y.q.length c)) (hp : y.pb = false) (hk : y.ak = false) :
    Calls Try.prog 35 #[ptr pb] w fun e w' => e = .returned (.bool (decide (y.out < y.q.length))) ∧ ∃ m, w' = w.drewN m := by
  have hlt := h.lt
  have c5 := h.cell 5 (.bool y.pb) rfl
  have c8 := h.cell 8 (.bool y.ak) rfl
  have c2 := h.cell 2 (.int .i64 (y.out : Int)) rfl
  have c14 := h.cell 14 (.slice o y.q.length c) rfl
  obtain ⟨n, hn⟩ : ∃ n, y.q.length = n := ⟨_, rfl⟩
  rw [hn] at c14
  rw [hp] at c5
  rw [hk] at c8
  rw [hn]
  obtain ⟨m, hm⟩ : ∃ m, y.out = m := ⟨_, rfl⟩
  rw [hm] at c2 ⊢
  clear hm
  clear h hn
  go_enter Try.func35, Try.ntmps35
  go_wp2_with fail
  go_quiet (fail)
  go_wp2
  go_ret
  exact ⟨rfl, nq, rfl⟩
theorem fmay (w : World) (pb : Nat) (y : Ps) (v : Value) (h : PAt w pb y v) :
    Calls Try.prog 35 #[ptr pb] w fun e w' => e = .returned (.bool (Ps.may y)) ∧ ∃ m, w' = w.drewN m := by
  obtain ⟨o, c, rfl⟩ := h.q.form
  unfold Ps.may
  by_cases hp : y.pb = true
  · rw [show (!y.pb && !y.ak && decide (y.out < y.q.length)) = false by simp [hp]]; exact fmay_pb w pb y o c h hp
  have hp : y.pb = false := by simpa using hp
  by_cases hk : y.ak = true
  · rw [show (!y.pb && !y.ak && decide (y.out < y.q.length)) = false by simp [hk]]; exact fmay_ak w pb y o c h hp hk
  have hk : y.ak = false := by simpa using hk
  rw [show (!y.pb && !y.ak && decide (y.out < y.q.length)) = decide (y.out < y.q.length) by simp [hp, hk]]
  exact fmay_go w pb y o c h hp hk
set_option maxHeartbeats 1000000 in
theorem fhas_fl (w : World) (pb : Nat) (y : Ps) (v : Value) (h : PAt w pb y v) (hl : y.fl = true) :
    Calls Try.prog 13 #[ptr pb] w fun e w' => e = .returned (.bool (false)) ∧ ∃ m, w' = w.drewN m := by
  have hlt := h.lt
  have C1 := Lib.hid (flives w pb y v h)
  rw [hl] at C1
  have C2 := Lib.hid (fmay w pb y v h)
  have c16 := h.cell 16 (.bool y.due) rfl
  have c19 := h.cell 19 (.bool y.poll) rfl
  clear h
  go_enter Try.func13, Try.ntmps13
  go_wp2_with (first
    | (go_at_call 34; ((with_reducible refine C1.out.mono ?_); rintro e w' ⟨rfl, rfl⟩))
    | (go_at_call 35; ((with_reducible refine C2.out.mono ?_); rintro e w' ⟨rfl, nq, rfl⟩)))
  go_ret
  exact ⟨rfl, 0, rfl⟩
set_option maxHeartbeats 1000000 in
theorem fhas_due (w : World) (pb : Nat) (y : Ps) (v : Value) (h : PAt w pb y v) (hl : y.fl = false) (hd : y.due = true) :
    Calls Try.prog 13 #[ptr pb] w fun e w' => e = .returned (.bool (true)) ∧ ∃ m, w' = w.drewN m := by
  have hlt := h.lt
  have C1 := Lib.hid (flives w pb y v h)
  rw [hl] at C1
  have C2 := Lib.hid (fmay w pb y v h)
  have c16 := h.cell 16 (.bool y.due) rfl
  have c19 := h.cell 19 (.bool y.poll) rfl
  rw [hd] at c16
  clear h
  go_enter Try.func13, Try.ntmps13
  go_wp2_with (first
    | (go_at_call 34; ((with_reducible refine C1.out.mono ?_); rintro e w' ⟨rfl, rfl⟩))
    | (go_at_call 35; ((with_reducible refine C2.out.mono ?_); rintro e w' ⟨rfl, nq, rfl⟩)))
  go_ret
  exact ⟨rfl, 0, rfl⟩
set_option maxHeartbeats 1000000 in
theorem fhas_poll (w : World) (pb : Nat) (y : Ps) (v : Value) (h : PAt w pb y v) (hl : y.fl = false) (hd : y.due = false) (hp : y.poll = true) :
    Calls Try.prog 13 #[ptr pb] w fun e w' => e = .returned (.bool (true)) ∧ ∃ m, w' = w.drewN m := by
  have hlt := h.lt
  have C1 := Lib.hid (flives w pb y v h)
  rw [hl] at C1
  have C2 := Lib.hid (fmay w pb y v h)
  have c16 := h.cell 16 (.bool y.due) rfl
  have c19 := h.cell 19 (.bool y.poll) rfl
  rw [hd] at c16
  rw [hp] at c19
  clear h
  go_enter Try.func13, Try.ntmps13
  go_wp2_with (first
    | (go_at_call 34; ((with_reducible refine C1.out.mono ?_); rintro e w' ⟨rfl, rfl⟩))
    | (go_at_call 35; ((with_reducible refine C2.out.mono ?_); rintro e w' ⟨rfl, nq, rfl⟩)))
  go_ret
  exact ⟨rfl, 0, rfl⟩
set_option maxHeartbeats 1000000 in
theorem fhas_go (w : World) (pb : Nat) (y : Ps) (v : Value) (h : PAt w pb y v) (hl : y.fl = false) (hd : y.due = false) (hp : y.poll = false) :
    Calls Try.prog 13 #[ptr pb] w fun e w' => e = .returned (.bool (Ps.may y)) ∧ ∃ m, w' = w.drewN m := by
  have hlt := h.lt
  have C1 := Lib.hid (flives w pb y v h)
  rw [hl] at C1
  have C2 := Lib.hid (fmay w pb y v h)
  have c16 := h.cell 16 (.bool y.due) rfl
  have c19 := h.cell 19 (.bool y.poll) rfl
  rw [hd] at c16
  rw [hp] at c19
  clear h
  go_enter Try.func13, Try.ntmps13
  go_wp2_with (first
    | (go_at_call 34; ((with_reducible refine C1.out.mono ?_); rintro e w' ⟨rfl, rfl⟩))
    | (go_at_call 35; ((with_reducible refine C2.out.mono ?_); rintro e w' ⟨rfl, nq, rfl⟩)))
  go_ret
  exact ⟨rfl, nq, rfl⟩
theorem fhas (w : World) (pb : Nat) (y : Ps) (v : Value) (h : PAt w pb y v) :
    Calls Try.prog 13 #[ptr pb] w fun e w' => e = .returned (.bool (Ps.has y)) ∧ ∃ m, w' = w.drewN m := by
  unfold Ps.has
  by_cases hl : y.fl = true
  · rw [show (!y.fl && (y.due || y.poll || Ps.may y)) = false by simp [hl]]; exact fhas_fl w pb y v h hl
  have hl : y.fl = false := by simpa using hl
  by_cases hd : y.due = true
  · rw [show (!y.fl && (y.due || y.poll || Ps.may y)) = true by simp [hl, hd]]; exact fhas_due w pb y v h hl hd
  have hd : y.due = false := by simpa using hd
  by_cases hp : y.poll = true
  · rw [show (!y.fl && (y.due || y.poll || Ps.may y)) = true by simp [hl, hp]]; exact fhas_poll w pb y v h hl hd hp
  have hp : y.poll = false := by simpa using hp
  rw [show (!y.fl && (y.due || y.poll || Ps.may y)) = Ps.may y by simp [hl, hd, hp]]
  exact fhas_go w pb y v h hl hd hp
theorem fhas_nil (w : World) : Calls Try.prog 13 #[.pointer none] w fun e w' => e = .returned (.bool false) ∧ w = w' := by
  have C1 := Lib.hid (flives_nil w)
  go_enter Try.func13, Try.ntmps13
  go_wp2_with (go_at_call 34; ((with_reducible refine C1.out.mono ?_); rintro e w' ⟨rfl, rfl⟩))
  go_ret
  exact ⟨rfl, rfl⟩
set_option maxHeartbeats 1000000 in
theorem fcounts_out (w : World) (pb : Nat) (y : Ps) (o : Option Addr) (c : Nat) (h : PAt w pb y (.slice o y.q.length c)) (ho : 0 < y.out) :
    Calls Try.prog 52 #[ptr pb] w fun e w' => e = .returned (.bool (true)) ∧ w = w' := by
  have hlt := h.lt
  have c5 := h.cell 5 (.bool y.pb) rfl
  have c8 := h.cell 8 (.bool y.ak) rfl
  have c9 := h.cell 9 (.bool y.wa) rfl
  have c2 := h.cell 2 (.int .i64 (y.out : Int)) rfl
  have c14 := h.cell 14 (.slice o y.q.length c) rfl
  obtain ⟨n, hn⟩ : ∃ n, y.q.length = n := ⟨_, rfl⟩
  rw [hn] at c14
  obtain ⟨m, hm⟩ : ∃ m, y.out = m := ⟨_, rfl⟩
  rw [hm] at c2 ho
  have g0 : decide ((0 : Int) < (m : Int)) = true := decide_eq_true (by omega)
  have g1 : decide (0 < m) = true := decide_eq_true (by omega)
  clear h hn hm ho
  go_enter Try.func52, Try.ntmps52
  go_wp2
  go_ret
  exact ⟨rfl, rfl⟩
set_option maxHeartbeats 1000000 in
theorem fcounts_ak (w : World) (pb : Nat) (y : Ps) (o : Option Addr) (c : Nat) (h : PAt w pb y (.slice o y.q.length c)) (ho : ¬ 0 < y.out) (hk : y.ak = true) :
    Calls Try.prog 52 #[ptr pb] w fun e w' => e = .returned (.bool (true)) ∧ w = w' := by
  have hlt := h.lt
  have c5 := h.cell 5 (.bool y.pb) rfl
  have c8 := h.cell 8 (.bool y.ak) rfl
  have c9 := h.cell 9 (.bool y.wa) rfl
  have c2 := h.cell 2 (.int .i64 (y.out : Int)) rfl
  have c14 := h.cell 14 (.slice o y.q.length c) rfl
  obtain ⟨n, hn⟩ : ∃ n, y.q.length = n := ⟨_, rfl⟩
  rw [hn] at c14
  obtain ⟨m, hm⟩ : ∃ m, y.out = m := ⟨_, rfl⟩
  rw [hm] at c2 ho
  have g0 : decide ((0 : Int) < (m : Int)) = false := decide_eq_false (by omega)
  have g1 : decide (0 < m) = false := decide_eq_false (by omega)
  rw [hk] at c8
  clear h hn hm ho
  go_enter Try.func52, Try.ntmps52
  go_wp2
  go_ret
  exact ⟨rfl, rfl⟩
set_option maxHeartbeats 1000000 in
theorem fcounts_wa (w : World) (pb : Nat) (y : Ps) (o : Option Addr) (c : Nat) (h : PAt w pb y (.slice o y.q.length c)) (ho : ¬ 0 < y.out) (hk : y.ak = false) (hw : y.wa = true) :
    Calls Try.prog 52 #[ptr pb] w fun e w' => e = .returned (.bool (true)) ∧ w = w' := by
  have hlt := h.lt
  have c5 := h.cell 5 (.bool y.pb) rfl
  have c8 := h.cell 8 (.bool y.ak) rfl
  have c9 := h.cell 9 (.bool y.wa) rfl
  have c2 := h.cell 2 (.int .i64 (y.out : Int)) rfl
  have c14 := h.cell 14 (.slice o y.q.length c) rfl
  obtain ⟨n, hn⟩ : ∃ n, y.q.length = n := ⟨_, rfl⟩
  rw [hn] at c14
  obtain ⟨m, hm⟩ : ∃ m, y.out = m := ⟨_, rfl⟩
  rw [hm] at c2 ho
  have g0 : decide ((0 : Int) < (m : Int)) = false := decide_eq_false (by omega)
  have g1 : decide (0 < m) = false := decide_eq_false (by omega)
  rw [hk] at c8
  rw [hw] at c9
  clear h hn hm ho
  go_enter Try.func52, Try.ntmps52
  go_wp2
  go_ret
  exact ⟨rfl, rfl⟩
set_option maxHeartbeats 1000000 in
theorem fcounts_free (w : World) (pb : Nat) (y : Ps) (o : Option Addr) (c : Nat) (h : PAt w pb y (.slice o y.q.length c)) (ho : ¬ 0 < y.out) (hk : y.ak = false) (hw : y.wa = false) (hp : y.pb = false) :
    Calls Try.prog 52 #[ptr pb] w fun e w' => e = .returned (.bool (false)) ∧ w = w' := by
  have hlt := h.lt
  have c5 := h.cell 5 (.bool y.pb) rfl
  have c8 := h.cell 8 (.bool y.ak) rfl
  have c9 := h.cell 9 (.bool y.wa) rfl
  have c2 := h.cell 2 (.int .i64 (y.out : Int)) rfl
  have c14 := h.cell 14 (.slice o y.q.length c) rfl
  obtain ⟨n, hn⟩ : ∃ n, y.q.length = n := ⟨_, rfl⟩
  rw [hn] at c14
  obtain ⟨m, hm⟩ : ∃ m, y.out = m := ⟨_, rfl⟩
  rw [hm] at c2 ho
  have g0 : decide ((0 : Int) < (m : Int)) = false := decide_eq_false (by omega)
  have g1 : decide (0 < m) = false := decide_eq_false (by omega)
  rw [hk] at c8
  rw [hw] at c9
  rw [hp] at c5
  clear h hn hm ho
  go_enter Try.func52, Try.ntmps52
  go_wp2
  go_ret
  exact ⟨rfl, rfl⟩
set_option maxHeartbeats 1000000 in
theorem fcounts_pb (w : World) (pb : Nat) (y : Ps) (o : Option Addr) (c : Nat) (h : PAt w pb y (.slice o y.q.length c)) (ho : ¬ 0 < y.out) (hk : y.ak = false) (hw : y.wa = false) (hp : y.pb = true) :
    Calls Try.prog 52 #[ptr pb] w fun e w' => e = .returned (.bool (decide (0 < y.q.length))) ∧ w = w' := by
  have hlt := h.lt
  have c5 := h.cell 5 (.bool y.pb) rfl
  have c8 := h.cell 8 (.bool y.ak) rfl
  have c9 := h.cell 9 (.bool y.wa) rfl
  have c2 := h.cell 2 (.int .i64 (y.out : Int)) rfl
  have c14 := h.cell 14 (.slice o y.q.length c) rfl
  obtain ⟨n, hn⟩ : ∃ n, y.q.length = n := ⟨_, rfl⟩
  rw [hn] at c14
  obtain ⟨m, hm⟩ : ∃ m, y.out = m := ⟨_, rfl⟩
  rw [hm] at c2 ho
  have g0 : decide ((0 : Int) < (m : Int)) = false := decide_eq_false (by omega)
  have g1 : decide (0 < m) = false := decide_eq_false (by omega)
  rw [hn]
  rw [hk] at c8
  rw [hw] at c9
  rw [hp] at c5
  clear h hn hm ho
  go_enter Try.func52, Try.ntmps52
  go_wp2
  go_ret
  exact ⟨rfl, rfl⟩
theorem fcounts (w : World) (pb : Nat) (y : Ps) (v : Value) (h : PAt w pb y v) :
    Calls Try.prog 52 #[ptr pb] w fun e w' => e = .returned (.bool (Ps.counts y)) ∧ w = w' := by
  obtain ⟨o, c, rfl⟩ := h.q.form
  unfold Ps.counts
  by_cases ho : 0 < y.out
  · rw [show (decide (0 < y.out) || y.ak || y.wa || (y.pb && decide (0 < y.q.length))) = true by simp [ho]]; exact fcounts_out w pb y o c h ho
  by_cases hk : y.ak = true
  · rw [show (decide (0 < y.out) || y.ak || y.wa || (y.pb && decide (0 < y.q.length))) = true by simp [hk]]; exact fcounts_ak w pb y o c h ho hk
  have hk : y.ak = false := by simpa using hk
  by_cases hw : y.wa = true
  · rw [show (decide (0 < y.out) || y.ak || y.wa || (y.pb && decide (0 < y.q.length))) = true by simp [hw]]; exact fcounts_wa w pb y o c h ho hk hw
  have hw : y.wa = false := by simpa using hw
  by_cases hp : y.pb = true
  · rw [show (decide (0 < y.out) || y.ak || y.wa || (y.pb && decide (0 < y.q.length))) = decide (0 < y.q.length) by simp [ho, hk, hw, hp]]; exact fcounts_pb w pb y o c h ho hk hw hp
  have hp : y.pb = false := by simpa using hp
  rw [show (decide (0 < y.out) || y.ak || y.wa || (y.pb && decide (0 < y.q.length))) = false by simp [ho, hk, hw, hp]]; exact fcounts_free w pb y o c h ho hk hw hp
set_option maxHeartbeats 1000000 in
theorem fcount_no (w : World) (pb : Nat) (y : Ps) (v : Value) (again : Bool) (h : PAt w pb y v) (hc : Ps.counts y = false) :
    Calls Try.prog 40 #[ptr pb, .bool again] w fun e w' => e = .returned (.tuple #[]) ∧ ADo pb { y with lf := 0 } v w w' := by
  have H := Lib.hid h
  have hfr := h.free
  have hlt := h.lt
  have C1 := Lib.hid (fcounts w pb y v h)
  rw [hc] at C1
  have c4 := h.cell 4 (.int .i64 (y.lf : Int)) rfl
  have c13 := h.cell 13 (.int .i64 (y.t1 : Int)) rfl
  clear h
  go_enter Try.func40, Try.ntmps40
  go_wp2_with (go_at_call 52; ((with_reducible refine C1.out.mono ?_); rintro e w' ⟨rfl, rfl⟩))
  go_end0
  exact ⟨rfl, (ADo.refl H.out).set 4 _ _ rfl rfl⟩
set_option maxHeartbeats 1000000 in
theorem fcount_new (w : World) (pb : Nat) (y : Ps) (v : Value) (h : PAt w pb y v) (hc : Ps.counts y = true) :
    Calls Try.prog 40 #[ptr pb, .bool true] w fun e w' => e = .returned (.tuple #[]) ∧ ADo pb { y with lf := y.t1 } v w w' := by
  have H := Lib.hid h
  have hfr := h.free
  have hlt := h.lt
  have C1 := Lib.hid (fcounts w pb y v h)
  rw [hc] at C1
  have c4 := h.cell 4 (.int .i64 (y.lf : Int)) rfl
  have c13 := h.cell 13 (.int .i64 (y.t1 : Int)) rfl
  clear h
  go_enter Try.func40, Try.ntmps40
  go_wp2_with (go_at_call 52; ((with_reducible refine C1.out.mono ?_); rintro e w' ⟨rfl, rfl⟩))
  go_end0
  exact ⟨rfl, (ADo.refl H.out).set 4 _ _ rfl rfl⟩
set_option maxHeartbeats 1000000 in
theorem fcount_z (w : World) (pb : Nat) (y : Ps) (v : Value) (h : PAt w pb y v) (hc : Ps.counts y = true) (hz : y.lf = 0) :
    Calls Try.prog 40 #[ptr pb, .bool false] w fun e w' => e = .returned (.tuple #[]) ∧ ADo pb { y with lf := y.t1 } v w w' := by
  have H := Lib.hid h
  have hfr := h.free
  have hlt := h.lt
  have C1 := Lib.hid (fcounts w pb y v h)
  rw [hc] at C1
  have c4 := h.cell 4 (.int .i64 (y.lf : Int)) rfl
  have c13 := h.cell 13 (.int .i64 (y.t1 : Int)) rfl
  have z0 : ((y.lf : Int) == 0) = true := beq_true (by omega)
  clear h
  go_enter Try.func40, Try.ntmps40
  go_wp2_with (go_at_call 52; ((with_reducible refine C1.out.mono ?_); rintro e w' ⟨rfl, rfl⟩))
  go_end0
  exact ⟨rfl, (ADo.refl H.out).set 4 _ _ rfl rfl⟩
set_option maxHeartbeats 1000000 in
theorem fcount_on (w : World) (pb : Nat) (y : Ps) (v : Value) (h : PAt w pb y v) (hc : Ps.counts y = true) (hz : y.lf ≠ 0) :
    Calls Try.prog 40 #[ptr pb, .bool false] w fun e w' => e = .returned (.tuple #[]) ∧ ADo pb y v w w' := by
  have H := Lib.hid h
  have hfr := h.free
  have hlt := h.lt
  have C1 := Lib.hid (fcounts w pb y v h)
  rw [hc] at C1
  have c4 := h.cell 4 (.int .i64 (y.lf : Int)) rfl
  have c13 := h.cell 13 (.int .i64 (y.t1 : Int)) rfl
  have z0 : ((y.lf : Int) == 0) = false := beq_false (by omega)
  clear h
  go_enter Try.func40, Try.ntmps40
  go_wp2_with (go_at_call 52; ((with_reducible refine C1.out.mono ?_); rintro e w' ⟨rfl, rfl⟩))
  go_end0
  exact ⟨rfl, ADo.refl H.out⟩
theorem fcount (w : World) (pb : Nat) (y : Ps) (v : Value) (again : Bool) (h : PAt w pb y v) :
    Calls Try.prog 40 #[ptr pb, .bool again] w fun e w' => e = .returned (.tuple #[]) ∧ ADo pb (Ps.count again y) v w w' := by
  unfold Ps.count
  by_cases hc : Ps.counts y = false
  · rw [if_pos hc]; exact fcount_no w pb y v again h hc
  rw [if_neg hc]
  have hc : Ps.counts y = true := by simpa using hc
  cases again
  · by_cases hz : y.lf = 0
    · rw [if_pos (Or.inr hz)]; exact fcount_z w pb y v h hc hz
    · rw [if_neg (by simp [hz])]; exact fcount_on w pb y v h hc hz
  · rw [if_pos (Or.inl rfl)]; exact fcount_new w pb y v h hc
end Go.Proofs.Ytkoaplmlabagnaa.Aq

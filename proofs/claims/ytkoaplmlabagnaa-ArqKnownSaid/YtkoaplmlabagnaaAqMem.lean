/-
  The document's own side in memory: its block, what it was pushed; Waits and count. Condition: it lies where it says; at most a million informations.
-/
import Derived.Test.YtkoaplmlabagnaaAqMath
import Derived.Test.YtkoaplmlabagnaaRz
import Derived.Test.YtkoaplmlabagnaaChg
import Derived.BigQuiet
namespace Go.Proofs.Ytkoaplmlabagnaa.Aq
open Go.RowKit Go.Proofs.Ytkoaplmlabagnaa.Base Go.Proofs.Ytkoaplmlabagnaa.Mem
abbrev nm (n : Nat) : Value := .int .i64 (n : Int)
/-- An information's cell. -/
def fcS (s : ByteArray) : List Value := [.string s]
theorem eltS : Elt 9 63 1 fcS :=
  ⟨Try.underlying63, ⟨.string ⟨#[]⟩, 16, by kernel_rfl, rfl, by decide⟩, fun _ => rfl, fun x u hu => by
    simp only [fcS, List.mem_cons, List.not_mem_nil, or_false] at hu
    rcases hu with rfl; rfl, by decide⟩
abbrev rcs (x : Sd) (v : Value) : Array Value := #[.int .i64 (x.k : Int), .int .i64 (x.n2 : Int), .int .i64 (x.t1 : Int), v, .int .i64 (x.a : Int), .int .i64 (x.s : Int), .int .i64 (x.T : Int), .int .i64 (x.g : Int), .bool x.due, .bool x.fin, .bool x.rej, .bool x.poll, .bool x.pb, .bool x.bu, .bool x.rj, .bool x.ak, .bool x.fl, .bool x.wa, .int .i64 (x.tr : Int), .int .i64 (x.lf : Int)]
/-- The document's own side lies in a block, what it was pushed behind it. -/
structure RAt (w : World) (pb : Nat) (x : Sd) (v : Value) : Prop where
  blk : w.heap[pb]? = some (.cells (rcs x v) 69 (0, 0))
  q : Qz 1 fcS w (pb + 1) v x.p
/-- Its numbers are small. -/
structure Fit (x : Sd) : Prop where
  k : x.k ≤ 7
  n2 : x.n2 ≤ 255
  t1 : x.t1 ≤ 255
  t1p : 1 ≤ x.t1
  hs : x.a ≤ x.s
  sT : x.s ≤ x.T
  tp : x.T ≤ x.p.length
  pk : x.p.length ≤ x.a + x.k
  few : x.p.length ≤ 1000000
  g : x.g ≤ 1000000
  tr : x.tr ≤ 1000
  lf : x.lf ≤ 255
/-- What a call leaves: that side, all else as it was. -/
structure RDo (pb : Nat) (x : Sd) (v : Value) (w w' : World) : Prop where
  at_ : RAt w' pb x v
  chg : Chg (fun k => k = pb) w w'
section
variable {w w' w1 w2 : World} {pb : Nat} {x y : Sd} {v : Value}
theorem RAt.lt (h : RAt w pb x v) : pb < w.heap.size := lt_heap h.blk
theorem RAt.free (h : RAt w pb x v) : ∀ i, w.frozen? ⟨pb, i, none⟩ = false := fun _ => free_of h.blk
theorem RAt.below (h : RAt w pb x v) (hb : Below w.heap.size w w') : RAt w' pb x v := ⟨stays h.blk hb, h.q.below hb⟩
theorem RAt.drewN (h : RAt w pb x v) (n : Nat) : RAt (w.drewN n) pb x v := h.below ⟨rfl, rfl, rfl, Nat.le_refl _, fun _ _ => rfl⟩
theorem RAt.set (h : RAt w pb x v) (i : Nat) (u : Value) (y : Sd) (hy : (rcs x v).setIfInBounds i u = rcs y v) (hp : y.p = x.p) : RAt (w.setCell ⟨pb, i, none⟩ u) pb y v :=
  ⟨by rw [← hy]; exact block_set (i := i) h.blk u, by
    rw [hp]
    exact h.q.eqv fun g hg => Below.heap_setCell w _ _ _ (fun e => by have := (h.q.lt g hg).1; have : g = pb := e; omega)⟩
theorem RDo.refl (h : RAt w pb x v) : RDo pb x v w w := ⟨h, Chg.refl _ _⟩
theorem RDo.then (h : RDo pb x v w w1) (h' : RDo pb y v w1 w2) : RDo pb y v w w2 := ⟨h'.at_, h.chg.then h'.chg⟩
theorem RDo.on (h : RDo pb x v w w1) (hb : Below w1.heap.size w1 w2) : RDo pb x v w w2 := ⟨h.at_.below hb, h.chg.on hb⟩
theorem RDo.set (h : RDo pb x v w w1) (i : Nat) (u : Value) (y : Sd) (hy : (rcs x v).setIfInBounds i u = rcs y v) (hp : y.p = x.p) : RDo pb y v w (w1.setCell ⟨pb, i, none⟩ u) :=
  ⟨h.at_.set i u y hy hp, h.chg.setCell pb i u fun _ => rfl⟩
theorem RAt.cell (h : RAt w pb x v) (i : Nat) (u : Value) (hu : (rcs x v)[i]? = some u) : w.cell? ⟨pb, i, none⟩ = some u := cell_of h.blk hu
end
set_option maxHeartbeats 1000000 in
theorem rwaits (w : World) (pb : Nat) (x : Sd) (o : Option Addr) (c : Nat) (h : RAt w pb x (.slice o x.p.length c)) (hf : Fit x) :
    Calls Try.prog 32 #[ptr pb] w fun e w' => e = .returned (nm (x.p.length - x.a)) ∧ ∃ m, w' = w.drewN m := by
  have hlt := h.lt
  have c3 := h.cell 3 (.slice o x.p.length c) rfl
  have c4 := h.cell 4 (.int .i64 (x.a : Int)) rfl
  obtain ⟨n, hn⟩ : ∃ n, x.p.length = n := ⟨_, rfl⟩
  have ha : x.a ≤ n := by have := hf.hs; have := hf.sT; have := hf.tp; omega
  have hb := hf.few
  rw [hn] at c3 hb ⊢
  have q : IntKind.i64.wrap ((n : Int) - (x.a : Int)) = ((n - x.a : Nat) : Int) := by rw [IntKind.wrap_i64]; omega
  clear h hf hn
  go_enter Try.func32, Try.ntmps32
  go_wp2_with fail
  go_quiet (fail)
  go_wp2
  go_ret
  exact ⟨rfl, nq, rfl⟩
theorem quiet_left2 {P : Program} {f : FuncId} {args : Array Value} {w : World} {n : Nat} {v : Value}
    (h : Calls P f args (w.drewN n) fun e w' => e = .returned v ∧ ∃ m, w' = (w.drewN n).drewN m) : Calls P f args (w.drewN n) fun e w'' => e = .returned v ∧ ∃ m, w'' = w.drewN m :=
  h.mono fun _ _ ⟨he, m, hm⟩ => ⟨he, n + m, by rw [hm]; simp [World.drewN, Nat.add_assoc]⟩
set_option maxHeartbeats 2000000 in
theorem rcount_out_z (w : World) (pb : Nat) (x : Sd) (o : Option Addr) (c : Nat) (again : Bool) (h : RAt w pb x (.slice o x.p.length c)) (hfl : x.fl = false) (ho : x.a < x.s) (hz : x.lf = 0) :
    Calls Try.prog 49 #[ptr pb, .bool again] w fun e w' => e = .returned (.tuple #[]) ∧ RDo pb { x with lf := x.t1 } (.slice o x.p.length c) w w' := by
  have H := Lib.hid h
  have hfr := h.free
  have hlt := h.lt
  have c2 := h.cell 2 (.int .i64 (x.t1 : Int)) rfl
  have c4 := h.cell 4 (.int .i64 (x.a : Int)) rfl
  have c5 := h.cell 5 (.int .i64 (x.s : Int)) rfl
  have c12 := h.cell 12 (.bool x.pb) rfl
  have c15 := h.cell 15 (.bool x.ak) rfl
  have c16 := h.cell 16 (.bool x.fl) rfl
  have c17 := h.cell 17 (.bool x.wa) rfl
  have c19 := h.cell 19 (.int .i64 (x.lf : Int)) rfl
  rw [hfl] at c16
  have g0 : decide ((x.a : Int) < (x.s : Int)) = true := decide_eq_true (by omega)
  have z0 : ((x.lf : Int) == 0) = true := beq_true (by omega)
  clear h hfl
  go_enter Try.func49, Try.ntmps49
  go_wp2_with fail
  go_quiet (fail)
  have H1 : Hid (RDo pb x (.slice o x.p.length c) w (w.drewN nq)) := Lib.hid ((RDo.refl H.out).on ⟨rfl, rfl, rfl, Nat.le_refl _, fun _ _ => rfl⟩)
  generalize w.drewN nq = w1 at H1 ⊢
  have d2 := H1.out.at_.cell 2 (.int .i64 (x.t1 : Int)) rfl
  have d19 := H1.out.at_.cell 19 (.int .i64 (x.lf : Int)) rfl
  have df := H1.out.at_.free
  clear c2 c4 c5 c12 c15 c16 c17 c19 hfr
  go_wp2
  refine bodyPost_ret (results_none rfl _ _ _) rfl ?_
  exact ⟨rfl, H1.out.set 19 _ _ rfl rfl⟩
set_option maxHeartbeats 2000000 in
theorem rcount_out_a (w : World) (pb : Nat) (x : Sd) (o : Option Addr) (c : Nat) (again : Bool) (h : RAt w pb x (.slice o x.p.length c)) (hfl : x.fl = false) (ho : x.a < x.s) (hz : x.lf ≠ 0) (hg : again = true) :
    Calls Try.prog 49 #[ptr pb, .bool again] w fun e w' => e = .returned (.tuple #[]) ∧ RDo pb { x with lf := x.t1 } (.slice o x.p.length c) w w' := by
  have H := Lib.hid h
  have hfr := h.free
  have hlt := h.lt
  have c2 := h.cell 2 (.int .i64 (x.t1 : Int)) rfl
  have c4 := h.cell 4 (.int .i64 (x.a : Int)) rfl
  have c5 := h.cell 5 (.int .i64 (x.s : Int)) rfl
  have c12 := h.cell 12 (.bool x.pb) rfl
  have c15 := h.cell 15 (.bool x.ak) rfl
  have c16 := h.cell 16 (.bool x.fl) rfl
  have c17 := h.cell 17 (.bool x.wa) rfl
  have c19 := h.cell 19 (.int .i64 (x.lf : Int)) rfl
  rw [hfl] at c16
  have g0 : decide ((x.a : Int) < (x.s : Int)) = true := decide_eq_true (by omega)
  have z0 : ((x.lf : Int) == 0) = false := beq_false (by omega)
  subst hg
  clear h hfl
  go_enter Try.func49, Try.ntmps49
  go_wp2_with fail
  go_quiet (fail)
  have H1 : Hid (RDo pb x (.slice o x.p.length c) w (w.drewN nq)) := Lib.hid ((RDo.refl H.out).on ⟨rfl, rfl, rfl, Nat.le_refl _, fun _ _ => rfl⟩)
  generalize w.drewN nq = w1 at H1 ⊢
  have d2 := H1.out.at_.cell 2 (.int .i64 (x.t1 : Int)) rfl
  have d19 := H1.out.at_.cell 19 (.int .i64 (x.lf : Int)) rfl
  have df := H1.out.at_.free
  clear c2 c4 c5 c12 c15 c16 c17 c19 hfr
  go_wp2
  refine bodyPost_ret (results_none rfl _ _ _) rfl ?_
  exact ⟨rfl, H1.out.set 19 _ _ rfl rfl⟩
set_option maxHeartbeats 2000000 in
theorem rcount_out_n (w : World) (pb : Nat) (x : Sd) (o : Option Addr) (c : Nat) (again : Bool) (h : RAt w pb x (.slice o x.p.length c)) (hfl : x.fl = false) (ho : x.a < x.s) (hz : x.lf ≠ 0) (hg : again = false) :
    Calls Try.prog 49 #[ptr pb, .bool again] w fun e w' => e = .returned (.tuple #[]) ∧ RDo pb x (.slice o x.p.length c) w w' := by
  have H := Lib.hid h
  have hfr := h.free
  have hlt := h.lt
  have c2 := h.cell 2 (.int .i64 (x.t1 : Int)) rfl
  have c4 := h.cell 4 (.int .i64 (x.a : Int)) rfl
  have c5 := h.cell 5 (.int .i64 (x.s : Int)) rfl
  have c12 := h.cell 12 (.bool x.pb) rfl
  have c15 := h.cell 15 (.bool x.ak) rfl
  have c16 := h.cell 16 (.bool x.fl) rfl
  have c17 := h.cell 17 (.bool x.wa) rfl
  have c19 := h.cell 19 (.int .i64 (x.lf : Int)) rfl
  rw [hfl] at c16
  have g0 : decide ((x.a : Int) < (x.s : Int)) = true := decide_eq_true (by omega)
  have z0 : ((x.lf : Int) == 0) = false := beq_false (by omega)
  subst hg
  clear h hfl
  go_enter Try.func49, Try.ntmps49
  go_wp2_with fail
  go_quiet (fail)
  have H1 : Hid (RDo pb x (.slice o x.p.length c) w (w.drewN nq)) := Lib.hid ((RDo.refl H.out).on ⟨rfl, rfl, rfl, Nat.le_refl _, fun _ _ => rfl⟩)
  generalize w.drewN nq = w1 at H1 ⊢
  have d2 := H1.out.at_.cell 2 (.int .i64 (x.t1 : Int)) rfl
  have d19 := H1.out.at_.cell 19 (.int .i64 (x.lf : Int)) rfl
  have df := H1.out.at_.free
  clear c2 c4 c5 c12 c15 c16 c17 c19 hfr
  go_wp2
  refine bodyPost_ret (results_none rfl _ _ _) rfl ?_
  exact ⟨rfl, H1.out⟩
set_option maxHeartbeats 2000000 in
theorem rcount_ask_z (w : World) (pb : Nat) (x : Sd) (o : Option Addr) (c : Nat) (again : Bool) (h : RAt w pb x (.slice o x.p.length c)) (hfl : x.fl = false) (ho : ¬ x.a < x.s) (hk : x.ak = true) (hz : x.lf = 0) :
    Calls Try.prog 49 #[ptr pb, .bool again] w fun e w' => e = .returned (.tuple #[]) ∧ RDo pb { x with lf := x.t1 } (.slice o x.p.length c) w w' := by
  have H := Lib.hid h
  have hfr := h.free
  have hlt := h.lt
  have c2 := h.cell 2 (.int .i64 (x.t1 : Int)) rfl
  have c4 := h.cell 4 (.int .i64 (x.a : Int)) rfl
  have c5 := h.cell 5 (.int .i64 (x.s : Int)) rfl
  have c12 := h.cell 12 (.bool x.pb) rfl
  have c15 := h.cell 15 (.bool x.ak) rfl
  have c16 := h.cell 16 (.bool x.fl) rfl
  have c17 := h.cell 17 (.bool x.wa) rfl
  have c19 := h.cell 19 (.int .i64 (x.lf : Int)) rfl
  rw [hfl] at c16
  have g0 : decide ((x.a : Int) < (x.s : Int)) = false := decide_eq_false (by omega)
  rw [hk] at c15
  have z0 : ((x.lf : Int) == 0) = true := beq_true (by omega)
  clear h hfl
  go_enter Try.func49, Try.ntmps49
  go_wp2_with fail
  go_quiet (fail)
  have H1 : Hid (RDo pb x (.slice o x.p.length c) w (w.drewN nq)) := Lib.hid ((RDo.refl H.out).on ⟨rfl, rfl, rfl, Nat.le_refl _, fun _ _ => rfl⟩)
  generalize w.drewN nq = w1 at H1 ⊢
  have d2 := H1.out.at_.cell 2 (.int .i64 (x.t1 : Int)) rfl
  have d19 := H1.out.at_.cell 19 (.int .i64 (x.lf : Int)) rfl
  have df := H1.out.at_.free
  clear c2 c4 c5 c12 c15 c16 c17 c19 hfr
  go_wp2
  refine bodyPost_ret (results_none rfl _ _ _) rfl ?_
  exact ⟨rfl, H1.out.set 19 _ _ rfl rfl⟩
set_option maxHeartbeats 2000000 in
theorem rcount_ask_a (w : World) (pb : Nat) (x : Sd) (o : Option Addr) (c : Nat) (again : Bool) (h : RAt w pb x (.slice o x.p.length c)) (hfl : x.fl = false) (ho : ¬ x.a < x.s) (hk : x.ak = true) (hz : x.lf ≠ 0) (hg : again = true) :
    Calls Try.prog 49 #[ptr pb, .bool again] w fun e w' => e = .returned (.tuple #[]) ∧ RDo pb { x with lf := x.t1 } (.slice o x.p.length c) w w' := by
  have H := Lib.hid h
  have hfr := h.free
  have hlt := h.lt
  have c2 := h.cell 2 (.int .i64 (x.t1 : Int)) rfl
  have c4 := h.cell 4 (.int .i64 (x.a : Int)) rfl
  have c5 := h.cell 5 (.int .i64 (x.s : Int)) rfl
  have c12 := h.cell 12 (.bool x.pb) rfl
  have c15 := h.cell 15 (.bool x.ak) rfl
  have c16 := h.cell 16 (.bool x.fl) rfl
  have c17 := h.cell 17 (.bool x.wa) rfl
  have c19 := h.cell 19 (.int .i64 (x.lf : Int)) rfl
  rw [hfl] at c16
  have g0 : decide ((x.a : Int) < (x.s : Int)) = false := decide_eq_false (by omega)
  rw [hk] at c15
  have z0 : ((x.lf : Int) == 0) = false := beq_false (by omega)
  subst hg
  clear h hfl
  go_enter Try.func49, Try.ntmps49
  go_wp2_with fail
  go_quiet (fail)
  have H1 : Hid (RDo pb x (.slice o x.p.length c) w (w.drewN nq)) := Lib.hid ((RDo.refl H.out).on ⟨rfl, rfl, rfl, Nat.le_refl _, fun _ _ => rfl⟩)
  generalize w.drewN nq = w1 at H1 ⊢
  have d2 := H1.out.at_.cell 2 (.int .i64 (x.t1 : Int)) rfl
  have d19 := H1.out.at_.cell 19 (.int .i64 (x.lf : Int)) rfl
  have df := H1.out.at_.free
  clear c2 c4 c5 c12 c15 c16 c17 c19 hfr
  go_wp2
  refine bodyPost_ret (results_none rfl _ _ _) rfl ?_
  exact ⟨rfl, H1.out.set 19 _ _ rfl rfl⟩
set_option maxHeartbeats 2000000 in
theorem rcount_ask_n (w : World) (pb : Nat) (x : Sd) (o : Option Addr) (c : Nat) (again : Bool) (h : RAt w pb x (.slice o x.p.length c)) (hfl : x.fl = false) (ho : ¬ x.a < x.s) (hk : x.ak = true) (hz : x.lf ≠ 0) (hg : again = false) :
    Calls Try.prog 49 #[ptr pb, .bool again] w fun e w' => e = .returned (.tuple #[]) ∧ RDo pb x (.slice o x.p.length c) w w' := by
  have H := Lib.hid h
  have hfr := h.free
  have hlt := h.lt
  have c2 := h.cell 2 (.int .i64 (x.t1 : Int)) rfl
  have c4 := h.cell 4 (.int .i64 (x.a : Int)) rfl
  have c5 := h.cell 5 (.int .i64 (x.s : Int)) rfl
  have c12 := h.cell 12 (.bool x.pb) rfl
  have c15 := h.cell 15 (.bool x.ak) rfl
  have c16 := h.cell 16 (.bool x.fl) rfl
  have c17 := h.cell 17 (.bool x.wa) rfl
  have c19 := h.cell 19 (.int .i64 (x.lf : Int)) rfl
  rw [hfl] at c16
  have g0 : decide ((x.a : Int) < (x.s : Int)) = false := decide_eq_false (by omega)
  rw [hk] at c15
  have z0 : ((x.lf : Int) == 0) = false := beq_false (by omega)
  subst hg
  clear h hfl
  go_enter Try.func49, Try.ntmps49
  go_wp2_with fail
  go_quiet (fail)
  have H1 : Hid (RDo pb x (.slice o x.p.length c) w (w.drewN nq)) := Lib.hid ((RDo.refl H.out).on ⟨rfl, rfl, rfl, Nat.le_refl _, fun _ _ => rfl⟩)
  generalize w.drewN nq = w1 at H1 ⊢
  have d2 := H1.out.at_.cell 2 (.int .i64 (x.t1 : Int)) rfl
  have d19 := H1.out.at_.cell 19 (.int .i64 (x.lf : Int)) rfl
  have df := H1.out.at_.free
  clear c2 c4 c5 c12 c15 c16 c17 c19 hfr
  go_wp2
  refine bodyPost_ret (results_none rfl _ _ _) rfl ?_
  exact ⟨rfl, H1.out⟩
set_option maxHeartbeats 2000000 in
theorem rcount_want_z (w : World) (pb : Nat) (x : Sd) (o : Option Addr) (c : Nat) (again : Bool) (h : RAt w pb x (.slice o x.p.length c)) (hfl : x.fl = false) (ho : ¬ x.a < x.s) (hk : x.ak = false) (hw : x.wa = true) (hz : x.lf = 0) :
    Calls Try.prog 49 #[ptr pb, .bool again] w fun e w' => e = .returned (.tuple #[]) ∧ RDo pb { x with lf := x.t1 } (.slice o x.p.length c) w w' := by
  have H := Lib.hid h
  have hfr := h.free
  have hlt := h.lt
  have c2 := h.cell 2 (.int .i64 (x.t1 : Int)) rfl
  have c4 := h.cell 4 (.int .i64 (x.a : Int)) rfl
  have c5 := h.cell 5 (.int .i64 (x.s : Int)) rfl
  have c12 := h.cell 12 (.bool x.pb) rfl
  have c15 := h.cell 15 (.bool x.ak) rfl
  have c16 := h.cell 16 (.bool x.fl) rfl
  have c17 := h.cell 17 (.bool x.wa) rfl
  have c19 := h.cell 19 (.int .i64 (x.lf : Int)) rfl
  rw [hfl] at c16
  have g0 : decide ((x.a : Int) < (x.s : Int)) = false := decide_eq_false (by omega)
  rw [hk] at c15
  rw [hw] at c17
  have z0 : ((x.lf : Int) == 0) = true := beq_true (by omega)
  clear h hfl
  go_enter Try.func49, Try.ntmps49
  go_wp2_with fail
  go_quiet (fail)
  have H1 : Hid (RDo pb x (.slice o x.p.length c) w (w.drewN nq)) := Lib.hid ((RDo.refl H.out).on ⟨rfl, rfl, rfl, Nat.le_refl _, fun _ _ => rfl⟩)
  generalize w.drewN nq = w1 at H1 ⊢
  have d2 := H1.out.at_.cell 2 (.int .i64 (x.t1 : Int)) rfl
  have d19 := H1.out.at_.cell 19 (.int .i64 (x.lf : Int)) rfl
  have df := H1.out.at_.free
  clear c2 c4 c5 c12 c15 c16 c17 c19 hfr
  go_wp2
  refine bodyPost_ret (results_none rfl _ _ _) rfl ?_
  exact ⟨rfl, H1.out.set 19 _ _ rfl rfl⟩
set_option maxHeartbeats 2000000 in
theorem rcount_want_a (w : World) (pb : Nat) (x : Sd) (o : Option Addr) (c : Nat) (again : Bool) (h : RAt w pb x (.slice o x.p.length c)) (hfl : x.fl = false) (ho : ¬ x.a < x.s) (hk : x.ak = false) (hw : x.wa = true) (hz : x.lf ≠ 0) (hg : again = true) :
    Calls Try.prog 49 #[ptr pb, .bool again] w fun e w' => e = .returned (.tuple #[]) ∧ RDo pb { x with lf := x.t1 } (.slice o x.p.length c) w w' := by
  have H := Lib.hid h
  have hfr := h.free
  have hlt := h.lt
  have c2 := h.cell 2 (.int .i64 (x.t1 : Int)) rfl
  have c4 := h.cell 4 (.int .i64 (x.a : Int)) rfl
  have c5 := h.cell 5 (.int .i64 (x.s : Int)) rfl
  have c12 := h.cell 12 (.bool x.pb) rfl
  have c15 := h.cell 15 (.bool x.ak) rfl
  have c16 := h.cell 16 (.bool x.fl) rfl
  have c17 := h.cell 17 (.bool x.wa) rfl
  have c19 := h.cell 19 (.int .i64 (x.lf : Int)) rfl
  rw [hfl] at c16
  have g0 : decide ((x.a : Int) < (x.s : Int)) = false := decide_eq_false (by omega)
  rw [hk] at c15
  rw [hw] at c17
  have z0 : ((x.lf : Int) == 0) = false := beq_false (by omega)
  subst hg
  clear h hfl
  go_enter Try.func49, Try.ntmps49
  go_wp2_with fail
  go_quiet (fail)
  have H1 : Hid (RDo pb x (.slice o x.p.length c) w (w.drewN nq)) := Lib.hid ((RDo.refl H.out).on ⟨rfl, rfl, rfl, Nat.le_refl _, fun _ _ => rfl⟩)
  generalize w.drewN nq = w1 at H1 ⊢
  have d2 := H1.out.at_.cell 2 (.int .i64 (x.t1 : Int)) rfl
  have d19 := H1.out.at_.cell 19 (.int .i64 (x.lf : Int)) rfl
  have df := H1.out.at_.free
  clear c2 c4 c5 c12 c15 c16 c17 c19 hfr
  go_wp2
  refine bodyPost_ret (results_none rfl _ _ _) rfl ?_
  exact ⟨rfl, H1.out.set 19 _ _ rfl rfl⟩
set_option maxHeartbeats 2000000 in
theorem rcount_want_n (w : World) (pb : Nat) (x : Sd) (o : Option Addr) (c : Nat) (again : Bool) (h : RAt w pb x (.slice o x.p.length c)) (hfl : x.fl = false) (ho : ¬ x.a < x.s) (hk : x.ak = false) (hw : x.wa = true) (hz : x.lf ≠ 0) (hg : again = false) :
    Calls Try.prog 49 #[ptr pb, .bool again] w fun e w' => e = .returned (.tuple #[]) ∧ RDo pb x (.slice o x.p.length c) w w' := by
  have H := Lib.hid h
  have hfr := h.free
  have hlt := h.lt
  have c2 := h.cell 2 (.int .i64 (x.t1 : Int)) rfl
  have c4 := h.cell 4 (.int .i64 (x.a : Int)) rfl
  have c5 := h.cell 5 (.int .i64 (x.s : Int)) rfl
  have c12 := h.cell 12 (.bool x.pb) rfl
  have c15 := h.cell 15 (.bool x.ak) rfl
  have c16 := h.cell 16 (.bool x.fl) rfl
  have c17 := h.cell 17 (.bool x.wa) rfl
  have c19 := h.cell 19 (.int .i64 (x.lf : Int)) rfl
  rw [hfl] at c16
  have g0 : decide ((x.a : Int) < (x.s : Int)) = false := decide_eq_false (by omega)
  rw [hk] at c15
  rw [hw] at c17
  have z0 : ((x.lf : Int) == 0) = false := beq_false (by omega)
  subst hg
  clear h hfl
  go_enter Try.func49, Try.ntmps49
  go_wp2_with fail
  go_quiet (fail)
  have H1 : Hid (RDo pb x (.slice o x.p.length c) w (w.drewN nq)) := Lib.hid ((RDo.refl H.out).on ⟨rfl, rfl, rfl, Nat.le_refl _, fun _ _ => rfl⟩)
  generalize w.drewN nq = w1 at H1 ⊢
  have d2 := H1.out.at_.cell 2 (.int .i64 (x.t1 : Int)) rfl
  have d19 := H1.out.at_.cell 19 (.int .i64 (x.lf : Int)) rfl
  have df := H1.out.at_.free
  clear c2 c4 c5 c12 c15 c16 c17 c19 hfr
  go_wp2
  refine bodyPost_ret (results_none rfl _ _ _) rfl ?_
  exact ⟨rfl, H1.out⟩
set_option maxHeartbeats 2000000 in
theorem rcount_wait_z (w : World) (pb : Nat) (x : Sd) (o : Option Addr) (c : Nat) (again : Bool) (h : RAt w pb x (.slice o x.p.length c)) (hf : Fit x) (hfl : x.fl = false) (ho : ¬ x.a < x.s) (hk : x.ak = false) (hw : x.wa = false) (hp : x.pb = true) (hl : x.a < x.p.length) (hz : x.lf = 0) :
    Calls Try.prog 49 #[ptr pb, .bool again] w fun e w' => e = .returned (.tuple #[]) ∧ RDo pb { x with lf := x.t1 } (.slice o x.p.length c) w w' := by
  have H := Lib.hid h
  have hfr := h.free
  have hlt := h.lt
  have c2 := h.cell 2 (.int .i64 (x.t1 : Int)) rfl
  have c4 := h.cell 4 (.int .i64 (x.a : Int)) rfl
  have c5 := h.cell 5 (.int .i64 (x.s : Int)) rfl
  have c12 := h.cell 12 (.bool x.pb) rfl
  have c15 := h.cell 15 (.bool x.ak) rfl
  have c16 := h.cell 16 (.bool x.fl) rfl
  have c17 := h.cell 17 (.bool x.wa) rfl
  have c19 := h.cell 19 (.int .i64 (x.lf : Int)) rfl
  rw [hfl] at c16
  have g0 : decide ((x.a : Int) < (x.s : Int)) = false := decide_eq_false (by omega)
  rw [hk] at c15
  rw [hw] at c17
  rw [hp] at c12
  have g1 : decide ((0 : Int) < ((x.p.length - x.a : Nat) : Int)) = true := decide_eq_true (by omega)
  have z0 : ((x.lf : Int) == 0) = true := beq_true (by omega)
  have CW : Hid (∀ n, Calls Try.prog 32 #[ptr pb] (w.drewN n) fun e w' => e = .returned (nm (x.p.length - x.a)) ∧ ∃ m, w' = (w.drewN n).drewN m) := Lib.hid fun n => rwaits _ pb x o c (h.drewN n) hf
  clear h hfl hf
  go_enter Try.func49, Try.ntmps49
  go_wp2_with fail
  go_quiet ((go_at_call 32; exact quiet_left2 (CW.out _)))
  have H1 : Hid (RDo pb x (.slice o x.p.length c) w (w.drewN nq)) := Lib.hid ((RDo.refl H.out).on ⟨rfl, rfl, rfl, Nat.le_refl _, fun _ _ => rfl⟩)
  generalize w.drewN nq = w1 at H1 ⊢
  have d2 := H1.out.at_.cell 2 (.int .i64 (x.t1 : Int)) rfl
  have d19 := H1.out.at_.cell 19 (.int .i64 (x.lf : Int)) rfl
  have df := H1.out.at_.free
  clear c2 c4 c5 c12 c15 c16 c17 c19 hfr
  go_wp2
  refine bodyPost_ret (results_none rfl _ _ _) rfl ?_
  exact ⟨rfl, H1.out.set 19 _ _ rfl rfl⟩
set_option maxHeartbeats 2000000 in
theorem rcount_wait_a (w : World) (pb : Nat) (x : Sd) (o : Option Addr) (c : Nat) (again : Bool) (h : RAt w pb x (.slice o x.p.length c)) (hf : Fit x) (hfl : x.fl = false) (ho : ¬ x.a < x.s) (hk : x.ak = false) (hw : x.wa = false) (hp : x.pb = true) (hl : x.a < x.p.length) (hz : x.lf ≠ 0) (hg : again = true) :
    Calls Try.prog 49 #[ptr pb, .bool again] w fun e w' => e = .returned (.tuple #[]) ∧ RDo pb { x with lf := x.t1 } (.slice o x.p.length c) w w' := by
  have H := Lib.hid h
  have hfr := h.free
  have hlt := h.lt
  have c2 := h.cell 2 (.int .i64 (x.t1 : Int)) rfl
  have c4 := h.cell 4 (.int .i64 (x.a : Int)) rfl
  have c5 := h.cell 5 (.int .i64 (x.s : Int)) rfl
  have c12 := h.cell 12 (.bool x.pb) rfl
  have c15 := h.cell 15 (.bool x.ak) rfl
  have c16 := h.cell 16 (.bool x.fl) rfl
  have c17 := h.cell 17 (.bool x.wa) rfl
  have c19 := h.cell 19 (.int .i64 (x.lf : Int)) rfl
  rw [hfl] at c16
  have g0 : decide ((x.a : Int) < (x.s : Int)) = false := decide_eq_false (by omega)
  rw [hk] at c15
  rw [hw] at c17
  rw [hp] at c12
  have g1 : decide ((0 : Int) < ((x.p.length - x.a : Nat) : Int)) = true := decide_eq_true (by omega)
  have z0 : ((x.lf : Int) == 0) = false := beq_false (by omega)
  subst hg
  have CW : Hid (∀ n, Calls Try.prog 32 #[ptr pb] (w.drewN n) fun e w' => e = .returned (nm (x.p.length - x.a)) ∧ ∃ m, w' = (w.drewN n).drewN m) := Lib.hid fun n => rwaits _ pb x o c (h.drewN n) hf
  clear h hfl hf
  go_enter Try.func49, Try.ntmps49
  go_wp2_with fail
  go_quiet ((go_at_call 32; exact quiet_left2 (CW.out _)))
  have H1 : Hid (RDo pb x (.slice o x.p.length c) w (w.drewN nq)) := Lib.hid ((RDo.refl H.out).on ⟨rfl, rfl, rfl, Nat.le_refl _, fun _ _ => rfl⟩)
  generalize w.drewN nq = w1 at H1 ⊢
  have d2 := H1.out.at_.cell 2 (.int .i64 (x.t1 : Int)) rfl
  have d19 := H1.out.at_.cell 19 (.int .i64 (x.lf : Int)) rfl
  have df := H1.out.at_.free
  clear c2 c4 c5 c12 c15 c16 c17 c19 hfr
  go_wp2
  refine bodyPost_ret (results_none rfl _ _ _) rfl ?_
  exact ⟨rfl, H1.out.set 19 _ _ rfl rfl⟩
set_option maxHeartbeats 2000000 in
theorem rcount_wait_n (w : World) (pb : Nat) (x : Sd) (o : Option Addr) (c : Nat) (again : Bool) (h : RAt w pb x (.slice o x.p.length c)) (hf : Fit x) (hfl : x.fl = false) (ho : ¬ x.a < x.s) (hk : x.ak = false) (hw : x.wa = false) (hp : x.pb = true) (hl : x.a < x.p.length) (hz : x.lf ≠ 0) (hg : again = false) :
    Calls Try.prog 49 #[ptr pb, .bool again] w fun e w' => e = .returned (.tuple #[]) ∧ RDo pb x (.slice o x.p.length c) w w' := by
  have H := Lib.hid h
  have hfr := h.free
  have hlt := h.lt
  have c2 := h.cell 2 (.int .i64 (x.t1 : Int)) rfl
  have c4 := h.cell 4 (.int .i64 (x.a : Int)) rfl
  have c5 := h.cell 5 (.int .i64 (x.s : Int)) rfl
  have c12 := h.cell 12 (.bool x.pb) rfl
  have c15 := h.cell 15 (.bool x.ak) rfl
  have c16 := h.cell 16 (.bool x.fl) rfl
  have c17 := h.cell 17 (.bool x.wa) rfl
  have c19 := h.cell 19 (.int .i64 (x.lf : Int)) rfl
  rw [hfl] at c16
  have g0 : decide ((x.a : Int) < (x.s : Int)) = false := decide_eq_false (by omega)
  rw [hk] at c15
  rw [hw] at c17
  rw [hp] at c12
  have g1 : decide ((0 : Int) < ((x.p.length - x.a : Nat) : Int)) = true := decide_eq_true (by omega)
  have z0 : ((x.lf : Int) == 0) = false := beq_false (by omega)
  subst hg
  have CW : Hid (∀ n, Calls Try.prog 32 #[ptr pb] (w.drewN n) fun e w' => e = .returned (nm (x.p.length - x.a)) ∧ ∃ m, w' = (w.drewN n).drewN m) := Lib.hid fun n => rwaits _ pb x o c (h.drewN n) hf
  clear h hfl hf
  go_enter Try.func49, Try.ntmps49
  go_wp2_with fail
  go_quiet ((go_at_call 32; exact quiet_left2 (CW.out _)))
  have H1 : Hid (RDo pb x (.slice o x.p.length c) w (w.drewN nq)) := Lib.hid ((RDo.refl H.out).on ⟨rfl, rfl, rfl, Nat.le_refl _, fun _ _ => rfl⟩)
  generalize w.drewN nq = w1 at H1 ⊢
  have d2 := H1.out.at_.cell 2 (.int .i64 (x.t1 : Int)) rfl
  have d19 := H1.out.at_.cell 19 (.int .i64 (x.lf : Int)) rfl
  have df := H1.out.at_.free
  clear c2 c4 c5 c12 c15 c16 c17 c19 hfr
  go_wp2
  refine bodyPost_ret (results_none rfl _ _ _) rfl ?_
  exact ⟨rfl, H1.out⟩
set_option maxHeartbeats 2000000 in
theorem rcount_none (w : World) (pb : Nat) (x : Sd) (o : Option Addr) (c : Nat) (again : Bool) (h : RAt w pb x (.slice o x.p.length c)) (hf : Fit x) (hfl : x.fl = false) (ho : ¬ x.a < x.s) (hk : x.ak = false) (hw : x.wa = false) (hp : x.pb = true) (hl : ¬ x.a < x.p.length) :
    Calls Try.prog 49 #[ptr pb, .bool again] w fun e w' => e = .returned (.tuple #[]) ∧ RDo pb { x with lf := 0 } (.slice o x.p.length c) w w' := by
  have H := Lib.hid h
  have hfr := h.free
  have hlt := h.lt
  have c2 := h.cell 2 (.int .i64 (x.t1 : Int)) rfl
  have c4 := h.cell 4 (.int .i64 (x.a : Int)) rfl
  have c5 := h.cell 5 (.int .i64 (x.s : Int)) rfl
  have c12 := h.cell 12 (.bool x.pb) rfl
  have c15 := h.cell 15 (.bool x.ak) rfl
  have c16 := h.cell 16 (.bool x.fl) rfl
  have c17 := h.cell 17 (.bool x.wa) rfl
  have c19 := h.cell 19 (.int .i64 (x.lf : Int)) rfl
  rw [hfl] at c16
  have g0 : decide ((x.a : Int) < (x.s : Int)) = false := decide_eq_false (by omega)
  rw [hk] at c15
  rw [hw] at c17
  rw [hp] at c12
  have g1 : decide ((0 : Int) < ((x.p.length - x.a : Nat) : Int)) = false := decide_eq_false (by omega)
  have CW : Hid (∀ n, Calls Try.prog 32 #[ptr pb] (w.drewN n) fun e w' => e = .returned (nm (x.p.length - x.a)) ∧ ∃ m, w' = (w.drewN n).drewN m) := Lib.hid fun n => rwaits _ pb x o c (h.drewN n) hf
  clear h hfl hf
  go_enter Try.func49, Try.ntmps49
  go_wp2_with fail
  go_quiet ((go_at_call 32; exact quiet_left2 (CW.out _)))
  have H1 : Hid (RDo pb x (.slice o x.p.length c) w (w.drewN nq)) := Lib.hid ((RDo.refl H.out).on ⟨rfl, rfl, rfl, Nat.le_refl _, fun _ _ => rfl⟩)
  generalize w.drewN nq = w1 at H1 ⊢
  have d2 := H1.out.at_.cell 2 (.int .i64 (x.t1 : Int)) rfl
  have d19 := H1.out.at_.cell 19 (.int .i64 (x.lf : Int)) rfl
  have df := H1.out.at_.free
  clear c2 c4 c5 c12 c15 c16 c17 c19 hfr
  go_wp2
  go_end0
  exact ⟨rfl, H1.out.set 19 _ _ rfl rfl⟩
set_option maxHeartbeats 2000000 in
theorem rcount_free (w : World) (pb : Nat) (x : Sd) (o : Option Addr) (c : Nat) (again : Bool) (h : RAt w pb x (.slice o x.p.length c)) (hfl : x.fl = false) (ho : ¬ x.a < x.s) (hk : x.ak = false) (hw : x.wa = false) (hp : x.pb = false) :
    Calls Try.prog 49 #[ptr pb, .bool again] w fun e w' => e = .returned (.tuple #[]) ∧ RDo pb { x with lf := 0 } (.slice o x.p.length c) w w' := by
  have H := Lib.hid h
  have hfr := h.free
  have hlt := h.lt
  have c2 := h.cell 2 (.int .i64 (x.t1 : Int)) rfl
  have c4 := h.cell 4 (.int .i64 (x.a : Int)) rfl
  have c5 := h.cell 5 (.int .i64 (x.s : Int)) rfl
  have c12 := h.cell 12 (.bool x.pb) rfl
  have c15 := h.cell 15 (.bool x.ak) rfl
  have c16 := h.cell 16 (.bool x.fl) rfl
  have c17 := h.cell 17 (.bool x.wa) rfl
  have c19 := h.cell 19 (.int .i64 (x.lf : Int)) rfl
  rw [hfl] at c16
  have g0 : decide ((x.a : Int) < (x.s : Int)) = false := decide_eq_false (by omega)
  rw [hk] at c15
  rw [hw] at c17
  rw [hp] at c12
  clear h hfl
  go_enter Try.func49, Try.ntmps49
  go_wp2_with fail
  go_quiet (fail)
  have H1 : Hid (RDo pb x (.slice o x.p.length c) w (w.drewN nq)) := Lib.hid ((RDo.refl H.out).on ⟨rfl, rfl, rfl, Nat.le_refl _, fun _ _ => rfl⟩)
  generalize w.drewN nq = w1 at H1 ⊢
  have d2 := H1.out.at_.cell 2 (.int .i64 (x.t1 : Int)) rfl
  have d19 := H1.out.at_.cell 19 (.int .i64 (x.lf : Int)) rfl
  have df := H1.out.at_.free
  clear c2 c4 c5 c12 c15 c16 c17 c19 hfr
  go_wp2
  go_end0
  exact ⟨rfl, H1.out.set 19 _ _ rfl rfl⟩
end Go.Proofs.Ytkoaplmlabagnaa.Aq

/-
  The document's own side: New, Tick, and the number that an N(R) means. Condition: it lies where it says; its numbers are small.
-/
import Derived.Test.YtkoaplmlabagnaaAqRef1
import Derived.Deep.LoopGhost
namespace Go.Proofs.Ytkoaplmlabagnaa.Aq
open Go.RowKit Go.Proofs.Ytkoaplmlabagnaa.Base Go.Proofs.Ytkoaplmlabagnaa.Mem
abbrev amv (m : Am) : Value := .agg #[.string m.i, .bool m.taken, nm m.acked, .bool m.failed]
abbrev mO (m : Am) (T : TypeId) : Obj := .cells #[.string m.i, .bool m.taken, nm m.acked, .bool m.failed] T (0, 0)
abbrev noM (T : TypeId) : Obj := .cells #[.string ⟨#[]⟩, .bool false, .int .i64 0, .bool false] T (0, 0)
abbrev set4 (w : World) (b : Nat) (v0 v1 v2 v3 : Value) : World := (((w.setCell ⟨b, 0, none⟩ v0).setCell ⟨b, 1, none⟩ v1).setCell ⟨b, 2, none⟩ v2).setCell ⟨b, 3, none⟩ v3
theorem cells4 {w : World} {b : Nat} {u0 u1 u2 u3 : Value} {t : TypeId} (h : w.heap[b]? = some (.cells #[u0, u1, u2, u3] t)) : (w.cell? ⟨b, 0, none⟩ = some u0 ∧ w.cell? ⟨b, 1, none⟩ = some u1 ∧ w.cell? ⟨b, 2, none⟩ = some u2 ∧ w.cell? ⟨b, 3, none⟩ = some u3) ∧ ∀ i, w.frozen? ⟨b, i, none⟩ = false :=
  ⟨⟨cell_of h rfl, cell_of h rfl, cell_of h rfl, cell_of h rfl⟩, fun _ => free_of h⟩
/-- Within a call that answers what came of something: the result's own block is there. -/
structure RIn (T : TypeId) (pb : Nat) (x : Sd) (v : Value) (w w1 : World) : Prop where
  does : RDo pb x v w w1
  lt : pb < w.heap.size
  q : ∀ g, v.ownBlock = some g → g < w.heap.size
  new : w1.heap[w.heap.size]? = some (noM T)
section
variable {T : TypeId} {pb : Nat} {x y : Sd} {v : Value} {w w' w1 w2 : World}
theorem RIn.start (h0 : RAt w pb y v) (h : RDo pb x v w w') (hs : w'.heap.size = w.heap.size) : RIn T pb x v w (w'.alloc (noM T)) :=
  ⟨h.on ((Below.refl _ _).alloc (Nat.le_refl _) _), h0.lt, fun g hg => (h0.q.lt g hg).2, by rw [← hs]; exact nest w' [_] 0 _ rfl⟩
theorem RIn.drewN (h : RIn T pb x v w w1) (n : Nat) : RIn T pb x v w (w1.drewN n) := ⟨h.does.on ⟨rfl, rfl, rfl, Nat.le_refl _, fun _ _ => rfl⟩, h.lt, h.q, h.new⟩
theorem RIn.set (h : RIn T pb x v w w1) (i : Nat) (u : Value) (y : Sd) (hy : (rcs x v).setIfInBounds i u = rcs y v) (hp : y.p = x.p) : RIn T pb y v w (w1.setCell ⟨pb, i, none⟩ u) :=
  ⟨h.does.set i u y hy hp, h.lt, h.q, (set_other (by have := h.lt; omega) u).trans h.new⟩
theorem RIn.next (h : RIn T pb x v w w1) (h2 : RDo pb y v w1 w2) : RIn T pb y v w w2 := ⟨h.does.then h2, h.lt, h.q, h2.chg.stays h.new (fun e => by have := h.lt; omega)⟩
theorem RIn.below (h : RIn T pb x v w w1) (hb : Below w1.heap.size w1 w2) : RIn T pb x v w w2 := ⟨h.does.on hb, h.lt, h.q, stays h.new hb⟩
theorem RIn.out (h : RIn T pb x v w w1) (v0 v1 v2 v3 : Value) : RDo pb x v w (set4 w1 w.heap.size v0 v1 v2 v3) := by
  have hp := h.lt
  have hc : ∀ {S : Nat → Prop} {a b : World}, Chg S a b → ∀ {n : Nat}, (n < a.heap.size → S n) → Chg S a (set4 b n v0 v1 v2 v3) := fun h n hb => (((h.setCell _ 0 v0 hb).setCell _ 1 v1 hb).setCell _ 2 v2 hb).setCell _ 3 v3 hb
  have ho : ∀ {k : Nat}, k ≠ w.heap.size → (set4 w1 w.heap.size v0 v1 v2 v3).heap[k]? = w1.heap[k]? := fun hk => (set_other hk v3).trans ((set_other hk v2).trans ((set_other hk v1).trans (set_other hk v0)))
  exact ⟨⟨(ho (by omega)).trans h.does.at_.blk, h.does.at_.q.eqv fun g hg => ho (by have := h.q g hg; omega)⟩, hc h.does.chg fun e => by omega⟩
end
abbrev TR : TypeId := 71
set_option maxHeartbeats 1000000 in
theorem rtick_fl (w : World) (pb : Nat) (x : Sd) (v : Value) (h : RAt w pb x v) (hfl : x.fl = true) :
    Calls Try.prog 29 #[ptr pb] w fun e w' => e = .returned (amv noAm) ∧ RDo pb x v w w' := by
  have H := Lib.hid h
  have hfr := h.free
  have hlt := h.lt
  have c16 := h.cell 16 (.bool x.fl) rfl
  have c19 := h.cell 19 (.int .i64 (x.lf : Int)) rfl
  rw [hfl] at c16
  clear h hfl
  go_enter Try.func29, Try.ntmps29
  go_wp2
  exact bodyPost_ret (v := amv noAm) (by simp [results, Try.results29, go_sem, noAm, bE]) rfl ⟨rfl, (RDo.refl H.out).on ((Below.refl _ _).alloc (Nat.le_refl _) _)⟩
set_option maxHeartbeats 1000000 in
theorem rtick_no (w : World) (pb : Nat) (x : Sd) (v : Value) (h : RAt w pb x v) (hfl : x.fl = false) (hz : x.lf = 0) :
    Calls Try.prog 29 #[ptr pb] w fun e w' => e = .returned (amv noAm) ∧ RDo pb x v w w' := by
  have H := Lib.hid h
  have hfr := h.free
  have hlt := h.lt
  have c16 := h.cell 16 (.bool x.fl) rfl
  have c19 := h.cell 19 (.int .i64 (x.lf : Int)) rfl
  rw [hfl] at c16
  have z0 : ((x.lf : Int) == 0) = true := beq_true (by omega)
  clear h hfl hz
  go_enter Try.func29, Try.ntmps29
  go_wp2
  exact bodyPost_ret (v := amv noAm) (by simp [results, Try.results29, go_sem, noAm, bE]) rfl ⟨rfl, (RDo.refl H.out).on ((Below.refl _ _).alloc (Nat.le_refl _) _)⟩
set_option maxHeartbeats 1000000 in
theorem rtick_less (w : World) (pb : Nat) (x : Sd) (v : Value) (h : RAt w pb x v) (hf : Fit x) (hfl : x.fl = false) (hz : 1 < x.lf) :
    Calls Try.prog 29 #[ptr pb] w fun e w' => e = .returned (amv noAm) ∧ RDo pb { x with lf := x.lf - 1 } v w w' := by
  have H := Lib.hid h
  have hfr := h.free
  have hlt := h.lt
  have c16 := h.cell 16 (.bool x.fl) rfl
  have c19 := h.cell 19 (.int .i64 (x.lf : Int)) rfl
  rw [hfl] at c16
  have hb := hf.lf
  have z0 : ((x.lf : Int) == 0) = false := beq_false (by omega)
  have z1 : IntKind.i64.wrap ((x.lf : Int) - 1) = ((x.lf - 1 : Nat) : Int) := by rw [IntKind.wrap_i64]; omega
  obtain ⟨m, hm⟩ : ∃ m, x.lf - 1 = m := ⟨_, rfl⟩
  have z2 : decide ((0 : Int) < (m : Int)) = true := decide_eq_true (by omega)
  have z3 : (0 : Int) < (m : Int) := by omega
  rw [hm] at z1 ⊢
  clear h hf hfl hz hb hm
  go_enter Try.func29, Try.ntmps29
  go_wp2
  exact bodyPost_ret (v := amv noAm) (by simp [results, Try.results29, go_sem, noAm, bE]) rfl ⟨rfl, ((RDo.refl H.out).set 19 (nm m) { x with lf := m } rfl rfl).on ((Below.refl _ _).alloc (Nat.le_refl _) _)⟩
set_option maxHeartbeats 2000000 in
theorem rtick_out_y (w : World) (pb : Nat) (x : Sd) (v : Value) (h : RAt w pb x v) (hf : Fit x) (hfl : x.fl = false) (hz : x.lf = 1) (ho : x.a < x.s) (hn : x.n2 < x.tr + 1) :
    Calls Try.prog 29 #[ptr pb] w fun e w' => e = .returned (amv ⟨bE, false, 0, true⟩) ∧ RDo pb { x with lf := 0, tr := x.tr + 1, fl := true } v w w' := by
  have H := Lib.hid h
  have hfr := h.free
  have hlt := h.lt
  have c4 := h.cell 4 (.int .i64 (x.a : Int)) rfl
  have c5 := h.cell 5 (.int .i64 (x.s : Int)) rfl
  have c15 := h.cell 15 (.bool x.ak) rfl
  have c16 := h.cell 16 (.bool x.fl) rfl
  have c18 := h.cell 18 (.int .i64 (x.tr : Int)) rfl
  have c19 := h.cell 19 (.int .i64 (x.lf : Int)) rfl
  rw [hfl] at c16
  rw [hz] at c19
  have g0 : decide ((x.a : Int) < (x.s : Int)) = true := decide_eq_true (by omega)
  have ht := hf.tr
  have vt : IntKind.i64.wrap ((x.tr : Int) + 1) = ((x.tr + 1 : Nat) : Int) := by rw [IntKind.wrap_i64]; omega
  have vl : IntKind.i64.wrap 0 = 0 := by decide
  obtain ⟨tr, htr⟩ : ∃ tr, x.tr + 1 = tr := ⟨_, rfl⟩
  rw [htr] at hn vt ⊢
  have g2 : decide ((x.n2 : Int) < (tr : Int)) = true := decide_eq_true (by omega)
  have g3 : decide (x.n2 < tr) = true := decide_eq_true (by omega)
  have g4 : x.n2 < tr := by omega
  have HI0 : Hid (RIn TR pb { x with lf := 0 } v w ((w.setCell ⟨pb, 19, none⟩ (.int .i64 0)).alloc (noM TR))) := Lib.hid (RIn.start h ((RDo.refl h).set 19 (.int .i64 0) { x with lf := 0 } rfl rfl) (by simp))
  clear h hf hfl hz hn ht
  go_enter Try.func29, Try.ntmps29
  go_wp2_with fail
  go_quiet (fail)
  have HI1 := Lib.hid (HI0.out.drewN nq)
  generalize ((w.setCell ⟨pb, 19, none⟩ (.int .i64 0)).alloc (noM TR)).drewN nq = w1 at HI1 ⊢
  clear c4 c5 c15 c16 c18 c19 hfr
  have df := HI1.out.does.at_.free
  have d1 := HI1.out.does.at_.cell 1 (.int .i64 (x.n2 : Int)) rfl
  have d2 := HI1.out.does.at_.cell 2 (.int .i64 (x.t1 : Int)) rfl
  have d11 := HI1.out.does.at_.cell 11 (.bool x.poll) rfl
  have d15 := HI1.out.does.at_.cell 15 (.bool x.ak) rfl
  have d16 := HI1.out.does.at_.cell 16 (.bool x.fl) rfl
  have d18 := HI1.out.does.at_.cell 18 (.int .i64 (x.tr : Int)) rfl
  have d19 := HI1.out.does.at_.cell 19 (.int .i64 0) rfl
  go_wp2_with fail
  go_quiet (fail)
  have HI2 : Hid (RIn TR pb { x with lf := 0, tr := tr } v w ((w1.setCell ⟨pb, 18, none⟩ (nm tr)).drewN nq)) := Lib.hid ((HI1.out.set 18 (nm tr) { x with lf := 0, tr := tr } rfl rfl).drewN nq)
  generalize (w1.setCell ⟨pb, 18, none⟩ (nm tr)).drewN nq = w2 at HI2 ⊢
  clear df d1 d2 d11 d15 d16 d18 d19
  have df := HI2.out.does.at_.free
  have d2 := HI2.out.does.at_.cell 2 (.int .i64 (x.t1 : Int)) rfl
  have d11 := HI2.out.does.at_.cell 11 (.bool x.poll) rfl
  have d15 := HI2.out.does.at_.cell 15 (.bool x.ak) rfl
  have d16 := HI2.out.does.at_.cell 16 (.bool x.fl) rfl
  have d19 := HI2.out.does.at_.cell 19 (.int .i64 0) rfl
  have HE := Lib.hid (HI2.out.set 16 (.bool true) { x with lf := 0, tr := tr, fl := true } rfl rfl)
  have hn0 := HI2.out.lt
  obtain ⟨⟨k0, k1, k2, k3⟩, kf⟩ := cells4 HI2.out.new
  obtain ⟨⟨e0, e1, e2, e3⟩, -⟩ := cells4 HE.out.new
  go_wp2
  exact bodyPost_ret (v := amv ⟨bE, false, 0, true⟩) (by simp [results, Try.results29, go_sem, e0, e1, e2, e3, bE]) rfl ⟨rfl, HE.out.out _ _ _ _⟩
set_option maxHeartbeats 2000000 in
theorem rtick_out_n (w : World) (pb : Nat) (x : Sd) (v : Value) (h : RAt w pb x v) (hf : Fit x) (hfl : x.fl = false) (hz : x.lf = 1) (ho : x.a < x.s) (hn : ¬ x.n2 < x.tr + 1) :
    Calls Try.prog 29 #[ptr pb] w fun e w' => e = .returned (amv noAm) ∧ RDo pb { x with lf := x.t1, tr := x.tr + 1, ak := true, poll := true } v w w' := by
  have H := Lib.hid h
  have hfr := h.free
  have hlt := h.lt
  have c4 := h.cell 4 (.int .i64 (x.a : Int)) rfl
  have c5 := h.cell 5 (.int .i64 (x.s : Int)) rfl
  have c15 := h.cell 15 (.bool x.ak) rfl
  have c16 := h.cell 16 (.bool x.fl) rfl
  have c18 := h.cell 18 (.int .i64 (x.tr : Int)) rfl
  have c19 := h.cell 19 (.int .i64 (x.lf : Int)) rfl
  rw [hfl] at c16
  rw [hz] at c19
  have g0 : decide ((x.a : Int) < (x.s : Int)) = true := decide_eq_true (by omega)
  have ht := hf.tr
  have vt : IntKind.i64.wrap ((x.tr : Int) + 1) = ((x.tr + 1 : Nat) : Int) := by rw [IntKind.wrap_i64]; omega
  have vl : IntKind.i64.wrap 0 = 0 := by decide
  obtain ⟨tr, htr⟩ : ∃ tr, x.tr + 1 = tr := ⟨_, rfl⟩
  rw [htr] at hn vt ⊢
  have g2 : decide ((x.n2 : Int) < (tr : Int)) = false := decide_eq_false (by omega)
  have g3 : decide (x.n2 < tr) = false := decide_eq_false (by omega)
  have g4 : ¬ x.n2 < tr := by omega
  have HI0 : Hid (RIn TR pb { x with lf := 0 } v w ((w.setCell ⟨pb, 19, none⟩ (.int .i64 0)).alloc (noM TR))) := Lib.hid (RIn.start h ((RDo.refl h).set 19 (.int .i64 0) { x with lf := 0 } rfl rfl) (by simp))
  clear h hf hfl hz hn ht
  go_enter Try.func29, Try.ntmps29
  go_wp2_with fail
  go_quiet (fail)
  have HI1 := Lib.hid (HI0.out.drewN nq)
  generalize ((w.setCell ⟨pb, 19, none⟩ (.int .i64 0)).alloc (noM TR)).drewN nq = w1 at HI1 ⊢
  clear c4 c5 c15 c16 c18 c19 hfr
  have df := HI1.out.does.at_.free
  have d1 := HI1.out.does.at_.cell 1 (.int .i64 (x.n2 : Int)) rfl
  have d2 := HI1.out.does.at_.cell 2 (.int .i64 (x.t1 : Int)) rfl
  have d11 := HI1.out.does.at_.cell 11 (.bool x.poll) rfl
  have d15 := HI1.out.does.at_.cell 15 (.bool x.ak) rfl
  have d16 := HI1.out.does.at_.cell 16 (.bool x.fl) rfl
  have d18 := HI1.out.does.at_.cell 18 (.int .i64 (x.tr : Int)) rfl
  have d19 := HI1.out.does.at_.cell 19 (.int .i64 0) rfl
  go_wp2_with fail
  go_quiet (fail)
  have HI2 : Hid (RIn TR pb { x with lf := 0, tr := tr } v w ((w1.setCell ⟨pb, 18, none⟩ (nm tr)).drewN nq)) := Lib.hid ((HI1.out.set 18 (nm tr) { x with lf := 0, tr := tr } rfl rfl).drewN nq)
  generalize (w1.setCell ⟨pb, 18, none⟩ (nm tr)).drewN nq = w2 at HI2 ⊢
  clear df d1 d2 d11 d15 d16 d18 d19
  have df := HI2.out.does.at_.free
  have d2 := HI2.out.does.at_.cell 2 (.int .i64 (x.t1 : Int)) rfl
  have d11 := HI2.out.does.at_.cell 11 (.bool x.poll) rfl
  have d15 := HI2.out.does.at_.cell 15 (.bool x.ak) rfl
  have d16 := HI2.out.does.at_.cell 16 (.bool x.fl) rfl
  have d19 := HI2.out.does.at_.cell 19 (.int .i64 0) rfl
  have HE := Lib.hid (((HI2.out.set 15 (.bool true) { x with lf := 0, tr := tr, ak := true } rfl rfl).set 11 (.bool true) { x with lf := 0, tr := tr, ak := true, poll := true } rfl rfl).set 19 (nm x.t1) { x with lf := x.t1, tr := tr, ak := true, poll := true } rfl rfl)
  have hn0 := HI2.out.lt
  obtain ⟨⟨k0, k1, k2, k3⟩, kf⟩ := cells4 HI2.out.new
  obtain ⟨⟨e0, e1, e2, e3⟩, -⟩ := cells4 HE.out.new
  go_wp2
  exact bodyPost_ret (v := amv noAm) (by simp [results, Try.results29, go_sem, e0, e1, e2, e3, noAm, bE]) rfl ⟨rfl, HE.out.out _ _ _ _⟩
set_option maxHeartbeats 2000000 in
theorem rtick_ask_y (w : World) (pb : Nat) (x : Sd) (v : Value) (h : RAt w pb x v) (hf : Fit x) (hfl : x.fl = false) (hz : x.lf = 1) (ho : ¬ x.a < x.s) (hk : x.ak = true) (hn : x.n2 < x.tr + 1) :
    Calls Try.prog 29 #[ptr pb] w fun e w' => e = .returned (amv ⟨bE, false, 0, true⟩) ∧ RDo pb { x with lf := 0, tr := x.tr + 1, fl := true } v w w' := by
  have H := Lib.hid h
  have hfr := h.free
  have hlt := h.lt
  have c4 := h.cell 4 (.int .i64 (x.a : Int)) rfl
  have c5 := h.cell 5 (.int .i64 (x.s : Int)) rfl
  have c15 := h.cell 15 (.bool x.ak) rfl
  have c16 := h.cell 16 (.bool x.fl) rfl
  have c18 := h.cell 18 (.int .i64 (x.tr : Int)) rfl
  have c19 := h.cell 19 (.int .i64 (x.lf : Int)) rfl
  rw [hfl] at c16
  rw [hz] at c19
  have g0 : decide ((x.a : Int) < (x.s : Int)) = false := decide_eq_false (by omega)
  rw [hk] at c15
  have ht := hf.tr
  have vt : IntKind.i64.wrap ((x.tr : Int) + 1) = ((x.tr + 1 : Nat) : Int) := by rw [IntKind.wrap_i64]; omega
  have vl : IntKind.i64.wrap 0 = 0 := by decide
  obtain ⟨tr, htr⟩ : ∃ tr, x.tr + 1 = tr := ⟨_, rfl⟩
  rw [htr] at hn vt ⊢
  have g2 : decide ((x.n2 : Int) < (tr : Int)) = true := decide_eq_true (by omega)
  have g3 : decide (x.n2 < tr) = true := decide_eq_true (by omega)
  have g4 : x.n2 < tr := by omega
  have HI0 : Hid (RIn TR pb { x with lf := 0 } v w ((w.setCell ⟨pb, 19, none⟩ (.int .i64 0)).alloc (noM TR))) := Lib.hid (RIn.start h ((RDo.refl h).set 19 (.int .i64 0) { x with lf := 0 } rfl rfl) (by simp))
  clear h hf hfl hz hn ht
  go_enter Try.func29, Try.ntmps29
  go_wp2_with fail
  go_quiet (fail)
  have HI1 := Lib.hid (HI0.out.drewN nq)
  generalize ((w.setCell ⟨pb, 19, none⟩ (.int .i64 0)).alloc (noM TR)).drewN nq = w1 at HI1 ⊢
  clear c4 c5 c15 c16 c18 c19 hfr
  have df := HI1.out.does.at_.free
  have d1 := HI1.out.does.at_.cell 1 (.int .i64 (x.n2 : Int)) rfl
  have d2 := HI1.out.does.at_.cell 2 (.int .i64 (x.t1 : Int)) rfl
  have d11 := HI1.out.does.at_.cell 11 (.bool x.poll) rfl
  have d15 := HI1.out.does.at_.cell 15 (.bool x.ak) rfl
  have d16 := HI1.out.does.at_.cell 16 (.bool x.fl) rfl
  have d18 := HI1.out.does.at_.cell 18 (.int .i64 (x.tr : Int)) rfl
  have d19 := HI1.out.does.at_.cell 19 (.int .i64 0) rfl
  go_wp2_with fail
  go_quiet (fail)
  have HI2 : Hid (RIn TR pb { x with lf := 0, tr := tr } v w ((w1.setCell ⟨pb, 18, none⟩ (nm tr)).drewN nq)) := Lib.hid ((HI1.out.set 18 (nm tr) { x with lf := 0, tr := tr } rfl rfl).drewN nq)
  generalize (w1.setCell ⟨pb, 18, none⟩ (nm tr)).drewN nq = w2 at HI2 ⊢
  clear df d1 d2 d11 d15 d16 d18 d19
  have df := HI2.out.does.at_.free
  have d2 := HI2.out.does.at_.cell 2 (.int .i64 (x.t1 : Int)) rfl
  have d11 := HI2.out.does.at_.cell 11 (.bool x.poll) rfl
  have d15 := HI2.out.does.at_.cell 15 (.bool x.ak) rfl
  have d16 := HI2.out.does.at_.cell 16 (.bool x.fl) rfl
  have d19 := HI2.out.does.at_.cell 19 (.int .i64 0) rfl
  have HE := Lib.hid (HI2.out.set 16 (.bool true) { x with lf := 0, tr := tr, fl := true } rfl rfl)
  have hn0 := HI2.out.lt
  obtain ⟨⟨k0, k1, k2, k3⟩, kf⟩ := cells4 HI2.out.new
  obtain ⟨⟨e0, e1, e2, e3⟩, -⟩ := cells4 HE.out.new
  go_wp2
  exact bodyPost_ret (v := amv ⟨bE, false, 0, true⟩) (by simp [results, Try.results29, go_sem, e0, e1, e2, e3, bE]) rfl ⟨rfl, HE.out.out _ _ _ _⟩
set_option maxHeartbeats 2000000 in
theorem rtick_ask_n (w : World) (pb : Nat) (x : Sd) (v : Value) (h : RAt w pb x v) (hf : Fit x) (hfl : x.fl = false) (hz : x.lf = 1) (ho : ¬ x.a < x.s) (hk : x.ak = true) (hn : ¬ x.n2 < x.tr + 1) :
    Calls Try.prog 29 #[ptr pb] w fun e w' => e = .returned (amv noAm) ∧ RDo pb { x with lf := x.t1, tr := x.tr + 1, ak := true, poll := true } v w w' := by
  have H := Lib.hid h
  have hfr := h.free
  have hlt := h.lt
  have c4 := h.cell 4 (.int .i64 (x.a : Int)) rfl
  have c5 := h.cell 5 (.int .i64 (x.s : Int)) rfl
  have c15 := h.cell 15 (.bool x.ak) rfl
  have c16 := h.cell 16 (.bool x.fl) rfl
  have c18 := h.cell 18 (.int .i64 (x.tr : Int)) rfl
  have c19 := h.cell 19 (.int .i64 (x.lf : Int)) rfl
  rw [hfl] at c16
  rw [hz] at c19
  have g0 : decide ((x.a : Int) < (x.s : Int)) = false := decide_eq_false (by omega)
  rw [hk] at c15
  have ht := hf.tr
  have vt : IntKind.i64.wrap ((x.tr : Int) + 1) = ((x.tr + 1 : Nat) : Int) := by rw [IntKind.wrap_i64]; omega
  have vl : IntKind.i64.wrap 0 = 0 := by decide
  obtain ⟨tr, htr⟩ : ∃ tr, x.tr + 1 = tr := ⟨_, rfl⟩
  rw [htr] at hn vt ⊢
  have g2 : decide ((x.n2 : Int) < (tr : Int)) = false := decide_eq_false (by omega)
  have g3 : decide (x.n2 < tr) = false := decide_eq_false (by omega)
  have g4 : ¬ x.n2 < tr := by omega
  have HI0 : Hid (RIn TR pb { x with lf := 0 } v w ((w.setCell ⟨pb, 19, none⟩ (.int .i64 0)).alloc (noM TR))) := Lib.hid (RIn.start h ((RDo.refl h).set 19 (.int .i64 0) { x with lf := 0 } rfl rfl) (by simp))
  clear h hf hfl hz hn ht
  go_enter Try.func29, Try.ntmps29
  go_wp2_with fail
  go_quiet (fail)
  have HI1 := Lib.hid (HI0.out.drewN nq)
  generalize ((w.setCell ⟨pb, 19, none⟩ (.int .i64 0)).alloc (noM TR)).drewN nq = w1 at HI1 ⊢
  clear c4 c5 c15 c16 c18 c19 hfr
  have df := HI1.out.does.at_.free
  have d1 := HI1.out.does.at_.cell 1 (.int .i64 (x.n2 : Int)) rfl
  have d2 := HI1.out.does.at_.cell 2 (.int .i64 (x.t1 : Int)) rfl
  have d11 := HI1.out.does.at_.cell 11 (.bool x.poll) rfl
  have d15 := HI1.out.does.at_.cell 15 (.bool x.ak) rfl
  have d16 := HI1.out.does.at_.cell 16 (.bool x.fl) rfl
  have d18 := HI1.out.does.at_.cell 18 (.int .i64 (x.tr : Int)) rfl
  have d19 := HI1.out.does.at_.cell 19 (.int .i64 0) rfl
  go_wp2_with fail
  go_quiet (fail)
  have HI2 : Hid (RIn TR pb { x with lf := 0, tr := tr } v w ((w1.setCell ⟨pb, 18, none⟩ (nm tr)).drewN nq)) := Lib.hid ((HI1.out.set 18 (nm tr) { x with lf := 0, tr := tr } rfl rfl).drewN nq)
  generalize (w1.setCell ⟨pb, 18, none⟩ (nm tr)).drewN nq = w2 at HI2 ⊢
  clear df d1 d2 d11 d15 d16 d18 d19
  have df := HI2.out.does.at_.free
  have d2 := HI2.out.does.at_.cell 2 (.int .i64 (x.t1 : Int)) rfl
  have d11 := HI2.out.does.at_.cell 11 (.bool x.poll) rfl
  have d15 := HI2.out.does.at_.cell 15 (.bool x.ak) rfl
  have d16 := HI2.out.does.at_.cell 16 (.bool x.fl) rfl
  have d19 := HI2.out.does.at_.cell 19 (.int .i64 0) rfl
  have HE := Lib.hid (((HI2.out.set 15 (.bool true) { x with lf := 0, tr := tr, ak := true } rfl rfl).set 11 (.bool true) { x with lf := 0, tr := tr, ak := true, poll := true } rfl rfl).set 19 (nm x.t1) { x with lf := x.t1, tr := tr, ak := true, poll := true } rfl rfl)
  have hn0 := HI2.out.lt
  obtain ⟨⟨k0, k1, k2, k3⟩, kf⟩ := cells4 HI2.out.new
  obtain ⟨⟨e0, e1, e2, e3⟩, -⟩ := cells4 HE.out.new
  go_wp2
  exact bodyPost_ret (v := amv noAm) (by simp [results, Try.results29, go_sem, e0, e1, e2, e3, noAm, bE]) rfl ⟨rfl, HE.out.out _ _ _ _⟩
set_option maxHeartbeats 2000000 in
theorem rtick_none_y (w : World) (pb : Nat) (x : Sd) (v : Value) (h : RAt w pb x v) (hf : Fit x) (hfl : x.fl = false) (hz : x.lf = 1) (ho : ¬ x.a < x.s) (hk : x.ak = false) (hn : x.n2 < x.tr) :
    Calls Try.prog 29 #[ptr pb] w fun e w' => e = .returned (amv ⟨bE, false, 0, true⟩) ∧ RDo pb { x with lf := 0, tr := x.tr, fl := true } v w w' := by
  have H := Lib.hid h
  have hfr := h.free
  have hlt := h.lt
  have c4 := h.cell 4 (.int .i64 (x.a : Int)) rfl
  have c5 := h.cell 5 (.int .i64 (x.s : Int)) rfl
  have c15 := h.cell 15 (.bool x.ak) rfl
  have c16 := h.cell 16 (.bool x.fl) rfl
  have c18 := h.cell 18 (.int .i64 (x.tr : Int)) rfl
  have c19 := h.cell 19 (.int .i64 (x.lf : Int)) rfl
  rw [hfl] at c16
  rw [hz] at c19
  have g0 : decide ((x.a : Int) < (x.s : Int)) = false := decide_eq_false (by omega)
  rw [hk] at c15
  have ht := hf.tr
  have vt : IntKind.i64.wrap ((x.tr : Int) + 1) = ((x.tr + 1 : Nat) : Int) := by rw [IntKind.wrap_i64]; omega
  have vl : IntKind.i64.wrap 0 = 0 := by decide
  obtain ⟨tr, htr⟩ : ∃ tr, x.tr = tr := ⟨_, rfl⟩
  rw [htr] at hn ⊢
  have g2 : decide ((x.n2 : Int) < (tr : Int)) = true := decide_eq_true (by omega)
  have g3 : decide (x.n2 < tr) = true := decide_eq_true (by omega)
  have g4 : x.n2 < tr := by omega
  have HI0 : Hid (RIn TR pb { x with lf := 0 } v w ((w.setCell ⟨pb, 19, none⟩ (.int .i64 0)).alloc (noM TR))) := Lib.hid (RIn.start h ((RDo.refl h).set 19 (.int .i64 0) { x with lf := 0 } rfl rfl) (by simp))
  clear h hf hfl hz hn ht
  go_enter Try.func29, Try.ntmps29
  go_wp2_with fail
  go_quiet (fail)
  have HI1 := Lib.hid (HI0.out.drewN nq)
  generalize ((w.setCell ⟨pb, 19, none⟩ (.int .i64 0)).alloc (noM TR)).drewN nq = w1 at HI1 ⊢
  clear c4 c5 c15 c16 c18 c19 hfr
  have df := HI1.out.does.at_.free
  have d1 := HI1.out.does.at_.cell 1 (.int .i64 (x.n2 : Int)) rfl
  have d2 := HI1.out.does.at_.cell 2 (.int .i64 (x.t1 : Int)) rfl
  have d11 := HI1.out.does.at_.cell 11 (.bool x.poll) rfl
  have d15 := HI1.out.does.at_.cell 15 (.bool x.ak) rfl
  have d16 := HI1.out.does.at_.cell 16 (.bool x.fl) rfl
  have d18 := HI1.out.does.at_.cell 18 (.int .i64 (x.tr : Int)) rfl
  have d19 := HI1.out.does.at_.cell 19 (.int .i64 0) rfl
  go_wp2_with fail
  go_quiet (fail)
  have HI2 : Hid (RIn TR pb { x with lf := 0, tr := tr } v w (w1.drewN nq)) := Lib.hid (htr ▸ HI1.out.drewN nq)
  generalize w1.drewN nq = w2 at HI2 ⊢
  clear df d1 d2 d11 d15 d16 d18 d19
  have df := HI2.out.does.at_.free
  have d2 := HI2.out.does.at_.cell 2 (.int .i64 (x.t1 : Int)) rfl
  have d11 := HI2.out.does.at_.cell 11 (.bool x.poll) rfl
  have d15 := HI2.out.does.at_.cell 15 (.bool x.ak) rfl
  have d16 := HI2.out.does.at_.cell 16 (.bool x.fl) rfl
  have d19 := HI2.out.does.at_.cell 19 (.int .i64 0) rfl
  have HE := Lib.hid (HI2.out.set 16 (.bool true) { x with lf := 0, tr := tr, fl := true } rfl rfl)
  have hn0 := HI2.out.lt
  obtain ⟨⟨k0, k1, k2, k3⟩, kf⟩ := cells4 HI2.out.new
  obtain ⟨⟨e0, e1, e2, e3⟩, -⟩ := cells4 HE.out.new
  go_wp2
  exact bodyPost_ret (v := amv ⟨bE, false, 0, true⟩) (by simp [results, Try.results29, go_sem, e0, e1, e2, e3, bE]) rfl ⟨rfl, HE.out.out _ _ _ _⟩
set_option maxHeartbeats 2000000 in
theorem rtick_none_n (w : World) (pb : Nat) (x : Sd) (v : Value) (h : RAt w pb x v) (hf : Fit x) (hfl : x.fl = false) (hz : x.lf = 1) (ho : ¬ x.a < x.s) (hk : x.ak = false) (hn : ¬ x.n2 < x.tr) :
    Calls Try.prog 29 #[ptr pb] w fun e w' => e = .returned (amv noAm) ∧ RDo pb { x with lf := x.t1, tr := x.tr, ak := true, poll := true } v w w' := by
  have H := Lib.hid h
  have hfr := h.free
  have hlt := h.lt
  have c4 := h.cell 4 (.int .i64 (x.a : Int)) rfl
  have c5 := h.cell 5 (.int .i64 (x.s : Int)) rfl
  have c15 := h.cell 15 (.bool x.ak) rfl
  have c16 := h.cell 16 (.bool x.fl) rfl
  have c18 := h.cell 18 (.int .i64 (x.tr : Int)) rfl
  have c19 := h.cell 19 (.int .i64 (x.lf : Int)) rfl
  rw [hfl] at c16
  rw [hz] at c19
  have g0 : decide ((x.a : Int) < (x.s : Int)) = false := decide_eq_false (by omega)
  rw [hk] at c15
  have ht := hf.tr
  have vt : IntKind.i64.wrap ((x.tr : Int) + 1) = ((x.tr + 1 : Nat) : Int) := by rw [IntKind.wrap_i64]; omega
  have vl : IntKind.i64.wrap 0 = 0 := by decide
  obtain ⟨tr, htr⟩ : ∃ tr, x.tr = tr := ⟨_, rfl⟩
  rw [htr] at hn ⊢
  have g2 : decide ((x.n2 : Int) < (tr : Int)) = false := decide_eq_false (by omega)
  have g3 : decide (x.n2 < tr) = false := decide_eq_false (by omega)
  have g4 : ¬ x.n2 < tr := by omega
  have HI0 : Hid (RIn TR pb { x with lf := 0 } v w ((w.setCell ⟨pb, 19, none⟩ (.int .i64 0)).alloc (noM TR))) := Lib.hid (RIn.start h ((RDo.refl h).set 19 (.int .i64 0) { x with lf := 0 } rfl rfl) (by simp))
  clear h hf hfl hz hn ht
  go_enter Try.func29, Try.ntmps29
  go_wp2_with fail
  go_quiet (fail)
  have HI1 := Lib.hid (HI0.out.drewN nq)
  generalize ((w.setCell ⟨pb, 19, none⟩ (.int .i64 0)).alloc (noM TR)).drewN nq = w1 at HI1 ⊢
  clear c4 c5 c15 c16 c18 c19 hfr
  have df := HI1.out.does.at_.free
  have d1 := HI1.out.does.at_.cell 1 (.int .i64 (x.n2 : Int)) rfl
  have d2 := HI1.out.does.at_.cell 2 (.int .i64 (x.t1 : Int)) rfl
  have d11 := HI1.out.does.at_.cell 11 (.bool x.poll) rfl
  have d15 := HI1.out.does.at_.cell 15 (.bool x.ak) rfl
  have d16 := HI1.out.does.at_.cell 16 (.bool x.fl) rfl
  have d18 := HI1.out.does.at_.cell 18 (.int .i64 (x.tr : Int)) rfl
  have d19 := HI1.out.does.at_.cell 19 (.int .i64 0) rfl
  go_wp2_with fail
  go_quiet (fail)
  have HI2 : Hid (RIn TR pb { x with lf := 0, tr := tr } v w (w1.drewN nq)) := Lib.hid (htr ▸ HI1.out.drewN nq)
  generalize w1.drewN nq = w2 at HI2 ⊢
  clear df d1 d2 d11 d15 d16 d18 d19
  have df := HI2.out.does.at_.free
  have d2 := HI2.out.does.at_.cell 2 (.int .i64 (x.t1 : Int)) rfl
  have d11 := HI2.out.does.at_.cell 11 (.bool x.poll) rfl
  have d15 := HI2.out.does.at_.cell 15 (.bool x.ak) rfl
  have d16 := HI2.out.does.at_.cell 16 (.bool x.fl) rfl
  have d19 := HI2.out.does.at_.cell 19 (.int .i64 0) rfl
  have HE := Lib.hid (((HI2.out.set 15 (.bool true) { x with lf := 0, tr := tr, ak := true } rfl rfl).set 11 (.bool true) { x with lf := 0, tr := tr, ak := true, poll := true } rfl rfl).set 19 (nm x.t1) { x with lf := x.t1, tr := tr, ak := true, poll := true } rfl rfl)
  have hn0 := HI2.out.lt
  obtain ⟨⟨k0, k1, k2, k3⟩, kf⟩ := cells4 HI2.out.new
  obtain ⟨⟨e0, e1, e2, e3⟩, -⟩ := cells4 HE.out.new
  go_wp2
  exact bodyPost_ret (v := amv noAm) (by simp [results, Try.results29, go_sem, e0, e1, e2, e3, noAm, bE]) rfl ⟨rfl, HE.out.out _ _ _ _⟩
end Go.Proofs.Ytkoaplmlabagnaa.Aq

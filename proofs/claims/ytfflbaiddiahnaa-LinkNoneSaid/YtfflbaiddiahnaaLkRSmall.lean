/-
  The document's own link in memory; New, to, asks, Open, Close and Due of it. Condition: it lies where it says, its tries are within its N2.
-/
import Derived.Test.YtfflbaiddiahnaaLkTries
namespace Go.Proofs.Ytfflbaiddiahnaa.Lk
open Go.RowKit Go.Proofs.Ytfflbaiddiahnaa.Base Go.Proofs.Ytfflbaiddiahnaa.Mem
/-- A link lies in a block. -/
def RfAt (w : World) (pb : Nat) (l : Lk) : Prop := w.heap[pb]? = some (.cells (lcs l) 38 (0, 0))
/-- What a call leaves: that link, all else as it was. -/
structure RDoes (pb : Nat) (l : Lk) (w w' : World) : Prop where
  at_ : RfAt w' pb l
  chg : Chg (fun k => k = pb) w w'
theorem RfAt.cells {w : World} {pb : Nat} {l : Lk} (h : RfAt w pb l) : w.cell? ⟨pb, 0, none⟩ = some (.int .u8 l.s) ∧ w.cell? ⟨pb, 1, none⟩ = some (.bool l.li) ∧ w.cell? ⟨pb, 2, none⟩ = some (.int .i64 l.n) ∧ w.cell? ⟨pb, 3, none⟩ = some (.int .i64 l.t) :=
  ⟨cell_of h rfl, cell_of h rfl, cell_of h rfl, cell_of h rfl⟩
theorem RfAt.free {w : World} {pb : Nat} {l : Lk} (h : RfAt w pb l) : ∀ i, w.frozen? ⟨pb, i, none⟩ = false := fun _ => free_of h
theorem RfAt.lt {w : World} {pb : Nat} {l : Lk} (h : RfAt w pb l) : pb < w.heap.size := lt_heap h
theorem RfAt.below {w w' : World} {pb : Nat} {l : Lk} (h : RfAt w pb l) (hb : Below w.heap.size w w') : RfAt w' pb l := stays h hb
theorem RfAt.alloc {w : World} {pb : Nat} {l : Lk} (h : RfAt w pb l) (o : Obj) : RfAt (w.alloc o) pb l := h.below ((Below.refl _ _).alloc (Nat.le_refl _) o)
theorem RfAt.other {S : Nat → Prop} {w w' : World} {pb : Nat} {l : Lk} (h : RfAt w pb l) (hc : Chg S w w') (hn : ¬ S pb) : RfAt w' pb l := hc.stays h hn
theorem RfAt.set0 {w : World} {pb : Nat} {l : Lk} (h : RfAt w pb l) (s : Int) : RfAt (w.setCell ⟨pb, 0, none⟩ (.int .u8 s)) pb ⟨s, l.li, l.n, l.t⟩ := block_set (i := 0) h _
theorem RfAt.set1 {w : World} {pb : Nat} {l : Lk} (h : RfAt w pb l) (b : Bool) : RfAt (w.setCell ⟨pb, 1, none⟩ (.bool b)) pb ⟨l.s, b, l.n, l.t⟩ := block_set (i := 1) h _
theorem RfAt.set3 {w : World} {pb : Nat} {l : Lk} (h : RfAt w pb l) (t : Int) : RfAt (w.setCell ⟨pb, 3, none⟩ (.int .i64 t)) pb ⟨l.s, l.li, l.n, t⟩ := block_set (i := 3) h _
theorem RfAt.setOther {w : World} {pb : Nat} {l : Lk} (h : RfAt w pb l) {b : Nat} (hb : b ≠ pb) (i : Nat) (v : Value) : RfAt (w.setCell ⟨b, i, none⟩ v) pb l := (set_other (fun e => hb e.symm) v).trans h
/-- The result's own block, made ahead of a call, is as it was behind it. -/
theorem RDoes.fresh {pb : Nat} {l l0 : Lk} {w w1 : World} {o : Obj} (h0 : RfAt w pb l0) (h : RDoes pb l (w.alloc o) w1) : w1.heap[w.heap.size]? = some o :=
  h.chg.stays (nest w [o] 0 o rfl) fun e => by have := h0.lt; omega
/-- It is written then. -/
theorem RDoes.ret {pb : Nat} {l l0 : Lk} {w w1 : World} {o : Obj} (h0 : RfAt w pb l0) (h : RDoes pb l (w.alloc o) w1) (v0 v1 v2 v3 v4 : Value) : RDoes pb l w (set5 w1 w.heap.size v0 v1 v2 v3 v4) := by
  have hp := h0.lt
  refine ⟨(set5_other (by omega) _ _ _ _ _).trans h.at_, ?_⟩
  exact Chg.set5 (((Chg.refl _ w).alloc o).then h.chg) (fun e => by omega) _ _ _ _ _
theorem RDoes.refl {pb : Nat} {l : Lk} {w : World} (h : RfAt w pb l) : RDoes pb l w w := ⟨h, Chg.refl _ _⟩
theorem RDoes.alloc {pb : Nat} {l : Lk} {w w' : World} (h : RDoes pb l w w') (o : Obj) : RDoes pb l w (w'.alloc o) := ⟨h.at_.alloc o, h.chg.alloc o⟩
theorem RDoes.then {pb : Nat} {l l1 : Lk} {w w1 w2 : World} (h : RDoes pb l1 w w1) (h' : RDoes pb l w1 w2) : RDoes pb l w w2 := ⟨h'.at_, h.chg.then h'.chg⟩
/-- A new block of the call's own is written. -/
theorem RDoes.new5 {pb : Nat} {l l0 : Lk} {w w' : World} (h0 : RfAt w pb l0) (h : RDoes pb l w w') {b : Nat} (hb : w.heap.size ≤ b) (v0 v1 v2 v3 v4 : Value) : RDoes pb l w (set5 w' b v0 v1 v2 v3 v4) := by
  have hp := h0.lt
  exact ⟨(set5_other (by omega) _ _ _ _ _).trans h.at_, Chg.set5 h.chg (fun e => by omega) _ _ _ _ _⟩
theorem RDoes.set0 {pb : Nat} {l : Lk} {w w' : World} (h : RDoes pb l w w') (s : Int) : RDoes pb ⟨s, l.li, l.n, l.t⟩ w (w'.setCell ⟨pb, 0, none⟩ (.int .u8 s)) := ⟨h.at_.set0 s, h.chg.setCell pb 0 _ fun _ => rfl⟩
theorem RDoes.set1 {pb : Nat} {l : Lk} {w w' : World} (h : RDoes pb l w w') (b : Bool) : RDoes pb ⟨l.s, b, l.n, l.t⟩ w (w'.setCell ⟨pb, 1, none⟩ (.bool b)) := ⟨h.at_.set1 b, h.chg.setCell pb 1 _ fun _ => rfl⟩
theorem RDoes.set3 {pb : Nat} {l : Lk} {w w' : World} (h : RDoes pb l w w') (t : Int) : RDoes pb ⟨l.s, l.li, l.n, t⟩ w (w'.setCell ⟨pb, 3, none⟩ (.int .i64 t)) := ⟨h.at_.set3 t, h.chg.setCell pb 3 _ fun _ => rfl⟩
/-- Within a call that answers an answer: the result's own block is there. -/
structure RIn (pb : Nat) (l : Lk) (w w1 : World) : Prop where
  does : RDoes pb l w w1
  lt : pb < w.heap.size
  new : w1.heap[w.heap.size]? = some (noA 34)
theorem RIn.start {pb : Nat} {l : Lk} {w w' : World} (h : RDoes pb l w w') (hs : w'.heap.size = w.heap.size) : RIn pb l w (w'.alloc (noA 34)) :=
  ⟨h.alloc _, by have := h.at_.lt; omega, by rw [← hs]; exact nest w' [_] 0 _ rfl⟩
theorem RIn.below {pb : Nat} {l : Lk} {w w1 w2 : World} (h : RIn pb l w w1) (hb : Below w1.heap.size w1 w2) : RIn pb l w w2 :=
  ⟨⟨h.does.at_.below hb, h.does.chg.on hb⟩, h.lt, stays h.new hb⟩
theorem RIn.next {pb : Nat} {l l2 : Lk} {w w1 w2 : World} (h : RIn pb l w w1) (h2 : RDoes pb l2 w1 w2) : RIn pb l2 w w2 :=
  ⟨h.does.then h2, h.lt, h2.chg.stays h.new (fun e => by have := h.lt; omega)⟩
theorem RIn.at_ {pb : Nat} {l : Lk} {w w1 : World} (h : RIn pb l w w1) : RfAt w1 pb l := h.does.at_
theorem RIn.cells {pb : Nat} {l : Lk} {w w1 : World} (h : RIn pb l w w1) : (w1.cell? ⟨w.heap.size, 0, none⟩ = some (.int .u8 0) ∧ w1.cell? ⟨w.heap.size, 1, none⟩ = some (.bool false) ∧ w1.cell? ⟨w.heap.size, 2, none⟩ = some (.bool false) ∧ w1.cell? ⟨w.heap.size, 3, none⟩ = some (.int .u8 0) ∧ w1.cell? ⟨w.heap.size, 4, none⟩ = some (.int .u8 0)) ∧ ∀ i, w1.frozen? ⟨w.heap.size, i, none⟩ = false := cells5 h.new
theorem RIn.out {pb : Nat} {l : Lk} {w w1 : World} (h : RIn pb l w w1) (v0 v1 v2 v3 v4 : Value) : RDoes pb l w (set5 w1 w.heap.size v0 v1 v2 v3 v4) := by
  have hp := h.lt
  exact ⟨(set5_other (by omega) _ _ _ _ _).trans h.does.at_, Chg.set5 h.does.chg (fun e => by omega) _ _ _ _ _⟩
theorem RIn.drewN {pb : Nat} {l : Lk} {w w1 : World} (h : RIn pb l w w1) (n : Nat) : RIn pb l w (w1.drewN n) := h.below ⟨rfl, rfl, rfl, Nat.le_refl _, fun _ _ => rfl⟩
theorem RIn.set3 {pb : Nat} {l : Lk} {w w1 : World} (h : RIn pb l w w1) (t : Int) : RIn pb ⟨l.s, l.li, l.n, t⟩ w (w1.setCell ⟨pb, 3, none⟩ (.int .i64 t)) := h.next ((RDoes.refl h.at_).set3 t)
theorem rnew (n : Int) (w : World) :
    Calls Try.prog 11 #[.int .i64 n] w fun e w' => e = .returned (ptr w.heap.size) ∧ RfAt w' w.heap.size (new n) ∧ Below w.heap.size w w' := by
  go_enter Try.func11, Try.ntmps11
  go_wp2
  go_ret
  exact ⟨rfl, nest w [_] 0 _ rfl, nest_below w [_]⟩
set_option maxHeartbeats 1000000 in
theorem rto (w : World) (pb : Nat) (l : Lk) (s : Int) (a : Ac) (h : RfAt w pb l) :
    Calls Try.prog 31 #[ptr pb, .int .u8 s, av a] w fun e w' => e = .returned (av a) ∧ RDoes pb ⟨s, l.li, l.n, l.t⟩ w w' := by
  have H := Lib.hid h
  have hf := h.free
  have hlt := h.lt
  obtain ⟨c0, -, -, -⟩ := h.cells
  clear h
  go_enter Try.func31, Try.ntmps31
  go_wp2
  refine bodyPost_ret (v := av a) (by simp [results, Try.results31, go_sem]) rfl ⟨rfl, ?_⟩
  exact (((RDoes.refl H.out).set0 s).alloc _).alloc _
set_option maxHeartbeats 1000000 in
theorem rasks (w : World) (pb : Nat) (l : Lk) (s k : Int) (h : RfAt w pb l) :
    Calls Try.prog 30 #[ptr pb, .int .u8 s, .int .u8 k] w fun e w' => e = .returned (av ⟨k, true, true, 1, 0⟩) ∧ RDoes pb ⟨s, l.li, l.n, 0⟩ w w' := by
  have H := Lib.hid h
  have hf := h.free
  have hlt := h.lt
  obtain ⟨-, -, -, c3⟩ := h.cells
  have H1 : Hid (RIn pb ⟨l.s, l.li, l.n, 0⟩ w ((w.setCell ⟨pb, 3, none⟩ (.int .i64 0)).alloc (noA 34))) := Lib.hid (RIn.start ((RDoes.refl H.out).set3 0) (by simp))
  clear h
  go_enter Try.func30, Try.ntmps30
  go_wp2_with (first
    | (go_at_call 31; ((with_reducible refine (rto _ pb _ s ⟨k, true, true, 1, 0⟩ H1.out.at_).mono ?_); rintro e w2 ⟨rfl, hd⟩; have H2 := Lib.hid (H1.out.next hd); clear hd; obtain ⟨⟨k0, k1, k2, k3, k4⟩, kf⟩ := H2.out.cells)))
  refine bodyPost_ret (v := av ⟨k, true, true, 1, 0⟩) (by simp [results, Try.results30, go_sem, k0, k1, k2, k3, k4]) rfl ⟨rfl, ?_⟩
  exact H2.out.out _ _ _ _ _
set_option maxHeartbeats 1000000 in
theorem rOpen_1 (w : World) (pb : Nat) (li : Bool) (n t : Int) (h : RfAt w pb ⟨1, li, n, t⟩) :
    Calls Try.prog 24 #[ptr pb] w fun e w' => e = .returned (av ⟨1, true, true, 1, 0⟩) ∧ RDoes pb ⟨2, li, n, 0⟩ w w' := by
  have H := Lib.hid h
  have hf := h.free
  have hlt := h.lt
  obtain ⟨c0, -, -, -⟩ := h.cells
  clear h
  go_enter Try.func24, Try.ntmps24
  go_wp2_with (first
    | (go_at_call 30; ((with_reducible refine (rasks _ pb _ 2 1 (RIn.start (RDoes.refl H.out) rfl).at_).mono ?_); rintro e w2 ⟨rfl, hd⟩; have H2 := Lib.hid ((RIn.start (RDoes.refl H.out) rfl).next hd); clear hd; obtain ⟨⟨k0, k1, k2, k3, k4⟩, kf⟩ := H2.out.cells)))
  exact bodyPost_ret (v := av ⟨1, true, true, 1, 0⟩) (by simp [results, Try.results24, go_sem, k0, k1, k2, k3, k4]) rfl ⟨rfl, H2.out.out _ _ _ _ _⟩
set_option maxHeartbeats 1000000 in
theorem rOpen_2 (w : World) (pb : Nat) (li : Bool) (n t : Int) (h : RfAt w pb ⟨2, li, n, t⟩) :
    Calls Try.prog 24 #[ptr pb] w fun e w' => e = .returned (av ⟨0, false, false, 0, 0⟩) ∧ RDoes pb ⟨2, li, n, t⟩ w w' := by
  have H := Lib.hid h
  have hf := h.free
  have hlt := h.lt
  obtain ⟨c0, -, -, -⟩ := h.cells
  clear h
  go_enter Try.func24, Try.ntmps24
  go_wp2
  exact bodyPost_ret (v := av ⟨0, false, false, 0, 0⟩) (by simp [results, Try.results24, go_sem]) rfl ⟨rfl, (RDoes.refl H.out).alloc _⟩
set_option maxHeartbeats 1000000 in
theorem rOpen_3 (w : World) (pb : Nat) (li : Bool) (n t : Int) (h : RfAt w pb ⟨3, li, n, t⟩) :
    Calls Try.prog 24 #[ptr pb] w fun e w' => e = .returned (av ⟨0, false, false, 0, 0⟩) ∧ RDoes pb ⟨3, li, n, t⟩ w w' := by
  have H := Lib.hid h
  have hf := h.free
  have hlt := h.lt
  obtain ⟨c0, -, -, -⟩ := h.cells
  clear h
  go_enter Try.func24, Try.ntmps24
  go_wp2
  exact bodyPost_ret (v := av ⟨0, false, false, 0, 0⟩) (by simp [results, Try.results24, go_sem]) rfl ⟨rfl, (RDoes.refl H.out).alloc _⟩
set_option maxHeartbeats 1000000 in
theorem rOpen_4 (w : World) (pb : Nat) (li : Bool) (n t : Int) (h : RfAt w pb ⟨4, li, n, t⟩) :
    Calls Try.prog 24 #[ptr pb] w fun e w' => e = .returned (av ⟨0, false, false, 0, 0⟩) ∧ RDoes pb ⟨4, li, n, t⟩ w w' := by
  have H := Lib.hid h
  have hf := h.free
  have hlt := h.lt
  obtain ⟨c0, -, -, -⟩ := h.cells
  clear h
  go_enter Try.func24, Try.ntmps24
  go_wp2
  exact bodyPost_ret (v := av ⟨0, false, false, 0, 0⟩) (by simp [results, Try.results24, go_sem]) rfl ⟨rfl, (RDoes.refl H.out).alloc _⟩
set_option maxHeartbeats 1000000 in
theorem rOpen_5 (w : World) (pb : Nat) (li : Bool) (n t : Int) (h : RfAt w pb ⟨5, li, n, t⟩) :
    Calls Try.prog 24 #[ptr pb] w fun e w' => e = .returned (av ⟨1, true, true, 1, 0⟩) ∧ RDoes pb ⟨2, li, n, 0⟩ w w' := by
  have H := Lib.hid h
  have hf := h.free
  have hlt := h.lt
  obtain ⟨c0, -, -, -⟩ := h.cells
  clear h
  go_enter Try.func24, Try.ntmps24
  go_wp2_with (first
    | (go_at_call 30; ((with_reducible refine (rasks _ pb _ 2 1 (RIn.start (RDoes.refl H.out) rfl).at_).mono ?_); rintro e w2 ⟨rfl, hd⟩; have H2 := Lib.hid ((RIn.start (RDoes.refl H.out) rfl).next hd); clear hd; obtain ⟨⟨k0, k1, k2, k3, k4⟩, kf⟩ := H2.out.cells)))
  exact bodyPost_ret (v := av ⟨1, true, true, 1, 0⟩) (by simp [results, Try.results24, go_sem, k0, k1, k2, k3, k4]) rfl ⟨rfl, H2.out.out _ _ _ _ _⟩
theorem rOpen (w : World) (pb : Nat) (l : Lk) (hl : l.Ok) (h : RfAt w pb l) (r : Lk × Ac) (hr : on l .opens = r) :
    Calls Try.prog 24 #[ptr pb] w fun x w' => x = .returned (av r.2) ∧ RDoes pb r.1 w w' := by
  subst hr
  have hs : l.s = 1 ∨ l.s = 2 ∨ l.s = 3 ∨ l.s = 4 ∨ l.s = 5 := by have := hl.s0; have := hl.s1; omega
  obtain ⟨s, li, n, t⟩ := l
  dsimp only at hs
  rcases hs with rfl | rfl | rfl | rfl | rfl
  · exact rOpen_1 w pb li n t h
  · exact rOpen_2 w pb li n t h
  · exact rOpen_3 w pb li n t h
  · exact rOpen_4 w pb li n t h
  · exact rOpen_5 w pb li n t h
set_option maxHeartbeats 1000000 in
theorem rClose_1 (w : World) (pb : Nat) (li : Bool) (n t : Int) (h : RfAt w pb ⟨1, li, n, t⟩) :
    Calls Try.prog 25 #[ptr pb] w fun e w' => e = .returned (av ⟨0, false, false, 0, 0⟩) ∧ RDoes pb ⟨1, li, n, t⟩ w w' := by
  have H := Lib.hid h
  have hf := h.free
  have hlt := h.lt
  obtain ⟨c0, -, -, -⟩ := h.cells
  clear h
  go_enter Try.func25, Try.ntmps25
  go_wp2
  exact bodyPost_ret (v := av ⟨0, false, false, 0, 0⟩) (by simp [results, Try.results25, go_sem]) rfl ⟨rfl, (RDoes.refl H.out).alloc _⟩
set_option maxHeartbeats 1000000 in
theorem rClose_2 (w : World) (pb : Nat) (li : Bool) (n t : Int) (h : RfAt w pb ⟨2, li, n, t⟩) :
    Calls Try.prog 25 #[ptr pb] w fun e w' => e = .returned (av ⟨4, true, true, 1, 0⟩) ∧ RDoes pb ⟨4, li, n, 0⟩ w w' := by
  have H := Lib.hid h
  have hf := h.free
  have hlt := h.lt
  obtain ⟨c0, -, -, -⟩ := h.cells
  clear h
  go_enter Try.func25, Try.ntmps25
  go_wp2_with (first
    | (go_at_call 30; ((with_reducible refine (rasks _ pb _ 4 4 (RIn.start (RDoes.refl H.out) rfl).at_).mono ?_); rintro e w2 ⟨rfl, hd⟩; have H2 := Lib.hid ((RIn.start (RDoes.refl H.out) rfl).next hd); clear hd; obtain ⟨⟨k0, k1, k2, k3, k4⟩, kf⟩ := H2.out.cells)))
  exact bodyPost_ret (v := av ⟨4, true, true, 1, 0⟩) (by simp [results, Try.results25, go_sem, k0, k1, k2, k3, k4]) rfl ⟨rfl, H2.out.out _ _ _ _ _⟩
set_option maxHeartbeats 1000000 in
theorem rClose_3 (w : World) (pb : Nat) (li : Bool) (n t : Int) (h : RfAt w pb ⟨3, li, n, t⟩) :
    Calls Try.prog 25 #[ptr pb] w fun e w' => e = .returned (av ⟨4, true, true, 1, 0⟩) ∧ RDoes pb ⟨4, li, n, 0⟩ w w' := by
  have H := Lib.hid h
  have hf := h.free
  have hlt := h.lt
  obtain ⟨c0, -, -, -⟩ := h.cells
  clear h
  go_enter Try.func25, Try.ntmps25
  go_wp2_with (first
    | (go_at_call 30; ((with_reducible refine (rasks _ pb _ 4 4 (RIn.start (RDoes.refl H.out) rfl).at_).mono ?_); rintro e w2 ⟨rfl, hd⟩; have H2 := Lib.hid ((RIn.start (RDoes.refl H.out) rfl).next hd); clear hd; obtain ⟨⟨k0, k1, k2, k3, k4⟩, kf⟩ := H2.out.cells)))
  exact bodyPost_ret (v := av ⟨4, true, true, 1, 0⟩) (by simp [results, Try.results25, go_sem, k0, k1, k2, k3, k4]) rfl ⟨rfl, H2.out.out _ _ _ _ _⟩
set_option maxHeartbeats 1000000 in
theorem rClose_4 (w : World) (pb : Nat) (li : Bool) (n t : Int) (h : RfAt w pb ⟨4, li, n, t⟩) :
    Calls Try.prog 25 #[ptr pb] w fun e w' => e = .returned (av ⟨0, false, false, 0, 0⟩) ∧ RDoes pb ⟨4, li, n, t⟩ w w' := by
  have H := Lib.hid h
  have hf := h.free
  have hlt := h.lt
  obtain ⟨c0, -, -, -⟩ := h.cells
  clear h
  go_enter Try.func25, Try.ntmps25
  go_wp2
  exact bodyPost_ret (v := av ⟨0, false, false, 0, 0⟩) (by simp [results, Try.results25, go_sem]) rfl ⟨rfl, (RDoes.refl H.out).alloc _⟩
set_option maxHeartbeats 1000000 in
theorem rClose_5 (w : World) (pb : Nat) (li : Bool) (n t : Int) (h : RfAt w pb ⟨5, li, n, t⟩) :
    Calls Try.prog 25 #[ptr pb] w fun e w' => e = .returned (av ⟨0, false, false, 0, 0⟩) ∧ RDoes pb ⟨5, li, n, t⟩ w w' := by
  have H := Lib.hid h
  have hf := h.free
  have hlt := h.lt
  obtain ⟨c0, -, -, -⟩ := h.cells
  clear h
  go_enter Try.func25, Try.ntmps25
  go_wp2
  exact bodyPost_ret (v := av ⟨0, false, false, 0, 0⟩) (by simp [results, Try.results25, go_sem]) rfl ⟨rfl, (RDoes.refl H.out).alloc _⟩
theorem rClose (w : World) (pb : Nat) (l : Lk) (hl : l.Ok) (h : RfAt w pb l) (r : Lk × Ac) (hr : on l .closes = r) :
    Calls Try.prog 25 #[ptr pb] w fun x w' => x = .returned (av r.2) ∧ RDoes pb r.1 w w' := by
  subst hr
  have hs : l.s = 1 ∨ l.s = 2 ∨ l.s = 3 ∨ l.s = 4 ∨ l.s = 5 := by have := hl.s0; have := hl.s1; omega
  obtain ⟨s, li, n, t⟩ := l
  dsimp only at hs
  rcases hs with rfl | rfl | rfl | rfl | rfl
  · exact rClose_1 w pb li n t h
  · exact rClose_2 w pb li n t h
  · exact rClose_3 w pb li n t h
  · exact rClose_4 w pb li n t h
  · exact rClose_5 w pb li n t h
set_option maxHeartbeats 1000000 in
theorem rDue_1 (w : World) (pb : Nat) (li : Bool) (n t : Int) (h : RfAt w pb ⟨1, li, n, t⟩) :
    Calls Try.prog 26 #[ptr pb] w fun e w' => e = .returned (av ⟨0, false, false, 0, 0⟩) ∧ RDoes pb ⟨1, li, n, t⟩ w w' := by
  have H := Lib.hid h
  have hf := h.free
  have hlt := h.lt
  obtain ⟨c0, -, -, -⟩ := h.cells
  clear h
  go_enter Try.func26, Try.ntmps26
  go_wp2
  exact bodyPost_ret (v := av ⟨0, false, false, 0, 0⟩) (by simp [results, Try.results26, go_sem]) rfl ⟨rfl, (RDoes.refl H.out).alloc _⟩
set_option maxHeartbeats 1000000 in
theorem rDue_3 (w : World) (pb : Nat) (li : Bool) (n t : Int) (h : RfAt w pb ⟨3, li, n, t⟩) :
    Calls Try.prog 26 #[ptr pb] w fun e w' => e = .returned (av ⟨0, false, false, 0, 0⟩) ∧ RDoes pb ⟨3, li, n, t⟩ w w' := by
  have H := Lib.hid h
  have hf := h.free
  have hlt := h.lt
  obtain ⟨c0, -, -, -⟩ := h.cells
  clear h
  go_enter Try.func26, Try.ntmps26
  go_wp2
  exact bodyPost_ret (v := av ⟨0, false, false, 0, 0⟩) (by simp [results, Try.results26, go_sem]) rfl ⟨rfl, (RDoes.refl H.out).alloc _⟩
set_option maxHeartbeats 1000000 in
theorem rDue_5 (w : World) (pb : Nat) (li : Bool) (n t : Int) (h : RfAt w pb ⟨5, li, n, t⟩) :
    Calls Try.prog 26 #[ptr pb] w fun e w' => e = .returned (av ⟨0, false, false, 0, 0⟩) ∧ RDoes pb ⟨5, li, n, t⟩ w w' := by
  have H := Lib.hid h
  have hf := h.free
  have hlt := h.lt
  obtain ⟨c0, -, -, -⟩ := h.cells
  clear h
  go_enter Try.func26, Try.ntmps26
  go_wp2
  exact bodyPost_ret (v := av ⟨0, false, false, 0, 0⟩) (by simp [results, Try.results26, go_sem]) rfl ⟨rfl, (RDoes.refl H.out).alloc _⟩
set_option maxHeartbeats 1000000 in
theorem rDue_2_y (w : World) (pb : Nat) (li : Bool) (n t : Int) (h : RfAt w pb ⟨2, li, n, t⟩) (h0 : 0 ≤ t) (h1 : t < n) (h2 : n ≤ 255) :
    Calls Try.prog 26 #[ptr pb] w fun e w' => e = .returned (av ⟨1, true, true, 1, 0⟩) ∧ RDoes pb ⟨2, li, n, t + 1⟩ w w' := by
  have H := Lib.hid h
  have hf := h.free
  have hlt := h.lt
  obtain ⟨c0, -, c2, c3⟩ := h.cells
  have g : decide (t < n) = true := decide_eq_true h1
  have q := wrap_id t h0 (by omega)
  clear h h1 h2
  go_enter Try.func26, Try.ntmps26
  go_wp2_with fail
  go_quiet (fail)
  have HI : Hid (RIn pb ⟨2, li, n, t⟩ w ((w.alloc (noA 34)).drewN nq)) := Lib.hid ((RIn.start (RDoes.refl H.out) rfl).drewN nq)
  generalize (w.alloc (noA 34)).drewN nq = v at HI ⊢
  have hf2 := HI.out.at_.free
  have hlt2 := HI.out.at_.lt
  obtain ⟨d0, -, d2, d3⟩ := HI.out.at_.cells
  obtain ⟨⟨k0, k1, k2, k3, k4⟩, kf⟩ := HI.out.cells
  clear c0 c2 c3 hf
  go_wp2
  exact bodyPost_ret (v := av ⟨1, true, true, 1, 0⟩) (by simp [results, Try.results26, go_sem, k0, k1, k2, k3, k4]) rfl ⟨rfl, (HI.out.set3 (t + 1)).out _ _ _ _ _⟩
set_option maxHeartbeats 1000000 in
theorem rDue_2_n (w : World) (pb : Nat) (li : Bool) (n t : Int) (h : RfAt w pb ⟨2, li, n, t⟩) (h1 : ¬ t < n) :
    Calls Try.prog 26 #[ptr pb] w fun e w' => e = .returned (av ⟨0, false, false, 2, 6⟩) ∧ RDoes pb ⟨5, li, n, t⟩ w w' := by
  have H := Lib.hid h
  have hf := h.free
  have hlt := h.lt
  obtain ⟨c0, -, c2, c3⟩ := h.cells
  have g : decide (t < n) = false := decide_eq_false h1
  clear h h1
  go_enter Try.func26, Try.ntmps26
  go_wp2_with fail
  go_quiet (fail)
  have HI : Hid (RIn pb ⟨2, li, n, t⟩ w ((w.alloc (noA 34)).drewN nq)) := Lib.hid ((RIn.start (RDoes.refl H.out) rfl).drewN nq)
  generalize (w.alloc (noA 34)).drewN nq = v at HI ⊢
  have hf2 := HI.out.at_.free
  have hlt2 := HI.out.at_.lt
  obtain ⟨d0, -, d2, d3⟩ := HI.out.at_.cells
  obtain ⟨⟨k0, k1, k2, k3, k4⟩, kf⟩ := HI.out.cells
  clear c0 c2 c3 hf
  go_wp2_with (first
    | (go_at_call 31; ((with_reducible refine (rto _ pb _ 5 ⟨0, false, false, 2, 6⟩ HI.out.at_).mono ?_); rintro e w2 ⟨rfl, hd⟩; have H2 := Lib.hid (HI.out.next hd); clear hd k0 k1 k2 k3 k4 kf; obtain ⟨⟨k0, k1, k2, k3, k4⟩, kf⟩ := H2.out.cells)))
  exact bodyPost_ret (v := av ⟨0, false, false, 2, 6⟩) (by simp [results, Try.results26, go_sem, k0, k1, k2, k3, k4]) rfl ⟨rfl, H2.out.out _ _ _ _ _⟩
set_option maxHeartbeats 1000000 in
theorem rDue_4_y (w : World) (pb : Nat) (li : Bool) (n t : Int) (h : RfAt w pb ⟨4, li, n, t⟩) (h0 : 0 ≤ t) (h1 : t < n) (h2 : n ≤ 255) :
    Calls Try.prog 26 #[ptr pb] w fun e w' => e = .returned (av ⟨4, true, true, 1, 0⟩) ∧ RDoes pb ⟨4, li, n, t + 1⟩ w w' := by
  have H := Lib.hid h
  have hf := h.free
  have hlt := h.lt
  obtain ⟨c0, -, c2, c3⟩ := h.cells
  have g : decide (t < n) = true := decide_eq_true h1
  have q := wrap_id t h0 (by omega)
  clear h h1 h2
  go_enter Try.func26, Try.ntmps26
  go_wp2_with fail
  go_quiet (fail)
  have HI : Hid (RIn pb ⟨4, li, n, t⟩ w ((w.alloc (noA 34)).drewN nq)) := Lib.hid ((RIn.start (RDoes.refl H.out) rfl).drewN nq)
  generalize (w.alloc (noA 34)).drewN nq = v at HI ⊢
  have hf2 := HI.out.at_.free
  have hlt2 := HI.out.at_.lt
  obtain ⟨d0, -, d2, d3⟩ := HI.out.at_.cells
  obtain ⟨⟨k0, k1, k2, k3, k4⟩, kf⟩ := HI.out.cells
  clear c0 c2 c3 hf
  go_wp2
  exact bodyPost_ret (v := av ⟨4, true, true, 1, 0⟩) (by simp [results, Try.results26, go_sem, k0, k1, k2, k3, k4]) rfl ⟨rfl, (HI.out.set3 (t + 1)).out _ _ _ _ _⟩
set_option maxHeartbeats 1000000 in
theorem rDue_4_n (w : World) (pb : Nat) (li : Bool) (n t : Int) (h : RfAt w pb ⟨4, li, n, t⟩) (h1 : ¬ t < n) :
    Calls Try.prog 26 #[ptr pb] w fun e w' => e = .returned (av ⟨0, false, false, 2, 6⟩) ∧ RDoes pb ⟨5, li, n, t⟩ w w' := by
  have H := Lib.hid h
  have hf := h.free
  have hlt := h.lt
  obtain ⟨c0, -, c2, c3⟩ := h.cells
  have g : decide (t < n) = false := decide_eq_false h1
  clear h h1
  go_enter Try.func26, Try.ntmps26
  go_wp2_with fail
  go_quiet (fail)
  have HI : Hid (RIn pb ⟨4, li, n, t⟩ w ((w.alloc (noA 34)).drewN nq)) := Lib.hid ((RIn.start (RDoes.refl H.out) rfl).drewN nq)
  generalize (w.alloc (noA 34)).drewN nq = v at HI ⊢
  have hf2 := HI.out.at_.free
  have hlt2 := HI.out.at_.lt
  obtain ⟨d0, -, d2, d3⟩ := HI.out.at_.cells
  obtain ⟨⟨k0, k1, k2, k3, k4⟩, kf⟩ := HI.out.cells
  clear c0 c2 c3 hf
  go_wp2_with (first
    | (go_at_call 31; ((with_reducible refine (rto _ pb _ 5 ⟨0, false, false, 2, 6⟩ HI.out.at_).mono ?_); rintro e w2 ⟨rfl, hd⟩; have H2 := Lib.hid (HI.out.next hd); clear hd k0 k1 k2 k3 k4 kf; obtain ⟨⟨k0, k1, k2, k3, k4⟩, kf⟩ := H2.out.cells)))
  exact bodyPost_ret (v := av ⟨0, false, false, 2, 6⟩) (by simp [results, Try.results26, go_sem, k0, k1, k2, k3, k4]) rfl ⟨rfl, H2.out.out _ _ _ _ _⟩
theorem rDue (w : World) (pb : Nat) (l : Lk) (hl : l.Ok) (h : RfAt w pb l) (r : Lk × Ac) (hr : on l .due = r) :
    Calls Try.prog 26 #[ptr pb] w fun x w' => x = .returned (av r.2) ∧ RDoes pb r.1 w w' := by
  subst hr
  have hs : l.s = 1 ∨ l.s = 2 ∨ l.s = 3 ∨ l.s = 4 ∨ l.s = 5 := by have := hl.s0; have := hl.s1; omega
  have h1 := hl.n1
  have h2 := hl.t0
  obtain ⟨s, li, n, t⟩ := l
  dsimp only at hs h1 h2
  rcases hs with rfl | rfl | rfl | rfl | rfl
  · exact rDue_1 w pb li n t h
  · have e : on ⟨2, li, n, t⟩ .due = again ⟨2, li, n, t⟩ := rfl
    rw [e]
    unfold again
    by_cases ht : t < n
    · rw [if_pos ht]; exact rDue_2_y w pb li n t h h2 ht h1
    · rw [if_neg ht]; exact rDue_2_n w pb li n t h ht
  · exact rDue_3 w pb li n t h
  · have e : on ⟨4, li, n, t⟩ .due = again ⟨4, li, n, t⟩ := rfl
    rw [e]
    unfold again
    by_cases ht : t < n
    · rw [if_pos ht]; exact rDue_4_y w pb li n t h h2 ht h1
    · rw [if_neg ht]; exact rDue_4_n w pb li n t h ht
  · exact rDue_5 w pb li n t h
end Go.Proofs.Ytfflbaiddiahnaa.Lk

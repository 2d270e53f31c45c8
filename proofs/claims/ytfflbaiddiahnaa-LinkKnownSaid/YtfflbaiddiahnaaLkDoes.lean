/-
  An event of the statements, done to a link, to the document's own, and to one that is not there; two answers compared. Condition: a link lies where it says, its tries are within its N2; a kind of a frame is an octet.
-/
import Derived.Test.YtfflbaiddiahnaaLkCalls
import Derived.Test.YtfflbaiddiahnaaLkRHear
import Derived.Test.YtfflbaiddiahnaaPick
import Derived.Laws.StructEq
namespace Go.Proofs.Ytfflbaiddiahnaa.Lk
open Go.RowKit Go.Proofs.Ytfflbaiddiahnaa.Base Go.Proofs.Ytfflbaiddiahnaa.Mem
/-- An event of the statements. -/
structure Et where
  kind : Int
  fr : Int
  pf : Bool
  c : Bool
def Et.In (_ : Et) : Prop := True
def Fits (e : Et) : Prop := 0 ≤ e.fr ∧ e.fr < 256
abbrev ecs (e : Et) : Array Value := #[.int .i64 e.kind, .int .u8 e.fr, .bool e.pf, .bool e.c]
abbrev ev (e : Et) : Value := .agg #[.int .i64 e.kind, .int .u8 e.fr, .bool e.pf, .bool e.c]
/-- What it does. -/
def doE (l : Lk) (e : Et) : Lk × Ac :=
  if place e.kind 6 = 0 then on l .opens else if place e.kind 6 = 1 then on l .closes else if place e.kind 6 = 2 then on l .due
  else if place e.kind 6 = 3 then (⟨l.s, e.pf, l.n, l.t⟩, ⟨0, false, false, 0, 0⟩) else on l (evOf e.fr e.pf e.c)
theorem doE_ok {l : Lk} (h : l.Ok) (e : Et) : (doE l e).1.Ok := by
  unfold doE
  repeat' split
  all_goals first
    | exact on_ok h _
    | exact ⟨h.s0, h.s1, h.n1, h.t0, h.t1⟩
theorem In.cellsAt {pb : Nat} {l : Lk} {w w1 : World} (h : In pb l w w1) {n : Nat} (hn : w.heap.size = n) : (w1.cell? ⟨n, 0, none⟩ = some (.int .u8 0) ∧ w1.cell? ⟨n, 1, none⟩ = some (.bool false) ∧ w1.cell? ⟨n, 2, none⟩ = some (.bool false) ∧ w1.cell? ⟨n, 3, none⟩ = some (.int .u8 0) ∧ w1.cell? ⟨n, 4, none⟩ = some (.int .u8 0)) ∧ ∀ i, w1.frozen? ⟨n, i, none⟩ = false := by subst hn; exact h.cells
theorem In.outAt {pb : Nat} {l l0 : Lk} {w w1 : World} {o : Obj} (h0 : LkAt w pb l0) (h : In pb l (w.alloc o) w1) {n : Nat} (hn : w.heap.size + 1 = n) (v0 v1 v2 v3 v4 : Value) : Does pb l w (set5 w1 n v0 v1 v2 v3 v4) := by
  subst hn
  have := h.out v0 v1 v2 v3 v4
  rw [size_alloc] at this
  exact ((Does.refl h0).alloc o).then this
theorem RIn.cellsAt {pb : Nat} {l : Lk} {w w1 : World} (h : RIn pb l w w1) {n : Nat} (hn : w.heap.size = n) : (w1.cell? ⟨n, 0, none⟩ = some (.int .u8 0) ∧ w1.cell? ⟨n, 1, none⟩ = some (.bool false) ∧ w1.cell? ⟨n, 2, none⟩ = some (.bool false) ∧ w1.cell? ⟨n, 3, none⟩ = some (.int .u8 0) ∧ w1.cell? ⟨n, 4, none⟩ = some (.int .u8 0)) ∧ ∀ i, w1.frozen? ⟨n, i, none⟩ = false := by subst hn; exact h.cells
theorem RIn.outAt {pb : Nat} {l l0 : Lk} {w w1 : World} {o : Obj} (h0 : RfAt w pb l0) (h : RIn pb l (w.alloc o) w1) {n : Nat} (hn : w.heap.size + 1 = n) (v0 v1 v2 v3 v4 : Value) : RDoes pb l w (set5 w1 n v0 v1 v2 v3 v4) := by
  subst hn
  have := h.out v0 v1 v2 v3 v4
  rw [size_alloc] at this
  exact ((RDoes.refl h0).alloc o).then this
theorem pickE (a : Int) (m : Nat) (hm : place a 6 = m) (w : World) : Calls Try.prog 23 #[.int .i64 a, .int .i64 6] w fun e w' => e = .returned (.int .i64 (m : Int)) ∧ w = w' := by
  subst hm; exact pick a 6 (by decide) (by decide) w
set_option maxHeartbeats 1000000 in
theorem fdoE_0 (w : World) (pb : Nat) (l : Lk) (e : Et) (hm : place e.kind 6 = 0) (hl : l.Ok) (h : LkAt w pb l) (r : Lk × Ac) (hr : on l .opens = r) :
    Calls Try.prog 13 #[ptr pb, ev e] w fun x w' => x = .returned (av r.2) ∧ Does pb r.1 w w' := by
  have H := Lib.hid h
  have CP : Hid (∀ w, Calls Try.prog 23 #[.int .i64 e.kind, .int .i64 6] w fun x w' => x = .returned (.int .i64 0) ∧ w = w') := Lib.hid fun w => pickE e.kind 0 hm w
  have CW : Hid (∀ w, LkAt w pb l → Calls Try.prog 18 #[ptr pb] w fun x w' => x = .returned (av r.2) ∧ Does pb r.1 w w') := Lib.hid fun w h => fOpen w pb l hl h r hr
  obtain ⟨l2, a⟩ := r
  clear h hm hl hr
  go_enter Try.func13, Try.ntmps13
  go_wp2_with (first
    | (go_at_call 23; ((with_reducible refine (CP.out _).mono ?_); rintro x w1 ⟨rfl, rfl⟩))
    | (go_at_call 18; ((with_reducible refine (CW.out _ (In.start (Does.refl (H.out.alloc (.cells (ecs e) 33 (0, 0)))) rfl).at_).mono ?_); rintro x w2 ⟨rfl, hd⟩; have H2 := Lib.hid ((In.start (Does.refl (H.out.alloc (.cells (ecs e) 33 (0, 0)))) rfl).next hd); clear hd; obtain ⟨⟨k0, k1, k2, k3, k4⟩, kf⟩ := H2.out.cellsAt (size_alloc _ _))))
  exact bodyPost_ret (v := av a) (by simp [results, Try.results13, go_sem, k0, k1, k2, k3, k4]) rfl ⟨rfl, In.outAt H.out H2.out rfl _ _ _ _ _⟩
set_option maxHeartbeats 1000000 in
theorem fdoE_1 (w : World) (pb : Nat) (l : Lk) (e : Et) (hm : place e.kind 6 = 1) (hl : l.Ok) (h : LkAt w pb l) (r : Lk × Ac) (hr : on l .closes = r) :
    Calls Try.prog 13 #[ptr pb, ev e] w fun x w' => x = .returned (av r.2) ∧ Does pb r.1 w w' := by
  have H := Lib.hid h
  have CP : Hid (∀ w, Calls Try.prog 23 #[.int .i64 e.kind, .int .i64 6] w fun x w' => x = .returned (.int .i64 1) ∧ w = w') := Lib.hid fun w => pickE e.kind 1 hm w
  have CW : Hid (∀ w, LkAt w pb l → Calls Try.prog 20 #[ptr pb] w fun x w' => x = .returned (av r.2) ∧ Does pb r.1 w w') := Lib.hid fun w h => fClose w pb l hl h r hr
  obtain ⟨l2, a⟩ := r
  clear h hm hl hr
  go_enter Try.func13, Try.ntmps13
  go_wp2_with (first
    | (go_at_call 23; ((with_reducible refine (CP.out _).mono ?_); rintro x w1 ⟨rfl, rfl⟩))
    | (go_at_call 20; ((with_reducible refine (CW.out _ (In.start (Does.refl (H.out.alloc (.cells (ecs e) 33 (0, 0)))) rfl).at_).mono ?_); rintro x w2 ⟨rfl, hd⟩; have H2 := Lib.hid ((In.start (Does.refl (H.out.alloc (.cells (ecs e) 33 (0, 0)))) rfl).next hd); clear hd; obtain ⟨⟨k0, k1, k2, k3, k4⟩, kf⟩ := H2.out.cellsAt (size_alloc _ _))))
  exact bodyPost_ret (v := av a) (by simp [results, Try.results13, go_sem, k0, k1, k2, k3, k4]) rfl ⟨rfl, In.outAt H.out H2.out rfl _ _ _ _ _⟩
set_option maxHeartbeats 1000000 in
theorem fdoE_2 (w : World) (pb : Nat) (l : Lk) (e : Et) (hm : place e.kind 6 = 2) (hl : l.Ok) (h : LkAt w pb l) (r : Lk × Ac) (hr : on l .due = r) :
    Calls Try.prog 13 #[ptr pb, ev e] w fun x w' => x = .returned (av r.2) ∧ Does pb r.1 w w' := by
  have H := Lib.hid h
  have CP : Hid (∀ w, Calls Try.prog 23 #[.int .i64 e.kind, .int .i64 6] w fun x w' => x = .returned (.int .i64 2) ∧ w = w') := Lib.hid fun w => pickE e.kind 2 hm w
  have CW : Hid (∀ w, LkAt w pb l → Calls Try.prog 22 #[ptr pb] w fun x w' => x = .returned (av r.2) ∧ Does pb r.1 w w') := Lib.hid fun w h => fDue w pb l hl h r hr
  obtain ⟨l2, a⟩ := r
  clear h hm hl hr
  go_enter Try.func13, Try.ntmps13
  go_wp2_with (first
    | (go_at_call 23; ((with_reducible refine (CP.out _).mono ?_); rintro x w1 ⟨rfl, rfl⟩))
    | (go_at_call 22; ((with_reducible refine (CW.out _ (In.start (Does.refl (H.out.alloc (.cells (ecs e) 33 (0, 0)))) rfl).at_).mono ?_); rintro x w2 ⟨rfl, hd⟩; have H2 := Lib.hid ((In.start (Does.refl (H.out.alloc (.cells (ecs e) 33 (0, 0)))) rfl).next hd); clear hd; obtain ⟨⟨k0, k1, k2, k3, k4⟩, kf⟩ := H2.out.cellsAt (size_alloc _ _))))
  exact bodyPost_ret (v := av a) (by simp [results, Try.results13, go_sem, k0, k1, k2, k3, k4]) rfl ⟨rfl, In.outAt H.out H2.out rfl _ _ _ _ _⟩
set_option maxHeartbeats 1000000 in
theorem fdoE_3 (w : World) (pb : Nat) (l : Lk) (e : Et) (hm : place e.kind 6 = 3) (h : LkAt w pb l) :
    Calls Try.prog 13 #[ptr pb, ev e] w fun x w' => x = .returned (av ⟨0, false, false, 0, 0⟩) ∧ Does pb ⟨l.s, e.pf, l.n, l.t⟩ w w' := by
  have H := Lib.hid h
  have CP : Hid (∀ w, Calls Try.prog 23 #[.int .i64 e.kind, .int .i64 6] w fun x w' => x = .returned (.int .i64 3) ∧ w = w') := Lib.hid fun w => pickE e.kind 3 hm w
  clear h hm
  go_enter Try.func13, Try.ntmps13
  go_wp2_with (first
    | (go_at_call 23; ((with_reducible refine (CP.out _).mono ?_); rintro x w1 ⟨rfl, rfl⟩))
    | (go_at_call 16; ((with_reducible refine (flisten _ pb l e.pf (In.start (Does.refl (H.out.alloc (.cells (ecs e) 33 (0, 0)))) rfl).at_).mono ?_); rintro x w2 ⟨rfl, hd⟩; have H2 := Lib.hid ((In.start (Does.refl (H.out.alloc (.cells (ecs e) 33 (0, 0)))) rfl).next hd); clear hd; obtain ⟨⟨k0, k1, k2, k3, k4⟩, kf⟩ := H2.out.cellsAt (size_alloc _ _))))
  exact bodyPost_ret (v := av ⟨0, false, false, 0, 0⟩) (by simp [results, Try.results13, go_sem, k0, k1, k2, k3, k4]) rfl ⟨rfl, In.outAt H.out H2.out rfl _ _ _ _ _⟩
set_option maxHeartbeats 1000000 in
theorem fdoE_4 (w : World) (pb : Nat) (l : Lk) (e : Et) (h0 : place e.kind 6 ≠ 0) (h1 : place e.kind 6 ≠ 1) (h2 : place e.kind 6 ≠ 2) (h3 : place e.kind 6 ≠ 3) (hl : l.Ok) (h : LkAt w pb l) (r : Lk × Ac) (hr : on l (evOf e.fr e.pf e.c) = r) :
    Calls Try.prog 13 #[ptr pb, ev e] w fun x w' => x = .returned (av r.2) ∧ Does pb r.1 w w' := by
  have H := Lib.hid h
  obtain ⟨m, hm⟩ : ∃ m, place e.kind 6 = m := ⟨_, rfl⟩
  have CP := Lib.hid (fun w => pickE e.kind m hm w)
  rw [hm] at h0 h1 h2 h3
  have t0 : ((m : Int) == 0) = false := beq_false (by omega)
  have t1 : ((m : Int) == 1) = false := beq_false (by omega)
  have t2 : ((m : Int) == 2) = false := beq_false (by omega)
  have t3 : ((m : Int) == 3) = false := beq_false (by omega)
  have CW : Hid (∀ w, LkAt w pb l → Calls Try.prog 21 #[ptr pb, .int .u8 e.fr, .bool e.pf, .bool e.c] w fun x w' => x = .returned (av r.2) ∧ Does pb r.1 w w') := Lib.hid fun w h => fHear w pb l e.fr e.pf e.c hl h r hr
  obtain ⟨l2, a⟩ := r
  clear h hm hl hr h0 h1 h2 h3
  go_enter Try.func13, Try.ntmps13
  go_wp2_with (first
    | (go_at_call 23; ((with_reducible refine (CP.out _).mono ?_); rintro x w1 ⟨rfl, rfl⟩))
    | (go_at_call 21; ((with_reducible refine (CW.out _ (In.start (Does.refl (H.out.alloc (.cells (ecs e) 33 (0, 0)))) rfl).at_).mono ?_); rintro x w2 ⟨rfl, hd⟩; have H2 := Lib.hid ((In.start (Does.refl (H.out.alloc (.cells (ecs e) 33 (0, 0)))) rfl).next hd); clear hd; obtain ⟨⟨k0, k1, k2, k3, k4⟩, kf⟩ := H2.out.cellsAt (size_alloc _ _))))
  exact bodyPost_ret (v := av a) (by simp [results, Try.results13, go_sem, k0, k1, k2, k3, k4]) rfl ⟨rfl, In.outAt H.out H2.out rfl _ _ _ _ _⟩
theorem fdoE (w : World) (pb : Nat) (l : Lk) (e : Et) (hl : l.Ok) (h : LkAt w pb l) (r : Lk × Ac) (hr : doE l e = r) :
    Calls Try.prog 13 #[ptr pb, ev e] w fun x w' => x = .returned (av r.2) ∧ Does pb r.1 w w' := by
  unfold doE at hr
  by_cases h0 : place e.kind 6 = 0
  · rw [if_pos h0] at hr; exact fdoE_0 w pb l e h0 hl h r hr
  rw [if_neg h0] at hr
  by_cases h1 : place e.kind 6 = 1
  · rw [if_pos h1] at hr; exact fdoE_1 w pb l e h1 hl h r hr
  rw [if_neg h1] at hr
  by_cases h2 : place e.kind 6 = 2
  · rw [if_pos h2] at hr; exact fdoE_2 w pb l e h2 hl h r hr
  rw [if_neg h2] at hr
  by_cases h3 : place e.kind 6 = 3
  · rw [if_pos h3] at hr; subst hr; exact fdoE_3 w pb l e h3 h
  rw [if_neg h3] at hr
  exact fdoE_4 w pb l e h0 h1 h2 h3 hl h r hr
set_option maxHeartbeats 1000000 in
theorem rdoE_0 (w : World) (pb : Nat) (l : Lk) (e : Et) (hm : place e.kind 6 = 0) (hl : l.Ok) (h : RfAt w pb l) (r : Lk × Ac) (hr : on l .opens = r) :
    Calls Try.prog 14 #[ptr pb, ev e] w fun x w' => x = .returned (av r.2) ∧ RDoes pb r.1 w w' := by
  have H := Lib.hid h
  have CP : Hid (∀ w, Calls Try.prog 23 #[.int .i64 e.kind, .int .i64 6] w fun x w' => x = .returned (.int .i64 0) ∧ w = w') := Lib.hid fun w => pickE e.kind 0 hm w
  have CW : Hid (∀ w, RfAt w pb l → Calls Try.prog 24 #[ptr pb] w fun x w' => x = .returned (av r.2) ∧ RDoes pb r.1 w w') := Lib.hid fun w h => rOpen w pb l hl h r hr
  obtain ⟨l2, a⟩ := r
  clear h hm hl hr
  go_enter Try.func14, Try.ntmps14
  go_wp2_with (first
    | (go_at_call 23; ((with_reducible refine (CP.out _).mono ?_); rintro x w1 ⟨rfl, rfl⟩))
    | (go_at_call 24; ((with_reducible refine (CW.out _ (RIn.start (RDoes.refl (H.out.alloc (.cells (ecs e) 33 (0, 0)))) rfl).at_).mono ?_); rintro x w2 ⟨rfl, hd⟩; have H2 := Lib.hid ((RIn.start (RDoes.refl (H.out.alloc (.cells (ecs e) 33 (0, 0)))) rfl).next hd); clear hd; obtain ⟨⟨k0, k1, k2, k3, k4⟩, kf⟩ := H2.out.cellsAt (size_alloc _ _))))
  exact bodyPost_ret (v := av a) (by simp [results, Try.results14, go_sem, k0, k1, k2, k3, k4]) rfl ⟨rfl, RIn.outAt H.out H2.out rfl _ _ _ _ _⟩
set_option maxHeartbeats 1000000 in
theorem rdoE_1 (w : World) (pb : Nat) (l : Lk) (e : Et) (hm : place e.kind 6 = 1) (hl : l.Ok) (h : RfAt w pb l) (r : Lk × Ac) (hr : on l .closes = r) :
    Calls Try.prog 14 #[ptr pb, ev e] w fun x w' => x = .returned (av r.2) ∧ RDoes pb r.1 w w' := by
  have H := Lib.hid h
  have CP : Hid (∀ w, Calls Try.prog 23 #[.int .i64 e.kind, .int .i64 6] w fun x w' => x = .returned (.int .i64 1) ∧ w = w') := Lib.hid fun w => pickE e.kind 1 hm w
  have CW : Hid (∀ w, RfAt w pb l → Calls Try.prog 25 #[ptr pb] w fun x w' => x = .returned (av r.2) ∧ RDoes pb r.1 w w') := Lib.hid fun w h => rClose w pb l hl h r hr
  obtain ⟨l2, a⟩ := r
  clear h hm hl hr
  go_enter Try.func14, Try.ntmps14
  go_wp2_with (first
    | (go_at_call 23; ((with_reducible refine (CP.out _).mono ?_); rintro x w1 ⟨rfl, rfl⟩))
    | (go_at_call 25; ((with_reducible refine (CW.out _ (RIn.start (RDoes.refl (H.out.alloc (.cells (ecs e) 33 (0, 0)))) rfl).at_).mono ?_); rintro x w2 ⟨rfl, hd⟩; have H2 := Lib.hid ((RIn.start (RDoes.refl (H.out.alloc (.cells (ecs e) 33 (0, 0)))) rfl).next hd); clear hd; obtain ⟨⟨k0, k1, k2, k3, k4⟩, kf⟩ := H2.out.cellsAt (size_alloc _ _))))
  exact bodyPost_ret (v := av a) (by simp [results, Try.results14, go_sem, k0, k1, k2, k3, k4]) rfl ⟨rfl, RIn.outAt H.out H2.out rfl _ _ _ _ _⟩
set_option maxHeartbeats 1000000 in
theorem rdoE_2 (w : World) (pb : Nat) (l : Lk) (e : Et) (hm : place e.kind 6 = 2) (hl : l.Ok) (h : RfAt w pb l) (r : Lk × Ac) (hr : on l .due = r) :
    Calls Try.prog 14 #[ptr pb, ev e] w fun x w' => x = .returned (av r.2) ∧ RDoes pb r.1 w w' := by
  have H := Lib.hid h
  have CP : Hid (∀ w, Calls Try.prog 23 #[.int .i64 e.kind, .int .i64 6] w fun x w' => x = .returned (.int .i64 2) ∧ w = w') := Lib.hid fun w => pickE e.kind 2 hm w
  have CW : Hid (∀ w, RfAt w pb l → Calls Try.prog 26 #[ptr pb] w fun x w' => x = .returned (av r.2) ∧ RDoes pb r.1 w w') := Lib.hid fun w h => rDue w pb l hl h r hr
  obtain ⟨l2, a⟩ := r
  clear h hm hl hr
  go_enter Try.func14, Try.ntmps14
  go_wp2_with (first
    | (go_at_call 23; ((with_reducible refine (CP.out _).mono ?_); rintro x w1 ⟨rfl, rfl⟩))
    | (go_at_call 26; ((with_reducible refine (CW.out _ (RIn.start (RDoes.refl (H.out.alloc (.cells (ecs e) 33 (0, 0)))) rfl).at_).mono ?_); rintro x w2 ⟨rfl, hd⟩; have H2 := Lib.hid ((RIn.start (RDoes.refl (H.out.alloc (.cells (ecs e) 33 (0, 0)))) rfl).next hd); clear hd; obtain ⟨⟨k0, k1, k2, k3, k4⟩, kf⟩ := H2.out.cellsAt (size_alloc _ _))))
  exact bodyPost_ret (v := av a) (by simp [results, Try.results14, go_sem, k0, k1, k2, k3, k4]) rfl ⟨rfl, RIn.outAt H.out H2.out rfl _ _ _ _ _⟩
set_option maxHeartbeats 1000000 in
theorem rdoE_3 (w : World) (pb : Nat) (l : Lk) (e : Et) (hm : place e.kind 6 = 3) (h : RfAt w pb l) :
    Calls Try.prog 14 #[ptr pb, ev e] w fun x w' => x = .returned (av ⟨0, false, false, 0, 0⟩) ∧ RDoes pb ⟨l.s, e.pf, l.n, l.t⟩ w w' := by
  have H := Lib.hid h
  have CP : Hid (∀ w, Calls Try.prog 23 #[.int .i64 e.kind, .int .i64 6] w fun x w' => x = .returned (.int .i64 3) ∧ w = w') := Lib.hid fun w => pickE e.kind 3 hm w
  have hf := h.free
  have hlt := h.lt
  have hlt1 : pb < w.heap.size + 1 := by omega
  have hlt2 : pb < w.heap.size + 1 + 1 := by omega
  obtain ⟨-, c1, -, -⟩ := h.cells
  clear h hm
  go_enter Try.func14, Try.ntmps14
  go_wp2_with (first
    | (go_at_call 23; ((with_reducible refine (CP.out _).mono ?_); rintro x w1 ⟨rfl, rfl⟩)))
  exact bodyPost_ret (v := av ⟨0, false, false, 0, 0⟩) (by simp [results, Try.results14, go_sem]) rfl ⟨rfl, (((RDoes.refl H.out).set1 e.pf).alloc _).alloc _⟩
set_option maxHeartbeats 1000000 in
theorem rdoE_4 (w : World) (pb : Nat) (l : Lk) (e : Et) (h0 : place e.kind 6 ≠ 0) (h1 : place e.kind 6 ≠ 1) (h2 : place e.kind 6 ≠ 2) (h3 : place e.kind 6 ≠ 3) (hk : 0 ≤ e.fr) (hl : l.Ok) (h : RfAt w pb l) (r : Lk × Ac) (hr : on l (evOf e.fr e.pf e.c) = r) :
    Calls Try.prog 14 #[ptr pb, ev e] w fun x w' => x = .returned (av r.2) ∧ RDoes pb r.1 w w' := by
  have H := Lib.hid h
  obtain ⟨m, hm⟩ : ∃ m, place e.kind 6 = m := ⟨_, rfl⟩
  have CP := Lib.hid (fun w => pickE e.kind m hm w)
  rw [hm] at h0 h1 h2 h3
  have t0 : ((m : Int) == 0) = false := beq_false (by omega)
  have t1 : ((m : Int) == 1) = false := beq_false (by omega)
  have t2 : ((m : Int) == 2) = false := beq_false (by omega)
  have t3 : ((m : Int) == 3) = false := beq_false (by omega)
  have CW : Hid (∀ w, RfAt w pb l → Calls Try.prog 27 #[ptr pb, .int .u8 e.fr, .bool e.pf, .bool e.c] w fun x w' => x = .returned (av r.2) ∧ RDoes pb r.1 w w') := Lib.hid fun w h => rHear w pb l e.fr e.pf e.c hk hl h r hr
  obtain ⟨l2, a⟩ := r
  clear h hm hl hr h0 h1 h2 h3 hk
  go_enter Try.func14, Try.ntmps14
  go_wp2_with (first
    | (go_at_call 23; ((with_reducible refine (CP.out _).mono ?_); rintro x w1 ⟨rfl, rfl⟩))
    | (go_at_call 27; ((with_reducible refine (CW.out _ (RIn.start (RDoes.refl (H.out.alloc (.cells (ecs e) 33 (0, 0)))) rfl).at_).mono ?_); rintro x w2 ⟨rfl, hd⟩; have H2 := Lib.hid ((RIn.start (RDoes.refl (H.out.alloc (.cells (ecs e) 33 (0, 0)))) rfl).next hd); clear hd; obtain ⟨⟨k0, k1, k2, k3, k4⟩, kf⟩ := H2.out.cellsAt (size_alloc _ _))))
  exact bodyPost_ret (v := av a) (by simp [results, Try.results14, go_sem, k0, k1, k2, k3, k4]) rfl ⟨rfl, RIn.outAt H.out H2.out rfl _ _ _ _ _⟩
theorem rdoE (w : World) (pb : Nat) (l : Lk) (e : Et) (he : Fits e) (hl : l.Ok) (h : RfAt w pb l) (r : Lk × Ac) (hr : doE l e = r) :
    Calls Try.prog 14 #[ptr pb, ev e] w fun x w' => x = .returned (av r.2) ∧ RDoes pb r.1 w w' := by
  unfold doE at hr
  by_cases h0 : place e.kind 6 = 0
  · rw [if_pos h0] at hr; exact rdoE_0 w pb l e h0 hl h r hr
  rw [if_neg h0] at hr
  by_cases h1 : place e.kind 6 = 1
  · rw [if_pos h1] at hr; exact rdoE_1 w pb l e h1 hl h r hr
  rw [if_neg h1] at hr
  by_cases h2 : place e.kind 6 = 2
  · rw [if_pos h2] at hr; exact rdoE_2 w pb l e h2 hl h r hr
  rw [if_neg h2] at hr
  by_cases h3 : place e.kind 6 = 3
  · rw [if_pos h3] at hr; subst hr; exact rdoE_3 w pb l e h3 h
  rw [if_neg h3] at hr
  exact rdoE_4 w pb l e h0 h1 h2 h3 he.1 hl h r hr
/-- Two answers, the same one. -/
theorem fis (a : Ac) (w : World) : Calls Try.prog 12 #[av a, av a] w fun x w' => x = .returned (.bool true) ∧ Below w.heap.size w w' := by
  go_enter Try.func12, Try.ntmps12
  go_wp2
  go_ret
  exact ⟨rfl, nest_below w [_, _]⟩
end Go.Proofs.Ytfflbaiddiahnaa.Lk

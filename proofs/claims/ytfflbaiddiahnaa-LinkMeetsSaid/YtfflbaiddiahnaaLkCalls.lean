/-
  The event that a frame is; what Open, Close, Hear and Due of a link answer, and leave; those of a link that is not there. Condition: a link lies where it says, its tries are within its N2; a kind is an octet.
-/
import Derived.Test.YtfflbaiddiahnaaLkOn
namespace Go.Proofs.Ytfflbaiddiahnaa.Lk
open Go.RowKit Go.Proofs.Ytfflbaiddiahnaa.Base Go.Proofs.Ytfflbaiddiahnaa.Mem
set_option maxHeartbeats 1000000 in
theorem heard_sabm (p : Bool) (w : World) : Calls Try.prog 29 #[.int .u8 1, .bool p, .bool true] w fun x w' => x = .returned (evV (.sabm p)) ∧ Below w.heap.size w w' := by
  go_enter Try.func29, Try.ntmps29
  go_wp2
  go_ret
  exact ⟨rfl, nest_below w [_]⟩
set_option maxHeartbeats 1000000 in
theorem heard_disc (p : Bool) (w : World) : Calls Try.prog 29 #[.int .u8 4, .bool p, .bool true] w fun x w' => x = .returned (evV (.disc p)) ∧ Below w.heap.size w w' := by
  go_enter Try.func29, Try.ntmps29
  go_wp2
  go_ret
  exact ⟨rfl, nest_below w [_]⟩
set_option maxHeartbeats 1000000 in
theorem heard_ua (p : Bool) (w : World) : Calls Try.prog 29 #[.int .u8 2, .bool p, .bool false] w fun x w' => x = .returned (evV (.ua p)) ∧ Below w.heap.size w w' := by
  go_enter Try.func29, Try.ntmps29
  go_wp2
  go_ret
  exact ⟨rfl, nest_below w [_]⟩
set_option maxHeartbeats 1000000 in
theorem heard_dm (p : Bool) (w : World) : Calls Try.prog 29 #[.int .u8 3, .bool p, .bool false] w fun x w' => x = .returned (evV (.dm p)) ∧ Below w.heap.size w w' := by
  go_enter Try.func29, Try.ntmps29
  go_wp2
  go_ret
  exact ⟨rfl, nest_below w [_]⟩
set_option maxHeartbeats 1000000 in
theorem heard_poll (k : Int) (h1 : k ≠ 1) (h4 : k ≠ 4) (ha : 5 ≤ k) (hb : k ≤ 10) (w : World) : Calls Try.prog 29 #[.int .u8 k, .bool true, .bool true] w fun x w' => x = .returned (evV (.poll true)) ∧ Below w.heap.size w w' := by
  have t0 : (k == 1) = false := beq_false h1
  have t1 : (k == 4) = false := beq_false h4
  have t2 : decide ((5 : Int) ≤ k) = true := decide_eq_true ha
  have t3 : decide (k ≤ (10 : Int)) = true := decide_eq_true hb
  go_enter Try.func29, Try.ntmps29
  go_wp2
  go_ret
  exact ⟨rfl, nest_below w [_]⟩
set_option maxHeartbeats 1000000 in
theorem heard_low (k : Int) (h1 : k ≠ 1) (h4 : k ≠ 4) (ha : k < 5) (w : World) : Calls Try.prog 29 #[.int .u8 k, .bool true, .bool true] w fun x w' => x = .returned (evV .noise) ∧ Below w.heap.size w w' := by
  have t0 : (k == 1) = false := beq_false h1
  have t1 : (k == 4) = false := beq_false h4
  have t2 : decide ((5 : Int) ≤ k) = false := decide_eq_false (by omega)
  go_enter Try.func29, Try.ntmps29
  go_wp2
  go_ret
  exact ⟨rfl, nest_below w [_]⟩
set_option maxHeartbeats 1000000 in
theorem heard_high (k : Int) (h1 : k ≠ 1) (h4 : k ≠ 4) (ha : 10 < k) (w : World) : Calls Try.prog 29 #[.int .u8 k, .bool true, .bool true] w fun x w' => x = .returned (evV .noise) ∧ Below w.heap.size w w' := by
  have t0 : (k == 1) = false := beq_false h1
  have t1 : (k == 4) = false := beq_false h4
  have t2 : decide ((5 : Int) ≤ k) = true := decide_eq_true (by omega)
  have t3 : decide (k ≤ (10 : Int)) = false := decide_eq_false (by omega)
  go_enter Try.func29, Try.ntmps29
  go_wp2
  go_ret
  exact ⟨rfl, nest_below w [_]⟩
set_option maxHeartbeats 1000000 in
theorem heard_quiet (k : Int) (h1 : k ≠ 1) (h4 : k ≠ 4) (w : World) : Calls Try.prog 29 #[.int .u8 k, .bool false, .bool true] w fun x w' => x = .returned (evV .noise) ∧ Below w.heap.size w w' := by
  have t0 : (k == 1) = false := beq_false h1
  have t1 : (k == 4) = false := beq_false h4
  go_enter Try.func29, Try.ntmps29
  go_wp2
  go_ret
  exact ⟨rfl, nest_below w [_]⟩
set_option maxHeartbeats 1000000 in
theorem heard_resp (k : Int) (p : Bool) (h2 : k ≠ 2) (h3 : k ≠ 3) (w : World) : Calls Try.prog 29 #[.int .u8 k, .bool p, .bool false] w fun x w' => x = .returned (evV .noise) ∧ Below w.heap.size w w' := by
  have t0 : (k == 2) = false := beq_false h2
  have t1 : (k == 3) = false := beq_false h3
  go_enter Try.func29, Try.ntmps29
  go_wp2
  go_ret
  exact ⟨rfl, nest_below w [_]⟩
theorem fheard (k : Int) (p c : Bool) (w : World) : Calls Try.prog 29 #[.int .u8 k, .bool p, .bool c] w fun x w' => x = .returned (evV (evOf k p c)) ∧ Below w.heap.size w w' := by
  cases c with
  | true =>
    by_cases h1 : k = 1
    · subst h1; exact heard_sabm p w
    by_cases h4 : k = 4
    · subst h4; exact heard_disc p w
    cases p with
    | true =>
      by_cases ha : 5 ≤ k
      · by_cases hb : k ≤ 10
        · have e : evOf k true true = .poll true := by unfold evOf; simp [h1, h4, ha, hb]
          rw [e]; exact heard_poll k h1 h4 ha hb w
        · have e : evOf k true true = .noise := by unfold evOf; simp [h1, h4, hb]
          rw [e]; exact heard_high k h1 h4 (by omega) w
      · have e : evOf k true true = .noise := by unfold evOf; simp [h1, h4, ha]
        rw [e]; exact heard_low k h1 h4 (by omega) w
    | false =>
      have e : evOf k false true = .noise := by unfold evOf; simp [h1, h4]
      rw [e]; exact heard_quiet k h1 h4 w
  | false =>
    by_cases h2 : k = 2
    · subst h2; exact heard_ua p w
    by_cases h3 : k = 3
    · subst h3; exact heard_dm p w
    have e : evOf k p false = .noise := by unfold evOf; simp [h2, h3]
    rw [e]; exact heard_resp k p h2 h3 w
set_option maxHeartbeats 1000000 in
theorem fOpen (w : World) (pb : Nat) (l : Lk) (hl : l.Ok) (h : LkAt w pb l) (r : Lk × Ac) (hr : on l .opens = r) :
    Calls Try.prog 18 #[ptr pb] w fun x w' => x = .returned (av r.2) ∧ Does pb r.1 w w' := by
  have H := Lib.hid h
  have CW : Hid (∀ w, LkAt w pb l → Calls Try.prog 28 #[ptr pb, .iface 64 (.agg #[])] w fun x w' => x = .returned (av r.2) ∧ Does pb r.1 w w') := by
    intro w h
    have := fdoes w pb l .opens hl h
    rw [hr] at this
    exact this
  obtain ⟨l2, a⟩ := r
  clear h hl hr
  go_enter Try.func18, Try.ntmps18
  go_wp2_with (first
    | (go_at_call 28; ((with_reducible refine (CW.out _ (H.out.alloc _)).mono ?_); rintro x w2 ⟨rfl, hd⟩; have H2 := Lib.hid ((In.start (Does.refl H.out) rfl).next hd); clear hd; obtain ⟨⟨k0, k1, k2, k3, k4⟩, kf⟩ := H2.out.cells)))
  exact bodyPost_ret (v := av a) (by simp [results, Try.results18, go_sem, k0, k1, k2, k3, k4]) rfl ⟨rfl, H2.out.out _ _ _ _ _⟩
set_option maxHeartbeats 1000000 in
theorem fClose (w : World) (pb : Nat) (l : Lk) (hl : l.Ok) (h : LkAt w pb l) (r : Lk × Ac) (hr : on l .closes = r) :
    Calls Try.prog 20 #[ptr pb] w fun x w' => x = .returned (av r.2) ∧ Does pb r.1 w w' := by
  have H := Lib.hid h
  have CW : Hid (∀ w, LkAt w pb l → Calls Try.prog 28 #[ptr pb, .iface 65 (.agg #[])] w fun x w' => x = .returned (av r.2) ∧ Does pb r.1 w w') := by
    intro w h
    have := fdoes w pb l .closes hl h
    rw [hr] at this
    exact this
  obtain ⟨l2, a⟩ := r
  clear h hl hr
  go_enter Try.func20, Try.ntmps20
  go_wp2_with (first
    | (go_at_call 28; ((with_reducible refine (CW.out _ (H.out.alloc _)).mono ?_); rintro x w2 ⟨rfl, hd⟩; have H2 := Lib.hid ((In.start (Does.refl H.out) rfl).next hd); clear hd; obtain ⟨⟨k0, k1, k2, k3, k4⟩, kf⟩ := H2.out.cells)))
  exact bodyPost_ret (v := av a) (by simp [results, Try.results20, go_sem, k0, k1, k2, k3, k4]) rfl ⟨rfl, H2.out.out _ _ _ _ _⟩
set_option maxHeartbeats 1000000 in
theorem fDue (w : World) (pb : Nat) (l : Lk) (hl : l.Ok) (h : LkAt w pb l) (r : Lk × Ac) (hr : on l .due = r) :
    Calls Try.prog 22 #[ptr pb] w fun x w' => x = .returned (av r.2) ∧ Does pb r.1 w w' := by
  have H := Lib.hid h
  have CW : Hid (∀ w, LkAt w pb l → Calls Try.prog 28 #[ptr pb, .iface 69 (.agg #[])] w fun x w' => x = .returned (av r.2) ∧ Does pb r.1 w w') := by
    intro w h
    have := fdoes w pb l .due hl h
    rw [hr] at this
    exact this
  obtain ⟨l2, a⟩ := r
  clear h hl hr
  go_enter Try.func22, Try.ntmps22
  go_wp2_with (first
    | (go_at_call 28; ((with_reducible refine (CW.out _ (H.out.alloc _)).mono ?_); rintro x w2 ⟨rfl, hd⟩; have H2 := Lib.hid ((In.start (Does.refl H.out) rfl).next hd); clear hd; obtain ⟨⟨k0, k1, k2, k3, k4⟩, kf⟩ := H2.out.cells)))
  exact bodyPost_ret (v := av a) (by simp [results, Try.results22, go_sem, k0, k1, k2, k3, k4]) rfl ⟨rfl, H2.out.out _ _ _ _ _⟩
set_option maxHeartbeats 1000000 in
theorem fHear (w : World) (pb : Nat) (l : Lk) (k : Int) (p c : Bool) (hl : l.Ok) (h : LkAt w pb l) (r : Lk × Ac) (hr : on l (evOf k p c) = r) :
    Calls Try.prog 21 #[ptr pb, .int .u8 k, .bool p, .bool c] w fun x w' => x = .returned (av r.2) ∧ Does pb r.1 w w' := by
  have H := Lib.hid h
  obtain ⟨V, hV⟩ : ∃ V, V = evV (evOf k p c) := ⟨_, rfl⟩
  have CH : Hid (∀ w, Calls Try.prog 29 #[.int .u8 k, .bool p, .bool c] w fun x w' => x = .returned V ∧ Below w.heap.size w w') := by
    intro w; rw [hV]; exact fheard k p c w
  have CW : Hid (∀ w, LkAt w pb l → Calls Try.prog 28 #[ptr pb, V] w fun x w' => x = .returned (av r.2) ∧ Does pb r.1 w w') := by
    intro w h
    have := fdoes w pb l (evOf k p c) hl h
    rw [hr, ← hV] at this
    exact this
  obtain ⟨l2, a⟩ := r
  clear h hl hr hV
  go_enter Try.func21, Try.ntmps21
  go_wp2_with (first
    | (go_at_call 29; ((with_reducible refine (CH.out _).mono ?_); rintro x w1 ⟨rfl, hb⟩; have H1 := Lib.hid ((In.start (Does.refl H.out) rfl).below hb); clear hb))
    | (go_at_call 28; ((with_reducible refine (CW.out _ H1.out.at_).mono ?_); rintro x w2 ⟨rfl, hd⟩; have H2 := Lib.hid (H1.out.next hd); clear hd; obtain ⟨⟨k0, k1, k2, k3, k4⟩, kf⟩ := H2.out.cells)))
  exact bodyPost_ret (v := av a) (by simp [results, Try.results21, go_sem, k0, k1, k2, k3, k4]) rfl ⟨rfl, H2.out.out _ _ _ _ _⟩
set_option maxHeartbeats 1000000 in
theorem fdoes_nil (V : Value) (w : World) : Calls Try.prog 28 #[.pointer none, V] w fun x w' => x = .returned (av ⟨0, false, false, 0, 0⟩) ∧ Below w.heap.size w w' := by
  go_enter Try.func28, Try.ntmps28
  go_wp2_with (first
    | (go_at_call 15; ((with_reducible refine (fstate_nil _).mono ?_); rintro x w1 ⟨rfl, rfl⟩)))
  exact bodyPost_ret (v := av ⟨0, false, false, 0, 0⟩) (by simp [results, Try.results28, go_sem]) rfl ⟨rfl, nest_below w [_]⟩
theorem on_block {w w1 : World} {o : Obj} (hb : Below (w.alloc o).heap.size (w.alloc o) w1) (v0 v1 v2 v3 v4 : Value) : Below w.heap.size w (set5 w1 w.heap.size v0 v1 v2 v3 v4) :=
  (((((below_on ((Below.refl _ _).alloc (Nat.le_refl _) o) hb).setCell (Nat.le_refl _) v0).setCell (Nat.le_refl _) v1).setCell (Nat.le_refl _) v2).setCell (Nat.le_refl _) v3).setCell (Nat.le_refl _) v4
set_option maxHeartbeats 1000000 in
theorem fOpen_nil (w : World) : Calls Try.prog 18 #[.pointer none] w fun x w' => x = .returned (av ⟨0, false, false, 0, 0⟩) ∧ Below w.heap.size w w' := by
  go_enter Try.func18, Try.ntmps18
  go_wp2_with (first
    | (go_at_call 28; ((with_reducible refine (fdoes_nil _ _).mono ?_); rintro x w1 ⟨rfl, hb⟩; have HB := Lib.hid hb; obtain ⟨⟨k0, k1, k2, k3, k4⟩, kf⟩ := cells5 (fresh hb); clear hb)))
  exact bodyPost_ret (v := av ⟨0, false, false, 0, 0⟩) (by simp [results, Try.results18, go_sem, k0, k1, k2, k3, k4]) rfl ⟨rfl, on_block HB.out _ _ _ _ _⟩
set_option maxHeartbeats 1000000 in
theorem fClose_nil (w : World) : Calls Try.prog 20 #[.pointer none] w fun x w' => x = .returned (av ⟨0, false, false, 0, 0⟩) ∧ Below w.heap.size w w' := by
  go_enter Try.func20, Try.ntmps20
  go_wp2_with (first
    | (go_at_call 28; ((with_reducible refine (fdoes_nil _ _).mono ?_); rintro x w1 ⟨rfl, hb⟩; have HB := Lib.hid hb; obtain ⟨⟨k0, k1, k2, k3, k4⟩, kf⟩ := cells5 (fresh hb); clear hb)))
  exact bodyPost_ret (v := av ⟨0, false, false, 0, 0⟩) (by simp [results, Try.results20, go_sem, k0, k1, k2, k3, k4]) rfl ⟨rfl, on_block HB.out _ _ _ _ _⟩
set_option maxHeartbeats 1000000 in
theorem fDue_nil (w : World) : Calls Try.prog 22 #[.pointer none] w fun x w' => x = .returned (av ⟨0, false, false, 0, 0⟩) ∧ Below w.heap.size w w' := by
  go_enter Try.func22, Try.ntmps22
  go_wp2_with (first
    | (go_at_call 28; ((with_reducible refine (fdoes_nil _ _).mono ?_); rintro x w1 ⟨rfl, hb⟩; have HB := Lib.hid hb; obtain ⟨⟨k0, k1, k2, k3, k4⟩, kf⟩ := cells5 (fresh hb); clear hb)))
  exact bodyPost_ret (v := av ⟨0, false, false, 0, 0⟩) (by simp [results, Try.results22, go_sem, k0, k1, k2, k3, k4]) rfl ⟨rfl, on_block HB.out _ _ _ _ _⟩
set_option maxHeartbeats 1000000 in
theorem fHear_nil (k : Int) (p c : Bool) (w : World) : Calls Try.prog 21 #[.pointer none, .int .u8 k, .bool p, .bool c] w fun x w' => x = .returned (av ⟨0, false, false, 0, 0⟩) ∧ Below w.heap.size w w' := by
  obtain ⟨V, hV⟩ : ∃ V, V = evV (evOf k p c) := ⟨_, rfl⟩
  have CH : Hid (∀ w, Calls Try.prog 29 #[.int .u8 k, .bool p, .bool c] w fun x w' => x = .returned V ∧ Below w.heap.size w w') := by
    intro w; rw [hV]; exact fheard k p c w
  clear hV
  go_enter Try.func21, Try.ntmps21
  go_wp2_with (first
    | (go_at_call 29; ((with_reducible refine (CH.out _).mono ?_); rintro x w1 ⟨rfl, hb⟩; have HB := Lib.hid hb; clear hb))
    | (go_at_call 28; ((with_reducible refine (fdoes_nil _ _).mono ?_); rintro x w2 ⟨rfl, hb⟩; have HC := Lib.hid (below_on HB.out hb); clear hb; obtain ⟨⟨k0, k1, k2, k3, k4⟩, kf⟩ := cells5 (fresh HC.out))))
  exact bodyPost_ret (v := av ⟨0, false, false, 0, 0⟩) (by simp [results, Try.results21, go_sem, k0, k1, k2, k3, k4]) rfl ⟨rfl, on_block HC.out _ _ _ _ _⟩
end Go.Proofs.Ytfflbaiddiahnaa.Lk

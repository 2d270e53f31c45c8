/-
  What becomes, command, begins and triesAgain answer, and leave. Condition: a link lies where it says.
-/
import Derived.Test.YtfflbaiddiahnaaLkSmall
import Derived.BigQuiet
namespace Go.Proofs.Ytfflbaiddiahnaa.Lk
open Go.RowKit Go.Proofs.Ytfflbaiddiahnaa.Base Go.Proofs.Ytfflbaiddiahnaa.Mem
theorem wrap_id (t : Int) (h0 : 0 ≤ t) (h1 : t < 1000) : IntKind.i64.wrap (t + 1) = t + 1 := by rw [IntKind.wrap_i64]; omega
set_option maxHeartbeats 1000000 in
theorem fbecomes (w : World) (pb : Nat) (l : Lk) (s : Int) (a : Ac) (h : LkAt w pb l) :
    Calls Try.prog 38 #[ptr pb, .int .u8 s, av a] w fun e w' => e = .returned (av a) ∧ Does pb ⟨s, l.li, l.n, l.t⟩ w w' := by
  have H := Lib.hid h
  have hf := h.free
  have hlt := h.lt
  obtain ⟨c0, -, -, -⟩ := h.cells
  clear h
  go_enter Try.func38, Try.ntmps38
  go_wp2
  refine bodyPost_ret (v := av a) (by simp [results, Try.results38, go_sem]) rfl ⟨rfl, ?_⟩
  exact (((Does.refl H.out).set0 s).alloc _).alloc _
set_option maxHeartbeats 1000000 in
theorem fcommand (s : Int) (w : World) :
    Calls Try.prog 40 #[.int .u8 s] w fun e w' => e = .returned (av (cmd (if s = 4 then 4 else 1))) ∧ Below w.heap.size w w' := by
  by_cases h : s = 4
  · subst h
    go_enter Try.func40, Try.ntmps40
    go_wp2
    exact bodyPost_ret (v := av (cmd 4)) (by simp [results, Try.results40, go_sem, cmd]) rfl ⟨rfl, nest_below w [_, _]⟩
  · have t : (s == 4) = false := by rw [beq_eq_false_iff_ne]; exact h
    rw [if_neg h]
    go_enter Try.func40, Try.ntmps40
    go_wp2
    exact bodyPost_ret (v := av (cmd 1)) (by simp [results, Try.results40, go_sem, cmd]) rfl ⟨rfl, nest_below w [_, _]⟩
set_option maxHeartbeats 1000000 in
theorem fbegins (w : World) (pb : Nat) (l : Lk) (s k : Int) (hk : (if s = 4 then 4 else 1) = k) (h : LkAt w pb l) :
    Calls Try.prog 37 #[ptr pb, .int .u8 s] w fun e w' => e = .returned (av (cmd k)) ∧ Does pb ⟨s, l.li, l.n, 0⟩ w w' := by
  have H := Lib.hid h
  have hf := h.free
  have hlt := h.lt
  obtain ⟨-, -, -, c3⟩ := h.cells
  have CC : Hid (∀ w, Calls Try.prog 40 #[.int .u8 s] w fun e w' => e = .returned (av (cmd k)) ∧ Below w.heap.size w w') := by
    intro w; have := fcommand s w; rw [hk] at this; exact this
  clear h hk
  go_enter Try.func37, Try.ntmps37
  go_wp2_with (first
    | (go_at_call 40; ((with_reducible refine (CC.out _).mono ?_); rintro e w1 ⟨rfl, hb⟩; have H1 := Lib.hid ((In.start ((Does.refl H.out).set3 0) (by simp)).below hb); clear hb; obtain ⟨⟨k0, k1, k2, k3, k4⟩, kf⟩ := H1.out.cells))
    | (go_at_call 38; ((with_reducible refine (fbecomes _ pb _ s (cmd k) H1.out.at_).mono ?_); rintro e w2 ⟨rfl, hd⟩; have H2 := Lib.hid (H1.out.next hd); clear hd k0 k1 k2 k3 k4 kf; obtain ⟨⟨k0, k1, k2, k3, k4⟩, kf⟩ := H2.out.cells)))
  refine bodyPost_ret (v := av (cmd k)) (by simp [results, Try.results37, go_sem, k0, k1, k2, k3, k4]) rfl ⟨rfl, ?_⟩
  exact H2.out.out _ _ _ _ _
set_option maxHeartbeats 1000000 in
theorem ftries (w : World) (pb : Nat) (l : Lk) (hl : l.Ok) (h : LkAt w pb l) :
    Calls Try.prog 39 #[ptr pb] w fun e w' => e = .returned (av (again l).2) ∧ Does pb (again l).1 w w' := by
  have H := Lib.hid h
  have hf := h.free
  have hlt := h.lt
  obtain ⟨c0, -, c2, c3⟩ := h.cells
  have h3 := hl.n1
  have h4 := hl.t0
  have h5 := hl.t1
  unfold again
  obtain ⟨k, hk⟩ : ∃ k, (if l.s = 4 then (4 : Int) else 1) = k := ⟨_, rfl⟩
  have CC : Hid (∀ w, Calls Try.prog 40 #[.int .u8 l.s] w fun e w' => e = .returned (av (cmd k)) ∧ Below w.heap.size w w') := by
    intro w; have := fcommand l.s w; rw [hk] at this; exact this
  clear h hl
  by_cases ht : l.t < l.n
  · rw [if_pos ht, hk]
    have t : decide (l.n ≤ l.t) = false := decide_eq_false (by omega)
    have q := wrap_id l.t (by omega) (by omega)
    clear hk
    go_enter Try.func39, Try.ntmps39
    go_wp2_with fail
    go_quiet (fail)
    have HI : Hid (In pb l w ((w.alloc (noA 30)).drewN nq)) := Lib.hid ((In.start (Does.refl H.out) rfl).drewN nq)
    generalize (w.alloc (noA 30)).drewN nq = v at HI ⊢
    have hf2 := HI.out.at_.free
    have hlt2 := HI.out.at_.lt
    obtain ⟨d0, -, d2, d3⟩ := HI.out.at_.cells
    obtain ⟨⟨k0, k1, k2, k3, k4⟩, kf⟩ := HI.out.cells
    clear c0 c2 c3 hf
    go_wp2_with (first
      | (go_at_call 40; ((with_reducible refine (CC.out _).mono ?_); rintro e w1 ⟨rfl, hb⟩; have H1 := Lib.hid ((HI.out.set3 (l.t + 1)).below hb); clear hb k0 k1 k2 k3 k4 kf; obtain ⟨⟨k0, k1, k2, k3, k4⟩, kf⟩ := H1.out.cells)))
    refine bodyPost_ret (v := av (cmd k)) (by simp [results, Try.results39, go_sem, k0, k1, k2, k3, k4]) rfl ⟨rfl, ?_⟩
    exact H1.out.out _ _ _ _ _
  · rw [if_neg ht]
    have t : decide (l.n ≤ l.t) = true := decide_eq_true (by omega)
    clear hk CC
    go_enter Try.func39, Try.ntmps39
    go_wp2_with fail
    go_quiet (fail)
    have HI : Hid (In pb l w ((w.alloc (noA 30)).drewN nq)) := Lib.hid ((In.start (Does.refl H.out) rfl).drewN nq)
    generalize (w.alloc (noA 30)).drewN nq = v at HI ⊢
    have hf2 := HI.out.at_.free
    have hlt2 := HI.out.at_.lt
    obtain ⟨d0, -, d2, d3⟩ := HI.out.at_.cells
    obtain ⟨⟨k0, k1, k2, k3, k4⟩, kf⟩ := HI.out.cells
    clear c0 c2 c3 hf
    go_wp2_with (first
      | (go_at_call 38; ((with_reducible refine (fbecomes _ pb _ 5 ⟨0, false, false, 2, 6⟩ HI.out.at_).mono ?_); rintro e w2 ⟨rfl, hd⟩; have H2 := Lib.hid (HI.out.next hd); clear hd k0 k1 k2 k3 k4 kf; obtain ⟨⟨k0, k1, k2, k3, k4⟩, kf⟩ := H2.out.cells)))
    refine bodyPost_ret (v := av ⟨0, false, false, 2, 6⟩) (by simp [results, Try.results39, go_sem, k0, k1, k2, k3, k4]) rfl ⟨rfl, ?_⟩
    exact H2.out.out _ _ _ _ _
end Go.Proofs.Ytfflbaiddiahnaa.Lk

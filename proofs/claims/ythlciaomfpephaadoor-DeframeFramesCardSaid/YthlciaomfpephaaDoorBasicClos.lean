/-
  The closures by which layer 4 asks what a frame must have, and the function that asks them one behind the other. Conditions: what they captured lies in memory.
-/
import Derived.Test.YthlciaomfpephaaDoorBasicSmall
namespace Go.Proofs.YthlciaomfpephaaDoor.Basic
open Go.RowKit Go.Proofs.YthlciaomfpephaaDoor.Base Go.Proofs.YthlciaomfpephaaDoor.Ea Go.Proofs.YthlciaomfpephaaDoor.Field
theorem must_any (E : Int) (g : Fn) (fs cs : Array Value) (w : World) :
    Calls Tryd.prog 26 #[.int .i64 E, .func g fs cs] w fun e w' => e = .returned (.func (.func 43) #[] #[ptr (w.heap.size + 1), ptr w.heap.size]) ∧ (w.alloc (.cells #[.int .i64 E] 45)).alloc (.cells #[.func g fs cs] 26) = w' := by
  go_enter Tryd.func26, Tryd.ntmps26
  go_wp2
  go_ret
  exact ⟨rfl, rfl⟩
theorem c1 (A a : Nat) (ha : a < 256) (w : World) (h : w.cell? ⟨A, 0, none⟩ = some (.int .u8 (a : Int))) :
    Calls Tryd.prog 27 #[ptr A] w fun e w' => e = .returned (.bool (okA a)) ∧ Below w.heap.size w w' := by
  go_enter Tryd.func27, Tryd.ntmps27
  go_wp2_with (go_at_call 28; ((with_reducible refine (isAddress _ ha _).mono ?_); rintro e w' ⟨rfl, rfl⟩))
  go_ret
  exact ⟨rfl, Below.refl _ _⟩
theorem c2 (A : Nat) (p : Int) (w : World) (h : w.cell? ⟨A, 0, none⟩ = some (.int .i64 p)) :
    Calls Tryd.prog 29 #[ptr A] w fun e w' => e = .returned (.bool (p == 0)) ∧ Below w.heap.size w w' := by
  go_enter Tryd.func29, Tryd.ntmps29
  go_wp2
  go_ret
  exact ⟨rfl, Below.refl _ _⟩
theorem c3 (F : Nat) (f : Fr) (hf : f.In) (w : World) (h : FrAt w F f) :
    Calls Tryd.prog 30 #[ptr F] w fun e w' => e = .returned (.bool (mayF f.k f.c f.info)) ∧ Below w.heap.size w w' := by
  obtain ⟨h0, h1, h2, h3, h4, h5, h6⟩ := h.cells
  go_enter Tryd.func30, Tryd.ntmps30
  go_wp2_with (go_at_call 31; ((with_reducible refine (mayBe _ hf _).mono ?_); rintro e w' ⟨rfl, hb⟩))
  go_ret
  exact ⟨rfl, hb⟩
theorem d4 (F : Nat) (f : Fr) (hf : f.In) (w : World) (h : FrAt w F f) :
    Calls Tryd.prog 70 #[ptr F] w fun e w' => e = .returned (.bool (mayF f.k f.c f.info)) ∧ Below w.heap.size w w' := by
  obtain ⟨h0, h1, h2, h3, h4, h5, h6⟩ := h.cells
  go_enter Tryd.func70, Tryd.ntmps70
  go_wp2_with (go_at_call 31; ((with_reducible refine (mayBe _ hf _).mono ?_); rintro e w' ⟨rfl, hb⟩))
  go_ret
  exact ⟨rfl, hb⟩
theorem c4 (F N : Nat) (f : Fr) (n1 : Int) (_hl : f.info.size ≤ maxLen) (w : World) (h : FrAt w F f) (hn : w.cell? ⟨N, 0, none⟩ = some (.int .i64 n1)) :
    Calls Tryd.prog 32 #[ptr F, ptr N] w fun e w' => e = .returned (.bool (decide (f.info.size ≤ room n1))) ∧ Below w.heap.size w w' := by
  obtain ⟨h0, h1, h2, h3, h4, h5, h6⟩ := h.cells
  clear h h0 h1 h2 h3 h4 h5
  unfold maxLen at _hl
  go_enter Tryd.func32, Tryd.ntmps32
  go_wp2
  go_quiet ((go_at_call 13; exact quiet_left (froom _ _)))
  go_wp2
  go_ret
  exact ⟨ret_bool (by simp), below_drewN (Below.refl _ _) _⟩
theorem d5 (F N : Nat) (f : Fr) (n1 : Int) (_hl : f.info.size ≤ maxLen) (w : World) (h : FrAt w F f) (hn : w.cell? ⟨N, 0, none⟩ = some (.int .i64 n1)) :
    Calls Tryd.prog 71 #[ptr F, ptr N] w fun e w' => e = .returned (.bool (decide (f.info.size ≤ room n1))) ∧ Below w.heap.size w w' := by
  obtain ⟨h0, h1, h2, h3, h4, h5, h6⟩ := h.cells
  clear h h0 h1 h2 h3 h4 h5
  unfold maxLen at _hl
  go_enter Tryd.func71, Tryd.ntmps71
  go_wp2
  go_quiet ((go_at_call 13; exact quiet_left (froom _ _)))
  go_wp2
  go_ret
  exact ⟨ret_bool (by simp), below_drewN (Below.refl _ _) _⟩
theorem must_yes_1 (H E : Nat) (p : Value) (w : World) (hh : w.cell? ⟨H, 0, none⟩ = some (.func (.func 27) #[] #[p])) (hc : Calls Tryd.prog 27 #[p] w fun e w' => e = .returned (.bool true) ∧ Below w.heap.size w w') :
    Calls Tryd.prog 43 #[ptr H, ptr E] w fun e w' => e = .returned (.int .i64 0) ∧ Below w.heap.size w w' := by
  have HC := Lib.hid hc
  clear hc
  go_enter Tryd.func43, Tryd.ntmps43
  go_wp2_with (go_at_call 27; ((with_reducible refine HC.out.mono ?_); rintro e w' ⟨rfl, hb⟩))
  go_ret
  exact ⟨rfl, hb⟩
theorem must_no_1 (H E : Nat) (v : Int) (p : Value) (w : World) (hh : w.cell? ⟨H, 0, none⟩ = some (.func (.func 27) #[] #[p])) (he : w.cell? ⟨E, 0, none⟩ = some (.int .i64 v)) (hc : Calls Tryd.prog 27 #[p] w fun e w' => e = .returned (.bool false) ∧ Below w.heap.size w w') :
    Calls Tryd.prog 43 #[ptr H, ptr E] w fun e w' => e = .returned (.int .i64 v) ∧ Below w.heap.size w w' := by
  have HC := Lib.hid hc
  clear hc
  go_enter Tryd.func43, Tryd.ntmps43
  go_wp2_with (go_at_call 27; ((with_reducible refine HC.out.mono ?_); rintro e w' ⟨rfl, hb⟩; have he1 := cell_below he hb))
  go_ret
  exact ⟨rfl, hb⟩
theorem must_yes_2 (H E : Nat) (p : Value) (w : World) (hh : w.cell? ⟨H, 0, none⟩ = some (.func (.func 29) #[] #[p])) (hc : Calls Tryd.prog 29 #[p] w fun e w' => e = .returned (.bool true) ∧ Below w.heap.size w w') :
    Calls Tryd.prog 43 #[ptr H, ptr E] w fun e w' => e = .returned (.int .i64 0) ∧ Below w.heap.size w w' := by
  have HC := Lib.hid hc
  clear hc
  go_enter Tryd.func43, Tryd.ntmps43
  go_wp2_with (go_at_call 29; ((with_reducible refine HC.out.mono ?_); rintro e w' ⟨rfl, hb⟩))
  go_ret
  exact ⟨rfl, hb⟩
theorem must_no_2 (H E : Nat) (v : Int) (p : Value) (w : World) (hh : w.cell? ⟨H, 0, none⟩ = some (.func (.func 29) #[] #[p])) (he : w.cell? ⟨E, 0, none⟩ = some (.int .i64 v)) (hc : Calls Tryd.prog 29 #[p] w fun e w' => e = .returned (.bool false) ∧ Below w.heap.size w w') :
    Calls Tryd.prog 43 #[ptr H, ptr E] w fun e w' => e = .returned (.int .i64 v) ∧ Below w.heap.size w w' := by
  have HC := Lib.hid hc
  clear hc
  go_enter Tryd.func43, Tryd.ntmps43
  go_wp2_with (go_at_call 29; ((with_reducible refine HC.out.mono ?_); rintro e w' ⟨rfl, hb⟩; have he1 := cell_below he hb))
  go_ret
  exact ⟨rfl, hb⟩
theorem must_yes_3 (H E : Nat) (p : Value) (w : World) (hh : w.cell? ⟨H, 0, none⟩ = some (.func (.func 30) #[] #[p])) (hc : Calls Tryd.prog 30 #[p] w fun e w' => e = .returned (.bool true) ∧ Below w.heap.size w w') :
    Calls Tryd.prog 43 #[ptr H, ptr E] w fun e w' => e = .returned (.int .i64 0) ∧ Below w.heap.size w w' := by
  have HC := Lib.hid hc
  clear hc
  go_enter Tryd.func43, Tryd.ntmps43
  go_wp2_with (go_at_call 30; ((with_reducible refine HC.out.mono ?_); rintro e w' ⟨rfl, hb⟩))
  go_ret
  exact ⟨rfl, hb⟩
theorem must_no_3 (H E : Nat) (v : Int) (p : Value) (w : World) (hh : w.cell? ⟨H, 0, none⟩ = some (.func (.func 30) #[] #[p])) (he : w.cell? ⟨E, 0, none⟩ = some (.int .i64 v)) (hc : Calls Tryd.prog 30 #[p] w fun e w' => e = .returned (.bool false) ∧ Below w.heap.size w w') :
    Calls Tryd.prog 43 #[ptr H, ptr E] w fun e w' => e = .returned (.int .i64 v) ∧ Below w.heap.size w w' := by
  have HC := Lib.hid hc
  clear hc
  go_enter Tryd.func43, Tryd.ntmps43
  go_wp2_with (go_at_call 30; ((with_reducible refine HC.out.mono ?_); rintro e w' ⟨rfl, hb⟩; have he1 := cell_below he hb))
  go_ret
  exact ⟨rfl, hb⟩
theorem must_yes_4 (H E : Nat) (p q : Value) (w : World) (hh : w.cell? ⟨H, 0, none⟩ = some (.func (.func 32) #[] #[p, q])) (hc : Calls Tryd.prog 32 #[p, q] w fun e w' => e = .returned (.bool true) ∧ Below w.heap.size w w') :
    Calls Tryd.prog 43 #[ptr H, ptr E] w fun e w' => e = .returned (.int .i64 0) ∧ Below w.heap.size w w' := by
  have HC := Lib.hid hc
  clear hc
  go_enter Tryd.func43, Tryd.ntmps43
  go_wp2_with (go_at_call 32; ((with_reducible refine HC.out.mono ?_); rintro e w' ⟨rfl, hb⟩))
  go_ret
  exact ⟨rfl, hb⟩
theorem must_no_4 (H E : Nat) (v : Int) (p q : Value) (w : World) (hh : w.cell? ⟨H, 0, none⟩ = some (.func (.func 32) #[] #[p, q])) (he : w.cell? ⟨E, 0, none⟩ = some (.int .i64 v)) (hc : Calls Tryd.prog 32 #[p, q] w fun e w' => e = .returned (.bool false) ∧ Below w.heap.size w w') :
    Calls Tryd.prog 43 #[ptr H, ptr E] w fun e w' => e = .returned (.int .i64 v) ∧ Below w.heap.size w w' := by
  have HC := Lib.hid hc
  clear hc
  go_enter Tryd.func43, Tryd.ntmps43
  go_wp2_with (go_at_call 32; ((with_reducible refine HC.out.mono ?_); rintro e w' ⟨rfl, hb⟩; have he1 := cell_below he hb))
  go_ret
  exact ⟨rfl, hb⟩
theorem must_yes_d3 (H E : Nat) (p q : Value) (w : World) (hh : w.cell? ⟨H, 0, none⟩ = some (.func (.func 69) #[] #[p, q])) (hc : Calls Tryd.prog 69 #[p, q] w fun e w' => e = .returned (.bool true) ∧ Below w.heap.size w w') :
    Calls Tryd.prog 43 #[ptr H, ptr E] w fun e w' => e = .returned (.int .i64 0) ∧ Below w.heap.size w w' := by
  have HC := Lib.hid hc
  clear hc
  go_enter Tryd.func43, Tryd.ntmps43
  go_wp2_with (go_at_call 69; ((with_reducible refine HC.out.mono ?_); rintro e w' ⟨rfl, hb⟩))
  go_ret
  exact ⟨rfl, hb⟩
theorem must_no_d3 (H E : Nat) (v : Int) (p q : Value) (w : World) (hh : w.cell? ⟨H, 0, none⟩ = some (.func (.func 69) #[] #[p, q])) (he : w.cell? ⟨E, 0, none⟩ = some (.int .i64 v)) (hc : Calls Tryd.prog 69 #[p, q] w fun e w' => e = .returned (.bool false) ∧ Below w.heap.size w w') :
    Calls Tryd.prog 43 #[ptr H, ptr E] w fun e w' => e = .returned (.int .i64 v) ∧ Below w.heap.size w w' := by
  have HC := Lib.hid hc
  clear hc
  go_enter Tryd.func43, Tryd.ntmps43
  go_wp2_with (go_at_call 69; ((with_reducible refine HC.out.mono ?_); rintro e w' ⟨rfl, hb⟩; have he1 := cell_below he hb))
  go_ret
  exact ⟨rfl, hb⟩
theorem must_yes_d4 (H E : Nat) (p : Value) (w : World) (hh : w.cell? ⟨H, 0, none⟩ = some (.func (.func 70) #[] #[p])) (hc : Calls Tryd.prog 70 #[p] w fun e w' => e = .returned (.bool true) ∧ Below w.heap.size w w') :
    Calls Tryd.prog 43 #[ptr H, ptr E] w fun e w' => e = .returned (.int .i64 0) ∧ Below w.heap.size w w' := by
  have HC := Lib.hid hc
  clear hc
  go_enter Tryd.func43, Tryd.ntmps43
  go_wp2_with (go_at_call 70; ((with_reducible refine HC.out.mono ?_); rintro e w' ⟨rfl, hb⟩))
  go_ret
  exact ⟨rfl, hb⟩
theorem must_no_d4 (H E : Nat) (v : Int) (p : Value) (w : World) (hh : w.cell? ⟨H, 0, none⟩ = some (.func (.func 70) #[] #[p])) (he : w.cell? ⟨E, 0, none⟩ = some (.int .i64 v)) (hc : Calls Tryd.prog 70 #[p] w fun e w' => e = .returned (.bool false) ∧ Below w.heap.size w w') :
    Calls Tryd.prog 43 #[ptr H, ptr E] w fun e w' => e = .returned (.int .i64 v) ∧ Below w.heap.size w w' := by
  have HC := Lib.hid hc
  clear hc
  go_enter Tryd.func43, Tryd.ntmps43
  go_wp2_with (go_at_call 70; ((with_reducible refine HC.out.mono ?_); rintro e w' ⟨rfl, hb⟩; have he1 := cell_below he hb))
  go_ret
  exact ⟨rfl, hb⟩
theorem must_yes_d5 (H E : Nat) (p q : Value) (w : World) (hh : w.cell? ⟨H, 0, none⟩ = some (.func (.func 71) #[] #[p, q])) (hc : Calls Tryd.prog 71 #[p, q] w fun e w' => e = .returned (.bool true) ∧ Below w.heap.size w w') :
    Calls Tryd.prog 43 #[ptr H, ptr E] w fun e w' => e = .returned (.int .i64 0) ∧ Below w.heap.size w w' := by
  have HC := Lib.hid hc
  clear hc
  go_enter Tryd.func43, Tryd.ntmps43
  go_wp2_with (go_at_call 71; ((with_reducible refine HC.out.mono ?_); rintro e w' ⟨rfl, hb⟩))
  go_ret
  exact ⟨rfl, hb⟩
theorem must_no_d5 (H E : Nat) (v : Int) (p q : Value) (w : World) (hh : w.cell? ⟨H, 0, none⟩ = some (.func (.func 71) #[] #[p, q])) (he : w.cell? ⟨E, 0, none⟩ = some (.int .i64 v)) (hc : Calls Tryd.prog 71 #[p, q] w fun e w' => e = .returned (.bool false) ∧ Below w.heap.size w w') :
    Calls Tryd.prog 43 #[ptr H, ptr E] w fun e w' => e = .returned (.int .i64 v) ∧ Below w.heap.size w w' := by
  have HC := Lib.hid hc
  clear hc
  go_enter Tryd.func43, Tryd.ntmps43
  go_wp2_with (go_at_call 71; ((with_reducible refine HC.out.mono ?_); rintro e w' ⟨rfl, hb⟩; have he1 := cell_below he hb))
  go_ret
  exact ⟨rfl, hb⟩
/-- The first that is not 0. -/
def first4 (r0 r1 r2 r3 : Int) : Int := if r0 ≠ 0 then r0 else if r1 ≠ 0 then r1 else if r2 ≠ 0 then r2 else r3
/-- What a demand answers, in every world that has all that was there. -/
def Asks (w : World) (H E : Nat) (r : Int) : Prop := ∀ w' : World, Below w.heap.size w w' → Calls Tryd.prog 43 #[ptr H, ptr E] w' fun e w'' => e = .returned (.int .i64 r) ∧ Below w'.heap.size w' w''
theorem Asks.at {w w' : World} {H E : Nat} {r : Int} (h : Asks w H E r) (hb : Below w.heap.size w w') : Calls Tryd.prog 43 #[ptr H, ptr E] w' fun e w'' => e = .returned (.int .i64 r) ∧ Below w'.heap.size w' w'' := h w' hb
set_option maxHeartbeats 1000000 in
theorem feE (D H0 E0 H1 E1 H2 E2 H3 E3 : Nat) (r0 r1 r2 r3 : Int) (w : World) (hd0 : w.cell? ⟨D, 0, none⟩ = some (.func (.func 43) #[] #[ptr H0, ptr E0])) (hd1 : w.cell? ⟨D, 1, none⟩ = some (.func (.func 43) #[] #[ptr H1, ptr E1])) (hd2 : w.cell? ⟨D, 2, none⟩ = some (.func (.func 43) #[] #[ptr H2, ptr E2])) (hd3 : w.cell? ⟨D, 3, none⟩ = some (.func (.func 43) #[] #[ptr H3, ptr E3])) (q0 : Asks w H0 E0 r0) (q1 : Asks w H1 E1 r1) (q2 : Asks w H2 E2 r2) (q3 : Asks w H3 E3 r3) :
    Calls Tryd.prog 25 #[.slice (some ⟨D, 0, none⟩) 4 4] w fun e w' => e = .returned (.int .i64 (first4 r0 r1 r2 r3)) ∧ Below w.heap.size w w' := by
  unfold first4
  by_cases h0 : r0 = 0
  · rw [if_neg (by simpa using h0)]
    by_cases h1 : r1 = 0
    · rw [if_neg (by simpa using h1)]
      by_cases h2 : r2 = 0
      · rw [if_neg (by simpa using h2)]
        by_cases h3 : r3 = 0
        · subst h0 h1 h2 h3
          have Q0 := Lib.hid q0
          have Q1 := Lib.hid q1
          have Q2 := Lib.hid q2
          have Q3 := Lib.hid q3
          clear q0 q1 q2 q3
          go_enter Tryd.func25, Tryd.ntmps25
          go_wp2
          refine wp_loop_rounds 5 ?_
          rw [rounds_succ]
          go_wp2_with (go_at_call 43; ((with_reducible refine (Q0.out.at (Below.refl _ _)).mono ?_); rintro e w0 ⟨rfl, hb⟩; have HB0 : Hid (Below w.heap.size w w0) := Lib.hid (hb); clear hb; have g0_1 := cell_below hd1 HB0.out; have g0_2 := cell_below hd2 HB0.out; have g0_3 := cell_below hd3 HB0.out))
          rw [rounds_succ]
          go_wp2_with (go_at_call 43; ((with_reducible refine (Q1.out.at (HB0.out)).mono ?_); rintro e w1 ⟨rfl, hb⟩; have HB1 : Hid (Below w.heap.size w w1) := Lib.hid (below_on' HB0.out hb); clear hb; have g1_2 := cell_below hd2 HB1.out; have g1_3 := cell_below hd3 HB1.out))
          rw [rounds_succ]
          go_wp2_with (go_at_call 43; ((with_reducible refine (Q2.out.at (HB1.out)).mono ?_); rintro e w2 ⟨rfl, hb⟩; have HB2 : Hid (Below w.heap.size w w2) := Lib.hid (below_on' HB1.out hb); clear hb; have g2_3 := cell_below hd3 HB2.out))
          rw [rounds_succ]
          go_wp2_with (go_at_call 43; ((with_reducible refine (Q3.out.at (HB2.out)).mono ?_); rintro e w3 ⟨rfl, hb⟩; have HB3 : Hid (Below w.heap.size w w3) := Lib.hid (below_on' HB2.out hb); clear hb))
          rw [rounds_succ]
          go_wp2
          go_ret
          exact ⟨rfl, HB3.out⟩
        · subst h0 h1 h2
          have n3 : (r3 == 0) = false := by rw [beq_eq_false_iff_ne]; exact h3
          have m3 : (r3 != 0) = true := by rw [bne_iff_ne]; exact h3
          clear h3
          have Q0 := Lib.hid q0
          have Q1 := Lib.hid q1
          have Q2 := Lib.hid q2
          have Q3 := Lib.hid q3
          clear q0 q1 q2 q3
          go_enter Tryd.func25, Tryd.ntmps25
          go_wp2
          refine wp_loop_rounds 4 ?_
          rw [rounds_succ]
          go_wp2_with (go_at_call 43; ((with_reducible refine (Q0.out.at (Below.refl _ _)).mono ?_); rintro e w0 ⟨rfl, hb⟩; have HB0 : Hid (Below w.heap.size w w0) := Lib.hid (hb); clear hb; have g0_1 := cell_below hd1 HB0.out; have g0_2 := cell_below hd2 HB0.out; have g0_3 := cell_below hd3 HB0.out))
          rw [rounds_succ]
          go_wp2_with (go_at_call 43; ((with_reducible refine (Q1.out.at (HB0.out)).mono ?_); rintro e w1 ⟨rfl, hb⟩; have HB1 : Hid (Below w.heap.size w w1) := Lib.hid (below_on' HB0.out hb); clear hb; have g1_2 := cell_below hd2 HB1.out; have g1_3 := cell_below hd3 HB1.out))
          rw [rounds_succ]
          go_wp2_with (go_at_call 43; ((with_reducible refine (Q2.out.at (HB1.out)).mono ?_); rintro e w2 ⟨rfl, hb⟩; have HB2 : Hid (Below w.heap.size w w2) := Lib.hid (below_on' HB1.out hb); clear hb; have g2_3 := cell_below hd3 HB2.out))
          rw [rounds_succ]
          go_wp2_with (go_at_call 43; ((with_reducible refine (Q3.out.at (HB2.out)).mono ?_); rintro e w3 ⟨rfl, hb⟩; have HB3 : Hid (Below w.heap.size w w3) := Lib.hid (below_on' HB2.out hb); clear hb))
          go_ret
          exact ⟨rfl, HB3.out⟩
      · rw [if_pos h2]
        subst h0 h1
        have n2 : (r2 == 0) = false := by rw [beq_eq_false_iff_ne]; exact h2
        have m2 : (r2 != 0) = true := by rw [bne_iff_ne]; exact h2
        clear h2
        have Q0 := Lib.hid q0
        have Q1 := Lib.hid q1
        have Q2 := Lib.hid q2
        clear q0 q1 q2 q3
        go_enter Tryd.func25, Tryd.ntmps25
        go_wp2
        refine wp_loop_rounds 3 ?_
        rw [rounds_succ]
        go_wp2_with (go_at_call 43; ((with_reducible refine (Q0.out.at (Below.refl _ _)).mono ?_); rintro e w0 ⟨rfl, hb⟩; have HB0 : Hid (Below w.heap.size w w0) := Lib.hid (hb); clear hb; have g0_1 := cell_below hd1 HB0.out; have g0_2 := cell_below hd2 HB0.out))
        rw [rounds_succ]
        go_wp2_with (go_at_call 43; ((with_reducible refine (Q1.out.at (HB0.out)).mono ?_); rintro e w1 ⟨rfl, hb⟩; have HB1 : Hid (Below w.heap.size w w1) := Lib.hid (below_on' HB0.out hb); clear hb; have g1_2 := cell_below hd2 HB1.out))
        rw [rounds_succ]
        go_wp2_with (go_at_call 43; ((with_reducible refine (Q2.out.at (HB1.out)).mono ?_); rintro e w2 ⟨rfl, hb⟩; have HB2 : Hid (Below w.heap.size w w2) := Lib.hid (below_on' HB1.out hb); clear hb))
        go_ret
        exact ⟨rfl, HB2.out⟩
    · rw [if_pos h1]
      subst h0
      have n1 : (r1 == 0) = false := by rw [beq_eq_false_iff_ne]; exact h1
      have m1 : (r1 != 0) = true := by rw [bne_iff_ne]; exact h1
      clear h1
      have Q0 := Lib.hid q0
      have Q1 := Lib.hid q1
      clear q0 q1 q2 q3
      go_enter Tryd.func25, Tryd.ntmps25
      go_wp2
      refine wp_loop_rounds 2 ?_
      rw [rounds_succ]
      go_wp2_with (go_at_call 43; ((with_reducible refine (Q0.out.at (Below.refl _ _)).mono ?_); rintro e w0 ⟨rfl, hb⟩; have HB0 : Hid (Below w.heap.size w w0) := Lib.hid (hb); clear hb; have g0_1 := cell_below hd1 HB0.out))
      rw [rounds_succ]
      go_wp2_with (go_at_call 43; ((with_reducible refine (Q1.out.at (HB0.out)).mono ?_); rintro e w1 ⟨rfl, hb⟩; have HB1 : Hid (Below w.heap.size w w1) := Lib.hid (below_on' HB0.out hb); clear hb))
      go_ret
      exact ⟨rfl, HB1.out⟩
  · rw [if_pos h0]
    have n0 : (r0 == 0) = false := by rw [beq_eq_false_iff_ne]; exact h0
    have m0 : (r0 != 0) = true := by rw [bne_iff_ne]; exact h0
    clear h0
    have Q0 := Lib.hid q0
    clear q0 q1 q2 q3
    go_enter Tryd.func25, Tryd.ntmps25
    go_wp2
    refine wp_loop_rounds 1 ?_
    rw [rounds_succ]
    go_wp2_with (go_at_call 43; ((with_reducible refine (Q0.out.at (Below.refl _ _)).mono ?_); rintro e w0 ⟨rfl, hb⟩; have HB0 : Hid (Below w.heap.size w w0) := Lib.hid (hb); clear hb))
    go_ret
    exact ⟨rfl, HB0.out⟩
end Go.Proofs.YthlciaomfpephaaDoor.Basic

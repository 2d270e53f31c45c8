/-
  What layer 4's Decode answers. Conditions: the tables of layers 1 and 3 lie where the program lays them; the bytes' length.
-/
import Derived.Test.YthlciaomfpephaaDoorBasicDecClos
namespace Go.Proofs.YthlciaomfpephaaDoor.Basic
open Go.RowKit Go.Proofs.YthlciaomfpephaaDoor.Base Go.Proofs.YthlciaomfpephaaDoor.Ea Go.Proofs.YthlciaomfpephaaDoor.Field
set_option maxHeartbeats 1000000 in
theorem feD0 (D Sb B : Nat) (r : Int) (hr : r ≠ 0) (P0 : World → Prop) (w : World) (d0 : w.cell? ⟨D, 0, none⟩ = some (.func (.func 65) #[] #[ptr Sb, ptr B])) (q0 : Calls Tryd.prog 65 #[ptr Sb, ptr B] w fun e w' => e = .returned (.int .i64 r) ∧ P0 w') :
    Calls Tryd.prog 25 #[.slice (some ⟨D, 0, none⟩) 5 5] w fun e w' => e = .returned (.int .i64 r) ∧ P0 w' := by
  have n1 : (r == 0) = false := by rw [beq_eq_false_iff_ne]; exact hr
  have n2 : (r != 0) = true := by rw [bne_iff_ne]; exact hr
  clear hr
  have Q0 := Lib.hid q0
  clear q0
  go_enter Tryd.func25, Tryd.ntmps25
  go_wp2
  refine wp_loop_rounds 1 ?_
  rw [rounds_succ]
  go_wp2_with (go_at_call 65; ((with_reducible refine Q0.out.mono ?_); rintro e w0 ⟨rfl, hp⟩; have HP0 := Lib.hid hp; clear hp))
  go_ret
  exact ⟨rfl, HP0.out⟩
set_option maxHeartbeats 1000000 in
theorem feD1 (D Sb B Ib F : Nat) (r : Int) (hr : r ≠ 0) (P0 P1 : World → Prop) (w : World) (d0 : w.cell? ⟨D, 0, none⟩ = some (.func (.func 65) #[] #[ptr Sb, ptr B])) (q0 : Calls Tryd.prog 65 #[ptr Sb, ptr B] w fun e w' => e = .returned (.int .i64 0) ∧ P0 w') (d1 : ∀ w' : World, P0 w' → w'.cell? ⟨D, 1, none⟩ = some (.func (.func 67) #[] #[ptr B, ptr Ib, ptr F])) (q1 : ∀ w' : World, P0 w' → Calls Tryd.prog 67 #[ptr B, ptr Ib, ptr F] w' fun e w'' => e = .returned (.int .i64 r) ∧ P1 w'') :
    Calls Tryd.prog 25 #[.slice (some ⟨D, 0, none⟩) 5 5] w fun e w' => e = .returned (.int .i64 r) ∧ P1 w' := by
  have n1 : (r == 0) = false := by rw [beq_eq_false_iff_ne]; exact hr
  have n2 : (r != 0) = true := by rw [bne_iff_ne]; exact hr
  clear hr
  have Q0 := Lib.hid q0
  have Q1 := Lib.hid q1
  have D1 := Lib.hid d1
  clear q0 q1 d1
  go_enter Tryd.func25, Tryd.ntmps25
  go_wp2
  refine wp_loop_rounds 2 ?_
  rw [rounds_succ]
  go_wp2_with (go_at_call 65; ((with_reducible refine Q0.out.mono ?_); rintro e w0 ⟨rfl, hp⟩; have HP0 := Lib.hid hp; clear hp; have g1 := D1.out _ HP0.out))
  rw [rounds_succ]
  go_wp2_with (go_at_call 67; ((with_reducible refine (Q1.out _ HP0.out).mono ?_); rintro e w1 ⟨rfl, hp⟩; have HP1 := Lib.hid hp; clear hp))
  go_ret
  exact ⟨rfl, HP1.out⟩
set_option maxHeartbeats 1000000 in
theorem feD2 (D Sb B Ib F H2 E2 : Nat) (r : Int) (hr : r ≠ 0) (P0 P1 P2 : World → Prop) (w : World) (d0 : w.cell? ⟨D, 0, none⟩ = some (.func (.func 65) #[] #[ptr Sb, ptr B])) (q0 : Calls Tryd.prog 65 #[ptr Sb, ptr B] w fun e w' => e = .returned (.int .i64 0) ∧ P0 w') (d1 : ∀ w' : World, P0 w' → w'.cell? ⟨D, 1, none⟩ = some (.func (.func 67) #[] #[ptr B, ptr Ib, ptr F])) (q1 : ∀ w' : World, P0 w' → Calls Tryd.prog 67 #[ptr B, ptr Ib, ptr F] w' fun e w'' => e = .returned (.int .i64 0) ∧ P1 w'') (d2 : ∀ w' : World, P1 w' → w'.cell? ⟨D, 2, none⟩ = some (.func (.func 43) #[] #[ptr H2, ptr E2])) (q2 : ∀ w' : World, P1 w' → Calls Tryd.prog 43 #[ptr H2, ptr E2] w' fun e w'' => e = .returned (.int .i64 r) ∧ P2 w'') :
    Calls Tryd.prog 25 #[.slice (some ⟨D, 0, none⟩) 5 5] w fun e w' => e = .returned (.int .i64 r) ∧ P2 w' := by
  have n1 : (r == 0) = false := by rw [beq_eq_false_iff_ne]; exact hr
  have n2 : (r != 0) = true := by rw [bne_iff_ne]; exact hr
  clear hr
  have Q0 := Lib.hid q0
  have Q1 := Lib.hid q1
  have D1 := Lib.hid d1
  have Q2 := Lib.hid q2
  have D2 := Lib.hid d2
  clear q0 q1 q2 d1 d2
  go_enter Tryd.func25, Tryd.ntmps25
  go_wp2
  refine wp_loop_rounds 3 ?_
  rw [rounds_succ]
  go_wp2_with (go_at_call 65; ((with_reducible refine Q0.out.mono ?_); rintro e w0 ⟨rfl, hp⟩; have HP0 := Lib.hid hp; clear hp; have g1 := D1.out _ HP0.out))
  rw [rounds_succ]
  go_wp2_with (go_at_call 67; ((with_reducible refine (Q1.out _ HP0.out).mono ?_); rintro e w1 ⟨rfl, hp⟩; have HP1 := Lib.hid hp; clear hp; have g2 := D2.out _ HP1.out))
  rw [rounds_succ]
  go_wp2_with (go_at_call 43; ((with_reducible refine (Q2.out _ HP1.out).mono ?_); rintro e w2 ⟨rfl, hp⟩; have HP2 := Lib.hid hp; clear hp))
  go_ret
  exact ⟨rfl, HP2.out⟩
set_option maxHeartbeats 1000000 in
theorem feD3 (D Sb B Ib F H2 E2 H3 E3 : Nat) (r : Int) (hr : r ≠ 0) (P0 P1 P2 P3 : World → Prop) (w : World) (d0 : w.cell? ⟨D, 0, none⟩ = some (.func (.func 65) #[] #[ptr Sb, ptr B])) (q0 : Calls Tryd.prog 65 #[ptr Sb, ptr B] w fun e w' => e = .returned (.int .i64 0) ∧ P0 w') (d1 : ∀ w' : World, P0 w' → w'.cell? ⟨D, 1, none⟩ = some (.func (.func 67) #[] #[ptr B, ptr Ib, ptr F])) (q1 : ∀ w' : World, P0 w' → Calls Tryd.prog 67 #[ptr B, ptr Ib, ptr F] w' fun e w'' => e = .returned (.int .i64 0) ∧ P1 w'') (d2 : ∀ w' : World, P1 w' → w'.cell? ⟨D, 2, none⟩ = some (.func (.func 43) #[] #[ptr H2, ptr E2])) (q2 : ∀ w' : World, P1 w' → Calls Tryd.prog 43 #[ptr H2, ptr E2] w' fun e w'' => e = .returned (.int .i64 0) ∧ P2 w'') (d3 : ∀ w' : World, P2 w' → w'.cell? ⟨D, 3, none⟩ = some (.func (.func 43) #[] #[ptr H3, ptr E3])) (q3 : ∀ w' : World, P2 w' → Calls Tryd.prog 43 #[ptr H3, ptr E3] w' fun e w'' => e = .returned (.int .i64 r) ∧ P3 w'') :
    Calls Tryd.prog 25 #[.slice (some ⟨D, 0, none⟩) 5 5] w fun e w' => e = .returned (.int .i64 r) ∧ P3 w' := by
  have n1 : (r == 0) = false := by rw [beq_eq_false_iff_ne]; exact hr
  have n2 : (r != 0) = true := by rw [bne_iff_ne]; exact hr
  clear hr
  have Q0 := Lib.hid q0
  have Q1 := Lib.hid q1
  have D1 := Lib.hid d1
  have Q2 := Lib.hid q2
  have D2 := Lib.hid d2
  have Q3 := Lib.hid q3
  have D3 := Lib.hid d3
  clear q0 q1 q2 q3 d1 d2 d3
  go_enter Tryd.func25, Tryd.ntmps25
  go_wp2
  refine wp_loop_rounds 4 ?_
  rw [rounds_succ]
  go_wp2_with (go_at_call 65; ((with_reducible refine Q0.out.mono ?_); rintro e w0 ⟨rfl, hp⟩; have HP0 := Lib.hid hp; clear hp; have g1 := D1.out _ HP0.out))
  rw [rounds_succ]
  go_wp2_with (go_at_call 67; ((with_reducible refine (Q1.out _ HP0.out).mono ?_); rintro e w1 ⟨rfl, hp⟩; have HP1 := Lib.hid hp; clear hp; have g2 := D2.out _ HP1.out))
  rw [rounds_succ]
  go_wp2_with (go_at_call 43; ((with_reducible refine (Q2.out _ HP1.out).mono ?_); rintro e w2 ⟨rfl, hp⟩; have HP2 := Lib.hid hp; clear hp; have g3 := D3.out _ HP2.out))
  rw [rounds_succ]
  go_wp2_with (go_at_call 43; ((with_reducible refine (Q3.out _ HP2.out).mono ?_); rintro e w3 ⟨rfl, hp⟩; have HP3 := Lib.hid hp; clear hp))
  go_ret
  exact ⟨rfl, HP3.out⟩
set_option maxHeartbeats 1000000 in
theorem feD4 (D Sb B Ib F H2 E2 H3 E3 H4 E4 : Nat) (r : Int) (hr : r ≠ 0) (P0 P1 P2 P3 P4 : World → Prop) (w : World) (d0 : w.cell? ⟨D, 0, none⟩ = some (.func (.func 65) #[] #[ptr Sb, ptr B])) (q0 : Calls Tryd.prog 65 #[ptr Sb, ptr B] w fun e w' => e = .returned (.int .i64 0) ∧ P0 w') (d1 : ∀ w' : World, P0 w' → w'.cell? ⟨D, 1, none⟩ = some (.func (.func 67) #[] #[ptr B, ptr Ib, ptr F])) (q1 : ∀ w' : World, P0 w' → Calls Tryd.prog 67 #[ptr B, ptr Ib, ptr F] w' fun e w'' => e = .returned (.int .i64 0) ∧ P1 w'') (d2 : ∀ w' : World, P1 w' → w'.cell? ⟨D, 2, none⟩ = some (.func (.func 43) #[] #[ptr H2, ptr E2])) (q2 : ∀ w' : World, P1 w' → Calls Tryd.prog 43 #[ptr H2, ptr E2] w' fun e w'' => e = .returned (.int .i64 0) ∧ P2 w'') (d3 : ∀ w' : World, P2 w' → w'.cell? ⟨D, 3, none⟩ = some (.func (.func 43) #[] #[ptr H3, ptr E3])) (q3 : ∀ w' : World, P2 w' → Calls Tryd.prog 43 #[ptr H3, ptr E3] w' fun e w'' => e = .returned (.int .i64 0) ∧ P3 w'') (d4 : ∀ w' : World, P3 w' → w'.cell? ⟨D, 4, none⟩ = some (.func (.func 43) #[] #[ptr H4, ptr E4])) (q4 : ∀ w' : World, P3 w' → Calls Tryd.prog 43 #[ptr H4, ptr E4] w' fun e w'' => e = .returned (.int .i64 r) ∧ P4 w'') :
    Calls Tryd.prog 25 #[.slice (some ⟨D, 0, none⟩) 5 5] w fun e w' => e = .returned (.int .i64 r) ∧ P4 w' := by
  have n1 : (r == 0) = false := by rw [beq_eq_false_iff_ne]; exact hr
  have n2 : (r != 0) = true := by rw [bne_iff_ne]; exact hr
  clear hr
  have Q0 := Lib.hid q0
  have Q1 := Lib.hid q1
  have D1 := Lib.hid d1
  have Q2 := Lib.hid q2
  have D2 := Lib.hid d2
  have Q3 := Lib.hid q3
  have D3 := Lib.hid d3
  have Q4 := Lib.hid q4
  have D4 := Lib.hid d4
  clear q0 q1 q2 q3 q4 d1 d2 d3 d4
  go_enter Tryd.func25, Tryd.ntmps25
  go_wp2
  refine wp_loop_rounds 5 ?_
  rw [rounds_succ]
  go_wp2_with (go_at_call 65; ((with_reducible refine Q0.out.mono ?_); rintro e w0 ⟨rfl, hp⟩; have HP0 := Lib.hid hp; clear hp; have g1 := D1.out _ HP0.out))
  rw [rounds_succ]
  go_wp2_with (go_at_call 67; ((with_reducible refine (Q1.out _ HP0.out).mono ?_); rintro e w1 ⟨rfl, hp⟩; have HP1 := Lib.hid hp; clear hp; have g2 := D2.out _ HP1.out))
  rw [rounds_succ]
  go_wp2_with (go_at_call 43; ((with_reducible refine (Q2.out _ HP1.out).mono ?_); rintro e w2 ⟨rfl, hp⟩; have HP2 := Lib.hid hp; clear hp; have g3 := D3.out _ HP2.out))
  rw [rounds_succ]
  go_wp2_with (go_at_call 43; ((with_reducible refine (Q3.out _ HP2.out).mono ?_); rintro e w3 ⟨rfl, hp⟩; have HP3 := Lib.hid hp; clear hp; have g4 := D4.out _ HP3.out))
  rw [rounds_succ]
  go_wp2_with (go_at_call 43; ((with_reducible refine (Q4.out _ HP3.out).mono ?_); rintro e w4 ⟨rfl, hp⟩; have HP4 := Lib.hid hp; clear hp))
  go_ret
  exact ⟨rfl, HP4.out⟩
set_option maxHeartbeats 1000000 in
theorem feD5 (D Sb B Ib F H2 E2 H3 E3 H4 E4 : Nat) (P0 P1 P2 P3 P4 : World → Prop) (w : World) (d0 : w.cell? ⟨D, 0, none⟩ = some (.func (.func 65) #[] #[ptr Sb, ptr B])) (q0 : Calls Tryd.prog 65 #[ptr Sb, ptr B] w fun e w' => e = .returned (.int .i64 0) ∧ P0 w') (d1 : ∀ w' : World, P0 w' → w'.cell? ⟨D, 1, none⟩ = some (.func (.func 67) #[] #[ptr B, ptr Ib, ptr F])) (q1 : ∀ w' : World, P0 w' → Calls Tryd.prog 67 #[ptr B, ptr Ib, ptr F] w' fun e w'' => e = .returned (.int .i64 0) ∧ P1 w'') (d2 : ∀ w' : World, P1 w' → w'.cell? ⟨D, 2, none⟩ = some (.func (.func 43) #[] #[ptr H2, ptr E2])) (q2 : ∀ w' : World, P1 w' → Calls Tryd.prog 43 #[ptr H2, ptr E2] w' fun e w'' => e = .returned (.int .i64 0) ∧ P2 w'') (d3 : ∀ w' : World, P2 w' → w'.cell? ⟨D, 3, none⟩ = some (.func (.func 43) #[] #[ptr H3, ptr E3])) (q3 : ∀ w' : World, P2 w' → Calls Tryd.prog 43 #[ptr H3, ptr E3] w' fun e w'' => e = .returned (.int .i64 0) ∧ P3 w'') (d4 : ∀ w' : World, P3 w' → w'.cell? ⟨D, 4, none⟩ = some (.func (.func 43) #[] #[ptr H4, ptr E4])) (q4 : ∀ w' : World, P3 w' → Calls Tryd.prog 43 #[ptr H4, ptr E4] w' fun e w'' => e = .returned (.int .i64 0) ∧ P4 w'') :
    Calls Tryd.prog 25 #[.slice (some ⟨D, 0, none⟩) 5 5] w fun e w' => e = .returned (.int .i64 0) ∧ P4 w' := by
  have Q0 := Lib.hid q0
  have Q1 := Lib.hid q1
  have D1 := Lib.hid d1
  have Q2 := Lib.hid q2
  have D2 := Lib.hid d2
  have Q3 := Lib.hid q3
  have D3 := Lib.hid d3
  have Q4 := Lib.hid q4
  have D4 := Lib.hid d4
  clear q0 q1 q2 q3 q4 d1 d2 d3 d4
  go_enter Tryd.func25, Tryd.ntmps25
  go_wp2
  refine wp_loop_rounds 6 ?_
  rw [rounds_succ]
  go_wp2_with (go_at_call 65; ((with_reducible refine Q0.out.mono ?_); rintro e w0 ⟨rfl, hp⟩; have HP0 := Lib.hid hp; clear hp; have g1 := D1.out _ HP0.out))
  rw [rounds_succ]
  go_wp2_with (go_at_call 67; ((with_reducible refine (Q1.out _ HP0.out).mono ?_); rintro e w1 ⟨rfl, hp⟩; have HP1 := Lib.hid hp; clear hp; have g2 := D2.out _ HP1.out))
  rw [rounds_succ]
  go_wp2_with (go_at_call 43; ((with_reducible refine (Q2.out _ HP1.out).mono ?_); rintro e w2 ⟨rfl, hp⟩; have HP2 := Lib.hid hp; clear hp; have g3 := D3.out _ HP2.out))
  rw [rounds_succ]
  go_wp2_with (go_at_call 43; ((with_reducible refine (Q3.out _ HP2.out).mono ?_); rintro e w3 ⟨rfl, hp⟩; have HP3 := Lib.hid hp; clear hp; have g4 := D4.out _ HP3.out))
  rw [rounds_succ]
  go_wp2_with (go_at_call 43; ((with_reducible refine (Q4.out _ HP3.out).mono ?_); rintro e w4 ⟨rfl, hp⟩; have HP4 := Lib.hid hp; clear hp))
  rw [rounds_succ]
  go_wp2
  go_ret
  exact ⟨rfl, HP4.out⟩
end Go.Proofs.YthlciaomfpephaaDoor.Basic

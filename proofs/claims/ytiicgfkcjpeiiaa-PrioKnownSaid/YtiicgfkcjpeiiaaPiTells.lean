/-
  Both tell the same of each number. Condition: both lie where they say, and are alike.
-/
import Derived.Test.YtiicgfkcjpeiiaaPiDoes
import Derived.BigQuiet
namespace Go.Proofs.Ytiicgfkcjpeiiaa.Pi
open Go.RowKit Go.Proofs.Ytiicgfkcjpeiiaa.Base Go.Proofs.Ytiicgfkcjpeiiaa.Mem Go.Proofs.Ytiicgfkcjpeiiaa.Cr
set_option maxHeartbeats 4000000 in
theorem ftells_hi (b kb d : Nat) (hd : 64 ≤ d) (w : World) : Calls Try.prog 11 #[ptr b, ptr kb, oc d] w fun e w' => e = .returned (.bool true) ∧ ∃ m, w' = w.drewN m := by
  have C1 := Lib.hid (fun w => fclass_hi b d hd w)
  have C2 := Lib.hid (fun w => fready_hi b d hd w)
  have C3 := Lib.hid (fun w => fmay_hi b d hd w)
  have t0 : decide ((63 : Int) < (d : Int)) = true := decide_eq_true (by omega)
  have t1 : (63 : Int) < (d : Int) := by omega
  clear hd
  go_enter Try.func11, Try.ntmps11
  go_wp2_with fail
  refine (C1.out _).mono ?_
  rintro _ _ ⟨rfl, rfl⟩
  go_wp2_with fail
  refine (C2.out _).mono ?_
  rintro _ _ ⟨rfl, rfl⟩
  go_wp2_with fail
  refine (C3.out _).mono ?_
  rintro _ _ ⟨rfl, nq, rfl⟩
  go_wp2
  go_ret
  exact ⟨rfl, nq, rfl⟩
set_option maxHeartbeats 4000000 in
theorem ftells_lo {w : World} {b : Nat} {k : Rb} {x : St} (d : Nat) (hd : d < 64) (h : P w b x) (hu : R w k x) : Calls Try.prog 11 #[ptr b, ptr k.b, oc d] w fun e w' => e = .returned (.bool true) ∧ ∃ m, w' = w.drewN m := by
  have C1 := Lib.hid (fun m => fclass (h.drewN m) d hd)
  have C2 := Lib.hid (fun m => fready (h.drewN m) d hd)
  have C3 := Lib.hid (fun m => fmay (h.drewN m) d hd)
  have C4 := Lib.hid (fun m => rmay (hu.drewN m) d hd)
  have c0 := hu.hd.cell 0 _ rfl
  have c1 := hu.hd.cell 1 _ rfl
  have ci := hu.i.cell hd
  have cc := hu.c.cell hd
  have l0 := hu.hd.lt
  have l1 := hu.c.lt
  have l2 := hu.i.lt
  have t0 : decide ((63 : Int) < (d : Int)) = false := decide_eq_false (by omega)
  have t1 : ¬ (63 : Int) < (d : Int) := by omega
  have t2 : (d : Int) < 64 := by omega
  obtain ⟨c, hc⟩ : ∃ c, x.cl d = c := ⟨_, rfl⟩
  simp only [hc] at C1 cc
  generalize x.rd d = r at C2 ci
  generalize x.may d = v at C3 C4
  have zc : ((c : Int) == (c : Int)) = true := beq_self_eq_true _
  have zr : (r == r) = true := beq_self_eq_true _
  have zv : (v == v) = true := beq_self_eq_true _
  clear h hu hd hc
  go_enter Try.func11, Try.ntmps11
  go_wp2_with fail
  go_quiet (first
    | (go_at_call 16; exact quiet_left (C1.out _))
    | (go_at_call 15; exact quiet_left (C2.out _))
    | (go_at_call 13; exact quiet_drew (C3.out _))
    | (go_at_call 25; exact quiet_drew (C4.out _)))
  go_wp2
  go_ret
  exact ⟨rfl, nq, rfl⟩
theorem ftells {w0 w : World} {b : Nat} {k : Rb} {x : St} (d : Nat) (h : Duo w0 b k x x w) : Calls Try.prog 11 #[ptr b, ptr k.b, oc d] w fun e w' => e = .returned (.bool true) ∧ Duo w0 b k x x w' := by
  have : Calls Try.prog 11 #[ptr b, ptr k.b, oc d] w fun e w' => e = .returned (.bool true) ∧ ∃ m, w' = w.drewN m := by
    by_cases hd : d < 64
    · exact ftells_lo d hd h.one.q h.two
    · exact ftells_hi b k.b d (by omega) w
  exact this.mono fun _ _ ⟨he, m, hw⟩ => ⟨he, hw ▸ h.drewN m⟩
end Go.Proofs.Ytiicgfkcjpeiiaa.Pi

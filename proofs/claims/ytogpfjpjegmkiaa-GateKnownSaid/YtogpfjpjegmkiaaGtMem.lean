/-
  The program's own gate in memory; what New, All, Stop, Open, May of it answer, and its small words. Condition: it lies where it says.
-/
import Derived.Test.YtogpfjpjegmkiaaGtMath
import Derived.Laws.MakeOwn
import Derived.Laws.OwnMore
import Derived.Laws.Tables
import Derived.Deep.LoopGhost
import Derived.Laws.Bits128
import Derived.Deep.RegionHeld
namespace Go.Proofs.Ytogpfjpjegmkiaa.Gt
open Go.RowKit Go.Proofs.Ytogpfjpjegmkiaa.Base Go.Proofs.Ytogpfjpjegmkiaa.Mem Go.Proofs.Ytogpfjpjegmkiaa.Cr
abbrev oc (n : Nat) : Value := .int .u8 (n : Int)
abbrev nm (n : Nat) : Value := .int .i64 (n : Int)
abbrev lm (n : Nat) : Value := .int .u64 (n : Int)
abbrev PT : TypeId := 42
abbrev Bs (b : Nat) : Nat → Prop := fun k => k = b
/-- The program's own lies there. -/
structure P (w : World) (b : Nat) (x : St) : Prop where
  ar : At w b #[.bool !x.op, lm x.n] PT
  ok : x.Ok
theorem wrap_u8 (n : Nat) (h : n < 256) : IntKind.u8.wrap (n : Int) = (n : Int) := by rw [IntKind.wrap_u8]; omega
theorem wrap_nat (n : Nat) (h : n ≤ 9223372036854775807) : IntKind.i64.wrap (n : Int) = (n : Int) := by rw [IntKind.wrap_i64]; omega
section
variable {w w' : World} {b : Nat} {x : St}
theorem P.lt (h : P w b x) : b < w.heap.size := h.ar.lt
theorem P.free (h : P w b x) : ∀ i, w.frozen? ⟨b, i, none⟩ = false := h.ar.free
theorem P.other {S : Nat → Prop} (h : P w b x) (hc : Chg S w w') (hn : ¬ S b) : P w' b x := ⟨h.ar.other hc hn, h.ok⟩
theorem P.below (h : P w b x) (hb : Below w.heap.size w w') : P w' b x := ⟨h.ar.below hb, h.ok⟩
theorem P.drewN (h : P w b x) (n : Nat) : P (w.drewN n) b x := h.below ⟨rfl, rfl, rfl, Nat.le_refl _, fun _ _ => rfl⟩
theorem P.drew (h : P w b x) : P w.drew b x := h.below ⟨rfl, rfl, rfl, Nat.le_refl _, fun _ _ => rfl⟩
theorem P.c0 (h : P w b x) : w.cell? ⟨b, 0, none⟩ = some (.bool !x.op) := h.ar.cell 0 _ rfl
theorem P.c1 (h : P w b x) : w.cell? ⟨b, 1, none⟩ = some (lm x.n) := h.ar.cell 1 _ rfl
theorem P.all (h : P w b x) (y : Bool) : P (w.setCell ⟨b, 0, none⟩ (.bool !y)) b (x.all y) := ⟨h.ar.set 0 _, h.ok.all y⟩
theorem P.stop (h : P w b x) {d : Nat} (y : Bool) (hd : 0 < d ∧ d ≤ 63) : P (w.setCell ⟨b, 1, none⟩ (lm (setB x.n d y))) b (x.stop d y) := by
  refine ⟨?_, h.ok.stop d y⟩
  rw [stop_yes y hd]
  exact h.ar.set 1 _
end
theorem fstop1 (d : Nat) (hd : 0 < d ∧ d ≤ 63) (w : World) : Calls Try.prog 21 #[oc d] w fun e w' => e = .returned (.bool true) ∧ w = w' := by
  have t0 : decide ((0 : Int) < (d : Int)) = true := decide_eq_true (by omega)
  have t1 : decide ((d : Int) ≤ 63) = true := decide_eq_true (by omega)
  have t2 : (0 : Int) < (d : Int) := by omega
  have t3 : (d : Int) ≤ 63 := by omega
  have t4 : 0 < d := by omega
  have t5 : d ≤ 63 := by omega
  clear hd
  go_enter Try.func21, Try.ntmps21
  go_wp2
  go_ret
  exact ⟨rfl, rfl⟩
theorem fstop0 (d : Nat) (hd : ¬ (0 < d ∧ d ≤ 63)) (w : World) : Calls Try.prog 21 #[oc d] w fun e w' => e = .returned (.bool false) ∧ w = w' := by
  by_cases h0 : d = 0
  · subst h0
    go_enter Try.func21, Try.ntmps21
    go_wp2
    go_ret
    exact ⟨rfl, rfl⟩
  · have t0 : decide ((0 : Int) < (d : Int)) = true := decide_eq_true (by omega)
    have t1 : decide ((d : Int) ≤ 63) = false := decide_eq_false (by omega)
    have t2 : (0 : Int) < (d : Int) := by omega
    have t3 : ¬ (d : Int) ≤ 63 := by omega
    have t4 : 0 < d := by omega
    have t5 : ¬ d ≤ 63 := by omega
    clear hd h0
    go_enter Try.func21, Try.ntmps21
    go_wp2
    go_ret
    exact ⟨rfl, rfl⟩
theorem wrap_pow {d : Nat} (hd : d < 64) : IntKind.u64.wrap (2 ^ min d 64) = ((2 ^ d : Nat) : Int) := by
  rw [Nat.min_eq_left (by omega : d ≤ 64)]
  have h := pow_lt hd
  have e : ((2 : Int) ^ d) = ((2 ^ d : Nat) : Int) := by rw [Int.natCast_pow]; rfl
  rw [IntKind.wrap_u64, e]
  generalize 2 ^ d = p at h
  omega
theorem fbit (d : Nat) (hd : d < 64) (w : World) : Calls Try.prog 22 #[oc d] w fun e w' => e = .returned (lm (2 ^ d)) ∧ w = w' := by
  have e := Lib.hid (wrap_pow hd)
  clear hd
  go_enter Try.func22, Try.ntmps22
  go_wp2
  go_ret
  exact ⟨congrArg (fun z => Ending.returned (.int .u64 z)) e.out, rfl⟩
theorem and127 (z : Int) : ∃ k : Nat, k < 128 ∧ bits .and .i64 z 127 = (k : Int) := ⟨(z % 128).toNat, by omega, by rw [i64_and127]; omega⟩
theorem fones (n : Nat) (w : World) : Calls Try.prog 23 #[lm n] w fun e w' => (∃ k : Nat, k < 128 ∧ e = .returned (nm k)) ∧ w = w' := by
  go_enter Try.func23, Try.ntmps23
  go_wp2
  go_ret
  obtain ⟨k, hk, e⟩ := and127 _
  exact ⟨⟨k, hk, congrArg (fun z => Ending.returned (.int .i64 z)) e⟩, rfl⟩
/-- What the test of a bit reads. -/
theorem bit_test {n d : Nat} (hn : n < 18446744073709551616) (hd : d < 64) : ∃ q : Nat, bits .and .u64 (n : Int) ((2 ^ d : Nat) : Int) = (q : Int) ∧ (n.testBit d = true → q ≠ 0) ∧ (n.testBit d = false → q = 0) :=
  ⟨n &&& 2 ^ d, u64_and_nat n _ hn (pow_lt hd), (fun h e => by rw [(and_bit n d).1 e] at h; cases h), (and_bit n d).2⟩
theorem bit_on {n d : Nat} (hn : n < 18446744073709551616) (hd : d < 64) : bits .or .u64 (n : Int) ((2 ^ d : Nat) : Int) = (setB n d true : Nat) := u64_or_nat n _ hn (pow_lt hd)
theorem bit_off {n d : Nat} (hn : n < 18446744073709551616) (hd : d < 64) : bits .andNot .u64 (n : Int) ((2 ^ d : Nat) : Int) = (setB n d false : Nat) := u64_andNot_nat n _ hn (pow_lt hd)
section
variable {w : World} {b : Nat} {x : St}
theorem fopen (h : P w b x) : Calls Try.prog 9 #[ptr b] w fun e w' => e = .returned (.bool x.op) ∧ w = w' := by
  have c0 := h.c0
  have hl := h.lt
  generalize x.op = o at c0 ⊢
  clear h
  cases o with
  | true =>
    go_enter Try.func9, Try.ntmps9
    go_wp2
    go_ret
    exact ⟨rfl, rfl⟩
  | false =>
    go_enter Try.func9, Try.ntmps9
    go_wp2
    go_ret
    exact ⟨rfl, rfl⟩
theorem fopen_nil (w : World) : Calls Try.prog 9 #[.pointer none] w fun e w' => e = .returned (.bool false) ∧ w = w' := by
  go_enter Try.func9, Try.ntmps9
  go_wp2
  go_ret
  exact ⟨rfl, rfl⟩
theorem fall (h : P w b x) (y : Bool) : Calls Try.prog 16 #[ptr b, .bool y] w fun e w' => e = .returned (.tuple #[]) ∧ P w' b (x.all y) ∧ Chg (Bs b) w w' := by
  have c0 := h.c0
  have hf := h.free
  have hl := h.lt
  have HX := Lib.hid (And.intro (h.all y) (Chg.set (S := Bs b) b 0 (.bool !y) rfl w))
  clear h
  go_enter Try.func16, Try.ntmps16
  go_wp2
  go_end0
  exact ⟨rfl, HX.out⟩
theorem fall_nil (y : Bool) (w : World) : Calls Try.prog 16 #[.pointer none, .bool y] w fun e w' => e = .returned (.tuple #[]) ∧ w = w' := by
  go_enter Try.func16, Try.ntmps16
  go_wp2
  go_end0
  exact ⟨rfl, rfl⟩
theorem fmay_nil (d : Nat) (w : World) : Calls Try.prog 11 #[.pointer none, oc d] w fun e w' => e = .returned (.bool false) ∧ w = w' := by
  go_enter Try.func11, Try.ntmps11
  go_wp2
  go_ret
  exact ⟨rfl, rfl⟩
theorem fmay_zero (b : Nat) (w : World) : Calls Try.prog 11 #[ptr b, oc 0] w fun e w' => e = .returned (.bool true) ∧ w = w' := by
  go_enter Try.func11, Try.ntmps11
  go_wp2
  go_ret
  exact ⟨rfl, rfl⟩
theorem fmay_hi (b d : Nat) (hd : 63 < d) (w : World) : Calls Try.prog 11 #[ptr b, oc d] w fun e w' => e = .returned (.bool false) ∧ ∃ k, w' = w.drewN k := by
  have CS := Lib.hid (fun w => fstop0 d (by omega) w)
  have t0 : ((d : Int) == 0) = false := beq_false (by omega)
  have t1 : ¬ (d : Int) = 0 := by omega
  clear hd
  go_enter Try.func11, Try.ntmps11
  go_wp2_with fail
  go_quiet (first | (go_at_call 21; exact quiet_left (CS.out _)))
  go_wp2
  go_ret
  exact ⟨rfl, nq, rfl⟩
set_option maxHeartbeats 1000000 in
theorem fmay_in (h : P w b x) (d : Nat) (h0 : 0 < d) (h1 : d ≤ 63) : Calls Try.prog 11 #[ptr b, oc d] w fun e w' => e = .returned (.bool (x.may d)) ∧ ∃ k, w' = w.drewN k := by
  have CS := Lib.hid (fun w => fstop1 d ⟨h0, h1⟩ w)
  have CB := fun w => fbit d (by omega) w
  obtain ⟨q, e0, e1, e2⟩ := bit_test (n := x.n) (d := d) h.ok.lt (by omega)
  rw [may_at h0 h1]
  change x.st d = true → q ≠ 0 at e1
  change x.st d = false → q = 0 at e2
  have c0 := h.c0
  have c1 := h.c1
  have hl := h.lt
  have t0 : ((d : Int) == 0) = false := beq_false (by omega)
  have t1 : ¬ (d : Int) = 0 := by omega
  generalize x.st d = s at e1 e2 ⊢
  generalize x.op = o at c0 ⊢
  generalize x.n = n at c1 e0
  generalize 2 ^ d = p at CB e0
  have CB := Lib.hid CB
  clear h h0 h1
  cases o with
  | true =>
    cases s with
    | true =>
      have q0 : ((q : Int) == 0) = false := beq_false (by have := e1 rfl; omega)
      clear e1 e2
      go_enter Try.func11, Try.ntmps11
      go_wp2_with fail
      go_quiet (first | (go_at_call 21; exact quiet_left (CS.out _)) | (go_at_call 22; exact quiet_left (CB.out _)))
      go_wp2
      go_ret
      exact ⟨rfl, nq, rfl⟩
    | false =>
      have hq := e2 rfl
      subst hq
      clear e1 e2
      go_enter Try.func11, Try.ntmps11
      go_wp2_with fail
      go_quiet (first | (go_at_call 21; exact quiet_left (CS.out _)) | (go_at_call 22; exact quiet_left (CB.out _)))
      go_wp2
      go_ret
      exact ⟨rfl, nq, rfl⟩
  | false =>
    clear e0 e1 e2
    go_enter Try.func11, Try.ntmps11
    go_wp2_with fail
    go_quiet (first | (go_at_call 21; exact quiet_left (CS.out _)) | (go_at_call 22; exact quiet_left (CB.out _)))
    go_wp2
    go_ret
    exact ⟨rfl, nq, rfl⟩
theorem fmay (h : P w b x) (d : Nat) : Calls Try.prog 11 #[ptr b, oc d] w fun e w' => e = .returned (.bool (x.may d)) ∧ ∃ k, w' = w.drewN k := by
  by_cases h0 : d = 0
  · subst h0
    exact (fmay_zero b w).mono fun _ _ ⟨he, hw⟩ => ⟨he, 0, hw.symm⟩
  by_cases h1 : d ≤ 63
  · exact fmay_in h d (by omega) h1
  · rw [may_hi (by omega)]; exact fmay_hi b d (by omega) w
theorem fstop_nil (d : Nat) (y : Bool) (w : World) : Calls Try.prog 18 #[.pointer none, oc d, .bool y] w fun e w' => e = .returned (.tuple #[]) ∧ w = w' := by
  go_enter Try.func18, Try.ntmps18
  go_wp2
  refine bodyPost_ret (results_none rfl _ _ _) rfl ?_
  exact ⟨rfl, rfl⟩
theorem fstop_no (b d : Nat) (y : Bool) (hd : ¬ (0 < d ∧ d ≤ 63)) (w : World) : Calls Try.prog 18 #[ptr b, oc d, .bool y] w fun e w' => e = .returned (.tuple #[]) ∧ w = w' := by
  have CS := Lib.hid (fun w => fstop0 d hd w)
  clear hd
  go_enter Try.func18, Try.ntmps18
  go_wp2_with fail
  refine (CS.out _).mono ?_
  rintro _ _ ⟨rfl, rfl⟩
  go_wp2
  refine bodyPost_ret (results_none rfl _ _ _) rfl ?_
  exact ⟨rfl, rfl⟩
end
end Go.Proofs.Ytogpfjpjegmkiaa.Gt

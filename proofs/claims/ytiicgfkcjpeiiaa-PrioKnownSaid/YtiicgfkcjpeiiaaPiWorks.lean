/-
  The chapter's examples hold; one that was made since a world. No condition.
-/
import Derived.Test.YtiicgfkcjpeiiaaPiRef
namespace Go.Proofs.Ytiicgfkcjpeiiaa.Pi
open Go.RowKit Go.Proofs.Ytiicgfkcjpeiiaa.Base Go.Proofs.Ytiicgfkcjpeiiaa.Mem Go.Proofs.Ytiicgfkcjpeiiaa.Cr
/-- One that was made since w0. -/
structure Pn (w0 : World) (b : Nat) (x : St) (w : World) : Prop where
  q : P w b x
  lo : w0.heap.size ≤ b
  below : Below w0.heap.size w0 w
section
variable {w0 w w' : World} {b : Nat} {x y : St}
theorem Pn.on (h : Pn w0 b x w) (hb : Below w.heap.size w w') : Pn w0 b x w' := ⟨h.q.below hb, h.lo, below_on h.below hb⟩
theorem Pn.drewN (h : Pn w0 b x w) (n : Nat) : Pn w0 b x (w.drewN n) := h.on ⟨rfl, rfl, rfl, Nat.le_refl _, fun _ _ => rfl⟩
theorem Pn.step (h : Pn w0 b x w) (hq : P w' b y) (hc : Chg (Bs b) w w') : Pn w0 b y w' :=
  ⟨hq, h.lo, hc.below h.below h.below.size fun _ e => e ▸ h.lo⟩
theorem fclass_at (h : P w b x) (d : Nat) (hd : d < 64) (c : Nat) (hc : x.cl d = c) : Calls Try.prog 16 #[ptr b, oc d] w fun e w' => e = .returned (oc c) ∧ w = w' := by
  subst hc; exact fclass h d hd
theorem fmay_at (h : P w b x) (d : Nat) (hd : d < 64) (v : Bool) (hv : x.may d = v) : Calls Try.prog 13 #[ptr b, oc d] w fun e w' => e = .returned (.bool v) ∧ ∃ k, w' = w.drewN k := by
  subst hv; exact fmay h d hd
theorem fpick_at (h : P w b x) (d : Nat) (hd : x.pd = d) (v : Bool) (hv : x.pb = v) : Calls Try.prog 14 #[ptr b] w fun e w' => e = .returned (.tuple #[oc d, .bool v]) ∧ P w' b x.pick ∧ Chg (Bs b) w w' := by
  subst hd hv; exact fpick h
end
abbrev e1 : St := ((St.new.setR 3 true).setR 5 true).setR 9 true
abbrev e4 : St := e1.pick.pick.pick.setC 5 3
abbrev e5 : St := e4.pick.setR 5 false
set_option maxHeartbeats 4000000 in
set_option maxRecDepth 100000 in
theorem fworks (w : World) : Calls Try.prog 7 #[] w fun e w' => e = .returned (.bool true) ∧ Below w.heap.size w w' := by
  go_enter Try.func7, Try.ntmps7
  go_wp2_with fail
  refine (fnew _).mono ?_
  rintro _ w1 ⟨rfl, hq, hb⟩
  have T0 : Hid (Pn w w.heap.size St.new w1) := Lib.hid ⟨hq, Nat.le_refl _, hb⟩
  clear hq hb
  generalize w.heap.size = b at T0 ⊢
  go_wp2_with fail
  refine (fclass_at T0.out.q 0 (by decide) 0 (by decide +kernel)).mono ?_
  rintro _ _ ⟨rfl, rfl⟩
  go_wp2_with fail
  refine (fclass_at T0.out.q 5 (by decide) 7 (by decide +kernel)).mono ?_
  rintro _ _ ⟨rfl, rfl⟩
  go_wp2_with fail
  refine (fclass_at T0.out.q 8 (by decide) 15 (by decide +kernel)).mono ?_
  rintro _ _ ⟨rfl, rfl⟩
  go_wp2_with fail
  refine (fclass_at T0.out.q 63 (by decide) 61 (by decide +kernel)).mono ?_
  rintro _ _ ⟨rfl, rfl⟩
  go_wp2_with fail
  refine (fsetR T0.out.q 3 true (by decide)).mono ?_
  rintro _ w2 ⟨rfl, hq, hc⟩
  have T1 : Hid (Pn w b (St.new.setR 3 true) w2) := Lib.hid (T0.out.step hq hc)
  clear hq hc T0
  go_wp2_with fail
  refine (fsetR T1.out.q 5 true (by decide)).mono ?_
  rintro _ w3 ⟨rfl, hq, hc⟩
  have T2 : Hid (Pn w b ((St.new.setR 3 true).setR 5 true) w3) := Lib.hid (T1.out.step hq hc)
  clear hq hc T1
  go_wp2_with fail
  refine (fsetR T2.out.q 9 true (by decide)).mono ?_
  rintro _ w4 ⟨rfl, hq, hc⟩
  have T3 : Hid (Pn w b (e1) w4) := Lib.hid (T2.out.step hq hc)
  clear hq hc T2
  go_wp2_with fail
  refine (fpick_at T3.out.q 3 (by decide +kernel) true (by decide +kernel)).mono ?_
  rintro _ w5 ⟨rfl, hq, hc⟩
  have T4 : Hid (Pn w b (e1.pick) w5) := Lib.hid (T3.out.step hq hc)
  clear hq hc T3
  go_wp2_with fail
  refine (fpick_at T4.out.q 5 (by decide +kernel) true (by decide +kernel)).mono ?_
  rintro _ w6 ⟨rfl, hq, hc⟩
  have T5 : Hid (Pn w b (e1.pick.pick) w6) := Lib.hid (T4.out.step hq hc)
  clear hq hc T4
  go_wp2_with fail
  refine (fpick_at T5.out.q 3 (by decide +kernel) true (by decide +kernel)).mono ?_
  rintro _ w7 ⟨rfl, hq, hc⟩
  have T6 : Hid (Pn w b (e1.pick.pick.pick) w7) := Lib.hid (T5.out.step hq hc)
  clear hq hc T5
  go_wp2_with fail
  refine (fmay_at T6.out.q 9 (by decide) false (by decide +kernel)).mono ?_
  rintro _ _ ⟨rfl, nq, rfl⟩
  have T7 := Lib.hid (T6.out.drewN nq)
  clear T6
  generalize w7.drewN nq = w8 at T7 ⊢
  go_wp2_with fail
  refine (fsetC T7.out.q 5 3 (by decide) (by decide)).mono ?_
  rintro _ w9 ⟨rfl, hq, hc⟩
  have T8 : Hid (Pn w b (e4) w9) := Lib.hid (T7.out.step hq hc)
  clear hq hc T7
  go_wp2_with fail
  refine (fpick_at T8.out.q 5 (by decide +kernel) true (by decide +kernel)).mono ?_
  rintro _ w10 ⟨rfl, hq, hc⟩
  have T9 : Hid (Pn w b (e4.pick) w10) := Lib.hid (T8.out.step hq hc)
  clear hq hc T8
  go_wp2_with fail
  refine (fsetR T9.out.q 5 false (by decide)).mono ?_
  rintro _ w11 ⟨rfl, hq, hc⟩
  have T10 : Hid (Pn w b (e5) w11) := Lib.hid (T9.out.step hq hc)
  clear hq hc T9
  go_wp2_with fail
  refine (fpick_at T10.out.q 3 (by decide +kernel) true (by decide +kernel)).mono ?_
  rintro _ w12 ⟨rfl, hq, hc⟩
  have T11 : Hid (Pn w b (e5.pick) w12) := Lib.hid (T10.out.step hq hc)
  clear hq hc T10
  go_wp2
  go_ret
  exact ⟨rfl, T11.out.below⟩
end Go.Proofs.Ytiicgfkcjpeiiaa.Pi

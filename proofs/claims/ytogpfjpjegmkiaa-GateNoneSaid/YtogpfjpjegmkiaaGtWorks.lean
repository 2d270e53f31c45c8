/-
  The chapter's examples hold; one that was made since a world. No condition.
-/
import Derived.Test.YtogpfjpjegmkiaaGtSame
namespace Go.Proofs.Ytogpfjpjegmkiaa.Gt
open Go.RowKit Go.Proofs.Ytogpfjpjegmkiaa.Base Go.Proofs.Ytogpfjpjegmkiaa.Mem Go.Proofs.Ytogpfjpjegmkiaa.Cr
/-- One that was made since w0. -/
structure Pn (w0 : World) (b : Nat) (x : St) (w : World) : Prop where
  q : P w b x
  lo : w0.heap.size ≤ b
  below : Below w0.heap.size w0 w
section
variable {w0 w w' : World} {b : Nat} {x y : St}
theorem Pn.on (h : Pn w0 b x w) (hb : Below w.heap.size w w') : Pn w0 b x w' := ⟨h.q.below hb, h.lo, below_on h.below hb⟩
theorem Pn.drewN (h : Pn w0 b x w) (n : Nat) : Pn w0 b x (w.drewN n) := h.on ⟨rfl, rfl, rfl, Nat.le_refl _, fun _ _ => rfl⟩
theorem Pn.step (h : Pn w0 b x w) (hq : P w' b y) (hc : Chg (Bs b) w w') : Pn w0 b y w' :=
  ⟨hq, h.lo, hc.below h.below h.below.size fun _ e => e ▸ h.lo⟩
theorem fopen_at (h : P w b x) (v : Bool) (hv : x.op = v) : Calls Try.prog 9 #[ptr b] w fun e w' => e = .returned (.bool v) ∧ w = w' := by
  subst hv; exact fopen h
theorem fmay_at (h : P w b x) (d : Nat) (v : Bool) (hv : x.may d = v) : Calls Try.prog 11 #[ptr b, oc d] w fun e w' => e = .returned (.bool v) ∧ ∃ k, w' = w.drewN k := by
  subst hv; exact fmay h d
theorem fstopped_at (h : P w b x) (l : List Nat) (hl : x.sl 64 = l) : Calls Try.prog 14 #[ptr b] w fun e w' => ∃ v, e = .returned v ∧ Gs w v l w' := by
  subst hl; exact fstopped h
theorem own_one (w : World) (d : Nat) : OwnS 5 1 fcC (w.alloc (.cells #[oc d] 5 (0, 0))) w.heap.size (.slice (some ⟨w.heap.size, 0, none⟩) 1 1) [d] :=
  ⟨rfl, Or.inr ⟨_, 1, #[oc d], rfl, Nat.le_refl _, nest w [_] 0 _ rfl, Nat.le_refl _, by unfold maxLen; omega, rfl, rfl⟩⟩
theorem fsame_yes (w : World) (va vb : Value) (ba bb : Nat) (A : List Nat) (hA : OwnS 5 1 fcC w ba va A) (hB : OwnS 5 1 fcC w bb vb A) (lA : A.length ≤ 1000) :
    Calls Try.prog 13 #[va, vb] w fun r w' => r = .returned (.bool true) ∧ ∃ m, w' = w.drewN m := by
  have h := fsame w va vb ba bb A A hA hB lA lA
  rw [decide_eq_true rfl] at h
  exact h
end
abbrev e5 : St := St.new.stop 5 true
set_option maxHeartbeats 4000000 in
set_option maxRecDepth 100000 in
theorem fworks (w : World) : Calls Try.prog 7 #[] w fun e w' => e = .returned (.bool true) ∧ Below w.heap.size w w' := by
  go_enter Try.func7, Try.ntmps7
  go_wp2_with fail
  refine (fnew _).mono ?_
  rintro _ w1 ⟨rfl, hq, hb⟩
  have T0 : Hid (Pn w w.heap.size St.new w1) := Lib.hid ⟨hq, Nat.le_refl _, hb⟩
  clear hq hb
  generalize w.heap.size = b at T0 ⊢
  go_wp2_with fail
  refine (fstop T0.out.q 5 true).mono ?_
  rintro _ w2 ⟨rfl, hq, hc⟩
  have T1 : Hid (Pn w b e5 w2) := Lib.hid (T0.out.step hq hc)
  clear hq hc T0
  go_wp2_with fail
  refine (fmay_at T1.out.q 5 false (by decide +kernel)).mono ?_
  rintro _ _ ⟨rfl, nq, rfl⟩
  have T2 := Lib.hid (T1.out.drewN nq)
  clear T1
  generalize w2.drewN nq = w3 at T2 ⊢
  go_wp2_with fail
  refine (fmay_at T2.out.q 6 true (by decide +kernel)).mono ?_
  rintro _ _ ⟨rfl, nq, rfl⟩
  have T3 := Lib.hid (T2.out.drewN nq)
  clear T2
  generalize w3.drewN nq = w4 at T3 ⊢
  go_wp2_with fail
  refine (fmay_at T3.out.q 0 true (by decide +kernel)).mono ?_
  rintro _ _ ⟨rfl, nq, rfl⟩
  have T4 := Lib.hid (T3.out.drewN nq)
  clear T3
  generalize w4.drewN nq = w5 at T4 ⊢
  go_wp2_with fail
  refine (fall T4.out.q false).mono ?_
  rintro _ w6 ⟨rfl, hq, hc⟩
  have T5 : Hid (Pn w b (e5.all false) w6) := Lib.hid (T4.out.step hq hc)
  clear hq hc T4
  go_wp2_with fail
  refine (fmay_at T5.out.q 6 false (by decide +kernel)).mono ?_
  rintro _ _ ⟨rfl, nq, rfl⟩
  have T6 := Lib.hid (T5.out.drewN nq)
  clear T5
  generalize w6.drewN nq = w7 at T6 ⊢
  go_wp2_with fail
  refine (fmay_at T6.out.q 0 true (by decide +kernel)).mono ?_
  rintro _ _ ⟨rfl, nq, rfl⟩
  have T7 := Lib.hid (T6.out.drewN nq)
  clear T6
  generalize w7.drewN nq = w8 at T7 ⊢
  go_wp2_with fail
  refine (fopen_at T7.out.q false rfl).mono ?_
  rintro _ _ ⟨rfl, rfl⟩
  go_wp2_with fail
  refine (fall T7.out.q true).mono ?_
  rintro _ w9 ⟨rfl, hq, hc⟩
  have T8 : Hid (Pn w b ((e5.all false).all true) w9) := Lib.hid (T7.out.step hq hc)
  clear hq hc T7
  go_wp2_with fail
  refine (fmay_at T8.out.q 6 true (by decide +kernel)).mono ?_
  rintro _ _ ⟨rfl, nq, rfl⟩
  have T9 := Lib.hid (T8.out.drewN nq)
  clear T8
  generalize w9.drewN nq = w10 at T9 ⊢
  go_wp2_with fail
  refine (fstopped_at T9.out.q [5] (by decide +kernel)).mono ?_
  rintro _ w11 ⟨v, rfl, hg⟩
  have HG := Lib.hid (And.intro hg (below_on T9.out.below hg.below))
  clear hg T9
  go_wp2_with fail
  have HS := Lib.hid (fsame_yes (w11.alloc (.cells #[oc 5] 5 (0, 0))) v _ _ _ [5] (HG.out.1.own.alloc _) (own_one w11 5) (by decide))
  have HB : Hid (Below w.heap.size w (w11.alloc (.cells #[oc 5] 5 (0, 0)))) := Lib.hid (HG.out.2.alloc HG.out.2.size _)
  clear HG
  refine HS.out.mono ?_
  rintro _ _ ⟨rfl, nq, rfl⟩
  have HB2 := Lib.hid (below_drewN HB.out nq)
  clear HS HB
  generalize (w11.alloc (.cells #[oc 5] 5 (0, 0))).drewN nq = w12 at HB2 ⊢
  go_wp2
  go_ret
  exact ⟨rfl, HB2.out⟩
end Go.Proofs.Ytogpfjpjegmkiaa.Gt

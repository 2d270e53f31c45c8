/-
  The chapter's examples hold; a buffer that was made since a world. No condition.
-/
import Derived.Test.YtjhkjnammpblgaaBfRef
namespace Go.Proofs.Ytjhkjnammpblgaa.Bf
open Go.RowKit Go.Proofs.Ytjhkjnammpblgaa.Base Go.Proofs.Ytjhkjnammpblgaa.Mem Go.Proofs.Ytjhkjnammpblgaa.Cr
/-- A buffer that was made since w0. -/
structure Bn (w0 : World) (b r m : Nat) (t : ByteArray) (w : World) : Prop where
  q : B w b r m t
  lo : w0.heap.size ≤ b
  below : Below w0.heap.size w0 w
section
variable {w0 w w' : World} {b r m : Nat} {t t' : ByteArray}
theorem Bn.on (h : Bn w0 b r m t w) (hb : Below w.heap.size w w') : Bn w0 b r m t w' := ⟨h.q.below hb, h.lo, below_on h.below hb⟩
theorem Bn.drewN (h : Bn w0 b r m t w) (n : Nat) : Bn w0 b r m t (w.drewN n) := h.on ⟨rfl, rfl, rfl, Nat.le_refl _, fun _ _ => rfl⟩
theorem Bn.step (h : Bn w0 b r m t w) (hq : B w' b r m t') (hc : Chg (Bs b) w w') : Bn w0 b r m t' w' :=
  ⟨hq, h.lo, hc.below h.below h.below.size fun _ e => e ▸ h.lo⟩
theorem fput_at (w : World) (h : B w b r m t) (s : ByteArray) (n : Nat) (hn : room r t s = n) (t' : ByteArray) (ht : t ++ fst_ s n = t') : Calls Try.prog 13 #[ptr b, .string s] w fun e w' => e = .returned (nm n) ∧ B w' b r m t' ∧ Chg (Bs b) w w' := by
  subst hn ht; exact fput w b r m t s h
theorem fget_at (w : World) (h : B w b r m t) (n : Int) (k : Nat) (hk : cut n t.size = k) (s : ByteArray) (hs : fst_ t k = s) (t' : ByteArray) (ht : rst_ t k = t') : Calls Try.prog 11 #[ptr b, im n] w fun e w' => e = .returned (.string s) ∧ B w' b r m t' ∧ Chg (Bs b) w w' := by
  subst hk hs ht; exact fget w b r m t h n
theorem fhigh_at (w : World) (h : B w b r m t) (v : Bool) (hv : highB r m t.size = v) : Calls Try.prog 19 #[ptr b] w fun e w' => e = .returned (.bool v) ∧ ∃ k, w' = w.drewN k := by
  subst hv; exact fhigh h
theorem flow_at (w : World) (h : B w b r m t) (v : Bool) (hv : lowB r m t.size = v) : Calls Try.prog 18 #[ptr b] w fun e w' => e = .returned (.bool v) ∧ ∃ k, w' = w.drewN k := by
  subst hv; exact flow h
end
set_option maxHeartbeats 4000000 in
theorem fworks (w : World) : Calls Try.prog 8 #[] w fun e w' => e = .returned (.bool true) ∧ Below w.heap.size w w' := by
  go_enter Try.func8, Try.ntmps8
  go_wp2_with fail
  refine (fnew 4 2 (by decide) (by decide) (by decide) _).mono ?_
  rintro _ w1 ⟨rfl, hq, hb⟩
  have T0 : Hid (Bn w w.heap.size 4 2 ⟨#[]⟩ w1) := Lib.hid ⟨hq, Nat.le_refl _, hb⟩
  clear hq hb
  generalize w.heap.size = b at T0 ⊢
  go_wp2_with fail
  refine (fput_at w1 T0.out.q ⟨#[97, 98, 99]⟩ 3 (by decide +kernel) ⟨#[97, 98, 99]⟩ (by decide +kernel)).mono ?_
  rintro _ w2 ⟨rfl, hq, hc⟩
  have T1 := Lib.hid (T0.out.step hq hc)
  clear hq hc T0
  go_wp2_with fail
  refine (fhigh_at w2 T1.out.q true (by decide +kernel)).mono ?_
  rintro _ w3 ⟨rfl, nq, rfl⟩
  have T2 := Lib.hid (T1.out.drewN nq)
  clear T1
  generalize w2.drewN nq = w3 at T2 ⊢
  go_wp2_with fail
  refine (flow_at w3 T2.out.q false (by decide +kernel)).mono ?_
  rintro _ w4 ⟨rfl, nq, rfl⟩
  have T3 := Lib.hid (T2.out.drewN nq)
  clear T2
  generalize w3.drewN nq = w4 at T3 ⊢
  go_wp2_with fail
  refine (fget_at w4 T3.out.q 2 2 (by decide +kernel) ⟨#[97, 98]⟩ (by decide +kernel) ⟨#[99]⟩ (by decide +kernel)).mono ?_
  rintro _ w5 ⟨rfl, hq, hc⟩
  have T4 := Lib.hid (T3.out.step hq hc)
  clear hq hc T3
  go_wp2_with fail
  refine (fput_at w5 T4.out.q ⟨#[120, 121, 122]⟩ 3 (by decide +kernel) ⟨#[99, 120, 121, 122]⟩ (by decide +kernel)).mono ?_
  rintro _ w6 ⟨rfl, hq, hc⟩
  have T5 := Lib.hid (T4.out.step hq hc)
  clear hq hc T4
  go_wp2_with fail
  refine (fget_at w6 T5.out.q 9 4 (by decide +kernel) ⟨#[99, 120, 121, 122]⟩ (by decide +kernel) ⟨#[]⟩ (by decide +kernel)).mono ?_
  rintro _ w7 ⟨rfl, hq, hc⟩
  have T6 := Lib.hid (T5.out.step hq hc)
  clear hq hc T5
  go_wp2_with fail
  refine (flow_at w7 T6.out.q true (by decide +kernel)).mono ?_
  rintro _ w8 ⟨rfl, nq, rfl⟩
  have T7 := Lib.hid (T6.out.drewN nq)
  clear T6
  generalize w7.drewN nq = w8 at T7 ⊢
  go_wp2_with fail
  refine (ffree T7.out.q).mono ?_
  rintro _ w9 ⟨rfl, nq, rfl⟩
  have T8 := Lib.hid (T7.out.drewN nq)
  clear T7
  generalize w8.drewN nq = w9 at T8 ⊢
  go_wp2
  go_ret
  exact ⟨rfl, T8.out.below⟩
end Go.Proofs.Ytjhkjnammpblgaa.Bf

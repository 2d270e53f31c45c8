/-
  The chapter's examples hold; a queue that was made since a world. No condition.
-/
import Derived.Test.YthocanbbonikiaaQuRef
namespace Go.Proofs.Ythocanbbonikiaa.Qu
open Go.RowKit Go.Proofs.Ythocanbbonikiaa.Base Go.Proofs.Ythocanbbonikiaa.Mem Go.Proofs.Ythocanbbonikiaa.Cr
/-- A queue that was made since w0. -/
structure Qn (w0 : World) (qb rb r : Nat) (t : ByteArray) (w : World) : Prop where
  q : Q w qb rb r t
  lo : w0.heap.size ≤ qb
  lo2 : w0.heap.size ≤ rb
  below : Below w0.heap.size w0 w
section
variable {w0 w w' : World} {qb rb r : Nat} {t t' : ByteArray}
theorem Qn.on (h : Qn w0 qb rb r t w) (hb : Below w.heap.size w w') : Qn w0 qb rb r t w' := ⟨h.q.below hb, h.lo, h.lo2, below_on h.below hb⟩
theorem Qn.drewN (h : Qn w0 qb rb r t w) (n : Nat) : Qn w0 qb rb r t (w.drewN n) := h.on ⟨rfl, rfl, rfl, Nat.le_refl _, fun _ _ => rfl⟩
theorem Qn.step (h : Qn w0 qb rb r t w) (hq : Q w' qb rb r t') (hc : Chg (Qs qb rb) w w') : Qn w0 qb rb r t' w' :=
  ⟨hq, h.lo, h.lo2, hc.below h.below h.below.size fun _ e => e.elim (fun x => x ▸ h.lo) fun x => x ▸ h.lo2⟩
theorem fput_at (w : World) (h : Q w qb rb r t) (s : ByteArray) (n : Nat) (hn : room r t s = n) (t' : ByteArray) (ht : t ++ fst_ s n = t') : Calls Try.prog 18 #[ptr qb, .string s] w fun e w' => e = .returned (nm n) ∧ Q w' qb rb r t' ∧ Chg (Qs qb rb) w w' := by
  subst hn ht; exact fput w qb rb r t s h
theorem fnext_at (w : World) (h : Q w qb rb r t) (m : Int) (k : Nat) (hk : cut m t.size = k) (s : ByteArray) (hs : fst_ t k = s) (t' : ByteArray) (ht : rst_ t k = t') : Calls Try.prog 12 #[ptr qb, im m] w fun e w' => e = .returned (.string s) ∧ Q w' qb rb r t' ∧ Chg (Qs qb rb) w w' := by
  subst hk hs ht; exact fnext w qb rb r t h m
theorem fpeek_at (w : World) (h : Q w qb rb r t) (m : Int) (k : Nat) (hk : cut m t.size = k) (s : ByteArray) (hs : fst_ t k = s) : Calls Try.prog 14 #[ptr qb, im m] w fun e w' => e = .returned (.string s) ∧ Below w.heap.size w w' := by
  subst hk hs; exact fpeek w qb rb r t h m
end
set_option maxHeartbeats 4000000 in
theorem fworks (w : World) : Calls Try.prog 8 #[] w fun e w' => e = .returned (.bool true) ∧ Below w.heap.size w w' := by
  go_enter Try.func8, Try.ntmps8
  go_wp2_with fail
  refine (fnew 5 _).mono ?_
  rintro _ w1 ⟨rfl, hq, hb⟩
  have T0 : Hid (Qn w (w.heap.size + 1) w.heap.size 5 ⟨#[]⟩ w1) := Lib.hid ⟨hq, by omega, Nat.le_refl _, hb⟩
  clear hq hb
  generalize w.heap.size = rb at T0 ⊢
  obtain ⟨qb, hqb⟩ : ∃ x, rb + 1 = x := ⟨_, rfl⟩
  rw [hqb] at T0 ⊢
  clear hqb
  go_wp2_with fail
  refine (fput_at w1 T0.out.q ⟨#[97, 98, 99]⟩ 3 (by decide +kernel) ⟨#[97, 98, 99]⟩ (by decide +kernel)).mono ?_
  rintro _ w2 ⟨rfl, hq, hc⟩
  have T1 := Lib.hid (T0.out.step hq hc)
  clear hq hc T0
  go_wp2_with fail
  refine (fput_at w2 T1.out.q ⟨#[100, 101, 102]⟩ 2 (by decide +kernel) ⟨#[97, 98, 99, 100, 101]⟩ (by decide +kernel)).mono ?_
  rintro _ w3 ⟨rfl, hq, hc⟩
  have T2 := Lib.hid (T1.out.step hq hc)
  clear hq hc T1
  go_wp2_with fail
  refine (ffree w3 qb rb 5 _ T2.out.q).mono ?_
  rintro _ w4 ⟨rfl, nq, rfl⟩
  have T3 := Lib.hid (T2.out.drewN nq)
  clear T2
  generalize w3.drewN nq = w4 at T3 ⊢
  go_wp2_with fail
  refine (fnext_at w4 T3.out.q 2 2 (by decide +kernel) ⟨#[97, 98]⟩ (by decide +kernel) ⟨#[99, 100, 101]⟩ (by decide +kernel)).mono ?_
  rintro _ w5 ⟨rfl, hq, hc⟩
  have T4 := Lib.hid (T3.out.step hq hc)
  clear hq hc T3
  go_wp2_with fail
  refine (fput_at w5 T4.out.q ⟨#[120, 121, 122]⟩ 2 (by decide +kernel) ⟨#[99, 100, 101, 120, 121]⟩ (by decide +kernel)).mono ?_
  rintro _ w6 ⟨rfl, hq, hc⟩
  have T5 := Lib.hid (T4.out.step hq hc)
  clear hq hc T4
  go_wp2_with fail
  refine (fpeek_at w6 T5.out.q 9 5 (by decide +kernel) ⟨#[99, 100, 101, 120, 121]⟩ (by decide +kernel)).mono ?_
  rintro _ w7 ⟨rfl, hb⟩
  have T6 := Lib.hid (T5.out.on hb)
  clear hb T5
  go_wp2_with fail
  refine (fclear w7 qb rb 5 _ T6.out.q).mono ?_
  rintro _ w8 ⟨rfl, hq, hc⟩
  have T7 := Lib.hid (T6.out.step hq hc)
  clear hq hc T6
  go_wp2_with (go_at_call 20; refine (flen _ qb rb 5 ⟨#[]⟩ T7.out.q).mono ?_; rintro x v ⟨rfl, rfl⟩)
  go_ret
  exact ⟨rfl, T7.out.below⟩
end Go.Proofs.Ythocanbbonikiaa.Qu

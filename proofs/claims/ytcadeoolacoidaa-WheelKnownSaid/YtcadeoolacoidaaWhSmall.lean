/-
  How a wheel's slots and rounds hang together with the ticks that are left; what find, Count and Left answer. No condition but that the wheel has 1 to 256 slots.
-/
import Derived.Test.YtcadeoolacoidaaWhMem
import Derived.Test.YtcadeoolacoidaaSrtMem
import Derived.BigQuiet
namespace Go.Proofs.Ytcadeoolacoidaa.Wh
open Go.RowKit Go.Proofs.Ytcadeoolacoidaa.Base Go.Proofs.Ytcadeoolacoidaa.Mem
open Go.Proofs.Ytcadeoolacoidaa.Srt (wrap_nat)
theorem left_eq (n a f : Nat) (hn : 1 ≤ n) (ha : a < n) (hf : 1 ≤ f) : (f - 1) / n * n + (if ((a + f) % n + n - a) % n = 0 then n else ((a + f) % n + n - a) % n) = f := by
  have h1 := Nat.div_add_mod (f - 1) n
  have h2 := Nat.mod_lt (f - 1) (show n > 0 by omega)
  obtain ⟨q, hq⟩ : ∃ q, q = (f - 1) / n := ⟨_, rfl⟩
  obtain ⟨r, hr⟩ : ∃ r, r = (f - 1) % n := ⟨_, rfl⟩
  rw [← hq, ← hr] at h1
  rw [← hr] at h2
  rw [← hq, Nat.mul_comm q n]
  have e : a + f = a + r + 1 + n * q := by omega
  rw [e, Nat.add_mul_mod_self_left]
  by_cases h3 : a + r + 1 < n
  · rw [Nat.mod_eq_of_lt h3, show a + r + 1 + n - a = r + 1 + n by omega, Nat.add_mod_right, Nat.mod_eq_of_lt (by omega), if_neg (by omega)]
    omega
  · have e2 : (a + r + 1) % n = a + r + 1 - n := by rw [Nat.mod_eq_sub_mod (by omega), Nat.mod_eq_of_lt (by omega)]
    rw [e2, show a + r + 1 - n + n - a = r + 1 by omega]
    by_cases h4 : r + 1 = n
    · rw [h4, Nat.mod_self, if_pos rfl]; omega
    · rw [Nat.mod_eq_of_lt (by omega), if_neg (by omega)]; omega
theorem hand_mod (n a f : Nat) (hf : 1 ≤ f) : ((a + 1) % n + (f - 1)) % n = (a + f) % n := by
  rw [Nat.mod_add_mod]; congr 1; omega
theorem due_mod (n a f : Nat) (hf : 1 ≤ f) (h : (a + f) % n = (a + 1) % n) : (f - 1) % n = 0 := by
  have h1 : (a + 1 + (f - 1)) % n = (a + 1 + 0) % n := by rw [show a + 1 + (f - 1) = a + f by omega]; exact h
  have h2 := Nat.div_add_mod (a + 1 + (f - 1)) n
  have h3 := Nat.div_add_mod (a + 1 + 0) n
  rw [h1] at h2
  have h4 : f - 1 = n * ((a + 1 + (f - 1)) / n - (a + 1 + 0) / n) := by
    have h5 : (a + 1 + 0) / n ≤ (a + 1 + (f - 1)) / n := Nat.div_le_div_right (by omega)
    rw [Nat.mul_sub]
    omega
  rw [h4]
  exact Nat.mul_mod_right _ _
theorem mod_due (n a f : Nat) (hf : 1 ≤ f) (h : (f - 1) % n = 0) : (a + f) % n = (a + 1) % n := by
  rw [show a + f = a + 1 + (f - 1) by omega, Nat.add_mod, h, Nat.add_zero, Nat.mod_mod]
theorem rounds_due (n f : Nat) (hn : 1 ≤ n) (hf : 1 ≤ f) (h : (f - 1) % n = 0) (h0 : 0 < (f - 1) / n) : 2 ≤ f ∧ (f - 1) / n - 1 = (f - 1 - 1) / n := by
  have h1 := Nat.div_add_mod (f - 1) n
  obtain ⟨q, hq⟩ : ∃ q, (f - 1) / n = q + 1 := ⟨(f - 1) / n - 1, by omega⟩
  rw [h, hq, Nat.mul_succ] at h1
  have e : f - 1 - 1 = n * q + (n - 1) := by omega
  refine ⟨?_, ?_⟩
  · have : 1 ≤ f - 1 := by omega
    omega
  · rw [e, hq, Nat.mul_add_div (by omega), Nat.div_eq_of_lt (by omega)]; omega
theorem rounds_zero (n f : Nat) (hf : 1 ≤ f) (h : (f - 1) % n = 0) (h0 : (f - 1) / n = 0) : f = 1 := by
  have h1 := Nat.div_add_mod (f - 1) n
  rw [h, h0] at h1
  omega
theorem rounds_same (n f : Nat) (hn : 1 ≤ n) (h : (f - 1) % n ≠ 0) : 2 ≤ f ∧ (f - 1) / n = (f - 1 - 1) / n := by
  have h1 := Nat.div_add_mod (f - 1) n
  have h2 := Nat.mod_lt (f - 1) (show n > 0 by omega)
  obtain ⟨q, hq⟩ : ∃ q, q = (f - 1) / n := ⟨_, rfl⟩
  obtain ⟨r, hr⟩ : ∃ r, r = (f - 1) % n := ⟨_, rfl⟩
  rw [← hq, ← hr] at h1
  rw [← hr] at h2 h
  refine ⟨by omega, ?_⟩
  rw [← hq, show f - 1 - 1 = n * q + (r - 1) by omega, Nat.mul_add_div (by omega), Nat.div_eq_of_lt (by omega)]
  omega
section
variable {w : World} {pb n hand rb mb x : Nat} {vs : Nat → Value} {L : Nat → List Nat} {E sl ro : Nat → Nat} {ks : List Nat}
set_option maxHeartbeats 1000000 in
theorem ffind (h : Hid (Hp w pb n hand rb mb vs L E sl ro ks x)) (i : Nat) (hi : i < 256) :
    Calls Try.prog 21 #[ptr pb, oc i] w fun r w' => r = .returned (if i ∈ ks then ptr (E i) else .pointer none) ∧ w' = w := by
  have c2 := h.out.cells.2.2.1
  have hm := Lib.hid h.out.m
  obtain ⟨v, hv⟩ : ∃ v, (if i ∈ ks then ptr (E i) else .pointer none) = v := ⟨_, rfl⟩
  have HV := Lib.hid hv
  rw [hv]
  clear h hv
  go_enter Try.func21, Try.ntmps21
  go_wp2_with (first | (at_lookup; refine wp_look _ rfl _ _ rfl hm.out hi rfl rfl HV.out ?_))
  go_ret
  exact ⟨rfl, rfl⟩
set_option maxHeartbeats 1000000 in
theorem ffind_nil (i : Nat) (w : World) :
    Calls Try.prog 21 #[.pointer none, oc i] w fun r w' => r = .returned (.pointer none) ∧ w' = w := by
  go_enter Try.func21, Try.ntmps21
  go_wp2
  go_ret
  exact ⟨rfl, rfl⟩
set_option maxHeartbeats 1000000 in
theorem fcount (h : Hid (Hp w pb n hand rb mb vs L E sl ro ks x)) :
    Calls Try.prog 11 #[ptr pb] w fun r w' => r = .returned (nm ks.length) ∧ w' = w := by
  have c2 := h.out.cells.2.2.1
  have hl : ∀ ty, (Builtin.len_ #[47] ty #[.map (some mb)]).run Try.prog w = .ok (nm ks.length) w := fun ty => by
    obtain ⟨es, c, hb, hsz⟩ := h.out.m.len
    rw [← hsz]
    exact run_len_map (P := Try.prog) (w := w) 47 ty mb es c Try.underlying47 hb
  clear h
  go_enter Try.func11, Try.ntmps11
  go_wp2
  go_ret
  exact ⟨rfl, rfl⟩
set_option maxHeartbeats 1000000 in
theorem fcount_nil (w : World) :
    Calls Try.prog 11 #[.pointer none] w fun r w' => r = .returned (nm 0) ∧ w' = w := by
  go_enter Try.func11, Try.ntmps11
  go_wp2
  go_ret
  exact ⟨rfl, rfl⟩
set_option maxHeartbeats 2000000 in
theorem fleft (h : Hid (Hp w pb n hand rb mb vs L E sl ro ks x)) (i f : Nat) (hi : i < 256) (hn : 1 ≤ n) (hn2 : n ≤ 256) (ha : hand < n) (hf : f ≤ 65535) (hk : i ∈ ks ↔ 0 < f) (hsl : i ∈ ks → sl i = (hand + f) % n) (hro : i ∈ ks → ro i = (f - 1) / n) :
    Calls Try.prog 13 #[ptr pb, oc i] w fun r w' => r = .returned (nm f) ∧ ∃ m, w' = w.drewN m := by
  by_cases hin : i ∈ ks
  · obtain ⟨s, hs⟩ : ∃ s, s = (hand + f) % n := ⟨_, rfl⟩
    obtain ⟨q, hq⟩ : ∃ q, q = (f - 1) / n := ⟨_, rfl⟩
    obtain ⟨d0, hd0⟩ : ∃ d0, d0 = s + n - hand := ⟨_, rfl⟩
    obtain ⟨d, hd⟩ : ∃ d, d = d0 % n := ⟨_, rfl⟩
    have hsn : s < n := by rw [hs]; exact Nat.mod_lt _ (by omega)
    have hdn : d < n := by rw [hd]; exact Nat.mod_lt _ (by omega)
    have hfin : q * n + (if d = 0 then n else d) = f := by
      have := left_eq n hand f hn ha (hk.1 hin)
      rw [← hs, ← hq, ← hd0, ← hd] at this
      exact this
    have hqn : q * n ≤ 65535 := by omega
    have ec := h.out.ecells hin
    have c0 := h.out.cells.1
    have c1 := h.out.cells.2.1
    have e1 := ec.2.1
    have e2 := ec.2.2.1
    rw [hsl hin, ← hs] at e1
    rw [hro hin, ← hq] at e2
    have r1 : (s : Int) - (hand : Int) + (n : Int) = (d0 : Int) := by omega
    have v1 : IntKind.i64.wrap ((s : Int) - (hand : Int)) = (s : Int) - (hand : Int) := by rw [IntKind.wrap_i64]; omega
    have v2 := wrap_nat d0 (by omega)
    have t1 : (d0 : Int).tmod (n : Int) = (d : Int) := by rw [Int.tmod_eq_emod_of_nonneg (by omega), hd]; rfl
    have t2 : (d0 : Int) % (n : Int) = (d : Int) := by rw [hd]; rfl
    have n0 : ((n : Int) == 0) = false := by rw [beq_eq_false_iff_ne]; omega
    have n1 : ¬ (n : Int) = 0 := by omega
    have n2 : ¬ n = 0 := by omega
    have vd := wrap_nat d (by omega)
    have vq := wrap_nat (q * n) (by omega)
    have vqn := wrap_nat (q * n + n) (by omega)
    have vqd := wrap_nat (q * n + d) (by omega)
    obtain ⟨eb, heb⟩ : ∃ eb, eb = E i := ⟨_, rfl⟩
    rw [← heb] at e1 e2
    have cf : Calls Try.prog 21 #[ptr pb, oc i] w fun r w' => r = .returned (ptr eb) ∧ w' = w := by
      have := ffind h i hi
      rw [if_pos hin, ← heb] at this
      exact this
    have cf := Lib.hid cf
    have HF := Lib.hid hfin
    clear h ec hs hq hd0 hd hsl hro hk hfin heb hin
    go_enter Try.func13, Try.ntmps13
    go_wp2_with fail
    refine cf.out.mono ?_
    rintro _ w1 ⟨rfl, rfl⟩
    clear cf
    go_wp2_with fail
    go_quiet (fail)
    have e2' : (w1.drewN nq).cell? ⟨eb, 2, none⟩ = some (nm q) := e2
    clear e1 e2 c0 c1
    generalize hw : w1.drewN nq = w2 at e2' ⊢
    have HW := Lib.hid hw
    clear hw
    by_cases hd0 : d = 0
    · subst hd0
      have hfin : q * n + n = f := by have := HF.out; rwa [if_pos rfl] at this
      go_wp2
      go_ret
      exact ⟨by rw [← hfin]; push_cast; rfl, _, HW.out.symm⟩
    · have d1 : ((d : Int) == 0) = false := by rw [beq_eq_false_iff_ne]; omega
      have d2 : ¬ (d : Int) = 0 := by omega
      have hfin : q * n + d = f := by have := HF.out; rwa [if_neg hd0] at this
      go_wp2
      go_ret
      exact ⟨by rw [← hfin]; push_cast; rfl, _, HW.out.symm⟩
  · have hf0 : f = 0 := by
      by_cases h0 : 0 < f
      · exact absurd (hk.2 h0) hin
      · omega
    subst hf0
    have cf : Calls Try.prog 21 #[ptr pb, oc i] w fun r w' => r = .returned (.pointer none) ∧ w' = w := by
      have := ffind h i hi
      rw [if_neg hin] at this
      exact this
    have cf := Lib.hid cf
    clear h hin hsl hro hk
    go_enter Try.func13, Try.ntmps13
    go_wp2_with fail
    refine cf.out.mono ?_
    rintro _ w1 ⟨rfl, rfl⟩
    clear cf
    go_wp2
    go_ret
    exact ⟨rfl, 0, rfl⟩
set_option maxHeartbeats 2000000 in
theorem fleft_nil (i : Nat) (w : World) :
    Calls Try.prog 13 #[.pointer none, oc i] w fun r w' => r = .returned (nm 0) ∧ w' = w := by
  have cf := Lib.hid (ffind_nil i w)
  go_enter Try.func13, Try.ntmps13
  go_wp2_with fail
  refine cf.out.mono ?_
  rintro _ w1 ⟨rfl, rfl⟩
  clear cf
  go_wp2
  go_ret
  exact ⟨rfl, rfl⟩
end
end Go.Proofs.Ytcadeoolacoidaa.Wh

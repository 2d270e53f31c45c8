/-
  The law's 'same': two rows of octets that a call made. Condition: at most a thousand octets.
-/
import Derived.Test.YtogpfjpjegmkiaaGtRef
namespace Go.Proofs.Ytogpfjpjegmkiaa.Gt
open Go.RowKit Go.Proofs.Ytogpfjpjegmkiaa.Base Go.Proofs.Ytogpfjpjegmkiaa.Mem Go.Proofs.Ytogpfjpjegmkiaa.Cr
theorem own_cell {w : World} {base g n cap : Nat} {l : List Nat} (h : OwnS 5 1 fcC w base (.slice (some ⟨g, 0, none⟩) n cap) l) {i x : Nat} (hi : l[i]? = some x) : w.cell? ⟨g, i, none⟩ = some (oc x) := by
  have := OwnS.cell (fc := fcC) (z := 1) (fun _ => rfl) h i x hi 0 Nat.one_pos
  rw [Nat.one_mul, Nat.add_zero] at this
  exact this
theorem own_drewN {w : World} {base : Nat} {v : Value} {l : List Nat} (h : OwnS 5 1 fcC w base v l) (m : Nat) : OwnS 5 1 fcC (w.drewN m) base v l := own_keep h fun _ _ => rfl
set_option maxHeartbeats 4000000 in
set_option maxRecDepth 100000 in
theorem fsame (w : World) (va vb : Value) (ba bb : Nat) (A B : List Nat) (hA : OwnS 5 1 fcC w ba va A) (hB : OwnS 5 1 fcC w bb vb B) (lA : A.length ≤ 1000) (lB : B.length ≤ 1000) :
    Calls Try.prog 13 #[va, vb] w fun r w' => r = .returned (.bool (decide (A = B))) ∧ ∃ m, w' = w.drewN m := by
  obtain ⟨oa, ca, rfl, ga⟩ := own_form hA
  obtain ⟨ob, cb, rfl, gb⟩ := own_form hB
  obtain ⟨la, hla⟩ : ∃ la, la = A.length := ⟨_, rfl⟩
  obtain ⟨lb, hlb⟩ : ∃ lb, lb = B.length := ⟨_, rfl⟩
  obtain ⟨q, hq⟩ : ∃ q, q = decide (A = B) := ⟨_, rfl⟩
  rw [← hq]
  have HA : Hid (OwnS 5 1 fcC w ba (.slice oa la ca) A) := by rw [hla]; exact hA
  have HB : Hid (OwnS 5 1 fcC w bb (.slice ob lb cb) B) := by rw [hlb]; exact hB
  have GA : Hid (∀ i, i < la → ∃ g, oa = some ⟨g, 0, none⟩) := by rw [hla]; exact ga
  have GB : Hid (∀ i, i < lb → ∃ g, ob = some ⟨g, 0, none⟩) := by rw [hlb]; exact gb
  have HL := Lib.hid (And.intro hla hlb)
  have HQ := Lib.hid hq
  rw [← hla] at lA ⊢
  rw [← hlb] at lB ⊢
  clear hla hlb hq hA hB ga gb
  by_cases hl : la = lb
  · have t1 : ((la : Int) == (lb : Int)) = true := by rw [beq_iff_eq]; omega
    subst hl
    go_enter Try.func13, Try.ntmps13
    go_wp2_with fail
    go_loopg [5] la (fun g s wr => ∃ i : Nat, s = nm i ∧ la - i ≤ g ∧ i ≤ la ∧ Hid (A.take i = B.take i) ∧ Hid (∃ m, wr = w.drewN m))
    case atStart => exact ⟨0, rfl, by omega, by omega, rfl, 0, rfl⟩
    case round =>
      obtain ⟨i, rfl, hg, hi, HT, HW⟩ := hrel
      have vi := wrap_nat (i + 1) (by omega)
      by_cases hlt : i < la
      · have t1 : decide ((i : Int) < (la : Int)) = true := decide_eq_true (by omega)
        have t2 : (i : Int) < (la : Int) := by omega
        obtain ⟨m, hm⟩ := HW.out
        obtain ⟨x, hx⟩ : ∃ x, A[i]? = some x := ⟨A[i]'(by rw [← HL.out.1]; exact hlt), List.getElem?_eq_getElem _⟩
        obtain ⟨y, hy⟩ : ∃ y, B[i]? = some y := ⟨B[i]'(by rw [← HL.out.2]; exact hlt), List.getElem?_eq_getElem _⟩
        obtain ⟨g1, rfl⟩ := GA.out i hlt
        obtain ⟨g2, rfl⟩ := GB.out i hlt
        have c1 : wr.cell? ⟨g1, i, none⟩ = some (oc x) := by rw [hm]; exact own_cell (own_drewN HA.out m) hx
        have c2 : wr.cell? ⟨g2, i, none⟩ = some (oc y) := by rw [hm]; exact own_cell (own_drewN HB.out m) hy
        have HX := Lib.hid (And.intro hx hy)
        have HM := Lib.hid hm
        clear hx hy hm HW
        by_cases hxy : x = y
        · subst hxy
          go_wp2_with fail
          go_quiet (fail)
          have HW2 : Hid (∃ m, wr.drewN nq = w.drewN m) := by
            rw [HM.out]
            exact ⟨m + nq, by simp [World.drewN, Nat.add_assoc]⟩
          have HT2 : Hid (A.take (i + 1) = B.take (i + 1)) := by
            show _ = _
            rw [List.take_add_one, List.take_add_one, HX.out.1, HX.out.2, HT.out]
          clear c1 c2
          generalize wr.drewN nq = w3 at HW2 ⊢
          go_wp2
          go_roundg (la - (i + 1))
          case measure => omega
          case rel => exact ⟨i + 1, by first | rfl | go_num, Nat.le_refl _, by omega, HT2, HW2⟩
        · have u1 : ((x : Int) == (y : Int)) = false := by rw [beq_eq_false_iff_ne]; omega
          have u2 : ¬ (x : Int) = (y : Int) := by omega
          go_wp2_with fail
          go_quiet (fail)
          have HW2 : Hid (∃ m, wr.drewN nq = w.drewN m) := by
            rw [HM.out]
            exact ⟨m + nq, by simp [World.drewN, Nat.add_assoc]⟩
          have hqf : q = false := by
            rw [HQ.out]
            refine decide_eq_false fun e => hxy ?_
            have h1 := HX.out.1
            rw [e, HX.out.2] at h1
            exact (Option.some.inj h1).symm
          subst hqf
          clear c1 c2
          generalize wr.drewN nq = w3 at HW2 ⊢
          go_wp2
          go_ret
          exact ⟨rfl, HW2.out⟩
      · have t1 : decide ((i : Int) < (la : Int)) = false := decide_eq_false (by omega)
        have t2 : ¬ (i : Int) < (la : Int) := by omega
        have hqt : q = true := by
          rw [HQ.out]
          refine decide_eq_true ?_
          have h1 := HT.out
          rw [List.take_of_length_le (by rw [← HL.out.1]; omega), List.take_of_length_le (by rw [← HL.out.2]; omega)] at h1
          exact h1
        subst hqt
        go_wp2
        go_ret
        exact ⟨rfl, HW.out⟩
  · have t1 : ((la : Int) == (lb : Int)) = false := by rw [beq_eq_false_iff_ne]; omega
    have t2 : ¬ (la : Int) = (lb : Int) := by omega
    have hqf : q = false := by
      rw [HQ.out]
      exact decide_eq_false fun e => hl (by rw [HL.out.1, HL.out.2, e])
    subst hqf
    go_enter Try.func13, Try.ntmps13
    go_wp2
    go_ret
    exact ⟨rfl, 0, rfl⟩
end Go.Proofs.Ytogpfjpjegmkiaa.Gt

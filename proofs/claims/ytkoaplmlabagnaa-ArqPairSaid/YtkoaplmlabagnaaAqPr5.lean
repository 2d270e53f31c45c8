/-
  A pair's send and hand, as the mathematics has them. Condition: the pair is in order and few frames wait.
-/
import Derived.Test.YtkoaplmlabagnaaAqPok
import Derived.Test.YtkoaplmlabagnaaAqPr3b
namespace Go.Proofs.Ytkoaplmlabagnaa.Aq
open Go.RowKit Go.Proofs.Ytkoaplmlabagnaa.Base Go.Proofs.Ytkoaplmlabagnaa.Mem
section
variable {w0 w : World} {b : Bk} {x : Pr} {N M : Nat}
theorem osend0 (h : PrE w0 b x w) (hk : Pok N M x) (hM : M ≤ 1000) : Calls Try.prog 37 #[ptr b.tb, .int .i64 0] w fun e w' => e = .returned (.bool (next x.A).2.2) ∧ PrE w0 b (pSend x) w' := by
  rcases hn : next x.A with ⟨A2, ⟨fc, fk, fpf, fns, fnr, fi⟩, ok⟩
  refine (fsend0_of w0 w b x N h hk.a (Nat.le_trans hk.l0 hM) A2 fc fk fpf fns fnr fi ok hn).mono fun e w' ⟨e1, e2⟩ => ⟨e1, ?_⟩
  show PrE w0 b ⟨(next x.A).1, x.B, sent x.A x.L0, x.L1, x.u0, x.u1, x.k0, x.k1, x.bad⟩ w'
  unfold sent
  rw [hn]
  exact e2
theorem ohand0 (h : PrE w0 b x w) (hk : Pok N M x) (hN : N ≤ 1000000) : Calls Try.prog 38 #[ptr b.tb, .int .i64 0, .bool false] w fun e w' => e = .returned (.bool (!x.L0.isEmpty)) ∧ PrE w0 b (pHand x) w' := by
  rcases hL : x.L0 with _ | ⟨⟨⟨fc, fk, fpf, fns, fnr, fi⟩, j, rr⟩, r⟩
  · refine (fhand0_none w0 w b x false h hL).mono fun e w' ⟨e1, e2⟩ => ⟨e1, ?_⟩
    subst e2
    rw [pHand_nil (x := x) hL]
    exact h
  · have hL2 : x.L0 = ⟨⟨fc, fk, fpf, fns, fnr, fi⟩, j, rr⟩ :: r := hL
    obtain ⟨g1, g2⟩ := heard_of hk.g hL2
    obtain ⟨n1, n2⟩ := hk.f0 _ (by rw [hL2]; exact List.mem_cons_self ..)
    rw [pHand_cons hL2]
    have ho : x.B = x.B := rfl
    have hkk : x.k0 = x.k0 := rfl
    rw [ho, hkk] at g2
    rw [ho] at g1
    rw [ho, hkk]
    dsimp only at g1 g2 n1 n2 ⊢
    rcases hh : hear ⟨fc, fk, fpf, fns, fnr, fi⟩ x.B with ⟨X2, ⟨mi, tk, ma, fl⟩⟩
    rw [hh] at g1 g2
    dsimp only at g1 g2 ⊢
    subst g1
    cases tk
    · refine (fhand0_no w0 w b x N h hk.b fc fk fpf fns fnr fi j rr r hL n1 n2 X2 mi ma hh (Nat.le_trans hk.k0 hN)).mono fun e w' ⟨e1, e2⟩ => ⟨e1, ?_⟩
      have hq : (⟨x.A, X2, r, x.L1, x.u0, x.u1, (if false = true then x.k0 + 1 else x.k0), x.k1, x.bad || false || (false && !decide (mi = inf x.k0))⟩ : Pr) = { x with B := X2, L0 := r } := by
        simp
      rw [hq]
      exact e2
    · have hm := g2 rfl
      refine (fhand0_yes w0 w b x N h hk.b fc fk fpf fns fnr fi j rr r hL n1 n2 X2 mi ma hh hm (Nat.le_trans hk.k0 hN)).mono fun e w' ⟨e1, e2⟩ => ⟨e1, ?_⟩
      have hq : (⟨x.A, X2, r, x.L1, x.u0, x.u1, (if true = true then x.k0 + 1 else x.k0), x.k1, x.bad || false || (true && !decide (mi = inf x.k0))⟩ : Pr) = { x with B := X2, L0 := r, k0 := x.k0 + 1 } := by
        simp [hm]
      rw [hq]
      exact e2
theorem olose0 (h : PrE w0 b x w) (lost : Bool) (hl : lost = true) : Calls Try.prog 38 #[ptr b.tb, .int .i64 0, .bool lost] w fun e w' => (∃ o, e = .returned (.bool o)) ∧ PrE w0 b (pLose x) w' := by
  subst hl
  rcases hL : x.L0 with _ | ⟨⟨⟨fc, fk, fpf, fns, fnr, fi⟩, j, rr⟩, r⟩
  · refine (fhand0_none w0 w b x true h hL).mono fun e w' ⟨e1, e2⟩ => ⟨⟨_, e1⟩, ?_⟩
    subst e2
    have hq : (pLose x) = x := by
      show ({ x with L0 := x.L0.drop 1 } : Pr) = x
      rw [hL]
      show ({ x with L0 := [] } : Pr) = x
      rw [← hL]
    rw [hq]
    exact h
  · refine (fhand0_lost w0 w b x h fc fk fpf fns fnr fi j rr r hL).mono fun e w' ⟨e1, e2⟩ => ⟨⟨_, e1⟩, ?_⟩
    have hq : (pLose x) = { x with L0 := r } := by
      show ({ x with L0 := x.L0.drop 1 } : Pr) = _
      rw [hL]
      rfl
    rw [hq]
    exact e2
theorem osend1 (h : PrE w0 b x w) (hk : Pok N M x) (hM : M ≤ 1000) : Calls Try.prog 37 #[ptr b.tb, .int .i64 1] w fun e w' => e = .returned (.bool (next x.B).2.2) ∧ PrE w0 b (swp (pSend (swp x))) w' := by
  rcases hn : next x.B with ⟨A2, ⟨fc, fk, fpf, fns, fnr, fi⟩, ok⟩
  refine (fsend1_of w0 w b x N h hk.b (Nat.le_trans hk.l1 hM) A2 fc fk fpf fns fnr fi ok hn).mono fun e w' ⟨e1, e2⟩ => ⟨e1, ?_⟩
  show PrE w0 b ⟨x.A, (next x.B).1, x.L0, sent x.B x.L1, x.u0, x.u1, x.k0, x.k1, x.bad⟩ w'
  unfold sent
  rw [hn]
  exact e2
theorem ohand1 (h : PrE w0 b x w) (hk : Pok N M x) (hN : N ≤ 1000000) : Calls Try.prog 38 #[ptr b.tb, .int .i64 1, .bool false] w fun e w' => e = .returned (.bool (!x.L1.isEmpty)) ∧ PrE w0 b (swp (pHand (swp x))) w' := by
  rcases hL : x.L1 with _ | ⟨⟨⟨fc, fk, fpf, fns, fnr, fi⟩, j, rr⟩, r⟩
  · refine (fhand1_none w0 w b x false h hL).mono fun e w' ⟨e1, e2⟩ => ⟨e1, ?_⟩
    subst e2
    rw [pHand_nil (x := (swp x)) hL]
    exact h
  · have hL2 : (swp x).L0 = ⟨⟨fc, fk, fpf, fns, fnr, fi⟩, j, rr⟩ :: r := hL
    obtain ⟨g1, g2⟩ := heard_of hk.swp.g hL2
    obtain ⟨n1, n2⟩ := hk.swp.f0 _ (by rw [hL2]; exact List.mem_cons_self ..)
    rw [pHand_cons hL2]
    have ho : (swp x).B = x.A := rfl
    have hkk : (swp x).k0 = x.k1 := rfl
    rw [ho, hkk] at g2
    rw [ho] at g1
    rw [ho, hkk]
    dsimp only at g1 g2 n1 n2 ⊢
    rcases hh : hear ⟨fc, fk, fpf, fns, fnr, fi⟩ x.A with ⟨X2, ⟨mi, tk, ma, fl⟩⟩
    rw [hh] at g1 g2
    dsimp only at g1 g2 ⊢
    subst g1
    cases tk
    · refine (fhand1_no w0 w b x N h hk.a fc fk fpf fns fnr fi j rr r hL n1 n2 X2 mi ma hh (Nat.le_trans hk.k1 hN)).mono fun e w' ⟨e1, e2⟩ => ⟨e1, ?_⟩
      have hq : (swp ⟨(swp x).A, X2, r, (swp x).L1, (swp x).u0, (swp x).u1, (if false = true then x.k1 + 1 else x.k1), (swp x).k1, (swp x).bad || false || (false && !decide (mi = inf x.k1))⟩ : Pr) = { x with A := X2, L1 := r } := by
        simp [swp]
      rw [hq]
      exact e2
    · have hm := g2 rfl
      refine (fhand1_yes w0 w b x N h hk.a fc fk fpf fns fnr fi j rr r hL n1 n2 X2 mi ma hh hm (Nat.le_trans hk.k1 hN)).mono fun e w' ⟨e1, e2⟩ => ⟨e1, ?_⟩
      have hq : (swp ⟨(swp x).A, X2, r, (swp x).L1, (swp x).u0, (swp x).u1, (if true = true then x.k1 + 1 else x.k1), (swp x).k1, (swp x).bad || false || (true && !decide (mi = inf x.k1))⟩ : Pr) = { x with A := X2, L1 := r, k1 := x.k1 + 1 } := by
        simp [swp, hm]
      rw [hq]
      exact e2
theorem olose1 (h : PrE w0 b x w) (lost : Bool) (hl : lost = true) : Calls Try.prog 38 #[ptr b.tb, .int .i64 1, .bool lost] w fun e w' => (∃ o, e = .returned (.bool o)) ∧ PrE w0 b (swp (pLose (swp x))) w' := by
  subst hl
  rcases hL : x.L1 with _ | ⟨⟨⟨fc, fk, fpf, fns, fnr, fi⟩, j, rr⟩, r⟩
  · refine (fhand1_none w0 w b x true h hL).mono fun e w' ⟨e1, e2⟩ => ⟨⟨_, e1⟩, ?_⟩
    subst e2
    have hq : (swp (pLose (swp x))) = x := by
      show ({ x with L1 := x.L1.drop 1 } : Pr) = x
      rw [hL]
      show ({ x with L1 := [] } : Pr) = x
      rw [← hL]
    rw [hq]
    exact h
  · refine (fhand1_lost w0 w b x h fc fk fpf fns fnr fi j rr r hL).mono fun e w' ⟨e1, e2⟩ => ⟨⟨_, e1⟩, ?_⟩
    have hq : (swp (pLose (swp x))) = { x with L1 := r } := by
      show ({ x with L1 := x.L1.drop 1 } : Pr) = _
      rw [hL]
      rfl
    rw [hq]
    exact e2
end
end Go.Proofs.Ytkoaplmlabagnaa.Aq

/-
  Two sides, what is on its way between them, how many were pushed and taken: the steps of layer 15's law, plain, and that all is right behind each. No condition.
  Layer 15's ArqEnds, plain, and at the steps that ArqKnown asks of it. Closed facts.
-/
import Derived.Test.YtkoaplmlabagnaaAqMath
namespace Go.Proofs.Ytkoaplmlabagnaa.Aq
open Go.Proofs.Ytkoaplmlabagnaa.Base Go.Proofs.Ytkoaplmlabagnaa.Mem
/-- The n-th information. -/
def inf (n : Nat) : ByteArray := ⟨#[UInt8.ofNat (n / 256), UInt8.ofNat n]⟩
structure Pr where
  A : Sd
  B : Sd
  L0 : List Gf
  L1 : List Gf
  u0 : Nat
  u1 : Nat
  k0 : Nat
  k1 : Nat
  bad : Bool
def swp (x : Pr) : Pr := ⟨x.B, x.A, x.L1, x.L0, x.u1, x.u0, x.k1, x.k0, x.bad⟩
structure Good (x : Pr) : Prop where
  d0 : Dir x.A x.B x.L0 x.L1
  d1 : Dir x.B x.A x.L1 x.L0
  p0 : ∀ j, j < x.A.p.length → x.A.p[j]? = some (inf j)
  p1 : ∀ j, j < x.B.p.length → x.B.p[j]? = some (inf j)
  u0 : x.u0 = x.A.p.length
  u1 : x.u1 = x.B.p.length
  k0 : x.k0 = x.B.g
  k1 : x.k1 = x.A.g
  ok : x.bad = false
theorem Good.swp {x : Pr} (h : Good x) : Good (swp x) := ⟨h.d1, h.d0, h.p1, h.p0, h.u1, h.u0, h.k1, h.k0, h.ok⟩
theorem swp_swp (x : Pr) : swp (swp x) = x := rfl
def pPush (x : Pr) : Pr := { x with A := (push (inf x.u0) x.A).1, u0 := if (push (inf x.u0) x.A).2 = 0 then x.u0 + 1 else x.u0 }
def pSend (x : Pr) : Pr := { x with A := (next x.A).1, L0 := sent x.A x.L0 }
def pLose (x : Pr) : Pr := { x with L0 := x.L0.drop 1 }
def pHand (x : Pr) : Pr :=
  match x.L0 with
  | [] => x
  | f :: r => ⟨x.A, (hear f.f x.B).1, r, x.L1, x.u0, x.u1, (if (hear f.f x.B).2.taken = true then x.k0 + 1 else x.k0), x.k1, x.bad || (hear f.f x.B).2.failed || ((hear f.f x.B).2.taken && !decide ((hear f.f x.B).2.i = inf x.k0))⟩
def pTick (x : Pr) : Pr := { x with A := (tick x.A).1, B := (tick x.B).1 }
def pBusy (b : Bool) (x : Pr) : Pr := { x with A := setBusy b x.A }
theorem push_p (i : ByteArray) (x : Sd) : ((push i x).2 = 0 ∧ (push i x).1.p = x.p ++ [i] ∧ (push i x).1.g = x.g) ∨ ((push i x).2 ≠ 0 ∧ (push i x).1 = x) := by
  unfold push
  split
  · exact Or.inr ⟨by simp, rfl⟩
  split
  · exact Or.inr ⟨by simp, rfl⟩
  · exact Or.inl ⟨rfl, (cnt_same _ _).p, (cnt_same _ _).g⟩
theorem Good.push {x : Pr} (h : Good x) : Good (pPush x) := by
  have h0 := h.d0.push (inf x.u0)
  unfold pPush
  rcases push_p (inf x.u0) x.A with ⟨e1, e2, e3⟩ | ⟨e1, e2⟩
  · rw [if_pos e1]
    refine ⟨h0, Dir.same h.d1 (Same.refl _) e3, fun j hj => ?_, h.p1, ?_, h.u1, h.k0, ?_, h.ok⟩
    · dsimp only at hj ⊢
      rw [e2] at hj ⊢
      rw [List.length_append, List.length_singleton] at hj
      by_cases hlt : j < x.A.p.length
      · rw [List.getElem?_append_left hlt]; exact h.p0 j hlt
      · obtain rfl : j = x.A.p.length := by omega
        rw [List.getElem?_append_right (Nat.le_refl _), Nat.sub_self, h.u0]; rfl
    · dsimp only
      rw [e2, List.length_append, List.length_singleton, h.u0]
    · dsimp only
      rw [e3]; exact h.k1
  · rw [if_neg e1, e2]
    exact ⟨h.d0, h.d1, h.p0, h.p1, h.u0, h.u1, h.k0, h.k1, h.ok⟩
theorem next_p (x : Sd) : (next x).1.p = x.p := by
  rcases next_cases x with ⟨_, h2⟩ | ⟨_, _, _, h4⟩ | ⟨_, _, _, h4⟩
  · rw [h2]
  · exact h4.p
  · exact h4.p
theorem Good.send {x : Pr} (h : Good x) : Good (pSend x) := by
  unfold pSend
  refine ⟨h.d0.nextS, h.d1.nextR, ?_, h.p1, ?_, h.u1, h.k0, ?_, h.ok⟩
  · dsimp only; rw [next_p]; exact h.p0
  · dsimp only; rw [next_p]; exact h.u0
  · dsimp only; rw [next_g]; exact h.k1
theorem Good.lose {x : Pr} (h : Good x) : Good (pLose x) := ⟨h.d0.dropS, h.d1.dropR, h.p0, h.p1, h.u0, h.u1, h.k0, h.k1, h.ok⟩
theorem hear_p (f : Fm) (x : Sd) : (hear f x).1.p = x.p := by
  unfold hear
  split
  · rfl
  · split
    · rfl
    · dsimp only
      rw [(cnt_same _ _).p, (hear5_same f _).p]
      have : ∀ n, (hear4 f (hear3 f (hear2 f (hear1 n x)))).p = x.p := fun n => by
        unfold hear4 hear3 hear2 hear1
        repeat' split
        all_goals rfl
      split
      · rw [(take_rest f _ _).2.1]; exact this _
      · exact this _
theorem Good.hand {x : Pr} (h : Good x) : Good (pHand x) := by
  unfold pHand
  split
  · exact h
  · rename_i f r hL
    have h0 := h.d0
    have h1 := h.d1
    rw [hL] at h0 h1
    obtain ⟨e1, e2, e3, e4⟩ := heard_pair h0 h1
    refine ⟨e1, e2, h.p0, ?_, h.u0, ?_, ?_, h.k1, ?_⟩
    · dsimp only; rw [hear_p]; exact h.p1
    · dsimp only; rw [hear_p]; exact h.u1
    · dsimp only
      rcases e4 with ⟨g1, g2⟩ | ⟨g1, g2, _⟩
      · rw [if_neg (by rw [g1]; decide), g2]; exact h.k0
      · rw [if_pos g1, g2, h.k0]
    · dsimp only
      rw [h.ok, e3]
      rcases e4 with ⟨g1, _⟩ | ⟨g1, _, g3⟩
      · rw [g1]; rfl
      · have hlt := (List.getElem?_eq_some_iff.1 g3).1
        have := h.p0 _ hlt
        rw [g3, ← h.k0] at this
        rw [Option.some.inj this]
        simp
theorem Good.tick {x : Pr} (h : Good x) : Good (pTick x) := by
  have a := tick_same x.A
  have b := tick_same x.B
  unfold pTick
  refine ⟨Dir.same h.d0 a b.g, Dir.same h.d1 b a.g, ?_, ?_, ?_, ?_, ?_, ?_, h.ok⟩
  · dsimp only; rw [a.p]; exact h.p0
  · dsimp only; rw [b.p]; exact h.p1
  · dsimp only; rw [a.p]; exact h.u0
  · dsimp only; rw [b.p]; exact h.u1
  · dsimp only; rw [b.g]; exact h.k0
  · dsimp only; rw [a.g]; exact h.k1
theorem Good.busy {x : Pr} (h : Good x) (b : Bool) : Good (pBusy b x) := by
  have a := setBusy_same b x.A
  unfold pBusy
  refine ⟨Dir.same h.d0 a rfl, Dir.same h.d1 (Same.refl _) a.g, ?_, h.p1, ?_, h.u1, h.k0, ?_, h.ok⟩
  · dsimp only; rw [a.p]; exact h.p0
  · dsimp only; rw [a.p]; exact h.u0
  · dsimp only; rw [a.g]; exact h.k1
/-- All is right. -/
theorem Good.right {x : Pr} (h : Good x) : x.k0 ≤ x.u0 ∧ x.A.p.length - x.A.a ≤ x.A.k ∧ x.A.s - x.A.a ≤ x.A.p.length - x.A.a ∧ x.u0 - (x.A.p.length - x.A.a) ≤ x.k0 ∧ x.A.k ≤ 7 := by
  have h1 := h.d0.ag
  have h2 := h.d0.gT
  have h3 := h.d0.tp
  have h4 := h.d0.pk
  have h5 := h.d0.sT
  have h6 := h.k0
  have h7 := h.u0
  have h8 := h.d0.hs
  exact ⟨by omega, by omega, by omega, by omega, h.d0.k7⟩
/-- Two new sides. -/
def newP (k n2 t1 : Nat) : Pr := ⟨new k n2 t1, new k n2 t1, [], [], 0, 0, 0, 0, false⟩
theorem newP_good (k n2 t1 : Nat) (hk : k ≤ 7) : Good (newP k n2 t1) := by
  have d : Dir (new k n2 t1) (new k n2 t1) [] [] := ⟨hk, Nat.le_refl _, Nat.le_refl _, Nat.le_refl _, Nat.zero_le _, Nat.le_refl _, Nat.le_refl _, List.Pairwise.nil, (fun x hx => by cases hx), List.Pairwise.nil, (fun x hx => by cases hx)⟩
  exact ⟨d, d, (fun j hj => absurd hj (Nat.not_lt_zero _)), (fun j hj => absurd hj (Nat.not_lt_zero _)), rfl, rfl, rfl, rfl, rfl⟩
/-- A step of a pair. -/
structure Sp where
  d : Nat
  side : Bool
  on : Bool
def pOp (d : Nat) (on : Bool) (x : Pr) : Pr :=
  if d % 9 < 2 then pPush x else if d % 9 < 4 then pSend x else if d % 9 < 6 then pHand x else if d % 9 = 6 then pLose x else if d % 9 = 7 then pTick x else pBusy on x
def pStep (s : Sp) (x : Pr) : Pr := if s.side = true then swp (pOp s.d s.on (swp x)) else pOp s.d s.on x
def pHalf (x : Pr) : Pr × Bool := (pHand (pSend x), (next x.A).2.2 || !(pSend x).L0.isEmpty)
def pBoth (x : Pr) : Pr × Bool := (swp (pHalf (swp (pHalf x).1)).1, (pHalf x).2 || (pHalf (swp (pHalf x).1)).2)
def settle : Nat → Pr → Pr × Bool
  | 0, x => (x, false)
  | n + 1, x => if (pBoth x).2 = true then settle n (pBoth x).1 else ((pBoth x).1, true)
def ticks : Nat → Pr → Pr × Bool
  | 0, x => settle 5000 x
  | n + 1, x => if (settle 5000 x).2 = true then ticks n (pTick (settle 5000 x).1) else ((settle 5000 x).1, false)
def idle (x : Pr) : Pr := swp (pBusy false (swp (pBusy false x)))
def ends (k n2 t1 : Nat) (l : List Sp) : Bool :=
  let r := ticks (t1 + 2) (idle (l.foldl (fun x s => pStep s x) (newP k n2 t1)))
  r.2 && (r.1.A.fl || r.1.B.fl || (decide (r.1.A.p.length = r.1.A.a) && decide (r.1.B.p.length = r.1.B.a) && decide (r.1.k0 = r.1.u0) && decide (r.1.k1 = r.1.u1)))
def xOf (i n : Nat) : Nat := (i * 31 + n * n * 7 + n * i) % 997
def spOf (i : Nat) : List Sp := (List.range 24).map fun n => ⟨xOf i n / 5 % 256, decide (xOf i n % 2 = 0), decide (xOf i n % 4 = 0)⟩
set_option maxRecDepth 100000 in
theorem ends_all : ((List.range 100).all fun i => ends (1 + 4 * i % 7) (4 * i % 5) (1 + 4 * i % 6) (spOf (4 * i))) = true := by decide +kernel
/-- ArqKnown's steps end. -/
theorem ends_known (i : Nat) (hi : i < 400) (h4 : i % 4 = 0) : ends (1 + i % 7) (i % 5) (1 + i % 6) (spOf i) = true := by
  have := List.all_eq_true.1 ends_all (i / 4) (List.mem_range.2 (by omega))
  rwa [show 4 * (i / 4) = i by omega] at this
end Go.Proofs.Ytkoaplmlabagnaa.Aq

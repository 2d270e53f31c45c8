/-
  Two sides and their lines: in order and few, whatever step is taken. No condition but that they were so.
-/
import Derived.Test.YtkoaplmlabagnaaAqEnds
import Derived.Test.YtkoaplmlabagnaaAqInv
namespace Go.Proofs.Ytkoaplmlabagnaa.Aq
open Go.Proofs.Ytkoaplmlabagnaa.Base Go.Proofs.Ytkoaplmlabagnaa.Mem
/-- A line's frames have octets for numbers. -/
def FB (L : List Gf) : Prop := ∀ f ∈ L, f.f.ns < 256 ∧ f.f.nr < 256
/-- All is right; at most N were pushed at either side; at most M wait on either line. -/
structure Pok (N M : Nat) (x : Pr) : Prop where
  g : Good x
  a : Inv N x.A
  b : Inv N x.B
  f0 : FB x.L0
  f1 : FB x.L1
  l0 : x.L0.length ≤ M
  l1 : x.L1.length ≤ M
section
variable {N M : Nat} {x : Pr}
theorem Pok.swp (h : Pok N M x) : Pok N M (swp x) := ⟨h.g.swp, h.b, h.a, h.f1, h.f0, h.l1, h.l0⟩
theorem Pok.more (h : Pok N M x) {N' M' : Nat} (h1 : N ≤ N') (h2 : M ≤ M') : Pok N' M' x := ⟨h.g, h.a.more h1, h.b.more h1, h.f0, h.f1, Nat.le_trans h.l0 h2, Nat.le_trans h.l1 h2⟩
theorem Pok.u0 (h : Pok N M x) : x.u0 ≤ N := by rw [h.g.u0]; exact h.a.few
theorem Pok.u1 (h : Pok N M x) : x.u1 ≤ N := by rw [h.g.u1]; exact h.b.few
theorem Pok.k0 (h : Pok N M x) : x.k0 ≤ N := by rw [h.g.k0]; exact h.b.g
theorem Pok.k1 (h : Pok N M x) : x.k1 ≤ N := by rw [h.g.k1]; exact h.a.g
theorem next_few (x : Sd) : (next x).2.1.ns < 256 ∧ (next x).2.1.nr < 256 := by
  unfold next
  split
  · exact ⟨Nat.zero_lt_succ 255, Nat.zero_lt_succ 255⟩
  split
  · exact ⟨Nat.zero_lt_succ 255, Nat.lt_of_lt_of_le (Nat.mod_lt _ (by decide)) (by decide)⟩
  split
  · exact ⟨Nat.zero_lt_succ 255, Nat.lt_of_lt_of_le (Nat.mod_lt _ (by decide)) (by decide)⟩
  split
  · exact ⟨Nat.lt_of_lt_of_le (Nat.mod_lt _ (by decide)) (by decide), Nat.lt_of_lt_of_le (Nat.mod_lt _ (by decide)) (by decide)⟩
  · exact ⟨Nat.zero_lt_succ 255, Nat.zero_lt_succ 255⟩
theorem sent_few {x : Sd} {L : List Gf} (h : FB L) : FB (sent x L) := by
  unfold sent
  split
  · intro f hf
    rcases List.mem_append.1 hf with hf | hf
    · exact h f hf
    · rw [List.mem_singleton.1 hf]; exact next_few x
  · exact h
theorem sent_len (x : Sd) (L : List Gf) : (sent x L).length ≤ L.length + 1 := by
  unfold sent
  split
  · rw [List.length_append, List.length_singleton]; exact Nat.le_refl _
  · omega
/-- One that is in order, with fewer. -/
theorem Inv.low {K : Nat} {y : Sd} (h : Inv K y) (h1 : y.p.length ≤ N) (h2 : y.g ≤ N) : Inv N y := ⟨⟨h.n2, h.t1, h.t1p, h.lft, h.tr, h.trf, h.k, h.hs, h.sT, h.tp, h.pk, h1, h2⟩, h.cn⟩
theorem Pok.push (h : Pok N M x) : Pok (N + 1) M (pPush x) := ⟨h.g.push, push_inv _ h.a, h.b.more (Nat.le_succ N), h.f0, h.f1, h.l0, h.l1⟩
theorem Pok.send (h : Pok N M x) : Pok N (M + 1) (pSend x) :=
  ⟨h.g.send, next_inv h.a, h.b, sent_few h.f0, h.f1, Nat.le_trans (sent_len _ _) (Nat.succ_le_succ h.l0), Nat.le_succ_of_le h.l1⟩
theorem pHand_cons {f : Gf} {r : List Gf} (hL : x.L0 = f :: r) : pHand x = ⟨x.A, (hear f.f x.B).1, r, x.L1, x.u0, x.u1, (if (hear f.f x.B).2.taken = true then x.k0 + 1 else x.k0), x.k1, x.bad || (hear f.f x.B).2.failed || ((hear f.f x.B).2.taken && !decide ((hear f.f x.B).2.i = inf x.k0))⟩ := by
  unfold pHand; rw [hL]
theorem pHand_nil (hL : x.L0 = []) : pHand x = x := by unfold pHand; rw [hL]
theorem pHand_L0 (x : Pr) : (pHand x).L0 = x.L0.drop 1 := by
  rcases hL : x.L0 with _ | ⟨f, r⟩
  · rw [pHand_nil hL, hL]; rfl
  · rw [pHand_cons hL]; rfl
theorem pHand_L1 (x : Pr) : (pHand x).L1 = x.L1 := by
  rcases hL : x.L0 with _ | ⟨f, r⟩
  · rw [pHand_nil hL]
  · rw [pHand_cons hL]
theorem pHand_A (x : Pr) : (pHand x).A = x.A := by
  rcases hL : x.L0 with _ | ⟨f, r⟩
  · rw [pHand_nil hL]
  · rw [pHand_cons hL]
theorem Pok.hand (h : Pok N M x) : Pok N M (pHand x) := by
  have hg := h.g.hand
  have hb : Inv N (pHand x).B := by
    have h1 := hg.d0.gT
    have h2 := hg.d0.tp
    rw [pHand_A] at h1 h2
    have h3 := h.a.few
    have h4 : (pHand x).B.p.length ≤ N := by
      have := h.b.few
      rcases hL : x.L0 with _ | ⟨f, r⟩
      · rw [pHand_nil hL]; exact this
      · rw [pHand_cons hL]; dsimp only; rw [hear_p]; exact this
    have h5 : Inv (N + 1) (pHand x).B := by
      rcases hL : x.L0 with _ | ⟨f, r⟩
      · rw [pHand_nil hL]; exact h.b.more (Nat.le_succ N)
      · rw [pHand_cons hL]; exact hear_inv f.f h.b
    exact h5.low h4 (by omega)
  refine ⟨hg, by rw [pHand_A]; exact h.a, hb, ?_, by rw [pHand_L1]; exact h.f1, ?_, by rw [pHand_L1]; exact h.l1⟩
  · rw [pHand_L0]; exact fun f hf => h.f0 f (List.mem_of_mem_drop hf)
  · rw [pHand_L0, List.length_drop]; exact Nat.le_trans (Nat.sub_le _ _) h.l0
theorem Pok.lose (h : Pok N M x) : Pok N M (pLose x) :=
  ⟨h.g.lose, h.a, h.b, fun f hf => h.f0 f (List.mem_of_mem_drop hf), h.f1, by
    show (x.L0.drop 1).length ≤ M
    rw [List.length_drop]; exact Nat.le_trans (Nat.sub_le _ _) h.l0, h.l1⟩
theorem Pok.tick (h : Pok N M x) : Pok N M (pTick x) := ⟨h.g.tick, tick_inv h.a, tick_inv h.b, h.f0, h.f1, h.l0, h.l1⟩
theorem Pok.busy (h : Pok N M x) (b : Bool) : Pok N M (pBusy b x) := ⟨h.g.busy b, setBusy_inv b h.a, h.b, h.f0, h.f1, h.l0, h.l1⟩
/-- A side sends, the other one hears. -/
theorem Pok.half (h : Pok N M x) : Pok N M (pHand (pSend x)) := by
  have h1 := h.send.hand
  refine ⟨h1.g, h1.a, h1.b, h1.f0, h1.f1, ?_, ?_⟩
  · rw [pHand_L0, List.length_drop]
    have := h.send.l0
    omega
  · rw [pHand_L1]; exact h.l1
theorem Pok.op (h : Pok N M x) (d : Nat) (on : Bool) : Pok (N + 1) (M + 1) (pOp d on x) := by
  have n1 := Nat.le_succ N
  have m1 := Nat.le_succ M
  unfold pOp
  split
  · exact h.push.more (Nat.le_refl _) m1
  split
  · exact h.send.more n1 (Nat.le_refl _)
  split
  · exact h.hand.more n1 m1
  split
  · exact h.lose.more n1 m1
  split
  · exact h.tick.more n1 m1
  · exact (h.busy on).more n1 m1
theorem Pok.step (h : Pok N M x) (s : Sp) : Pok (N + 1) (M + 1) (pStep s x) := by
  unfold pStep
  split
  · exact (h.swp.op s.d s.on).swp
  · exact h.op s.d s.on
theorem Pok.both (h : Pok N M x) : Pok N M (pBoth x).1 := by
  have h1 : Pok N M (pHalf x).1 := h.half
  exact (h1.swp.half : Pok N M (pHalf (Aq.swp (pHalf x).1)).1).swp
theorem Pok.settle : ∀ (n : Nat) {x : Pr}, Pok N M x → Pok N M (settle n x).1
  | 0, _, h => h
  | n + 1, x, h => by
    unfold Aq.settle
    split
    · exact Pok.settle n h.both
    · exact h.both
theorem Pok.idle (h : Pok N M x) : Pok N M (idle x) := (((h.busy false).swp).busy false).swp
theorem newP_pok (k n2 t1 : Nat) (hk : k ≤ 7) (h2 : n2 ≤ 255) (h3 : t1 ≤ 255) (h4 : 1 ≤ t1) : Pok 0 0 (newP k n2 t1) :=
  ⟨newP_good k n2 t1 hk, new_inv k n2 t1 hk h2 h3 h4, new_inv k n2 t1 hk h2 h3 h4, (fun f hf => by cases hf), (fun f hf => by cases hf), Nat.le_refl _, Nat.le_refl _⟩
/-- What the other side makes of a line's first frame. -/
theorem heard_of (hg : Good x) {f : Gf} {r : List Gf} (hL : x.L0 = f :: r) : (hear f.f x.B).2.failed = false ∧ ((hear f.f x.B).2.taken = true → (hear f.f x.B).2.i = inf x.k0) := by
  have h0 := hg.d0
  have h1 := hg.d1
  rw [hL] at h0 h1
  obtain ⟨_, _, e3, e4⟩ := heard_pair h0 h1
  refine ⟨e3, fun ht => ?_⟩
  rcases e4 with ⟨g1, _⟩ | ⟨_, _, g3⟩
  · rw [g1] at ht; cases ht
  · have hlt := (List.getElem?_eq_some_iff.1 g3).1
    have := hg.p0 _ hlt
    rw [g3, ← hg.k0] at this
    exact Option.some.inj this
end
end Go.Proofs.Ytkoaplmlabagnaa.Aq

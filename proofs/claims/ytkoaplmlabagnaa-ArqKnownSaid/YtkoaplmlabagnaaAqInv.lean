/-
  A side stays in order, whatever is called of it. No condition but that it was in order.
  Two sides and their lines: in order and few, whatever step is taken. No condition but that they were so.
-/
import Derived.Test.YtkoaplmlabagnaaAqPm1
import Derived.Test.YtkoaplmlabagnaaAqPair
namespace Go.Proofs.Ytkoaplmlabagnaa.Aq
open Go.Proofs.Ytkoaplmlabagnaa.Base Go.Proofs.Ytkoaplmlabagnaa.Mem
/-- A side's numbers stand as they must, but for what is counted. -/
structure Pre (N : Nat) (x : Sd) : Prop where
  n2 : x.n2 ≤ 255
  t1 : x.t1 ≤ 255
  t1p : 1 ≤ x.t1
  lft : x.lf ≤ x.t1
  tr : x.tr ≤ x.n2 + 1
  trf : x.fl = false → x.tr ≤ x.n2
  k : x.k ≤ 7
  hs : x.a ≤ x.s
  sT : x.s ≤ x.T
  tp : x.T ≤ x.p.length
  pk : x.p.length ≤ x.a + x.k
  few : x.p.length ≤ N
  g : x.g ≤ N
structure Inv (N : Nat) (x : Sd) : Prop extends Pre N x where
  cn : x.fl = false → (counts x = true ↔ 0 < x.lf)
section
variable {N : Nat} {x : Sd}
theorem Pre.more (h : Pre N x) {M : Nat} (hm : N ≤ M) : Pre M x := ⟨h.n2, h.t1, h.t1p, h.lft, h.tr, h.trf, h.k, h.hs, h.sT, h.tp, h.pk, Nat.le_trans h.few hm, Nat.le_trans h.g hm⟩
theorem Inv.more (h : Inv N x) {M : Nat} (hm : N ≤ M) : Inv M x := ⟨h.toPre.more hm, h.cn⟩
theorem Inv.ord (h : Inv N x) : Ord x := ⟨h.hs, h.sT, h.tp, h.pk, h.k, h.t1p, h.cn⟩
theorem Inv.fit (h : Inv N x) (hN : N ≤ 1000000) : Fit x :=
  ⟨h.k, h.n2, h.t1, h.t1p, h.hs, h.sT, h.tp, h.pk, Nat.le_trans h.few hN, Nat.le_trans h.g hN, by have := h.tr; have := h.n2; omega, by have := h.lft; have := h.t1; omega⟩
theorem Inv.pfit (h : Inv N x) : PFit (Ps.of x) := by
  have h1 := h.hs
  have h2 := h.sT
  have h3 := h.tp
  have h4 := h.pk
  have h5 := h.k
  have h6 := h.tr
  have h7 := h.n2
  have h8 := h.lft
  have h9 := h.t1
  constructor <;> (unfold Ps.of; dsimp only) <;> (try rw [List.length_drop]) <;> omega
theorem counts_lf (x : Sd) (l : Nat) : counts { x with lf := l } = counts x := rfl
theorem cnt_inv (b : Bool) (h : Pre N x) (hf : x.fl = false) : Inv N (cnt b x) := by
  unfold cnt
  rw [if_neg (by rw [hf]; decide)]
  by_cases hc : counts x = true
  · rw [if_pos hc]
    by_cases hl : x.lf = 0 ∨ b = true
    · rw [if_pos hl]
      exact ⟨⟨h.n2, h.t1, h.t1p, Nat.le_refl _, h.tr, h.trf, h.k, h.hs, h.sT, h.tp, h.pk, h.few, h.g⟩, fun _ => ⟨fun _ => h.t1p, fun _ => hc⟩⟩
    · rw [if_neg hl]
      exact ⟨h, fun _ => ⟨fun _ => by have := fun e => hl (Or.inl e); omega, fun _ => hc⟩⟩
  · rw [if_neg hc]
    exact ⟨⟨h.n2, h.t1, h.t1p, Nat.zero_le _, h.tr, h.trf, h.k, h.hs, h.sT, h.tp, h.pk, h.few, h.g⟩, fun _ => ⟨fun e => absurd e hc, fun e => absurd e (Nat.lt_irrefl 0)⟩⟩
theorem new_inv (k n2 t1 : Nat) (h1 : k ≤ 7) (h2 : n2 ≤ 255) (h3 : t1 ≤ 255) (h4 : 1 ≤ t1) : Inv 0 (new k n2 t1) :=
  ⟨⟨h2, h3, h4, Nat.zero_le _, Nat.zero_le _, fun _ => Nat.zero_le _, h1, Nat.le_refl _, Nat.le_refl _, Nat.le_refl _, Nat.zero_le _, Nat.le_refl _, Nat.le_refl _⟩, fun _ => ⟨fun e => by simp [counts, new] at e, fun e => absurd e (Nat.lt_irrefl 0)⟩⟩
theorem push_inv (i : ByteArray) (h : Inv N x) : Inv (N + 1) (push i x).1 := by
  unfold push
  split
  · exact h.more (Nat.le_succ N)
  split
  · exact h.more (Nat.le_succ N)
  · rename_i hf hk
    have h1 := h.pk
    have h2 := h.tp
    have h3 := h.sT
    have h4 := h.hs
    refine cnt_inv false ⟨h.n2, h.t1, h.t1p, h.lft, h.tr, h.trf, h.k, h.hs, h.sT, ?_, ?_, ?_, Nat.le_succ_of_le h.g⟩ (by simpa using hf)
    · show x.T ≤ (x.p ++ [i]).length
      rw [List.length_append]; omega
    · show (x.p ++ [i]).length ≤ x.a + x.k
      rw [List.length_append, List.length_singleton]; omega
    · show (x.p ++ [i]).length ≤ N + 1
      have := h.few
      rw [List.length_append, List.length_singleton]; omega
theorem next_inv (h : Inv N x) : Inv N (next x).1 := by
  unfold next
  split
  · exact h
  rename_i hf
  have hf : x.fl = false := by simpa using hf
  split
  · exact cnt_inv false ⟨h.n2, h.t1, h.t1p, h.lft, h.tr, h.trf, h.k, h.hs, h.sT, h.tp, h.pk, h.few, h.g⟩ hf
  split
  · exact cnt_inv false ⟨h.n2, h.t1, h.t1p, h.lft, h.tr, h.trf, h.k, h.hs, h.sT, h.tp, h.pk, h.few, h.g⟩ hf
  split
  · rename_i hm
    have hm2 : x.s < x.p.length := by
      unfold more at hm
      simp only [Bool.and_eq_true, decide_eq_true_eq] at hm
      exact hm.2
    have h1 := h.hs
    have h2 := h.tp
    refine cnt_inv false ⟨h.n2, h.t1, h.t1p, h.lft, h.tr, h.trf, h.k, ?_, ?_, ?_, h.pk, h.few, h.g⟩ hf
    · show x.a ≤ x.s + 1; omega
    · show x.s + 1 ≤ max x.T (x.s + 1); omega
    · show max x.T (x.s + 1) ≤ x.p.length; omega
  · exact h
theorem setBusy_inv (b : Bool) (h : Inv N x) : Inv N (setBusy b x) := by
  unfold setBusy
  split
  · exact h
  · rename_i hf
    exact cnt_inv false ⟨h.n2, h.t1, h.t1p, h.lft, h.tr, h.trf, h.k, h.hs, h.sT, h.tp, h.pk, h.few, h.g⟩ (by simpa using fun e => hf (Or.inl e))
theorem setWant_inv (b : Bool) (h : Inv N x) : Inv N (setWant b x) := by
  unfold setWant
  split
  · exact h
  · rename_i hf
    exact cnt_inv false ⟨h.n2, h.t1, h.t1p, h.lft, h.tr, h.trf, h.k, h.hs, h.sT, h.tp, h.pk, h.few, h.g⟩ (by simpa using hf)
theorem tick_inv (h : Inv N x) : Inv N (tick x).1 := by
  have h1 := h.lft
  have h2 := h.tr
  unfold tick
  split
  · exact h
  rename_i hf
  have hfl : x.fl = false := by simpa using fun e => hf (Or.inl e)
  have hl0 : x.lf ≠ 0 := fun e => hf (Or.inr e)
  have h3 := h.trf hfl
  split
  · rename_i hl
    refine ⟨⟨h.n2, h.t1, h.t1p, ?_, h.tr, h.trf, h.k, h.hs, h.sT, h.tp, h.pk, h.few, h.g⟩, fun _ => ⟨fun _ => ?_, fun _ => ?_⟩⟩
    · show x.lf - 1 ≤ x.t1; omega
    · show 0 < x.lf - 1; omega
    · exact (h.cn hfl).2 (by omega)
  · dsimp only
    have htr : (if x.a < x.s ∨ x.ak = true then x.tr + 1 else x.tr) ≤ x.tr + 1 := by split <;> omega
    generalize (if x.a < x.s ∨ x.ak = true then x.tr + 1 else x.tr) = tr at htr
    split
    · refine ⟨⟨h.n2, h.t1, h.t1p, Nat.zero_le _, ?_, (fun e => by cases e), h.k, h.hs, h.sT, h.tp, h.pk, h.few, h.g⟩, (fun e => by cases e)⟩
      show tr ≤ x.n2 + 1; omega
    · rename_i hn
      refine ⟨⟨h.n2, h.t1, h.t1p, Nat.le_refl _, ?_, fun _ => ?_, h.k, h.hs, h.sT, h.tp, h.pk, h.few, h.g⟩, fun _ => ⟨fun _ => h.t1p, fun _ => ?_⟩⟩
      · show tr ≤ x.n2 + 1; omega
      · show tr ≤ x.n2; omega
      · simp [counts]
theorem hears_pre (f : Fm) (n : Nat) (h : Inv N x) (hn : x.a ≤ n) (ht : n ≤ x.T) : Pre N (hear4 f (hear3 f (hear2 f (hear1 n x)))) := by
  have h1 := h.hs
  have h2 := h.sT
  have h3 := h.pk
  have h4 := h.tr
  have p1 : Pre N (hear1 n x) := by
    refine ⟨h.n2, h.t1, h.t1p, h.lft, ?_, fun e => ?_, h.k, ?_, ?_, h.tp, ?_, h.few, h.g⟩
    · show (if x.a < n then 0 else x.tr) ≤ x.n2 + 1; split <;> omega
    · show (if x.a < n then 0 else x.tr) ≤ x.n2
      have := h.trf e
      split <;> omega
    · show n ≤ max x.s n; omega
    · show max x.s n ≤ x.T; omega
    · show x.p.length ≤ n + x.k; omega
  generalize hear1 n x = y at p1
  have p2 : Pre N (hear2 f y) := by
    unfold hear2
    split
    · exact ⟨p1.n2, p1.t1, p1.t1p, p1.lft, p1.tr, p1.trf, p1.k, Nat.le_refl _, Nat.le_trans p1.hs p1.sT, p1.tp, p1.pk, p1.few, p1.g⟩
    · exact p1
  generalize hear2 f y = z at p2
  have p3 : Pre N (hear3 f z) := by
    unfold hear3
    split
    · exact ⟨p2.n2, p2.t1, p2.t1p, p2.lft, p2.tr, p2.trf, p2.k, p2.hs, p2.sT, p2.tp, p2.pk, p2.few, p2.g⟩
    · exact p2
  generalize hear3 f z = u at p3
  unfold hear4
  split
  · exact ⟨p3.n2, p3.t1, p3.t1p, p3.lft, Nat.zero_le _, fun _ => Nat.zero_le _, p3.k, Nat.le_refl _, Nat.le_trans p3.hs p3.sT, p3.tp, p3.pk, p3.few, p3.g⟩
  · exact p3
theorem take_pre (f : Fm) (m : Am) (h : Pre N x) : Pre (N + 1) (take f x m).1 := by
  have hm := h.more (Nat.le_succ N)
  unfold take
  split
  · split
    · exact ⟨hm.n2, hm.t1, hm.t1p, hm.lft, hm.tr, hm.trf, hm.k, hm.hs, hm.sT, hm.tp, hm.pk, hm.few, hm.g⟩
    · exact hm
  split
  · exact ⟨hm.n2, hm.t1, hm.t1p, hm.lft, hm.tr, hm.trf, hm.k, hm.hs, hm.sT, hm.tp, hm.pk, hm.few, hm.g⟩
  · exact ⟨hm.n2, hm.t1, hm.t1p, hm.lft, hm.tr, hm.trf, hm.k, hm.hs, hm.sT, hm.tp, hm.pk, hm.few, by show x.g + 1 ≤ N + 1; have := h.g; omega⟩
theorem hear5_pre (f : Fm) (h : Pre N x) : Pre N (hear5 f x) := by
  unfold hear5
  split
  · exact ⟨h.n2, h.t1, h.t1p, h.lft, h.tr, h.trf, h.k, h.hs, h.sT, h.tp, h.pk, h.few, h.g⟩
  · exact h
theorem hear_inv (f : Fm) (h : Inv N x) : Inv (N + 1) (hear f x).1 := by
  unfold hear
  split
  · exact h.more (Nat.le_succ N)
  rename_i hf
  have hfl : x.fl = false := by simpa using fun e => hf (Or.inl e)
  have hk : f.k = 7 ∨ f.k = 8 ∨ f.k = 9 ∨ f.k = 10 := by have := fun e => hf (Or.inr e); omega
  rw [ackd_far x h.ord]
  split
  · rename_i hs
    exact ⟨⟨h.n2, h.t1, h.t1p, Nat.zero_le _, h.tr, fun e => (by cases e), h.k, h.hs, h.sT, h.tp, h.pk, Nat.le_succ_of_le h.few, Nat.le_succ_of_le h.g⟩, fun e => (by cases e)⟩
  · rename_i n hs
    split at hs
    · cases hs
    · rename_i hl
      have hn := Option.some.inj hs
      have h1 := h.hs
      have h2 := h.sT
      have p := hears_pre f n h (by omega) (by omega)
      have e3 := (kinds_of f (hear1 n x) (n - x.a) hk).2.2
      dsimp only at e3 ⊢
      refine cnt_inv _ (hear5_pre f ?_) (e3.trans hfl)
      split
      · exact take_pre f _ p
      · exact p.more (Nat.le_succ N)
end
/-- A line's frames have octets for numbers. -/
def FB (L : List Gf) : Prop := ∀ f ∈ L, f.f.ns < 256 ∧ f.f.nr < 256
/-- All is right; at most N were pushed at either side; at most M wait on either line. -/
structure Pok (N M : Nat) (x : Pr) : Prop where
  g : Good x
  a : Inv N x.A
  b : Inv N x.B
  f0 : FB x.L0
  f1 : FB x.L1
  l0 : x.L0.length ≤ M
  l1 : x.L1.length ≤ M
section
variable {N M : Nat} {x : Pr}
theorem Pok.swp (h : Pok N M x) : Pok N M (swp x) := ⟨h.g.swp, h.b, h.a, h.f1, h.f0, h.l1, h.l0⟩
theorem Pok.more (h : Pok N M x) {N' M' : Nat} (h1 : N ≤ N') (h2 : M ≤ M') : Pok N' M' x := ⟨h.g, h.a.more h1, h.b.more h1, h.f0, h.f1, Nat.le_trans h.l0 h2, Nat.le_trans h.l1 h2⟩
theorem Pok.u0 (h : Pok N M x) : x.u0 ≤ N := by rw [h.g.u0]; exact h.a.few
theorem Pok.u1 (h : Pok N M x) : x.u1 ≤ N := by rw [h.g.u1]; exact h.b.few
theorem Pok.k0 (h : Pok N M x) : x.k0 ≤ N := by rw [h.g.k0]; exact h.b.g
theorem Pok.k1 (h : Pok N M x) : x.k1 ≤ N := by rw [h.g.k1]; exact h.a.g
theorem next_few (x : Sd) : (next x).2.1.ns < 256 ∧ (next x).2.1.nr < 256 := by
  unfold next
  split
  · exact ⟨Nat.zero_lt_succ 255, Nat.zero_lt_succ 255⟩
  split
  · exact ⟨Nat.zero_lt_succ 255, Nat.lt_of_lt_of_le (Nat.mod_lt _ (by decide)) (by decide)⟩
  split
  · exact ⟨Nat.zero_lt_succ 255, Nat.lt_of_lt_of_le (Nat.mod_lt _ (by decide)) (by decide)⟩
  split
  · exact ⟨Nat.lt_of_lt_of_le (Nat.mod_lt _ (by decide)) (by decide), Nat.lt_of_lt_of_le (Nat.mod_lt _ (by decide)) (by decide)⟩
  · exact ⟨Nat.zero_lt_succ 255, Nat.zero_lt_succ 255⟩
theorem sent_few {x : Sd} {L : List Gf} (h : FB L) : FB (sent x L) := by
  unfold sent
  split
  · intro f hf
    rcases List.mem_append.1 hf with hf | hf
    · exact h f hf
    · rw [List.mem_singleton.1 hf]; exact next_few x
  · exact h
theorem sent_len (x : Sd) (L : List Gf) : (sent x L).length ≤ L.length + 1 := by
  unfold sent
  split
  · rw [List.length_append, List.length_singleton]; exact Nat.le_refl _
  · omega
/-- One that is in order, with fewer. -/
theorem Inv.low {K : Nat} {y : Sd} (h : Inv K y) (h1 : y.p.length ≤ N) (h2 : y.g ≤ N) : Inv N y := ⟨⟨h.n2, h.t1, h.t1p, h.lft, h.tr, h.trf, h.k, h.hs, h.sT, h.tp, h.pk, h1, h2⟩, h.cn⟩
theorem Pok.push (h : Pok N M x) : Pok (N + 1) M (pPush x) := ⟨h.g.push, push_inv _ h.a, h.b.more (Nat.le_succ N), h.f0, h.f1, h.l0, h.l1⟩
theorem Pok.send (h : Pok N M x) : Pok N (M + 1) (pSend x) :=
  ⟨h.g.send, next_inv h.a, h.b, sent_few h.f0, h.f1, Nat.le_trans (sent_len _ _) (Nat.succ_le_succ h.l0), Nat.le_succ_of_le h.l1⟩
theorem pHand_cons {f : Gf} {r : List Gf} (hL : x.L0 = f :: r) : pHand x = ⟨x.A, (hear f.f x.B).1, r, x.L1, x.u0, x.u1, (if (hear f.f x.B).2.taken = true then x.k0 + 1 else x.k0), x.k1, x.bad || (hear f.f x.B).2.failed || ((hear f.f x.B).2.taken && !decide ((hear f.f x.B).2.i = inf x.k0))⟩ := by
  unfold pHand; rw [hL]
theorem pHand_nil (hL : x.L0 = []) : pHand x = x := by unfold pHand; rw [hL]
theorem pHand_L0 (x : Pr) : (pHand x).L0 = x.L0.drop 1 := by
  rcases hL : x.L0 with _ | ⟨f, r⟩
  · rw [pHand_nil hL, hL]; rfl
  · rw [pHand_cons hL]; rfl
theorem pHand_L1 (x : Pr) : (pHand x).L1 = x.L1 := by
  rcases hL : x.L0 with _ | ⟨f, r⟩
  · rw [pHand_nil hL]
  · rw [pHand_cons hL]
theorem pHand_A (x : Pr) : (pHand x).A = x.A := by
  rcases hL : x.L0 with _ | ⟨f, r⟩
  · rw [pHand_nil hL]
  · rw [pHand_cons hL]
theorem Pok.hand (h : Pok N M x) : Pok N M (pHand x) := by
  have hg := h.g.hand
  have hb : Inv N (pHand x).B := by
    have h1 := hg.d0.gT
    have h2 := hg.d0.tp
    rw [pHand_A] at h1 h2
    have h3 := h.a.few
    have h4 : (pHand x).B.p.length ≤ N := by
      have := h.b.few
      rcases hL : x.L0 with _ | ⟨f, r⟩
      · rw [pHand_nil hL]; exact this
      · rw [pHand_cons hL]; dsimp only; rw [hear_p]; exact this
    have h5 : Inv (N + 1) (pHand x).B := by
      rcases hL : x.L0 with _ | ⟨f, r⟩
      · rw [pHand_nil hL]; exact h.b.more (Nat.le_succ N)
      · rw [pHand_cons hL]; exact hear_inv f.f h.b
    exact h5.low h4 (by omega)
  refine ⟨hg, by rw [pHand_A]; exact h.a, hb, ?_, by rw [pHand_L1]; exact h.f1, ?_, by rw [pHand_L1]; exact h.l1⟩
  · rw [pHand_L0]; exact fun f hf => h.f0 f (List.mem_of_mem_drop hf)
  · rw [pHand_L0, List.length_drop]; exact Nat.le_trans (Nat.sub_le _ _) h.l0
theorem Pok.lose (h : Pok N M x) : Pok N M (pLose x) :=
  ⟨h.g.lose, h.a, h.b, fun f hf => h.f0 f (List.mem_of_mem_drop hf), h.f1, by
    show (x.L0.drop 1).length ≤ M
    rw [List.length_drop]; exact Nat.le_trans (Nat.sub_le _ _) h.l0, h.l1⟩
theorem Pok.tick (h : Pok N M x) : Pok N M (pTick x) := ⟨h.g.tick, tick_inv h.a, tick_inv h.b, h.f0, h.f1, h.l0, h.l1⟩
theorem Pok.busy (h : Pok N M x) (b : Bool) : Pok N M (pBusy b x) := ⟨h.g.busy b, setBusy_inv b h.a, h.b, h.f0, h.f1, h.l0, h.l1⟩
/-- A side sends, the other one hears. -/
theorem Pok.half (h : Pok N M x) : Pok N M (pHand (pSend x)) := by
  have h1 := h.send.hand
  refine ⟨h1.g, h1.a, h1.b, h1.f0, h1.f1, ?_, ?_⟩
  · rw [pHand_L0, List.length_drop]
    have := h.send.l0
    omega
  · rw [pHand_L1]; exact h.l1
theorem Pok.op (h : Pok N M x) (d : Nat) (on : Bool) : Pok (N + 1) (M + 1) (pOp d on x) := by
  have n1 := Nat.le_succ N
  have m1 := Nat.le_succ M
  unfold pOp
  split
  · exact h.push.more (Nat.le_refl _) m1
  split
  · exact h.send.more n1 (Nat.le_refl _)
  split
  · exact h.hand.more n1 m1
  split
  · exact h.lose.more n1 m1
  split
  · exact h.tick.more n1 m1
  · exact (h.busy on).more n1 m1
theorem Pok.step (h : Pok N M x) (s : Sp) : Pok (N + 1) (M + 1) (pStep s x) := by
  unfold pStep
  split
  · exact (h.swp.op s.d s.on).swp
  · exact h.op s.d s.on
theorem Pok.both (h : Pok N M x) : Pok N M (pBoth x).1 := by
  have h1 : Pok N M (pHalf x).1 := h.half
  exact (h1.swp.half : Pok N M (pHalf (Aq.swp (pHalf x).1)).1).swp
theorem Pok.settle : ∀ (n : Nat) {x : Pr}, Pok N M x → Pok N M (settle n x).1
  | 0, _, h => h
  | n + 1, x, h => by
    unfold Aq.settle
    split
    · exact Pok.settle n h.both
    · exact h.both
theorem Pok.idle (h : Pok N M x) : Pok N M (idle x) := (((h.busy false).swp).busy false).swp
theorem newP_pok (k n2 t1 : Nat) (hk : k ≤ 7) (h2 : n2 ≤ 255) (h3 : t1 ≤ 255) (h4 : 1 ≤ t1) : Pok 0 0 (newP k n2 t1) :=
  ⟨newP_good k n2 t1 hk, new_inv k n2 t1 hk h2 h3 h4, new_inv k n2 t1 hk h2 h3 h4, (fun f hf => by cases hf), (fun f hf => by cases hf), Nat.le_refl _, Nat.le_refl _⟩
/-- What the other side makes of a line's first frame. -/
theorem heard_of (hg : Good x) {f : Gf} {r : List Gf} (hL : x.L0 = f :: r) : (hear f.f x.B).2.failed = false ∧ ((hear f.f x.B).2.taken = true → (hear f.f x.B).2.i = inf x.k0) := by
  have h0 := hg.d0
  have h1 := hg.d1
  rw [hL] at h0 h1
  obtain ⟨_, _, e3, e4⟩ := heard_pair h0 h1
  refine ⟨e3, fun ht => ?_⟩
  rcases e4 with ⟨g1, _⟩ | ⟨_, _, g3⟩
  · rw [g1] at ht; cases ht
  · have hlt := (List.getElem?_eq_some_iff.1 g3).1
    have := hg.p0 _ hlt
    rw [g3, ← hg.k0] at this
    exact Option.some.inj this
end
end Go.Proofs.Ytkoaplmlabagnaa.Aq

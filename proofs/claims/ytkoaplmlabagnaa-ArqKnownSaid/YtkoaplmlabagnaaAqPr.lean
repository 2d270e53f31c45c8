/-
  Two sides and their lines in memory, as layer 15's law keeps them: what a call of a side, a line's change and a number's change leave. No condition but that they lie where they say.
-/
import Derived.Test.YtkoaplmlabagnaaAqPair
import Derived.Test.YtkoaplmlabagnaaAqOne
import Derived.Test.YtkoaplmlabagnaaAqInv
namespace Go.Proofs.Ytkoaplmlabagnaa.Aq
open Go.RowKit Go.Proofs.Ytkoaplmlabagnaa.Base Go.Proofs.Ytkoaplmlabagnaa.Mem
/-- A frame's cells. -/
def fcF (f : Fm) : List Value := [.int .u8 0, .bool f.c, .int .u8 (f.k : Int), .bool f.pf, .int .u8 (f.ns : Int), .int .u8 (f.nr : Int), .string f.i]
theorem eltF : Elt 25 88 7 fcF :=
  ⟨Try.underlying88, ⟨.agg #[.int .u8 0, .bool false, .int .u8 0, .bool false, .int .u8 0, .int .u8 0, .string ⟨#[]⟩], 24, by kernel_rfl, rfl, by decide⟩, fun _ => rfl, fun x u hu => by
    simp only [fcF, List.mem_cons, List.not_mem_nil, or_false] at hu
    rcases hu with rfl | rfl | rfl | rfl | rfl | rfl | rfl <;> rfl, by decide⟩
/-- The blocks of a pair: its own, the sides' pointers, the lines, what was pushed, what was taken, the sides. -/
structure Bk where
  tb : Nat
  ba : Nat
  bl : Nat
  bu : Nat
  bk : Nat
  p0 : Nat
  p1 : Nat
abbrev two (b : Nat) : Value := .slice (some ⟨b, 0, none⟩) 2 2
structure PrAt (w0 : World) (b : Bk) (x : Pr) (q0 q1 v0 v1 : Value) (tag : Nat → Nat) (w : World) : Prop where
  blk : w.heap[b.tb]? = some (.cells #[two b.ba, two b.bl, two b.bu, two b.bk, .bool x.bad] 46 (0, 0))
  a : w.heap[b.ba]? = some (.cells #[ptr b.p0, ptr b.p1] 28 (0, 0))
  l : w.heap[b.bl]? = some (.cells #[v0, v1] 88 (0, 0))
  u : w.heap[b.bu]? = some (.cells #[nm x.u0, nm x.u1] 3 (0, 0))
  k : w.heap[b.bk]? = some (.cells #[nm x.k0, nm x.k1] 3 (0, 0))
  s0 : PAt w b.p0 (Ps.of x.A) q0
  s1 : PAt w b.p1 (Ps.of x.B) q1
  l0 : Qz 7 fcF w w0.heap.size v0 (x.L0.map Gf.f)
  l1 : Qz 7 fcF w w0.heap.size v1 (x.L1.map Gf.f)
  t0 : tag b.tb = 0
  ta : tag b.ba = 1
  tl : tag b.bl = 2
  tu : tag b.bu = 3
  tk : tag b.bk = 4
  t5 : tag b.p0 = 5
  t6 : tag b.p1 = 6
  o0 : ∀ g, q0.ownBlock = some g → tag g = 5
  o1 : ∀ g, q1.ownBlock = some g → tag g = 6
  o7 : ∀ g, v0.ownBlock = some g → tag g = 7
  o8 : ∀ g, v1.ownBlock = some g → tag g = 8
  lo : w0.heap.size ≤ b.tb ∧ w0.heap.size ≤ b.ba ∧ w0.heap.size ≤ b.bl ∧ w0.heap.size ≤ b.bu ∧ w0.heap.size ≤ b.bk ∧ w0.heap.size ≤ b.p0 ∧ w0.heap.size ≤ b.p1
  below : Below w0.heap.size w0 w
/-- What is new since w has this tag, all else the one that it had. -/
def retag (w : World) (tag : Nat → Nat) (i : Nat) : Nat → Nat := fun k => if k < w.heap.size then tag k else i
theorem retag_old {w : World} {tag : Nat → Nat} {i k : Nat} (h : k < w.heap.size) : retag w tag i k = tag k := if_pos h
theorem retag_new {w : World} {tag : Nat → Nat} {i k : Nat} (h : w.heap.size ≤ k) : retag w tag i k = i := if_neg (by omega)
section
variable {w0 w w' : World} {b : Bk} {x y : Pr} {q0 q1 v0 v1 : Value} {tag : Nat → Nat}
theorem PrAt.on (h : PrAt w0 b x q0 q1 v0 v1 tag w) (hb : Below w.heap.size w w') : PrAt w0 b x q0 q1 v0 v1 tag w' :=
  ⟨stays h.blk hb, stays h.a hb, stays h.l hb, stays h.u hb, stays h.k hb, h.s0.below hb, h.s1.below hb, h.l0.below hb, h.l1.below hb, h.t0, h.ta, h.tl, h.tu, h.tk, h.t5, h.t6, h.o0, h.o1, h.o7, h.o8, h.lo, below_on h.below hb⟩
/-- Only blocks of one tag may have changed: what bears another one is as it was. -/
theorem stay_tag {S : Nat → Prop} {i n : Nat} {o : Obj} (hc : Chg S w w') (hS : ∀ k, S k → tag k = i) (hn : w.heap[n]? = some o) (ht : tag n ≠ i) : w'.heap[n]? = some o := hc.stays hn fun e => ht (hS n e)
theorem qz_tag {α : Type} {z : Nat} {fc : α → List Value} {base : Nat} {v : Value} {l : List α} {S : Nat → Prop} {i j : Nat} (hc : Chg S w w') (hS : ∀ k, S k → tag k = i) (h : Qz z fc w base v l) (ht : ∀ g, v.ownBlock = some g → tag g = j) (hj : j ≠ i) : Qz z fc w' base v l :=
  h.eqv fun g hg => hc.block g (h.lt g hg).2 fun e => hj ((ht g hg).symm.trans (hS g e))
theorem pat_tag {pb : Nat} {y : Ps} {v : Value} {S : Nat → Prop} {i j : Nat} (hc : Chg S w w') (hS : ∀ k, S k → tag k = i) (h : PAt w pb y v) (hp : tag pb = j) (ht : ∀ g, v.ownBlock = some g → tag g = j) (hj : j ≠ i) : PAt w' pb y v :=
  ⟨stay_tag hc hS h.blk (by rw [hp]; exact hj), qz_tag hc hS h.q ht hj⟩
/-- A call of the first side. -/
theorem PrAt.doA (h : PrAt w0 b x q0 q1 v0 v1 tag w) {A : Sd} {q : Value} (hd : QDo b.p0 (Ps.of A) q0 q w w') : PrAt w0 b { x with A := A } q q1 v0 v1 (retag w tag 5) w' := by
  have hS : ∀ k, (k = b.p0 ∨ q0.ownBlock = some k) → tag k = 5 := fun k e => by
    rcases e with rfl | e
    · exact h.t5
    · exact h.o0 k e
  have hlow : ∀ k, (k = b.p0 ∨ q0.ownBlock = some k) → w0.heap.size ≤ k := fun k e => by
    have := h.lo
    rcases e with rfl | e
    · omega
    · have := (h.s0.q.lt k e).1; omega
  have c := hd.chg
  refine ⟨stay_tag c hS h.blk (by rw [h.t0]; decide), stay_tag c hS h.a (by rw [h.ta]; decide), stay_tag c hS h.l (by rw [h.tl]; decide), stay_tag c hS h.u (by rw [h.tu]; decide), stay_tag c hS h.k (by rw [h.tk]; decide), hd.at_, pat_tag c hS h.s1 h.t6 h.o1 (by decide), qz_tag c hS h.l0 h.o7 (by decide), qz_tag c hS h.l1 h.o8 (by decide), ?_, ?_, ?_, ?_, ?_, ?_, ?_, fun g hg => ?_, fun g hg => ?_, fun g hg => ?_, fun g hg => ?_, h.lo, c.below h.below h.below.size hlow⟩
  · rw [retag_old (lt_heap h.blk)]; exact h.t0
  · rw [retag_old (lt_heap h.a)]; exact h.ta
  · rw [retag_old (lt_heap h.l)]; exact h.tl
  · rw [retag_old (lt_heap h.u)]; exact h.tu
  · rw [retag_old (lt_heap h.k)]; exact h.tk
  · rw [retag_old h.s0.lt]; exact h.t5
  · rw [retag_old h.s1.lt]; exact h.t6
  · rcases hd.own with e | ⟨j, e, hj⟩
    · rw [e] at hg
      rw [retag_old (h.s0.q.lt g hg).2]; exact h.o0 g hg
    · rw [e] at hg
      obtain rfl : j = g := Option.some.inj hg
      exact retag_new hj
  · rw [retag_old (h.s1.q.lt g hg).2]; exact h.o1 g hg
  · rw [retag_old (h.l0.lt g hg).2]; exact h.o7 g hg
  · rw [retag_old (h.l1.lt g hg).2]; exact h.o8 g hg
/-- A call of the second side. -/
theorem PrAt.doB (h : PrAt w0 b x q0 q1 v0 v1 tag w) {B : Sd} {q : Value} (hd : QDo b.p1 (Ps.of B) q1 q w w') : PrAt w0 b { x with B := B } q0 q v0 v1 (retag w tag 6) w' := by
  have hS : ∀ k, (k = b.p1 ∨ q1.ownBlock = some k) → tag k = 6 := fun k e => by
    rcases e with rfl | e
    · exact h.t6
    · exact h.o1 k e
  have hlow : ∀ k, (k = b.p1 ∨ q1.ownBlock = some k) → w0.heap.size ≤ k := fun k e => by
    have := h.lo
    rcases e with rfl | e
    · omega
    · have := (h.s1.q.lt k e).1; omega
  have c := hd.chg
  refine ⟨stay_tag c hS h.blk (by rw [h.t0]; decide), stay_tag c hS h.a (by rw [h.ta]; decide), stay_tag c hS h.l (by rw [h.tl]; decide), stay_tag c hS h.u (by rw [h.tu]; decide), stay_tag c hS h.k (by rw [h.tk]; decide), pat_tag c hS h.s0 h.t5 h.o0 (by decide), hd.at_, qz_tag c hS h.l0 h.o7 (by decide), qz_tag c hS h.l1 h.o8 (by decide), ?_, ?_, ?_, ?_, ?_, ?_, ?_, fun g hg => ?_, fun g hg => ?_, fun g hg => ?_, fun g hg => ?_, h.lo, c.below h.below h.below.size hlow⟩
  · rw [retag_old (lt_heap h.blk)]; exact h.t0
  · rw [retag_old (lt_heap h.a)]; exact h.ta
  · rw [retag_old (lt_heap h.l)]; exact h.tl
  · rw [retag_old (lt_heap h.u)]; exact h.tu
  · rw [retag_old (lt_heap h.k)]; exact h.tk
  · rw [retag_old h.s0.lt]; exact h.t5
  · rw [retag_old h.s1.lt]; exact h.t6
  · rw [retag_old (h.s0.q.lt g hg).2]; exact h.o0 g hg
  · rcases hd.own with e | ⟨j, e, hj⟩
    · rw [e] at hg
      rw [retag_old (h.s1.q.lt g hg).2]; exact h.o1 g hg
    · rw [e] at hg
      obtain rfl : j = g := Option.some.inj hg
      exact retag_new hj
  · rw [retag_old (h.l0.lt g hg).2]; exact h.o7 g hg
  · rw [retag_old (h.l1.lt g hg).2]; exact h.o8 g hg
/-- A cell of one of the pair's small blocks is written: all but that block is as it was. -/
theorem chg_cell (w : World) (n i : Nat) (v : Value) : Chg (fun k => k = n) w (w.setCell ⟨n, i, none⟩ v) := Chg.set (S := fun k => k = n) n i v rfl w
/-- How many were pushed. -/
theorem PrAt.put_u (h : PrAt w0 b x q0 q1 v0 v1 tag w) (u0 u1 : Nat) (hc : Chg (fun k => k = b.bu) w w') (hb : w'.heap[b.bu]? = some (.cells #[nm u0, nm u1] 3 (0, 0))) : PrAt w0 b { x with u0 := u0, u1 := u1 } q0 q1 v0 v1 tag w' := by
  have hS : ∀ k, k = b.bu → tag k = 3 := fun k e => by rw [e]; exact h.tu
  exact ⟨stay_tag hc hS h.blk (by rw [h.t0]; decide), stay_tag hc hS h.a (by rw [h.ta]; decide), stay_tag hc hS h.l (by rw [h.tl]; decide), hb, stay_tag hc hS h.k (by rw [h.tk]; decide), pat_tag hc hS h.s0 h.t5 h.o0 (by decide), pat_tag hc hS h.s1 h.t6 h.o1 (by decide), qz_tag hc hS h.l0 h.o7 (by decide), qz_tag hc hS h.l1 h.o8 (by decide), h.t0, h.ta, h.tl, h.tu, h.tk, h.t5, h.t6, h.o0, h.o1, h.o7, h.o8, h.lo, hc.below h.below h.below.size fun k e => by have := h.lo; omega⟩
/-- How many were taken. -/
theorem PrAt.put_k (h : PrAt w0 b x q0 q1 v0 v1 tag w) (k0 k1 : Nat) (hc : Chg (fun k => k = b.bk) w w') (hb : w'.heap[b.bk]? = some (.cells #[nm k0, nm k1] 3 (0, 0))) : PrAt w0 b { x with k0 := k0, k1 := k1 } q0 q1 v0 v1 tag w' := by
  have hS : ∀ k, k = b.bk → tag k = 4 := fun k e => by rw [e]; exact h.tk
  exact ⟨stay_tag hc hS h.blk (by rw [h.t0]; decide), stay_tag hc hS h.a (by rw [h.ta]; decide), stay_tag hc hS h.l (by rw [h.tl]; decide), stay_tag hc hS h.u (by rw [h.tu]; decide), hb, pat_tag hc hS h.s0 h.t5 h.o0 (by decide), pat_tag hc hS h.s1 h.t6 h.o1 (by decide), qz_tag hc hS h.l0 h.o7 (by decide), qz_tag hc hS h.l1 h.o8 (by decide), h.t0, h.ta, h.tl, h.tu, h.tk, h.t5, h.t6, h.o0, h.o1, h.o7, h.o8, h.lo, hc.below h.below h.below.size fun k e => by have := h.lo; omega⟩
/-- The first line is another slice then: made of the elder one, or new. -/
theorem PrAt.put0 (h : PrAt w0 b x q0 q1 v0 v1 tag w) {L : List Gf} {v : Value} (hg : w.grownBy w' v0.ownBlock) (hq : Qz 7 fcF w' w0.heap.size v (L.map Gf.f)) (ho : v.ownBlock = v0.ownBlock ∨ v.ownBlock = none ∨ ∃ k, v.ownBlock = some k ∧ w.heap.size ≤ k) :
    PrAt w0 b { x with L0 := L } q0 q1 v v1 (retag w tag 7) (w'.setCell ⟨b.bl, 0, none⟩ v) := by
  have hc1 : Chg (fun k => v0.ownBlock = some k) w w' := Chg.of_grown hg fun k e => e
  have hS1 : ∀ k, v0.ownBlock = some k → tag k = 7 := h.o7
  have hl1 : w'.heap[b.bl]? = some (.cells #[v0, v1] 88 (0, 0)) := stay_tag hc1 hS1 h.l (by rw [h.tl]; decide)
  have hc : Chg (fun k => k = b.bl ∨ v0.ownBlock = some k) w (w'.setCell ⟨b.bl, 0, none⟩ v) := (hc1.mono fun _ e => Or.inr e).setCell b.bl 0 v fun _ => Or.inl rfl
  have ne : ∀ {n j : Nat}, tag n = j → j ≠ 2 → j ≠ 7 → ¬ (n = b.bl ∨ v0.ownBlock = some n) := fun {n j} h1 h2 h3 e => by
    rcases e with rfl | e
    · exact h2 (h1.symm.trans h.tl)
    · exact h3 (h1.symm.trans (h.o7 _ e))
  have pat : ∀ {pb : Nat} {y : Ps} {u : Value} {j : Nat}, PAt w pb y u → tag pb = j → (∀ g, u.ownBlock = some g → tag g = j) → j ≠ 2 → j ≠ 7 → PAt (w'.setCell ⟨b.bl, 0, none⟩ v) pb y u := fun {pb y u j} h1 h2 h3 h4 h5 => ⟨hc.stays h1.blk (ne h2 h4 h5), h1.q.eqv fun g hg => hc.block g (h1.q.lt g hg).2 (ne (h3 g hg) h4 h5)⟩
  have hqb : ∀ g, v.ownBlock = some g → g ≠ b.bl := fun g hg' e => by
    subst e
    rcases ho with e | e | ⟨k, e, hk⟩
    · rw [e] at hg'; have := (h.o7 _ hg').symm.trans h.tl; omega
    · rw [e] at hg'; cases hg'
    · rw [e] at hg'
      have : k = b.bl := Option.some.inj hg'
      have := lt_heap h.l
      omega
  refine ⟨hc.stays h.blk (ne h.t0 (by decide) (by decide)), hc.stays h.a (ne h.ta (by decide) (by decide)), block_set (i := 0) hl1 v, hc.stays h.u (ne h.tu (by decide) (by decide)), hc.stays h.k (ne h.tk (by decide) (by decide)), pat h.s0 h.t5 h.o0 (by decide) (by decide), pat h.s1 h.t6 h.o1 (by decide) (by decide), hq.eqv fun g hg' => Below.heap_setCell w' _ _ _ (hqb g hg'), h.l1.eqv fun g hg' => hc.block g (h.l1.lt g hg').2 (ne (h.o8 g hg') (by decide) (by decide)), ?_, ?_, ?_, ?_, ?_, ?_, ?_, fun g hg' => ?_, fun g hg' => ?_, fun g hg' => ?_, fun g hg' => ?_, h.lo, hc.below h.below h.below.size fun k e => ?_⟩
  · rw [retag_old (lt_heap h.blk)]; exact h.t0
  · rw [retag_old (lt_heap h.a)]; exact h.ta
  · rw [retag_old (lt_heap h.l)]; exact h.tl
  · rw [retag_old (lt_heap h.u)]; exact h.tu
  · rw [retag_old (lt_heap h.k)]; exact h.tk
  · rw [retag_old h.s0.lt]; exact h.t5
  · rw [retag_old h.s1.lt]; exact h.t6
  · rw [retag_old (h.s0.q.lt g hg').2]; exact h.o0 g hg'
  · rw [retag_old (h.s1.q.lt g hg').2]; exact h.o1 g hg'
  · rcases ho with e | e | ⟨k, e, hk⟩
    · rw [e] at hg'; rw [retag_old (h.l0.lt g hg').2]; exact h.o7 g hg'
    · rw [e] at hg'; cases hg'
    · rw [e] at hg'
      obtain rfl : k = g := Option.some.inj hg'
      exact retag_new hk
  · rw [retag_old (h.l1.lt g hg').2]; exact h.o8 g hg'
  · rcases e with rfl | e
    · have := h.lo; omega
    · exact (h.l0.lt k e).1
/-- The second line likewise. -/
theorem PrAt.put1 (h : PrAt w0 b x q0 q1 v0 v1 tag w) {L : List Gf} {v : Value} (hg : w.grownBy w' v1.ownBlock) (hq : Qz 7 fcF w' w0.heap.size v (L.map Gf.f)) (ho : v.ownBlock = v1.ownBlock ∨ v.ownBlock = none ∨ ∃ k, v.ownBlock = some k ∧ w.heap.size ≤ k) :
    PrAt w0 b { x with L1 := L } q0 q1 v0 v (retag w tag 8) (w'.setCell ⟨b.bl, 1, none⟩ v) := by
  have hc1 : Chg (fun k => v1.ownBlock = some k) w w' := Chg.of_grown hg fun k e => e
  have hS1 : ∀ k, v1.ownBlock = some k → tag k = 8 := h.o8
  have hl1 : w'.heap[b.bl]? = some (.cells #[v0, v1] 88 (0, 0)) := stay_tag hc1 hS1 h.l (by rw [h.tl]; decide)
  have hc : Chg (fun k => k = b.bl ∨ v1.ownBlock = some k) w (w'.setCell ⟨b.bl, 1, none⟩ v) := (hc1.mono fun _ e => Or.inr e).setCell b.bl 1 v fun _ => Or.inl rfl
  have ne : ∀ {n j : Nat}, tag n = j → j ≠ 2 → j ≠ 8 → ¬ (n = b.bl ∨ v1.ownBlock = some n) := fun {n j} h1 h2 h3 e => by
    rcases e with rfl | e
    · exact h2 (h1.symm.trans h.tl)
    · exact h3 (h1.symm.trans (h.o8 _ e))
  have pat : ∀ {pb : Nat} {y : Ps} {u : Value} {j : Nat}, PAt w pb y u → tag pb = j → (∀ g, u.ownBlock = some g → tag g = j) → j ≠ 2 → j ≠ 8 → PAt (w'.setCell ⟨b.bl, 1, none⟩ v) pb y u := fun {pb y u j} h1 h2 h3 h4 h5 => ⟨hc.stays h1.blk (ne h2 h4 h5), h1.q.eqv fun g hg => hc.block g (h1.q.lt g hg).2 (ne (h3 g hg) h4 h5)⟩
  have hqb : ∀ g, v.ownBlock = some g → g ≠ b.bl := fun g hg' e => by
    subst e
    rcases ho with e | e | ⟨k, e, hk⟩
    · rw [e] at hg'; have := (h.o8 _ hg').symm.trans h.tl; omega
    · rw [e] at hg'; cases hg'
    · rw [e] at hg'
      have : k = b.bl := Option.some.inj hg'
      have := lt_heap h.l
      omega
  refine ⟨hc.stays h.blk (ne h.t0 (by decide) (by decide)), hc.stays h.a (ne h.ta (by decide) (by decide)), block_set (i := 1) hl1 v, hc.stays h.u (ne h.tu (by decide) (by decide)), hc.stays h.k (ne h.tk (by decide) (by decide)), pat h.s0 h.t5 h.o0 (by decide) (by decide), pat h.s1 h.t6 h.o1 (by decide) (by decide), h.l0.eqv fun g hg' => hc.block g (h.l0.lt g hg').2 (ne (h.o7 g hg') (by decide) (by decide)), hq.eqv fun g hg' => Below.heap_setCell w' _ _ _ (hqb g hg'), ?_, ?_, ?_, ?_, ?_, ?_, ?_, fun g hg' => ?_, fun g hg' => ?_, fun g hg' => ?_, fun g hg' => ?_, h.lo, hc.below h.below h.below.size fun k e => ?_⟩
  · rw [retag_old (lt_heap h.blk)]; exact h.t0
  · rw [retag_old (lt_heap h.a)]; exact h.ta
  · rw [retag_old (lt_heap h.l)]; exact h.tl
  · rw [retag_old (lt_heap h.u)]; exact h.tu
  · rw [retag_old (lt_heap h.k)]; exact h.tk
  · rw [retag_old h.s0.lt]; exact h.t5
  · rw [retag_old h.s1.lt]; exact h.t6
  · rw [retag_old (h.s0.q.lt g hg').2]; exact h.o0 g hg'
  · rw [retag_old (h.s1.q.lt g hg').2]; exact h.o1 g hg'
  · rw [retag_old (h.l0.lt g hg').2]; exact h.o7 g hg'
  · rcases ho with e | e | ⟨k, e, hk⟩
    · rw [e] at hg'; rw [retag_old (h.l1.lt g hg').2]; exact h.o8 g hg'
    · rw [e] at hg'; cases hg'
    · rw [e] at hg'
      obtain rfl : k = g := Option.some.inj hg'
      exact retag_new hk
  · rcases e with rfl | e
    · have := h.lo; omega
    · exact (h.l1.lt k e).1
end
end Go.Proofs.Ytkoaplmlabagnaa.Aq

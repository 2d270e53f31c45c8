/-
  Two sides of the program's, and all that CtlMeets keeps beside them. No condition.
-/
import Derived.Test.YtakkhdammmcjcaaDoorCtlAskedB
namespace Go.Proofs.YtakkhdammmcjcaaDoor.Ctl
open Go.RowKit Go.Proofs.YtakkhdammmcjcaaDoor.Base Go.Proofs.YtakkhdammmcjcaaDoor.Mem Go.Proofs.YtakkhdammmcjcaaDoor.Msgs Go.Proofs.YtakkhdammmcjcaaDoor.Cr
set_option maxRecDepth 100000
/-- Two sides that share nothing, in memory that was made since. -/
structure Tw (w : World) (c0 c1 : Nat) (p0 p1 : Pn.Pr) (x0 x1 : Ct) (u : World) : Prop where
  e : ∃ va0 vc0 va1 vc1, P u c0 w.heap.size p0.n p0.k 9 1 va0 vc0 x0 ∧ P u c1 w.heap.size p1.n p1.k 9 1 va1 vc1 x1 ∧ ∀ k, PS c0 va0 vc0 k → ¬ PS c1 va1 vc1 k
  below : Below w.heap.size w u
section
variable {w u u' : World} {c0 c1 : Nat} {p0 p1 : Pn.Pr} {x0 x1 y : Ct}
theorem Tw.swap (h : Tw w c0 c1 p0 p1 x0 x1 u) : Tw w c1 c0 p1 p0 x1 x0 u := by
  obtain ⟨va0, vc0, va1, vc1, h0, h1, hd⟩ := h.e
  exact ⟨⟨va1, vc1, va0, vc0, h1, h0, fun k h k' => hd k k' h⟩, h.below⟩
theorem Tw.on (h : Tw w c0 c1 p0 p1 x0 x1 u) (hb : Below u.heap.size u u') : Tw w c0 c1 p0 p1 x0 x1 u' := by
  obtain ⟨va0, vc0, va1, vc1, h0, h1, hd⟩ := h.e
  exact ⟨⟨va0, vc0, va1, vc1, h0.below hb, h1.below hb, hd⟩, below_on h.below hb⟩
theorem Tw.ok0 (h : Tw w c0 c1 p0 p1 x0 x1 u) : x0.Ok := by
  obtain ⟨va0, vc0, va1, vc1, h0, h1, hd⟩ := h.e
  exact h0.ok
theorem Tw.ok1 (h : Tw w c0 c1 p0 p1 x0 x1 u) : x1.Ok := h.swap.ok0
theorem Tw.tab (h : Tw w c0 c1 p0 p1 x0 x1 u) : Tab u := by
  obtain ⟨va0, vc0, va1, vc1, h0, h1, hd⟩ := h.e
  exact h0.tab
/-- One side did something. -/
theorem Tw.do0 {va0 vc0 va1 vc1 : Value} (h0 : P u c0 w.heap.size p0.n p0.k 9 1 va0 vc0 x0) (h1 : P u c1 w.heap.size p1.n p1.k 9 1 va1 vc1 x1) (hd : ∀ k, PS c0 va0 vc0 k → ¬ PS c1 va1 vc1 k) (hb : Below w.heap.size w u) (hx : Px u c0 w.heap.size p0.n p0.k 9 1 va0 vc0 y u') : Tw w c0 c1 p0 p1 y x1 u' ∧ Keep u u' := by
  have hk := Px.keep h0 hx
  have hbb := Px.below_ h0 hx hb
  obtain ⟨⟨va', vc', h', hs⟩, hc⟩ := hx
  refine ⟨⟨⟨va', vc', va1, vc1, h', h1.chg hc (fun k hk q => hd k q hk) (fun q => by have := (h0.own_lt TB q).1; have := h0.tb; omega), fun k hk q => ?_⟩, hbb⟩, hk⟩
  rcases hs k hk with e | e
  · exact hd k e q
  · have := (h1.own_lt k q).2; omega
theorem Tw.ask0 (h : Tw w c0 c1 p0 p1 x0 x1 u) (m : Ms) (hm : m.In) (hmb : m.b.size ≤ 281474976710656) : Calls Tryd.prog 8 #[ptr c0, mv m] u fun e u' => e = .returned (nm (askE m)) ∧ Tw w c0 c1 p0 p1 (x0.ask m) x1 u' ∧ Keep u u' := by
  obtain ⟨va0, vc0, va1, vc1, h0, h1, hd⟩ := h.e
  exact (fask h0 m hm hmb).mono fun _ _ ⟨e, hx⟩ => ⟨e, Tw.do0 h0 h1 hd h.below hx⟩
theorem Tw.ask1 (h : Tw w c0 c1 p0 p1 x0 x1 u) (m : Ms) (hm : m.In) (hmb : m.b.size ≤ 281474976710656) : Calls Tryd.prog 8 #[ptr c1, mv m] u fun e u' => e = .returned (nm (askE m)) ∧ Tw w c0 c1 p0 p1 x0 (x1.ask m) u' ∧ Keep u u' :=
  (h.swap.ask0 m hm hmb).mono fun _ _ ⟨e, h1, h2⟩ => ⟨e, h1.swap, h2⟩
theorem Tw.next0 (h : Tw w c0 c1 p0 p1 x0 x1 u) : Calls Tryd.prog 10 #[ptr c0] u fun e u' => e = .returned (nv x0.next.1) ∧ Tw w c0 c1 p0 p1 x0.next.2 x1 u' ∧ Keep u u' := by
  obtain ⟨va0, vc0, va1, vc1, h0, h1, hd⟩ := h.e
  exact (fnext h0).mono fun _ _ ⟨e, hx⟩ => ⟨e, Tw.do0 h0 h1 hd h.below hx⟩
theorem Tw.next1 (h : Tw w c0 c1 p0 p1 x0 x1 u) : Calls Tryd.prog 10 #[ptr c1] u fun e u' => e = .returned (nv x1.next.1) ∧ Tw w c0 c1 p0 p1 x0 x1.next.2 u' ∧ Keep u u' :=
  h.swap.next0.mono fun _ _ ⟨e, h1, h2⟩ => ⟨e, h1.swap, h2⟩
theorem Tw.hear0 (h : Tw w c0 c1 p0 p1 x0 x1 u) (m : Ms) (hm : m.Ok) : Calls Tryd.prog 11 #[ptr c0, .string (putS m)] u fun e u' => ∃ v, e = .returned v ∧ OwnS GT 21 fl u' u.heap.size v (x0.hear1 m).2 ∧ Tw w c0 c1 p0 p1 (x0.hear1 m).1 x1 u' ∧ Keep u u' := by
  obtain ⟨va0, vc0, va1, vc1, h0, h1, hd⟩ := h.e
  have e1 := hear_one (x := x0) hm
  have hsz : (putS m).size ≤ 5000 := by
    have := putS_size (m := m) (bytes_of hm.may hm.few).1
    have := hm.few
    omega
  have := fhear h0 (putS m) hsz
  rw [e1] at this
  exact this.mono fun _ _ ⟨v, e, ho, hx⟩ => ⟨v, e, ho, Tw.do0 h0 h1 hd h.below hx⟩
theorem Tw.hear1 (h : Tw w c0 c1 p0 p1 x0 x1 u) (m : Ms) (hm : m.Ok) : Calls Tryd.prog 11 #[ptr c1, .string (putS m)] u fun e u' => ∃ v, e = .returned v ∧ OwnS GT 21 fl u' u.heap.size v (x1.hear1 m).2 ∧ Tw w c0 c1 p0 p1 x0 (x1.hear1 m).1 u' ∧ Keep u u' :=
  (h.swap.hear0 m hm).mono fun _ _ ⟨v, e, ho, h1, h2⟩ => ⟨v, e, ho, h1.swap, h2⟩
theorem Tw.waits0 (h : Tw w c0 c1 p0 p1 x0 x1 u) : Calls Tryd.prog 12 #[ptr c0] u fun e u' => e = .returned (.tuple #[nm x0.an.length, nm x0.cs.length]) ∧ Below u.heap.size u u' := by
  obtain ⟨va0, vc0, va1, vc1, h0, h1, hd⟩ := h.e
  exact fwaits h0
theorem Tw.waits1 (h : Tw w c0 c1 p0 p1 x0 x1 u) : Calls Tryd.prog 12 #[ptr c1] u fun e u' => e = .returned (.tuple #[nm x1.an.length, nm x1.cs.length]) ∧ Below u.heap.size u u' := h.swap.waits0
end
/-- A row of facts, one or none, is appended to a row of facts. -/
theorem appG (w : World) (ty base b2 : Nat) (v u : Value) (L l2 : List Fa) (hq : OwnS GT 21 fl w base v L) (hu : OwnS GT 21 fl w b2 u l2) (h1 : l2.length ≤ 1) (hl : L.length + 1 ≤ 1000000) (hb : base ≤ w.heap.size) :
    ∃ v' w', (Builtin.append_ #[29, 29] ty #[v, u]).run Tryd.prog w = .ok v' w' ∧ OwnS GT 21 fl w' base v' (L ++ l2) ∧ w.grownBy w' v.ownBlock ∧ (v'.ownBlock = v.ownBlock ∨ v'.ownBlock = some w.heap.size) := by
  cases l2 with
  | nil =>
    obtain ⟨zero, bytes, hinfo, _, _⟩ := eltG.info
    obtain ⟨i, hi, _, hz1, _⟩ := info_parts hinfo
    have hs : Src Tryd.prog i.size 29 u 0 [] w := by
      rcases hu.shape with ⟨e, _⟩ | ⟨g, cap, e, _⟩
      · rw [e]; exact Src.ofNil w eltG.under 0
      · rw [e]; exact Src.ofSlice w eltG.under ⟨g, 0, none⟩ 0 cap [] (by simp) (fun j u h => by simp at h) fun u h => by cases h
    obtain ⟨oa, cap, e, _⟩ := row_form hq
    have hle : L.length ≤ cap := by
      rcases hq.2 with ⟨h1, h2⟩ | ⟨g, cap', cur, h1, _, _, h4, _⟩
      · omega
      · rw [e] at h1
        injection h1 with _ _ h1
        omega
    subst e
    exact ⟨_, w, run_append_nothing w _ _ ty GT i eltG.under hi oa L.length cap hle u hs, by rw [List.append_nil]; exact hq, World.grownBy.refl w _, .inl rfl⟩
  | cons f r =>
    obtain rfl : r = [] := List.eq_nil_of_length_eq_zero (by rw [List.length_cons] at h1; omega)
    obtain ⟨g, cap, rfl⟩ := own_one hu
    have hrow : ∀ j, j < 21 → w.cell? ⟨g, j, none⟩ = (fl f)[j]? := fun j hj => by
      have := OwnS.cell fl_len hu 0 f rfl j hj
      rwa [Nat.mul_zero, Nat.zero_add] at this
    obtain ⟨v', w', hr, ho, hg, hv⟩ := run_append_elt eltG w ty base v L hq g cap f hrow hl hb
    exact ⟨v', w', hr, ho, hg, hv⟩
section
variable {t : Tk} {i : Nat} {y0 y1 : Ct} {f0 f1 : List Fa} {a : Ms}
theorem go_none0 (h : t.go 0 i = ⟨y0, y1, f0, f1⟩) (hi : i % 2 = 0) (hn : y0.next.1 = none) : t.go 0 (i + 1) = ⟨y0.next.2, y1, f0, f1⟩ := by
  rw [go_one, h]; unfold Tk.step; rw [if_pos (by omega)]; unfold Tk.says; simp only [hn]
theorem go_some0 (h : t.go 0 i = ⟨y0, y1, f0, f1⟩) (hi : i % 2 = 0) (hn : y0.next.1 = some a) : t.go 0 (i + 1) = ⟨y0.next.2, (y1.hear1 a).1, f0, f1 ++ (y1.hear1 a).2⟩ := by
  rw [go_one, h]; unfold Tk.step; rw [if_pos (by omega)]; unfold Tk.says; simp only [hn]
theorem go_none1 (h : t.go 0 i = ⟨y0, y1, f0, f1⟩) (hi : ¬ i % 2 = 0) (hn : y1.next.1 = none) : t.go 0 (i + 1) = ⟨y0, y1.next.2, f0, f1⟩ := by
  rw [go_one, h]; unfold Tk.step; rw [if_neg (by omega)]; unfold Tk.says Tk.swap; simp only [hn]
theorem go_some1 (h : t.go 0 i = ⟨y0, y1, f0, f1⟩) (hi : ¬ i % 2 = 0) (hn : y1.next.1 = some a) : t.go 0 (i + 1) = ⟨(y0.hear1 a).1, y1.next.2, f0 ++ (y0.hear1 a).2, f1⟩ := by
  rw [go_one, h]; unfold Tk.step; rw [if_neg (by omega)]; unfold Tk.says Tk.swap; simp only [hn]
end
/-- All that CtlMeets keeps. -/
structure Me (w : World) (c0 c1 b4 b5 b9 b10 b11 : Nat) (p0 p1 : Pn.Pr) (ra rb v0 v1 : Value) (x0 x1 : Ct) (f0 f1 : List Fa) (u : World) : Prop where
  tw : Tw w c0 c1 p0 p1 x0 x1 u
  h9 : u.heap[b9]? = some (.cells #[ptr c0, ptr c1] 28 (0, 0))
  h10 : u.heap[b10]? = some (.cells #[v0, v1] 30 (0, 0))
  h11 : u.heap[b11]? = some (.cells #[ra, rb] 31 (0, 0))
  h4 : u.heap[b4]? = some (.cells (pcl p0) 23 (0, 0))
  h5 : u.heap[b5]? = some (.cells (pcl p1) 23 (0, 0))
  g0 : OwnS GT 21 fl u w.heap.size v0 f0
  g1 : OwnS GT 21 fl u w.heap.size v1 f1
  ne : ∀ k, v0.ownBlock = some k → v1.ownBlock ≠ some k
  l10 : w.heap.size ≤ b10
section
variable {w u u' : World} {c0 c1 b4 b5 b9 b10 b11 b : Nat} {p0 p1 : Pn.Pr} {ra rb v0 v1 v' : Value} {x0 x1 y0 y1 : Ct} {f0 f1 f' : List Fa}
theorem Me.on (h : Me w c0 c1 b4 b5 b9 b10 b11 p0 p1 ra rb v0 v1 x0 x1 f0 f1 u) (hb : Below u.heap.size u u') : Me w c0 c1 b4 b5 b9 b10 b11 p0 p1 ra rb v0 v1 x0 x1 f0 f1 u' :=
  ⟨h.tw.on hb, stays h.h9 hb, stays h.h10 hb, stays h.h11 hb, stays h.h4 hb, stays h.h5 hb, h.g0.below hb, h.g1.below hb, h.ne, h.l10⟩
theorem Me.kp (h : Me w c0 c1 b4 b5 b9 b10 b11 p0 p1 ra rb v0 v1 x0 x1 f0 f1 u) (ht : Tw w c0 c1 p0 p1 y0 y1 u') (hk : Keep u u') : Me w c0 c1 b4 b5 b9 b10 b11 p0 p1 ra rb v0 v1 y0 y1 f0 f1 u' :=
  ⟨ht, hk _ _ _ h.h9 (by decide) (by decide) (by decide), hk _ _ _ h.h10 (by decide) (by decide) (by decide), hk _ _ _ h.h11 (by decide) (by decide) (by decide), hk _ _ _ h.h4 (by decide) (by decide) (by decide), hk _ _ _ h.h5 (by decide) (by decide) (by decide), hk.facts h.g0, hk.facts h.g1, h.ne, h.l10⟩
theorem Tw.mod (h : Tw w c0 c1 p0 p1 x0 x1 u) (M : Mod b u u') {cs : Array Value} {T : TypeId} (hb : u.heap[b]? = some (.cells cs T (0, 0))) (h1 : T ≠ CT) (h2 : T ≠ AT) (h3 : T ≠ KT) (hl : w.heap.size ≤ b) : Tw w c0 c1 p0 p1 x0 x1 u' := by
  obtain ⟨va0, vc0, va1, vc1, p0, p1, hd⟩ := h.e
  have hn : ∀ {c va vc x} {a b' t n : Int}, P u c w.heap.size a b' t n va vc x → ¬ PS c va vc b := fun hp hs => by
    rcases hs with rfl | q | q
    · exact type_ne hp.hd hb (fun q => h1 q.symm) rfl
    · obtain ⟨cs', hc⟩ := row_blk hp.an q
      exact type_ne hc hb (fun q => h2 q.symm) rfl
    · obtain ⟨cs', hc⟩ := row_blk hp.cs q
      exact type_ne hc hb (fun q => h3 q.symm) rfl
  have ht : b ≠ TB := fun e => by have := p0.tb; omega
  exact ⟨⟨va0, vc0, va1, vc1, p0.mod M (hn p0) ht, p1.mod M (hn p1) ht, hd⟩, M.below h.below hl⟩
/-- A block of a message is written: none of these. -/
theorem Me.mod (h : Me w c0 c1 b4 b5 b9 b10 b11 p0 p1 ra rb v0 v1 x0 x1 f0 f1 u) (M : Mod b u u') {cs : Array Value} (hb : u.heap[b]? = some (.cells cs MT (0, 0))) (hl : w.heap.size ≤ b) : Me w c0 c1 b4 b5 b9 b10 b11 p0 p1 ra rb v0 v1 x0 x1 f0 f1 u' :=
  ⟨h.tw.mod M hb (by decide) (by decide) (by decide) hl, M.other (type_ne h.h9 hb (by decide)) h.h9, M.other (type_ne h.h10 hb (by decide)) h.h10, M.other (type_ne h.h11 hb (by decide)) h.h11, M.other (type_ne h.h4 hb (by decide)) h.h4, M.other (type_ne h.h5 hb (by decide)) h.h5,
   row_keep h.g0 fun k hk => M.rest k fun e => by
    obtain ⟨cs', hc⟩ := row_blk h.g0 hk
    exact type_ne hc hb (by decide) e,
   row_keep h.g1 fun k hk => M.rest k fun e => by
    obtain ⟨cs', hc⟩ := row_blk h.g1 hk
    exact type_ne hc hb (by decide) e, h.ne, h.l10⟩
theorem Me.le (h : Me w c0 c1 b4 b5 b9 b10 b11 p0 p1 ra rb v0 v1 x0 x1 f0 f1 u) (F : Fresh b u u') : w.heap.size ≤ b := by rw [F.eq]; exact h.tw.below.size
theorem Me.cells (h : Me w c0 c1 b4 b5 b9 b10 b11 p0 p1 ra rb v0 v1 x0 x1 f0 f1 u) :
    u.cell? ⟨b9, 0, none⟩ = some (ptr c0) ∧ u.cell? ⟨b9, 1, none⟩ = some (ptr c1) ∧ u.cell? ⟨b10, 0, none⟩ = some v0 ∧ u.cell? ⟨b10, 1, none⟩ = some v1 ∧ u.cell? ⟨b11, 0, none⟩ = some ra ∧ u.cell? ⟨b11, 1, none⟩ = some rb :=
  ⟨cell_of h.h9 rfl, cell_of h.h9 rfl, cell_of h.h10 rfl, cell_of h.h10 rfl, cell_of h.h11 rfl, cell_of h.h11 rfl⟩
/-- Facts were appended to a row that was just grown, and stored. -/
theorem Me.put1 (h : Me w c0 c1 b4 b5 b9 b10 b11 p0 p1 ra rb v0 v1 x0 x1 f0 f1 u) (ho : OwnS GT 21 fl u' w.heap.size v' f') (hg : u.grownBy u' v1.ownBlock) (hv : v'.ownBlock = v1.ownBlock ∨ v'.ownBlock = some u.heap.size) :
    Me w c0 c1 b4 b5 b9 b10 b11 p0 p1 ra rb v0 v' x0 x1 f0 f' (u'.setCell ⟨b10, 1, none⟩ v') ∧ u'.cell? ⟨b10, 1, none⟩ = some v1 ∧ u'.frozen? ⟨b10, 1, none⟩ = false ∧ b10 < u'.heap.size ∧ u'.heap[b9]? = some (.cells #[ptr c0, ptr c1] 28 (0, 0)) := by
  have hcg := Chg.of_grown (S := fun k => v1.ownBlock = some k) hg fun k hk => hk
  have st : ∀ {k : Nat} {cs : Array Value} {T : TypeId}, u.heap[k]? = some (.cells cs T (0, 0)) → T ≠ GT → u'.heap[k]? = some (.cells cs T (0, 0)) := fun hk hT => hcg.stays hk fun e => by
    obtain ⟨cs', hc⟩ := row_blk h.g1 e
    exact type_ne hk hc hT rfl
  have k10 := st h.h10 (by decide)
  have hmod := mod_setCell b10 1 u' v'
  have hbw : Below w.heap.size w u' := h.tw.below.grown hg h.tw.below.size fun k hk => (h.g1.lt k hk).1
  have htw : Tw w c0 c1 p0 p1 x0 x1 u' := by
    obtain ⟨va0, vc0, va1, vc1, q0, q1, hd⟩ := h.tw.e
    have hn : ∀ {c va vc x} {a b' t n : Int}, P u c w.heap.size a b' t n va vc x → ∀ k, PS c va vc k → ¬ v1.ownBlock = some k := fun hp k hs e => by
      obtain ⟨cs', hc⟩ := row_blk h.g1 e
      rcases hs with rfl | q | q
      · exact type_ne hp.hd hc (by decide) rfl
      · obtain ⟨cs2, hc2⟩ := row_blk hp.an q
        exact type_ne hc2 hc (by decide) rfl
      · obtain ⟨cs2, hc2⟩ := row_blk hp.cs q
        exact type_ne hc2 hc (by decide) rfl
    have ht : ¬ v1.ownBlock = some TB := fun e => by have := (h.g1.lt TB e).1; have := q0.tb; omega
    exact ⟨⟨va0, vc0, va1, vc1, q0.chg hcg (hn q0) ht, q1.chg hcg (hn q1) ht, hd⟩, hbw⟩
  have g0' : OwnS GT 21 fl u' w.heap.size v0 f0 := row_keep h.g0 fun k hk => hcg.block k (h.g0.lt k hk).2 (h.ne k hk)
  refine ⟨⟨htw.mod hmod k10 (by decide) (by decide) (by decide) h.l10, hmod.other (type_ne (st h.h9 (by decide)) k10 (by decide)) (st h.h9 (by decide)), block_set (i := 1) k10 v', hmod.other (type_ne (st h.h11 (by decide)) k10 (by decide)) (st h.h11 (by decide)), hmod.other (type_ne (st h.h4 (by decide)) k10 (by decide)) (st h.h4 (by decide)), hmod.other (type_ne (st h.h5 (by decide)) k10 (by decide)) (st h.h5 (by decide)),
    row_keep g0' fun k hk => hmod.rest k fun e => ?_, row_keep ho fun k hk => hmod.rest k fun e => ?_, fun k hk e => ?_, h.l10⟩, cell_of k10 rfl, free_of k10, lt_heap k10, st h.h9 (by decide)⟩
  · obtain ⟨cs', hc⟩ := row_blk g0' hk
    exact type_ne hc k10 (by decide) e
  · obtain ⟨cs', hc⟩ := row_blk ho hk
    exact type_ne hc k10 (by decide) e
  · rcases hv with q | q
    · exact h.ne k hk (q ▸ e)
    · rw [q] at e; cases e
      have := (h.g0.lt _ hk).2; omega
theorem Me.put0 (h : Me w c0 c1 b4 b5 b9 b10 b11 p0 p1 ra rb v0 v1 x0 x1 f0 f1 u) (ho : OwnS GT 21 fl u' w.heap.size v' f') (hg : u.grownBy u' v0.ownBlock) (hv : v'.ownBlock = v0.ownBlock ∨ v'.ownBlock = some u.heap.size) :
    Me w c0 c1 b4 b5 b9 b10 b11 p0 p1 ra rb v' v1 x0 x1 f' f1 (u'.setCell ⟨b10, 0, none⟩ v') ∧ u'.cell? ⟨b10, 0, none⟩ = some v0 ∧ u'.frozen? ⟨b10, 0, none⟩ = false ∧ b10 < u'.heap.size ∧ u'.heap[b9]? = some (.cells #[ptr c0, ptr c1] 28 (0, 0)) := by
  have hcg := Chg.of_grown (S := fun k => v0.ownBlock = some k) hg fun k hk => hk
  have st : ∀ {k : Nat} {cs : Array Value} {T : TypeId}, u.heap[k]? = some (.cells cs T (0, 0)) → T ≠ GT → u'.heap[k]? = some (.cells cs T (0, 0)) := fun hk hT => hcg.stays hk fun e => by
    obtain ⟨cs', hc⟩ := row_blk h.g0 e
    exact type_ne hk hc hT rfl
  have k10 := st h.h10 (by decide)
  have hmod := mod_setCell b10 0 u' v'
  have hbw : Below w.heap.size w u' := h.tw.below.grown hg h.tw.below.size fun k hk => (h.g0.lt k hk).1
  have htw : Tw w c0 c1 p0 p1 x0 x1 u' := by
    obtain ⟨va0, vc0, va1, vc1, q0, q1, hd⟩ := h.tw.e
    have hn : ∀ {c va vc x} {a b' t n : Int}, P u c w.heap.size a b' t n va vc x → ∀ k, PS c va vc k → ¬ v0.ownBlock = some k := fun hp k hs e => by
      obtain ⟨cs', hc⟩ := row_blk h.g0 e
      rcases hs with rfl | q | q
      · exact type_ne hp.hd hc (by decide) rfl
      · obtain ⟨cs2, hc2⟩ := row_blk hp.an q
        exact type_ne hc2 hc (by decide) rfl
      · obtain ⟨cs2, hc2⟩ := row_blk hp.cs q
        exact type_ne hc2 hc (by decide) rfl
    have ht : ¬ v0.ownBlock = some TB := fun e => by have := (h.g0.lt TB e).1; have := q0.tb; omega
    exact ⟨⟨va0, vc0, va1, vc1, q0.chg hcg (hn q0) ht, q1.chg hcg (hn q1) ht, hd⟩, hbw⟩
  have g1' : OwnS GT 21 fl u' w.heap.size v1 f1 := row_keep h.g1 fun k hk => hcg.block k (h.g1.lt k hk).2 fun e => h.ne k e hk
  refine ⟨⟨htw.mod hmod k10 (by decide) (by decide) (by decide) h.l10, hmod.other (type_ne (st h.h9 (by decide)) k10 (by decide)) (st h.h9 (by decide)), block_set (i := 0) k10 v', hmod.other (type_ne (st h.h11 (by decide)) k10 (by decide)) (st h.h11 (by decide)), hmod.other (type_ne (st h.h4 (by decide)) k10 (by decide)) (st h.h4 (by decide)), hmod.other (type_ne (st h.h5 (by decide)) k10 (by decide)) (st h.h5 (by decide)),
    row_keep ho fun k hk => hmod.rest k fun e => ?_, row_keep g1' fun k hk => hmod.rest k fun e => ?_, fun k hk e => ?_, h.l10⟩, cell_of k10 rfl, free_of k10, lt_heap k10, st h.h9 (by decide)⟩
  · obtain ⟨cs', hc⟩ := row_blk ho hk
    exact type_ne hc k10 (by decide) e
  · obtain ⟨cs', hc⟩ := row_blk g1' hk
    exact type_ne hc k10 (by decide) e
  · rcases hv with q | q
    · exact h.ne k (q ▸ hk) e
    · rw [q] at hk; cases hk
      have := (h.g1.lt _ e).2; omega
end
end Go.Proofs.YtakkhdammmcjcaaDoor.Ctl

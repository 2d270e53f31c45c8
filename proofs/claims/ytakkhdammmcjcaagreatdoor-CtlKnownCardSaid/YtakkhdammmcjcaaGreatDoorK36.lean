/-
  Layer 22, put together: CtlTwo, CtlEnd, CtlPlaysLaw. Conditions: as each theorem names them.
-/
import Derived.Test.YtakkhdammmcjcaaGreatDoorK35
import Derived.Test.YtakkhdammmcjcaaGreatDoorK33
import Derived.Test.YtakkhdammmcjcaaGreatDoorK01
namespace Go.Proofs.YtakkhdammmcjcaaGreatDoor.Ctl
open Go.RowKit Base Mem Msgs Cr
set_option maxRecDepth 100000
/-- Two sides that share nothing, in memory that was made since. -/
structure Tw (w : World) (c0 c1 : Nat) (p0 p1 : Pn.Pr) (x0 x1 : Ct) (u : World) : Prop where
 e : ∃ va0 vc0 va1 vc1, P u c0 w.heap.size p0.n p0.k 9 1 va0 vc0 x0 ∧ P u c1 w.heap.size p1.n p1.k 9 1 va1 vc1 x1 ∧ ∀ k, PS c0 va0 vc0 k → ¬ PS c1 va1 vc1 k
 below : Below w.heap.size w u
section
variable {w u u' : World} {c0 c1 : Nat} {p0 p1 : Pn.Pr} {x0 x1 y : Ct}
theorem Tw.swap (h : Tw w c0 c1 p0 p1 x0 x1 u) : Tw w c1 c0 p1 p0 x1 x0 u := by
 obtain ⟨va0, vc0, va1, vc1, h0, h1, hd⟩ := h.e
 exact ⟨⟨va1, vc1, va0, vc0, h1, h0, fun k h k' => hd k k' h⟩, h.below⟩
theorem Tw.on (h : Tw w c0 c1 p0 p1 x0 x1 u) (hb : Below u.heap.size u u') : Tw w c0 c1 p0 p1 x0 x1 u' := by
 obtain ⟨va0, vc0, va1, vc1, h0, h1, hd⟩ := h.e
 exact ⟨⟨va0, vc0, va1, vc1, h0.below hb, h1.below hb, hd⟩, below_on h.below hb⟩
theorem Tw.ok0 (h : Tw w c0 c1 p0 p1 x0 x1 u) : x0.Ok := by
 obtain ⟨va0, vc0, va1, vc1, h0, h1, hd⟩ := h.e
 exact h0.ok
theorem Tw.ok1 (h : Tw w c0 c1 p0 p1 x0 x1 u) : x1.Ok := h.swap.ok0
theorem Tw.tab (h : Tw w c0 c1 p0 p1 x0 x1 u) : Tab u := by
 obtain ⟨va0, vc0, va1, vc1, h0, h1, hd⟩ := h.e
 exact h0.tab
/-- One side did something. -/
theorem Tw.do0 {va0 vc0 va1 vc1 : Value} (h0 : P u c0 w.heap.size p0.n p0.k 9 1 va0 vc0 x0) (h1 : P u c1 w.heap.size p1.n p1.k 9 1 va1 vc1 x1) (hd : ∀ k, PS c0 va0 vc0 k → ¬ PS c1 va1 vc1 k) (hb : Below w.heap.size w u) (hx : Px u c0 w.heap.size p0.n p0.k 9 1 va0 vc0 y u') : Tw w c0 c1 p0 p1 y x1 u' ∧ Keep u u' := by
 have hk := Px.keep h0 hx
 have hbb := Px.below_ h0 hx hb
 obtain ⟨⟨va', vc', h', hs⟩, hc⟩ := hx
 refine ⟨⟨⟨va', vc', va1, vc1, h', h1.chg hc (fun k hk q => hd k q hk) (fun q => by have := (h0.own_lt TB q).1; have := h0.tb; omega), fun k hk q => ?_⟩, hbb⟩, hk⟩
 rcases hs k hk with e | e
 · exact hd k e q
 · have := (h1.own_lt k q).2; omega
theorem Tw.ask0 (h : Tw w c0 c1 p0 p1 x0 x1 u) (m : Ms) (hm : m.In) (hmb : m.b.size ≤ 281474976710656) : Calls Tryz.prog 18 #[ptr c0, mv m] u fun e u' => e = .returned (nm (askE m)) ∧ Tw w c0 c1 p0 p1 (x0.ask m) x1 u' ∧ Keep u u' := by
 obtain ⟨va0, vc0, va1, vc1, h0, h1, hd⟩ := h.e
 exact (fask h0 m hm hmb).mono fun _ _ ⟨e, hx⟩ => ⟨e, Tw.do0 h0 h1 hd h.below hx⟩
theorem Tw.ask1 (h : Tw w c0 c1 p0 p1 x0 x1 u) (m : Ms) (hm : m.In) (hmb : m.b.size ≤ 281474976710656) : Calls Tryz.prog 18 #[ptr c1, mv m] u fun e u' => e = .returned (nm (askE m)) ∧ Tw w c0 c1 p0 p1 x0 (x1.ask m) u' ∧ Keep u u' :=
 (h.swap.ask0 m hm hmb).mono fun _ _ ⟨e, h1, h2⟩ => ⟨e, h1.swap, h2⟩
theorem Tw.next0 (h : Tw w c0 c1 p0 p1 x0 x1 u) : Calls Tryz.prog 20 #[ptr c0] u fun e u' => e = .returned (nv x0.next.1) ∧ Tw w c0 c1 p0 p1 x0.next.2 x1 u' ∧ Keep u u' := by
 obtain ⟨va0, vc0, va1, vc1, h0, h1, hd⟩ := h.e
 exact (fnext h0).mono fun _ _ ⟨e, hx⟩ => ⟨e, Tw.do0 h0 h1 hd h.below hx⟩
theorem Tw.next1 (h : Tw w c0 c1 p0 p1 x0 x1 u) : Calls Tryz.prog 20 #[ptr c1] u fun e u' => e = .returned (nv x1.next.1) ∧ Tw w c0 c1 p0 p1 x0 x1.next.2 u' ∧ Keep u u' :=
 h.swap.next0.mono fun _ _ ⟨e, h1, h2⟩ => ⟨e, h1.swap, h2⟩
theorem Tw.hear0 (h : Tw w c0 c1 p0 p1 x0 x1 u) (m : Ms) (hm : m.Ok) : Calls Tryz.prog 21 #[ptr c0, .string (putS m)] u fun e u' => ∃ v, e = .returned v ∧ OwnS GT 21 fl u' u.heap.size v (x0.hear1 m).2 ∧ Tw w c0 c1 p0 p1 (x0.hear1 m).1 x1 u' ∧ Keep u u' := by
 obtain ⟨va0, vc0, va1, vc1, h0, h1, hd⟩ := h.e
 have e1 := hear_one (x := x0) hm
 have hsz : (putS m).size ≤ 5000 := by
  have := putS_size (m := m) (bytes_of hm.may hm.few).1
  have := hm.few
  omega
 have := fhear h0 (putS m) hsz
 rw [e1] at this
 exact this.mono fun _ _ ⟨v, e, ho, hx⟩ => ⟨v, e, ho, Tw.do0 h0 h1 hd h.below hx⟩
theorem Tw.hear1 (h : Tw w c0 c1 p0 p1 x0 x1 u) (m : Ms) (hm : m.Ok) : Calls Tryz.prog 21 #[ptr c1, .string (putS m)] u fun e u' => ∃ v, e = .returned v ∧ OwnS GT 21 fl u' u.heap.size v (x1.hear1 m).2 ∧ Tw w c0 c1 p0 p1 x0 (x1.hear1 m).1 u' ∧ Keep u u' :=
 (h.swap.hear0 m hm).mono fun _ _ ⟨v, e, ho, h1, h2⟩ => ⟨v, e, ho, h1.swap, h2⟩
theorem Tw.waits0 (h : Tw w c0 c1 p0 p1 x0 x1 u) : Calls Tryz.prog 15 #[ptr c0] u fun e u' => e = .returned (.tuple #[nm x0.an.length, nm x0.cs.length]) ∧ Below u.heap.size u u' := by
 obtain ⟨va0, vc0, va1, vc1, h0, h1, hd⟩ := h.e
 exact fwaits h0
theorem Tw.waits1 (h : Tw w c0 c1 p0 p1 x0 x1 u) : Calls Tryz.prog 15 #[ptr c1] u fun e u' => e = .returned (.tuple #[nm x1.an.length, nm x1.cs.length]) ∧ Below u.heap.size u u' := h.swap.waits0
end
/-- A row of facts, one or none, is appended to a row of facts. -/
theorem appG (w : World) (ty base b2 : Nat) (v u : Value) (L l2 : List Fa) (hq : OwnS GT 21 fl w base v L) (hu : OwnS GT 21 fl w b2 u l2) (h1 : l2.length ≤ 1) (hl : L.length + 1 ≤ 1000000) (hb : base ≤ w.heap.size) :
 ∃ v' w', (Builtin.append_ #[54, 54] ty #[v, u]).run Tryz.prog w = .ok v' w' ∧ OwnS GT 21 fl w' base v' (L ++ l2) ∧ w.grownBy w' v.ownBlock ∧ (v'.ownBlock = v.ownBlock ∨ v'.ownBlock = some w.heap.size) := by
 cases l2 with
 | nil =>
  obtain ⟨zero, bytes, hinfo, _, _⟩ := eltG.info
  obtain ⟨i, hi, _, hz1, _⟩ := info_parts hinfo
  have hs : Src Tryz.prog i.size 54 u 0 [] w := by
   rcases hu.shape with ⟨e, _⟩ | ⟨g, cap, e, _⟩
   · rw [e]; exact Src.ofNil w eltG.under 0
   · rw [e]; exact Src.ofSlice w eltG.under ⟨g, 0, none⟩ 0 cap [] (by simp) (fun j u h => by simp at h) fun u h => by cases h
  obtain ⟨oa, cap, e, _⟩ := row_form hq
  have hle : L.length ≤ cap := by
   rcases hq.2 with ⟨h1, h2⟩ | ⟨g, cap', cur, h1, _, _, h4, _⟩
   · omega
   · rw [e] at h1
     injection h1 with _ _ h1
     omega
  subst e
  exact ⟨_, w, run_append_nothing w _ _ ty GT i eltG.under hi oa L.length cap hle u hs, by rw [List.append_nil]; exact hq, World.grownBy.refl w _, .inl rfl⟩
 | cons f r =>
  obtain rfl : r = [] := List.eq_nil_of_length_eq_zero (by rw [List.length_cons] at h1; omega)
  obtain ⟨g, cap, rfl⟩ := own_one hu
  have hrow : ∀ j, j < 21 → w.cell? ⟨g, j, none⟩ = (fl f)[j]? := fun j hj => by
   have := OwnS.cell fl_len hu 0 f rfl j hj
   rwa [Nat.mul_zero, Nat.zero_add] at this
  obtain ⟨v', w', hr, ho, hg, hv⟩ := run_append_elt eltG w ty base v L hq g cap f hrow hl hb
  exact ⟨v', w', hr, ho, hg, hv⟩
section
variable {t : Tk} {i : Nat} {y0 y1 : Ct} {f0 f1 : List Fa} {a : Ms}
theorem go_none0 (h : t.go 0 i = ⟨y0, y1, f0, f1⟩) (hi : i % 2 = 0) (hn : y0.next.1 = none) : t.go 0 (i + 1) = ⟨y0.next.2, y1, f0, f1⟩ := by
 rw [go_one, h]; unfold Tk.step; rw [if_pos (by omega)]; unfold Tk.says; simp only [hn]
theorem go_some0 (h : t.go 0 i = ⟨y0, y1, f0, f1⟩) (hi : i % 2 = 0) (hn : y0.next.1 = some a) : t.go 0 (i + 1) = ⟨y0.next.2, (y1.hear1 a).1, f0, f1 ++ (y1.hear1 a).2⟩ := by
 rw [go_one, h]; unfold Tk.step; rw [if_pos (by omega)]; unfold Tk.says; simp only [hn]
theorem go_none1 (h : t.go 0 i = ⟨y0, y1, f0, f1⟩) (hi : ¬ i % 2 = 0) (hn : y1.next.1 = none) : t.go 0 (i + 1) = ⟨y0, y1.next.2, f0, f1⟩ := by
 rw [go_one, h]; unfold Tk.step; rw [if_neg (by omega)]; unfold Tk.says Tk.swap; simp only [hn]
theorem go_some1 (h : t.go 0 i = ⟨y0, y1, f0, f1⟩) (hi : ¬ i % 2 = 0) (hn : y1.next.1 = some a) : t.go 0 (i + 1) = ⟨(y0.hear1 a).1, y1.next.2, f0 ++ (y0.hear1 a).2, f1⟩ := by
 rw [go_one, h]; unfold Tk.step; rw [if_neg (by omega)]; unfold Tk.says Tk.swap; simp only [hn]
end
/-- All that CtlMeets keeps. -/
structure Me (w : World) (c0 c1 b4 b5 b9 b10 b11 : Nat) (p0 p1 : Pn.Pr) (ra rb v0 v1 : Value) (x0 x1 : Ct) (f0 f1 : List Fa) (u : World) : Prop where
 tw : Tw w c0 c1 p0 p1 x0 x1 u
 h9 : u.heap[b9]? = some (.cells #[ptr c0, ptr c1] 53 (0, 0))
 h10 : u.heap[b10]? = some (.cells #[v0, v1] 55 (0, 0))
 h11 : u.heap[b11]? = some (.cells #[ra, rb] 56 (0, 0))
 h4 : u.heap[b4]? = some (.cells (pcl p0) 25 (0, 0))
 h5 : u.heap[b5]? = some (.cells (pcl p1) 25 (0, 0))
 g0 : OwnS GT 21 fl u w.heap.size v0 f0
 g1 : OwnS GT 21 fl u w.heap.size v1 f1
 ne : ∀ k, v0.ownBlock = some k → v1.ownBlock ≠ some k
 l10 : w.heap.size ≤ b10
section
variable {w u u' : World} {c0 c1 b4 b5 b9 b10 b11 b : Nat} {p0 p1 : Pn.Pr} {ra rb v0 v1 v' : Value} {x0 x1 y0 y1 : Ct} {f0 f1 f' : List Fa}
theorem Me.on (h : Me w c0 c1 b4 b5 b9 b10 b11 p0 p1 ra rb v0 v1 x0 x1 f0 f1 u) (hb : Below u.heap.size u u') : Me w c0 c1 b4 b5 b9 b10 b11 p0 p1 ra rb v0 v1 x0 x1 f0 f1 u' :=
 ⟨h.tw.on hb, stays h.h9 hb, stays h.h10 hb, stays h.h11 hb, stays h.h4 hb, stays h.h5 hb, h.g0.below hb, h.g1.below hb, h.ne, h.l10⟩
theorem Me.kp (h : Me w c0 c1 b4 b5 b9 b10 b11 p0 p1 ra rb v0 v1 x0 x1 f0 f1 u) (ht : Tw w c0 c1 p0 p1 y0 y1 u') (hk : Keep u u') : Me w c0 c1 b4 b5 b9 b10 b11 p0 p1 ra rb v0 v1 y0 y1 f0 f1 u' :=
 ⟨ht, hk _ _ _ h.h9 (by decide) (by decide) (by decide), hk _ _ _ h.h10 (by decide) (by decide) (by decide), hk _ _ _ h.h11 (by decide) (by decide) (by decide), hk _ _ _ h.h4 (by decide) (by decide) (by decide), hk _ _ _ h.h5 (by decide) (by decide) (by decide), hk.facts h.g0, hk.facts h.g1, h.ne, h.l10⟩
theorem Tw.mod (h : Tw w c0 c1 p0 p1 x0 x1 u) (M : Mod b u u') {cs : Array Value} {T : TypeId} (hb : u.heap[b]? = some (.cells cs T (0, 0))) (h1 : T ≠ CT) (h2 : T ≠ AT) (h3 : T ≠ KT) (hl : w.heap.size ≤ b) : Tw w c0 c1 p0 p1 x0 x1 u' := by
 obtain ⟨va0, vc0, va1, vc1, p0, p1, hd⟩ := h.e
 have hn : ∀ {c va vc x} {a b' t n : Int}, P u c w.heap.size a b' t n va vc x → ¬ PS c va vc b := fun hp hs => by
  rcases hs with rfl | q | q
  · exact type_ne hp.hd hb (fun q => h1 q.symm) rfl
  · obtain ⟨cs', hc⟩ := row_blk hp.an q
    exact type_ne hc hb (fun q => h2 q.symm) rfl
  · obtain ⟨cs', hc⟩ := row_blk hp.cs q
    exact type_ne hc hb (fun q => h3 q.symm) rfl
 have ht : b ≠ TB := fun e => by have := p0.tb; omega
 exact ⟨⟨va0, vc0, va1, vc1, p0.mod M (hn p0) ht, p1.mod M (hn p1) ht, hd⟩, M.below h.below hl⟩
/-- A block of a message is written: none of these. -/
theorem Me.mod (h : Me w c0 c1 b4 b5 b9 b10 b11 p0 p1 ra rb v0 v1 x0 x1 f0 f1 u) (M : Mod b u u') {cs : Array Value} (hb : u.heap[b]? = some (.cells cs MT (0, 0))) (hl : w.heap.size ≤ b) : Me w c0 c1 b4 b5 b9 b10 b11 p0 p1 ra rb v0 v1 x0 x1 f0 f1 u' :=
 ⟨h.tw.mod M hb (by decide) (by decide) (by decide) hl, M.other (type_ne h.h9 hb (by decide)) h.h9, M.other (type_ne h.h10 hb (by decide)) h.h10, M.other (type_ne h.h11 hb (by decide)) h.h11, M.other (type_ne h.h4 hb (by decide)) h.h4, M.other (type_ne h.h5 hb (by decide)) h.h5,
  row_keep h.g0 fun k hk => M.rest k fun e => by
   obtain ⟨cs', hc⟩ := row_blk h.g0 hk
   exact type_ne hc hb (by decide) e,
  row_keep h.g1 fun k hk => M.rest k fun e => by
   obtain ⟨cs', hc⟩ := row_blk h.g1 hk
   exact type_ne hc hb (by decide) e, h.ne, h.l10⟩
theorem Me.le (h : Me w c0 c1 b4 b5 b9 b10 b11 p0 p1 ra rb v0 v1 x0 x1 f0 f1 u) (F : Fresh b u u') : w.heap.size ≤ b := by rw [F.eq]; exact h.tw.below.size
theorem Me.cells (h : Me w c0 c1 b4 b5 b9 b10 b11 p0 p1 ra rb v0 v1 x0 x1 f0 f1 u) :
 u.cell? ⟨b9, 0, none⟩ = some (ptr c0) ∧ u.cell? ⟨b9, 1, none⟩ = some (ptr c1) ∧ u.cell? ⟨b10, 0, none⟩ = some v0 ∧ u.cell? ⟨b10, 1, none⟩ = some v1 ∧ u.cell? ⟨b11, 0, none⟩ = some ra ∧ u.cell? ⟨b11, 1, none⟩ = some rb :=
 ⟨cell_of h.h9 rfl, cell_of h.h9 rfl, cell_of h.h10 rfl, cell_of h.h10 rfl, cell_of h.h11 rfl, cell_of h.h11 rfl⟩
/-- Facts were appended to a row that was just grown, and stored. -/
theorem Me.put1 (h : Me w c0 c1 b4 b5 b9 b10 b11 p0 p1 ra rb v0 v1 x0 x1 f0 f1 u) (ho : OwnS GT 21 fl u' w.heap.size v' f') (hg : u.grownBy u' v1.ownBlock) (hv : v'.ownBlock = v1.ownBlock ∨ v'.ownBlock = some u.heap.size) :
 Me w c0 c1 b4 b5 b9 b10 b11 p0 p1 ra rb v0 v' x0 x1 f0 f' (u'.setCell ⟨b10, 1, none⟩ v') ∧ u'.cell? ⟨b10, 1, none⟩ = some v1 ∧ u'.frozen? ⟨b10, 1, none⟩ = false ∧ b10 < u'.heap.size ∧ u'.heap[b9]? = some (.cells #[ptr c0, ptr c1] 53 (0, 0)) := by
 have hcg := Chg.of_grown (S := fun k => v1.ownBlock = some k) hg fun k hk => hk
 have st : ∀ {k : Nat} {cs : Array Value} {T : TypeId}, u.heap[k]? = some (.cells cs T (0, 0)) → T ≠ GT → u'.heap[k]? = some (.cells cs T (0, 0)) := fun hk hT => hcg.stays hk fun e => by
  obtain ⟨cs', hc⟩ := row_blk h.g1 e
  exact type_ne hk hc hT rfl
 have k10 := st h.h10 (by decide)
 have hmod := mod_setCell b10 1 u' v'
 have hbw : Below w.heap.size w u' := h.tw.below.grown hg h.tw.below.size fun k hk => (h.g1.lt k hk).1
 have htw : Tw w c0 c1 p0 p1 x0 x1 u' := by
  obtain ⟨va0, vc0, va1, vc1, q0, q1, hd⟩ := h.tw.e
  have hn : ∀ {c va vc x} {a b' t n : Int}, P u c w.heap.size a b' t n va vc x → ∀ k, PS c va vc k → ¬ v1.ownBlock = some k := fun hp k hs e => by
   obtain ⟨cs', hc⟩ := row_blk h.g1 e
   rcases hs with rfl | q | q
   · exact type_ne hp.hd hc (by decide) rfl
   · obtain ⟨cs2, hc2⟩ := row_blk hp.an q
     exact type_ne hc2 hc (by decide) rfl
   · obtain ⟨cs2, hc2⟩ := row_blk hp.cs q
     exact type_ne hc2 hc (by decide) rfl
  have ht : ¬ v1.ownBlock = some TB := fun e => by have := (h.g1.lt TB e).1; have := q0.tb; omega
  exact ⟨⟨va0, vc0, va1, vc1, q0.chg hcg (hn q0) ht, q1.chg hcg (hn q1) ht, hd⟩, hbw⟩
 have g0' : OwnS GT 21 fl u' w.heap.size v0 f0 := row_keep h.g0 fun k hk => hcg.block k (h.g0.lt k hk).2 (h.ne k hk)
 refine ⟨⟨htw.mod hmod k10 (by decide) (by decide) (by decide) h.l10, hmod.other (type_ne (st h.h9 (by decide)) k10 (by decide)) (st h.h9 (by decide)), block_set (i := 1) k10 v', hmod.other (type_ne (st h.h11 (by decide)) k10 (by decide)) (st h.h11 (by decide)), hmod.other (type_ne (st h.h4 (by decide)) k10 (by decide)) (st h.h4 (by decide)), hmod.other (type_ne (st h.h5 (by decide)) k10 (by decide)) (st h.h5 (by decide)),
  row_keep g0' fun k hk => hmod.rest k fun e => ?_, row_keep ho fun k hk => hmod.rest k fun e => ?_, fun k hk e => ?_, h.l10⟩, cell_of k10 rfl, free_of k10, lt_heap k10, st h.h9 (by decide)⟩
 · obtain ⟨cs', hc⟩ := row_blk g0' hk
   exact type_ne hc k10 (by decide) e
 · obtain ⟨cs', hc⟩ := row_blk ho hk
   exact type_ne hc k10 (by decide) e
 · rcases hv with q | q
   · exact h.ne k hk (q ▸ e)
   · rw [q] at e; cases e
     have := (h.g0.lt _ hk).2; omega
theorem Me.put0 (h : Me w c0 c1 b4 b5 b9 b10 b11 p0 p1 ra rb v0 v1 x0 x1 f0 f1 u) (ho : OwnS GT 21 fl u' w.heap.size v' f') (hg : u.grownBy u' v0.ownBlock) (hv : v'.ownBlock = v0.ownBlock ∨ v'.ownBlock = some u.heap.size) :
 Me w c0 c1 b4 b5 b9 b10 b11 p0 p1 ra rb v' v1 x0 x1 f' f1 (u'.setCell ⟨b10, 0, none⟩ v') ∧ u'.cell? ⟨b10, 0, none⟩ = some v0 ∧ u'.frozen? ⟨b10, 0, none⟩ = false ∧ b10 < u'.heap.size ∧ u'.heap[b9]? = some (.cells #[ptr c0, ptr c1] 53 (0, 0)) := by
 have hcg := Chg.of_grown (S := fun k => v0.ownBlock = some k) hg fun k hk => hk
 have st : ∀ {k : Nat} {cs : Array Value} {T : TypeId}, u.heap[k]? = some (.cells cs T (0, 0)) → T ≠ GT → u'.heap[k]? = some (.cells cs T (0, 0)) := fun hk hT => hcg.stays hk fun e => by
  obtain ⟨cs', hc⟩ := row_blk h.g0 e
  exact type_ne hk hc hT rfl
 have k10 := st h.h10 (by decide)
 have hmod := mod_setCell b10 0 u' v'
 have hbw : Below w.heap.size w u' := h.tw.below.grown hg h.tw.below.size fun k hk => (h.g0.lt k hk).1
 have htw : Tw w c0 c1 p0 p1 x0 x1 u' := by
  obtain ⟨va0, vc0, va1, vc1, q0, q1, hd⟩ := h.tw.e
  have hn : ∀ {c va vc x} {a b' t n : Int}, P u c w.heap.size a b' t n va vc x → ∀ k, PS c va vc k → ¬ v0.ownBlock = some k := fun hp k hs e => by
   obtain ⟨cs', hc⟩ := row_blk h.g0 e
   rcases hs with rfl | q | q
   · exact type_ne hp.hd hc (by decide) rfl
   · obtain ⟨cs2, hc2⟩ := row_blk hp.an q
     exact type_ne hc2 hc (by decide) rfl
   · obtain ⟨cs2, hc2⟩ := row_blk hp.cs q
     exact type_ne hc2 hc (by decide) rfl
  have ht : ¬ v0.ownBlock = some TB := fun e => by have := (h.g0.lt TB e).1; have := q0.tb; omega
  exact ⟨⟨va0, vc0, va1, vc1, q0.chg hcg (hn q0) ht, q1.chg hcg (hn q1) ht, hd⟩, hbw⟩
 have g1' : OwnS GT 21 fl u' w.heap.size v1 f1 := row_keep h.g1 fun k hk => hcg.block k (h.g1.lt k hk).2 fun e => h.ne k e hk
 refine ⟨⟨htw.mod hmod k10 (by decide) (by decide) (by decide) h.l10, hmod.other (type_ne (st h.h9 (by decide)) k10 (by decide)) (st h.h9 (by decide)), block_set (i := 0) k10 v', hmod.other (type_ne (st h.h11 (by decide)) k10 (by decide)) (st h.h11 (by decide)), hmod.other (type_ne (st h.h4 (by decide)) k10 (by decide)) (st h.h4 (by decide)), hmod.other (type_ne (st h.h5 (by decide)) k10 (by decide)) (st h.h5 (by decide)),
  row_keep ho fun k hk => hmod.rest k fun e => ?_, row_keep g1' fun k hk => hmod.rest k fun e => ?_, fun k hk e => ?_, h.l10⟩, cell_of k10 rfl, free_of k10, lt_heap k10, st h.h9 (by decide)⟩
 · obtain ⟨cs', hc⟩ := row_blk ho hk
   exact type_ne hc k10 (by decide) e
 · obtain ⟨cs', hc⟩ := row_blk g1' hk
   exact type_ne hc k10 (by decide) e
 · rcases hv with q | q
   · exact h.ne k (q ▸ hk) e
   · rw [q] at hk; cases hk
     have := (h.g1.lt _ e).2; omega
end
end Go.Proofs.YtakkhdammmcjcaaGreatDoor.Ctl
namespace Go.Proofs.YtakkhdammmcjcaaGreatDoor.ctlMeets
open Go.RowKit Base Mem Msgs Cr Ctl
set_option maxRecDepth 100000
def pll (p : Pn.Pr) : List Value := [.int .u8 p.d, .int .u8 p.f, .int .u8 p.c, .int .u8 p.r, .int .i64 p.t, .int .i64 p.n, .int .i64 p.z, .int .i64 p.k]
theorem pll_at {w : World} {b : Nat} {p : Pn.Pr} {t : TypeId} (h : w.heap[b]? = some (.cells (pcl p) t (0, 0))) : w.rangeAt b 0 (pll p) := rangez_of (vs := pll p) h
/-- A side that was asked for the first ones of a row. -/
def X (p : Pn.Pr) (F : Nat → Ms) (i : Nat) : Ct := (rowOf F i).foldl Ct.ask (Ct.new p 9 1)
theorem X_next (p : Pn.Pr) (F : Nat → Ms) (i : Nat) : X p F (i + 1) = (X p F i).ask (F i) := by unfold X; rw [rowOf_next, List.foldl_append]; rfl
theorem X_own (p : Pn.Pr) (F : Nat → Ms) (i : Nat) : (X p F i).own = brought p ∧ (X p F i).an = [] := by
 obtain ⟨h1, _, _, h2⟩ := asks_own (Ct.new p 9 1) (rowOf F i)
 exact ⟨h1, h2⟩
theorem X_cs (p : Pn.Pr) (F : Nat → Ms) (i : Nat) : (X p F i).cs = (asked (rowOf F i)).map fresh := asks (Ct.new p 9 1) (rowOf F i)
theorem asked_in {F : Nat → Ms} {n : Nat} (hF : ∀ k, k < n → (F k).In) : ∀ a ∈ asked (rowOf F n), a.In := fun a ha => by
 obtain ⟨i, hi, rfl⟩ := rowOf_mem ((asked_sub _).subset ha)
 exact hF i hi
theorem asked_able {F : Nat → Ms} {n : Nat} (hF : ∀ k, k < n → (F k).In) : ∀ a ∈ asked (rowOf F n), Askable a := fun a ha => (mayAsk_iff (asked_in hF a ha)).1 (asked_may _ a ha)
theorem asked_few {F : Nat → Ms} {n : Nat} (hn : n ≤ 20) : (asked (rowOf F n)).length ≤ 20 := by
 have := asked_len (rowOf F n)
 rw [rowOf_len] at this
 omega
/-- What each side has learned in the end, and that it waits for nothing. -/
structure Ends (p0 p1 : Pn.Pr) (A B : List Ms) (y0 y1 : Ct) (f0 f1 : List Fa) : Prop where
 a0 : y0.an = []
 c0 : y0.cs = []
 a1 : y1.an = []
 c1 : y1.cs = []
 l0 : f0.length = A.length + B.length
 l1 : f1.length = A.length + B.length
 n0 : ∀ a ∈ A, cnt 2 a f0 = 1 ∧ cnt 1 a f1 = 1
 n1 : ∀ a ∈ B, cnt 2 a f1 = 1 ∧ cnt 1 a f0 = 1
 g0 : ∀ f ∈ f0, f.k = 2 → f.m.k = 1 → f.m.p.n ≤ max 1 p1.n ∧ f.m.p.k ≤ max 1 p1.k
 g1 : ∀ f ∈ f1, f.k = 2 → f.m.k = 1 → f.m.p.n ≤ max 1 p0.n ∧ f.m.p.k ≤ max 1 p0.k
 i0 : ∀ f ∈ f0, f.m.In
 i1 : ∀ f ∈ f1, f.m.In
 iA : ∀ a ∈ A, a.In
 iB : ∀ a ∈ B, a.In
 eA : A.length ≤ 20
 eB : B.length ≤ 20
theorem ends {p0 p1 : Pn.Pr} {F G : Nat → Ms} {n m : Nat} (hF : ∀ k, k < n → (F k).In) (hG : ∀ k, k < m → (G k).In) (hn : n ≤ 20) (hm : m ≤ 20) {y0 y1 : Ct} {f0 f1 : List Fa}
 (h : (⟨X p0 F n, X p1 G m, [], []⟩ : Tk).go 0 200 = ⟨y0, y1, f0, f1⟩) : Ends p0 p1 (asked (rowOf F n)) (asked (rowOf G m)) y0 y1 f0 f1 := by
 obtain ⟨o0, a0⟩ := X_own p0 F n
 obtain ⟨o1, a1⟩ := X_own p1 G m
 have lA := asked_few (F := F) hn
 have lB := asked_few (F := G) hm
 have hmeet := meet (X p0 F n) (X p1 G m) _ _ (asked_able hF) (asked_able hG) a0 a1 (X_cs p0 F n) (X_cs p1 G m) 200 (by omega)
 rw [h, o0, o1] at hmeet
 injection hmeet with e0 e1 e2 e3
 have uA := asked_un (rowOf F n)
 have uB := asked_un (rowOf G m)
 have jA := asked_in hF
 have jB := asked_in hG
 generalize asked (rowOf F n) = A at *
 generalize asked (rowOf G m) = B at *
 subst e0 e1 e2 e3
 refine ⟨a0, rfl, a1, rfl, ?_, ?_, fun a ha => met_counts uA ha, fun a ha => met_counts' uB ha, fun f hf hk h1 => back_low hf hk h1, fun f hf hk h1 => ?_, fun f hf => ?_, fun f hf => ?_, jA, jB, lA, lB⟩
 · rw [List.length_append, List.length_map, List.length_map]
 · rw [List.length_append, List.length_map, List.length_map]
 · refine back_low (A := B) (B := A) (p := brought p1) ?_ hk h1
   rcases List.mem_append.1 hf with hf | hf
   · exact List.mem_append_right _ hf
   · exact List.mem_append_left _ hf
 · rcases List.mem_append.1 hf with hf | hf
   · obtain ⟨a, ha, rfl⟩ := List.mem_map.1 hf
     exact cmd_in (agreed_in (jA a ha)) false
   · obtain ⟨a, ha, rfl⟩ := List.mem_map.1 hf
     exact agreed_in (jB a ha)
 · rcases List.mem_append.1 hf with hf | hf
   · obtain ⟨a, ha, rfl⟩ := List.mem_map.1 hf
     exact agreed_in (jA a ha)
   · obtain ⟨a, ha, rfl⟩ := List.mem_map.1 hf
     exact cmd_in (agreed_in (jB a ha)) false
theorem cell7 {b : Nat} {t : TypeId} {u : World} {m : Ms} (h : u.heap[b]? = some (mO m t)) : u.cell? ⟨b, 7, none⟩ = some (.int .i64 m.p.n) := cell_of h rfl
theorem cell9 {b : Nat} {t : TypeId} {u : World} {m : Ms} (h : u.heap[b]? = some (mO m t)) : u.cell? ⟨b, 9, none⟩ = some (.int .i64 m.p.k) := cell_of h rfl
/-- The law's asked, its length named. -/
theorem lasked_n {oa : Option Addr} {n cap : Nat} {F : Nat → Ms} {w u : World} (hn : n ≤ 20) (ht : Tab w) (hA : ArgS 20 ml Fits w oa n F) {A : List Ms} {la : Nat} (hq : asked (rowOf F n) = A) (hl : A.length = la) (hb : Below w.heap.size w u) :
 Calls Tryz.prog 22 #[.slice oa n cap] u fun e u' => ∃ oq cq, e = .returned (.slice oq la cq) ∧ OwnS MT 20 ml u' u.heap.size (.slice oq la cq) A ∧ Below u.heap.size u u' :=
 (lasked oa n cap F (by omega) u (tab_below ht hb) (hA.below hb)).mono fun e u' ⟨v, e1, ho, hb'⟩ => by
  rw [hq] at ho
  obtain ⟨oq, cq, rfl, _⟩ := row_form ho
  rw [hl] at e1 ho
  exact ⟨oq, cq, e1, ho, hb'⟩
theorem waits_nil {f c : Nat} {u : World} {l : List Ms} {k : List Wt} (h : Calls Tryz.prog f #[ptr c] u fun e u' => e = .returned (.tuple #[nm l.length, nm k.length]) ∧ Below u.heap.size u u') (hl : l = []) (hk : k = []) :
 Calls Tryz.prog f #[ptr c] u fun e u' => e = .returned (.tuple #[.int .i64 0, .int .i64 0]) ∧ Below u.heap.size u u' := by
 subst hl hk
 exact h
theorem own_at {α : Type} {E z base n cap : Nat} {fc : α → List Value} {w : World} {o : Option Addr} {l : List α} (h : OwnS E z fc w base (.slice o n cap) l) (h0 : 0 < l.length) : ∃ g, o = some ⟨g, 0, none⟩ := by
 rcases h.shape with ⟨_, rfl⟩ | ⟨g, cap', h1, _⟩
 · exact absurd h0 (Nat.lt_irrefl 0)
 · injection h1 with h1
   exact ⟨g, h1⟩
section
variable {d : Option Tmp} {x y : Operand} {ty : TypeId} {pos : String} {af : Array Edge} {w : World} {g : Option (Nat × Bool)} {ρ : Operand → Value}
theorem ex_ix0 (p q : Pn.Pr) (hx : ρ x = .agg (pll p ++ pll q).toArray) (hy : ρ y = .int .i64 0) :
 (execOp ρ { dst := d, op := .index 67 x y, type := ty, pos := pos, after := af, guard := g }).run Tryz.prog w = .ok (.value (.agg (pll p).toArray)) w := by
 unfold execOp
 simp only [hx, hy]
 kernel_rfl
theorem ex_ix1 (p q : Pn.Pr) (hx : ρ x = .agg (pll p ++ pll q).toArray) (hy : ρ y = .int .i64 1) :
 (execOp ρ { dst := d, op := .index 67 x y, type := ty, pos := pos, after := af, guard := g }).run Tryz.prog w = .ok (.value (.agg (pll q).toArray)) w := by
 unfold execOp
 simp only [hx, hy]
 kernel_rfl
theorem ex_fd5 (p : Pn.Pr) (hx : ρ x = .agg (pll p).toArray) :
 (execOp ρ { dst := d, op := .field 25 x 5, type := ty, pos := pos, after := af, guard := g }).run Tryz.prog w = .ok (.value (.int .i64 p.n)) w := by
 unfold execOp
 simp only [hx]
 kernel_rfl
theorem ex_fd7 (p : Pn.Pr) (hx : ρ x = .agg (pll p).toArray) :
 (execOp ρ { dst := d, op := .field 25 x 7, type := ty, pos := pos, after := af, guard := g }).run Tryz.prog w = .ok (.value (.int .i64 p.k)) w := by
 unfold execOp
 simp only [hx]
 kernel_rfl
end
end Go.Proofs.YtakkhdammmcjcaaGreatDoor.ctlMeets
namespace Go.Proofs.YtakkhdammmcjcaaGreatDoor.Ctl
open Go.RowKit Base Mem Msgs Cr ctlMeets
set_option maxRecDepth 100000
section
variable {w w' u : World} {c r base base' kb : Nat} {ko : Obj} {a b t n : Int} {va vc v : Value} {x y : Ct} {F : List Fa}
theorem p_weak (h : P w c base a b t n va vc x) (hb : base' ≤ base) (ht : TB < base') : P w c base' a b t n va vc x :=
 ⟨h.hd, own_weak h.an hb, own_weak h.cs hb, Nat.le_trans hb h.lo, h.tab, ht, h.raw, h.sd, h.ok⟩
theorem isQ : IsRow QT 22 := ⟨⟨_, Tryz.underlying31⟩, by kernel_rfl⟩
theorem Bo.rows (h : Bo w c r a b t n kb ko x y v F u) : ∃ oa ca ob cb, u.cell? ⟨r, 10, none⟩ = some (.slice oa y.an.length ca) ∧ u.cell? ⟨r, 11, none⟩ = some (.slice ob y.cs.length cb) := by
 obtain ⟨va, vc, vd, ve, h⟩ := h
 obtain ⟨_, _, h3, h4⟩ := h.d.cells
 obtain ⟨oa, ca, rfl⟩ := h.d.an.form
 obtain ⟨ob, cb, rfl, _⟩ := own_form h.d.cs
 exact ⟨_, _, _, _, h3, h4⟩
end
set_option maxHeartbeats 16000000 in
theorem lplays (p : Pn.Pr) (t n : Int) (v : Value) (L : List Cl) (w : World) (ht : Tab w) (h : Rd 22 xl w v L) (hn : L.length ≤ 150) (hf : ∀ x ∈ L, x.Fit) : Calls Tryz.prog 5 #[Pn.pv p, .int .i64 t, .int .i64 n, v] w fun e w' => e = .returned (.bool true) ∧ Below w.heap.size w w' := by
 have CW := Lib.hid (fun (u : World) hu => works u hu)
 have HT := Lib.hid ht
 have HF := Lib.hid hf
 have CF := Lib.hid (fun (u : World) (hb : Below w.heap.size w u) => lfew (h.below hb) hn hf)
 obtain ⟨oa, cap, rfl, ga⟩ := h.form
 obtain ⟨m, hm⟩ : ∃ m, L.length = m := ⟨_, rfl⟩
 rw [hm] at h hn CF ⊢
 have HR := Lib.hid h
 have HM := Lib.hid hm
 have GA := Lib.hid ga
 clear ht h hf ga hm
 go_enter Tryz.func5, Tryz.ntmps5
 go_wp2_with (first
  | ((with_reducible refine bxz (pcl p) ?hx ?_); (case hx => rfl); intro b4 w1 h F; have H4 := Lib.hid h; have HB1 := Lib.hid F.below; have HT1 := Lib.hid (tab_below HT.out F.below); clear h F)
  | (go_at_call 10; refine (CF.out _ HB1.out).mono ?_; rintro _ w2 ⟨rfl, rfl⟩))
 replace HB1 := Lib.hid (below_on HB1.out (show Below w1.heap.size w1 w1.drew from ⟨rfl, rfl, rfl, Nat.le_refl _, fun _ _ => rfl⟩))
 replace HT1 : Hid (Tab w1.drew) := Lib.hid HT1.out
 refine wp_region_held_drew (S := (fun w' => w'.heap[b4]? = some (.cells (pcl p) 25 (0, 0)))) (by kernel_rfl) (stays H4.out ⟨rfl, rfl, rfl, Nat.le_refl _, fun _ _ => rfl⟩) (fun hHeld => ?_)
 refine' tv9 0 rfl (by intro _ hSw; (try dsimp only at hSw); refine ex_ldz (pll p) isP (pll_at hSw) rfl ?_; rfl) ?_
 refine' tk9 1 rfl ?_
 refine' tk9 2 rfl ?_
 refine' tv9 4 rfl (by intro _ hSw; (try dsimp only at hSw); refine ex_ldz (pll p) isP (pll_at hSw) rfl ?_; rfl) ?_
 refine' tk9 6 rfl ?_
 refine' tk9 7 rfl ?_
 refine ry [3] (.cons rfl (fun K hK => ?_) .nil)
 go_simp
 refine (fnew p t n _ HT1.out).mono ?_
 rintro e w6 ⟨c, rfl, hp, hb⟩
 go_wp2_with fail
 have HP0 := Lib.hid (p_weak hp HB1.out.size (tab_pos HT.out))
 have HB6 := Lib.hid (below_on HB1.out hb)
 have HS3 := Lib.hid (stays hHeld hb)
 have HNE : Hid (b4 ≠ c) := Lib.hid (fun e => by have := hp.lo; have := lt_heap hHeld; omega)
 clear hp hb
 refine hK.out _ _ HS3.out (fun hNext => ?_)
 clear hK K hHeld
 have hHeld := hNext; clear hNext
 (try simp only [Act.put, z1', z2', z3'])
 refine ry [5] (.cons rfl (fun K hK => ?_) .nil)
 go_simp
 refine (fparams p _).mono ?_
 rintro e w7 ⟨rfl, hb⟩
 go_wp2_with fail
 have HP1 := Lib.hid (HP0.out.below hb)
 have HB7 := Lib.hid (below_on HB6.out hb)
 have HS5 := Lib.hid (stays HS3.out hb)
 clear hb
 refine hK.out _ _ HS5.out (fun hNext => ?_)
 clear hK K hHeld
 have hHeld := hNext; clear hNext
 (try simp only [Act.put, z1', z2', z3'])
 refine ry [8] (.cons rfl (fun K hK => ?_) .nil)
 go_simp
 refine (bnew2 HP1.out HS5.out HNE.out HB7.out p).mono ?_
 rintro e w8 ⟨r, rfl, hb⟩
 go_wp2_with fail
 have HBO := Lib.hid hb
 clear hb
 have HS8 := Lib.hid HBO.out.kept
 refine hK.out _ _ HS8.out (fun hNext => ?_)
 clear hK K hHeld
 have hHeld := hNext; clear hNext
 (try simp only [Act.put, z1', z2', z3'])
 refine' tk9 9 rfl ?_
 refine' tk9 10 rfl ?_
 refine wpAnyH_done (by kernel_rfl) ?_ _
 clear hHeld HS3 HS5 HS8 HP0 HP1 HB6 HB7 HNE HB1 HT1 H4
 have HX0 : Hid (∃ x, ∃ kb ko, Bo w c r p.n p.k t n kb ko x x NS []  w8) := Lib.hid ⟨_, _, _, HBO.out⟩
 clear HBO
 go_wp2_with fail
 go_loopg [11] m (fun gm s11 wr => ∃ k : Nat, s11 = nm k ∧ m - k ≤ gm ∧ k ≤ m ∧ Hid (∃ x, ∃ kb ko, Bo w c r p.n p.k t n kb ko x x NS []  wr))
 case atStart => exact ⟨0, by first | rfl | go_num, by omega, by omega, HX0⟩
 case round =>
  clear HX0
  obtain ⟨k, rfl, hgm, hkn, HX⟩ := hrel
  obtain ⟨x, kb, ko, hb⟩ := HX.out
  have HBO := Lib.hid hb
  clear HX
  by_cases hlt : k < m
  · have t1 : decide ((k : Int) < (m : Int)) = true := decide_eq_true (by omega)
    have t2 : (k : Int) < (m : Int) := by omega
    have j0 : (0 : Int) ≤ (k : Int) := by omega
    have vk := nat_wrap (k + 1) (by omega)
    obtain ⟨q, hq⟩ : ∃ q, L[k]? = some q := ⟨_, List.getElem?_eq_getElem (by rw [HM.out]; exact hlt)⟩
    obtain ⟨g, off, rfl, _⟩ := GA.out k q hq
    have HRQ := Lib.hid ((HR.out.below hb.below).at_ hq)
    have CD := Lib.hid (ldoes ⟨kb, ko, hb⟩ q (HF.out q (List.mem_of_getElem? hq)))
    obtain ⟨y, hy⟩ : ∃ y, stp x q = y := ⟨_, rfl⟩
    rw [hy] at CD
    clear hb hq hy
    go_wp2_with (first
     | ((with_reducible refine ldz (vs := xl q) isQ HRQ.out ?hz ?hx ?_); (case hz => rfl); (case hx => rfl))
     | (go_at_call 14; refine CD.out.mono ?_; rintro _ w3 ⟨rfl, kb3, ko3, hb⟩; have HB3 := Lib.hid hb; have e0 : (y.has != y.has) = false := bne_self_eq_false _; have few1 := hb.okx.few; have few2 := hb.okx.cs_few; obtain ⟨A, hA⟩ : ∃ A, y.an.length = A := ⟨_, rfl⟩; obtain ⟨B, hB⟩ : ∃ B, y.cs.length = B := ⟨_, rfl⟩; rw [hA] at few1; rw [hB] at few2; have CWT := Lib.hid (bwaits hb); rw [hA, hB] at CWT; have HAB := Lib.hid (And.intro hA hB); have e1 : ((A : Int) != (A : Int)) = false := bne_self_eq_false _; have e2 : ((B : Int) != (B : Int)) = false := bne_self_eq_false _; have e3 : decide ((64 : Int) < (A : Int)) = false := decide_eq_false (by omega); have e4 : decide ((131 : Int) < (B : Int)) = false := decide_eq_false (by omega); clear hb hA hB)
     | (go_at_call 15; refine CWT.out.mono ?_; rintro _ w4 ⟨rfl, hb⟩; have HB4 := Lib.hid (HB3.out.on hb); clear hb)
     | (go_at_call 16; refine (bhas1 HB4.out).mono ?_; rintro _ w5 ⟨rfl, hb⟩; have HB5 := Lib.hid (HB4.out.on hb); clear hb)
     | (go_at_call 17; refine (bhas2 HB5.out).mono ?_; rintro _ w6 ⟨rfl, hb⟩; have HB6 := Lib.hid (HB5.out.on hb); clear hb; obtain ⟨o1, q1, o2, q2, d1, d2⟩ := HB6.out.rows; rw [HAB.out.1] at d1; rw [HAB.out.2] at d2))
    go_roundg (m - (k + 1))
    case measure => omega
    case rel => exact ⟨k + 1, by first | rfl | go_num, Nat.le_refl _, by omega, Lib.hid ⟨_, _, _, HB6.out⟩⟩
  · obtain rfl : m = k := by omega
    have t1 : decide ((m : Int) < (m : Int)) = false := decide_eq_false (by omega)
    have t2 : ¬ (m : Int) < (m : Int) := by omega
    clear hb
    go_wp2_with (go_at_call 9; refine (CW.out _ HBO.out.tab).mono ?_; rintro _ w9 ⟨rfl, hb⟩; have HB9 := Lib.hid (below_on HBO.out.below hb); clear hb)
    go_ret
    exact ⟨rfl, HB9.out⟩
end Go.Proofs.YtakkhdammmcjcaaGreatDoor.Ctl

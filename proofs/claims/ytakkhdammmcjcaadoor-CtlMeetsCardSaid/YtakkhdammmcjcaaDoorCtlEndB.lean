/-
  How the talk of two sides ends, in plain mathematics; small laws on what the law's loops read. No condition.
-/
import Derived.Test.YtakkhdammmcjcaaDoorCtlTwoB
namespace Go.Proofs.YtakkhdammmcjcaaDoor.ctlMeets
open Go.RowKit Go.Proofs.YtakkhdammmcjcaaDoor.Base Go.Proofs.YtakkhdammmcjcaaDoor.Mem Go.Proofs.YtakkhdammmcjcaaDoor.Msgs Go.Proofs.YtakkhdammmcjcaaDoor.Cr Go.Proofs.YtakkhdammmcjcaaDoor.Ctl
set_option maxRecDepth 100000
def pll (p : Pn.Pr) : List Value := [.int .u8 p.d, .int .u8 p.f, .int .u8 p.c, .int .u8 p.r, .int .i64 p.t, .int .i64 p.n, .int .i64 p.z, .int .i64 p.k]
theorem pll_at {w : World} {b : Nat} {p : Pn.Pr} {t : TypeId} (h : w.heap[b]? = some (.cells (pcl p) t (0, 0))) : w.rangeAt b 0 (pll p) := rangez_of (vs := pll p) h
/-- A side that was asked for the first ones of a row. -/
def X (p : Pn.Pr) (F : Nat → Ms) (i : Nat) : Ct := (rowOf F i).foldl Ct.ask (Ct.new p 9 1)
theorem X_next (p : Pn.Pr) (F : Nat → Ms) (i : Nat) : X p F (i + 1) = (X p F i).ask (F i) := by unfold X; rw [rowOf_next, List.foldl_append]; rfl
theorem X_own (p : Pn.Pr) (F : Nat → Ms) (i : Nat) : (X p F i).own = brought p ∧ (X p F i).an = [] := by
  obtain ⟨h1, _, _, h2⟩ := asks_own (Ct.new p 9 1) (rowOf F i)
  exact ⟨h1, h2⟩
theorem X_cs (p : Pn.Pr) (F : Nat → Ms) (i : Nat) : (X p F i).cs = (asked (rowOf F i)).map fresh := asks (Ct.new p 9 1) (rowOf F i)
theorem asked_in {F : Nat → Ms} {n : Nat} (hF : ∀ k, k < n → (F k).In) : ∀ a ∈ asked (rowOf F n), a.In := fun a ha => by
  obtain ⟨i, hi, rfl⟩ := rowOf_mem ((asked_sub _).subset ha)
  exact hF i hi
theorem asked_able {F : Nat → Ms} {n : Nat} (hF : ∀ k, k < n → (F k).In) : ∀ a ∈ asked (rowOf F n), Askable a := fun a ha => (mayAsk_iff (asked_in hF a ha)).1 (asked_may _ a ha)
theorem asked_few {F : Nat → Ms} {n : Nat} (hn : n ≤ 20) : (asked (rowOf F n)).length ≤ 20 := by
  have := asked_len (rowOf F n)
  rw [rowOf_len] at this
  omega
/-- What each side has learned in the end, and that it waits for nothing. -/
structure Ends (p0 p1 : Pn.Pr) (A B : List Ms) (y0 y1 : Ct) (f0 f1 : List Fa) : Prop where
  a0 : y0.an = []
  c0 : y0.cs = []
  a1 : y1.an = []
  c1 : y1.cs = []
  l0 : f0.length = A.length + B.length
  l1 : f1.length = A.length + B.length
  n0 : ∀ a ∈ A, cnt 2 a f0 = 1 ∧ cnt 1 a f1 = 1
  n1 : ∀ a ∈ B, cnt 2 a f1 = 1 ∧ cnt 1 a f0 = 1
  g0 : ∀ f ∈ f0, f.k = 2 → f.m.k = 1 → f.m.p.n ≤ max 1 p1.n ∧ f.m.p.k ≤ max 1 p1.k
  g1 : ∀ f ∈ f1, f.k = 2 → f.m.k = 1 → f.m.p.n ≤ max 1 p0.n ∧ f.m.p.k ≤ max 1 p0.k
  i0 : ∀ f ∈ f0, f.m.In
  i1 : ∀ f ∈ f1, f.m.In
  iA : ∀ a ∈ A, a.In
  iB : ∀ a ∈ B, a.In
  eA : A.length ≤ 20
  eB : B.length ≤ 20
theorem ends {p0 p1 : Pn.Pr} {F G : Nat → Ms} {n m : Nat} (hF : ∀ k, k < n → (F k).In) (hG : ∀ k, k < m → (G k).In) (hn : n ≤ 20) (hm : m ≤ 20) {y0 y1 : Ct} {f0 f1 : List Fa}
    (h : (⟨X p0 F n, X p1 G m, [], []⟩ : Tk).go 0 200 = ⟨y0, y1, f0, f1⟩) : Ends p0 p1 (asked (rowOf F n)) (asked (rowOf G m)) y0 y1 f0 f1 := by
  obtain ⟨o0, a0⟩ := X_own p0 F n
  obtain ⟨o1, a1⟩ := X_own p1 G m
  have lA := asked_few (F := F) hn
  have lB := asked_few (F := G) hm
  have hmeet := meet (X p0 F n) (X p1 G m) _ _ (asked_able hF) (asked_able hG) a0 a1 (X_cs p0 F n) (X_cs p1 G m) 200 (by omega)
  rw [h, o0, o1] at hmeet
  injection hmeet with e0 e1 e2 e3
  have uA := asked_un (rowOf F n)
  have uB := asked_un (rowOf G m)
  have jA := asked_in hF
  have jB := asked_in hG
  generalize asked (rowOf F n) = A at *
  generalize asked (rowOf G m) = B at *
  subst e0 e1 e2 e3
  refine ⟨a0, rfl, a1, rfl, ?_, ?_, fun a ha => met_counts uA ha, fun a ha => met_counts' uB ha, fun f hf hk h1 => back_low hf hk h1, fun f hf hk h1 => ?_, fun f hf => ?_, fun f hf => ?_, jA, jB, lA, lB⟩
  · rw [List.length_append, List.length_map, List.length_map]
  · rw [List.length_append, List.length_map, List.length_map]
  · refine back_low (A := B) (B := A) (p := brought p1) ?_ hk h1
    rcases List.mem_append.1 hf with hf | hf
    · exact List.mem_append_right _ hf
    · exact List.mem_append_left _ hf
  · rcases List.mem_append.1 hf with hf | hf
    · obtain ⟨a, ha, rfl⟩ := List.mem_map.1 hf
      exact cmd_in (agreed_in (jA a ha)) false
    · obtain ⟨a, ha, rfl⟩ := List.mem_map.1 hf
      exact agreed_in (jB a ha)
  · rcases List.mem_append.1 hf with hf | hf
    · obtain ⟨a, ha, rfl⟩ := List.mem_map.1 hf
      exact agreed_in (jA a ha)
    · obtain ⟨a, ha, rfl⟩ := List.mem_map.1 hf
      exact cmd_in (agreed_in (jB a ha)) false
theorem cell7 {b : Nat} {t : TypeId} {u : World} {m : Ms} (h : u.heap[b]? = some (mO m t)) : u.cell? ⟨b, 7, none⟩ = some (.int .i64 m.p.n) := cell_of h rfl
theorem cell9 {b : Nat} {t : TypeId} {u : World} {m : Ms} (h : u.heap[b]? = some (mO m t)) : u.cell? ⟨b, 9, none⟩ = some (.int .i64 m.p.k) := cell_of h rfl
/-- The law's asked, its length named. -/
theorem lasked_n {oa : Option Addr} {n cap : Nat} {F : Nat → Ms} {w u : World} (hn : n ≤ 20) (ht : Tab w) (hA : ArgS 20 ml Fits w oa n F) {A : List Ms} {la : Nat} (hq : asked (rowOf F n) = A) (hl : A.length = la) (hb : Below w.heap.size w u) :
    Calls Tryd.prog 13 #[.slice oa n cap] u fun e u' => ∃ oq cq, e = .returned (.slice oq la cq) ∧ OwnS MT 20 ml u' u.heap.size (.slice oq la cq) A ∧ Below u.heap.size u u' :=
  (lasked oa n cap F (by omega) u (tab_below ht hb) (hA.below hb)).mono fun e u' ⟨v, e1, ho, hb'⟩ => by
    rw [hq] at ho
    obtain ⟨oq, cq, rfl, _⟩ := row_form ho
    rw [hl] at e1 ho
    exact ⟨oq, cq, e1, ho, hb'⟩
theorem waits_nil {f c : Nat} {u : World} {l : List Ms} {k : List Wt} (h : Calls Tryd.prog f #[ptr c] u fun e u' => e = .returned (.tuple #[nm l.length, nm k.length]) ∧ Below u.heap.size u u') (hl : l = []) (hk : k = []) :
    Calls Tryd.prog f #[ptr c] u fun e u' => e = .returned (.tuple #[.int .i64 0, .int .i64 0]) ∧ Below u.heap.size u u' := by
  subst hl hk
  exact h
theorem own_at {α : Type} {E z base n cap : Nat} {fc : α → List Value} {w : World} {o : Option Addr} {l : List α} (h : OwnS E z fc w base (.slice o n cap) l) (h0 : 0 < l.length) : ∃ g, o = some ⟨g, 0, none⟩ := by
  rcases h.shape with ⟨_, rfl⟩ | ⟨g, cap', h1, _⟩
  · exact absurd h0 (Nat.lt_irrefl 0)
  · injection h1 with h1
    exact ⟨g, h1⟩
section
variable {d : Option Tmp} {x y : Operand} {ty : TypeId} {pos : String} {af : Array Edge} {w : World} {g : Option (Nat × Bool)} {ρ : Operand → Value}
theorem ex_ix0 (p q : Pn.Pr) (hx : ρ x = .agg (pll p ++ pll q).toArray) (hy : ρ y = .int .i64 0) :
    (execOp ρ { dst := d, op := .index 48 x y, type := ty, pos := pos, after := af, guard := g }).run Tryd.prog w = .ok (.value (.agg (pll p).toArray)) w := by
  unfold execOp
  simp only [hx, hy]
  kernel_rfl
theorem ex_ix1 (p q : Pn.Pr) (hx : ρ x = .agg (pll p ++ pll q).toArray) (hy : ρ y = .int .i64 1) :
    (execOp ρ { dst := d, op := .index 48 x y, type := ty, pos := pos, after := af, guard := g }).run Tryd.prog w = .ok (.value (.agg (pll q).toArray)) w := by
  unfold execOp
  simp only [hx, hy]
  kernel_rfl
theorem ex_fd5 (p : Pn.Pr) (hx : ρ x = .agg (pll p).toArray) :
    (execOp ρ { dst := d, op := .field 23 x 5, type := ty, pos := pos, after := af, guard := g }).run Tryd.prog w = .ok (.value (.int .i64 p.n)) w := by
  unfold execOp
  simp only [hx]
  kernel_rfl
theorem ex_fd7 (p : Pn.Pr) (hx : ρ x = .agg (pll p).toArray) :
    (execOp ρ { dst := d, op := .field 23 x 7, type := ty, pos := pos, after := af, guard := g }).run Tryd.prog w = .ok (.value (.int .i64 p.k)) w := by
  unfold execOp
  simp only [hx]
  kernel_rfl
end
end Go.Proofs.YtakkhdammmcjcaaDoor.ctlMeets

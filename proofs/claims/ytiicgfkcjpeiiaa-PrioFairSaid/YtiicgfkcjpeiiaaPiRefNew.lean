/-
  The document's own in memory; what its New answers. No condition.
-/
import Derived.Test.YtiicgfkcjpeiiaaPiMem
import Derived.Test.YtiicgfkcjpeiiaaOwnS
namespace Go.Proofs.Ytiicgfkcjpeiiaa.Pi
open Go.RowKit Go.Proofs.Ytiicgfkcjpeiiaa.Base Go.Proofs.Ytiicgfkcjpeiiaa.Mem Go.Proofs.Ytiicgfkcjpeiiaa.Cr
abbrev RT : TypeId := 50
theorem ne_type {w : World} {a b : Nat} {cs cs' : Array Value} {t t' : TypeId} (h : w.heap[a]? = some (.cells cs t)) (h' : w.heap[b]? = some (.cells cs' t')) (ht : t ≠ t') : a ≠ b := fun e => by
  subst e
  rw [h, Option.some.injEq] at h'
  injection h' with _ e
  exact ht e
theorem Ar.ne {w : World} {a b n m : Nat} {T T' : TypeId} {g g' : Nat → Value} (h : Ar w a T n g) (h' : Ar w b T' m g') (ht : T ≠ T') : a ≠ b := let ⟨_, h, _⟩ := h; let ⟨_, h', _⟩ := h'; ne_type h h' ht
/-- Where the document's own lies: its struct, its three rows, their capacities. -/
structure Rb where
  b : Nat
  bc : Nat
  bi : Nat
  bl : Nat
  cc : Nat
  cl : Nat
def Rb.S (k : Rb) : Nat → Prop := fun j => j = k.bc ∨ j = k.bi ∨ j = k.bl
abbrev hdr (k : Rb) : Array Value := #[.slice (some ⟨k.bc, 0, none⟩) 64 k.cc, .slice (some ⟨k.bi, 0, none⟩) 64 64, .slice (some ⟨k.bl, 0, none⟩) 64 k.cl]
structure R (w : World) (k : Rb) (x : St) : Prop where
  hd : At w k.b (hdr k) RT
  c : Ar w k.bc 5 64 fun d => oc (x.cl d)
  i : Ar w k.bi 4 64 fun d => .bool (x.rd d)
  l : Ar w k.bl 3 64 fun d => im ((x.la d : Int) - 1)
  ok : x.Ok
section
variable {w w' : World} {k : Rb} {x : St}
theorem R.below (h : R w k x) (hb : Below w.heap.size w w') : R w' k x := ⟨h.hd.below hb, h.c.below hb, h.i.below hb, h.l.below hb, h.ok⟩
theorem R.drewN (h : R w k x) (n : Nat) : R (w.drewN n) k x := h.below ⟨rfl, rfl, rfl, Nat.le_refl _, fun _ _ => rfl⟩
theorem R.drew (h : R w k x) : R w.drew k x := h.below ⟨rfl, rfl, rfl, Nat.le_refl _, fun _ _ => rfl⟩
theorem R.other {S : Nat → Prop} (h : R w k x) (hc : Chg S w w') (h0 : ¬ S k.b) (h1 : ¬ S k.bc) (h2 : ¬ S k.bi) (h3 : ¬ S k.bl) : R w' k x := ⟨h.hd.other hc h0, h.c.other hc h1, h.i.other hc h2, h.l.other hc h3, h.ok⟩
theorem At.ne_ar {b a n : Nat} {cs : Array Value} {T T' : TypeId} {g : Nat → Value} (h : At w b cs T) (h' : Ar w a T' n g) (ht : T ≠ T') : b ≠ a := let ⟨_, h', _⟩ := h'; ne_type h h' ht
theorem R.setC (h : R w k x) {d c : Nat} (hc : c < 64) : R (w.setCell ⟨k.bc, d, none⟩ (oc c)) k (x.setC d c) := by
  have hs := Chg.set (S := Bs k.bc) k.bc d (oc c) rfl w
  refine ⟨h.hd.other hs (At.ne_ar h.hd h.c (by decide)), h.c.set d _ fun j _ => ?_, h.i.other hs (h.i.ne h.c (by decide)), h.l.other hs (h.l.ne h.c (by decide)), h.ok.setC d hc⟩
  show oc (if j = d then c else x.cl j) = _
  split <;> rfl
theorem R.setR (h : R w k x) {d : Nat} (o : Bool) : R (w.setCell ⟨k.bi, d, none⟩ (.bool o)) k (x.setR d o) := by
  have hs := Chg.set (S := Bs k.bi) k.bi d (.bool o) rfl w
  refine ⟨h.hd.other hs (At.ne_ar h.hd h.i (by decide)), h.c.other hs (h.c.ne h.i (by decide)), h.i.set d _ fun j _ => ?_, h.l.other hs (h.l.ne h.i (by decide)), h.ok.setR d o⟩
  show Value.bool (if j = d then o else x.rd j) = _
  split <;> rfl
theorem R.tak (h : R w k x) {d : Nat} (hd : d < 64) : R (w.setCell ⟨k.bl, x.cl d, none⟩ (im (d : Int))) k (x.tak d) := by
  have hs := Chg.set (S := Bs k.bl) k.bl (x.cl d) (im (d : Int)) rfl w
  refine ⟨h.hd.other hs (At.ne_ar h.hd h.l (by decide)), h.c.other hs (h.c.ne h.l (by decide)), h.i.other hs (h.i.ne h.l (by decide)), h.l.set (x.cl d) _ fun j _ => ?_, h.ok.tak hd⟩
  show im (((if j = x.cl d then d + 1 else x.la j : Nat) : Int) - 1) = _
  split
  · exact congrArg im (by omega)
  · rfl
end
abbrev fcC (c : Nat) : List Value := [oc c]
abbrev fcL (z : Int) : List Value := [im z]
theorem eltU : Elt 5 47 1 fcC :=
  ⟨Try.underlying47, ⟨.int .u8 0, 1, by kernel_rfl, rfl, by decide⟩, fun _ => rfl, fun x u hu => by
    simp only [fcC, List.mem_cons, List.not_mem_nil, or_false] at hu
    rcases hu with rfl; rfl, by decide⟩
theorem eltI : Elt 3 48 1 fcL :=
  ⟨Try.underlying48, ⟨.int .i64 0, 8, by kernel_rfl, rfl, by decide⟩, fun _ => rfl, fun x u hu => by
    simp only [fcL, List.mem_cons, List.not_mem_nil, or_false] at hu
    rcases hu with rfl; rfl, by decide⟩
theorem row1 (w : World) (v : Value) (T : TypeId) : ∀ j, j < 1 → (w.alloc (.cells #[v] T (0, 0))).cell? ⟨w.heap.size, j, none⟩ = ([v] : List Value)[j]? := by
  intro j hj
  have hb : (w.alloc (.cells #[v] T (0, 0))).heap[w.heap.size]? = some (.cells #[v] T (0, 0)) := nest w [_] 0 _ rfl
  obtain rfl : j = 0 := by omega
  exact cell_of hb rfl
section
variable {α : Type} {E z : Nat} {fc : α → List Value} {w w' : World} {base : Nat} {v : Value} {l : List α}
theorem own_blk (h : OwnS E z fc w base v l) {b : Nat} (hb : v.ownBlock = some b) : ∃ cs, w.heap[b]? = some (.cells cs E) := by
  rcases h.2 with ⟨h2, _⟩ | ⟨g, cap, cur, h2, h3, h4, _⟩
  · rw [h2] at hb; cases hb
  · rw [h2] at hb
    cases hb
    exact ⟨cur, h4⟩
theorem own_keep (h : OwnS E z fc w base v l) (hk : ∀ b, v.ownBlock = some b → w'.heap[b]? = w.heap[b]?) : OwnS E z fc w' base v l := by
  obtain ⟨h1, h2⟩ := h
  refine ⟨h1, ?_⟩
  rcases h2 with h2 | ⟨g, cap, cur, h2, h3, h4, h5⟩
  · exact Or.inl h2
  · exact Or.inr ⟨g, cap, cur, h2, h3, by rw [hk g (by rw [h2]; rfl)]; exact h4, h5⟩
theorem own_form (h : OwnS E z fc w base v l) : ∃ oa n cap, v = .slice oa n cap := by
  rcases h.shape with ⟨e, _⟩ | ⟨g, cap, e, _⟩
  · exact ⟨_, _, _, e⟩
  · exact ⟨_, _, _, e⟩
theorem Ar.of {g n : Nat} {T : TypeId} {f : Nat → Value} {cs : Array Value} (h : w.heap[g]? = some (.cells cs T)) (hn : 0 < n) (hc : ∀ d, d < n → w.cell? ⟨g, d, none⟩ = some (f d)) : Ar w g T n f := by
  have hc2 : ∀ d, d < n → cs[d]? = some (f d) := fun d hd => by
    have := hc d hd
    unfold World.cell? at this
    rw [h] at this
    exact this
  refine ⟨cs, h, ?_, hc2⟩
  have := hc2 (n - 1) (by omega)
  obtain ⟨h1, _⟩ := Array.getElem?_eq_some_iff.1 this
  omega
end
/-- The document's own while it is made. -/
structure Bld (w0 : World) (b bi : Nat) (vc vl : Value) (lc : List Nat) (ll : List Int) (w : World) : Prop where
  hd : At w b #[vc, .slice (some ⟨bi, 0, none⟩) 64 64, vl] RT
  own1 : OwnS 5 1 fcC w w0.heap.size vc lc
  own2 : OwnS 3 1 fcL w w0.heap.size vl ll
  is : Ar w bi 4 64 fun _ => .bool false
  lo : w0.heap.size ≤ b ∧ w0.heap.size ≤ bi
  below : Below w0.heap.size w0 w
section
variable {w0 w w4 : World} {b bi : Nat} {vc vl v4 : Value} {lc : List Nat} {ll : List Int} {o : Obj}
theorem Bld.hdC (h : Bld w0 b bi vc vl lc ll w) (hg : (w.alloc o).grownBy w4 vc.ownBlock) : At w4 b #[vc, .slice (some ⟨bi, 0, none⟩) 64 64, vl] RT := by
  have hb : At (w.alloc o) b _ RT := h.hd.below ((Below.refl _ _).alloc (Nat.le_refl _) o)
  refine hb.other (S := fun k => vc.ownBlock = some k) (Chg.of_grown hg fun _ e => e) fun e => ?_
  obtain ⟨cs, hc⟩ := own_blk h.own1 e
  exact ne_type h.hd hc (by decide) rfl
theorem Bld.hdL (h : Bld w0 b bi vc vl lc ll w) (hg : (w.alloc o).grownBy w4 vl.ownBlock) : At w4 b #[vc, .slice (some ⟨bi, 0, none⟩) 64 64, vl] RT := by
  have hb : At (w.alloc o) b _ RT := h.hd.below ((Below.refl _ _).alloc (Nat.le_refl _) o)
  refine hb.other (S := fun k => vl.ownBlock = some k) (Chg.of_grown hg fun _ e => e) fun e => ?_
  obtain ⟨cs, hc⟩ := own_blk h.own2 e
  exact ne_type h.hd hc (by decide) rfl
theorem Bld.putC (h : Bld w0 b bi vc vl lc ll w) {e : Nat} (ho : OwnS 5 1 fcC w4 w0.heap.size v4 (lc ++ [e])) (hg : (w.alloc o).grownBy w4 vc.ownBlock) : Bld w0 b bi v4 vl (lc ++ [e]) ll (w4.setCell ⟨b, 0, none⟩ v4) := by
  have hd4 := h.hdC hg
  have hba := h.below.alloc h.below.size o
  have hcg := Chg.of_grown (S := fun k => vc.ownBlock = some k) hg fun _ e => e
  have hal : Below w.heap.size w (w.alloc o) := (Below.refl _ _).alloc (Nat.le_refl _) o
  refine ⟨hd4.set 0 v4, own_keep ho fun j hj => set_other (fun e => ?_) _, own_keep (own_keep (h.own2.alloc o) fun j hj => ?_) fun j hj => set_other (fun e => ?_) _, ?_, h.lo, ?_⟩
  · subst e; obtain ⟨cs, hc⟩ := own_blk ho hj; exact ne_type hd4 hc (by decide) rfl
  · obtain ⟨cs, hc⟩ := own_blk (h.own2.alloc o) hj
    exact hcg.block j (lt_heap hc) fun e => by
      obtain ⟨cs', hc'⟩ := own_blk (h.own1.alloc o) e
      exact ne_type hc hc' (by decide) rfl
  · subst e; obtain ⟨cs, hc⟩ := own_blk h.own2 hj; exact ne_type h.hd hc (by decide) rfl
  · refine ((h.is.below hal).other hcg fun e => ?_).other (Chg.set (S := Bs b) b 0 v4 rfl w4) fun e => ?_
    · obtain ⟨cs, hc⟩ := own_blk h.own1 e
      obtain ⟨cs', hc', _⟩ := h.is
      exact ne_type hc' hc (by decide) rfl
    · obtain ⟨cs', hc', _⟩ := h.is
      exact ne_type h.hd hc' (by decide) e.symm
  · exact (hcg.below hba hba.size fun k hk => (h.own1.lt k hk).1).setCell h.lo.1 _
theorem Bld.putL (h : Bld w0 b bi vc vl lc ll w) {e : Int} (ho : OwnS 3 1 fcL w4 w0.heap.size v4 (ll ++ [e])) (hg : (w.alloc o).grownBy w4 vl.ownBlock) : Bld w0 b bi vc v4 lc (ll ++ [e]) (w4.setCell ⟨b, 2, none⟩ v4) := by
  have hd4 := h.hdL hg
  have hba := h.below.alloc h.below.size o
  have hcg := Chg.of_grown (S := fun k => vl.ownBlock = some k) hg fun _ e => e
  have hal : Below w.heap.size w (w.alloc o) := (Below.refl _ _).alloc (Nat.le_refl _) o
  refine ⟨hd4.set 2 v4, own_keep (own_keep (h.own1.alloc o) fun j hj => ?_) fun j hj => set_other (fun e => ?_) _, own_keep ho fun j hj => set_other (fun e => ?_) _, ?_, h.lo, ?_⟩
  · obtain ⟨cs, hc⟩ := own_blk (h.own1.alloc o) hj
    exact hcg.block j (lt_heap hc) fun e => by
      obtain ⟨cs', hc'⟩ := own_blk (h.own2.alloc o) e
      exact ne_type hc hc' (by decide) rfl
  · subst e; obtain ⟨cs, hc⟩ := own_blk h.own1 hj; exact ne_type h.hd hc (by decide) rfl
  · subst e; obtain ⟨cs, hc⟩ := own_blk ho hj; exact ne_type hd4 hc (by decide) rfl
  · refine ((h.is.below hal).other hcg fun e => ?_).other (Chg.set (S := Bs b) b 2 v4 rfl w4) fun e => ?_
    · obtain ⟨cs, hc⟩ := own_blk h.own2 e
      obtain ⟨cs', hc', _⟩ := h.is
      exact ne_type hc' hc (by decide) rfl
    · obtain ⟨cs', hc', _⟩ := h.is
      exact ne_type h.hd hc' (by decide) e.symm
  · exact (hcg.below hba hba.size fun k hk => (h.own2.lt k hk).1).setCell h.lo.1 _
theorem Bld.size (h : Bld w0 b bi vc vl lc ll w) (o : Obj) : w0.heap.size ≤ (w.alloc o).heap.size := by have := h.below.size; simp; omega
section
variable {ops : Array Oper} {rest : List Oper} {o : Oper} {a : Act} {Q : Exit → Act → World → Prop} {s y : Operand} {c : Nat}
theorem Bld.appC (h : Bld w0 b bi vc vl lc ll w) (e : Nat) (hn : lc.length + 1 ≤ 1000000) (hgd : o.guard = none) (hop : o.op = .call { callee := .builtin .append, args := #[s, y], argTypes := #[47, 47] })
    (hs : a.eval s = vc) (hx : a.eval y = .slice (some ⟨w.heap.size, 0, none⟩) 1 c)
    (k : ∀ ov nv cv w4, Hid (Bld w0 b bi (.slice ov nv cv) vl (lc ++ [e]) ll (w4.setCell ⟨b, 0, none⟩ (.slice ov nv cv))) → w4.cell? ⟨b, 0, none⟩ = some vc → w4.cell? ⟨b, 2, none⟩ = some vl → (∀ i, w4.frozen? ⟨b, i, none⟩ = false) → b < w4.heap.size → wpList Try.prog ops Q rest (a.put o.dst (.slice ov nv cv)) w4) :
    wpList Try.prog ops Q (o :: rest) a (w.alloc (.cells #[oc e] 5 (0, 0))) :=
  wpList_append_elt eltU _ hgd s y hop w0.heap.size vc hs lc (h.own1.alloc _) w.heap.size c hx e (row1 w (oc e) _) hn (h.size _) fun v4 w4 ho hg _ => by
    obtain ⟨ov, nv, cv, rfl⟩ := own_form ho
    exact k ov nv cv w4 (Lib.hid (h.putC ho hg)) ((h.hdC hg).cell 0 vc rfl) ((h.hdC hg).cell 2 vl rfl) (h.hdC hg).free (h.hdC hg).lt
theorem Bld.appL (h : Bld w0 b bi vc vl lc ll w) (e : Int) (hn : ll.length + 1 ≤ 1000000) (hgd : o.guard = none) (hop : o.op = .call { callee := .builtin .append, args := #[s, y], argTypes := #[48, 48] })
    (hs : a.eval s = vl) {n : Nat} (hx : a.eval y = .slice (some ⟨n, 0, none⟩) 1 c) (hsz : w.heap.size = n)
    (k : ∀ ov nv cv w4, Hid (Bld w0 b bi vc (.slice ov nv cv) lc (ll ++ [e]) (w4.setCell ⟨b, 2, none⟩ (.slice ov nv cv))) → w4.cell? ⟨b, 2, none⟩ = some vl → (∀ i, w4.frozen? ⟨b, i, none⟩ = false) → b < w4.heap.size → wpList Try.prog ops Q rest (a.put o.dst (.slice ov nv cv)) w4) :
    wpList Try.prog ops Q (o :: rest) a (w.alloc (.cells #[im e] 3 (0, 0))) :=
  wpList_append_elt eltI _ hgd s y hop w0.heap.size vl hs ll (h.own2.alloc _) w.heap.size c (hsz ▸ hx) e (row1 w (im e) _) hn (h.size _) fun v4 w4 ho hg _ => by
    obtain ⟨ov, nv, cv, rfl⟩ := own_form ho
    exact k ov nv cv w4 (Lib.hid (h.putL ho hg)) ((h.hdL hg).cell 2 vl rfl) (h.hdL hg).free (h.hdL hg).lt
end
/-- It is made. -/
theorem Bld.made (h : Bld w0 b bi vc vl lc ll w) (hc : lc = (List.range 64).map firstC) (hl : ll = (List.range 64).map fun _ => -1) : ∃ k : Rb, k.b = b ∧ R w k St.new ∧ w0.heap.size ≤ k.b ∧ w0.heap.size ≤ k.bc ∧ w0.heap.size ≤ k.bi ∧ w0.heap.size ≤ k.bl := by
  have n1 : lc.length = 64 := by rw [hc]; simp
  have n2 : ll.length = 64 := by rw [hl]; simp
  have ho := h.own1
  have hi := h.own2
  have hh := h.hd
  rcases ho.shape with ⟨_, e⟩ | ⟨g, cap, e, hbg⟩
  · rw [e] at n1; cases n1
  rcases hi.shape with ⟨_, e'⟩ | ⟨g', cap', e', hbg'⟩
  · rw [e'] at n2; cases n2
  rw [n1] at e
  rw [n2] at e'
  subst e e'
  refine ⟨⟨b, g, bi, g', cap, cap'⟩, rfl, ⟨hh, ?_, h.is, ?_, .new⟩, h.lo.1, hbg, h.lo.2, hbg'⟩
  · obtain ⟨cs, hcs⟩ := own_blk ho (b := g) rfl
    refine Ar.of hcs (by decide) fun d hd => ?_
    have := OwnS.cell (fc := fcC) (z := 1) (fun _ => rfl) ho d (firstC d) (by rw [hc]; simp [hd]) 0 (by decide)
    rwa [Nat.one_mul, Nat.add_zero] at this
  · obtain ⟨cs, hcs⟩ := own_blk hi (b := g') rfl
    refine Ar.of hcs (by decide) fun d hd => ?_
    have := OwnS.cell (fc := fcL) (z := 1) (fun _ => rfl) hi d (-1) (by rw [hl]; simp [hd]) 0 (by decide)
    rwa [Nat.one_mul, Nat.add_zero] at this
end
theorem infoB : (Try.prog.info? 4).map (fun i => (i.zero, i.size, i.bytes)) = some (some (.bool false), 1, 1) := by kernel_rfl
theorem make_bools (w : World) : ∃ cs, (Instr.makeSlice 34 (.int .i64 64) (.int .i64 64)).run Try.prog w = .ok (.slice (some ⟨w.heap.size, 0, none⟩) 64 64) (w.alloc (.cells cs 4)) ∧ 64 ≤ cs.size ∧ ∀ d, d < 64 → cs[d]? = some (.bool false) := by
  obtain ⟨i, hi, hz0, hz1, hz2⟩ := info_parts infoB
  have h := run_make (P := Try.prog) w 34 4 i (.bool false) Try.underlying34 hi hz0 .i64 .i64 (64 : Int) (64 : Int) (by omega) (Int.le_refl _) (by rw [hz2]; omega) (by omega)
  rw [hz1] at h
  have e : (madeCells (Value.cells (.bool false)) ((64 : Int).toNat * 1)).toList = List.replicate 64 (.bool false) := by
    show (madeCells #[.bool false] 64).toList = _
    rw [toList_madeCells_one]
  refine ⟨_, h, ?_, fun d hd => ?_⟩
  · rw [← Array.length_toList, e, List.length_replicate]; exact Nat.le_refl _
  · rw [← Array.getElem?_toList, e, List.getElem?_replicate, if_pos hd]
set_option maxHeartbeats 8000000 in
set_option maxRecDepth 100000 in
theorem rnew (w : World) : Calls Try.prog 9 #[] w fun e w' => ∃ k : Rb, e = .returned (ptr k.b) ∧ R w' k St.new ∧ (w.heap.size ≤ k.b ∧ w.heap.size ≤ k.bc ∧ w.heap.size ≤ k.bi ∧ w.heap.size ≤ k.bl) ∧ Below w.heap.size w w' := by
  obtain ⟨cs, hmk, hcs1, hcs2⟩ := make_bools w
  have HB0 : Hid (Bld w (w.heap.size + 1) w.heap.size (.slice none 0 0) (.slice none 0 0) [] [] ((w.alloc (.cells cs 4)).alloc (.cells #[.slice none 0 0, .slice (some ⟨w.heap.size, 0, none⟩) 64 64, .slice none 0 0] RT))) := Lib.hid
    ⟨nest w [.cells cs 4, .cells #[.slice none 0 0, .slice (some ⟨w.heap.size, 0, none⟩) 64 64, .slice none 0 0] RT] 1 _ rfl, ownS_nil _ _, ownS_nil _ _,
      ⟨cs, nest w [.cells cs 4, .cells #[.slice none 0 0, .slice (some ⟨w.heap.size, 0, none⟩) 64 64, .slice none 0 0] RT] 0 _ rfl, hcs1, hcs2⟩, ⟨by omega, Nat.le_refl _⟩, nest_below w [.cells cs 4, .cells #[.slice none 0 0, .slice (some ⟨w.heap.size, 0, none⟩) 64 64, .slice none 0 0] RT]⟩
  clear hcs1 hcs2
  go_enter Try.func9, Try.ntmps9
  go_wp2_with fail
  clear hmk
  generalize (w.alloc (.cells cs 4)).alloc (.cells #[.slice none 0 0, .slice (some ⟨w.heap.size, 0, none⟩) 64 64, .slice none 0 0] RT) = w1 at HB0 ⊢
  generalize hb : w.heap.size + 1 = b at HB0 ⊢
  clear hb
  obtain ⟨bi, hbi⟩ : ∃ bi, bi = w.heap.size := ⟨_, rfl⟩
  have HB : Hid (Bld w b bi (.slice none 0 0) (.slice none 0 0) [] [] w1) := Lib.hid (hbi ▸ HB0.out)
  clear hbi HB0
  go_loopg [2] 64 (fun gm s wr => ∃ (k : Nat) (vc vl : Value) (lc : List Nat) (ll : List Int), s = nm k ∧ 64 - k ≤ gm ∧ k ≤ 64 ∧ Hid (lc = (List.range k).map firstC ∧ ll = (List.range k).map fun _ => -1) ∧ Hid (Bld w b bi vc vl lc ll wr))
  case atStart => exact ⟨0, _, _, [], [], rfl, by omega, by omega, Lib.hid ⟨rfl, rfl⟩, HB⟩
  case round =>
    clear HB
    obtain ⟨k, vc, vl, lc, ll, rfl, hgm, hkn, HL, HB⟩ := hrel
    obtain ⟨oc1, nc1, kc1, rfl⟩ := own_form HB.out.own1
    obtain ⟨ol1, nl1, kl1, rfl⟩ := own_form HB.out.own2
    by_cases hlt : k < 64
    · have t1 : decide ((k : Int) < 64) = true := decide_eq_true (by omega)
      have t2 : (k : Int) < 64 := by omega
      have vk : IntKind.i64.wrap ((k : Int) + 1) = ((k + 1 : Nat) : Int) := by rw [IntKind.wrap_i64]; omega
      have c0 := HB.out.hd.cell 0 (.slice oc1 nc1 kc1) rfl
      have c2 := HB.out.hd.cell 2 (.slice ol1 nl1 kl1) rfl
      have hfr := HB.out.hd.free
      have hlt3 := HB.out.hd.lt
      have HZ : Hid (lc.length + 1 ≤ 1000000 ∧ ll.length + 1 ≤ 1000000) := Lib.hid (by rw [HL.out.1, HL.out.2]; simp; omega)
      obtain ⟨e, he⟩ : ∃ e, firstC k = e := ⟨_, rfl⟩
      have HE := Lib.hid he
      have he64 : e < 64 := he ▸ firstC_lt k
      have ve : IntKind.u8.wrap (e : Int) = (e : Int) := by rw [IntKind.wrap_u8]; omega
      obtain ⟨m, hm⟩ : ∃ m, k % 8 = m := ⟨_, rfl⟩
      have r1 : (k : Int).tmod 8 = (m : Int) := by rw [Int.tmod_eq_emod_of_nonneg (by omega)]; omega
      have r2 : (k : Int) % 8 = (m : Int) := by omega
      obtain ⟨n, hn⟩ : ∃ n, k - m = n := ⟨_, rfl⟩
      have v1 : IntKind.i64.wrap ((k : Int) - (m : Int)) = (n : Int) := by rw [IntKind.wrap_i64]; omega
      obtain ⟨q, hq⟩ : ∃ q, n + 7 = q := ⟨_, rfl⟩
      have v2 : IntKind.i64.wrap ((n : Int) + 7) = (q : Int) := by rw [IntKind.wrap_i64]; omega
      have hf : e = if k = 0 then 0 else min q 61 := by rw [← he]; unfold firstC; rw [hm, hn, hq]
      clear hm hn hq he
      by_cases h0 : k = 0
      · subst h0
        rw [if_pos rfl] at hf
        subst hf
        clear r2
        go_wp2_with (first
          | (at_builtin; refine HB.out.appC 0 HZ.out.1 rfl rfl rfl rfl ?_; intro ov nv cv w4 h1 q0 q1 q2 q3; have HB2 := h1; have p0 := q0; have p1 := q1; have p2 := q2; have p3 := q3; clear h1 q0 q1 q2 q3)
          | (at_builtin; refine HB2.out.appL (-1) HZ.out.2 rfl rfl rfl rfl (by simp) ?_; intro ov nv cv w4 h1 q0 q2 q3; have HB3 := h1; have p0 := q0; have p2 := q2; have p3 := q3; clear h1 q0 q2 q3))
        go_roundg (64 - (0 + 1))
        case measure => omega
        case rel => exact ⟨0 + 1, _, _, lc ++ [0], ll ++ [-1], by first | rfl | go_num, Nat.le_refl _, by omega, Lib.hid (by rw [HL.out.1, HL.out.2, List.range_succ, List.map_append, List.map_append]; exact ⟨congrArg (fun z => List.map firstC (List.range _) ++ [z]) HE.out.symm, rfl⟩), HB3⟩
      have z0 : ((k : Int) == 0) = false := beq_false (by omega)
      have z1 : ¬ (k : Int) = 0 := by omega
      rw [if_neg h0] at hf
      by_cases h1 : 61 < q
      · obtain rfl : e = 61 := by omega
        have s0 : decide ((61 : Int) < (q : Int)) = true := decide_eq_true (by omega)
        have s1 : (61 : Int) < (q : Int) := by omega
        clear hf h0 h1
        go_wp2_with (first
          | (at_builtin; refine HB.out.appC 61 HZ.out.1 rfl rfl rfl rfl ?_; intro ov nv cv w4 h1 q0 q1 q2 q3; have HB2 := h1; have p0 := q0; have p1 := q1; have p2 := q2; have p3 := q3; clear h1 q0 q1 q2 q3)
          | (at_builtin; refine HB2.out.appL (-1) HZ.out.2 rfl rfl rfl rfl (by simp) ?_; intro ov nv cv w4 h1 q0 q2 q3; have HB3 := h1; have p0 := q0; have p2 := q2; have p3 := q3; clear h1 q0 q2 q3))
        go_roundg (64 - (k + 1))
        case measure => omega
        case rel => exact ⟨k + 1, _, _, lc ++ [61], ll ++ [-1], by first | rfl | go_num, Nat.le_refl _, by omega, Lib.hid (by rw [HL.out.1, HL.out.2, List.range_succ, List.map_append, List.map_append]; exact ⟨congrArg (fun z => List.map firstC (List.range _) ++ [z]) HE.out.symm, rfl⟩), HB3⟩
      · obtain rfl : q = e := by omega
        have s0 : decide ((61 : Int) < (q : Int)) = false := decide_eq_false (by omega)
        have s1 : ¬ (61 : Int) < (q : Int) := by omega
        clear hf h0 h1
        go_wp2_with (first
          | (at_builtin; refine HB.out.appC q HZ.out.1 rfl rfl rfl rfl ?_; intro ov nv cv w4 h1 q0 q1 q2 q3; have HB2 := h1; have p0 := q0; have p1 := q1; have p2 := q2; have p3 := q3; clear h1 q0 q1 q2 q3)
          | (at_builtin; refine HB2.out.appL (-1) HZ.out.2 rfl rfl rfl rfl (by simp) ?_; intro ov nv cv w4 h1 q0 q2 q3; have HB3 := h1; have p0 := q0; have p2 := q2; have p3 := q3; clear h1 q0 q2 q3))
        go_roundg (64 - (k + 1))
        case measure => omega
        case rel => exact ⟨k + 1, _, _, lc ++ [q], ll ++ [-1], by first | rfl | go_num, Nat.le_refl _, by omega, Lib.hid (by rw [HL.out.1, HL.out.2, List.range_succ, List.map_append, List.map_append]; exact ⟨congrArg (fun z => List.map firstC (List.range _) ++ [z]) HE.out.symm, rfl⟩), HB3⟩
    · have hk : k = 64 := by omega
      subst hk
      obtain ⟨kb, e, hR, hlo⟩ := HB.out.made HL.out.1 HL.out.2
      have HF := Lib.hid (And.intro e (And.intro hR (And.intro hlo HB.out.below)))
      clear HB e hR hlo
      go_wp2
      go_ret
      exact ⟨kb, by rw [HF.out.1]; rfl, HF.out.2.1, HF.out.2.2.1, HF.out.2.2.2⟩
end Go.Proofs.Ytiicgfkcjpeiiaa.Pi

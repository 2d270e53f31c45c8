/-
  Two links, and what is on its way between them, in memory; what said leaves. Condition: they lie where they say; at most a thousand answers wait.
-/
import Derived.Test.YtfflbaiddiahnaaLkPlaysLaw
import Derived.Test.YtfflbaiddiahnaaRz
namespace Go.Proofs.Ytfflbaiddiahnaa.Lk
open Go.RowKit Go.Proofs.Ytfflbaiddiahnaa.Base Go.Proofs.Ytfflbaiddiahnaa.Mem
/-- An answer's cells. -/
def fcA (a : Ac) : List Value := [.int .u8 a.k, .bool a.c, .bool a.p, .int .u8 a.t, .int .u8 a.f]
theorem elA : Elt 30 42 5 fcA :=
  ⟨Try.underlying42, ⟨.agg #[.int .u8 0, .bool false, .bool false, .int .u8 0, .int .u8 0], 5, by kernel_rfl, rfl, by decide⟩, fun _ => rfl, fun x u hu => by
    simp only [fcA, List.mem_cons, List.not_mem_nil, or_false] at hu
    rcases hu with rfl | rfl | rfl | rfl | rfl <;> rfl, by decide⟩
/-- Two links and what each will hear. -/
structure Tw where
  a : Lk
  b : Lk
  q0 : List Ac
  q1 : List Ac
structure TwAt (w0 : World) (pa pb tb : Nat) (v0 v1 : Value) (t : Tw) (w : World) : Prop where
  la : LkAt w pa t.a
  lb : LkAt w pb t.b
  blk : w.heap[tb]? = some (.cells #[ptr pa, ptr pb, v0, v1] 45 (0, 0))
  h0 : Qz 5 fcA w (tb + 1) v0 t.q0
  h1 : Qz 5 fcA w (tb + 1) v1 t.q1
  sep : ∀ g, v0.ownBlock = some g → v1.ownBlock ≠ some g
  ab : pa < pb
  bt : pb < tb
  lo : w0.heap.size ≤ pa
  below : Below w0.heap.size w0 w
section
variable {w0 w w' : World} {pa pb tb : Nat} {v0 v1 : Value} {t : Tw} {l : Lk}
theorem TwAt.on (h : TwAt w0 pa pb tb v0 v1 t w) (hb : Below w.heap.size w w') : TwAt w0 pa pb tb v0 v1 t w' :=
  ⟨h.la.below hb, h.lb.below hb, stays h.blk hb, h.h0.below hb, h.h1.below hb, h.sep, h.ab, h.bt, h.lo, below_on h.below hb⟩
theorem TwAt.drew (h : TwAt w0 pa pb tb v0 v1 t w) : TwAt w0 pa pb tb v0 v1 t w.drew := h.on ⟨rfl, rfl, rfl, Nat.le_refl _, fun _ _ => rfl⟩
theorem qz_chg {S : Nat → Prop} {base : Nat} {v : Value} {q : List Ac} (h : Qz 5 fcA w base v q) (hc : Chg S w w') (hs : ∀ k, S k → k < base) : Qz 5 fcA w' base v q :=
  h.eqv fun g hg => by
    obtain ⟨h1, h2⟩ := h.lt g hg
    exact hc.block g h2 fun hS => by have := hs g hS; omega
theorem TwAt.doA (h : TwAt w0 pa pb tb v0 v1 t w) (hd : Does pa l w w') : TwAt w0 pa pb tb v0 v1 ⟨l, t.b, t.q0, t.q1⟩ w' := by
  have h1 := h.ab
  have h2 := h.bt
  have h3 := h.lo
  exact ⟨hd.at_, h.lb.other hd.chg (by omega), hd.chg.stays h.blk (by omega), qz_chg h.h0 hd.chg (fun k e => by omega), qz_chg h.h1 hd.chg (fun k e => by omega), h.sep, h.ab, h.bt, h.lo, hd.chg.below h.below h.below.size fun k e => by omega⟩
theorem TwAt.doB (h : TwAt w0 pa pb tb v0 v1 t w) (hd : Does pb l w w') : TwAt w0 pa pb tb v0 v1 ⟨t.a, l, t.q0, t.q1⟩ w' := by
  have h1 := h.ab
  have h2 := h.bt
  have h3 := h.lo
  exact ⟨h.la.other hd.chg (by omega), hd.at_, hd.chg.stays h.blk (by omega), qz_chg h.h0 hd.chg (fun k e => by omega), qz_chg h.h1 hd.chg (fun k e => by omega), h.sep, h.ab, h.bt, h.lo, hd.chg.below h.below h.below.size fun k e => by omega⟩
theorem TwAt.cells (h : TwAt w0 pa pb tb v0 v1 t w) : w.cell? ⟨tb, 0, none⟩ = some (ptr pa) ∧ w.cell? ⟨tb, 1, none⟩ = some (ptr pb) ∧ w.cell? ⟨tb, 2, none⟩ = some v0 ∧ w.cell? ⟨tb, 3, none⟩ = some v1 :=
  ⟨cell_of h.blk rfl, cell_of h.blk rfl, cell_of h.blk rfl, cell_of h.blk rfl⟩
theorem TwAt.free (h : TwAt w0 pa pb tb v0 v1 t w) : ∀ i, w.frozen? ⟨tb, i, none⟩ = false := fun _ => free_of h.blk
theorem qz_set {base b o : Nat} {v u : Value} {q : List Ac} (h : Qz 5 fcA w base v q) (hb : b < base) : Qz 5 fcA (w.setCell ⟨b, o, none⟩ u) base v q :=
  h.eqv fun g hg => Below.heap_setCell w _ _ _ (fun e => by have := (h.lt g hg).1; have : g = b := e; omega)
/-- The second queue is another slice then: made of the elder one, or new. -/
theorem TwAt.put1 (h : TwAt w0 pa pb tb v0 v1 t w) {q : List Ac} {v : Value} (hg : w.grownBy w' v1.ownBlock) (hq : Qz 5 fcA w' (tb + 1) v q) (ho : v.ownBlock = v1.ownBlock ∨ v.ownBlock = some w.heap.size ∨ v.ownBlock = none) :
    TwAt w0 pa pb tb v0 v ⟨t.a, t.b, t.q0, q⟩ (w'.setCell ⟨tb, 3, none⟩ v) := by
  have h1 := h.ab
  have h2 := h.bt
  have h3 := h.lo
  have hn : ∀ k, k ≤ tb → some k ≠ v1.ownBlock := fun k hk e => by have := (h.h1.lt k e.symm).1; omega
  have st : ∀ {k : Nat} {o : Obj}, k < tb → w.heap[k]? = some o → (w'.setCell ⟨tb, 3, none⟩ v).heap[k]? = some o := fun {k o} hk ho =>
    (set_other (by omega) v).trans ((hg.block k (lt_heap ho) (hn k (by omega))).trans ho)
  have hb2 : w'.heap[tb]? = some (.cells #[ptr pa, ptr pb, v0, v1] 45 (0, 0)) := (hg.block tb (lt_heap h.blk) (hn tb (Nat.le_refl _))).trans h.blk
  have hq0 : Qz 5 fcA w' (tb + 1) v0 t.q0 := h.h0.eqv fun g e => hg.block g (h.h0.lt g e).2 fun e2 => h.sep g e e2.symm
  refine ⟨st (by omega) h.la, st (by omega) h.lb, block_set (i := 3) hb2 v, qz_set hq0 (by omega), qz_set hq (by omega), fun g e e2 => ?_, h.ab, h.bt, h.lo, ?_⟩
  · rcases ho with ho | ho | ho
    · exact h.sep g e (by rw [← ho, e2])
    · rw [ho, Option.some.injEq] at e2
      have := (h.h0.lt g e).2
      omega
    · rw [ho] at e2; cases e2
  · refine Below.setCell (p := ⟨tb, 3, none⟩) ⟨hg.os.trans h.below.os, hg.tape.trans h.below.tape, hg.output.trans h.below.output, Nat.le_trans h.below.size hg.size, fun k hk => (hg.block k (Nat.lt_of_lt_of_le hk h.below.size) (hn k (by omega))).trans (h.below.block k hk)⟩ (by show w0.heap.size ≤ tb; omega) v
theorem TwAt.put0 (h : TwAt w0 pa pb tb v0 v1 t w) {q : List Ac} {v : Value} (hg : w.grownBy w' v0.ownBlock) (hq : Qz 5 fcA w' (tb + 1) v q) (ho : v.ownBlock = v0.ownBlock ∨ v.ownBlock = some w.heap.size ∨ v.ownBlock = none) :
    TwAt w0 pa pb tb v v1 ⟨t.a, t.b, q, t.q1⟩ (w'.setCell ⟨tb, 2, none⟩ v) := by
  have h1 := h.ab
  have h2 := h.bt
  have h3 := h.lo
  have hn : ∀ k, k ≤ tb → some k ≠ v0.ownBlock := fun k hk e => by have := (h.h0.lt k e.symm).1; omega
  have st : ∀ {k : Nat} {o : Obj}, k < tb → w.heap[k]? = some o → (w'.setCell ⟨tb, 2, none⟩ v).heap[k]? = some o := fun {k o} hk ho =>
    (set_other (by omega) v).trans ((hg.block k (lt_heap ho) (hn k (by omega))).trans ho)
  have hb2 : w'.heap[tb]? = some (.cells #[ptr pa, ptr pb, v0, v1] 45 (0, 0)) := (hg.block tb (lt_heap h.blk) (hn tb (Nat.le_refl _))).trans h.blk
  have hq1 : Qz 5 fcA w' (tb + 1) v1 t.q1 := h.h1.eqv fun g e => hg.block g (h.h1.lt g e).2 fun e2 => h.sep g e2.symm e
  refine ⟨st (by omega) h.la, st (by omega) h.lb, block_set (i := 2) hb2 v, qz_set hq (by omega), qz_set hq1 (by omega), fun g e e2 => ?_, h.ab, h.bt, h.lo, ?_⟩
  · rcases ho with ho | ho | ho
    · exact h.sep g (by rw [← ho, e]) e2
    · rw [ho, Option.some.injEq] at e
      have := (h.h1.lt g e2).2
      omega
    · rw [ho] at e; cases e
  · refine Below.setCell (p := ⟨tb, 2, none⟩) ⟨hg.os.trans h.below.os, hg.tape.trans h.below.tape, hg.output.trans h.below.output, Nat.le_trans h.below.size hg.size, fun k hk => (hg.block k (Nat.lt_of_lt_of_le hk h.below.size) (hn k (by omega))).trans (h.below.block k hk)⟩ (by show w0.heap.size ≤ tb; omega) v
end
/-- Nothing is said. -/
theorem fsaid0_no (w : World) (p : Value) (x : Ac) (hx : x.k = 0) :
    Calls Try.prog 17 #[p, .int .i64 0, av x] w fun e w' => e = .returned (.tuple #[]) ∧ Below w.heap.size w w' := by
  obtain ⟨xk, xc, xp, xt, xf⟩ := x
  dsimp only at hx
  subst hx
  go_enter Try.func17, Try.ntmps17
  go_wp2
  go_end0
  exact ⟨rfl, nest_below w [_]⟩
set_option maxHeartbeats 4000000 in
set_option maxRecDepth 100000 in
theorem fsaid0 (w0 : World) (w : World) (pa pb tb : Nat) (v0 v1 : Value) (t : Tw) (x : Ac) (hx : x.k ≠ 0) (hl : t.q1.length ≤ 1000) (h : TwAt w0 pa pb tb v0 v1 t w) :
    Calls Try.prog 17 #[ptr tb, .int .i64 0, av x] w fun e w' => e = .returned (.tuple #[]) ∧ ∃ u, TwAt w0 pa pb tb v0 u ⟨t.a, t.b, t.q0, t.q1 ++ [x]⟩ w' ∧ Chg (fun k => k = tb ∨ v1.ownBlock = some k) w w' := by
  have H := Lib.hid h
  obtain ⟨oa, cap, hv⟩ := h.h1.form
  have HV := Lib.hid hv
  have HL := Lib.hid hl
  have htb := lt_heap h.blk
  have n0 : (x.k != 0) = true := bne_true hx
  have vw0 : IntKind.i64.wrap 0 = 0 := by decide
  have vw1 : IntKind.i64.wrap 1 = 1 := by decide
  clear h hv hl hx
  go_enter Try.func17, Try.ntmps17
  go_wp2_with fail
  have H1 : Hid (TwAt w0 pa pb tb v0 v1 t (w.alloc (aO x 30)).drew) := Lib.hid (H.out.on ((nest_below w [_]).drew))
  have hS0 : (w.alloc (aO x 30)).drew.heap[w.heap.size]? = some (aO x 30) := nest w [_] 0 _ rfl
  obtain ⟨n1, hn1⟩ : ∃ n, n = w.heap.size := ⟨_, rfl⟩
  have HN1 := Lib.hid hn1
  have hsz : (w.alloc (aO x 30)).drew.heap.size = n1 + 1 := by rw [hn1]; exact size_alloc w _
  have HSZ := Lib.hid hsz
  rw [← hn1] at hS0
  have hne : tb < n1 := by rw [hn1]; exact htb
  simp only [← hn1]
  clear hsz hn1 htb
  refine wp_region_held_drew (S := (fun w' => w'.heap[n1]? = some (aO x 30))) (by kernel_rfl) hS0 (fun hHeld => ?_)
  refine' wpAnyH_take (i := 0) (oi := { dst := some 9, op := Go.Op.move (Go.Operand.tmp 0), type := 40, pos := "law.go:79", after := #[], guard := none }) (v := _) rfl (by kernel_rfl) (by kernel_rfl) (by kernel_rfl) (fun _ _ _ h => h) (Or.inl ⟨by rfl, ?hy1⟩) (by assumption) ?hr1
  case hy1 => (intro _ hSw; (try dsimp only at hSw); go_simp <;> with_reducible rfl)
  simp only [Act.put, List.setIfInBounds_toArray, List.set_cons_zero, List.set_cons_succ]
  refine' wpAnyH_take (i := 1) (oi := { dst := some 10, op := Go.Op.move (Go.Operand.tmp 1), type := 3, pos := "law.go:79", after := #[], guard := none }) (v := _) rfl (by kernel_rfl) (by kernel_rfl) (by kernel_rfl) (fun _ _ _ h => h) (Or.inl ⟨by rfl, ?hy2⟩) (by assumption) ?hr2
  case hy2 => (intro _ hSw; (try dsimp only at hSw); go_simp <;> with_reducible rfl)
  simp only [Act.put, List.setIfInBounds_toArray, List.set_cons_zero, List.set_cons_succ]
  refine' wpAnyH_take (i := 2) (oi := { dst := some 11, op := Go.Op.binOp Go.BinOp.sub 3 (Go.Operand.const (Go.Value.int Go.IntKind.i64 1)) (Go.Operand.tmp 10) 3, type := 3, pos := "law.go:79", after := #[{ on := 1, ground := Go.Ground.data }], guard := none }) (v := _) rfl (by kernel_rfl) (by kernel_rfl) (by kernel_rfl) (fun _ _ _ h => h) (Or.inl ⟨by rfl, ?hy3⟩) (by assumption) ?hr3
  case hy3 => (intro _ hSw; (try dsimp only at hSw); go_simp <;> with_reducible rfl)
  simp only [Act.put, List.setIfInBounds_toArray, List.set_cons_zero, List.set_cons_succ]
  refine' wpAnyH_take (i := 3) (oi := { dst := some 12, op := Go.Op.move (Go.Operand.tmp 0), type := 40, pos := "law.go:79", after := #[], guard := none }) (v := _) rfl (by kernel_rfl) (by kernel_rfl) (by kernel_rfl) (fun _ _ _ h => h) (Or.inl ⟨by rfl, ?hy4⟩) (by assumption) ?hr4
  case hy4 => (intro _ hSw; (try dsimp only at hSw); go_simp <;> with_reducible rfl)
  simp only [Act.put, List.setIfInBounds_toArray, List.set_cons_zero, List.set_cons_succ]
  refine' wpAnyH_take (i := 4) (oi := { dst := some 13, op := Go.Op.move (Go.Operand.tmp 1), type := 3, pos := "law.go:79", after := #[], guard := none }) (v := _) rfl (by kernel_rfl) (by kernel_rfl) (by kernel_rfl) (fun _ _ _ h => h) (Or.inl ⟨by rfl, ?hy5⟩) (by assumption) ?hr5
  case hy5 => (intro _ hSw; (try dsimp only at hSw); go_simp <;> with_reducible rfl)
  simp only [Act.put, List.setIfInBounds_toArray, List.set_cons_zero, List.set_cons_succ]
  refine' wpAnyH_take (i := 5) (oi := { dst := some 14, op := Go.Op.binOp Go.BinOp.sub 3 (Go.Operand.const (Go.Value.int Go.IntKind.i64 1)) (Go.Operand.tmp 13) 3, type := 3, pos := "law.go:79", after := #[{ on := 4, ground := Go.Ground.data }], guard := none }) (v := _) rfl (by kernel_rfl) (by kernel_rfl) (by kernel_rfl) (fun _ _ _ h => h) (Or.inl ⟨by rfl, ?hy6⟩) (by assumption) ?hr6
  case hy6 => (intro _ hSw; (try dsimp only at hSw); go_simp <;> with_reducible rfl)
  simp only [Act.put, List.setIfInBounds_toArray, List.set_cons_zero, List.set_cons_succ]
  refine' wpAnyH_take (i := 6) (oi := { dst := some 15, op := Go.Op.nilCheck (Go.Operand.tmp 12), type := 0, pos := "law.go:79", after := #[{ on := 3, ground := Go.Ground.data }], guard := none }) (v := _) rfl (by kernel_rfl) (by kernel_rfl) (by kernel_rfl) (fun _ _ _ h => h) (Or.inl ⟨by rfl, ?hy7⟩) (by assumption) ?hr7
  case hy7 => (intro _ hSw; (try dsimp only at hSw); go_simp <;> with_reducible rfl)
  simp only [Act.put, List.setIfInBounds_toArray, List.set_cons_zero, List.set_cons_succ]
  refine' wpAnyH_take (i := 7) (oi := { dst := some 16, op := Go.Op.fieldAddr 45 (Go.Operand.tmp 15) 1, type := 0, pos := "law.go:79", after := #[{ on := 6, ground := Go.Ground.data }], guard := none }) (v := _) rfl (by kernel_rfl) (by kernel_rfl) (by kernel_rfl) (fun _ _ _ h => h) (Or.inl ⟨by rfl, ?hy8⟩) (by assumption) ?hr8
  case hy8 => (intro _ hSw; (try dsimp only at hSw); go_simp <;> with_reducible rfl)
  simp only [Act.put, List.setIfInBounds_toArray, List.set_cons_zero, List.set_cons_succ]
  refine' wpAnyH_take (i := 8) (oi := { dst := some 17, op := Go.Op.indexAddr 43 (Go.Operand.tmp 16) (Go.Operand.tmp 14), type := 0, pos := "law.go:79", after := #[{ on := 7, ground := Go.Ground.data }, { on := 5, ground := Go.Ground.data }], guard := none }) (v := _) rfl (by kernel_rfl) (by kernel_rfl) (by kernel_rfl) (fun _ _ _ h => h) (Or.inl ⟨by rfl, ?hy9⟩) (by assumption) ?hr9
  case hy9 => (intro _ hSw; (try dsimp only at hSw); go_simp <;> with_reducible rfl)
  simp only [Act.put, List.setIfInBounds_toArray, List.set_cons_zero, List.set_cons_succ]
  refine' wpAnyH_take (i := 10) (oi := { dst := some 19, op := Go.Op.load 30 (Go.Operand.tmp 5), type := 30, pos := "law.go:79", after := #[], guard := none }) (v := _) rfl (by kernel_rfl) (by kernel_rfl) (by kernel_rfl) (fun _ _ _ h => h) (Or.inl ⟨by rfl, ?hy10⟩) (by assumption) ?hr10
  case hy10 => (intro _ hSw; (try dsimp only at hSw); obtain ⟨⟨z0, z1, z2, z3, z4⟩, -⟩ := cells5 hSw; go_simp <;> with_reducible rfl)
  simp only [Act.put, List.setIfInBounds_toArray, List.set_cons_zero, List.set_cons_succ]
  refine' wpAnyH_take (i := 13) (oi := { dst := some 22, op := Go.Op.nilCheck (Go.Operand.tmp 9), type := 0, pos := "law.go:79", after := #[{ on := 0, ground := Go.Ground.data }], guard := none }) (v := _) rfl (by kernel_rfl) (by kernel_rfl) (by kernel_rfl) (fun _ _ _ h => h) (Or.inl ⟨by rfl, ?hy11⟩) (by assumption) ?hr11
  case hy11 => (intro _ hSw; (try dsimp only at hSw); go_simp <;> with_reducible rfl)
  simp only [Act.put, List.setIfInBounds_toArray, List.set_cons_zero, List.set_cons_succ]
  refine' wpAnyH_take (i := 14) (oi := { dst := some 23, op := Go.Op.fieldAddr 45 (Go.Operand.tmp 22) 1, type := 0, pos := "law.go:79", after := #[{ on := 13, ground := Go.Ground.data }], guard := none }) (v := _) rfl (by kernel_rfl) (by kernel_rfl) (by kernel_rfl) (fun _ _ _ h => h) (Or.inl ⟨by rfl, ?hy12⟩) (by assumption) ?hr12
  case hy12 => (intro _ hSw; (try dsimp only at hSw); go_simp <;> with_reducible rfl)
  simp only [Act.put, List.setIfInBounds_toArray, List.set_cons_zero, List.set_cons_succ]
  clear hHeld
  generalize hw1 : (w.alloc (aO x 30)).drew = w1 at H1 hS0 HSZ ⊢
  have HW1 := Lib.hid hw1
  clear hw1
  have c3 := H1.out.cells.2.2.2
  rw [HV.out] at c3
  have HS0 := Lib.hid hS0
  clear hS0
  refine wpAnyH_ready (rs := [9, 11]) (by kernel_rfl) (by simp) ?_
  refine AllReadyH.cons (o := { dst := some 18, op := Go.Op.load 42 (Go.Operand.tmp 17), type := 42, pos := "law.go:79", after := #[{ on := 8, ground := Go.Ground.data }], guard := none }) rfl (fun K hK => ?_) (AllReadyH.cons (o := { dst := some 20, op := Go.Op.buildSlice 42 1 #[(0, Go.Operand.tmp 19)], type := 42, pos := "law.go:79", after := #[{ on := 10, ground := Go.Ground.data }], guard := none }) rfl (fun K hK => ?_) AllReadyH.nil)
  · go_simp
    refine hK.out _ _ HS0.out (fun hNext => ?_)
    clear hK K
    have hHeld := hNext
    clear hNext
    (try simp only [Act.put, List.setIfInBounds_toArray, List.set_cons_zero, List.set_cons_succ])
    refine wpAnyH_ready (rs := [11]) (by kernel_rfl) (by simp) ?_
    refine AllReadyH.cons (o := { dst := some 20, op := Go.Op.buildSlice 42 1 #[(0, Go.Operand.tmp 19)], type := 42, pos := "law.go:79", after := #[{ on := 10, ground := Go.Ground.data }], guard := none }) rfl (fun K hK => ?_) AllReadyH.nil
    go_simp
    refine hK.out _ _ (stays HS0.out (nest_below w1 [_])) (fun hNext => ?_)
    clear hHeld
    clear hK K
    have hHeld := hNext
    clear hNext
    (try simp only [Act.put, List.setIfInBounds_toArray, List.set_cons_zero, List.set_cons_succ])
    have H2 : Hid (TwAt w0 pa pb tb v0 v1 t (w1.alloc (aO x 30))) := Lib.hid (H1.out.on (nest_below w1 [_]))
    have HSR : Hid (Src Try.prog 5 42 (.slice (some ⟨w1.heap.size, 0, none⟩) 1 1) 1 ([x].flatMap fcA) (w1.alloc (aO x 30))) := by
      refine srcz_at elA _ w1.heap.size 0 1 1 [x] rfl (fun i y hi j hj => ?_)
      have hlt := (List.getElem?_eq_some_iff.1 hi).1
      simp only [List.length_cons, List.length_nil] at hlt
      obtain rfl : i = 0 := by omega
      have hy := (Option.some.inj hi).symm
      rw [hy]
      have hb : (w1.alloc (aO x 30)).heap[w1.heap.size]? = some (aO x 30) := nest w1 [_] 0 _ rfl
      match j, hj with
      | 0, _ => exact cell_of hb rfl
      | 1, _ => exact cell_of hb rfl
      | 2, _ => exact cell_of hb rfl
      | 3, _ => exact cell_of hb rfl
      | 4, _ => exact cell_of hb rfl
    obtain ⟨u, w2, hr, hq, hg, ho⟩ := run_append_q elA (w1.alloc (aO x 30)) 42 (tb + 1) v1 t.q1 H2.out.h1 _ 1 [x] rfl HSR.out (by decide) (by have := HL.out; omega) (by have := lt_heap H2.out.blk; omega)
    rw [HV.out] at hr
    obtain ⟨ob, ucap, hu⟩ := hq.form
    rw [List.length_append, List.length_singleton] at hu
    have HP : Hid (TwAt w0 pa pb tb v0 u ⟨t.a, t.b, t.q0, t.q1 ++ [x]⟩ (w2.setCell ⟨tb, 3, none⟩ u)) := Lib.hid (H2.out.put1 hg hq (ho.imp id Or.inl))
    have HC : Hid (Chg (fun k => k = tb ∨ v1.ownBlock = some k) w (w2.setCell ⟨tb, 3, none⟩ u)) := by
      have h1 : Chg (fun k => k = tb ∨ v1.ownBlock = some k) w (w1.alloc (aO x 30)) := by rw [← HW1.out]; exact (((Chg.refl _ w).alloc _).drew).alloc _
      exact (h1.grown hg (fun k e _ => Or.inr e)).setCell tb 3 u (fun _ => Or.inl rfl)
    have hS2 : w2.heap[n1]? = some (aO x 30) := by
      have h1 : (w1.alloc (aO x 30)).heap[n1]? = some (aO x 30) := stays HS0.out (nest_below w1 [_])
      refine (hg.block n1 (lt_heap h1) fun e => ?_).trans h1
      have := (H.out.h1.lt n1 e.symm).2
      have := HN1.out
      omega
    have hb2 : w2.heap[tb]? = some (.cells #[ptr pa, ptr pb, v0, v1] 45 (0, 0)) := (hg.block tb (lt_heap H2.out.blk) (fun e => by have := (H2.out.h1.lt tb e.symm).1; omega)).trans H2.out.blk
    refine wpAnyH_ready (rs := [12]) (by kernel_rfl) (by simp) ?_
    refine AllReadyH.cons (o := { dst := some 21, op := Go.Op.call { callee := Go.Callee.builtin Go.Builtin.append, args := #[Go.Operand.tmp 18, Go.Operand.tmp 20], argTypes := #[42, 42] }, type := 42, pos := "law.go:79", after := #[{ on := 9, ground := Go.Ground.data }, { on := 11, ground := Go.Ground.data }], guard := none }) rfl (fun K hK => ?_) AllReadyH.nil
    refine step_append_known rfl _ _ _ _ rfl rfl rfl hr ?_
    refine hK.out _ _ hS2 (fun hNext => ?_)
    clear hr HSR hq hg ho hHeld
    clear hK K
    have hHeld := hNext
    clear hNext
    (try simp only [Act.put, List.setIfInBounds_toArray, List.set_cons_zero, List.set_cons_succ])
    have HS2 := Lib.hid hS2
    clear hS2 hHeld
    have hHeld := HS2.out
    refine' wpAnyH_take (i := 15) (oi := { dst := some 24, op := Go.Op.indexAddr 43 (Go.Operand.tmp 23) (Go.Operand.tmp 11), type := 0, pos := "law.go:79", after := #[{ on := 14, ground := Go.Ground.data }, { on := 2, ground := Go.Ground.data }, { on := 0, ground := Go.Ground.phase }, { on := 1, ground := Go.Ground.phase }, { on := 2, ground := Go.Ground.phase }, { on := 3, ground := Go.Ground.phase }, { on := 4, ground := Go.Ground.phase }, { on := 5, ground := Go.Ground.phase }, { on := 6, ground := Go.Ground.phase }, { on := 7, ground := Go.Ground.phase }, { on := 8, ground := Go.Ground.phase }, { on := 9, ground := Go.Ground.phase }, { on := 10, ground := Go.Ground.phase }, { on := 11, ground := Go.Ground.phase }, { on := 12, ground := Go.Ground.phase }], guard := none }) (v := _) rfl (by kernel_rfl) (by kernel_rfl) (by kernel_rfl) (fun _ _ _ h => h) (Or.inl ⟨by rfl, ?hy13⟩) (by assumption) ?hr13
    case hy13 => (intro _ hSw; (try dsimp only at hSw); go_simp <;> with_reducible rfl)
    simp only [Act.put, List.setIfInBounds_toArray, List.set_cons_zero, List.set_cons_succ]
    have f0 : ∀ i, w2.frozen? ⟨tb, i, none⟩ = false := fun _ => free_of hb2
    have d0 : w2.cell? ⟨tb, 3, none⟩ = some v1 := cell_of hb2 rfl
    clear hHeld
    rw [hu] at HP HC ⊢
    refine wpAnyH_ready (rs := [16]) (by kernel_rfl) (by simp) ?_
    refine AllReadyH.cons (o := { dst := none, op := Go.Op.store 42 (Go.Operand.tmp 24) (Go.Operand.tmp 21), type := 0, pos := "law.go:79", after := #[{ on := 15, ground := Go.Ground.data }, { on := 12, ground := Go.Ground.data }, { on := 12, ground := Go.Ground.chain }, { on := 0, ground := Go.Ground.phase }, { on := 1, ground := Go.Ground.phase }, { on := 2, ground := Go.Ground.phase }, { on := 3, ground := Go.Ground.phase }, { on := 4, ground := Go.Ground.phase }, { on := 5, ground := Go.Ground.phase }, { on := 6, ground := Go.Ground.phase }, { on := 7, ground := Go.Ground.phase }, { on := 8, ground := Go.Ground.phase }, { on := 9, ground := Go.Ground.phase }, { on := 10, ground := Go.Ground.phase }, { on := 11, ground := Go.Ground.phase }, { on := 12, ground := Go.Ground.phase }], guard := none }) rfl (fun K hK => ?_) AllReadyH.nil
    go_simp
    refine hK.out _ _ ((set_other (show n1 ≠ tb by omega) _).trans HS2.out) (fun hNext => ?_)
    clear hNext
    refine wpAnyH_done (by kernel_rfl) ?_ _
    clear hK K f0 d0 hb2
    go_wp2
    go_end0
    exact ⟨rfl, _, HP.out, HC.out⟩
  · go_simp
    have c3b : (w1.alloc (aO x 30)).cell? ⟨tb, 3, none⟩ = some (.slice oa t.q1.length cap) := cell_below c3 (nest_below w1 [_])
    refine hK.out _ _ (stays HS0.out (nest_below w1 [_])) (fun hNext => ?_)
    clear hK K
    have hHeld := hNext
    clear hNext
    (try simp only [Act.put, List.setIfInBounds_toArray, List.set_cons_zero, List.set_cons_succ])
    refine wpAnyH_ready (rs := [9]) (by kernel_rfl) (by simp) ?_
    refine AllReadyH.cons (o := { dst := some 18, op := Go.Op.load 42 (Go.Operand.tmp 17), type := 42, pos := "law.go:79", after := #[{ on := 8, ground := Go.Ground.data }], guard := none }) rfl (fun K hK => ?_) AllReadyH.nil
    go_simp
    refine hK.out _ _ hHeld (fun hNext => ?_)
    clear hHeld
    clear hK K
    have hHeld := hNext
    clear hNext
    (try simp only [Act.put, List.setIfInBounds_toArray, List.set_cons_zero, List.set_cons_succ])
    have H2 : Hid (TwAt w0 pa pb tb v0 v1 t (w1.alloc (aO x 30))) := Lib.hid (H1.out.on (nest_below w1 [_]))
    have HSR : Hid (Src Try.prog 5 42 (.slice (some ⟨w1.heap.size, 0, none⟩) 1 1) 1 ([x].flatMap fcA) (w1.alloc (aO x 30))) := by
      refine srcz_at elA _ w1.heap.size 0 1 1 [x] rfl (fun i y hi j hj => ?_)
      have hlt := (List.getElem?_eq_some_iff.1 hi).1
      simp only [List.length_cons, List.length_nil] at hlt
      obtain rfl : i = 0 := by omega
      have hy := (Option.some.inj hi).symm
      rw [hy]
      have hb : (w1.alloc (aO x 30)).heap[w1.heap.size]? = some (aO x 30) := nest w1 [_] 0 _ rfl
      match j, hj with
      | 0, _ => exact cell_of hb rfl
      | 1, _ => exact cell_of hb rfl
      | 2, _ => exact cell_of hb rfl
      | 3, _ => exact cell_of hb rfl
      | 4, _ => exact cell_of hb rfl
    obtain ⟨u, w2, hr, hq, hg, ho⟩ := run_append_q elA (w1.alloc (aO x 30)) 42 (tb + 1) v1 t.q1 H2.out.h1 _ 1 [x] rfl HSR.out (by decide) (by have := HL.out; omega) (by have := lt_heap H2.out.blk; omega)
    rw [HV.out] at hr
    obtain ⟨ob, ucap, hu⟩ := hq.form
    rw [List.length_append, List.length_singleton] at hu
    have HP : Hid (TwAt w0 pa pb tb v0 u ⟨t.a, t.b, t.q0, t.q1 ++ [x]⟩ (w2.setCell ⟨tb, 3, none⟩ u)) := Lib.hid (H2.out.put1 hg hq (ho.imp id Or.inl))
    have HC : Hid (Chg (fun k => k = tb ∨ v1.ownBlock = some k) w (w2.setCell ⟨tb, 3, none⟩ u)) := by
      have h1 : Chg (fun k => k = tb ∨ v1.ownBlock = some k) w (w1.alloc (aO x 30)) := by rw [← HW1.out]; exact (((Chg.refl _ w).alloc _).drew).alloc _
      exact (h1.grown hg (fun k e _ => Or.inr e)).setCell tb 3 u (fun _ => Or.inl rfl)
    have hS2 : w2.heap[n1]? = some (aO x 30) := by
      have h1 : (w1.alloc (aO x 30)).heap[n1]? = some (aO x 30) := stays HS0.out (nest_below w1 [_])
      refine (hg.block n1 (lt_heap h1) fun e => ?_).trans h1
      have := (H.out.h1.lt n1 e.symm).2
      have := HN1.out
      omega
    have hb2 : w2.heap[tb]? = some (.cells #[ptr pa, ptr pb, v0, v1] 45 (0, 0)) := (hg.block tb (lt_heap H2.out.blk) (fun e => by have := (H2.out.h1.lt tb e.symm).1; omega)).trans H2.out.blk
    refine wpAnyH_ready (rs := [12]) (by kernel_rfl) (by simp) ?_
    refine AllReadyH.cons (o := { dst := some 21, op := Go.Op.call { callee := Go.Callee.builtin Go.Builtin.append, args := #[Go.Operand.tmp 18, Go.Operand.tmp 20], argTypes := #[42, 42] }, type := 42, pos := "law.go:79", after := #[{ on := 9, ground := Go.Ground.data }, { on := 11, ground := Go.Ground.data }], guard := none }) rfl (fun K hK => ?_) AllReadyH.nil
    refine step_append_known rfl _ _ _ _ rfl rfl rfl hr ?_
    refine hK.out _ _ hS2 (fun hNext => ?_)
    clear hr HSR hq hg ho hHeld
    clear hK K
    have hHeld := hNext
    clear hNext
    (try simp only [Act.put, List.setIfInBounds_toArray, List.set_cons_zero, List.set_cons_succ])
    have HS2 := Lib.hid hS2
    clear hS2 hHeld
    have hHeld := HS2.out
    refine' wpAnyH_take (i := 15) (oi := { dst := some 24, op := Go.Op.indexAddr 43 (Go.Operand.tmp 23) (Go.Operand.tmp 11), type := 0, pos := "law.go:79", after := #[{ on := 14, ground := Go.Ground.data }, { on := 2, ground := Go.Ground.data }, { on := 0, ground := Go.Ground.phase }, { on := 1, ground := Go.Ground.phase }, { on := 2, ground := Go.Ground.phase }, { on := 3, ground := Go.Ground.phase }, { on := 4, ground := Go.Ground.phase }, { on := 5, ground := Go.Ground.phase }, { on := 6, ground := Go.Ground.phase }, { on := 7, ground := Go.Ground.phase }, { on := 8, ground := Go.Ground.phase }, { on := 9, ground := Go.Ground.phase }, { on := 10, ground := Go.Ground.phase }, { on := 11, ground := Go.Ground.phase }, { on := 12, ground := Go.Ground.phase }], guard := none }) (v := _) rfl (by kernel_rfl) (by kernel_rfl) (by kernel_rfl) (fun _ _ _ h => h) (Or.inl ⟨by rfl, ?hy14⟩) (by assumption) ?hr14
    case hy14 => (intro _ hSw; (try dsimp only at hSw); go_simp <;> with_reducible rfl)
    simp only [Act.put, List.setIfInBounds_toArray, List.set_cons_zero, List.set_cons_succ]
    have f0 : ∀ i, w2.frozen? ⟨tb, i, none⟩ = false := fun _ => free_of hb2
    have d0 : w2.cell? ⟨tb, 3, none⟩ = some v1 := cell_of hb2 rfl
    clear hHeld
    rw [hu] at HP HC ⊢
    refine wpAnyH_ready (rs := [16]) (by kernel_rfl) (by simp) ?_
    refine AllReadyH.cons (o := { dst := none, op := Go.Op.store 42 (Go.Operand.tmp 24) (Go.Operand.tmp 21), type := 0, pos := "law.go:79", after := #[{ on := 15, ground := Go.Ground.data }, { on := 12, ground := Go.Ground.data }, { on := 12, ground := Go.Ground.chain }, { on := 0, ground := Go.Ground.phase }, { on := 1, ground := Go.Ground.phase }, { on := 2, ground := Go.Ground.phase }, { on := 3, ground := Go.Ground.phase }, { on := 4, ground := Go.Ground.phase }, { on := 5, ground := Go.Ground.phase }, { on := 6, ground := Go.Ground.phase }, { on := 7, ground := Go.Ground.phase }, { on := 8, ground := Go.Ground.phase }, { on := 9, ground := Go.Ground.phase }, { on := 10, ground := Go.Ground.phase }, { on := 11, ground := Go.Ground.phase }, { on := 12, ground := Go.Ground.phase }], guard := none }) rfl (fun K hK => ?_) AllReadyH.nil
    go_simp
    refine hK.out _ _ ((set_other (show n1 ≠ tb by omega) _).trans HS2.out) (fun hNext => ?_)
    clear hNext
    refine wpAnyH_done (by kernel_rfl) ?_ _
    clear hK K f0 d0 hb2
    go_wp2
    go_end0
    exact ⟨rfl, _, HP.out, HC.out⟩
/-- Nothing is said. -/
theorem fsaid1_no (w : World) (p : Value) (x : Ac) (hx : x.k = 0) :
    Calls Try.prog 17 #[p, .int .i64 1, av x] w fun e w' => e = .returned (.tuple #[]) ∧ Below w.heap.size w w' := by
  obtain ⟨xk, xc, xp, xt, xf⟩ := x
  dsimp only at hx
  subst hx
  go_enter Try.func17, Try.ntmps17
  go_wp2
  go_end0
  exact ⟨rfl, nest_below w [_]⟩
set_option maxHeartbeats 4000000 in
set_option maxRecDepth 100000 in
theorem fsaid1 (w0 : World) (w : World) (pa pb tb : Nat) (v0 v1 : Value) (t : Tw) (x : Ac) (hx : x.k ≠ 0) (hl : t.q0.length ≤ 1000) (h : TwAt w0 pa pb tb v0 v1 t w) :
    Calls Try.prog 17 #[ptr tb, .int .i64 1, av x] w fun e w' => e = .returned (.tuple #[]) ∧ ∃ u, TwAt w0 pa pb tb u v1 ⟨t.a, t.b, t.q0 ++ [x], t.q1⟩ w' ∧ Chg (fun k => k = tb ∨ v0.ownBlock = some k) w w' := by
  have H := Lib.hid h
  obtain ⟨oa, cap, hv⟩ := h.h0.form
  have HV := Lib.hid hv
  have HL := Lib.hid hl
  have htb := lt_heap h.blk
  have n0 : (x.k != 0) = true := bne_true hx
  have vw0 : IntKind.i64.wrap 0 = 0 := by decide
  have vw1 : IntKind.i64.wrap 1 = 1 := by decide
  clear h hv hl hx
  go_enter Try.func17, Try.ntmps17
  go_wp2_with fail
  have H1 : Hid (TwAt w0 pa pb tb v0 v1 t (w.alloc (aO x 30)).drew) := Lib.hid (H.out.on ((nest_below w [_]).drew))
  have hS0 : (w.alloc (aO x 30)).drew.heap[w.heap.size]? = some (aO x 30) := nest w [_] 0 _ rfl
  obtain ⟨n1, hn1⟩ : ∃ n, n = w.heap.size := ⟨_, rfl⟩
  have HN1 := Lib.hid hn1
  have hsz : (w.alloc (aO x 30)).drew.heap.size = n1 + 1 := by rw [hn1]; exact size_alloc w _
  have HSZ := Lib.hid hsz
  rw [← hn1] at hS0
  have hne : tb < n1 := by rw [hn1]; exact htb
  simp only [← hn1]
  clear hsz hn1 htb
  refine wp_region_held_drew (S := (fun w' => w'.heap[n1]? = some (aO x 30))) (by kernel_rfl) hS0 (fun hHeld => ?_)
  refine' wpAnyH_take (i := 0) (oi := { dst := some 9, op := Go.Op.move (Go.Operand.tmp 0), type := 40, pos := "law.go:79", after := #[], guard := none }) (v := _) rfl (by kernel_rfl) (by kernel_rfl) (by kernel_rfl) (fun _ _ _ h => h) (Or.inl ⟨by rfl, ?hy15⟩) (by assumption) ?hr15
  case hy15 => (intro _ hSw; (try dsimp only at hSw); go_simp <;> with_reducible rfl)
  simp only [Act.put, List.setIfInBounds_toArray, List.set_cons_zero, List.set_cons_succ]
  refine' wpAnyH_take (i := 1) (oi := { dst := some 10, op := Go.Op.move (Go.Operand.tmp 1), type := 3, pos := "law.go:79", after := #[], guard := none }) (v := _) rfl (by kernel_rfl) (by kernel_rfl) (by kernel_rfl) (fun _ _ _ h => h) (Or.inl ⟨by rfl, ?hy16⟩) (by assumption) ?hr16
  case hy16 => (intro _ hSw; (try dsimp only at hSw); go_simp <;> with_reducible rfl)
  simp only [Act.put, List.setIfInBounds_toArray, List.set_cons_zero, List.set_cons_succ]
  refine' wpAnyH_take (i := 2) (oi := { dst := some 11, op := Go.Op.binOp Go.BinOp.sub 3 (Go.Operand.const (Go.Value.int Go.IntKind.i64 1)) (Go.Operand.tmp 10) 3, type := 3, pos := "law.go:79", after := #[{ on := 1, ground := Go.Ground.data }], guard := none }) (v := _) rfl (by kernel_rfl) (by kernel_rfl) (by kernel_rfl) (fun _ _ _ h => h) (Or.inl ⟨by rfl, ?hy17⟩) (by assumption) ?hr17
  case hy17 => (intro _ hSw; (try dsimp only at hSw); go_simp <;> with_reducible rfl)
  simp only [Act.put, List.setIfInBounds_toArray, List.set_cons_zero, List.set_cons_succ]
  refine' wpAnyH_take (i := 3) (oi := { dst := some 12, op := Go.Op.move (Go.Operand.tmp 0), type := 40, pos := "law.go:79", after := #[], guard := none }) (v := _) rfl (by kernel_rfl) (by kernel_rfl) (by kernel_rfl) (fun _ _ _ h => h) (Or.inl ⟨by rfl, ?hy18⟩) (by assumption) ?hr18
  case hy18 => (intro _ hSw; (try dsimp only at hSw); go_simp <;> with_reducible rfl)
  simp only [Act.put, List.setIfInBounds_toArray, List.set_cons_zero, List.set_cons_succ]
  refine' wpAnyH_take (i := 4) (oi := { dst := some 13, op := Go.Op.move (Go.Operand.tmp 1), type := 3, pos := "law.go:79", after := #[], guard := none }) (v := _) rfl (by kernel_rfl) (by kernel_rfl) (by kernel_rfl) (fun _ _ _ h => h) (Or.inl ⟨by rfl, ?hy19⟩) (by assumption) ?hr19
  case hy19 => (intro _ hSw; (try dsimp only at hSw); go_simp <;> with_reducible rfl)
  simp only [Act.put, List.setIfInBounds_toArray, List.set_cons_zero, List.set_cons_succ]
  refine' wpAnyH_take (i := 5) (oi := { dst := some 14, op := Go.Op.binOp Go.BinOp.sub 3 (Go.Operand.const (Go.Value.int Go.IntKind.i64 1)) (Go.Operand.tmp 13) 3, type := 3, pos := "law.go:79", after := #[{ on := 4, ground := Go.Ground.data }], guard := none }) (v := _) rfl (by kernel_rfl) (by kernel_rfl) (by kernel_rfl) (fun _ _ _ h => h) (Or.inl ⟨by rfl, ?hy20⟩) (by assumption) ?hr20
  case hy20 => (intro _ hSw; (try dsimp only at hSw); go_simp <;> with_reducible rfl)
  simp only [Act.put, List.setIfInBounds_toArray, List.set_cons_zero, List.set_cons_succ]
  refine' wpAnyH_take (i := 6) (oi := { dst := some 15, op := Go.Op.nilCheck (Go.Operand.tmp 12), type := 0, pos := "law.go:79", after := #[{ on := 3, ground := Go.Ground.data }], guard := none }) (v := _) rfl (by kernel_rfl) (by kernel_rfl) (by kernel_rfl) (fun _ _ _ h => h) (Or.inl ⟨by rfl, ?hy21⟩) (by assumption) ?hr21
  case hy21 => (intro _ hSw; (try dsimp only at hSw); go_simp <;> with_reducible rfl)
  simp only [Act.put, List.setIfInBounds_toArray, List.set_cons_zero, List.set_cons_succ]
  refine' wpAnyH_take (i := 7) (oi := { dst := some 16, op := Go.Op.fieldAddr 45 (Go.Operand.tmp 15) 1, type := 0, pos := "law.go:79", after := #[{ on := 6, ground := Go.Ground.data }], guard := none }) (v := _) rfl (by kernel_rfl) (by kernel_rfl) (by kernel_rfl) (fun _ _ _ h => h) (Or.inl ⟨by rfl, ?hy22⟩) (by assumption) ?hr22
  case hy22 => (intro _ hSw; (try dsimp only at hSw); go_simp <;> with_reducible rfl)
  simp only [Act.put, List.setIfInBounds_toArray, List.set_cons_zero, List.set_cons_succ]
  refine' wpAnyH_take (i := 8) (oi := { dst := some 17, op := Go.Op.indexAddr 43 (Go.Operand.tmp 16) (Go.Operand.tmp 14), type := 0, pos := "law.go:79", after := #[{ on := 7, ground := Go.Ground.data }, { on := 5, ground := Go.Ground.data }], guard := none }) (v := _) rfl (by kernel_rfl) (by kernel_rfl) (by kernel_rfl) (fun _ _ _ h => h) (Or.inl ⟨by rfl, ?hy23⟩) (by assumption) ?hr23
  case hy23 => (intro _ hSw; (try dsimp only at hSw); go_simp <;> with_reducible rfl)
  simp only [Act.put, List.setIfInBounds_toArray, List.set_cons_zero, List.set_cons_succ]
  refine' wpAnyH_take (i := 10) (oi := { dst := some 19, op := Go.Op.load 30 (Go.Operand.tmp 5), type := 30, pos := "law.go:79", after := #[], guard := none }) (v := _) rfl (by kernel_rfl) (by kernel_rfl) (by kernel_rfl) (fun _ _ _ h => h) (Or.inl ⟨by rfl, ?hy24⟩) (by assumption) ?hr24
  case hy24 => (intro _ hSw; (try dsimp only at hSw); obtain ⟨⟨z0, z1, z2, z3, z4⟩, -⟩ := cells5 hSw; go_simp <;> with_reducible rfl)
  simp only [Act.put, List.setIfInBounds_toArray, List.set_cons_zero, List.set_cons_succ]
  refine' wpAnyH_take (i := 13) (oi := { dst := some 22, op := Go.Op.nilCheck (Go.Operand.tmp 9), type := 0, pos := "law.go:79", after := #[{ on := 0, ground := Go.Ground.data }], guard := none }) (v := _) rfl (by kernel_rfl) (by kernel_rfl) (by kernel_rfl) (fun _ _ _ h => h) (Or.inl ⟨by rfl, ?hy25⟩) (by assumption) ?hr25
  case hy25 => (intro _ hSw; (try dsimp only at hSw); go_simp <;> with_reducible rfl)
  simp only [Act.put, List.setIfInBounds_toArray, List.set_cons_zero, List.set_cons_succ]
  refine' wpAnyH_take (i := 14) (oi := { dst := some 23, op := Go.Op.fieldAddr 45 (Go.Operand.tmp 22) 1, type := 0, pos := "law.go:79", after := #[{ on := 13, ground := Go.Ground.data }], guard := none }) (v := _) rfl (by kernel_rfl) (by kernel_rfl) (by kernel_rfl) (fun _ _ _ h => h) (Or.inl ⟨by rfl, ?hy26⟩) (by assumption) ?hr26
  case hy26 => (intro _ hSw; (try dsimp only at hSw); go_simp <;> with_reducible rfl)
  simp only [Act.put, List.setIfInBounds_toArray, List.set_cons_zero, List.set_cons_succ]
  clear hHeld
  generalize hw1 : (w.alloc (aO x 30)).drew = w1 at H1 hS0 HSZ ⊢
  have HW1 := Lib.hid hw1
  clear hw1
  have c2 := H1.out.cells.2.2.1
  rw [HV.out] at c2
  have HS0 := Lib.hid hS0
  clear hS0
  refine wpAnyH_ready (rs := [9, 11]) (by kernel_rfl) (by simp) ?_
  refine AllReadyH.cons (o := { dst := some 18, op := Go.Op.load 42 (Go.Operand.tmp 17), type := 42, pos := "law.go:79", after := #[{ on := 8, ground := Go.Ground.data }], guard := none }) rfl (fun K hK => ?_) (AllReadyH.cons (o := { dst := some 20, op := Go.Op.buildSlice 42 1 #[(0, Go.Operand.tmp 19)], type := 42, pos := "law.go:79", after := #[{ on := 10, ground := Go.Ground.data }], guard := none }) rfl (fun K hK => ?_) AllReadyH.nil)
  · go_simp
    refine hK.out _ _ HS0.out (fun hNext => ?_)
    clear hK K
    have hHeld := hNext
    clear hNext
    (try simp only [Act.put, List.setIfInBounds_toArray, List.set_cons_zero, List.set_cons_succ])
    refine wpAnyH_ready (rs := [11]) (by kernel_rfl) (by simp) ?_
    refine AllReadyH.cons (o := { dst := some 20, op := Go.Op.buildSlice 42 1 #[(0, Go.Operand.tmp 19)], type := 42, pos := "law.go:79", after := #[{ on := 10, ground := Go.Ground.data }], guard := none }) rfl (fun K hK => ?_) AllReadyH.nil
    go_simp
    refine hK.out _ _ (stays HS0.out (nest_below w1 [_])) (fun hNext => ?_)
    clear hHeld
    clear hK K
    have hHeld := hNext
    clear hNext
    (try simp only [Act.put, List.setIfInBounds_toArray, List.set_cons_zero, List.set_cons_succ])
    have H2 : Hid (TwAt w0 pa pb tb v0 v1 t (w1.alloc (aO x 30))) := Lib.hid (H1.out.on (nest_below w1 [_]))
    have HSR : Hid (Src Try.prog 5 42 (.slice (some ⟨w1.heap.size, 0, none⟩) 1 1) 1 ([x].flatMap fcA) (w1.alloc (aO x 30))) := by
      refine srcz_at elA _ w1.heap.size 0 1 1 [x] rfl (fun i y hi j hj => ?_)
      have hlt := (List.getElem?_eq_some_iff.1 hi).1
      simp only [List.length_cons, List.length_nil] at hlt
      obtain rfl : i = 0 := by omega
      have hy := (Option.some.inj hi).symm
      rw [hy]
      have hb : (w1.alloc (aO x 30)).heap[w1.heap.size]? = some (aO x 30) := nest w1 [_] 0 _ rfl
      match j, hj with
      | 0, _ => exact cell_of hb rfl
      | 1, _ => exact cell_of hb rfl
      | 2, _ => exact cell_of hb rfl
      | 3, _ => exact cell_of hb rfl
      | 4, _ => exact cell_of hb rfl
    obtain ⟨u, w2, hr, hq, hg, ho⟩ := run_append_q elA (w1.alloc (aO x 30)) 42 (tb + 1) v0 t.q0 H2.out.h0 _ 1 [x] rfl HSR.out (by decide) (by have := HL.out; omega) (by have := lt_heap H2.out.blk; omega)
    rw [HV.out] at hr
    obtain ⟨ob, ucap, hu⟩ := hq.form
    rw [List.length_append, List.length_singleton] at hu
    have HP : Hid (TwAt w0 pa pb tb u v1 ⟨t.a, t.b, t.q0 ++ [x], t.q1⟩ (w2.setCell ⟨tb, 2, none⟩ u)) := Lib.hid (H2.out.put0 hg hq (ho.imp id Or.inl))
    have HC : Hid (Chg (fun k => k = tb ∨ v0.ownBlock = some k) w (w2.setCell ⟨tb, 2, none⟩ u)) := by
      have h1 : Chg (fun k => k = tb ∨ v0.ownBlock = some k) w (w1.alloc (aO x 30)) := by rw [← HW1.out]; exact (((Chg.refl _ w).alloc _).drew).alloc _
      exact (h1.grown hg (fun k e _ => Or.inr e)).setCell tb 2 u (fun _ => Or.inl rfl)
    have hS2 : w2.heap[n1]? = some (aO x 30) := by
      have h1 : (w1.alloc (aO x 30)).heap[n1]? = some (aO x 30) := stays HS0.out (nest_below w1 [_])
      refine (hg.block n1 (lt_heap h1) fun e => ?_).trans h1
      have := (H.out.h0.lt n1 e.symm).2
      have := HN1.out
      omega
    have hb2 : w2.heap[tb]? = some (.cells #[ptr pa, ptr pb, v0, v1] 45 (0, 0)) := (hg.block tb (lt_heap H2.out.blk) (fun e => by have := (H2.out.h0.lt tb e.symm).1; omega)).trans H2.out.blk
    refine wpAnyH_ready (rs := [12]) (by kernel_rfl) (by simp) ?_
    refine AllReadyH.cons (o := { dst := some 21, op := Go.Op.call { callee := Go.Callee.builtin Go.Builtin.append, args := #[Go.Operand.tmp 18, Go.Operand.tmp 20], argTypes := #[42, 42] }, type := 42, pos := "law.go:79", after := #[{ on := 9, ground := Go.Ground.data }, { on := 11, ground := Go.Ground.data }], guard := none }) rfl (fun K hK => ?_) AllReadyH.nil
    refine step_append_known rfl _ _ _ _ rfl rfl rfl hr ?_
    refine hK.out _ _ hS2 (fun hNext => ?_)
    clear hr HSR hq hg ho hHeld
    clear hK K
    have hHeld := hNext
    clear hNext
    (try simp only [Act.put, List.setIfInBounds_toArray, List.set_cons_zero, List.set_cons_succ])
    have HS2 := Lib.hid hS2
    clear hS2 hHeld
    have hHeld := HS2.out
    refine' wpAnyH_take (i := 15) (oi := { dst := some 24, op := Go.Op.indexAddr 43 (Go.Operand.tmp 23) (Go.Operand.tmp 11), type := 0, pos := "law.go:79", after := #[{ on := 14, ground := Go.Ground.data }, { on := 2, ground := Go.Ground.data }, { on := 0, ground := Go.Ground.phase }, { on := 1, ground := Go.Ground.phase }, { on := 2, ground := Go.Ground.phase }, { on := 3, ground := Go.Ground.phase }, { on := 4, ground := Go.Ground.phase }, { on := 5, ground := Go.Ground.phase }, { on := 6, ground := Go.Ground.phase }, { on := 7, ground := Go.Ground.phase }, { on := 8, ground := Go.Ground.phase }, { on := 9, ground := Go.Ground.phase }, { on := 10, ground := Go.Ground.phase }, { on := 11, ground := Go.Ground.phase }, { on := 12, ground := Go.Ground.phase }], guard := none }) (v := _) rfl (by kernel_rfl) (by kernel_rfl) (by kernel_rfl) (fun _ _ _ h => h) (Or.inl ⟨by rfl, ?hy27⟩) (by assumption) ?hr27
    case hy27 => (intro _ hSw; (try dsimp only at hSw); go_simp <;> with_reducible rfl)
    simp only [Act.put, List.setIfInBounds_toArray, List.set_cons_zero, List.set_cons_succ]
    have f0 : ∀ i, w2.frozen? ⟨tb, i, none⟩ = false := fun _ => free_of hb2
    have d0 : w2.cell? ⟨tb, 2, none⟩ = some v0 := cell_of hb2 rfl
    clear hHeld
    rw [hu] at HP HC ⊢
    refine wpAnyH_ready (rs := [16]) (by kernel_rfl) (by simp) ?_
    refine AllReadyH.cons (o := { dst := none, op := Go.Op.store 42 (Go.Operand.tmp 24) (Go.Operand.tmp 21), type := 0, pos := "law.go:79", after := #[{ on := 15, ground := Go.Ground.data }, { on := 12, ground := Go.Ground.data }, { on := 12, ground := Go.Ground.chain }, { on := 0, ground := Go.Ground.phase }, { on := 1, ground := Go.Ground.phase }, { on := 2, ground := Go.Ground.phase }, { on := 3, ground := Go.Ground.phase }, { on := 4, ground := Go.Ground.phase }, { on := 5, ground := Go.Ground.phase }, { on := 6, ground := Go.Ground.phase }, { on := 7, ground := Go.Ground.phase }, { on := 8, ground := Go.Ground.phase }, { on := 9, ground := Go.Ground.phase }, { on := 10, ground := Go.Ground.phase }, { on := 11, ground := Go.Ground.phase }, { on := 12, ground := Go.Ground.phase }], guard := none }) rfl (fun K hK => ?_) AllReadyH.nil
    go_simp
    refine hK.out _ _ ((set_other (show n1 ≠ tb by omega) _).trans HS2.out) (fun hNext => ?_)
    clear hNext
    refine wpAnyH_done (by kernel_rfl) ?_ _
    clear hK K f0 d0 hb2
    go_wp2
    go_end0
    exact ⟨rfl, _, HP.out, HC.out⟩
  · go_simp
    have c2b : (w1.alloc (aO x 30)).cell? ⟨tb, 2, none⟩ = some (.slice oa t.q0.length cap) := cell_below c2 (nest_below w1 [_])
    refine hK.out _ _ (stays HS0.out (nest_below w1 [_])) (fun hNext => ?_)
    clear hK K
    have hHeld := hNext
    clear hNext
    (try simp only [Act.put, List.setIfInBounds_toArray, List.set_cons_zero, List.set_cons_succ])
    refine wpAnyH_ready (rs := [9]) (by kernel_rfl) (by simp) ?_
    refine AllReadyH.cons (o := { dst := some 18, op := Go.Op.load 42 (Go.Operand.tmp 17), type := 42, pos := "law.go:79", after := #[{ on := 8, ground := Go.Ground.data }], guard := none }) rfl (fun K hK => ?_) AllReadyH.nil
    go_simp
    refine hK.out _ _ hHeld (fun hNext => ?_)
    clear hHeld
    clear hK K
    have hHeld := hNext
    clear hNext
    (try simp only [Act.put, List.setIfInBounds_toArray, List.set_cons_zero, List.set_cons_succ])
    have H2 : Hid (TwAt w0 pa pb tb v0 v1 t (w1.alloc (aO x 30))) := Lib.hid (H1.out.on (nest_below w1 [_]))
    have HSR : Hid (Src Try.prog 5 42 (.slice (some ⟨w1.heap.size, 0, none⟩) 1 1) 1 ([x].flatMap fcA) (w1.alloc (aO x 30))) := by
      refine srcz_at elA _ w1.heap.size 0 1 1 [x] rfl (fun i y hi j hj => ?_)
      have hlt := (List.getElem?_eq_some_iff.1 hi).1
      simp only [List.length_cons, List.length_nil] at hlt
      obtain rfl : i = 0 := by omega
      have hy := (Option.some.inj hi).symm
      rw [hy]
      have hb : (w1.alloc (aO x 30)).heap[w1.heap.size]? = some (aO x 30) := nest w1 [_] 0 _ rfl
      match j, hj with
      | 0, _ => exact cell_of hb rfl
      | 1, _ => exact cell_of hb rfl
      | 2, _ => exact cell_of hb rfl
      | 3, _ => exact cell_of hb rfl
      | 4, _ => exact cell_of hb rfl
    obtain ⟨u, w2, hr, hq, hg, ho⟩ := run_append_q elA (w1.alloc (aO x 30)) 42 (tb + 1) v0 t.q0 H2.out.h0 _ 1 [x] rfl HSR.out (by decide) (by have := HL.out; omega) (by have := lt_heap H2.out.blk; omega)
    rw [HV.out] at hr
    obtain ⟨ob, ucap, hu⟩ := hq.form
    rw [List.length_append, List.length_singleton] at hu
    have HP : Hid (TwAt w0 pa pb tb u v1 ⟨t.a, t.b, t.q0 ++ [x], t.q1⟩ (w2.setCell ⟨tb, 2, none⟩ u)) := Lib.hid (H2.out.put0 hg hq (ho.imp id Or.inl))
    have HC : Hid (Chg (fun k => k = tb ∨ v0.ownBlock = some k) w (w2.setCell ⟨tb, 2, none⟩ u)) := by
      have h1 : Chg (fun k => k = tb ∨ v0.ownBlock = some k) w (w1.alloc (aO x 30)) := by rw [← HW1.out]; exact (((Chg.refl _ w).alloc _).drew).alloc _
      exact (h1.grown hg (fun k e _ => Or.inr e)).setCell tb 2 u (fun _ => Or.inl rfl)
    have hS2 : w2.heap[n1]? = some (aO x 30) := by
      have h1 : (w1.alloc (aO x 30)).heap[n1]? = some (aO x 30) := stays HS0.out (nest_below w1 [_])
      refine (hg.block n1 (lt_heap h1) fun e => ?_).trans h1
      have := (H.out.h0.lt n1 e.symm).2
      have := HN1.out
      omega
    have hb2 : w2.heap[tb]? = some (.cells #[ptr pa, ptr pb, v0, v1] 45 (0, 0)) := (hg.block tb (lt_heap H2.out.blk) (fun e => by have := (H2.out.h0.lt tb e.symm).1; omega)).trans H2.out.blk
    refine wpAnyH_ready (rs := [12]) (by kernel_rfl) (by simp) ?_
    refine AllReadyH.cons (o := { dst := some 21, op := Go.Op.call { callee := Go.Callee.builtin Go.Builtin.append, args := #[Go.Operand.tmp 18, Go.Operand.tmp 20], argTypes := #[42, 42] }, type := 42, pos := "law.go:79", after := #[{ on := 9, ground := Go.Ground.data }, { on := 11, ground := Go.Ground.data }], guard := none }) rfl (fun K hK => ?_) AllReadyH.nil
    refine step_append_known rfl _ _ _ _ rfl rfl rfl hr ?_
    refine hK.out _ _ hS2 (fun hNext => ?_)
    clear hr HSR hq hg ho hHeld
    clear hK K
    have hHeld := hNext
    clear hNext
    (try simp only [Act.put, List.setIfInBounds_toArray, List.set_cons_zero, List.set_cons_succ])
    have HS2 := Lib.hid hS2
    clear hS2 hHeld
    have hHeld := HS2.out
    refine' wpAnyH_take (i := 15) (oi := { dst := some 24, op := Go.Op.indexAddr 43 (Go.Operand.tmp 23) (Go.Operand.tmp 11), type := 0, pos := "law.go:79", after := #[{ on := 14, ground := Go.Ground.data }, { on := 2, ground := Go.Ground.data }, { on := 0, ground := Go.Ground.phase }, { on := 1, ground := Go.Ground.phase }, { on := 2, ground := Go.Ground.phase }, { on := 3, ground := Go.Ground.phase }, { on := 4, ground := Go.Ground.phase }, { on := 5, ground := Go.Ground.phase }, { on := 6, ground := Go.Ground.phase }, { on := 7, ground := Go.Ground.phase }, { on := 8, ground := Go.Ground.phase }, { on := 9, ground := Go.Ground.phase }, { on := 10, ground := Go.Ground.phase }, { on := 11, ground := Go.Ground.phase }, { on := 12, ground := Go.Ground.phase }], guard := none }) (v := _) rfl (by kernel_rfl) (by kernel_rfl) (by kernel_rfl) (fun _ _ _ h => h) (Or.inl ⟨by rfl, ?hy28⟩) (by assumption) ?hr28
    case hy28 => (intro _ hSw; (try dsimp only at hSw); go_simp <;> with_reducible rfl)
    simp only [Act.put, List.setIfInBounds_toArray, List.set_cons_zero, List.set_cons_succ]
    have f0 : ∀ i, w2.frozen? ⟨tb, i, none⟩ = false := fun _ => free_of hb2
    have d0 : w2.cell? ⟨tb, 2, none⟩ = some v0 := cell_of hb2 rfl
    clear hHeld
    rw [hu] at HP HC ⊢
    refine wpAnyH_ready (rs := [16]) (by kernel_rfl) (by simp) ?_
    refine AllReadyH.cons (o := { dst := none, op := Go.Op.store 42 (Go.Operand.tmp 24) (Go.Operand.tmp 21), type := 0, pos := "law.go:79", after := #[{ on := 15, ground := Go.Ground.data }, { on := 12, ground := Go.Ground.data }, { on := 12, ground := Go.Ground.chain }, { on := 0, ground := Go.Ground.phase }, { on := 1, ground := Go.Ground.phase }, { on := 2, ground := Go.Ground.phase }, { on := 3, ground := Go.Ground.phase }, { on := 4, ground := Go.Ground.phase }, { on := 5, ground := Go.Ground.phase }, { on := 6, ground := Go.Ground.phase }, { on := 7, ground := Go.Ground.phase }, { on := 8, ground := Go.Ground.phase }, { on := 9, ground := Go.Ground.phase }, { on := 10, ground := Go.Ground.phase }, { on := 11, ground := Go.Ground.phase }, { on := 12, ground := Go.Ground.phase }], guard := none }) rfl (fun K hK => ?_) AllReadyH.nil
    go_simp
    refine hK.out _ _ ((set_other (show n1 ≠ tb by omega) _).trans HS2.out) (fun hNext => ?_)
    clear hNext
    refine wpAnyH_done (by kernel_rfl) ?_ _
    clear hK K f0 d0 hb2
    go_wp2
    go_end0
    exact ⟨rfl, _, HP.out, HC.out⟩
end Go.Proofs.Ytfflbaiddiahnaa.Lk

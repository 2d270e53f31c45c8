/-
  A message that is boxed, or made, in a block of its own: the block and the world behind it are letters. And what functions that answer a message out of a block answer. No condition.
-/
import Derived.Test.YtffahjlboakakaaDoorMsgsSmall
namespace Go.Proofs.YtffahjlboakakaaDoor.Msgs
open Go.RowKit Go.Proofs.YtffahjlboakakaaDoor.Base Go.Proofs.YtffahjlboakakaaDoor.Mem
set_option maxRecDepth 20000
/-- A block was made, all else is as it was. -/
structure Fresh (b : Nat) (w w' : World) : Prop where
  eq : b = w.heap.size
  size : w'.heap.size = b + 1
  below : Below w.heap.size w w'
theorem Fresh.lt {b : Nat} {w w' : World} (h : Fresh b w w') : b < w'.heap.size := by rw [h.size]; omega
theorem fresh_alloc (w : World) (o : Obj) : Fresh w.heap.size w (w.alloc o) := ⟨rfl, by simp, (Below.refl _ _).alloc (Nat.le_refl _) _⟩
/-- What lay in a block that is not the one that was written, or made. -/
theorem Fresh.stays {b k : Nat} {w w' : World} {o : Obj} (h : Fresh b w w') (hk : w.heap[k]? = some o) : w'.heap[k]? = some o := Mem.stays hk h.below
theorem Fresh.ne {b k : Nat} {w w' : World} {o : Obj} (h : Fresh b w w') (hk : w.heap[k]? = some o) : k ≠ b := by have := lt_heap hk; have := h.eq; omega
theorem Fresh.on {b : Nat} {u w w' : World} (h : Fresh b w w') (hb : Below u.heap.size u w) : Below u.heap.size u w' := below_on hb h.below
theorem Fresh.le {b : Nat} {u w w' : World} (h : Fresh b w w') (hb : Below u.heap.size u w) : u.heap.size ≤ b := by rw [h.eq]; exact hb.size
theorem drew_at {w : World} {b : Nat} {o : Obj} (h : w.heap[b]? = some o) : w.drew.heap[b]? = some o := h
theorem mod_drew (b : Nat) (w : World) : Mod b w w.drew := ⟨rfl, rfl, rfl, rfl, fun _ _ => rfl⟩
theorem ret_sb {a a' : ByteArray} {b b' : Bool} (h : a = a') (h1 : b = b') : Ending.returned (.tuple #[.string a, .bool b]) = .returned (.tuple #[.string a', .bool b']) := by rw [h, h1]
theorem ret_is {k : IntKind} {x x' : Int} {a a' : ByteArray} (h : x = x') (h1 : a = a') : Ending.returned (.tuple #[.int k x, .string a]) = .returned (.tuple #[.int k x', .string a']) := by rw [h, h1]
theorem zeroP : (Tryd.prog.info? 23).map (·.zero) = some (some Pn.noV) := by kernel_rfl
theorem zeroS : (Tryd.prog.info? 25).map (·.zero) = some (some Msc.noV) := by kernel_rfl
theorem zeroM : (Tryd.prog.info? 27).map (·.zero) = some (some (mv zero)) := by kernel_rfl
theorem zeroR : (Tryd.prog.info? 36).map (·.zero) = some (some (mv zero)) := by kernel_rfl
section
variable {ops : Array Oper} {rest : List Oper} {a : Act} {Q : Exit → Act → World → Prop} {d : Option Tmp} {x y : Operand} {ty : TypeId} {pos : String} {af : Array Edge} {w : World} {m : Ms} {T : Nat}
theorem bxm (hx : a.eval x = mv m) (k : ∀ (b : Nat) (w' : World), w'.heap[b]? = some (mO m T) → Fresh b w w' → wpList Tryd.prog ops Q rest (a.put d (ptr b)) w') :
    wpList Tryd.prog ops Q ({ dst := d, op := .box T x, type := ty, pos := pos, after := af, guard := none } :: rest) a w :=
  wpList_plain rfl fun _ hK => by
    unfold Oper.wp execOp
    simp only [hx, Instr.box, newVar, newRow, Value.cells, Sem.run_bind, Sem.run_pure, Result.andThen_ok, run_newObj]
    exact hK _ _ (k w.heap.size (w.alloc (mO m T)) (nest w [_] 0 _ rfl) (fresh_alloc w _))
theorem alm (hz : (Tryd.prog.info? T).map (·.zero) = some (some (mv m))) (k : ∀ (b : Nat) (w' : World), w'.heap[b]? = some (mO m T) → Fresh b w w' → wpList Tryd.prog ops Q rest (a.put d (ptr b)) w') :
    wpList Tryd.prog ops Q ({ dst := d, op := .alloc T, type := ty, pos := pos, after := af, guard := none } :: rest) a w :=
  wpList_plain rfl fun _ hK => by
    cases hq : Tryd.prog.info? T with
    | none => simp [hq] at hz
    | some i =>
      have hi : i.zero = some (mv m) := by simpa [hq] using hz
      unfold Oper.wp execOp
      simp only [Instr.alloc, zeroValue, typeInfo, hq, hi, newVar, newRow, Value.cells, Sem.run_bind, Sem.run_pure, Result.andThen_ok, run_newObj, run_program]
      exact hK _ _ (k w.heap.size (w.alloc (mO m T)) (nest w [_] 0 _ rfl) (fresh_alloc w _))
/-- Guarded operations that are wanted. -/
theorem ldmg {g : Option (Nat × Bool)} {b : Nat} {t : TypeId} (hT : IsRow T 20) (h : w.heap[b]? = some (mO m t)) (hg : Region.wanted { dst := d, op := .load T x, type := ty, pos := pos, after := af, guard := g } (yielded ops a.tmps) = true) (hx : a.eval x = ptr b) (k : wpList Tryd.prog ops Q rest (a.put d (mv m)) w) :
    wpList Tryd.prog ops Q ({ dst := d, op := .load T x, type := ty, pos := pos, after := af, guard := g } :: rest) a w :=
  wpList_step fun K hK => by
    rw [if_pos hg]
    obtain ⟨fs, hu⟩ := hT.under
    exact wp_load_row T x rfl b hx t (mc m) (0, 0) _ h hu rfl hT.size (hK _ _ k)
theorem bdmg {g : Option (Nat × Bool)} {parts : Array (Nat × Operand)} (m : Ms) (hg : Region.wanted { dst := d, op := .build T parts, type := ty, pos := pos, after := af, guard := g } (yielded ops a.tmps) = true) (hb : Tryd.prog.built T (parts.map fun (i, x) => (i, a.eval x)).toList = some (mc m)) (k : wpList Tryd.prog ops Q rest (a.put d (mv m)) w) :
    wpList Tryd.prog ops Q ({ dst := d, op := .build T parts, type := ty, pos := pos, after := af, guard := g } :: rest) a w :=
  wpList_step fun K hK => by
    rw [if_pos hg]
    refine wp_build T parts rfl (by rw [hb]; rfl) ?_
    rw [hb]
    exact hK _ _ k
/-- What such operations yield, in whatever world, for a region that draws. -/
theorem ex_ld {g : Option (Nat × Bool)} {b : Nat} {t : TypeId} {ρ : Operand → Value} (hT : IsRow T 20) (h : w.heap[b]? = some (mO m t)) (hx : ρ x = ptr b) :
    (execOp ρ { dst := d, op := .load T x, type := ty, pos := pos, after := af, guard := g }).run Tryd.prog w = .ok (.value (mv m)) w := by
  unfold execOp
  simp only [hx, Instr.loadAt, Instr.sureAddr, Sem.run_bind, Sem.run_pure, Result.andThen_ok, run_ld hT h]
theorem ex_bd {g : Option (Nat × Bool)} {parts : Array (Nat × Operand)} {ρ : Operand → Value} (m : Ms) (hb : Tryd.prog.built T (parts.map fun (i, x) => (i, ρ x)).toList = some (mc m)) :
    (execOp ρ { dst := d, op := .build T parts, type := ty, pos := pos, after := af, guard := g }).run Tryd.prog w = .ok (.value (mv m)) w := by
  unfold execOp
  simp only [Sem.run_bind, run_build w T _ (mc m) hb, Sem.run_pure, Result.andThen_ok]
/-- A field is stored. -/
theorem stt {b : Nat} {t z : Nat} (h : w.heap[b]? = some (mO m T)) (hx : a.eval x = .pointer (some ⟨b, 18, none⟩)) (hy : a.eval y = .int .u8 (z : Int)) (k : ∀ w', w'.heap[b]? = some (mO ⟨m.k, m.c, m.p, m.s, z, m.b⟩ T) → Mod b w w' → wpList Tryd.prog ops Q rest (a.put d undef) w') :
    wpList Tryd.prog ops Q ({ dst := d, op := .store 5 x y, type := t, pos := pos, after := af, guard := none } :: rest) a w :=
  wpList_plain rfl fun _ hK => by
    have u := Tryd.isAgg5
    have z5 := Tryd.sizeOf5
    have c := (flds h).t
    have f := (frees h).2.2.1
    have k' := hK _ _ (k _ (set_t h z) (mod_setCell b 18 w _))
    clear h hK k
    unfold Oper.wp execOp
    simp only [hx, hy]
    go_simp
    exact k'
theorem stb {b : Nat} {t : Nat} {z : ByteArray} (h : w.heap[b]? = some (mO m T)) (hx : a.eval x = .pointer (some ⟨b, 19, none⟩)) (hy : a.eval y = .string z) (k : ∀ w', w'.heap[b]? = some (mO ⟨m.k, m.c, m.p, m.s, m.t, z⟩ T) → Mod b w w' → wpList Tryd.prog ops Q rest (a.put d undef) w') :
    wpList Tryd.prog ops Q ({ dst := d, op := .store 9 x y, type := t, pos := pos, after := af, guard := none } :: rest) a w :=
  wpList_plain rfl fun _ hK => by
    have u := Tryd.isAgg9
    have z5 := Tryd.sizeOf9
    have c := (flds h).b
    have f := (frees h).2.2.2
    have k' := hK _ _ (k _ (set_b h z) (mod_setCell b 19 w _))
    clear h hK k
    unfold Oper.wp execOp
    simp only [hx, hy]
    go_simp
    exact k'
theorem ex_ldp {g : Option (Nat × Bool)} {b : Nat} {t : TypeId} {ρ : Operand → Value} (hT : IsRow T 8) (h : w.heap[b]? = some (mO m t)) (hx : ρ x = .pointer (some ⟨b, 2, none⟩)) :
    (execOp ρ { dst := d, op := .load T x, type := ty, pos := pos, after := af, guard := g }).run Tryd.prog w = .ok (.value (Pn.pv m.p)) w := by
  obtain ⟨fs, hu⟩ := hT.under
  unfold execOp
  simp only [hx, Sem.run_bind, run_loadAt_mid w b 2 T _ _ (range_p h) hu rfl hT.size, Sem.run_pure, Result.andThen_ok]
theorem ex_lds {g : Option (Nat × Bool)} {b : Nat} {t : TypeId} {ρ : Operand → Value} (hT : IsRow T 8) (h : w.heap[b]? = some (mO m t)) (hx : ρ x = .pointer (some ⟨b, 10, none⟩)) :
    (execOp ρ { dst := d, op := .load T x, type := ty, pos := pos, after := af, guard := g }).run Tryd.prog w = .ok (.value (Msc.sv m.s)) w := by
  obtain ⟨fs, hu⟩ := hT.under
  unfold execOp
  simp only [hx, Sem.run_bind, run_loadAt_mid w b 10 T _ _ (range_s h) hu rfl hT.size, Sem.run_pure, Result.andThen_ok]
theorem over_same (cs0 cs cs' : Array Value) (h0 : cs0.size = cs.size) (h : ∀ j, cs'[j]? = if 0 ≤ j ∧ j < 0 + cs.toList.length then (if j < cs0.size then cs.toList[j - 0]? else none) else cs0[j]?) : cs' = cs := by
  apply Array.ext_getElem?
  intro j
  rw [h j]
  by_cases hj : j < cs.size
  · rw [if_pos (by rw [Array.length_toList]; omega), if_pos (by omega), Nat.sub_zero, Array.getElem?_toList]
  · rw [if_neg (by rw [Array.length_toList]; omega), Array.getElem?_eq_none (by omega), Array.getElem?_eq_none (by omega)]
/-- A store of a whole row, and an alloc, at the operation itself. -/
theorem wp_row {K : Act → World → Prop} {b n : Nat} {t : TypeId} {cs0 cs : Array Value} (hT : IsRow T n) (h : w.heap[b]? = some (.cells cs0 t (0, 0))) (h0 : cs0.size = n) (h1 : cs.size = n) (hc : cs.all (·.oneCell') = true) (hx : a.eval x = ptr b) (hy : a.eval y = .agg cs)
    (k : ∀ w', w'.heap[b]? = some (.cells cs t (0, 0)) → Mod b w w' → K (a.put d undef) w') : Oper.wp Tryd.prog { dst := d, op := .store T x y, type := ty, pos := pos, after := af, guard := none } a w K Q := by
  obtain ⟨cs', g1, _, g3, g4⟩ := setCells_block b cs.toList 0 w _ t h
  obtain rfl := over_same cs0 cs cs' (by omega) g3
  exact wp_store_mid T x y rfl b 0 cs' hx hy (there_of h (by omega)) (by rw [h1]; exact hT.size) hc (k _ g1 g4)
theorem wp_al {K : Act → World → Prop} {cs : Array Value} (hz : (Tryd.prog.info? T).map (·.zero) = some (some (.agg cs))) (k : ∀ (b : Nat) (w' : World), w'.heap[b]? = some (.cells cs T (0, 0)) → Fresh b w w' → K (a.put d (ptr b)) w') :
    Oper.wp Tryd.prog { dst := d, op := .alloc T, type := ty, pos := pos, after := af, guard := none } a w K Q := by
  cases hq : Tryd.prog.info? T with
  | none => simp [hq] at hz
  | some i =>
    have hi : i.zero = some (.agg cs) := by simpa [hq] using hz
    unfold Oper.wp execOp
    simp only [Instr.alloc, zeroValue, typeInfo, hq, hi, newVar, newRow, Value.cells, Sem.run_bind, Sem.run_pure, Result.andThen_ok, run_newObj, run_program]
    exact k w.heap.size (w.alloc (.cells cs T (0, 0))) (nest w [_] 0 _ rfl) (fresh_alloc w _)
end
theorem needed_results (tmps : Array Value) (w : World) (b : Nat) (m : Ms) (t : TypeId) (h : w.heap[b]? = some (mO m t)) (p2 : tmps[2]?.getD undef = ptr b) :
    (results Tryd.f24 tmps).run Tryd.prog w = .ok (mv m) w := by
  simp [results, Tryd.results24, asAddr, p2, run_ld isM h]
theorem ref_results (tmps : Array Value) (w : World) (b : Nat) (m : Ms) (t : TypeId) (h : w.heap[b]? = some (mO m t)) (p2 : tmps[2]?.getD undef = ptr b) :
    (results Tryd.f10 tmps).run Tryd.prog w = .ok (mv m) w := by
  simp [results, Tryd.results10, asAddr, p2, run_ld isR h]
theorem read_results (tmps : Array Value) (w : World) (b : Nat) (m : Ms) (t : TypeId) (x : Bool) (h : w.heap[b]? = some (mO m t)) (p2 : tmps[4]?.getD undef = ptr b) (p3 : tmps[5]?.getD undef = .bool x) :
    (results Tryd.f29 tmps).run Tryd.prog w = .ok (.tuple #[mv m, .bool x]) w := by
  simp [results, Tryd.results29, asAddr, p2, p3, run_ld isM h]
theorem get_results (tmps : Array Value) (w : World) (b : Nat) (m : Ms) (t : TypeId) (n e : Int) (h : w.heap[b]? = some (mO m t)) (p2 : tmps[2]?.getD undef = ptr b) (p3 : tmps[3]?.getD undef = .int .i64 n) (p4 : tmps[4]?.getD undef = .int .i64 e) :
    (results Tryd.f15 tmps).run Tryd.prog w = .ok (.tuple #[mv m, .int .i64 n, .int .i64 e]) w := by
  simp [results, Tryd.results15, asAddr, p2, p3, p4, run_ld isM h]
theorem rget_results (tmps : Array Value) (w : World) (b : Nat) (m : Ms) (t : TypeId) (n e : Int) (h : w.heap[b]? = some (mO m t)) (p2 : tmps[2]?.getD undef = ptr b) (p3 : tmps[3]?.getD undef = .int .i64 n) (p4 : tmps[4]?.getD undef = .int .i64 e) :
    (results Tryd.f16 tmps).run Tryd.prog w = .ok (.tuple #[mv m, .int .i64 n, .int .i64 e]) w := by
  simp [results, Tryd.results16, asAddr, p2, p3, p4, run_ld isR h]
end Go.Proofs.YtffahjlboakakaaDoor.Msgs

/-
  Layer 22, put together: MsgsArm, MsgsArm2, Rowz, Chg, CrMath, CtlMem. Conditions: as each theorem names them.
-/
import Derived.Test.YtakkhdammmcjcaaGreatDoorK05
import Derived.Test.YtakkhdammmcjcaaGreatDoorK01
import Derived.Test.YtakkhdammmcjcaaGreatDoorK04
import Derived.Great.BuildSlice
import Derived.OneCell
import Derived.Laws.AppendOwn
import Derived.Below
import Derived.Deep.LoopGhost
namespace Go.Proofs.YtakkhdammmcjcaaGreatDoor.Msgs
open Go.RowKit Base Mem
set_option maxRecDepth 20000
/-- A block was made, all else is as it was. -/
structure Fresh (b : Nat) (w w' : World) : Prop where
 eq : b = w.heap.size
 size : w'.heap.size = b + 1
 below : Below w.heap.size w w'
theorem Fresh.lt {b : Nat} {w w' : World} (h : Fresh b w w') : b < w'.heap.size := by rw [h.size]; omega
theorem fresh_alloc (w : World) (o : Obj) : Fresh w.heap.size w (w.alloc o) := ⟨rfl, by simp, (Below.refl _ _).alloc (Nat.le_refl _) _⟩
/-- What lay in a block that is not the one that was written, or made. -/
theorem Fresh.stays {b k : Nat} {w w' : World} {o : Obj} (h : Fresh b w w') (hk : w.heap[k]? = some o) : w'.heap[k]? = some o := Mem.stays hk h.below
theorem Fresh.ne {b k : Nat} {w w' : World} {o : Obj} (h : Fresh b w w') (hk : w.heap[k]? = some o) : k ≠ b := by have := lt_heap hk; have := h.eq; omega
theorem Fresh.on {b : Nat} {u w w' : World} (h : Fresh b w w') (hb : Below u.heap.size u w) : Below u.heap.size u w' := below_on hb h.below
theorem Fresh.le {b : Nat} {u w w' : World} (h : Fresh b w w') (hb : Below u.heap.size u w) : u.heap.size ≤ b := by rw [h.eq]; exact hb.size
theorem drew_at {w : World} {b : Nat} {o : Obj} (h : w.heap[b]? = some o) : w.drew.heap[b]? = some o := h
theorem mod_drew (b : Nat) (w : World) : Mod b w w.drew := ⟨rfl, rfl, rfl, rfl, fun _ _ => rfl⟩
theorem ret_sb {a a' : ByteArray} {b b' : Bool} (h : a = a') (h1 : b = b') : Ending.returned (.tuple #[.string a, .bool b]) = .returned (.tuple #[.string a', .bool b']) := by rw [h, h1]
theorem ret_is {k : IntKind} {x x' : Int} {a a' : ByteArray} (h : x = x') (h1 : a = a') : Ending.returned (.tuple #[.int k x, .string a]) = .returned (.tuple #[.int k x', .string a']) := by rw [h, h1]
theorem zeroP : (Tryz.prog.info? 25).map (·.zero) = some (some Pn.noV) := by kernel_rfl
theorem zeroS : (Tryz.prog.info? 27).map (·.zero) = some (some Msc.noV) := by kernel_rfl
theorem zeroM : (Tryz.prog.info? 29).map (·.zero) = some (some (mv zero)) := by kernel_rfl
theorem zeroR : (Tryz.prog.info? 79).map (·.zero) = some (some (mv zero)) := by kernel_rfl
section
variable {ops : Array Oper} {rest : List Oper} {a : Act} {Q : Exit → Act → World → Prop} {d : Option Tmp} {x y : Operand} {ty : TypeId} {pos : String} {af : Array Edge} {w : World} {m : Ms} {T : Nat}
theorem bxm (hx : a.eval x = mv m) (k : ∀ (b : Nat) (w' : World), w'.heap[b]? = some (mO m T) → Fresh b w w' → wpList Tryz.prog ops Q rest (a.put d (ptr b)) w') :
 wpList Tryz.prog ops Q ({ dst := d, op := .box T x, type := ty, pos := pos, after := af, guard := none } :: rest) a w :=
 wpList_plain rfl fun _ hK => by
  unfold Oper.wp execOp
  simp only [hx, Instr.box, newVar, newRow, Value.cells, Sem.run_bind, Sem.run_pure, Result.andThen_ok, run_newObj]
  exact hK _ _ (k w.heap.size (w.alloc (mO m T)) (nest w [_] 0 _ rfl) (fresh_alloc w _))
theorem alm (hz : (Tryz.prog.info? T).map (·.zero) = some (some (mv m))) (k : ∀ (b : Nat) (w' : World), w'.heap[b]? = some (mO m T) → Fresh b w w' → wpList Tryz.prog ops Q rest (a.put d (ptr b)) w') :
 wpList Tryz.prog ops Q ({ dst := d, op := .alloc T, type := ty, pos := pos, after := af, guard := none } :: rest) a w :=
 wpList_plain rfl fun _ hK => by
  cases hq : Tryz.prog.info? T with
  | none => simp [hq] at hz
  | some i =>
   have hi : i.zero = some (mv m) := by simpa [hq] using hz
   unfold Oper.wp execOp
   simp only [Instr.alloc, zeroValue, typeInfo, hq, hi, newVar, newRow, Value.cells, Sem.run_bind, Sem.run_pure, Result.andThen_ok, run_newObj, run_program]
   exact hK _ _ (k w.heap.size (w.alloc (mO m T)) (nest w [_] 0 _ rfl) (fresh_alloc w _))
/-- Guarded operations that are wanted. -/
theorem ldmg {g : Option (Nat × Bool)} {b : Nat} {t : TypeId} (hT : IsRow T 20) (h : w.heap[b]? = some (mO m t)) (hg : Region.wanted { dst := d, op := .load T x, type := ty, pos := pos, after := af, guard := g } (yielded ops a.tmps) = true) (hx : a.eval x = ptr b) (k : wpList Tryz.prog ops Q rest (a.put d (mv m)) w) :
 wpList Tryz.prog ops Q ({ dst := d, op := .load T x, type := ty, pos := pos, after := af, guard := g } :: rest) a w :=
 wpList_step fun K hK => by
  rw [if_pos hg]
  obtain ⟨fs, hu⟩ := hT.under
  exact wp_load_row T x rfl b hx t (mc m) (0, 0) _ h hu rfl hT.size (hK _ _ k)
theorem bdmg {g : Option (Nat × Bool)} {parts : Array (Nat × Operand)} (m : Ms) (hg : Region.wanted { dst := d, op := .build T parts, type := ty, pos := pos, after := af, guard := g } (yielded ops a.tmps) = true) (hb : Tryz.prog.built T (parts.map fun (i, x) => (i, a.eval x)).toList = some (mc m)) (k : wpList Tryz.prog ops Q rest (a.put d (mv m)) w) :
 wpList Tryz.prog ops Q ({ dst := d, op := .build T parts, type := ty, pos := pos, after := af, guard := g } :: rest) a w :=
 wpList_step fun K hK => by
  rw [if_pos hg]
  refine wp_build T parts rfl (by rw [hb]; rfl) ?_
  rw [hb]
  exact hK _ _ k
/-- What such operations yield, in whatever world, for a region that draws. -/
theorem ex_ld {g : Option (Nat × Bool)} {b : Nat} {t : TypeId} {ρ : Operand → Value} (hT : IsRow T 20) (h : w.heap[b]? = some (mO m t)) (hx : ρ x = ptr b) :
 (execOp ρ { dst := d, op := .load T x, type := ty, pos := pos, after := af, guard := g }).run Tryz.prog w = .ok (.value (mv m)) w := by
 unfold execOp
 simp only [hx, Instr.loadAt, Instr.sureAddr, Sem.run_bind, Sem.run_pure, Result.andThen_ok, run_ld hT h]
theorem ex_bd {g : Option (Nat × Bool)} {parts : Array (Nat × Operand)} {ρ : Operand → Value} (m : Ms) (hb : Tryz.prog.built T (parts.map fun (i, x) => (i, ρ x)).toList = some (mc m)) :
 (execOp ρ { dst := d, op := .build T parts, type := ty, pos := pos, after := af, guard := g }).run Tryz.prog w = .ok (.value (mv m)) w := by
 unfold execOp
 simp only [Sem.run_bind, run_build w T _ (mc m) hb, Sem.run_pure, Result.andThen_ok]
/-- A field is stored. -/
theorem stt {b : Nat} {t z : Nat} (h : w.heap[b]? = some (mO m T)) (hx : a.eval x = .pointer (some ⟨b, 18, none⟩)) (hy : a.eval y = .int .u8 (z : Int)) (k : ∀ w', w'.heap[b]? = some (mO ⟨m.k, m.c, m.p, m.s, z, m.b⟩ T) → Mod b w w' → wpList Tryz.prog ops Q rest (a.put d undef) w') :
 wpList Tryz.prog ops Q ({ dst := d, op := .store 5 x y, type := t, pos := pos, after := af, guard := none } :: rest) a w :=
 wpList_plain rfl fun _ hK => by
  have u := Tryz.isAgg5
  have z5 := Tryz.sizeOf5
  have c := (flds h).t
  have f := (frees h).2.2.1
  have k' := hK _ _ (k _ (set_t h z) (mod_setCell b 18 w _))
  clear h hK k
  unfold Oper.wp execOp
  simp only [hx, hy]
  go_simp
  exact k'
theorem stb {b : Nat} {t : Nat} {z : ByteArray} (h : w.heap[b]? = some (mO m T)) (hx : a.eval x = .pointer (some ⟨b, 19, none⟩)) (hy : a.eval y = .string z) (k : ∀ w', w'.heap[b]? = some (mO ⟨m.k, m.c, m.p, m.s, m.t, z⟩ T) → Mod b w w' → wpList Tryz.prog ops Q rest (a.put d undef) w') :
 wpList Tryz.prog ops Q ({ dst := d, op := .store 9 x y, type := t, pos := pos, after := af, guard := none } :: rest) a w :=
 wpList_plain rfl fun _ hK => by
  have u := Tryz.isAgg9
  have z5 := Tryz.sizeOf9
  have c := (flds h).b
  have f := (frees h).2.2.2
  have k' := hK _ _ (k _ (set_b h z) (mod_setCell b 19 w _))
  clear h hK k
  unfold Oper.wp execOp
  simp only [hx, hy]
  go_simp
  exact k'
theorem ex_ldp {g : Option (Nat × Bool)} {b : Nat} {t : TypeId} {ρ : Operand → Value} (hT : IsRow T 8) (h : w.heap[b]? = some (mO m t)) (hx : ρ x = .pointer (some ⟨b, 2, none⟩)) :
 (execOp ρ { dst := d, op := .load T x, type := ty, pos := pos, after := af, guard := g }).run Tryz.prog w = .ok (.value (Pn.pv m.p)) w := by
 obtain ⟨fs, hu⟩ := hT.under
 unfold execOp
 simp only [hx, Sem.run_bind, run_loadAt_mid w b 2 T _ _ (range_p h) hu rfl hT.size, Sem.run_pure, Result.andThen_ok]
theorem ex_lds {g : Option (Nat × Bool)} {b : Nat} {t : TypeId} {ρ : Operand → Value} (hT : IsRow T 8) (h : w.heap[b]? = some (mO m t)) (hx : ρ x = .pointer (some ⟨b, 10, none⟩)) :
 (execOp ρ { dst := d, op := .load T x, type := ty, pos := pos, after := af, guard := g }).run Tryz.prog w = .ok (.value (Msc.sv m.s)) w := by
 obtain ⟨fs, hu⟩ := hT.under
 unfold execOp
 simp only [hx, Sem.run_bind, run_loadAt_mid w b 10 T _ _ (range_s h) hu rfl hT.size, Sem.run_pure, Result.andThen_ok]
theorem over_same (cs0 cs cs' : Array Value) (h0 : cs0.size = cs.size) (h : ∀ j, cs'[j]? = if 0 ≤ j ∧ j < 0 + cs.toList.length then (if j < cs0.size then cs.toList[j - 0]? else none) else cs0[j]?) : cs' = cs := by
 apply Array.ext_getElem?
 intro j
 rw [h j]
 by_cases hj : j < cs.size
 · rw [if_pos (by rw [Array.length_toList]; omega), if_pos (by omega), Nat.sub_zero, Array.getElem?_toList]
 · rw [if_neg (by rw [Array.length_toList]; omega), Array.getElem?_eq_none (by omega), Array.getElem?_eq_none (by omega)]
/-- A store of a whole row, and an alloc, at the operation itself. -/
theorem wp_row {K : Act → World → Prop} {b n : Nat} {t : TypeId} {cs0 cs : Array Value} (hT : IsRow T n) (h : w.heap[b]? = some (.cells cs0 t (0, 0))) (h0 : cs0.size = n) (h1 : cs.size = n) (hc : cs.all (·.oneCell') = true) (hx : a.eval x = ptr b) (hy : a.eval y = .agg cs)
 (k : ∀ w', w'.heap[b]? = some (.cells cs t (0, 0)) → Mod b w w' → K (a.put d undef) w') : Oper.wp Tryz.prog { dst := d, op := .store T x y, type := ty, pos := pos, after := af, guard := none } a w K Q := by
 obtain ⟨cs', g1, _, g3, g4⟩ := setCells_block b cs.toList 0 w _ t h
 obtain rfl := over_same cs0 cs cs' (by omega) g3
 exact wp_store_mid T x y rfl b 0 cs' hx hy (there_of h (by omega)) (by rw [h1]; exact hT.size) hc (k _ g1 g4)
theorem wp_al {K : Act → World → Prop} {cs : Array Value} (hz : (Tryz.prog.info? T).map (·.zero) = some (some (.agg cs))) (k : ∀ (b : Nat) (w' : World), w'.heap[b]? = some (.cells cs T (0, 0)) → Fresh b w w' → K (a.put d (ptr b)) w') :
 Oper.wp Tryz.prog { dst := d, op := .alloc T, type := ty, pos := pos, after := af, guard := none } a w K Q := by
 cases hq : Tryz.prog.info? T with
 | none => simp [hq] at hz
 | some i =>
  have hi : i.zero = some (.agg cs) := by simpa [hq] using hz
  unfold Oper.wp execOp
  simp only [Instr.alloc, zeroValue, typeInfo, hq, hi, newVar, newRow, Value.cells, Sem.run_bind, Sem.run_pure, Result.andThen_ok, run_newObj, run_program]
  exact k w.heap.size (w.alloc (.cells cs T (0, 0))) (nest w [_] 0 _ rfl) (fresh_alloc w _)
end
theorem needed_results (tmps : Array Value) (w : World) (b : Nat) (m : Ms) (t : TypeId) (h : w.heap[b]? = some (mO m t)) (p2 : tmps[2]?.getD undef = ptr b) :
 (results Tryz.f62 tmps).run Tryz.prog w = .ok (mv m) w := by
 simp [results, Tryz.results62, asAddr, p2, run_ld isM h]
theorem read_results (tmps : Array Value) (w : World) (b : Nat) (m : Ms) (t : TypeId) (x : Bool) (h : w.heap[b]? = some (mO m t)) (p2 : tmps[4]?.getD undef = ptr b) (p3 : tmps[5]?.getD undef = .bool x) :
 (results Tryz.f84 tmps).run Tryz.prog w = .ok (.tuple #[mv m, .bool x]) w := by
 simp [results, Tryz.results84, asAddr, p2, p3, run_ld isM h]
theorem get_results (tmps : Array Value) (w : World) (b : Nat) (m : Ms) (t : TypeId) (n e : Int) (h : w.heap[b]? = some (mO m t)) (p2 : tmps[2]?.getD undef = ptr b) (p3 : tmps[3]?.getD undef = .int .i64 n) (p4 : tmps[4]?.getD undef = .int .i64 e) :
 (results Tryz.f63 tmps).run Tryz.prog w = .ok (.tuple #[mv m, .int .i64 n, .int .i64 e]) w := by
 simp [results, Tryz.results63, asAddr, p2, p3, p4, run_ld isM h]
theorem rget_results (tmps : Array Value) (w : World) (b : Nat) (m : Ms) (t : TypeId) (n e : Int) (h : w.heap[b]? = some (mO m t)) (p2 : tmps[2]?.getD undef = ptr b) (p3 : tmps[3]?.getD undef = .int .i64 n) (p4 : tmps[4]?.getD undef = .int .i64 e) :
 (results Tryz.f79 tmps).run Tryz.prog w = .ok (.tuple #[mv m, .int .i64 n, .int .i64 e]) w := by
 simp [results, Tryz.results79, asAddr, p2, p3, p4, run_ld isR h]
end Go.Proofs.YtakkhdammmcjcaaGreatDoor.Msgs
namespace Go.Proofs.YtakkhdammmcjcaaGreatDoor.Msgs
open Go.RowKit Base Mem
set_option maxRecDepth 20000
section
variable {ops : Array Oper} {rest : List Oper} {a : Act} {Q : Exit → Act → World → Prop} {d : Option Tmp} {x y : Operand} {ty : TypeId} {pos : String} {af : Array Edge} {w : World} {m : Ms} {T : Nat}
theorem alr {cs : Array Value} (hz : (Tryz.prog.info? T).map (·.zero) = some (some (.agg cs))) (k : ∀ (b : Nat) (w' : World), w'.heap[b]? = some (.cells cs T (0, 0)) → Fresh b w w' → wpList Tryz.prog ops Q rest (a.put d (ptr b)) w') :
 wpList Tryz.prog ops Q ({ dst := d, op := .alloc T, type := ty, pos := pos, after := af, guard := none } :: rest) a w :=
 wpList_plain rfl fun _ hK => wp_al hz fun b w' h F => hK _ _ (k b w' h F)
theorem str {n b : Nat} {t : TypeId} (cs : Array Value) {cs0 : Array Value} (hT : IsRow T n) (h : w.heap[b]? = some (.cells cs0 t (0, 0))) (h0 : cs0.size = n) (h1 : cs.size = n) (hc : cs.all (·.oneCell') = true) (hx : a.eval x = ptr b) (hy : a.eval y = .agg cs)
 (k : ∀ w', w'.heap[b]? = some (.cells cs t (0, 0)) → Mod b w w' → wpList Tryz.prog ops Q rest (a.put d undef) w') :
 wpList Tryz.prog ops Q ({ dst := d, op := .store T x y, type := ty, pos := pos, after := af, guard := none } :: rest) a w :=
 wpList_plain rfl fun _ hK => wp_row hT h h0 h1 hc hx hy fun w' h M => hK _ _ (k w' h M)
theorem stc {b : Nat} {t : Nat} {z : Bool} (h : w.heap[b]? = some (mO m T)) (hx : a.eval x = .pointer (some ⟨b, 1, none⟩)) (hy : a.eval y = .bool z) (k : ∀ w', w'.heap[b]? = some (mO (m.cmd z) T) → Mod b w w' → wpList Tryz.prog ops Q rest (a.put d undef) w') :
 wpList Tryz.prog ops Q ({ dst := d, op := .store 4 x y, type := t, pos := pos, after := af, guard := none } :: rest) a w :=
 wpList_plain rfl fun _ hK => by
  have u := Tryz.isAgg4
  have z5 := Tryz.sizeOf4
  have c := (flds h).c
  have f := (frees h).2.1
  have k' := hK _ _ (k _ (set_c h z) (mod_setCell b 1 w _))
  clear h hK k
  unfold Oper.wp execOp
  simp only [hx, hy]
  go_simp
  exact k'
/-- A slice literal. -/
theorem bsl {len : Nat} {S e : Nat} {parts : Array (Nat × Operand)} (cells : Array Value) (hu : Tryz.prog.underlying S = some (.slice e)) (he : (Tryz.prog.info? e).map (fun i => (i.zero, i.size)) = some (some (mv zero), 20)) (hl : 0 < len ∧ len ≤ 100)
 (hf : Instr.fill (fun i => some (i * 20, 20)) ((Array.range (len * 20)).map ((mc zero)[· % (mc zero).size]!)) (parts.map fun (i, x) => (i, a.eval x)).toList = some cells)
 (k : ∀ (b : Nat) (w' : World), w'.heap[b]? = some (.cells cells e (0, 0)) → Fresh b w w' → wpList Tryz.prog ops Q rest (a.put d (.slice (some ⟨b, 0, none⟩) len len)) w') :
 wpList Tryz.prog ops Q ({ dst := d, op := .buildSlice S len parts, type := ty, pos := pos, after := af, guard := none } :: rest) a w := by
 cases hq : Tryz.prog.info? e with
 | none => simp [hq] at he
 | some i =>
  simp only [hq, Option.map_some, Option.some.injEq, Prod.mk.injEq] at he
  refine wpList_buildSlice rfl S e len parts rfl cells i (mv zero) hu hq he.1 (by rw [he.2]; omega) (by rw [he.2]; omega) (by rw [he.2]; exact hf) ?_
  exact k w.heap.size (w.alloc (.cells cells e (0, 0))) (nest w [_] 0 _ rfl) (fresh_alloc w _)
end
theorem infoM : (Tryz.prog.info? 29).map (fun i => (i.zero, i.size)) = some (some (mv zero), 20) := by kernel_rfl
theorem infoR : (Tryz.prog.info? 79).map (fun i => (i.zero, i.size)) = some (some (mv zero), 20) := by kernel_rfl
theorem fill1 (m : Ms) : Instr.fill (fun i => some (i * 20, 20)) ((Array.range (1 * 20)).map ((mc zero)[· % (mc zero).size]!)) [(0, mv m)] = some (mc m) := by kernel_rfl
/-- A message's cells, as a list. -/
def ml (m : Ms) : List Value := (mc m).toList
theorem ml_len (m : Ms) : (ml m).length = 20 := rfl
theorem ml_one (m : Ms) : ∀ u ∈ ml m, u.oneCell' = true := fun u hu => (Array.all_eq_true_iff_forall_mem.1 (one_all m)) u (by unfold ml at hu; simpa using hu)
theorem eltM : Elt 29 22 20 ml where
 under := Tryz.underlying22
 info := ⟨mv zero, 80, by kernel_rfl, rfl, by decide⟩
 len := ml_len
 one := ml_one
 pos := by decide
theorem eltR : Elt 79 49 20 ml where
 under := Tryz.underlying49
 info := ⟨mv zero, 80, by kernel_rfl, rfl, by decide⟩
 len := ml_len
 one := ml_one
 pos := by decide
theorem row_of {w : World} {b : Nat} {m : Ms} {t : TypeId} (h : w.heap[b]? = some (mO m t)) : ∀ j, j < 20 → w.cell? ⟨b, j, none⟩ = (ml m)[j]? := fun j hj => by
 have hj' : j < (mc m).size := hj
 rw [cell_of h (Array.getElem?_eq_getElem hj')]
 unfold ml
 rw [Array.getElem?_toList, Array.getElem?_eq_getElem hj']
end Go.Proofs.YtakkhdammmcjcaaGreatDoor.Msgs
namespace Go.Proofs.YtakkhdammmcjcaaGreatDoor.Msgs
open Go.RowKit Base Mem
set_option maxRecDepth 20000
theorem mod_setCells (b : Nat) : ∀ (vs : List Value) (o : Nat) (w : World), Mod b w (w.setCells b o vs)
 | [], _, w => Mod.refl b w
 | v :: r, o, w => (mod_setCell b o w v).trans (mod_setCells b r (o + 1) _)
/-- Values laid over others, from a place on. -/
def overL : List Value → Nat → List Value → List Value
 | L, _, [] => L
 | L, o, v :: r => overL (L.set o v) (o + 1) r
theorem own_cells {E z n cap g base : Nat} : ∀ (vs : List Value) (o : Nat) (w : World) (L : List Value), w.ownsRow base E z (.slice (some ⟨g, 0, none⟩) n cap) n L → (w.setCells g o vs).ownsRow base E z (.slice (some ⟨g, 0, none⟩) n cap) n (overL L o vs)
 | [], _, _, _, h => h
 | v :: r, o, _, _, h => own_cells r (o + 1) _ _ (h.stored o v).1
theorem overL_mid : ∀ (vs A P B : List Value), A.length = vs.length → overL (P ++ (A ++ B)) P.length vs = P ++ (vs ++ B)
 | [], A, P, B, h => by
  obtain rfl : A = [] := List.eq_nil_of_length_eq_zero h
  rfl
 | v :: r, A, P, B, h => by
  match A, h with
  | a :: A', h =>
   have ih := overL_mid r A' (P ++ [v]) B (by simpa using h)
   rw [List.length_append, List.append_assoc, List.append_assoc] at ih
   show overL ((P ++ (a :: (A' ++ B))).set P.length v) (P.length + 1) r = P ++ (v :: (r ++ B))
   rw [List.set_append_right _ _ (Nat.le_refl _), Nat.sub_self, List.set_cons_zero]
   exact ih
section
variable {α : Type} {E z n cap g base : Nat} {fc : α → List Value} {w : World} {l : List α}
theorem flatz (hl : ∀ x, (fc x).length = z) (l : List α) (k : Nat) (hk : k < l.length) (y : α) : overL (l.flatMap fc) (z * k) (fc y) = (l.set k y).flatMap fc := by
 have e : l = l.take k ++ l[k] :: l.drop (k + 1) := by rw [List.getElem_cons_drop, List.take_append_drop]
 have hp : ((l.take k).flatMap fc).length = z * k := by
  rw [flat_len hl, List.length_take, Nat.min_eq_left (by omega)]
 rw [List.set_eq_take_append_cons_drop, if_pos hk, List.flatMap_append, List.flatMap_cons]
 conv => lhs; arg 1; rw [e, List.flatMap_append, List.flatMap_cons]
 rw [← hp]
 exact overL_mid (fc y) (fc l[k]) _ _ (by rw [hl, hl])
theorem own_putz (hl : ∀ x, (fc x).length = z) (h : OwnS E z fc w base (.slice (some ⟨g, 0, none⟩) n cap) l) (k : Nat) (hk : k < l.length) (y : α) :
 OwnS E z fc (w.setCells g (k * z) (fc y)) base (.slice (some ⟨g, 0, none⟩) n cap) (l.set k y) := by
 have hn := h.num
 subst hn
 unfold OwnS at *
 rw [List.length_set, ← flatz hl l k hk y, Nat.mul_comm k z]
 exact own_cells _ _ _ _ h
theorem own_rangez (hl : ∀ x, (fc x).length = z) (h : OwnS E z fc w base (.slice (some ⟨g, 0, none⟩) n cap) l) (k : Nat) (x : α) (hk : l[k]? = some x) : w.rangeAt g (k * z) (fc x) := fun j v hv => by
 have hj : j < z := by rw [← hl x]; exact (List.getElem?_eq_some_iff.1 hv).1
 have := h.cell hl k x hk j hj
 rw [Nat.mul_comm z k] at this
 exact this.trans hv
end
theorem ml_arr (m : Ms) : (ml m).toArray = mc m := by unfold ml; simp
section
variable {ops : Array Oper} {rest : List Oper} {a : Act} {Q : Exit → Act → World → Prop} {d : Option Tmp} {x y : Operand} {ty : TypeId} {pos : String} {af : Array Edge} {w : World} {m : Ms} {T : Nat}
theorem ex_ldr {g : Option (Nat × Bool)} {b o : Nat} {ρ : Operand → Value} (hT : IsRow T 20) (h : w.rangeAt b o (ml m)) (hx : ρ x = .pointer (some ⟨b, o, none⟩)) :
 (execOp ρ { dst := d, op := .load T x, type := ty, pos := pos, after := af, guard := g }).run Tryz.prog w = .ok (.value (mv m)) w := by
 obtain ⟨fs, hu⟩ := hT.under
 unfold execOp
 simp only [hx, Sem.run_bind, run_loadAt_mid w b o T (ml m) _ h hu rfl hT.size, Sem.run_pure, Result.andThen_ok, ml_arr]
theorem ldr {b o : Nat} (hT : IsRow T 20) (h : w.rangeAt b o (ml m)) (hx : a.eval x = .pointer (some ⟨b, o, none⟩)) (k : wpList Tryz.prog ops Q rest (a.put d (mv m)) w) :
 wpList Tryz.prog ops Q ({ dst := d, op := .load T x, type := ty, pos := pos, after := af, guard := none } :: rest) a w := by
 obtain ⟨fs, hu⟩ := hT.under
 exact wpList_load_mid rfl T x rfl b o hx (ml m) _ h hu rfl hT.size (by rw [ml_arr]; exact k)
end
section
variable {α : Type} {z : Nat} {fc : α → List Value} {ops : Array Oper} {rest : List Oper} {a : Act} {Q : Exit → Act → World → Prop} {d : Option Tmp} {x y : Operand} {ty : TypeId} {pos : String} {af : Array Edge} {w : World} {T : Nat}
/-- A struct is loaded from wherever it lies. -/
theorem ldz {b o : Nat} {vs : List Value} (hT : IsRow T z) (h : w.rangeAt b o vs) (hz : vs.length = z) (hx : a.eval x = .pointer (some ⟨b, o, none⟩)) (k : wpList Tryz.prog ops Q rest (a.put d (.agg vs.toArray)) w) :
 wpList Tryz.prog ops Q ({ dst := d, op := .load T x, type := ty, pos := pos, after := af, guard := none } :: rest) a w := by
 obtain ⟨fs, hu⟩ := hT.under
 subst hz
 exact wpList_load_mid rfl T x rfl b o hx vs _ h hu rfl hT.size k
/-- A struct is boxed. -/
theorem bxz (cs : Array Value) (hx : a.eval x = .agg cs) (k : ∀ (b : Nat) (w' : World), w'.heap[b]? = some (.cells cs T (0, 0)) → Fresh b w w' → wpList Tryz.prog ops Q rest (a.put d (ptr b)) w') :
 wpList Tryz.prog ops Q ({ dst := d, op := .box T x, type := ty, pos := pos, after := af, guard := none } :: rest) a w :=
 wpList_plain rfl fun _ hK => by
  unfold Oper.wp execOp
  simp only [hx, Instr.box, newVar, newRow, Value.cells, Sem.run_bind, Sem.run_pure, Result.andThen_ok, run_newObj]
  exact hK _ _ (k w.heap.size (w.alloc (.cells cs T (0, 0))) (nest w [_] 0 _ rfl) (fresh_alloc w _))
/-- One is stored over an element. -/
theorem stz {E g n cap base i : Nat} {l : List α} (hl : ∀ x, (fc x).length = z) (h1 : ∀ x, ∀ u ∈ fc x, u.oneCell' = true) (hT : IsRow T z) (h : OwnS E z fc w base (.slice (some ⟨g, 0, none⟩) n cap) l) (hi : i < l.length) (v : α) (hx : a.eval x = .pointer (some ⟨g, i * z, none⟩)) (hy : a.eval y = .agg (fc v).toArray)
 (k : ∀ w', OwnS E z fc w' base (.slice (some ⟨g, 0, none⟩) n cap) (l.set i v) → Mod g w w' → wpList Tryz.prog ops Q rest (a.put d undef) w') :
 wpList Tryz.prog ops Q ({ dst := d, op := .store T x y, type := ty, pos := pos, after := af, guard := none } :: rest) a w := by
 have hr := own_rangez hl h i _ (List.getElem?_eq_getElem hi)
 refine wpList_store_mid rfl T x y rfl g (i * z) (fc v).toArray hx hy (fun j hj => ⟨hr.isSome j ?_, h.free _⟩) (by rw [hT.size]; simp [hl]) (all_oneCell_toArray (h1 v)) (k _ (own_putz hl h i hi v) (mod_setCells _ _ _ _))
 rw [hl]; simpa [hl] using hj
/-- Guarded loads of a struct that are wanted. -/
theorem ldpg {g : Option (Nat × Bool)} {b : Nat} {m : Ms} {t : TypeId} (hT : IsRow T 8) (h : w.heap[b]? = some (mO m t)) (hg : Region.wanted { dst := d, op := .load T x, type := ty, pos := pos, after := af, guard := g } (yielded ops a.tmps) = true) (hx : a.eval x = .pointer (some ⟨b, 2, none⟩)) (k : wpList Tryz.prog ops Q rest (a.put d (Pn.pv m.p)) w) :
 wpList Tryz.prog ops Q ({ dst := d, op := .load T x, type := ty, pos := pos, after := af, guard := g } :: rest) a w :=
 wpList_step fun K hK => by
  rw [if_pos hg]
  obtain ⟨fs, hu⟩ := hT.under
  exact wp_load_mid T x rfl b 2 hx _ _ (range_p h) hu rfl hT.size (hK _ _ k)
theorem ldsg {g : Option (Nat × Bool)} {b : Nat} {m : Ms} {t : TypeId} (hT : IsRow T 8) (h : w.heap[b]? = some (mO m t)) (hg : Region.wanted { dst := d, op := .load T x, type := ty, pos := pos, after := af, guard := g } (yielded ops a.tmps) = true) (hx : a.eval x = .pointer (some ⟨b, 10, none⟩)) (k : wpList Tryz.prog ops Q rest (a.put d (Msc.sv m.s)) w) :
 wpList Tryz.prog ops Q ({ dst := d, op := .load T x, type := ty, pos := pos, after := af, guard := g } :: rest) a w :=
 wpList_step fun K hK => by
  rw [if_pos hg]
  obtain ⟨fs, hu⟩ := hT.under
  exact wp_load_mid T x rfl b 10 hx _ _ (range_s h) hu rfl hT.size (hK _ _ k)
end
end Go.Proofs.YtakkhdammmcjcaaGreatDoor.Msgs
namespace Go.Proofs.YtakkhdammmcjcaaGreatDoor.Mem
open Go.RowKit Base
/-- Blocks of S may have changed, new blocks may have come. -/
structure Chg (S : Nat → Prop) (w w' : World) : Prop where
 os : w'.os = w.os
 tape : w'.tape = w.tape
 output : w'.output = w.output
 size : w.heap.size ≤ w'.heap.size
 block : ∀ k, k < w.heap.size → ¬ S k → w'.heap[k]? = w.heap[k]?
theorem set_other {w : World} {b c o : Nat} (h : c ≠ b) (v : Value) : (w.setCell ⟨b, o, none⟩ v).heap[c]? = w.heap[c]? := by
 show (w.heap.modify b _)[c]? = _
 rw [Array.getElem?_modify, if_neg fun e => h e.symm]
section
variable {S T : Nat → Prop} {a b w w' : World}
theorem Chg.refl (S : Nat → Prop) (w : World) : Chg S w w := ⟨rfl, rfl, rfl, Nat.le_refl _, fun _ _ _ => rfl⟩
theorem Chg.mono (h : Chg S w w') (hs : ∀ k, S k → T k) : Chg T w w' := ⟨h.os, h.tape, h.output, h.size, fun k hk hn => h.block k hk fun x => hn (hs k x)⟩
theorem Chg.monoLt (h : Chg S w w') (hs : ∀ k, k < w.heap.size → S k → T k) : Chg T w w' := ⟨h.os, h.tape, h.output, h.size, fun k hk hn => h.block k hk fun x => hn (hs k hk x)⟩
theorem Chg.trans (h : Chg S a b) (h' : Chg T b w) (ht : ∀ k, k < a.heap.size → T k → S k) : Chg S a w :=
 ⟨h'.os.trans h.os, h'.tape.trans h.tape, h'.output.trans h.output, Nat.le_trans h.size h'.size, fun k hk hn => (h'.block k (Nat.lt_of_lt_of_le hk h.size) fun x => hn (ht k hk x)).trans (h.block k hk hn)⟩
theorem Chg.then (h : Chg S a b) (h' : Chg S b w) : Chg S a w := h.trans h' fun _ _ x => x
theorem Chg.of_below (h : Below w.heap.size w w') : Chg S w w' := ⟨h.os, h.tape, h.output, h.size, fun k hk _ => h.block k hk⟩
theorem Chg.of_grown {r : Option Nat} (h : w.grownBy w' r) (hr : ∀ k, r = some k → S k) : Chg S w w' := ⟨h.os, h.tape, h.output, h.size, fun k hk hn => h.block k hk fun e => hn (hr k e.symm)⟩
theorem Chg.grown {r : Option Nat} (h : Chg S a w) (hg : w.grownBy w' r) (hr : ∀ k, r = some k → k < a.heap.size → S k) : Chg S a w' :=
 h.trans (T := fun k => r = some k) (Chg.of_grown hg fun _ e => e) fun k hk e => hr k e hk
theorem Chg.set (b i : Nat) (v : Value) (h : S b) (w : World) : Chg S w (w.setCell ⟨b, i, none⟩ v) :=
 ⟨rfl, rfl, rfl, by simp, fun k _ hn => by
  have hne : b ≠ k := fun e => hn (e ▸ h)
  show (w.heap.modify b _)[k]? = _
  rw [Array.getElem?_modify, if_neg hne]⟩
theorem Chg.setCell (h : Chg S a w) (b i : Nat) (v : Value) (hb : b < a.heap.size → S b) : Chg S a (w.setCell ⟨b, i, none⟩ v) :=
 h.trans (T := fun k => k = b) (Chg.set (S := fun k => k = b) b i v rfl w) fun k hk e => by subst e; exact hb hk
theorem Chg.drewN (h : Chg S a w) (n : Nat) : Chg S a (w.drewN n) := ⟨h.os, h.tape, h.output, h.size, h.block⟩
theorem Chg.drew (h : Chg S a w) : Chg S a w.drew := ⟨h.os, h.tape, h.output, h.size, h.block⟩
theorem Chg.alloc (h : Chg S a w) (o : Obj) : Chg S a (w.alloc o) := h.trans (T := S) (Chg.of_below ((Below.refl _ _).alloc (Nat.le_refl _) o)) fun _ _ x => x
theorem Chg.on (h : Chg S a w) (hb : Below w.heap.size w w') : Chg S a w' := h.trans (T := S) (Chg.of_below hb) fun _ _ x => x
/-- A block that lies outside. -/
theorem Chg.stays (h : Chg S w w') {k : Nat} {o : Obj} (hk : w.heap[k]? = some o) (hn : ¬ S k) : w'.heap[k]? = some o := (h.block k (lt_heap hk) hn).trans hk
theorem Chg.below {B : Nat} (h : Chg S w w') (hb : Below B a w) (hB : B ≤ w.heap.size) (hs : ∀ k, S k → B ≤ k) : Below B a w' :=
 hb.trans ⟨h.os, h.tape, h.output, Nat.le_trans (Nat.le_refl _) h.size, fun k hk => h.block k (Nat.lt_of_lt_of_le hk hB) fun x => by have := hs k x; omega⟩
end
end Go.Proofs.YtakkhdammmcjcaaGreatDoor.Mem
namespace Go.Proofs.YtakkhdammmcjcaaGreatDoor.Cr
open Go.RowKit Base Mem
/-- What is answered: no number of bytes; more than there is; none of both. -/
def fit (n m : Int) : Int := if n < 0 then 2 else if m < n then 3 else 0
def roomOf (n : Int) : Int := min (max n 1) 4096
/-- A purse: its room, what is left. -/
structure Pu where
 r : Int
 l : Int
/-- A till: its room, what it holds, what it owes. -/
structure Ti where
 r : Int
 h : Int
 o : Int
structure Pu.Ok (x : Pu) : Prop where
 r1 : 1 ≤ x.r
 r2 : x.r ≤ 4096
 l0 : 0 ≤ x.l
 l1 : x.l ≤ x.r
structure Ti.Ok (x : Ti) : Prop where
 r1 : 1 ≤ x.r
 r2 : x.r ≤ 4096
 h0 : 0 ≤ x.h
 o0 : 0 ≤ x.o
 s : x.h + x.o ≤ x.r
def newP (n : Int) : Pu := ⟨roomOf n, roomOf n⟩
def newT (n : Int) : Ti := ⟨roomOf n, 0, 0⟩
def Pu.use (x : Pu) (n : Int) : Pu := if fit n x.l = 0 then ⟨x.r, x.l - n⟩ else x
def Pu.grant (x : Pu) (n : Int) : Pu := if fit n (x.r - x.l) = 0 then ⟨x.r, x.l + n⟩ else x
def Ti.come (x : Ti) (n : Int) : Ti := if fit n (x.r - x.o - x.h) = 0 then ⟨x.r, x.h + n, x.o⟩ else x
def Ti.read (x : Ti) (n : Int) : Ti := if fit n x.h = 0 then ⟨x.r, x.h - n, x.o + n⟩ else x
def Ti.pay (x : Ti) : Ti := ⟨x.r, x.h, 0⟩
theorem fit_cases (n m : Int) : (n < 0 ∧ fit n m = 2) ∨ (0 ≤ n ∧ m < n ∧ fit n m = 3) ∨ (0 ≤ n ∧ n ≤ m ∧ fit n m = 0) := by
 unfold fit
 by_cases h : n < 0
 · exact .inl ⟨h, if_pos h⟩
 · by_cases h2 : m < n
   · exact .inr (.inl ⟨by omega, h2, by rw [if_neg h, if_pos h2]⟩)
   · exact .inr (.inr ⟨by omega, by omega, by rw [if_neg h, if_neg h2]⟩)
theorem fit0 {n m : Int} (h : fit n m = 0) : 0 ≤ n ∧ n ≤ m := by
 rcases fit_cases n m with ⟨_, e⟩ | ⟨_, _, e⟩ | ⟨a, b, _⟩
 · omega
 · omega
 · exact ⟨a, b⟩
theorem roomOf_ok (n : Int) : 1 ≤ roomOf n ∧ roomOf n ≤ 4096 := by unfold roomOf; omega
theorem newP_ok (n : Int) : (newP n).Ok := ⟨(roomOf_ok n).1, (roomOf_ok n).2, by have := roomOf_ok n; unfold newP; show (0 : Int) ≤ roomOf n; omega, Int.le_refl _⟩
theorem newT_ok (n : Int) : (newT n).Ok := ⟨(roomOf_ok n).1, (roomOf_ok n).2, Int.le_refl _, Int.le_refl _, by have := roomOf_ok n; show (0 : Int) + 0 ≤ roomOf n; omega⟩
theorem Pu.Ok.use {x : Pu} (h : x.Ok) (n : Int) : (x.use n).Ok := by
 unfold Pu.use
 split
 · next e => obtain ⟨a, b⟩ := fit0 e; exact ⟨h.r1, h.r2, by show 0 ≤ x.l - n; omega, by have := h.l1; show x.l - n ≤ x.r; omega⟩
 · exact h
theorem Pu.Ok.grant {x : Pu} (h : x.Ok) (n : Int) : (x.grant n).Ok := by
 unfold Pu.grant
 split
 · next e => obtain ⟨a, b⟩ := fit0 e; exact ⟨h.r1, h.r2, by have := h.l0; show 0 ≤ x.l + n; omega, by show x.l + n ≤ x.r; omega⟩
 · exact h
theorem Ti.Ok.come {x : Ti} (h : x.Ok) (n : Int) : (x.come n).Ok := by
 unfold Ti.come
 split
 · next e => obtain ⟨a, b⟩ := fit0 e; exact ⟨h.r1, h.r2, by have := h.h0; show 0 ≤ x.h + n; omega, h.o0, by show x.h + n + x.o ≤ x.r; omega⟩
 · exact h
theorem Ti.Ok.read {x : Ti} (h : x.Ok) (n : Int) : (x.read n).Ok := by
 unfold Ti.read
 split
 · next e => obtain ⟨a, b⟩ := fit0 e; exact ⟨h.r1, h.r2, by show 0 ≤ x.h - n; omega, by have := h.o0; show 0 ≤ x.o + n; omega, by have := h.s; show x.h - n + (x.o + n) ≤ x.r; omega⟩
 · exact h
theorem Ti.Ok.pay {x : Ti} (h : x.Ok) : x.pay.Ok := ⟨h.r1, h.r2, h.h0, Int.le_refl _, by have := h.s; have := h.o0; show x.h + 0 ≤ x.r; omega⟩
/-- A block holds these cells. -/
def At (w : World) (b : Nat) (cs : Array Value) (t : TypeId) : Prop := w.heap[b]? = some (.cells cs t (0, 0))
/-- What a call leaves: that block so, all else as it was. -/
structure Do (b : Nat) (cs : Array Value) (t : TypeId) (w w' : World) : Prop where
 at_ : At w' b cs t
 chg : Chg (fun k => k = b) w w'
section
variable {w w' w1 : World} {b : Nat} {cs ds : Array Value} {t : TypeId}
theorem At.lt (h : At w b cs t) : b < w.heap.size := lt_heap h
theorem At.free (h : At w b cs t) : ∀ i, w.frozen? ⟨b, i, none⟩ = false := fun _ => free_of h
theorem At.cell (h : At w b cs t) (i : Nat) (u : Value) (hu : cs[i]? = some u) : w.cell? ⟨b, i, none⟩ = some u := cell_of h hu
theorem At.below (h : At w b cs t) (hb : Below w.heap.size w w') : At w' b cs t := stays h hb
theorem At.other {S : Nat → Prop} (h : At w b cs t) (hc : Chg S w w') (hn : ¬ S b) : At w' b cs t := hc.stays h hn
theorem At.set (h : At w b cs t) (i : Nat) (u : Value) : At (w.setCell ⟨b, i, none⟩ u) b (cs.setIfInBounds i u) t := block_set (i := i) h u
theorem Do.refl (h : At w b cs t) : Do b cs t w w := ⟨h, Chg.refl _ _⟩
theorem Do.set (h : Do b cs t w w1) (i : Nat) (u : Value) : Do b (cs.setIfInBounds i u) t w (w1.setCell ⟨b, i, none⟩ u) := ⟨h.at_.set i u, h.chg.setCell b i u fun _ => rfl⟩
theorem Do.cast (h : Do b cs t w w1) (e : cs = ds) : Do b ds t w w1 := e ▸ h
theorem Do.then (h : Do b cs t w w') (h' : Do b ds t w' w1) : Do b ds t w w1 := ⟨h'.at_, h.chg.then h'.chg⟩
end
abbrev im (n : Int) : Value := .int .i64 n
end Go.Proofs.YtakkhdammmcjcaaGreatDoor.Cr
namespace Go.Proofs.YtakkhdammmcjcaaGreatDoor.Ctl
open Go.RowKit Base Mem Msgs Cr
set_option maxRecDepth 20000
abbrev nm (n : Nat) : Value := .int .i64 (n : Int)
def wl (x : Wt) : List Value := ml x.m ++ [nm x.tr, nm x.lf, .bool x.sd]
def fl (f : Fa) : List Value := .int .u8 (f.k : Int) :: ml f.m
theorem wl_len (x : Wt) : (wl x).length = 23 := rfl
theorem fl_len (f : Fa) : (fl f).length = 21 := rfl
theorem wl_one (x : Wt) : ∀ u ∈ wl x, u.oneCell' = true := fun u hu => by
 rcases List.mem_append.1 hu with h | h
 · exact ml_one x.m u h
 · simp only [List.mem_cons, List.not_mem_nil, or_false] at h
   rcases h with rfl | rfl | rfl <;> rfl
theorem fl_one (x : Fa) : ∀ u ∈ fl x, u.oneCell' = true := fun u hu => by
 rcases List.mem_cons.1 hu with rfl | h
 · rfl
 · exact ml_one x.m u h
def wc (x : Wt) : Array Value := (wl x).toArray
def fc (x : Fa) : Array Value := (fl x).toArray
def noW : Wt := ⟨Msgs.zero, 0, 0, false⟩
def noF : Fa := ⟨0, Msgs.zero⟩
/-- A message's block is laid open cell by cell where it is read. -/
theorem lay {w : World} {b : Nat} {m : Ms} {t : TypeId} (h : w.heap[b]? = some (mO m t)) :
 w.cell? ⟨b, 0, none⟩ = some (.int .u8 (m.k : Int)) ∧ w.cell? ⟨b, 1, none⟩ = some (.bool m.c) ∧ w.cell? ⟨b, 2, none⟩ = some (.int .u8 m.p.d) ∧ w.cell? ⟨b, 10, none⟩ = some (.int .u8 (m.s.d : Int)) ∧ w.cell? ⟨b, 18, none⟩ = some (.int .u8 (m.t : Int)) ∧ w.cell? ⟨b, 19, none⟩ = some (.string m.b) :=
 ⟨cell_of h rfl, cell_of h rfl, cell_of h rfl, cell_of h rfl, cell_of h rfl, cell_of h rfl⟩
theorem rchannel (m : Ms) (hi : m.In) (w : World) : Calls Tryz.prog 47 #[mv m] w fun e w' => e = .returned (.int .u8 (ch m : Int)) ∧ Below w.heap.size w w' := by
 by_cases h1 : m.k = 1
 · have hc : (ch m : Int) = m.p.d := by unfold ch; rw [if_pos h1]; have := hi.p.d; omega
   rw [hc]
   have t1 : ((m.k : Int) == 1) = true := by rw [h1]; rfl
   clear hi hc
   go_enter Tryz.func47, Tryz.ntmps47
   go_wp2_with ((with_reducible refine bxm (m := m) ?hx ?_); (case hx => rfl); intro b w1 h1 F1; have HB := Lib.hid F1.below; obtain ⟨c0, c1, c2, c3, c4, c5⟩ := lay h1; clear h1 F1)
   go_ret
   exact ⟨rfl, HB.out⟩
 · have t1 : ((m.k : Int) == 1) = false := beq_false (by omega)
   by_cases h2 : m.k = 2
   · have hc : (ch m : Int) = (m.s.d : Int) := by unfold ch; rw [if_neg h1, if_pos h2]
     rw [hc]
     have t2 : ((m.k : Int) == 2) = true := by rw [h2]; rfl
     clear hi hc
     go_enter Tryz.func47, Tryz.ntmps47
     go_wp2_with ((with_reducible refine bxm (m := m) ?hx ?_); (case hx => rfl); intro b w1 h1 F1; have HB := Lib.hid F1.below; obtain ⟨c0, c1, c2, c3, c4, c5⟩ := lay h1; clear h1 F1)
     go_ret
     exact ⟨rfl, HB.out⟩
   · have hc : ch m = 0 := by unfold ch; rw [if_neg h1, if_neg h2]
     rw [hc]
     have t2 : ((m.k : Int) == 2) = false := beq_false (by omega)
     clear hi hc
     go_enter Tryz.func47, Tryz.ntmps47
     go_wp2_with ((with_reducible refine bxm (m := m) ?hx ?_); (case hx => rfl); intro b w1 h1 F1; have HB := Lib.hid F1.below; obtain ⟨c0, c1, c2, c3, c4, c5⟩ := lay h1; clear h1 F1)
     go_ret
     exact ⟨rfl, HB.out⟩
end Go.Proofs.YtakkhdammmcjcaaGreatDoor.Ctl

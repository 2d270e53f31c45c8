/-
  More operations on blocks that are letters: a struct of any kind made and stored whole, a message's bit, slices of messages. No condition.
-/
import Derived.Test.YtffahjlboakakaaDoorMsgsArm
import Derived.Test.YtffahjlboakakaaDoorOwnS
import Derived.Great.BuildSlice
namespace Go.Proofs.YtffahjlboakakaaDoor.Msgs
open Go.RowKit Go.Proofs.YtffahjlboakakaaDoor.Base Go.Proofs.YtffahjlboakakaaDoor.Mem
set_option maxRecDepth 20000
section
variable {ops : Array Oper} {rest : List Oper} {a : Act} {Q : Exit → Act → World → Prop} {d : Option Tmp} {x y : Operand} {ty : TypeId} {pos : String} {af : Array Edge} {w : World} {m : Ms} {T : Nat}
theorem alr {cs : Array Value} (hz : (Tryd.prog.info? T).map (·.zero) = some (some (.agg cs))) (k : ∀ (b : Nat) (w' : World), w'.heap[b]? = some (.cells cs T (0, 0)) → Fresh b w w' → wpList Tryd.prog ops Q rest (a.put d (ptr b)) w') :
    wpList Tryd.prog ops Q ({ dst := d, op := .alloc T, type := ty, pos := pos, after := af, guard := none } :: rest) a w :=
  wpList_plain rfl fun _ hK => wp_al hz fun b w' h F => hK _ _ (k b w' h F)
theorem str {n b : Nat} {t : TypeId} (cs : Array Value) {cs0 : Array Value} (hT : IsRow T n) (h : w.heap[b]? = some (.cells cs0 t (0, 0))) (h0 : cs0.size = n) (h1 : cs.size = n) (hc : cs.all (·.oneCell') = true) (hx : a.eval x = ptr b) (hy : a.eval y = .agg cs)
    (k : ∀ w', w'.heap[b]? = some (.cells cs t (0, 0)) → Mod b w w' → wpList Tryd.prog ops Q rest (a.put d undef) w') :
    wpList Tryd.prog ops Q ({ dst := d, op := .store T x y, type := ty, pos := pos, after := af, guard := none } :: rest) a w :=
  wpList_plain rfl fun _ hK => wp_row hT h h0 h1 hc hx hy fun w' h M => hK _ _ (k w' h M)
theorem stc {b : Nat} {t : Nat} {z : Bool} (h : w.heap[b]? = some (mO m T)) (hx : a.eval x = .pointer (some ⟨b, 1, none⟩)) (hy : a.eval y = .bool z) (k : ∀ w', w'.heap[b]? = some (mO (m.cmd z) T) → Mod b w w' → wpList Tryd.prog ops Q rest (a.put d undef) w') :
    wpList Tryd.prog ops Q ({ dst := d, op := .store 4 x y, type := t, pos := pos, after := af, guard := none } :: rest) a w :=
  wpList_plain rfl fun _ hK => by
    have u := Tryd.isAgg4
    have z5 := Tryd.sizeOf4
    have c := (flds h).c
    have f := (frees h).2.1
    have k' := hK _ _ (k _ (set_c h z) (mod_setCell b 1 w _))
    clear h hK k
    unfold Oper.wp execOp
    simp only [hx, hy]
    go_simp
    exact k'
/-- A slice literal. -/
theorem bsl {len : Nat} {S e : Nat} {parts : Array (Nat × Operand)} (cells : Array Value) (hu : Tryd.prog.underlying S = some (.slice e)) (he : (Tryd.prog.info? e).map (fun i => (i.zero, i.size)) = some (some (mv zero), 20)) (hl : 0 < len ∧ len ≤ 100)
    (hf : Instr.fill (fun i => some (i * 20, 20)) ((Array.range (len * 20)).map ((mc zero)[· % (mc zero).size]!)) (parts.map fun (i, x) => (i, a.eval x)).toList = some cells)
    (k : ∀ (b : Nat) (w' : World), w'.heap[b]? = some (.cells cells e (0, 0)) → Fresh b w w' → wpList Tryd.prog ops Q rest (a.put d (.slice (some ⟨b, 0, none⟩) len len)) w') :
    wpList Tryd.prog ops Q ({ dst := d, op := .buildSlice S len parts, type := ty, pos := pos, after := af, guard := none } :: rest) a w := by
  cases hq : Tryd.prog.info? e with
  | none => simp [hq] at he
  | some i =>
    simp only [hq, Option.map_some, Option.some.injEq, Prod.mk.injEq] at he
    refine wpList_buildSlice rfl S e len parts rfl cells i (mv zero) hu hq he.1 (by rw [he.2]; omega) (by rw [he.2]; omega) (by rw [he.2]; exact hf) ?_
    exact k w.heap.size (w.alloc (.cells cells e (0, 0))) (nest w [_] 0 _ rfl) (fresh_alloc w _)
end
theorem infoM : (Tryd.prog.info? 27).map (fun i => (i.zero, i.size)) = some (some (mv zero), 20) := by kernel_rfl
theorem infoR : (Tryd.prog.info? 36).map (fun i => (i.zero, i.size)) = some (some (mv zero), 20) := by kernel_rfl
theorem fill1 (m : Ms) : Instr.fill (fun i => some (i * 20, 20)) ((Array.range (1 * 20)).map ((mc zero)[· % (mc zero).size]!)) [(0, mv m)] = some (mc m) := by kernel_rfl
/-- A message's cells, as a list. -/
def ml (m : Ms) : List Value := (mc m).toList
theorem ml_len (m : Ms) : (ml m).length = 20 := rfl
theorem ml_one (m : Ms) : ∀ u ∈ ml m, u.oneCell' = true := fun u hu => (Array.all_eq_true_iff_forall_mem.1 (one_all m)) u (by unfold ml at hu; simpa using hu)
theorem eltM : Elt 27 49 20 ml where
  under := Tryd.underlying49
  info := ⟨mv zero, 80, by kernel_rfl, rfl, by decide⟩
  len := ml_len
  one := ml_one
  pos := by decide
theorem eltR : Elt 36 46 20 ml where
  under := Tryd.underlying46
  info := ⟨mv zero, 80, by kernel_rfl, rfl, by decide⟩
  len := ml_len
  one := ml_one
  pos := by decide
theorem row_of {w : World} {b : Nat} {m : Ms} {t : TypeId} (h : w.heap[b]? = some (mO m t)) : ∀ j, j < 20 → w.cell? ⟨b, j, none⟩ = (ml m)[j]? := fun j hj => by
  have hj' : j < (mc m).size := hj
  rw [cell_of h (Array.getElem?_eq_getElem hj')]
  unfold ml
  rw [Array.getElem?_toList, Array.getElem?_eq_getElem hj']
end Go.Proofs.YtffahjlboakakaaDoor.Msgs

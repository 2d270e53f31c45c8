/-
  A slice of bytes that the call made itself: what it holds, that bytes are appended to it (it may grow), that it becomes a string. Condition: at most a million bytes.
-/
import Derived.Test.YthlciaomfpephaaDoorChecked
import Derived.Test.YthlciaomfpephaaDoorBase
import Derived.Test.YthlciaomfpephaaDoorBytes
import Derived.Test.YthlciaomfpephaaDoorConv
import Derived.Laws.OwnMore
import Derived.Laws.BytesArg
import Derived.WalkKit
import Derived.Lib.Hide
namespace Go.Proofs.YthlciaomfpephaaDoor.Base
open Go.RowKit
def val8 (c : UInt8) : Value := .int .u8 (c.toNat : Int)
/-- The slice v, in memory from block 'base' on, holds these bytes. -/
def Own (w : World) (base : Nat) (v : Value) (l : List UInt8) : Prop := w.ownsRow base 5 1 v l.length (l.map val8)
/-- A block's first cells are these bytes. -/
def Cells (w : World) (b : Nat) (l : List UInt8) : Prop := ∀ i, i < l.length → w.cell? ⟨b, i, none⟩ = some (val8 (l.getD i 0))
theorem infoU : (Tryd.prog.info? 5).map (fun i => (i.zero, i.size, i.bytes)) = some (some (.int .u8 0), 1, 1) := by kernel_rfl
/-- What has grown twice has grown. -/
theorem grown_on {w a b : World} {r r' : Option Nat} (h : w.grownBy a r) (h' : a.grownBy b r') (hr : r' = r ∨ ∀ k, r' = some k → w.heap.size ≤ k) : w.grownBy b r :=
  ⟨h'.os.trans h.os, h'.tape.trans h.tape, h'.output.trans h.output, Nat.le_trans h.size h'.size, fun k hk hne => by
    have hne' : some k ≠ r' := by
      rcases hr with rfl | hr
      · exact hne
      · intro e; have := hr k e.symm; omega
    exact (h'.block k (Nat.lt_of_lt_of_le hk h.size) hne').trans (h.block k hk hne)⟩
theorem grown_refl (w : World) (r : Option Nat) : w.grownBy w r := ⟨rfl, rfl, rfl, Nat.le_refl _, fun _ _ _ => rfl⟩
theorem grown_below {w w' : World} {r : Option Nat} (h : Below w.heap.size w w') : w.grownBy w' r := ⟨h.os, h.tape, h.output, h.size, fun k hk _ => h.block k hk⟩
theorem Cells.grown {w w' : World} {b : Nat} {l : List UInt8} {r : Option Nat} (h : Cells w b l) (hg : w.grownBy w' r) (hne : some b ≠ r) : Cells w' b l :=
  fun i hi => hg.cell (a := ⟨b, i, none⟩) (h i hi) hne
theorem Cells.alloc {w : World} {b : Nat} {l : List UInt8} (h : Cells w b l) (o : Obj) : Cells (w.alloc o) b l := h.grown (World.grownBy_alloc w o none) (by simp)
theorem Cells.below {w w' : World} {b : Nat} {l : List UInt8} (h : Cells w b l) (hb : Below w.heap.size w w') : Cells w' b l := h.grown (grown_below (r := none) hb) (by simp)
theorem Own.grown {w w' : World} {base : Nat} {v : Value} {l : List UInt8} {r : Option Nat} (h : Own w base v l) (hg : w.grownBy w' r) (hne : v.ownBlock = none ∨ v.ownBlock ≠ r) : Own w' base v l := World.ownsRow.kept h hg hne
theorem Own.below {w w' : World} {base : Nat} {v : Value} {l : List UInt8} (h : Own w base v l) (hb : Below w.heap.size w w') : Own w' base v l :=
  h.grown (grown_below (r := none) hb) (by cases hv : v.ownBlock <;> simp)
theorem Own.alloc {w : World} {base : Nat} {v : Value} {l : List UInt8} (h : Own w base v l) (o : Obj) : Own (w.alloc o) base v l := World.ownsRow.alloc h o
theorem Own.lt {w : World} {base : Nat} {v : Value} {l : List UInt8} (h : Own w base v l) : ∀ k, v.ownBlock = some k → base ≤ k ∧ k < w.heap.size := World.ownsRow.lt h
theorem own_nil (w : World) (base : Nat) : Own w base (.slice none 0 0) [] := World.ownsRow_nil w base _ _
theorem own_lit1 (w : World) (base : Nat) (hb : base ≤ w.heap.size) (c : UInt8) : Own (w.alloc (.cells #[val8 c] 5)) base (.slice (some ⟨w.heap.size, 0, none⟩) 1 1) [c] :=
  World.ownsRow_lit w #[val8 c] 1 hb (by decide) rfl
theorem own_made {w : World} {base : Nat} {v : Value} (h : w.ownsRow base 5 1 v 0 []) : Own w base v [] := h
theorem Own.cells {w : World} {base g n cap : Nat} {l : List UInt8} (h : Own w base (.slice (some ⟨g, 0, none⟩) n cap) l) : Cells w g l := by
  intro i hi
  have := World.ownsRow.cells h (g := g) rfl i (val8 (l.getD i 0)) (by simp [List.getD, hi])
  have hadd : (⟨g, 0, none⟩ : Addr).add i = ⟨g, i, none⟩ := by unfold Addr.add; split <;> simp_all
  rw [hadd] at this
  exact this
theorem Own.shape {w : World} {base : Nat} {v : Value} {l : List UInt8} (h : Own w base v l) : (v = .slice none 0 0 ∧ l = []) ∨ ∃ g cap, v = .slice (some ⟨g, 0, none⟩) l.length cap ∧ base ≤ g := by
  rcases h.2 with ⟨h1, h2⟩ | ⟨g, cap, cur, h1, h2, _⟩
  · exact Or.inl ⟨h1, List.eq_nil_of_length_eq_zero h2⟩
  · exact Or.inr ⟨g, cap, h1, h2⟩
/-- Bytes are appended: the slice stays where it is, or lies in a new block. -/
theorem run_append_bytes (w : World) (ty : TypeId) (base : Nat) (v : Value) (l : List UInt8) (h : Own w base v l) (b m c : Nat) (l2 : List UInt8) (hm : l2.length = m) (hrow : Cells w b l2) (hz : l.length + m ≤ 1000000) (hb : base ≤ w.heap.size) :
    ∃ v' w', (Builtin.append_ #[42, 42] ty #[v, .slice (some ⟨b, 0, none⟩) m c]).run Tryd.prog w = .ok v' w' ∧ Own w' base v' (l ++ l2) ∧ w.grownBy w' v.ownBlock ∧ (v'.ownBlock = v.ownBlock ∨ v'.ownBlock = some w.heap.size) := by
  obtain ⟨i, hi, hz0, hz1, hz2⟩ := info_parts infoU
  have hadd : ∀ g j : Nat, (⟨g, 0, none⟩ : Addr).add j = ⟨g, j, none⟩ := fun g j => by unfold Addr.add; split <;> simp_all
  have hnews : ∀ j u, (l2.map val8)[j]? = some u → w.cell? ((⟨b, 0, none⟩ : Addr).add j) = some u := by
    intro j u hu
    rw [hadd]
    rw [List.getElem?_map] at hu
    obtain ⟨x, hx, rfl⟩ := Option.map_eq_some_iff.1 hu
    have hj : j < l2.length := (List.getElem?_eq_some_iff.1 hx).1
    rw [hrow j hj]
    simp [List.getD, hx]
  have hl : (l2.map val8).length = m * 1 := by simp [hm]
  have h1 : ∀ u ∈ l2.map val8, u.oneCell' = true := by
    intro u hu
    obtain ⟨x, _, rfl⟩ := List.mem_map.1 hu
    rfl
  obtain ⟨v', w', hr, ho, hg, _⟩ := run_append_own (P := Tryd.prog) w base 42 ty 5 i (.int .u8 0) 1 1 Tryd.underlying42 hi hz0 hz1 hz2 rfl (by decide) v l.length (l.map val8) h ⟨b, 0, none⟩ m c (l2.map val8) hl hnews h1 (by unfold maxLen; omega) (by omega) hb
  refine ⟨v', w', hr, ?_, hg, ?_⟩
  · unfold Own
    rw [List.length_append, List.map_append, hm]; exact ho
  · rcases h.2 with ⟨rfl, hl0⟩ | ⟨g, cap, cur, rfl, hbg, hgg, hnc, hcm, hcs, htake⟩
    · have e0 : l = [] := List.eq_nil_of_length_eq_zero (by simpa using hl0)
      subst e0
      by_cases hm0 : m = 0
      · have e2 : l2 = [] := List.eq_nil_of_length_eq_zero (by omega)
        subst e2
        subst hm0
        rcases ho.2 with ⟨rfl, _⟩ | ⟨g, cap, cur, rfl, _⟩
        · exact Or.inl rfl
        · exfalso
          simp [Builtin.append_, run_underlying Tryd.underlying42, sizeOf, typeInfo, hi, Builtin.lenOf, Builtin.firstCells, loadCells, loadCellsFrom] at hr
      · have hr2 := run_append_nil (P := Tryd.prog) w 42 ty 5 i (.int .u8 0) Tryd.underlying42 hi hz0 ⟨b, 0, none⟩ m c (l2.map val8) (by rw [hz1]; exact hl) hnews (by omega) (by omega) (by rw [hz2]; omega)
        rw [hr] at hr2
        injection hr2 with hv _
        subst hv
        exact Or.inr rfl
    · by_cases hroom : l.length + m ≤ cap
      · have hr2 := run_append_room (P := Tryd.prog) w 42 ty 5 i Tryd.underlying42 hi g l.length cap cur hgg ⟨b, 0, none⟩ m c (l2.map val8) (by rw [hz1]; exact hl) hnews h1 hroom (by rw [hz1, hl, hcs]; omega)
        rw [hr] at hr2
        injection hr2 with hv _
        subst hv
        exact Or.inl rfl
      · have holds : ∀ j u, (l.map val8)[j]? = some u → w.cell? ((⟨g, 0, none⟩ : Addr).add j) = some u := World.ownsRow.cells h (g := g) rfl
        have hr2 := run_append_grow (P := Tryd.prog) w 42 ty 5 i (.int .u8 0) Tryd.underlying42 hi hz0 ⟨g, 0, none⟩ l.length cap (l.map val8) (by rw [hz1]; simp) holds ⟨b, 0, none⟩ m c (l2.map val8) (by rw [hz1]; exact hl) hnews (by omega) (by omega) (growslice_fits (by omega) (by rw [hz2]; omega))
        rw [hr] at hr2
        injection hr2 with hv _
        subst hv
        exact Or.inr rfl
theorem wpList_append_bytes {ops : Array Oper} {rest : List Oper} {o : Oper} {a : Act} {Q : Exit → Act → World → Prop} (w : World) (hgd : o.guard = none) (s x : Operand)
    (hop : o.op = .call { callee := .builtin .append, args := #[s, x], argTypes := #[42, 42] })
    (base : Nat) (v : Value) (hs : a.eval s = v) (l : List UInt8) (hown : Own w base v l) (b m c : Nat) (hx : a.eval x = .slice (some ⟨b, 0, none⟩) m c) (l2 : List UInt8) (hm : l2.length = m) (hrow : Cells w b l2) (hz : l.length + m ≤ 1000000) (hb : base ≤ w.heap.size)
    (h : ∀ v' w', Own w' base v' (l ++ l2) → w.grownBy w' v.ownBlock → (v'.ownBlock = v.ownBlock ∨ v'.ownBlock = some w.heap.size) → wpList Tryd.prog ops Q rest (a.put o.dst v') w') : wpList Tryd.prog ops Q (o :: rest) a w :=
  wpList_plain hgd fun _ hK => by
    obtain ⟨v', w', hr, h2, h3, h4⟩ := run_append_bytes w o.type base v l hown b m c l2 hm hrow hz hb
    unfold Oper.wp execOp
    simp only [hop, resolve, invoke, builtin, Sem.run_bind, Sem.run_pure, Result.andThen_ok, List.map_toArray, List.map_cons, List.map_nil, hs, hx, hr]
    exact hK _ _ (h v' w' h2 h3 h4)
/-- The slice becomes a string. -/
theorem Own.conv {w : World} {base : Nat} {v : Value} {l : List UInt8} (h : Own w base v l) :
    (convert 42 9 v).run Tryd.prog w = .ok (.string ⟨l.toArray⟩) w := by
  rcases h.shape with ⟨rfl, rfl⟩ | ⟨g, cap, rfl, _⟩
  · kernel_rfl
  · have hc := run_convert_bytes_arg (P := Tryd.prog) w 42 5 Tryd.underlying42 Tryd.underlying5 g 0 l.length cap
      (l.map fun c => (c.toNat : Int)) (by simp) (fun i hi => by
        have hi' : i < l.length := by simpa using hi
        rw [Nat.zero_add, h.cells i hi', map_getD (fun c : UInt8 => (c.toNat : Int)) _ i 0 0 hi']; rfl) 9 Tryd.underlying9
    rw [hc]
    have e : strOfNums (l.map fun c => (c.toNat : Int)) = ⟨l.toArray⟩ := by
      unfold strOfNums
      rw [List.map_map]
      have hid : ((fun n : Int => UInt8.ofNat n.toNat) ∘ fun c : UInt8 => (c.toNat : Int)) = id := by
        funext c; simp
      rw [hid, List.map_id]
    rw [e]
end Go.Proofs.YthlciaomfpephaaDoor.Base

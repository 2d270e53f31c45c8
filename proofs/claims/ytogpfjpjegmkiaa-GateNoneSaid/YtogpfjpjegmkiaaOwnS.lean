/-
  A slice of values of one type (structs, too) that the call made itself, whatever the type: what it holds, that one is appended to it, how it is read and written. And a slice that came in, opened at every index. Condition: at most a million elements.
-/
import Derived.Test.YtogpfjpjegmkiaaMem
import Derived.Laws.OwnMore
import Derived.Deep.Grids
import Derived.Carry
namespace Go.Proofs.Ytogpfjpjegmkiaa.Mem
open Go.RowKit
theorem add_at (g j : Nat) : (⟨g, 0, none⟩ : Addr).add j = ⟨g, j, none⟩ := by unfold Addr.add; split <;> simp_all
/-- What one must know of the elements' type E, the slice's type S, an element's z cells. -/
structure Elt {α : Type} (E S z : Nat) (fc : α → List Value) : Prop where
  under : Try.prog.underlying S = some (.slice E)
  info : ∃ (zero : Value) (bytes : Nat), (Try.prog.info? E).map (fun i => (i.zero, i.size, i.bytes)) = some (some zero, z, bytes) ∧ zero.cells.size = z ∧ bytes ≤ 1000
  len : ∀ x, (fc x).length = z
  one : ∀ x, ∀ u ∈ fc x, u.oneCell' = true
  pos : 0 < z
/-- The slice v, in memory from block 'base' on, holds these elements. -/
def OwnS {α : Type} (E z : Nat) (fc : α → List Value) (w : World) (base : Nat) (v : Value) (l : List α) : Prop := w.ownsRow base E z v l.length (l.flatMap fc)
section
variable {α : Type} {E S z : Nat} {fc : α → List Value}
theorem grown_of {w w' : World} {r : Option Nat} (h : Below w.heap.size w w') : w.grownBy w' r := ⟨h.os, h.tape, h.output, h.size, fun k hk _ => h.block k hk⟩
theorem OwnS.grown {w w' : World} {base : Nat} {v : Value} {l : List α} {r : Option Nat} (h : OwnS E z fc w base v l) (hg : w.grownBy w' r) (hne : v.ownBlock = none ∨ v.ownBlock ≠ r) : OwnS E z fc w' base v l := World.ownsRow.kept h hg hne
theorem OwnS.below {w w' : World} {base : Nat} {v : Value} {l : List α} (h : OwnS E z fc w base v l) (hb : Below w.heap.size w w') : OwnS E z fc w' base v l :=
  h.grown (grown_of (r := none) hb) (by cases hv : v.ownBlock <;> simp)
theorem OwnS.alloc {w : World} {base : Nat} {v : Value} {l : List α} (h : OwnS E z fc w base v l) (o : Obj) : OwnS E z fc (w.alloc o) base v l := World.ownsRow.alloc h o
theorem OwnS.lt {w : World} {base : Nat} {v : Value} {l : List α} (h : OwnS E z fc w base v l) : ∀ k, v.ownBlock = some k → base ≤ k ∧ k < w.heap.size := World.ownsRow.lt h
theorem ownS_nil (w : World) (base : Nat) : OwnS E z fc w base (.slice none 0 0) [] := World.ownsRow_nil w base _ _
theorem OwnS.shape {w : World} {base : Nat} {v : Value} {l : List α} (h : OwnS E z fc w base v l) : (v = .slice none 0 0 ∧ l = []) ∨ ∃ g cap, v = .slice (some ⟨g, 0, none⟩) l.length cap ∧ base ≤ g := by
  rcases h.2 with ⟨h1, h2⟩ | ⟨g, cap, cur, h1, h2, _⟩
  · exact Or.inl ⟨h1, List.eq_nil_of_length_eq_zero h2⟩
  · exact Or.inr ⟨g, cap, h1, h2⟩
theorem flat_len (hl : ∀ x, (fc x).length = z) (l : List α) : (l.flatMap fc).length = z * l.length := by
  induction l with
  | nil => simp
  | cons a r ih => rw [List.flatMap_cons, List.length_append, hl, ih, List.length_cons, Nat.mul_succ]; omega
theorem flat_get (hl : ∀ x, (fc x).length = z) (l : List α) (x : α) (k j : Nat) (hk : l[k]? = some x) (hj : j < z) : (l.flatMap fc)[z * k + j]? = (fc x)[j]? := by
  induction l generalizing k with
  | nil => simp at hk
  | cons a r ih =>
    rw [List.flatMap_cons]
    match k, hk with
    | 0, hk =>
      rw [List.getElem?_cons_zero, Option.some.injEq] at hk
      subst hk
      rw [Nat.mul_zero, Nat.zero_add, List.getElem?_append_left (by rw [hl]; exact hj)]
    | k + 1, hk =>
      rw [List.getElem?_cons_succ] at hk
      rw [List.getElem?_append_right (by rw [hl, Nat.mul_succ]; omega), hl, ← ih k hk]
      congr 1; rw [Nat.mul_succ]; omega
/-- One element is appended: the slice stays where it is, or lies in a new block. -/
theorem run_append_elt (he : Elt E S z fc) (w : World) (ty base : Nat) (v : Value) (l : List α) (h : OwnS E z fc w base v l) (b c : Nat) (x : α) (hrow : ∀ j, j < z → w.cell? ⟨b, j, none⟩ = (fc x)[j]?) (hz : l.length + 1 ≤ 1000000) (hb : base ≤ w.heap.size) :
    ∃ v' w', (Builtin.append_ #[S, S] ty #[v, .slice (some ⟨b, 0, none⟩) 1 c]).run Try.prog w = .ok v' w' ∧ OwnS E z fc w' base v' (l ++ [x]) ∧ w.grownBy w' v.ownBlock ∧ (v'.ownBlock = v.ownBlock ∨ v'.ownBlock = some w.heap.size) := by
  obtain ⟨zero, bytes, hinfo, hzc, hby⟩ := he.info
  obtain ⟨i, hi, hz0, hz1, hz2⟩ := info_parts hinfo
  have hnews : ∀ j u, (fc x)[j]? = some u → w.cell? ((⟨b, 0, none⟩ : Addr).add j) = some u := by
    intro j u hu
    have hj : j < z := by rw [← he.len x]; exact (List.getElem?_eq_some_iff.1 hu).1
    rw [add_at, hrow j hj, hu]
  have hl : (fc x).length = 1 * z := by rw [he.len, Nat.one_mul]
  have h1 := he.one x
  have hb1 : (l.length + 1) * bytes ≤ 140737488355328 := Nat.le_trans (Nat.mul_le_mul hz hby) (by decide)
  have hb2 : 1 * bytes ≤ 281474976710656 := by omega
  obtain ⟨v', w', hr, ho, hg, _⟩ := run_append_own (P := Try.prog) w base S ty E i zero z bytes he.under hi hz0 hz1 hz2 hzc he.pos v l.length (l.flatMap fc) h ⟨b, 0, none⟩ 1 c (fc x) hl hnews h1 (by unfold maxLen; omega) hb1 hb
  refine ⟨v', w', hr, ?_, hg, ?_⟩
  · unfold OwnS
    rw [List.length_append, List.flatMap_append]
    simpa using ho
  · rcases h.2 with ⟨rfl, hl0⟩ | ⟨g, cap, cur, rfl, hbg, hgg, hnc, hcm, hcs, htake⟩
    · have hr2 := run_append_nil (P := Try.prog) w S ty E i zero he.under hi hz0 ⟨b, 0, none⟩ 1 c (fc x) (by rw [hz1]; exact hl) hnews (by omega) (by omega) (by rw [hz2]; exact hb2)
      rw [hr] at hr2
      injection hr2 with hv _
      subst hv
      exact Or.inr rfl
    · by_cases hroom : l.length + 1 ≤ cap
      · have hm : (l.length + 1) * z ≤ cap * z := Nat.mul_le_mul_right _ hroom
        have hr2 := run_append_room (P := Try.prog) w S ty E i he.under hi g l.length cap cur hgg ⟨b, 0, none⟩ 1 c (fc x) (by rw [hz1]; exact hl) hnews h1 hroom (by rw [hz1, hcs, he.len]; rw [Nat.add_mul, Nat.one_mul] at hm; exact hm)
        rw [hr] at hr2
        injection hr2 with hv _
        subst hv
        exact Or.inl rfl
      · have holds : ∀ j u, (l.flatMap fc)[j]? = some u → w.cell? ((⟨g, 0, none⟩ : Addr).add j) = some u := World.ownsRow.cells h (g := g) rfl
        have hr2 := run_append_grow (P := Try.prog) w S ty E i zero he.under hi hz0 ⟨g, 0, none⟩ l.length cap (l.flatMap fc) (by rw [hz1]; exact h.1) holds ⟨b, 0, none⟩ 1 c (fc x) (by rw [hz1]; exact hl) hnews (by omega) (by omega) (growslice_fits (by omega) (by rw [hz2]; exact hb1))
        rw [hr] at hr2
        injection hr2 with hv _
        subst hv
        exact Or.inr rfl
theorem wpList_append_elt (he : Elt E S z fc) {ops : Array Oper} {rest : List Oper} {o : Oper} {a : Act} {Q : Exit → Act → World → Prop} (w : World) (hgd : o.guard = none) (s x : Operand)
    (hop : o.op = .call { callee := .builtin .append, args := #[s, x], argTypes := #[S, S] })
    (base : Nat) (v : Value) (hs : a.eval s = v) (l : List α) (hown : OwnS E z fc w base v l) (b c : Nat) (hx : a.eval x = .slice (some ⟨b, 0, none⟩) 1 c) (y : α) (hrow : ∀ j, j < z → w.cell? ⟨b, j, none⟩ = (fc y)[j]?) (hz : l.length + 1 ≤ 1000000) (hb : base ≤ w.heap.size)
    (h : ∀ v' w', OwnS E z fc w' base v' (l ++ [y]) → w.grownBy w' v.ownBlock → (v'.ownBlock = v.ownBlock ∨ v'.ownBlock = some w.heap.size) → wpList Try.prog ops Q rest (a.put o.dst v') w') : wpList Try.prog ops Q (o :: rest) a w :=
  wpList_plain hgd fun _ hK => by
    obtain ⟨v', w', hr, h2, h3, h4⟩ := run_append_elt he w o.type base v l hown b c y hrow hz hb
    unfold Oper.wp execOp
    simp only [hop, resolve, invoke, builtin, Sem.run_bind, Sem.run_pure, Result.andThen_ok, List.map_toArray, List.map_cons, List.map_nil, hs, hx, hr]
    exact hK _ _ (h v' w' h2 h3 h4)
/-- What lies in such a slice, element by element; none of it is frozen. -/
theorem OwnS.cell (hl : ∀ x, (fc x).length = z) {w : World} {base g n cap : Nat} {l : List α} (h : OwnS E z fc w base (.slice (some ⟨g, 0, none⟩) n cap) l) (k : Nat) (x : α) (hk : l[k]? = some x) (j : Nat) (hj : j < z) : w.cell? ⟨g, z * k + j, none⟩ = (fc x)[j]? := by
  have hf : (fc x)[j]? = some ((fc x)[j]'(by rw [hl]; exact hj)) := List.getElem?_eq_getElem _
  have := World.ownsRow.cells h (g := g) rfl (z * k + j) _ ((flat_get hl l x k j hk hj).trans hf)
  rw [add_at] at this
  rw [this, hf]
theorem OwnS.free {w : World} {base g n cap : Nat} {l : List α} (h : OwnS E z fc w base (.slice (some ⟨g, 0, none⟩) n cap) l) (j : Nat) : w.frozen? ⟨g, j, none⟩ = false := by
  rcases h.2 with ⟨h1, _⟩ | ⟨g', cap', cur, h1, _, h3, _⟩
  · cases h1
  · injection h1 with h1 _ _
    rw [Option.some.injEq, Addr.mk.injEq] at h1
    obtain ⟨rfl, _⟩ := h1
    exact free_of h3
theorem OwnS.num {w : World} {base : Nat} {a : Option Addr} {n cap : Nat} {l : List α} (h : OwnS E z fc w base (.slice a n cap) l) : n = l.length := by
  rcases h.shape with ⟨h1, rfl⟩ | ⟨g, cap', h1, _⟩
  · injection h1
  · injection h1
/-- Elements lie at an address, one behind the other. -/
structure ArgS {α : Type} (z : Nat) (fc : α → List Value) (P : α → Prop) (w : World) (oa : Option Addr) (n : Nat) (F : Nat → α) : Prop where
  has : 0 < n → ∃ a, oa = some a ∧ a.block < w.heap.size
  inb : ∀ k, k < n → P (F k)
  cell : ∀ a, oa = Option.some a → ∀ k, k < n → ∀ j, j < z → w.cell? ((a.add (k * z)).add j) = (fc (F k))[j]?
theorem add_block (a : Addr) (n : Nat) : (a.add n).block = a.block := by unfold Addr.add; split <;> rfl
theorem ArgS.below {P : α → Prop} {w w' : World} {oa : Option Addr} {n : Nat} {F : Nat → α} (h : ArgS z fc P w oa n F) (hb : Below w.heap.size w w') : ArgS z fc P w' oa n F :=
  ⟨fun h0 => let ⟨a, h1, h2⟩ := h.has h0; ⟨a, h1, Nat.lt_of_lt_of_le h2 hb.size⟩, h.inb, fun a ha k hk j hj => by
    obtain ⟨a', h1, h2⟩ := h.has (by omega)
    rw [ha, Option.some.injEq] at h1
    subst h1
    rw [← h.cell a ha k hk j hj]
    exact hb.cell (by rw [add_block, add_block]; exact h2)⟩
theorem spot_none {w : World} {x : Addr} {v : Value} (h : w.cell? x = some v) : x = ⟨x.block, x.off, none⟩ := by
  obtain ⟨b, o, sp⟩ := x
  cases sp with
  | none => rfl
  | some y =>
    exfalso
    unfold World.cell? at h
    split at h <;> simp_all
theorem add_off (b o j : Nat) : (⟨b, o, none⟩ : Addr).add j = ⟨b, o + j, none⟩ := by unfold Addr.add; split <;> simp_all
/-- Where an argument's element lies. -/
theorem ArgS.at' {P : α → Prop} (hz : 0 < z) (hl : ∀ x, (fc x).length = z) {w : World} {oa : Option Addr} {n : Nat} {F : Nat → α} (h : ArgS z fc P w oa n F) {k : Nat} (hk : k < n) :
    ∃ a, oa = some a ∧ ∃ gb go, a.add (k * z) = ⟨gb, go, none⟩ ∧ gb < w.heap.size ∧ ∀ j, j < z → w.cell? ⟨gb, go + j, none⟩ = (fc (F k))[j]? := by
  obtain ⟨a, rfl, ha⟩ := h.has (by omega)
  have p0 := h.cell a rfl k hk 0 hz
  rw [show ∀ x : Addr, x.add 0 = x from fun x => if_pos rfl, List.getElem?_eq_getElem (by rw [hl]; exact hz)] at p0
  have e := spot_none p0
  refine ⟨a, rfl, (a.add (k * z)).block, (a.add (k * z)).off, e, by rw [add_block]; exact ha, fun j hj => ?_⟩
  have p := h.cell a rfl k hk j hj
  rw [e, add_off] at p
  exact p
end
end Go.Proofs.Ytogpfjpjegmkiaa.Mem

/-
  Layer 22, put together: OwnS, MsgsSmall, MsgsArm, MsgsArm2 (what each says stands ahead of it). Conditions: as each names them.
-/
import Derived.Test.YtakkhdammmcjcaaDoorB01
import Derived.Test.YtakkhdammmcjcaaDoorB05
import Derived.Laws.OwnMore
import Derived.Deep.Grids
import Derived.Carry
import Derived.Great.BuildSlice
/-
  A slice of values of one type (structs, too) that the call made itself, whatever the type: what it holds, that one is appended to it, how it is read and written. And a slice that came in, opened at every index. Condition: at most a million elements.
-/
namespace Go.Proofs.YtakkhdammmcjcaaDoor.Mem
open Go.RowKit
theorem add_at (g j : Nat) : (⟨g, 0, none⟩ : Addr).add j = ⟨g, j, none⟩ := by unfold Addr.add; split <;> simp_all
/-- What one must know of the elements' type E, the slice's type S, an element's z cells. -/
structure Elt {α : Type} (E S z : Nat) (fc : α → List Value) : Prop where
  under : Tryd.prog.underlying S = some (.slice E)
  info : ∃ (zero : Value) (bytes : Nat), (Tryd.prog.info? E).map (fun i => (i.zero, i.size, i.bytes)) = some (some zero, z, bytes) ∧ zero.cells.size = z ∧ bytes ≤ 1000
  len : ∀ x, (fc x).length = z
  one : ∀ x, ∀ u ∈ fc x, u.oneCell' = true
  pos : 0 < z
/-- The slice v, in memory from block 'base' on, holds these elements. -/
def OwnS {α : Type} (E z : Nat) (fc : α → List Value) (w : World) (base : Nat) (v : Value) (l : List α) : Prop := w.ownsRow base E z v l.length (l.flatMap fc)
section
variable {α : Type} {E S z : Nat} {fc : α → List Value}
theorem grown_of {w w' : World} {r : Option Nat} (h : Below w.heap.size w w') : w.grownBy w' r := ⟨h.os, h.tape, h.output, h.size, fun k hk _ => h.block k hk⟩
theorem OwnS.grown {w w' : World} {base : Nat} {v : Value} {l : List α} {r : Option Nat} (h : OwnS E z fc w base v l) (hg : w.grownBy w' r) (hne : v.ownBlock = none ∨ v.ownBlock ≠ r) : OwnS E z fc w' base v l := World.ownsRow.kept h hg hne
theorem OwnS.below {w w' : World} {base : Nat} {v : Value} {l : List α} (h : OwnS E z fc w base v l) (hb : Below w.heap.size w w') : OwnS E z fc w' base v l :=
  h.grown (grown_of (r := none) hb) (by cases hv : v.ownBlock <;> simp)
theorem OwnS.alloc {w : World} {base : Nat} {v : Value} {l : List α} (h : OwnS E z fc w base v l) (o : Obj) : OwnS E z fc (w.alloc o) base v l := World.ownsRow.alloc h o
theorem OwnS.lt {w : World} {base : Nat} {v : Value} {l : List α} (h : OwnS E z fc w base v l) : ∀ k, v.ownBlock = some k → base ≤ k ∧ k < w.heap.size := World.ownsRow.lt h
theorem ownS_nil (w : World) (base : Nat) : OwnS E z fc w base (.slice none 0 0) [] := World.ownsRow_nil w base _ _
theorem OwnS.shape {w : World} {base : Nat} {v : Value} {l : List α} (h : OwnS E z fc w base v l) : (v = .slice none 0 0 ∧ l = []) ∨ ∃ g cap, v = .slice (some ⟨g, 0, none⟩) l.length cap ∧ base ≤ g := by
  rcases h.2 with ⟨h1, h2⟩ | ⟨g, cap, cur, h1, h2, _⟩
  · exact Or.inl ⟨h1, List.eq_nil_of_length_eq_zero h2⟩
  · exact Or.inr ⟨g, cap, h1, h2⟩
theorem flat_len (hl : ∀ x, (fc x).length = z) (l : List α) : (l.flatMap fc).length = z * l.length := by
  induction l with
  | nil => simp
  | cons a r ih => rw [List.flatMap_cons, List.length_append, hl, ih, List.length_cons, Nat.mul_succ]; omega
theorem flat_get (hl : ∀ x, (fc x).length = z) (l : List α) (x : α) (k j : Nat) (hk : l[k]? = some x) (hj : j < z) : (l.flatMap fc)[z * k + j]? = (fc x)[j]? := by
  induction l generalizing k with
  | nil => simp at hk
  | cons a r ih =>
    rw [List.flatMap_cons]
    match k, hk with
    | 0, hk =>
      rw [List.getElem?_cons_zero, Option.some.injEq] at hk
      subst hk
      rw [Nat.mul_zero, Nat.zero_add, List.getElem?_append_left (by rw [hl]; exact hj)]
    | k + 1, hk =>
      rw [List.getElem?_cons_succ] at hk
      rw [List.getElem?_append_right (by rw [hl, Nat.mul_succ]; omega), hl, ← ih k hk]
      congr 1; rw [Nat.mul_succ]; omega
/-- One element is appended: the slice stays where it is, or lies in a new block. -/
theorem run_append_elt (he : Elt E S z fc) (w : World) (ty base : Nat) (v : Value) (l : List α) (h : OwnS E z fc w base v l) (b c : Nat) (x : α) (hrow : ∀ j, j < z → w.cell? ⟨b, j, none⟩ = (fc x)[j]?) (hz : l.length + 1 ≤ 1000000) (hb : base ≤ w.heap.size) :
    ∃ v' w', (Builtin.append_ #[S, S] ty #[v, .slice (some ⟨b, 0, none⟩) 1 c]).run Tryd.prog w = .ok v' w' ∧ OwnS E z fc w' base v' (l ++ [x]) ∧ w.grownBy w' v.ownBlock ∧ (v'.ownBlock = v.ownBlock ∨ v'.ownBlock = some w.heap.size) := by
  obtain ⟨zero, bytes, hinfo, hzc, hby⟩ := he.info
  obtain ⟨i, hi, hz0, hz1, hz2⟩ := info_parts hinfo
  have hnews : ∀ j u, (fc x)[j]? = some u → w.cell? ((⟨b, 0, none⟩ : Addr).add j) = some u := by
    intro j u hu
    have hj : j < z := by rw [← he.len x]; exact (List.getElem?_eq_some_iff.1 hu).1
    rw [add_at, hrow j hj, hu]
  have hl : (fc x).length = 1 * z := by rw [he.len, Nat.one_mul]
  have h1 := he.one x
  have hb1 : (l.length + 1) * bytes ≤ 140737488355328 := Nat.le_trans (Nat.mul_le_mul hz hby) (by decide)
  have hb2 : 1 * bytes ≤ 281474976710656 := by omega
  obtain ⟨v', w', hr, ho, hg, _⟩ := run_append_own (P := Tryd.prog) w base S ty E i zero z bytes he.under hi hz0 hz1 hz2 hzc he.pos v l.length (l.flatMap fc) h ⟨b, 0, none⟩ 1 c (fc x) hl hnews h1 (by unfold maxLen; omega) hb1 hb
  refine ⟨v', w', hr, ?_, hg, ?_⟩
  · unfold OwnS
    rw [List.length_append, List.flatMap_append]
    simpa using ho
  · rcases h.2 with ⟨rfl, hl0⟩ | ⟨g, cap, cur, rfl, hbg, hgg, hnc, hcm, hcs, htake⟩
    · have hr2 := run_append_nil (P := Tryd.prog) w S ty E i zero he.under hi hz0 ⟨b, 0, none⟩ 1 c (fc x) (by rw [hz1]; exact hl) hnews (by omega) (by omega) (by rw [hz2]; exact hb2)
      rw [hr] at hr2
      injection hr2 with hv _
      subst hv
      exact Or.inr rfl
    · by_cases hroom : l.length + 1 ≤ cap
      · have hm : (l.length + 1) * z ≤ cap * z := Nat.mul_le_mul_right _ hroom
        have hr2 := run_append_room (P := Tryd.prog) w S ty E i he.under hi g l.length cap cur hgg ⟨b, 0, none⟩ 1 c (fc x) (by rw [hz1]; exact hl) hnews h1 hroom (by rw [hz1, hcs, he.len]; rw [Nat.add_mul, Nat.one_mul] at hm; exact hm)
        rw [hr] at hr2
        injection hr2 with hv _
        subst hv
        exact Or.inl rfl
      · have holds : ∀ j u, (l.flatMap fc)[j]? = some u → w.cell? ((⟨g, 0, none⟩ : Addr).add j) = some u := World.ownsRow.cells h (g := g) rfl
        have hr2 := run_append_grow (P := Tryd.prog) w S ty E i zero he.under hi hz0 ⟨g, 0, none⟩ l.length cap (l.flatMap fc) (by rw [hz1]; exact h.1) holds ⟨b, 0, none⟩ 1 c (fc x) (by rw [hz1]; exact hl) hnews (by omega) (by omega) (growslice_fits (by omega) (by rw [hz2]; exact hb1))
        rw [hr] at hr2
        injection hr2 with hv _
        subst hv
        exact Or.inr rfl
theorem wpList_append_elt (he : Elt E S z fc) {ops : Array Oper} {rest : List Oper} {o : Oper} {a : Act} {Q : Exit → Act → World → Prop} (w : World) (hgd : o.guard = none) (s x : Operand)
    (hop : o.op = .call { callee := .builtin .append, args := #[s, x], argTypes := #[S, S] })
    (base : Nat) (v : Value) (hs : a.eval s = v) (l : List α) (hown : OwnS E z fc w base v l) (b c : Nat) (hx : a.eval x = .slice (some ⟨b, 0, none⟩) 1 c) (y : α) (hrow : ∀ j, j < z → w.cell? ⟨b, j, none⟩ = (fc y)[j]?) (hz : l.length + 1 ≤ 1000000) (hb : base ≤ w.heap.size)
    (h : ∀ v' w', OwnS E z fc w' base v' (l ++ [y]) → w.grownBy w' v.ownBlock → (v'.ownBlock = v.ownBlock ∨ v'.ownBlock = some w.heap.size) → wpList Tryd.prog ops Q rest (a.put o.dst v') w') : wpList Tryd.prog ops Q (o :: rest) a w :=
  wpList_plain hgd fun _ hK => by
    obtain ⟨v', w', hr, h2, h3, h4⟩ := run_append_elt he w o.type base v l hown b c y hrow hz hb
    unfold Oper.wp execOp
    simp only [hop, resolve, invoke, builtin, Sem.run_bind, Sem.run_pure, Result.andThen_ok, List.map_toArray, List.map_cons, List.map_nil, hs, hx, hr]
    exact hK _ _ (h v' w' h2 h3 h4)
/-- What lies in such a slice, element by element; none of it is frozen. -/
theorem OwnS.cell (hl : ∀ x, (fc x).length = z) {w : World} {base g n cap : Nat} {l : List α} (h : OwnS E z fc w base (.slice (some ⟨g, 0, none⟩) n cap) l) (k : Nat) (x : α) (hk : l[k]? = some x) (j : Nat) (hj : j < z) : w.cell? ⟨g, z * k + j, none⟩ = (fc x)[j]? := by
  have hf : (fc x)[j]? = some ((fc x)[j]'(by rw [hl]; exact hj)) := List.getElem?_eq_getElem _
  have := World.ownsRow.cells h (g := g) rfl (z * k + j) _ ((flat_get hl l x k j hk hj).trans hf)
  rw [add_at] at this
  rw [this, hf]
theorem OwnS.free {w : World} {base g n cap : Nat} {l : List α} (h : OwnS E z fc w base (.slice (some ⟨g, 0, none⟩) n cap) l) (j : Nat) : w.frozen? ⟨g, j, none⟩ = false := by
  rcases h.2 with ⟨h1, _⟩ | ⟨g', cap', cur, h1, _, h3, _⟩
  · cases h1
  · injection h1 with h1 _ _
    rw [Option.some.injEq, Addr.mk.injEq] at h1
    obtain ⟨rfl, _⟩ := h1
    exact free_of h3
theorem OwnS.num {w : World} {base : Nat} {a : Option Addr} {n cap : Nat} {l : List α} (h : OwnS E z fc w base (.slice a n cap) l) : n = l.length := by
  rcases h.shape with ⟨h1, rfl⟩ | ⟨g, cap', h1, _⟩
  · injection h1
  · injection h1
/-- Elements lie at an address, one behind the other. -/
structure ArgS {α : Type} (z : Nat) (fc : α → List Value) (P : α → Prop) (w : World) (oa : Option Addr) (n : Nat) (F : Nat → α) : Prop where
  has : 0 < n → ∃ a, oa = some a ∧ a.block < w.heap.size
  inb : ∀ k, k < n → P (F k)
  cell : ∀ a, oa = Option.some a → ∀ k, k < n → ∀ j, j < z → w.cell? ((a.add (k * z)).add j) = (fc (F k))[j]?
theorem add_block (a : Addr) (n : Nat) : (a.add n).block = a.block := by unfold Addr.add; split <;> rfl
theorem ArgS.below {P : α → Prop} {w w' : World} {oa : Option Addr} {n : Nat} {F : Nat → α} (h : ArgS z fc P w oa n F) (hb : Below w.heap.size w w') : ArgS z fc P w' oa n F :=
  ⟨fun h0 => let ⟨a, h1, h2⟩ := h.has h0; ⟨a, h1, Nat.lt_of_lt_of_le h2 hb.size⟩, h.inb, fun a ha k hk j hj => by
    obtain ⟨a', h1, h2⟩ := h.has (by omega)
    rw [ha, Option.some.injEq] at h1
    subst h1
    rw [← h.cell a ha k hk j hj]
    exact hb.cell (by rw [add_block, add_block]; exact h2)⟩
theorem spot_none {w : World} {x : Addr} {v : Value} (h : w.cell? x = some v) : x = ⟨x.block, x.off, none⟩ := by
  obtain ⟨b, o, sp⟩ := x
  cases sp with
  | none => rfl
  | some y =>
    exfalso
    unfold World.cell? at h
    split at h <;> simp_all
theorem add_off (b o j : Nat) : (⟨b, o, none⟩ : Addr).add j = ⟨b, o + j, none⟩ := by unfold Addr.add; split <;> simp_all
/-- Where an argument's element lies. -/
theorem ArgS.at' {P : α → Prop} (hz : 0 < z) (hl : ∀ x, (fc x).length = z) {w : World} {oa : Option Addr} {n : Nat} {F : Nat → α} (h : ArgS z fc P w oa n F) {k : Nat} (hk : k < n) :
    ∃ a, oa = some a ∧ ∃ gb go, a.add (k * z) = ⟨gb, go, none⟩ ∧ gb < w.heap.size ∧ ∀ j, j < z → w.cell? ⟨gb, go + j, none⟩ = (fc (F k))[j]? := by
  obtain ⟨a, rfl, ha⟩ := h.has (by omega)
  have p0 := h.cell a rfl k hk 0 hz
  rw [show ∀ x : Addr, x.add 0 = x from fun x => if_pos rfl, List.getElem?_eq_getElem (by rw [hl]; exact hz)] at p0
  have e := spot_none p0
  refine ⟨a, rfl, (a.add (k * z)).block, (a.add (k * z)).off, e, by rw [add_block]; exact ha, fun j hj => ?_⟩
  have p := h.cell a rfl k hk j hj
  rw [e, add_off] at p
  exact p
end
end Go.Proofs.YtakkhdammmcjcaaDoor.Mem
/-
  What the small functions of layer 10, and of the document's own, answer: a type's Kind, a message's type, is a type unknown; none turns memory that was there. Condition: the table of the types lies where the program lays it.
-/
namespace Go.Proofs.YtakkhdammmcjcaaDoor.Msgs
open Go.RowKit Go.Proofs.YtakkhdammmcjcaaDoor.Base Go.Proofs.YtakkhdammmcjcaaDoor.Mem
/-- The table of the types lies where the program has it. -/
def Tab (w : World) : Prop := ∀ i : Nat, i < 8 → w.cell? ⟨0, i, none⟩ = some (.int .u8 (tyN i : Int))
theorem tab_pos {w : World} (h : Tab w) : 0 < w.heap.size := World.block_lt_of_cell? w ⟨0, 0, none⟩ (h 0 (by decide))
theorem tab_below {w w' : World} (h : Tab w) (hb : Below w.heap.size w w') : Tab w' := fun i hi => (hb.cell (p := ⟨0, i, none⟩) (tab_pos h)).trans (h i hi)
def tabL : List Int := [0, 32, 56, 40, 24, 8, 48, 4]
theorem tab_getD : ∀ i, i < 8 → tabL.getD i 0 = (tyN i : Int) := by decide
theorem fkindOf (t : Nat) (w : World) (ht : Tab w) :
    Calls Tryd.prog 64 #[.int .u8 (t : Int)] w fun e w' => e = .returned (.int .u8 (kOf t : Int)) ∧ w = w' := by
  have HT := Lib.hid ht
  clear ht
  go_enter Tryd.func64, Tryd.ntmps64
  go_wp2
  go_loopw [3] (fun v wr => ∃ k : Nat, 1 ≤ k ∧ k ≤ 8 ∧ v = .int .u8 (k : Int) ∧ Hid (kOf t = kFrom t (8 - k) k) ∧ w = wr) (fun v _ => 8 - (intOf v).toNat)
  case atStart => exact ⟨1, by omega, by omega, rfl, Lib.hid rfl, rfl⟩
  case round =>
    obtain ⟨k, h1, h2, rfl, HG, rfl⟩ := hrel
    by_cases hlt : k < 8
    · have hcell := HT.out k hlt
      have hb := tyN_lt k hlt
      by_cases hf : tyN k = t
      · have HS : Hid (kOf t = k) := Lib.hid (by rw [HG.out, show 8 - k = (7 - k) + 1 by omega]; exact kFrom_hit hf)
        have hq : ((tyN k : Int) == (t : Int)) = true := by rw [hf]; simp
        clear hf
        go_wp2
        go_ret
        exact ⟨ret_int (by rw [HS.out]), rfl⟩
      · have HS : Hid (kOf t = kFrom t (7 - k) (k + 1)) := Lib.hid (by rw [HG.out, show 8 - k = (7 - k) + 1 by omega]; exact kFrom_miss hf)
        have hq : ((tyN k : Int) == (t : Int)) = false := by rw [beq_eq_false_iff_ne]; omega
        clear hf
        go_wp2
        go_roundw
        case rel => exact ⟨k + 1, by omega, by omega, by go_num, Lib.hid (by rw [HS.out, show 8 - (k + 1) = 7 - k by omega]), trivial⟩
        case measure => simp [intOf]; omega
    · have HS : Hid (kOf t = 8) := Lib.hid (by rw [HG.out, show 8 - k = 0 by omega]; rfl)
      go_wp2
      go_ret
      exact ⟨ret_int (by rw [HS.out]; rfl), rfl⟩
theorem isUnknown (t : Nat) (w : World) (ht : Tab w) :
    Calls Tryd.prog 49 #[.int .u8 (t : Int)] w fun e w' => e = .returned (.bool (decide (t ≤ 63) && (kOf t == 8))) ∧ w = w' := by
  have CK := Lib.hid (fkindOf t w ht)
  clear ht
  by_cases h : t ≤ 63
  · have h' : decide (t ≤ 63) = true := by simpa using h
    rw [h']
    generalize kOf t = k at *
    go_enter Tryd.func49, Tryd.ntmps49
    go_wp2_with (go_at_call 64; ((with_reducible refine CK.out.mono ?_); rintro e w1 ⟨rfl, rfl⟩))
    go_ret
    exact ⟨ret_bool (by rw [Bool.eq_iff_iff]; simp <;> omega), rfl⟩
  · have h' : decide (t ≤ 63) = false := by simpa using h
    rw [h', Bool.false_and]
    go_enter Tryd.func49, Tryd.ntmps49
    go_wp2
    go_ret
    exact ⟨rfl, rfl⟩
theorem ftypeOf (m : Ms) (hk : m.k ≤ 8) (w : World) (ht : Tab w) :
    Calls Tryd.prog 35 #[mv m] w fun e w' => e = .returned (.int .u8 (ty m : Int)) ∧ Below w.heap.size w w' := by
  have HF : (w.alloc (mO m 35)).heap[w.heap.size]? = some (mO m 35) := nest w [_] 0 _ rfl
  obtain ⟨c0, c1, c18, c19⟩ := flds HF
  have HB : Hid (Below w.heap.size w (w.alloc (mO m 35))) := Lib.hid (nest_below w [_])
  by_cases h8 : m.k = 8
  · have HY : Hid (ty m = m.t) := Lib.hid (if_pos h8)
    have hq : ((m.k : Int) == 8) = true := by rw [h8]; rfl
    clear HF h8 ht hk
    go_enter Tryd.func35, Tryd.ntmps35
    go_wp2
    go_ret
    exact ⟨ret_int (by rw [HY.out]), HB.out⟩
  · have HY : Hid (ty m = tyN m.k) := Lib.hid (if_neg h8)
    have hq : ((m.k : Int) == 8) = false := by rw [beq_eq_false_iff_ne]; omega
    have hcell := tab_below ht HB.out m.k (by omega)
    have hlt : m.k < 8 := by omega
    clear HF h8 ht hk
    go_enter Tryd.func35, Tryd.ntmps35
    go_wp2
    go_ret
    exact ⟨ret_int (by rw [HY.out]), HB.out⟩
end Go.Proofs.YtakkhdammmcjcaaDoor.Msgs
/-
  A message that is boxed, or made, in a block of its own: the block and the world behind it are letters. And what functions that answer a message out of a block answer. No condition.
-/
namespace Go.Proofs.YtakkhdammmcjcaaDoor.Msgs
open Go.RowKit Go.Proofs.YtakkhdammmcjcaaDoor.Base Go.Proofs.YtakkhdammmcjcaaDoor.Mem
set_option maxRecDepth 20000
/-- A block was made, all else is as it was. -/
structure Fresh (b : Nat) (w w' : World) : Prop where
  eq : b = w.heap.size
  size : w'.heap.size = b + 1
  below : Below w.heap.size w w'
theorem Fresh.lt {b : Nat} {w w' : World} (h : Fresh b w w') : b < w'.heap.size := by rw [h.size]; omega
theorem fresh_alloc (w : World) (o : Obj) : Fresh w.heap.size w (w.alloc o) := ⟨rfl, by simp, (Below.refl _ _).alloc (Nat.le_refl _) _⟩
/-- What lay in a block that is not the one that was written, or made. -/
theorem Fresh.stays {b k : Nat} {w w' : World} {o : Obj} (h : Fresh b w w') (hk : w.heap[k]? = some o) : w'.heap[k]? = some o := Mem.stays hk h.below
theorem Fresh.ne {b k : Nat} {w w' : World} {o : Obj} (h : Fresh b w w') (hk : w.heap[k]? = some o) : k ≠ b := by have := lt_heap hk; have := h.eq; omega
theorem Fresh.on {b : Nat} {u w w' : World} (h : Fresh b w w') (hb : Below u.heap.size u w) : Below u.heap.size u w' := below_on hb h.below
theorem Fresh.le {b : Nat} {u w w' : World} (h : Fresh b w w') (hb : Below u.heap.size u w) : u.heap.size ≤ b := by rw [h.eq]; exact hb.size
theorem drew_at {w : World} {b : Nat} {o : Obj} (h : w.heap[b]? = some o) : w.drew.heap[b]? = some o := h
theorem mod_drew (b : Nat) (w : World) : Mod b w w.drew := ⟨rfl, rfl, rfl, rfl, fun _ _ => rfl⟩
theorem ret_sb {a a' : ByteArray} {b b' : Bool} (h : a = a') (h1 : b = b') : Ending.returned (.tuple #[.string a, .bool b]) = .returned (.tuple #[.string a', .bool b']) := by rw [h, h1]
theorem ret_is {k : IntKind} {x x' : Int} {a a' : ByteArray} (h : x = x') (h1 : a = a') : Ending.returned (.tuple #[.int k x, .string a]) = .returned (.tuple #[.int k x', .string a']) := by rw [h, h1]
theorem zeroP : (Tryd.prog.info? 23).map (·.zero) = some (some Pn.noV) := by kernel_rfl
theorem zeroS : (Tryd.prog.info? 33).map (·.zero) = some (some Msc.noV) := by kernel_rfl
theorem zeroM : (Tryd.prog.info? 35).map (·.zero) = some (some (mv zero)) := by kernel_rfl
theorem zeroR : (Tryd.prog.info? 85).map (·.zero) = some (some (mv zero)) := by kernel_rfl
section
variable {ops : Array Oper} {rest : List Oper} {a : Act} {Q : Exit → Act → World → Prop} {d : Option Tmp} {x y : Operand} {ty : TypeId} {pos : String} {af : Array Edge} {w : World} {m : Ms} {T : Nat}
theorem bxm (hx : a.eval x = mv m) (k : ∀ (b : Nat) (w' : World), w'.heap[b]? = some (mO m T) → Fresh b w w' → wpList Tryd.prog ops Q rest (a.put d (ptr b)) w') :
    wpList Tryd.prog ops Q ({ dst := d, op := .box T x, type := ty, pos := pos, after := af, guard := none } :: rest) a w :=
  wpList_plain rfl fun _ hK => by
    unfold Oper.wp execOp
    simp only [hx, Instr.box, newVar, newRow, Value.cells, Sem.run_bind, Sem.run_pure, Result.andThen_ok, run_newObj]
    exact hK _ _ (k w.heap.size (w.alloc (mO m T)) (nest w [_] 0 _ rfl) (fresh_alloc w _))
theorem alm (hz : (Tryd.prog.info? T).map (·.zero) = some (some (mv m))) (k : ∀ (b : Nat) (w' : World), w'.heap[b]? = some (mO m T) → Fresh b w w' → wpList Tryd.prog ops Q rest (a.put d (ptr b)) w') :
    wpList Tryd.prog ops Q ({ dst := d, op := .alloc T, type := ty, pos := pos, after := af, guard := none } :: rest) a w :=
  wpList_plain rfl fun _ hK => by
    cases hq : Tryd.prog.info? T with
    | none => simp [hq] at hz
    | some i =>
      have hi : i.zero = some (mv m) := by simpa [hq] using hz
      unfold Oper.wp execOp
      simp only [Instr.alloc, zeroValue, typeInfo, hq, hi, newVar, newRow, Value.cells, Sem.run_bind, Sem.run_pure, Result.andThen_ok, run_newObj, run_program]
      exact hK _ _ (k w.heap.size (w.alloc (mO m T)) (nest w [_] 0 _ rfl) (fresh_alloc w _))
/-- Guarded operations that are wanted. -/
theorem ldmg {g : Option (Nat × Bool)} {b : Nat} {t : TypeId} (hT : IsRow T 20) (h : w.heap[b]? = some (mO m t)) (hg : Region.wanted { dst := d, op := .load T x, type := ty, pos := pos, after := af, guard := g } (yielded ops a.tmps) = true) (hx : a.eval x = ptr b) (k : wpList Tryd.prog ops Q rest (a.put d (mv m)) w) :
    wpList Tryd.prog ops Q ({ dst := d, op := .load T x, type := ty, pos := pos, after := af, guard := g } :: rest) a w :=
  wpList_step fun K hK => by
    rw [if_pos hg]
    obtain ⟨fs, hu⟩ := hT.under
    exact wp_load_row T x rfl b hx t (mc m) (0, 0) _ h hu rfl hT.size (hK _ _ k)
theorem bdmg {g : Option (Nat × Bool)} {parts : Array (Nat × Operand)} (m : Ms) (hg : Region.wanted { dst := d, op := .build T parts, type := ty, pos := pos, after := af, guard := g } (yielded ops a.tmps) = true) (hb : Tryd.prog.built T (parts.map fun (i, x) => (i, a.eval x)).toList = some (mc m)) (k : wpList Tryd.prog ops Q rest (a.put d (mv m)) w) :
    wpList Tryd.prog ops Q ({ dst := d, op := .build T parts, type := ty, pos := pos, after := af, guard := g } :: rest) a w :=
  wpList_step fun K hK => by
    rw [if_pos hg]
    refine wp_build T parts rfl (by rw [hb]; rfl) ?_
    rw [hb]
    exact hK _ _ k
/-- What such operations yield, in whatever world, for a region that draws. -/
theorem ex_ld {g : Option (Nat × Bool)} {b : Nat} {t : TypeId} {ρ : Operand → Value} (hT : IsRow T 20) (h : w.heap[b]? = some (mO m t)) (hx : ρ x = ptr b) :
    (execOp ρ { dst := d, op := .load T x, type := ty, pos := pos, after := af, guard := g }).run Tryd.prog w = .ok (.value (mv m)) w := by
  unfold execOp
  simp only [hx, Instr.loadAt, Instr.sureAddr, Sem.run_bind, Sem.run_pure, Result.andThen_ok, run_ld hT h]
theorem ex_bd {g : Option (Nat × Bool)} {parts : Array (Nat × Operand)} {ρ : Operand → Value} (m : Ms) (hb : Tryd.prog.built T (parts.map fun (i, x) => (i, ρ x)).toList = some (mc m)) :
    (execOp ρ { dst := d, op := .build T parts, type := ty, pos := pos, after := af, guard := g }).run Tryd.prog w = .ok (.value (mv m)) w := by
  unfold execOp
  simp only [Sem.run_bind, run_build w T _ (mc m) hb, Sem.run_pure, Result.andThen_ok]
/-- A field is stored. -/
theorem stt {b : Nat} {t z : Nat} (h : w.heap[b]? = some (mO m T)) (hx : a.eval x = .pointer (some ⟨b, 18, none⟩)) (hy : a.eval y = .int .u8 (z : Int)) (k : ∀ w', w'.heap[b]? = some (mO ⟨m.k, m.c, m.p, m.s, z, m.b⟩ T) → Mod b w w' → wpList Tryd.prog ops Q rest (a.put d undef) w') :
    wpList Tryd.prog ops Q ({ dst := d, op := .store 5 x y, type := t, pos := pos, after := af, guard := none } :: rest) a w :=
  wpList_plain rfl fun _ hK => by
    have u := Tryd.isAgg5
    have z5 := Tryd.sizeOf5
    have c := (flds h).t
    have f := (frees h).2.2.1
    have k' := hK _ _ (k _ (set_t h z) (mod_setCell b 18 w _))
    clear h hK k
    unfold Oper.wp execOp
    simp only [hx, hy]
    go_simp
    exact k'
theorem stb {b : Nat} {t : Nat} {z : ByteArray} (h : w.heap[b]? = some (mO m T)) (hx : a.eval x = .pointer (some ⟨b, 19, none⟩)) (hy : a.eval y = .string z) (k : ∀ w', w'.heap[b]? = some (mO ⟨m.k, m.c, m.p, m.s, m.t, z⟩ T) → Mod b w w' → wpList Tryd.prog ops Q rest (a.put d undef) w') :
    wpList Tryd.prog ops Q ({ dst := d, op := .store 9 x y, type := t, pos := pos, after := af, guard := none } :: rest) a w :=
  wpList_plain rfl fun _ hK => by
    have u := Tryd.isAgg9
    have z5 := Tryd.sizeOf9
    have c := (flds h).b
    have f := (frees h).2.2.2
    have k' := hK _ _ (k _ (set_b h z) (mod_setCell b 19 w _))
    clear h hK k
    unfold Oper.wp execOp
    simp only [hx, hy]
    go_simp
    exact k'
theorem ex_ldp {g : Option (Nat × Bool)} {b : Nat} {t : TypeId} {ρ : Operand → Value} (hT : IsRow T 8) (h : w.heap[b]? = some (mO m t)) (hx : ρ x = .pointer (some ⟨b, 2, none⟩)) :
    (execOp ρ { dst := d, op := .load T x, type := ty, pos := pos, after := af, guard := g }).run Tryd.prog w = .ok (.value (Pn.pv m.p)) w := by
  obtain ⟨fs, hu⟩ := hT.under
  unfold execOp
  simp only [hx, Sem.run_bind, run_loadAt_mid w b 2 T _ _ (range_p h) hu rfl hT.size, Sem.run_pure, Result.andThen_ok]
theorem ex_lds {g : Option (Nat × Bool)} {b : Nat} {t : TypeId} {ρ : Operand → Value} (hT : IsRow T 8) (h : w.heap[b]? = some (mO m t)) (hx : ρ x = .pointer (some ⟨b, 10, none⟩)) :
    (execOp ρ { dst := d, op := .load T x, type := ty, pos := pos, after := af, guard := g }).run Tryd.prog w = .ok (.value (Msc.sv m.s)) w := by
  obtain ⟨fs, hu⟩ := hT.under
  unfold execOp
  simp only [hx, Sem.run_bind, run_loadAt_mid w b 10 T _ _ (range_s h) hu rfl hT.size, Sem.run_pure, Result.andThen_ok]
theorem over_same (cs0 cs cs' : Array Value) (h0 : cs0.size = cs.size) (h : ∀ j, cs'[j]? = if 0 ≤ j ∧ j < 0 + cs.toList.length then (if j < cs0.size then cs.toList[j - 0]? else none) else cs0[j]?) : cs' = cs := by
  apply Array.ext_getElem?
  intro j
  rw [h j]
  by_cases hj : j < cs.size
  · rw [if_pos (by rw [Array.length_toList]; omega), if_pos (by omega), Nat.sub_zero, Array.getElem?_toList]
  · rw [if_neg (by rw [Array.length_toList]; omega), Array.getElem?_eq_none (by omega), Array.getElem?_eq_none (by omega)]
/-- A store of a whole row, and an alloc, at the operation itself. -/
theorem wp_row {K : Act → World → Prop} {b n : Nat} {t : TypeId} {cs0 cs : Array Value} (hT : IsRow T n) (h : w.heap[b]? = some (.cells cs0 t (0, 0))) (h0 : cs0.size = n) (h1 : cs.size = n) (hc : cs.all (·.oneCell') = true) (hx : a.eval x = ptr b) (hy : a.eval y = .agg cs)
    (k : ∀ w', w'.heap[b]? = some (.cells cs t (0, 0)) → Mod b w w' → K (a.put d undef) w') : Oper.wp Tryd.prog { dst := d, op := .store T x y, type := ty, pos := pos, after := af, guard := none } a w K Q := by
  obtain ⟨cs', g1, _, g3, g4⟩ := setCells_block b cs.toList 0 w _ t h
  obtain rfl := over_same cs0 cs cs' (by omega) g3
  exact wp_store_mid T x y rfl b 0 cs' hx hy (there_of h (by omega)) (by rw [h1]; exact hT.size) hc (k _ g1 g4)
theorem wp_al {K : Act → World → Prop} {cs : Array Value} (hz : (Tryd.prog.info? T).map (·.zero) = some (some (.agg cs))) (k : ∀ (b : Nat) (w' : World), w'.heap[b]? = some (.cells cs T (0, 0)) → Fresh b w w' → K (a.put d (ptr b)) w') :
    Oper.wp Tryd.prog { dst := d, op := .alloc T, type := ty, pos := pos, after := af, guard := none } a w K Q := by
  cases hq : Tryd.prog.info? T with
  | none => simp [hq] at hz
  | some i =>
    have hi : i.zero = some (.agg cs) := by simpa [hq] using hz
    unfold Oper.wp execOp
    simp only [Instr.alloc, zeroValue, typeInfo, hq, hi, newVar, newRow, Value.cells, Sem.run_bind, Sem.run_pure, Result.andThen_ok, run_newObj, run_program]
    exact k w.heap.size (w.alloc (.cells cs T (0, 0))) (nest w [_] 0 _ rfl) (fresh_alloc w _)
end
theorem needed_results (tmps : Array Value) (w : World) (b : Nat) (m : Ms) (t : TypeId) (h : w.heap[b]? = some (mO m t)) (p2 : tmps[2]?.getD undef = ptr b) :
    (results Tryd.f40 tmps).run Tryd.prog w = .ok (mv m) w := by
  simp [results, Tryd.results40, asAddr, p2, run_ld isM h]
theorem read_results (tmps : Array Value) (w : World) (b : Nat) (m : Ms) (t : TypeId) (x : Bool) (h : w.heap[b]? = some (mO m t)) (p2 : tmps[4]?.getD undef = ptr b) (p3 : tmps[5]?.getD undef = .bool x) :
    (results Tryd.f53 tmps).run Tryd.prog w = .ok (.tuple #[mv m, .bool x]) w := by
  simp [results, Tryd.results53, asAddr, p2, p3, run_ld isM h]
theorem get_results (tmps : Array Value) (w : World) (b : Nat) (m : Ms) (t : TypeId) (n e : Int) (h : w.heap[b]? = some (mO m t)) (p2 : tmps[2]?.getD undef = ptr b) (p3 : tmps[3]?.getD undef = .int .i64 n) (p4 : tmps[4]?.getD undef = .int .i64 e) :
    (results Tryd.f41 tmps).run Tryd.prog w = .ok (.tuple #[mv m, .int .i64 n, .int .i64 e]) w := by
  simp [results, Tryd.results41, asAddr, p2, p3, p4, run_ld isM h]
end Go.Proofs.YtakkhdammmcjcaaDoor.Msgs
/-
  More operations on blocks that are letters: a struct of any kind made and stored whole, a message's bit, slices of messages. No condition.
-/
namespace Go.Proofs.YtakkhdammmcjcaaDoor.Msgs
open Go.RowKit Go.Proofs.YtakkhdammmcjcaaDoor.Base Go.Proofs.YtakkhdammmcjcaaDoor.Mem
set_option maxRecDepth 20000
section
variable {ops : Array Oper} {rest : List Oper} {a : Act} {Q : Exit → Act → World → Prop} {d : Option Tmp} {x y : Operand} {ty : TypeId} {pos : String} {af : Array Edge} {w : World} {m : Ms} {T : Nat}
theorem alr {cs : Array Value} (hz : (Tryd.prog.info? T).map (·.zero) = some (some (.agg cs))) (k : ∀ (b : Nat) (w' : World), w'.heap[b]? = some (.cells cs T (0, 0)) → Fresh b w w' → wpList Tryd.prog ops Q rest (a.put d (ptr b)) w') :
    wpList Tryd.prog ops Q ({ dst := d, op := .alloc T, type := ty, pos := pos, after := af, guard := none } :: rest) a w :=
  wpList_plain rfl fun _ hK => wp_al hz fun b w' h F => hK _ _ (k b w' h F)
theorem str {n b : Nat} {t : TypeId} (cs : Array Value) {cs0 : Array Value} (hT : IsRow T n) (h : w.heap[b]? = some (.cells cs0 t (0, 0))) (h0 : cs0.size = n) (h1 : cs.size = n) (hc : cs.all (·.oneCell') = true) (hx : a.eval x = ptr b) (hy : a.eval y = .agg cs)
    (k : ∀ w', w'.heap[b]? = some (.cells cs t (0, 0)) → Mod b w w' → wpList Tryd.prog ops Q rest (a.put d undef) w') :
    wpList Tryd.prog ops Q ({ dst := d, op := .store T x y, type := ty, pos := pos, after := af, guard := none } :: rest) a w :=
  wpList_plain rfl fun _ hK => wp_row hT h h0 h1 hc hx hy fun w' h M => hK _ _ (k w' h M)
theorem stc {b : Nat} {t : Nat} {z : Bool} (h : w.heap[b]? = some (mO m T)) (hx : a.eval x = .pointer (some ⟨b, 1, none⟩)) (hy : a.eval y = .bool z) (k : ∀ w', w'.heap[b]? = some (mO (m.cmd z) T) → Mod b w w' → wpList Tryd.prog ops Q rest (a.put d undef) w') :
    wpList Tryd.prog ops Q ({ dst := d, op := .store 4 x y, type := t, pos := pos, after := af, guard := none } :: rest) a w :=
  wpList_plain rfl fun _ hK => by
    have u := Tryd.isAgg4
    have z5 := Tryd.sizeOf4
    have c := (flds h).c
    have f := (frees h).2.1
    have k' := hK _ _ (k _ (set_c h z) (mod_setCell b 1 w _))
    clear h hK k
    unfold Oper.wp execOp
    simp only [hx, hy]
    go_simp
    exact k'
/-- A slice literal. -/
theorem bsl {len : Nat} {S e : Nat} {parts : Array (Nat × Operand)} (cells : Array Value) (hu : Tryd.prog.underlying S = some (.slice e)) (he : (Tryd.prog.info? e).map (fun i => (i.zero, i.size)) = some (some (mv zero), 20)) (hl : 0 < len ∧ len ≤ 100)
    (hf : Instr.fill (fun i => some (i * 20, 20)) ((Array.range (len * 20)).map ((mc zero)[· % (mc zero).size]!)) (parts.map fun (i, x) => (i, a.eval x)).toList = some cells)
    (k : ∀ (b : Nat) (w' : World), w'.heap[b]? = some (.cells cells e (0, 0)) → Fresh b w w' → wpList Tryd.prog ops Q rest (a.put d (.slice (some ⟨b, 0, none⟩) len len)) w') :
    wpList Tryd.prog ops Q ({ dst := d, op := .buildSlice S len parts, type := ty, pos := pos, after := af, guard := none } :: rest) a w := by
  cases hq : Tryd.prog.info? e with
  | none => simp [hq] at he
  | some i =>
    simp only [hq, Option.map_some, Option.some.injEq, Prod.mk.injEq] at he
    refine wpList_buildSlice rfl S e len parts rfl cells i (mv zero) hu hq he.1 (by rw [he.2]; omega) (by rw [he.2]; omega) (by rw [he.2]; exact hf) ?_
    exact k w.heap.size (w.alloc (.cells cells e (0, 0))) (nest w [_] 0 _ rfl) (fresh_alloc w _)
end
theorem infoM : (Tryd.prog.info? 35).map (fun i => (i.zero, i.size)) = some (some (mv zero), 20) := by kernel_rfl
theorem infoR : (Tryd.prog.info? 85).map (fun i => (i.zero, i.size)) = some (some (mv zero), 20) := by kernel_rfl
theorem fill1 (m : Ms) : Instr.fill (fun i => some (i * 20, 20)) ((Array.range (1 * 20)).map ((mc zero)[· % (mc zero).size]!)) [(0, mv m)] = some (mc m) := by kernel_rfl
/-- A message's cells, as a list. -/
def ml (m : Ms) : List Value := (mc m).toList
theorem ml_len (m : Ms) : (ml m).length = 20 := rfl
theorem ml_one (m : Ms) : ∀ u ∈ ml m, u.oneCell' = true := fun u hu => (Array.all_eq_true_iff_forall_mem.1 (one_all m)) u (by unfold ml at hu; simpa using hu)
theorem eltM : Elt 35 24 20 ml where
  under := Tryd.underlying24
  info := ⟨mv zero, 80, by kernel_rfl, rfl, by decide⟩
  len := ml_len
  one := ml_one
  pos := by decide
theorem eltR : Elt 85 55 20 ml where
  under := Tryd.underlying55
  info := ⟨mv zero, 80, by kernel_rfl, rfl, by decide⟩
  len := ml_len
  one := ml_one
  pos := by decide
theorem row_of {w : World} {b : Nat} {m : Ms} {t : TypeId} (h : w.heap[b]? = some (mO m t)) : ∀ j, j < 20 → w.cell? ⟨b, j, none⟩ = (ml m)[j]? := fun j hj => by
  have hj' : j < (mc m).size := hj
  rw [cell_of h (Array.getElem?_eq_getElem hj')]
  unfold ml
  rw [Array.getElem?_toList, Array.getElem?_eq_getElem hj']
end Go.Proofs.YtakkhdammmcjcaaDoor.Msgs

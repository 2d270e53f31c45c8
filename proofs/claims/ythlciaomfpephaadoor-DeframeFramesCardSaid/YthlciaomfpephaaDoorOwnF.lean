/-
  A slice of frames that the call made itself: what it holds, that a frame is appended to it. Condition: at most a million frames.
-/
import Derived.Test.YthlciaomfpephaaDoorOwn
import Derived.Test.YthlciaomfpephaaDoorFrame
namespace Go.Proofs.YthlciaomfpephaaDoor.Df
open Go.RowKit Go.Proofs.YthlciaomfpephaaDoor.Base Go.Proofs.YthlciaomfpephaaDoor.Basic
/-- A frame's cells. -/
def fc (f : Fr) : List Value := [.int .u8 (f.d : Int), .bool f.c, .int .u8 (f.k : Int), .bool f.pf, .int .u8 (f.ns : Int), .int .u8 (f.nr : Int), .string f.info]
theorem fc_len (f : Fr) : (fc f).length = 7 := rfl
/-- The slice v, in memory from block 'base' on, holds these frames. -/
def OwnF (w : World) (base : Nat) (v : Value) (l : List Fr) : Prop := w.ownsRow base 30 7 v l.length (l.flatMap fc)
theorem infoF : (Tryd.prog.info? 30).map (fun i => (i.zero, i.size, i.bytes)) = some (some noFr, 7, 24) := by kernel_rfl
theorem OwnF.grown {w w' : World} {base : Nat} {v : Value} {l : List Fr} {r : Option Nat} (h : OwnF w base v l) (hg : w.grownBy w' r) (hne : v.ownBlock = none ∨ v.ownBlock ≠ r) : OwnF w' base v l := World.ownsRow.kept h hg hne
theorem OwnF.below {w w' : World} {base : Nat} {v : Value} {l : List Fr} (h : OwnF w base v l) (hb : Below w.heap.size w w') : OwnF w' base v l :=
  h.grown (grown_below (r := none) hb) (by cases hv : v.ownBlock <;> simp)
theorem OwnF.alloc {w : World} {base : Nat} {v : Value} {l : List Fr} (h : OwnF w base v l) (o : Obj) : OwnF (w.alloc o) base v l := World.ownsRow.alloc h o
theorem OwnF.lt {w : World} {base : Nat} {v : Value} {l : List Fr} (h : OwnF w base v l) : ∀ k, v.ownBlock = some k → base ≤ k ∧ k < w.heap.size := World.ownsRow.lt h
theorem ownF_nil (w : World) (base : Nat) : OwnF w base (.slice none 0 0) [] := World.ownsRow_nil w base _ _
theorem cell_fc {w : World} {b : Nat} {f : Fr} (h : FrAt w b f) : ∀ j u, (fc f)[j]? = some u → w.cell? ((⟨b, 0, none⟩ : Addr).add j) = some u := by
  intro j u hu
  have hadd : (⟨b, 0, none⟩ : Addr).add j = ⟨b, j, none⟩ := by unfold Addr.add; split <;> simp_all
  rw [hadd]
  refine cell_of h ?_
  rw [← hu]
  simp [fc]
/-- A frame is appended: the slice stays where it is, or lies in a new block. -/
theorem run_append_frame (w : World) (ty : TypeId) (base : Nat) (v : Value) (l : List Fr) (h : OwnF w base v l) (b c : Nat) (f : Fr) (hrow : FrAt w b f) (hz : l.length + 1 ≤ 1000000) (hb : base ≤ w.heap.size) :
    ∃ v' w', (Builtin.append_ #[24, 24] ty #[v, .slice (some ⟨b, 0, none⟩) 1 c]).run Tryd.prog w = .ok v' w' ∧ OwnF w' base v' (l ++ [f]) ∧ w.grownBy w' v.ownBlock ∧ (v'.ownBlock = v.ownBlock ∨ v'.ownBlock = some w.heap.size) := by
  obtain ⟨i, hi, hz0, hz1, hz2⟩ := info_parts infoF
  have hnews := cell_fc hrow
  have hl : (fc f).length = 1 * 7 := rfl
  have h1 : ∀ u ∈ fc f, u.oneCell' = true := by
    intro u hu
    simp only [fc, List.mem_cons, List.not_mem_nil, or_false] at hu
    rcases hu with rfl | rfl | rfl | rfl | rfl | rfl | rfl <;> rfl
  obtain ⟨v', w', hr, ho, hg, _⟩ := run_append_own (P := Tryd.prog) w base 24 ty 30 i noFr 7 24 Tryd.underlying24 hi hz0 hz1 hz2 rfl (by decide) v l.length (l.flatMap fc) h ⟨b, 0, none⟩ 1 c (fc f) hl hnews h1 (by unfold maxLen; omega) (by omega) hb
  refine ⟨v', w', hr, ?_, hg, ?_⟩
  · unfold OwnF
    rw [List.length_append, List.flatMap_append]
    simpa using ho
  · rcases h.2 with ⟨rfl, hl0⟩ | ⟨g, cap, cur, rfl, hbg, hgg, hnc, hcm, hcs, htake⟩
    · have hr2 := run_append_nil (P := Tryd.prog) w 24 ty 30 i noFr Tryd.underlying24 hi hz0 ⟨b, 0, none⟩ 1 c (fc f) (by rw [hz1]; exact hl) hnews (by omega) (by omega) (by rw [hz2]; omega)
      rw [hr] at hr2
      injection hr2 with hv _
      subst hv
      exact Or.inr rfl
    · by_cases hroom : l.length + 1 ≤ cap
      · have hr2 := run_append_room (P := Tryd.prog) w 24 ty 30 i Tryd.underlying24 hi g l.length cap cur hgg ⟨b, 0, none⟩ 1 c (fc f) (by rw [hz1]; exact hl) hnews h1 hroom (by rw [hz1, hcs, fc_len]; omega)
        rw [hr] at hr2
        injection hr2 with hv _
        subst hv
        exact Or.inl rfl
      · have holds : ∀ j u, (l.flatMap fc)[j]? = some u → w.cell? ((⟨g, 0, none⟩ : Addr).add j) = some u := World.ownsRow.cells h (g := g) rfl
        have hr2 := run_append_grow (P := Tryd.prog) w 24 ty 30 i noFr Tryd.underlying24 hi hz0 ⟨g, 0, none⟩ l.length cap (l.flatMap fc) (by rw [hz1]; exact h.1) holds ⟨b, 0, none⟩ 1 c (fc f) (by rw [hz1]; exact hl) hnews (by omega) (by omega) (growslice_fits (by omega) (by rw [hz2]; omega))
        rw [hr] at hr2
        injection hr2 with hv _
        subst hv
        exact Or.inr rfl
theorem wpList_append_frame {ops : Array Oper} {rest : List Oper} {o : Oper} {a : Act} {Q : Exit → Act → World → Prop} (w : World) (hgd : o.guard = none) (s x : Operand)
    (hop : o.op = .call { callee := .builtin .append, args := #[s, x], argTypes := #[24, 24] })
    (base : Nat) (v : Value) (hs : a.eval s = v) (l : List Fr) (hown : OwnF w base v l) (b c : Nat) (hx : a.eval x = .slice (some ⟨b, 0, none⟩) 1 c) (f : Fr) (hrow : FrAt w b f) (hz : l.length + 1 ≤ 1000000) (hb : base ≤ w.heap.size)
    (h : ∀ v' w', OwnF w' base v' (l ++ [f]) → w.grownBy w' v.ownBlock → (v'.ownBlock = v.ownBlock ∨ v'.ownBlock = some w.heap.size) → wpList Tryd.prog ops Q rest (a.put o.dst v') w') : wpList Tryd.prog ops Q (o :: rest) a w :=
  wpList_plain hgd fun _ hK => by
    obtain ⟨v', w', hr, h2, h3, h4⟩ := run_append_frame w o.type base v l hown b c f hrow hz hb
    unfold Oper.wp execOp
    simp only [hop, resolve, invoke, builtin, Sem.run_bind, Sem.run_pure, Result.andThen_ok, List.map_toArray, List.map_cons, List.map_nil, hs, hx, hr]
    exact hK _ _ (h v' w' h2 h3 h4)
/-- What lies in such a slice, frame by frame. -/
theorem OwnF.shape {w : World} {base : Nat} {v : Value} {l : List Fr} (h : OwnF w base v l) : (v = .slice none 0 0 ∧ l = []) ∨ ∃ g cap, v = .slice (some ⟨g, 0, none⟩) l.length cap ∧ base ≤ g := by
  rcases h.2 with ⟨h1, h2⟩ | ⟨g, cap, cur, h1, h2, _⟩
  · exact Or.inl ⟨h1, List.eq_nil_of_length_eq_zero h2⟩
  · exact Or.inr ⟨g, cap, h1, h2⟩
theorem flat_at (l : List Fr) (f : Fr) (k j : Nat) (hk : l[k]? = some f) (hj : j < 7) : (l.flatMap fc)[7 * k + j]? = (fc f)[j]? := by
  induction l generalizing k with
  | nil => simp at hk
  | cons a r ih =>
    rw [List.flatMap_cons]
    match k, hk with
    | 0, hk =>
      rw [List.getElem?_cons_zero, Option.some.injEq] at hk
      subst hk
      rw [List.getElem?_append_left (by rw [fc_len]; omega)]
      congr 1; omega
    | k + 1, hk =>
      rw [List.getElem?_cons_succ] at hk
      rw [List.getElem?_append_right (by rw [fc_len]; omega), fc_len, ← ih k hk]
      congr 1; omega
theorem OwnF.cell {w : World} {base g n cap : Nat} {l : List Fr} (h : OwnF w base (.slice (some ⟨g, 0, none⟩) n cap) l) (k : Nat) (f : Fr) (hk : l[k]? = some f) (j : Nat) (hj : j < 7) : w.cell? ⟨g, 7 * k + j, none⟩ = (fc f)[j]? := by
  have hf : (fc f)[j]? = some ((fc f)[j]'(by rw [fc_len]; exact hj)) := List.getElem?_eq_getElem _
  have := World.ownsRow.cells h (g := g) rfl (7 * k + j) _ ((flat_at l f k j hk hj).trans hf)
  have hadd : (⟨g, 0, none⟩ : Addr).add (7 * k + j) = ⟨g, 7 * k + j, none⟩ := by unfold Addr.add; split <;> simp_all
  rw [hadd] at this
  rw [this, hf]
end Go.Proofs.YthlciaomfpephaaDoor.Df

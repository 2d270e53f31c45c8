/-
  The heads of LinkKnown in memory; events appended. No condition.
-/
import Derived.Test.YtfflbaiddiahnaaLkMeetsLaw
import Derived.Test.YtfflbaiddiahnaaLkSaysLaw
import Derived.Test.YtfflbaiddiahnaaLkGivesLaw
import Derived.Test.YtfflbaiddiahnaaLkNoneLaw
import Derived.Deep.Grids
namespace Go.Proofs.Ytfflbaiddiahnaa.linkKnown
open Go.RowKit Go.Proofs.Ytfflbaiddiahnaa.Base Go.Proofs.Ytfflbaiddiahnaa.Mem Go.Proofs.Ytfflbaiddiahnaa.Lk
theorem elE : Elt 33 22 4 ec :=
  ⟨Try.underlying22, ⟨.agg #[.int .i64 0, .int .u8 0, .bool false, .bool false], 16, by kernel_rfl, rfl, by decide⟩, fun _ => rfl, fun x u hu => by
    simp only [ec, List.mem_cons, List.not_mem_nil, or_false] at hu
    rcases hu with rfl | rfl | rfl | rfl <;> rfl, by decide⟩
theorem append_none (w : World) (ty : TypeId) : (Builtin.append_ #[22, 22] ty #[.slice none 0 0, .slice none 0 0]).run Try.prog w = .ok (.slice none 0 0) w := by kernel_rfl
section
variable {P : Program}
/-- An append whose run is known. -/
theorem wpList_append_known (w : World) {ops : Array Oper} {rest : List Oper} {o : Oper} {a : Act} {Q : Exit → Act → World → Prop} (hgd : o.guard = none) (d s : Operand) (t t' : TypeId)
    (ho : o.op = .call { callee := .builtin .append, args := #[d, s], argTypes := #[t, t'] }) {v u : Value} (hd : a.eval d = v) (hs : a.eval s = u) {v' : Value} {w' : World}
    (hr : (Builtin.append_ #[t, t'] o.type #[v, u]).run P w = .ok v' w') (h : wpList P ops Q rest (a.put o.dst v') w') : wpList P ops Q (o :: rest) a w :=
  wpList_plain hgd fun _ hQ => by
    unfold Oper.wp execOp
    simp only [ho, resolve, invoke, builtin, Sem.run_bind, Sem.run_pure, Result.andThen_ok, List.map_toArray, List.map_cons, List.map_nil, hd, hs, hr]
    exact hQ _ _ h
end
theorem ec_len : ∀ x, (ec x).length = 4 := fun _ => rfl
/-- A row that was just laid. -/
theorem qz_made {w : World} {base g : Nat} (hb : base ≤ g) (l : List Et) (hl : l.length ≤ 1000) {cs : Array Value} (h : w.heap[g]? = some (.cells cs 33)) (hc : cs = (l.flatMap ec).toArray) : Qz 4 ec w base (.slice (some ⟨g, 0, none⟩) l.length l.length) l := by
  have hsz : cs.size = 4 * l.length := by rw [hc, List.size_toArray, flat_len ec_len l]
  refine Qz.of hb ⟨Nat.le_refl _, by omega, lt_heap h, fun i x hi j hj => ?_, fun i hi => ?_, fun i _ => free_of h⟩ rfl
  · have hj' : j < (ec x).length := hj
    rw [Nat.zero_add]
    have hv : cs[4 * i + j]? = some (ec x)[j] := by
      rw [hc, List.getElem?_toArray, flat_get ec_len l x i j hi hj, List.getElem?_eq_getElem hj']
    rw [cell_of h hv, List.getElem?_eq_getElem hj']
  · rw [Nat.zero_add, cell_of h (v := cs[i]'(by omega)) (Array.getElem?_eq_getElem _)]; rfl
/-- The heads, in memory from w0 on. -/
structure Hd (w0 : World) (hb : Nat) (w : World) : Prop where
  row : ∀ i, i < 8 → ∃ o n c l, w.cell? ⟨hb, i, none⟩ = some (.slice o n c) ∧ Qz 4 ec w w0.heap.size (.slice o n c) l ∧ l.length = n ∧ n ≤ 3 ∧ (n = 0 → o = none ∧ c = 0) ∧ ∀ x ∈ l, Fits x
  lt : hb < w.heap.size
  lo : w0.heap.size ≤ hb
  below : Below w0.heap.size w0 w
theorem Hd.on {w0 w w' : World} {hb : Nat} (h : Hd w0 hb w) (hB : Below w.heap.size w w') : Hd w0 hb w' :=
  ⟨fun i hi => by
    obtain ⟨o, n, c, l, h1, h2, h3⟩ := h.row i hi
    exact ⟨o, n, c, l, cell_below h1 hB, h2.below hB, h3⟩, Nat.lt_of_lt_of_le h.lt hB.size, h.lo, below_on h.below hB⟩
/-- A slice of the call's own as an argument. -/
theorem qz_args {w : World} {base : Nat} {v : Value} {l : List Et} (h : Qz 4 ec w base v l) (hf : ∀ x ∈ l, Fits x) : ∃ o c F, v = .slice o l.length c ∧ ArgS 4 ec Fits w o l.length F := by
  rcases h with ⟨rfl, rfl⟩ | ⟨g, off, cap, rfl, _, hR⟩
  · exact ⟨none, 0, fun _ => ⟨0, 0, false, false⟩, rfl, fun h => absurd h (by decide), fun k hk => absurd hk (by simp), fun a ha => by cases ha⟩
  · refine ⟨_, cap, fun k => l[k]?.getD ⟨0, 0, false, false⟩, rfl, fun _ => ⟨_, rfl, hR.lt⟩, fun k hk => ?_, fun a ha k hk j hj => ?_⟩
    · rw [List.getElem?_eq_getElem hk]
      exact hf _ (List.getElem_mem hk)
    · cases ha
      rw [List.getElem?_eq_getElem hk, add_off, add_off, Nat.add_assoc, Nat.mul_comm]
      exact hR.cell k _ (List.getElem?_eq_getElem hk) j hj
/-- Its elements, appended to nothing. -/
theorem app0 {base : Nat} {w : World} {o : Option Addr} {n c : Nat} {l : List Et} (h : Qz 4 ec w base (.slice o n c) l) (hl : l.length = n) (hn : n ≤ 3) (h0 : n = 0 → o = none ∧ c = 0) (ty : TypeId) :
    ∃ v' w', (Builtin.append_ #[22, 22] ty #[.slice none 0 0, .slice o n c]).run Try.prog w = .ok v' w' ∧ Qz 4 ec w' w.heap.size v' l ∧ Below w.heap.size w w' := by
  by_cases hz : n = 0
  · obtain ⟨rfl, rfl⟩ := h0 hz
    subst hz
    exact ⟨_, _, append_none w ty, by rw [List.eq_nil_of_length_eq_zero hl]; exact qz_nil _ _, Below.refl _ _⟩
  · rcases h with ⟨h, h'⟩ | ⟨g, off, cap, hv, _, hR⟩
    · rw [h'] at hl; exact absurd hl.symm hz
    · injection hv with h1 h2 h3
      subst h1 h2 h3
      have hs := srcz_at elE w g off l.length c l rfl (fun i x hi j hj => hR.cell i x hi j hj)
      obtain ⟨v', w', hr, hq, hg, _⟩ := run_append_q elE w ty w.heap.size (.slice none 0 0) [] (qz_nil _ _) _ l.length l rfl hs (by omega) (by simp; omega) (Nat.le_refl _)
      exact ⟨v', w', hr, hq, hg.os, hg.tape, hg.output, hg.size, fun k hk => hg.block k hk (by simp [Value.ownBlock])⟩
/-- Four events. -/
abbrev ev4 (a b c d : Et) : Array Value := #[.int .i64 a.kind, .int .u8 a.fr, .bool a.pf, .bool a.c, .int .i64 b.kind, .int .u8 b.fr, .bool b.pf, .bool b.c, .int .i64 c.kind, .int .u8 c.fr, .bool c.pf, .bool c.c, .int .i64 d.kind, .int .u8 d.fr, .bool d.pf, .bool d.c]
theorem app4 {B : Nat} {w : World} {v : Value} {l : List Et} (h : Qz 4 ec w B v l) (hl : l.length ≤ 3) (hlt : B ≤ w.heap.size) (a b c d : Et) (ty : TypeId) :
    ∃ v' w', (Builtin.append_ #[22, 22] ty #[v, .slice (some ⟨w.heap.size, 0, none⟩) 4 4]).run Try.prog (w.alloc (.cells (ev4 a b c d) 33)) = .ok v' w' ∧ Qz 4 ec w' B v' (l ++ [a, b, c, d]) ∧ Below B w w' := by
  have hb : (w.alloc (.cells (ev4 a b c d) 33)).heap[w.heap.size]? = some (.cells (ev4 a b c d) 33) := nest w [_] 0 _ rfl
  have hq0 := qz_made (base := 0) (Nat.zero_le _) [a, b, c, d] (by simp) hb rfl
  rcases hq0 with ⟨h1, _⟩ | ⟨g, off, cap, hv, _, hR⟩
  · cases h1
  · injection hv with h1 h2 h3
    injection h1 with h1
    injection h1 with h1 h4
    subst h1 h4
    have hs := srcz_at elE (w.alloc (.cells (ev4 a b c d) 33)) w.heap.size 0 4 4 [a, b, c, d] rfl (fun i x hi j hj => hR.cell i x hi j hj)
    have hB : Below w.heap.size w (w.alloc (.cells (ev4 a b c d) 33)) := nest_below w [_]
    obtain ⟨v', w', hr, hq, hg, _⟩ := run_append_q elE _ ty B v l (h.below hB) _ 4 [a, b, c, d] rfl hs (by decide) (by omega) (Nat.le_trans hlt hB.size)
    refine ⟨v', w', hr, hq, ?_⟩
    refine (hB.mono hlt).trans ⟨hg.os, hg.tape, hg.output, hg.size, fun k hk => hg.block k (by have := hB.size; omega) fun e => ?_⟩
    have := (h.lt k e.symm).1
    omega
abbrev e3 : Et := ⟨3, 0, true, false⟩
abbrev e0 : Et := ⟨0, 0, false, false⟩
abbrev e42 : Et := ⟨4, 2, true, false⟩
abbrev e41 : Et := ⟨4, 1, true, true⟩
abbrev e1 : Et := ⟨1, 0, false, false⟩
abbrev e2 : Et := ⟨2, 0, false, false⟩
abbrev hW (w : World) : World := (((((((w.alloc (.cells #[.int .i64 3, .int .u8 0, .bool true, .bool false] 33)).alloc (.cells #[.int .i64 0, .int .u8 0, .bool false, .bool false] 33)).alloc (.cells #[.int .i64 0, .int .u8 0, .bool false, .bool false, .int .i64 4, .int .u8 2, .bool true, .bool false] 33)).alloc (.cells #[.int .i64 3, .int .u8 0, .bool true, .bool false, .int .i64 4, .int .u8 1, .bool true, .bool true] 33)).alloc (.cells #[.int .i64 0, .int .u8 0, .bool false, .bool false, .int .i64 1, .int .u8 0, .bool false, .bool false] 33)).alloc (.cells #[.int .i64 0, .int .u8 0, .bool false, .bool false, .int .i64 2, .int .u8 0, .bool false, .bool false, .int .i64 2, .int .u8 0, .bool false, .bool false] 33)).alloc (.cells #[.int .i64 0, .int .u8 0, .bool false, .bool false, .int .i64 2, .int .u8 0, .bool false, .bool false] 33)).alloc
  (.cells #[.slice none 0 0, .slice (some ⟨w.heap.size, 0, none⟩) 1 1, .slice (some ⟨w.heap.size + 1, 0, none⟩) 1 1, .slice (some ⟨w.heap.size + 1 + 1, 0, none⟩) 2 2, .slice (some ⟨w.heap.size + 1 + 1 + 1, 0, none⟩) 2 2, .slice (some ⟨w.heap.size + 1 + 1 + 1 + 1, 0, none⟩) 2 2, .slice (some ⟨w.heap.size + 1 + 1 + 1 + 1 + 1, 0, none⟩) 3 3, .slice (some ⟨w.heap.size + 1 + 1 + 1 + 1 + 1 + 1, 0, none⟩) 2 2] 22)
theorem fits_of (l : List Et) (h : (l.all fun x => decide (0 ≤ x.fr) && decide (x.fr < 256)) = true) : ∀ x ∈ l, Fits x := fun x hx => by
  have := List.all_eq_true.1 h x hx
  simp only [Bool.and_eq_true, decide_eq_true_eq] at this
  exact this
theorem heads (w : World) : Hd w (w.heap.size + 1 + 1 + 1 + 1 + 1 + 1 + 1) (hW w) := by
  have b7 : (hW w).heap[w.heap.size + 1 + 1 + 1 + 1 + 1 + 1 + 1]? = some (.cells _ 22) := nest w [_, _, _, _, _, _, _, _] 7 _ rfl
  refine ⟨fun i hi => ?_, lt_heap b7, by omega, nest_below w [_, _, _, _, _, _, _, _]⟩
  match i, hi with
  | 0, _ => exact ⟨_, _, _, [], cell_of b7 rfl, qz_nil _ _, rfl, by decide, fun _ => ⟨rfl, rfl⟩, (fun x hx => by cases hx)⟩
  | 1, _ => exact ⟨_, _, _, [e3], cell_of b7 rfl, qz_made (Nat.le_refl _) [e3] (by decide) (nest w [_, _, _, _, _, _, _, _] 0 _ rfl) rfl, rfl, by decide, (fun h => absurd h (by decide)), fits_of _ (by decide)⟩
  | 2, _ => exact ⟨_, _, _, [e0], cell_of b7 rfl, qz_made (by omega) [e0] (by decide) (nest w [_, _, _, _, _, _, _, _] 1 _ rfl) rfl, rfl, by decide, (fun h => absurd h (by decide)), fits_of _ (by decide)⟩
  | 3, _ => exact ⟨_, _, _, [e0, e42], cell_of b7 rfl, qz_made (by omega) [e0, e42] (by decide) (nest w [_, _, _, _, _, _, _, _] 2 _ rfl) rfl, rfl, by decide, (fun h => absurd h (by decide)), fits_of _ (by decide)⟩
  | 4, _ => exact ⟨_, _, _, [e3, e41], cell_of b7 rfl, qz_made (by omega) [e3, e41] (by decide) (nest w [_, _, _, _, _, _, _, _] 3 _ rfl) rfl, rfl, by decide, (fun h => absurd h (by decide)), fits_of _ (by decide)⟩
  | 5, _ => exact ⟨_, _, _, [e0, e1], cell_of b7 rfl, qz_made (by omega) [e0, e1] (by decide) (nest w [_, _, _, _, _, _, _, _] 4 _ rfl) rfl, rfl, by decide, (fun h => absurd h (by decide)), fits_of _ (by decide)⟩
  | 6, _ => exact ⟨_, _, _, [e0, e2, e2], cell_of b7 rfl, qz_made (by omega) [e0, e2, e2] (by decide) (nest w [_, _, _, _, _, _, _, _] 5 _ rfl) rfl, rfl, by decide, (fun h => absurd h (by decide)), fits_of _ (by decide)⟩
  | 7, _ => exact ⟨_, _, _, [e0, e2], cell_of b7 rfl, qz_made (by omega) [e0, e2] (by decide) (nest w [_, _, _, _, _, _, _, _] 6 _ rfl) rfl, rfl, by decide, (fun h => absurd h (by decide)), fits_of _ (by decide)⟩
end Go.Proofs.Ytfflbaiddiahnaa.linkKnown

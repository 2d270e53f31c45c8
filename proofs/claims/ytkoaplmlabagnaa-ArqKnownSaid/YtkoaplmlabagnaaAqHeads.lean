/-
  ArqKnown's calls and steps in memory, appended one by one; calls of no side. No condition of its own.
-/
import Derived.Test.YtkoaplmlabagnaaAqEndsLaw
import Derived.Test.YtkoaplmlabagnaaAqPlaysLaw
import Derived.Test.YtkoaplmlabagnaaAqFailsLaw
namespace Go.Proofs.Ytkoaplmlabagnaa.Aq
open Go.RowKit Go.Proofs.Ytkoaplmlabagnaa.Base Go.Proofs.Ytkoaplmlabagnaa.Mem
theorem fhear_nil (w : World) (d k ns nr : Int) (c pf : Bool) (i : ByteArray) : Calls Try.prog 24 #[.pointer none, .agg #[.int .u8 d, .bool c, .int .u8 k, .bool pf, .int .u8 ns, .int .u8 nr, .string i]] w fun e w' => e = .returned (.agg #[.string ⟨#[]⟩, .bool false, .int .i64 0, .bool false]) ∧ Below w.heap.size w w' := by
  have CL := Lib.hid fun w => flives_nil w
  go_enter Try.func24, Try.ntmps24
  go_wp2_with (go_at_call 34; ((with_reducible refine (CL.out _).mono ?_); rintro e w' ⟨rfl, rfl⟩))
  exact bodyPost_ret (v := .agg #[.string ⟨#[]⟩, .bool false, .int .i64 0, .bool false]) (by simp [results, Try.results24, go_sem]) rfl ⟨rfl, nest_below w [_, _]⟩
theorem ftick_nil (w : World) : Calls Try.prog 20 #[.pointer none] w fun e w' => e = .returned (.agg #[.string ⟨#[]⟩, .bool false, .int .i64 0, .bool false]) ∧ Below w.heap.size w w' := by
  have CL := Lib.hid fun w => flives_nil w
  go_enter Try.func20, Try.ntmps20
  go_wp2_with (go_at_call 34; ((with_reducible refine (CL.out _).mono ?_); rintro e w' ⟨rfl, rfl⟩))
  exact bodyPost_ret (v := .agg #[.string ⟨#[]⟩, .bool false, .int .i64 0, .bool false]) (by simp [results, Try.results20, go_sem]) rfl ⟨rfl, nest_below w [_]⟩
theorem eltCC : Elt 27 22 8 cc :=
  ⟨Try.underlying22, ⟨.agg #[.int .u8 0, .int .u8 0, .bool false, .int .u8 0, .bool false, .int .u8 0, .int .u8 0, .string ⟨#[]⟩], 32, by kernel_rfl, rfl, by decide⟩, fun _ => rfl, fun x u hu => by
    simp only [cc, List.mem_cons, List.not_mem_nil, or_false] at hu
    rcases hu with rfl | rfl | rfl | rfl | rfl | rfl | rfl | rfl <;> rfl, by decide⟩
theorem eltSC : Elt 49 38 3 sc :=
  ⟨Try.underlying38, ⟨.agg #[.int .u8 0, .bool false, .bool false], 3, by kernel_rfl, rfl, by decide⟩, fun _ => rfl, fun x u hu => by
    simp only [sc, List.mem_cons, List.not_mem_nil, or_false] at hu
    rcases hu with rfl | rfl | rfl <;> rfl, by decide⟩
def ctOf (i n : Nat) : Ct := ⟨xOf i n / 7, 0, ⟨decide (xOf i n % 2 = 0), 7 + xOf i n % 4, decide (xOf i n % 3 = 0), xOf i n % 8, if xOf i n % 5 < 3 then xOf i n / 64 % 2 else xOf i n / 3 % 8, ⟨#[105]⟩⟩⟩
def spN (i n : Nat) : Sp := ⟨xOf i n / 5 % 256, decide (xOf i n % 2 = 0), decide (xOf i n % 4 = 0)⟩
theorem xOf_lt (i n : Nat) : xOf i n < 997 := Nat.mod_lt _ (by decide)
theorem ct_fits (i n : Nat) : CFit (ctOf i n) := by
  have := xOf_lt i n
  refine ⟨?_, ?_, ?_, ?_⟩
  · show xOf i n / 7 < 256; omega
  · show xOf i n % 8 < 256; omega
  · show (if xOf i n % 5 < 3 then xOf i n / 64 % 2 else xOf i n / 3 % 8) < 256
    split <;> omega
  · show (1 : Nat) ≤ maxLen
    unfold maxLen; omega
theorem sp_fits (i n : Nat) : SpFit (spN i n) := Nat.mod_lt _ (by decide)
/-- The two slices of a round. -/
structure LS (w0 : World) (i n : Nat) (v u : Value) (w : World) : Prop where
  l : Qz 8 cc w w0.heap.size v ((List.range n).map (ctOf i))
  s : Qz 3 sc w w0.heap.size u ((List.range n).map (spN i))
  apart : ∀ g, v.ownBlock = some g → u.ownBlock ≠ some g
  below : Below w0.heap.size w0 w
section
variable {w0 w w' : World} {i n : Nat} {v u : Value}
theorem LS.on (h : LS w0 i n v u w) (hb : Below w.heap.size w w') : LS w0 i n v u w' := ⟨h.l.below hb, h.s.below hb, h.apart, below_on h.below hb⟩
theorem LS.start (hb : Below w0.heap.size w0 w) : LS w0 i 0 (.slice none 0 0) (.slice none 0 0) w := ⟨qz_nil _ _, qz_nil _ _, (fun g e => by cases e), hb⟩
/-- What was made by the call itself, as an argument. -/
theorem qz_arg {α : Type} {z : Nat} {fc : α → List Value} {P : α → Prop} {base : Nat} {f : Nat → α} (hz : ∀ k, k < n → P (f k)) (h : Qz z fc w base v ((List.range n).map f)) : ∃ o c, v = .slice o n c ∧ ArgS z fc P w o n f := by
  rcases h with ⟨rfl, h2⟩ | ⟨g, off, cap, rfl, _, hR⟩
  · obtain rfl : n = 0 := by simpa using h2
    exact ⟨none, 0, rfl, fun h => absurd h (by decide), fun k hk => absurd hk (by simp), fun a ha => by cases ha⟩
  · refine ⟨_, cap, by rw [List.length_map, List.length_range], fun _ => ⟨_, rfl, hR.lt⟩, hz, fun a ha k hk j hj => ?_⟩
    cases ha
    rw [add_off, add_off, Nat.add_assoc, Nat.mul_comm]
    exact hR.cell k (f k) (by simp [hk]) j hj
/-- One more of each. -/
theorem LS.push (h : LS w0 i n v u w) (hn : n < 24) (t1 t2 : TypeId) :
    ∃ v' w4 u' w6, (Builtin.append_ #[22, 22] t1 #[v, .slice (some ⟨w.heap.size, 0, none⟩) 1 1]).run Try.prog (w.alloc (.cells (cc (ctOf i n)).toArray 27 (0, 0))) = .ok v' w4 ∧
      (Builtin.append_ #[38, 38] t2 #[u, .slice (some ⟨w4.heap.size, 0, none⟩) 1 1]).run Try.prog (w4.alloc (.cells (sc (spN i n)).toArray 49 (0, 0))) = .ok u' w6 ∧ LS w0 i (n + 1) v' u' w6 := by
  have h3 := h.on (w' := w.alloc (.cells (cc (ctOf i n)).toArray 27 (0, 0))) (nest_below w [_])
  have hb3 : (w.alloc (.cells (cc (ctOf i n)).toArray 27 (0, 0))).heap[w.heap.size]? = some (.cells (cc (ctOf i n)).toArray 27 (0, 0)) := nest w [_] 0 _ rfl
  have hs3 := srcz_at eltCC _ w.heap.size 0 1 1 [ctOf i n] rfl (fun j x hj k hk => by
    have hlt := (List.getElem?_eq_some_iff.1 hj).1
    simp only [List.length_cons, List.length_nil] at hlt
    obtain rfl : j = 0 := by omega
    have hx := Option.some.inj hj
    subst hx
    rw [Nat.zero_add, Nat.mul_zero, Nat.zero_add]
    have hk2 : k < (cc (ctOf i n)).length := hk
    rw [cell_of hb3 (v := (cc (ctOf i n))[k]) (by rw [List.getElem?_toArray, List.getElem?_eq_getElem hk2]), List.getElem?_eq_getElem hk2])
  generalize w.alloc (.cells (cc (ctOf i n)).toArray 27 (0, 0)) = w3 at h3 hb3 hs3 ⊢
  obtain ⟨v', w4, hr1, hq1, hg1, ho1⟩ := run_append_q eltCC w3 t1 w0.heap.size v _ h3.l _ 1 [ctOf i n] rfl hs3 (by decide) (by rw [List.length_map, List.length_range]; omega) h3.below.size
  have hsz4 := hg1.size
  have hu4 : Qz 3 sc w4 w0.heap.size u ((List.range n).map (spN i)) := h3.s.eqv fun g hg => hg1.block g (h3.s.lt g hg).2 (fun e => h3.apart g e.symm hg)
  have hlow : ∀ k, v.ownBlock = some k → w0.heap.size ≤ k := fun k hk => (h3.l.lt k hk).1
  have hap4 : ∀ g, v'.ownBlock = some g → u.ownBlock ≠ some g := fun g hg e => by
    rcases ho1 with e1 | e1
    · exact h3.apart g (e1 ▸ hg) e
    · rw [e1] at hg
      have := (h3.s.lt g e).2
      have : w3.heap.size = g := Option.some.inj hg
      omega
  have hbel4 : Below w0.heap.size w0 w4 := (Chg.of_grown (S := fun k => v.ownBlock = some k) hg1 (fun k e => e)).below h3.below h3.below.size hlow
  have hb5 : (w4.alloc (.cells (sc (spN i n)).toArray 49 (0, 0))).heap[w4.heap.size]? = some (.cells (sc (spN i n)).toArray 49 (0, 0)) := nest w4 [_] 0 _ rfl
  have hbb : Below w4.heap.size w4 (w4.alloc (.cells (sc (spN i n)).toArray 49 (0, 0))) := nest_below w4 [_]
  have hs5 := srcz_at eltSC _ w4.heap.size 0 1 1 [spN i n] rfl (fun j x hj k hk => by
    have hlt := (List.getElem?_eq_some_iff.1 hj).1
    simp only [List.length_cons, List.length_nil] at hlt
    obtain rfl : j = 0 := by omega
    have hx := Option.some.inj hj
    subst hx
    rw [Nat.zero_add, Nat.mul_zero, Nat.zero_add]
    have hk2 : k < (sc (spN i n)).length := hk
    rw [cell_of hb5 (v := (sc (spN i n))[k]) (by rw [List.getElem?_toArray, List.getElem?_eq_getElem hk2]), List.getElem?_eq_getElem hk2])
  generalize hw5 : w4.alloc (.cells (sc (spN i n)).toArray 49 (0, 0)) = w5 at hb5 hbb hs5
  obtain ⟨u', w6, hr2, hq2, hg2, ho2⟩ := run_append_q eltSC w5 t2 w0.heap.size u _ (hu4.below hbb) _ 1 [spN i n] rfl hs5 (by decide) (by rw [List.length_map, List.length_range]; omega) (below_on hbel4 hbb).size
  refine ⟨v', w4, u', w6, hr1, (by rw [hw5]; exact hr2), ⟨?_, ?_, fun g hg e => ?_, (Chg.of_grown (S := fun k => u.ownBlock = some k) hg2 (fun k e => e)).below (below_on hbel4 hbb) (below_on hbel4 hbb).size (fun k hk => (hu4.lt k hk).1)⟩⟩
  · rw [List.range_succ, List.map_append]
    exact (hq1.below hbb).eqv fun g hg => hg2.block g (((hq1.below hbb).lt g hg).2) (fun e => hap4 g hg e.symm)
  · rw [List.range_succ, List.map_append]
    exact hq2
  · rcases ho2 with e1 | e1
    · exact hap4 g hg (e1 ▸ e)
    · rw [e1] at e
      have := (hq1.lt g hg).2
      have h6 := hbb.size
      have : w5.heap.size = g := Option.some.inj e
      omega
end
end Go.Proofs.Ytkoaplmlabagnaa.Aq

/-
  What the library's Repeat answers of one byte: that byte as many times, in new memory. Condition: at most 255 times.
-/
import Derived.Test.YtllojgmlngfibaaLnApp
import Derived.Lib.MakeNoZero
import Derived.Lib.MinMax
import Derived.Laws.Externs
import Derived.Lib.Walk
import Derived.WalkKit
namespace Go.Proofs.Ytllojgmlngfibaa.Ln
open Go.RowKit Go.Proofs.Ytllojgmlngfibaa.Base Go.Proofs.Ytllojgmlngfibaa.Mem
theorem mask1 : bits .and .u64 1 4294967295 = 1 := by decide +kernel
theorem mask0 : bits .and .u64 0 4294967295 = 0 := by decide +kernel
theorem maskc (c : Nat) (h : c < 256) : bits .and .u64 (c : Int) 4294967295 = (c : Int) := by
  have : ∀ j : Fin 256, bits .and .u64 (j.val : Int) 4294967295 = (j.val : Int) := by decide +kernel
  exact this ⟨c, h⟩
set_option maxHeartbeats 1000000 in
theorem fmul64 (c : Nat) (hc : c < 256) (w : World) :
    Calls Try.prog 32 #[.int .u64 1, .int .u64 (c : Int)] w fun e w' => e = .returned (.tuple #[.int .u64 0, .int .u64 (c : Int)]) ∧ w' = w := by
  have m1 := mask1
  have m0 := mask0
  have mc := maskc c hc
  have d1 : (c : Int) / 4294967296 = 0 := by omega
  have wc : IntKind.u64.wrap (c : Int) = (c : Int) := by rw [IntKind.wrap_u64]; omega
  go_enter Try.func32, Try.ntmps32
  go_wp2
  go_ret2
  exact ⟨rfl, rfl⟩
set_option maxHeartbeats 1000000 in
theorem fmul (c : Nat) (hc : c < 256) (w : World) :
    Calls Try.prog 28 #[.int .u64 1, .int .u64 (c : Int)] w fun e w' => e = .returned (.tuple #[.int .u64 0, .int .u64 (c : Int)]) ∧ w' = w := by
  have c64 := fmul64 c hc w
  go_enter Try.func28, Try.ntmps28
  go_wp2_with (go_at_call 32; refine c64.mono ?_; rintro e w' ⟨rfl, rfl⟩)
  go_ret2
  exact ⟨rfl, rfl⟩
theorem sc_obj {b c : Nat} {t : TypeId} : ∀ (vs : List Value) (o : Nat) (w : World), (∃ cs, w.heap[b]? = some (.cells cs t) ∧ c ≤ cs.size) → ∃ cs, (w.setCells b o vs).heap[b]? = some (.cells cs t) ∧ c ≤ cs.size
  | [], _, _, h => h
  | v :: r, o, w, h => by
    obtain ⟨cs, h1, h2⟩ := h
    exact sc_obj r (o + 1) _ ⟨_, block_set h1 v, by simpa using h2⟩
/-- The first k of c places of the row b1 hold the byte x. -/
structure Rep (w : World) (b1 c x k : Nat) (w' : World) : Prop where
  obj : ∃ cs, w'.heap[b1]? = some (.cells cs 5) ∧ c ≤ cs.size
  cell : ∀ i, i < k → w'.cell? ⟨b1, i, none⟩ = some (.int .u8 (x : Int))
  below : Below w.heap.size w w'
theorem Rep.has {w w' : World} {b1 c x k : Nat} (h : Rep w b1 c x k w') (i : Nat) (hi : i < c) : (w'.cell? ⟨b1, i, none⟩).isSome = true := by
  obtain ⟨cs, h1, h2⟩ := h.obj
  rw [cell_of h1 (v := cs[i]'(by omega)) (Array.getElem?_eq_getElem _)]; rfl
theorem Rep.free {w w' : World} {b1 c x k : Nat} (h : Rep w b1 c x k w') (i : Nat) : w'.frozen? ⟨b1, i, none⟩ = false := by
  obtain ⟨cs, h1, _⟩ := h.obj
  exact free_of h1
theorem Rep.more {w w' : World} {b1 c x k : Nat} (h : Rep w b1 c x k w') (hb : w.heap.size ≤ b1) (q : Nat) (hq : k + q ≤ c) : Rep w b1 c x (k + q) (w'.setCells b1 k (List.replicate q (.int .u8 (x : Int)))) := by
  refine ⟨sc_obj _ _ _ h.obj, fun i hi => ?_, sc_below b1 hb _ _ _ h.below⟩
  by_cases hk : i < k
  · rw [World.cell?_setCells_out b1 _ _ _ ⟨b1, i, none⟩ (fun _ _ => Or.inl hk)]
    exact h.cell i hk
  · have := World.cell?_setCells_in b1 (List.replicate q (Value.int .u8 (x : Int))) k w' (fun j hj => by rw [List.length_replicate] at hj; exact h.has _ (by omega)) (i - k) (by rw [List.length_replicate]; omega)
    rw [show k + (i - k) = i by omega] at this
    rw [this, List.getElem_replicate]
theorem oneR (q : Nat) (x : Int) : ∀ v ∈ List.replicate q (Value.int .u8 x), v.oneCell' = true := fun v hv => by rw [List.eq_of_mem_replicate hv]; rfl
theorem szU : (Try.prog.info? 5).map (·.size) = some 1 := by
  obtain ⟨i, hi, _, h1, _⟩ := info_parts infoB
  rw [hi]; simp [h1]
/-- What Repeat leaves. -/
def RepEnds (w : World) (c x : Nat) : Ending → World → Prop := fun e w' => ∃ ub cs, e = .returned (.slice (some ⟨ub, 0, none⟩) c c) ∧ w.heap.size ≤ ub ∧ w'.heap[ub]? = some (.cells cs 5) ∧ (∀ i, i < c → cs[i]? = some (.int .u8 (x : Int))) ∧ Below w.heap.size w w'
theorem Rep.ends {w w' : World} {b1 c x : Nat} (h : Rep w b1 c x c w') (hb : w.heap.size ≤ b1) : RepEnds w c x (.returned (.slice (some ⟨b1, 0, none⟩) c c)) w' := by
  obtain ⟨cs, h1, h2⟩ := h.obj
  refine ⟨b1, cs, rfl, hb, h1, fun i hi => ?_, h.below⟩
  have := h.cell i hi
  unfold World.cell? at this
  rw [h1] at this
  exact this
set_option maxHeartbeats 2000000 in
set_option maxRecDepth 100000 in
theorem frepeat (c x xb : Nat) (hc : c < 256) (w : World) (hx : w.cell? ⟨xb, 0, none⟩ = some (.int .u8 (x : Int))) :
    Calls Try.prog 25 #[.slice (some ⟨xb, 0, none⟩) 1 1, .int .i64 (c : Int)] w (RepEnds w c x) := by
  have hxw := World.block_lt_of_cell? w _ hx
  by_cases h0 : c = 0
  · subst h0
    clear hxw hx
    go_enter Try.func25, Try.ntmps25
    go_wp2
    go_ret
    exact ⟨w.heap.size, #[], rfl, Nat.le_refl _, nest w [.cells #[] 5] 0 _ rfl, fun i hi => by omega, (Below.refl _ _).alloc (Nat.le_refl _) _⟩
  · have hc0 : ¬ (c : Int) = 0 := by omega
    have hc1 : ((c : Int) == 0) = false := by rw [beq_eq_false_iff_ne]; exact hc0
    have hcm := fmul c hc w
    have wc : IntKind.u64.wrap (c : Int) = (c : Int) := by rw [IntKind.wrap_u64]; omega
    have wi : IntKind.i64.wrap (c : Int) = (c : Int) := by rw [IntKind.wrap_i64]; omega
    obtain ⟨cs, hmk, hcs, hcs2⟩ := Lib.run_makeNoZero (P := Try.prog) w #[3] 43 5 Try.underlying43 c (by omega)
    obtain ⟨N, hN⟩ : ∃ N, cs.size = N := ⟨_, rfl⟩
    have hN63 : N ≤ 9223372036854775807 := by have := hcs2 (by unfold maxLen; omega); unfold maxLen at this; omega
    rw [hN] at hmk hcs
    obtain ⟨b1, hb1⟩ : ∃ b1, b1 = w.heap.size := ⟨_, rfl⟩
    obtain ⟨W1, hW1⟩ : ∃ W1, W1 = w.drew.drew.alloc (.cells cs 5) := ⟨_, rfl⟩
    rw [← hb1, ← hW1] at hmk
    have hcall : (callFunc 29 #[.int .i64 (c : Int)]).run Try.prog w = .ok (.value (.slice (some ⟨b1, 0, none⟩) c N)) W1 := by
      rw [run_callFunc_extern Try.func29 (by kernel_rfl) (by kernel_rfl) (by kernel_rfl) (e := Extern.BytealgMakeNoZero.makeNoZero #[3] #[43]) (by kernel_rfl), hmk]
      rfl
    have hobj : ∃ cs, W1.heap[b1]? = some (.cells cs 5) ∧ c ≤ cs.size := ⟨cs, by rw [hW1, hb1]; exact nest w.drew.drew [.cells cs 5] 0 _ rfl, by omega⟩
    have hB1 : Below w.heap.size w W1 := by rw [hW1]; exact (((Below.refl _ _).drew).drew).alloc (Nat.le_refl _) _
    have R0 : Rep w b1 c x 0 W1 := ⟨hobj, fun i hi => by omega, hB1⟩
    have hbb : w.heap.size ≤ b1 := by omega
    obtain ⟨W2, hW2⟩ : ∃ W2, W2 = W1.setCells b1 0 (List.replicate 1 (.int .u8 (x : Int))) := ⟨_, rfl⟩
    have R1 : Hid (Rep w b1 c x 1 W2) := by
      have := R0.more hbb 1 (by omega)
      rw [Nat.zero_add, ← hW2] at this
      exact this
    have hcp1 : ∀ ty, (Builtin.copy_ #[43, 43] ty #[.slice (some ⟨b1, 0, none⟩) c c, .slice (some ⟨xb, 0, none⟩) 1 1]).run Try.prog W1 = .ok (.int .i64 1) W2 := fun ty => by
      rw [hW2]
      exact run_copy_cells W1 _ _ ty 5 b1 0 c c ⟨xb, 0, none⟩ 1 1 (List.replicate 1 (.int .u8 (x : Int))) Try.underlying43 szU (by show 1 = Nat.min 1 c; simp only [Nat.min_def]; split <;> omega)
        (fun j v hj => by
          have hlt := (List.getElem?_eq_some_iff.1 hj).1
          rw [List.length_replicate] at hlt
          obtain rfl : j = 0 := by omega
          obtain rfl : v = _ := (Option.some.inj hj).symm
          rw [add_off, Nat.zero_add]
          exact (hB1.cell (p := ⟨xb, 0, none⟩) hxw).trans hx)
        (fun j hj => by rw [List.length_replicate] at hj; exact R0.has _ (by omega)) (fun j hj => R0.free _) (oneR _ _)
    have cp9 : decide ((c : Int) < 0) = false := decide_eq_false (by omega)
    have hcN : c ≤ N := by omega
    have g8 : ¬ (8192 : Int) < (c : Int) := by omega
    have g9 : ¬ (9223372036854775807 : Int) < (c : Int) := by omega
    clear hmk hobj hB1 R0 hW1 hW2 hx hxw hcs hcs2 hN hb1
    go_enter Try.func25, Try.ntmps25
    go_wp2_with (first
      | (go_at_call 28; refine hcm.mono ?_; rintro e w' ⟨rfl, hw⟩; rw [hw]; clear hw)
      | (at_builtin; refine wpList_copy_known _ rfl _ _ 43 43 rfl rfl rfl (hcp1 _) ?_))
    clear hcm hcall hcp1
    go_loopw [10, 11] (fun p _ wr => ∃ k : Nat, 1 ≤ k ∧ k ≤ c ∧ p = .int .i64 (k : Int) ∧ Hid (Rep w b1 c x k wr)) (fun p _ _ => c - (intOf p).toNat)
    case atStart => exact ⟨1, Nat.le_refl _, by omega, rfl, R1⟩
    case round =>
      clear R1
      obtain ⟨k, hk1, hk2, rfl, HR⟩ := hrel
      by_cases hlt : k < c
      · have t1 : (k : Int) < (c : Int) := by omega
        have t2 : decide ((k : Int) < (c : Int)) = true := decide_eq_true t1
        obtain ⟨q, hq⟩ : ∃ q, q = Nat.min k (c - k) := ⟨_, rfl⟩
        have hqk : q ≤ k ∧ q ≤ c - k ∧ 0 < q := by rw [hq]; simp only [Nat.min_def]; split <;> omega
        obtain ⟨W3, hW3⟩ : ∃ W3, W3 = wr.drew.setCells b1 k (List.replicate q (.int .u8 (x : Int))) := ⟨_, rfl⟩
        have hd : Rep w b1 c x k wr.drew := ⟨HR.out.obj, HR.out.cell, HR.out.below.drew⟩
        have R3 : Hid (Rep w b1 c x (k + q) W3) := by
          show Rep w b1 c x (k + q) W3
          rw [hW3]; exact hd.more hbb q (by omega)
        have hcp : ∀ ty dc sc, (Builtin.copy_ #[43, 43] ty #[.slice (some ⟨b1, k, none⟩) (c - k) dc, .slice (some ⟨b1, 0, none⟩) k sc]).run Try.prog wr.drew = .ok (.int .i64 (q : Int)) W3 := fun ty dc sc => by
          rw [hW3]
          have := run_copy_cells (P := Try.prog) wr.drew 43 43 ty 5 b1 k (c - k) dc ⟨b1, 0, none⟩ k sc (List.replicate q (.int .u8 (x : Int))) Try.underlying43 szU (by rw [List.length_replicate]; exact hq)
            (fun j v hj => by
              have hl := (List.getElem?_eq_some_iff.1 hj).1
              rw [List.length_replicate] at hl
              rw [List.getElem?_replicate, if_pos hl] at hj
              obtain rfl : v = _ := (Option.some.inj hj).symm
              rw [add_off, Nat.zero_add]
              exact HR.out.cell j (by omega))
            (fun j hj => by rw [List.length_replicate] at hj; exact hd.has _ (by omega)) (fun j hj => hd.free _) (oneR _ _)
          rw [List.length_replicate] at this
          exact this
        have wk : IntKind.i64.wrap ((k : Int) + (q : Int)) = (k : Int) + (q : Int) := by rw [IntKind.wrap_i64]; omega
        have hmin : min (k : Int) (c : Int) = (k : Int) := by omega
        have hkc : ¬ c = k := by omega
        have hkc2 : ¬ N = k := by omega
        have hcl : ¬ (c : Int) < (k : Int) := by omega
        have hq0 := hqk.2.2
        have hqc := hqk.2.1
        clear hW3 hd hq hqk HR
        go_wp2
        go_region_law (refine step_copy_known rfl _ _ 43 43 rfl (by simp [Act.eval, Act.put]; rfl) (by simp [Act.eval, Act.put]; rfl) (hcp _ _ _) ?_)
        simp only [List.getElem_toArray, List.getElem_cons_succ, List.getElem_cons_zero, Act.put, List.setIfInBounds_toArray, List.set_cons_zero, List.set_cons_succ]
        go_wp2
        go_roundw
        case rel => exact ⟨k + q, by omega, by omega, by go_num, R3⟩
        case measure => simp [intOf]; omega
      · obtain rfl : k = c := by omega
        have t1 : ¬ (k : Int) < (k : Int) := by omega
        go_wp2
        go_ret
        exact HR.out.ends hbb
end Go.Proofs.Ytllojgmlngfibaa.Ln

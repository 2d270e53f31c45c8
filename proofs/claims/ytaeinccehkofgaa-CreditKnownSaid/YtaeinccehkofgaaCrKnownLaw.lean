/-
  CreditKnown answers true, and turns nothing that was there. No condition.
-/
import Derived.Test.YtaeinccehkofgaaCrNoneLaw
import Derived.Test.YtaeinccehkofgaaCrWholeLaw
namespace Go.Proofs.Ytaeinccehkofgaa.creditKnown
open Go.RowKit Go.Proofs.Ytaeinccehkofgaa.Base Go.Proofs.Ytaeinccehkofgaa.Mem Go.Proofs.Ytaeinccehkofgaa.Cr
abbrev nums : Array Value := #[im (-9223372036854775808), im (-1), im 0, im 1, im 2, im 4095, im 4096, im 4097, im 9223372036854775807]
theorem nums_at (j : Nat) (hj : j < 9) : ∃ z : Int, nums[j]? = some (im z) := by
  match j, hj with
  | 0, _ => exact ⟨_, rfl⟩
  | 1, _ => exact ⟨_, rfl⟩
  | 2, _ => exact ⟨_, rfl⟩
  | 3, _ => exact ⟨_, rfl⟩
  | 4, _ => exact ⟨_, rfl⟩
  | 5, _ => exact ⟨_, rfl⟩
  | 6, _ => exact ⟨_, rfl⟩
  | 7, _ => exact ⟨_, rfl⟩
  | 8, _ => exact ⟨_, rfl⟩
/-- The numbers lie in a block made since w0. -/
structure Ns (w0 : World) (gb : Nat) (w : World) : Prop where
  blk : w.heap[gb]? = some (.cells nums 3)
  lo : w0.heap.size ≤ gb
  below : Below w0.heap.size w0 w
theorem Ns.on {w0 w w' : World} {gb : Nat} (h : Ns w0 gb w) (hB : Below w.heap.size w w') : Ns w0 gb w' := ⟨stays h.blk hB, h.lo, below_on h.below hB⟩
/-- A slice of nine calls that the call made, as an argument. -/
def nine (l : List Ct) (k : Nat) : Ct := l.getD k ⟨0, 0⟩
theorem arg9 {w : World} {b : Nat} {T : TypeId} (c0 c1 c2 c3 c4 c5 c6 c7 c8 : Ct) (h : w.heap[b]? = some (.cells #[im c0.k, im c0.n, im c1.k, im c1.n, im c2.k, im c2.n, im c3.k, im c3.n, im c4.k, im c4.n, im c5.k, im c5.n, im c6.k, im c6.n, im c7.k, im c7.n, im c8.k, im c8.n] T)) :
    ArgS 2 cc CFit w (some ⟨b, 0, none⟩) 9 (nine [c0, c1, c2, c3, c4, c5, c6, c7, c8]) := by
  refine ⟨fun _ => ⟨_, rfl, lt_heap h⟩, fun _ _ => trivial, fun a ha k hk j hj => ?_⟩
  rw [Option.some.injEq] at ha
  subst ha
  have h1 : ((⟨b, 0, none⟩ : Addr).add (k * 2)).add j = ⟨b, k * 2 + j, none⟩ := by
    rw [add_at, add_off]
  rw [h1]
  match k, hk with
  | 0, _ => match j, hj with
    | 0, _ => exact cell_of (i := 0) h rfl
    | 1, _ => exact cell_of (i := 1) h rfl
  | 1, _ => match j, hj with
    | 0, _ => exact cell_of (i := 2) h rfl
    | 1, _ => exact cell_of (i := 3) h rfl
  | 2, _ => match j, hj with
    | 0, _ => exact cell_of (i := 4) h rfl
    | 1, _ => exact cell_of (i := 5) h rfl
  | 3, _ => match j, hj with
    | 0, _ => exact cell_of (i := 6) h rfl
    | 1, _ => exact cell_of (i := 7) h rfl
  | 4, _ => match j, hj with
    | 0, _ => exact cell_of (i := 8) h rfl
    | 1, _ => exact cell_of (i := 9) h rfl
  | 5, _ => match j, hj with
    | 0, _ => exact cell_of (i := 10) h rfl
    | 1, _ => exact cell_of (i := 11) h rfl
  | 6, _ => match j, hj with
    | 0, _ => exact cell_of (i := 12) h rfl
    | 1, _ => exact cell_of (i := 13) h rfl
  | 7, _ => match j, hj with
    | 0, _ => exact cell_of (i := 14) h rfl
    | 1, _ => exact cell_of (i := 15) h rfl
  | 8, _ => match j, hj with
    | 0, _ => exact cell_of (i := 16) h rfl
    | 1, _ => exact cell_of (i := 17) h rfl
set_option maxHeartbeats 16000000 in
set_option maxRecDepth 100000 in
theorem law (w : World) : Calls Try.prog 6 #[] w fun e w' => e = .returned (.bool true) ∧ Below w.heap.size w w' := by
  go_enter Try.func6, Try.ntmps6
  go_wp2_with fail
  have HG : Hid (Ns w w.heap.size (w.alloc (.cells nums 3))) := Lib.hid ⟨nest w [_] 0 _ rfl, Nat.le_refl _, nest_below w [_]⟩
  generalize w.heap.size = gb at HG ⊢
  generalize w.alloc (.cells nums 3) = w1 at HG ⊢
  go_loopg [2] 9 (fun gm s wr => ∃ i : Nat, s = nm i ∧ 9 - i ≤ gm ∧ i ≤ 9 ∧ Hid (Ns w gb wr))
  case atStart => exact ⟨0, rfl, by omega, by omega, HG⟩
  case round =>
    clear HG
    obtain ⟨i, rfl, hgi, hi9, HG⟩ := hrel
    by_cases hi : i < 9
    · have t1 : decide ((i : Int) < 9) = true := decide_eq_true (by omega)
      have t1b : (i : Int) < 9 := by omega
      have i0 : (0 : Int) ≤ (i : Int) := by omega
      have vi := wrap_nat (i + 1) (by omega)
      obtain ⟨zi, hzi⟩ := nums_at i hi
      have HZI := Lib.hid hzi
      clear hzi
      go_wp2_with fail
      go_loopg [3] 9 (fun gm s wr => ∃ k : Nat, s = nm k ∧ 9 - k ≤ gm ∧ k ≤ 9 ∧ Hid (Ns w gb wr))
      case atStart => exact ⟨0, rfl, by omega, by omega, HG⟩
      case round =>
        clear HG
        obtain ⟨k, rfl, hgk, hk9, HG⟩ := hrel
        by_cases hk : k < 9
        · have t2 : decide ((k : Int) < 9) = true := decide_eq_true (by omega)
          have t2b : (k : Int) < 9 := by omega
          have k0 : (0 : Int) ≤ (k : Int) := by omega
          have vk := wrap_nat (k + 1) (by omega)
          obtain ⟨zk, hzk⟩ := nums_at k hk
          have HZK := Lib.hid hzk
          clear hzk
          go_wp2_with fail
          go_loopg [4] 9 (fun gm s wr => ∃ m : Nat, s = nm m ∧ 9 - m ≤ gm ∧ m ≤ 9 ∧ Hid (Ns w gb wr))
          case atStart => exact ⟨0, rfl, by omega, by omega, HG⟩
          case round =>
            clear HG
            obtain ⟨m, rfl, hgm, hm9, HG⟩ := hrel
            by_cases hm : m < 9
            · have t3 : decide ((m : Int) < 9) = true := decide_eq_true (by omega)
              have t3b : (m : Int) < 9 := by omega
              have m0 : (0 : Int) ≤ (m : Int) := by omega
              have vm := wrap_nat (m + 1) (by omega)
              obtain ⟨zm, hzm⟩ := nums_at m hm
              have HZM := Lib.hid hzm
              clear hzm
              go_wp2_with fail
              refine wp_region_held_drew (S := (fun w' => w'.heap[gb]? = some (.cells nums 3))) (by kernel_rfl) HG.out.blk (fun hHeld => ?_)
              refine' wpAnyH_take (i := 0) (oi := { dst := some 25, op := Go.Op.move (Go.Operand.tmp 1), type := 45, pos := "law.go:100", after := #[], guard := none }) (v := _) rfl (by kernel_rfl) (by kernel_rfl) (by kernel_rfl) (fun _ _ _ h => h) (Or.inl ⟨by rfl, ?hy1⟩) (by assumption) ?hr1
              case hy1 => (intro _ hSw; (try dsimp only at hSw); go_simp <;> with_reducible rfl)
              simp only [Act.put, List.setIfInBounds_toArray, List.set_cons_zero, List.set_cons_succ]
              refine' wpAnyH_take (i := 1) (oi := { dst := some 26, op := Go.Op.move (Go.Operand.tmp 3), type := 3, pos := "law.go:100", after := #[], guard := none }) (v := _) rfl (by kernel_rfl) (by kernel_rfl) (by kernel_rfl) (fun _ _ _ h => h) (Or.inl ⟨by rfl, ?hy2⟩) (by assumption) ?hr2
              case hy2 => (intro _ hSw; (try dsimp only at hSw); go_simp <;> with_reducible rfl)
              simp only [Act.put, List.setIfInBounds_toArray, List.set_cons_zero, List.set_cons_succ]
              refine' wpAnyH_take (i := 2) (oi := { dst := some 27, op := Go.Op.indexAddr 45 (Go.Operand.tmp 25) (Go.Operand.tmp 26), type := 0, pos := "law.go:100", after := #[{ on := 0, ground := Go.Ground.data }, { on := 1, ground := Go.Ground.data }], guard := none }) (v := _) rfl (by kernel_rfl) (by kernel_rfl) (by kernel_rfl) (fun _ _ _ h => h) (Or.inl ⟨by rfl, ?hy3⟩) (by assumption) ?hr3
              case hy3 => (intro _ hSw; (try dsimp only at hSw); go_simp <;> with_reducible rfl)
              simp only [Act.put, List.setIfInBounds_toArray, List.set_cons_zero, List.set_cons_succ]
              refine' wpAnyH_take (i := 3) (oi := { dst := some 28, op := Go.Op.load 3 (Go.Operand.tmp 27), type := 3, pos := "law.go:100", after := #[{ on := 2, ground := Go.Ground.data }], guard := none }) (v := _) rfl (by kernel_rfl) (by kernel_rfl) (by kernel_rfl) (fun _ _ _ h => h) (Or.inl ⟨by rfl, ?hy4⟩) (by assumption) ?hr4
              case hy4 => (intro _ hSw; (try dsimp only at hSw); have hc := cell_of hSw HZK.out; go_simp <;> with_reducible rfl)
              simp only [Act.put, List.setIfInBounds_toArray, List.set_cons_zero, List.set_cons_succ]
              refine' wpAnyH_take (i := 4) (oi := { dst := some 29, op := Go.Op.build 33 #[(0, Go.Operand.const (Go.Value.int Go.IntKind.i64 0)), (1, Go.Operand.tmp 28)], type := 33, pos := "law.go:100", after := #[{ on := 3, ground := Go.Ground.data }], guard := none }) (v := _) rfl (by kernel_rfl) (by kernel_rfl) (by kernel_rfl) (fun _ _ _ h => h) (Or.inl ⟨by rfl, ?hy5⟩) (by assumption) ?hr5
              case hy5 => (intro _ hSw; (try dsimp only at hSw); go_simp <;> with_reducible rfl)
              simp only [Act.put, List.setIfInBounds_toArray, List.set_cons_zero, List.set_cons_succ]
              refine' wpAnyH_take (i := 5) (oi := { dst := some 30, op := Go.Op.move (Go.Operand.tmp 1), type := 45, pos := "law.go:100", after := #[], guard := none }) (v := _) rfl (by kernel_rfl) (by kernel_rfl) (by kernel_rfl) (fun _ _ _ h => h) (Or.inl ⟨by rfl, ?hy6⟩) (by assumption) ?hr6
              case hy6 => (intro _ hSw; (try dsimp only at hSw); go_simp <;> with_reducible rfl)
              simp only [Act.put, List.setIfInBounds_toArray, List.set_cons_zero, List.set_cons_succ]
              refine' wpAnyH_take (i := 6) (oi := { dst := some 31, op := Go.Op.move (Go.Operand.tmp 4), type := 3, pos := "law.go:100", after := #[], guard := none }) (v := _) rfl (by kernel_rfl) (by kernel_rfl) (by kernel_rfl) (fun _ _ _ h => h) (Or.inl ⟨by rfl, ?hy7⟩) (by assumption) ?hr7
              case hy7 => (intro _ hSw; (try dsimp only at hSw); go_simp <;> with_reducible rfl)
              simp only [Act.put, List.setIfInBounds_toArray, List.set_cons_zero, List.set_cons_succ]
              refine' wpAnyH_take (i := 7) (oi := { dst := some 32, op := Go.Op.indexAddr 45 (Go.Operand.tmp 30) (Go.Operand.tmp 31), type := 0, pos := "law.go:100", after := #[{ on := 5, ground := Go.Ground.data }, { on := 6, ground := Go.Ground.data }], guard := none }) (v := _) rfl (by kernel_rfl) (by kernel_rfl) (by kernel_rfl) (fun _ _ _ h => h) (Or.inl ⟨by rfl, ?hy8⟩) (by assumption) ?hr8
              case hy8 => (intro _ hSw; (try dsimp only at hSw); go_simp <;> with_reducible rfl)
              simp only [Act.put, List.setIfInBounds_toArray, List.set_cons_zero, List.set_cons_succ]
              refine' wpAnyH_take (i := 8) (oi := { dst := some 33, op := Go.Op.load 3 (Go.Operand.tmp 32), type := 3, pos := "law.go:100", after := #[{ on := 7, ground := Go.Ground.data }], guard := none }) (v := _) rfl (by kernel_rfl) (by kernel_rfl) (by kernel_rfl) (fun _ _ _ h => h) (Or.inl ⟨by rfl, ?hy9⟩) (by assumption) ?hr9
              case hy9 => (intro _ hSw; (try dsimp only at hSw); have hc := cell_of hSw HZM.out; go_simp <;> with_reducible rfl)
              simp only [Act.put, List.setIfInBounds_toArray, List.set_cons_zero, List.set_cons_succ]
              refine' wpAnyH_take (i := 9) (oi := { dst := some 34, op := Go.Op.build 33 #[(0, Go.Operand.const (Go.Value.int Go.IntKind.i64 2)), (1, Go.Operand.tmp 33)], type := 33, pos := "law.go:100", after := #[{ on := 8, ground := Go.Ground.data }], guard := none }) (v := _) rfl (by kernel_rfl) (by kernel_rfl) (by kernel_rfl) (fun _ _ _ h => h) (Or.inl ⟨by rfl, ?hy10⟩) (by assumption) ?hr10
              case hy10 => (intro _ hSw; (try dsimp only at hSw); go_simp <;> with_reducible rfl)
              simp only [Act.put, List.setIfInBounds_toArray, List.set_cons_zero, List.set_cons_succ]
              refine' wpAnyH_take (i := 10) (oi := { dst := some 35, op := Go.Op.move (Go.Operand.tmp 1), type := 45, pos := "law.go:100", after := #[], guard := none }) (v := _) rfl (by kernel_rfl) (by kernel_rfl) (by kernel_rfl) (fun _ _ _ h => h) (Or.inl ⟨by rfl, ?hy11⟩) (by assumption) ?hr11
              case hy11 => (intro _ hSw; (try dsimp only at hSw); go_simp <;> with_reducible rfl)
              simp only [Act.put, List.setIfInBounds_toArray, List.set_cons_zero, List.set_cons_succ]
              refine' wpAnyH_take (i := 11) (oi := { dst := some 36, op := Go.Op.move (Go.Operand.tmp 3), type := 3, pos := "law.go:100", after := #[], guard := none }) (v := _) rfl (by kernel_rfl) (by kernel_rfl) (by kernel_rfl) (fun _ _ _ h => h) (Or.inl ⟨by rfl, ?hy12⟩) (by assumption) ?hr12
              case hy12 => (intro _ hSw; (try dsimp only at hSw); go_simp <;> with_reducible rfl)
              simp only [Act.put, List.setIfInBounds_toArray, List.set_cons_zero, List.set_cons_succ]
              refine' wpAnyH_take (i := 12) (oi := { dst := some 37, op := Go.Op.indexAddr 45 (Go.Operand.tmp 35) (Go.Operand.tmp 36), type := 0, pos := "law.go:100", after := #[{ on := 10, ground := Go.Ground.data }, { on := 11, ground := Go.Ground.data }], guard := none }) (v := _) rfl (by kernel_rfl) (by kernel_rfl) (by kernel_rfl) (fun _ _ _ h => h) (Or.inl ⟨by rfl, ?hy13⟩) (by assumption) ?hr13
              case hy13 => (intro _ hSw; (try dsimp only at hSw); go_simp <;> with_reducible rfl)
              simp only [Act.put, List.setIfInBounds_toArray, List.set_cons_zero, List.set_cons_succ]
              refine' wpAnyH_take (i := 13) (oi := { dst := some 38, op := Go.Op.load 3 (Go.Operand.tmp 37), type := 3, pos := "law.go:100", after := #[{ on := 12, ground := Go.Ground.data }], guard := none }) (v := _) rfl (by kernel_rfl) (by kernel_rfl) (by kernel_rfl) (fun _ _ _ h => h) (Or.inl ⟨by rfl, ?hy14⟩) (by assumption) ?hr14
              case hy14 => (intro _ hSw; (try dsimp only at hSw); have hc := cell_of hSw HZK.out; go_simp <;> with_reducible rfl)
              simp only [Act.put, List.setIfInBounds_toArray, List.set_cons_zero, List.set_cons_succ]
              refine' wpAnyH_take (i := 14) (oi := { dst := some 39, op := Go.Op.build 33 #[(0, Go.Operand.const (Go.Value.int Go.IntKind.i64 3)), (1, Go.Operand.tmp 38)], type := 33, pos := "law.go:100", after := #[{ on := 13, ground := Go.Ground.data }], guard := none }) (v := _) rfl (by kernel_rfl) (by kernel_rfl) (by kernel_rfl) (fun _ _ _ h => h) (Or.inl ⟨by rfl, ?hy15⟩) (by assumption) ?hr15
              case hy15 => (intro _ hSw; (try dsimp only at hSw); go_simp <;> with_reducible rfl)
              simp only [Act.put, List.setIfInBounds_toArray, List.set_cons_zero, List.set_cons_succ]
              refine' wpAnyH_take (i := 15) (oi := { dst := some 40, op := Go.Op.move (Go.Operand.tmp 1), type := 45, pos := "law.go:100", after := #[], guard := none }) (v := _) rfl (by kernel_rfl) (by kernel_rfl) (by kernel_rfl) (fun _ _ _ h => h) (Or.inl ⟨by rfl, ?hy16⟩) (by assumption) ?hr16
              case hy16 => (intro _ hSw; (try dsimp only at hSw); go_simp <;> with_reducible rfl)
              simp only [Act.put, List.setIfInBounds_toArray, List.set_cons_zero, List.set_cons_succ]
              refine' wpAnyH_take (i := 16) (oi := { dst := some 41, op := Go.Op.move (Go.Operand.tmp 4), type := 3, pos := "law.go:100", after := #[], guard := none }) (v := _) rfl (by kernel_rfl) (by kernel_rfl) (by kernel_rfl) (fun _ _ _ h => h) (Or.inl ⟨by rfl, ?hy17⟩) (by assumption) ?hr17
              case hy17 => (intro _ hSw; (try dsimp only at hSw); go_simp <;> with_reducible rfl)
              simp only [Act.put, List.setIfInBounds_toArray, List.set_cons_zero, List.set_cons_succ]
              refine' wpAnyH_take (i := 17) (oi := { dst := some 42, op := Go.Op.indexAddr 45 (Go.Operand.tmp 40) (Go.Operand.tmp 41), type := 0, pos := "law.go:100", after := #[{ on := 15, ground := Go.Ground.data }, { on := 16, ground := Go.Ground.data }], guard := none }) (v := _) rfl (by kernel_rfl) (by kernel_rfl) (by kernel_rfl) (fun _ _ _ h => h) (Or.inl ⟨by rfl, ?hy18⟩) (by assumption) ?hr18
              case hy18 => (intro _ hSw; (try dsimp only at hSw); go_simp <;> with_reducible rfl)
              simp only [Act.put, List.setIfInBounds_toArray, List.set_cons_zero, List.set_cons_succ]
              refine' wpAnyH_take (i := 18) (oi := { dst := some 43, op := Go.Op.load 3 (Go.Operand.tmp 42), type := 3, pos := "law.go:100", after := #[{ on := 17, ground := Go.Ground.data }], guard := none }) (v := _) rfl (by kernel_rfl) (by kernel_rfl) (by kernel_rfl) (fun _ _ _ h => h) (Or.inl ⟨by rfl, ?hy19⟩) (by assumption) ?hr19
              case hy19 => (intro _ hSw; (try dsimp only at hSw); have hc := cell_of hSw HZM.out; go_simp <;> with_reducible rfl)
              simp only [Act.put, List.setIfInBounds_toArray, List.set_cons_zero, List.set_cons_succ]
              refine' wpAnyH_take (i := 19) (oi := { dst := some 44, op := Go.Op.build 33 #[(0, Go.Operand.const (Go.Value.int Go.IntKind.i64 1)), (1, Go.Operand.tmp 43)], type := 33, pos := "law.go:100", after := #[{ on := 18, ground := Go.Ground.data }], guard := none }) (v := _) rfl (by kernel_rfl) (by kernel_rfl) (by kernel_rfl) (fun _ _ _ h => h) (Or.inl ⟨by rfl, ?hy20⟩) (by assumption) ?hr20
              case hy20 => (intro _ hSw; (try dsimp only at hSw); go_simp <;> with_reducible rfl)
              simp only [Act.put, List.setIfInBounds_toArray, List.set_cons_zero, List.set_cons_succ]
              refine' wpAnyH_take (i := 20) (oi := { dst := some 45, op := Go.Op.build 33 #[(0, Go.Operand.const (Go.Value.int Go.IntKind.i64 4)), (1, Go.Operand.const (Go.Value.int Go.IntKind.i64 0))], type := 33, pos := "law.go:100", after := #[], guard := none }) (v := _) rfl (by kernel_rfl) (by kernel_rfl) (by kernel_rfl) (fun _ _ _ h => h) (Or.inl ⟨by rfl, ?hy21⟩) (by assumption) ?hr21
              case hy21 => (intro _ hSw; (try dsimp only at hSw); go_simp <;> with_reducible rfl)
              simp only [Act.put, List.setIfInBounds_toArray, List.set_cons_zero, List.set_cons_succ]
              refine' wpAnyH_take (i := 21) (oi := { dst := some 46, op := Go.Op.move (Go.Operand.tmp 1), type := 45, pos := "law.go:100", after := #[], guard := none }) (v := _) rfl (by kernel_rfl) (by kernel_rfl) (by kernel_rfl) (fun _ _ _ h => h) (Or.inl ⟨by rfl, ?hy22⟩) (by assumption) ?hr22
              case hy22 => (intro _ hSw; (try dsimp only at hSw); go_simp <;> with_reducible rfl)
              simp only [Act.put, List.setIfInBounds_toArray, List.set_cons_zero, List.set_cons_succ]
              refine' wpAnyH_take (i := 22) (oi := { dst := some 47, op := Go.Op.move (Go.Operand.tmp 3), type := 3, pos := "law.go:100", after := #[], guard := none }) (v := _) rfl (by kernel_rfl) (by kernel_rfl) (by kernel_rfl) (fun _ _ _ h => h) (Or.inl ⟨by rfl, ?hy23⟩) (by assumption) ?hr23
              case hy23 => (intro _ hSw; (try dsimp only at hSw); go_simp <;> with_reducible rfl)
              simp only [Act.put, List.setIfInBounds_toArray, List.set_cons_zero, List.set_cons_succ]
              refine' wpAnyH_take (i := 23) (oi := { dst := some 48, op := Go.Op.indexAddr 45 (Go.Operand.tmp 46) (Go.Operand.tmp 47), type := 0, pos := "law.go:100", after := #[{ on := 21, ground := Go.Ground.data }, { on := 22, ground := Go.Ground.data }], guard := none }) (v := _) rfl (by kernel_rfl) (by kernel_rfl) (by kernel_rfl) (fun _ _ _ h => h) (Or.inl ⟨by rfl, ?hy24⟩) (by assumption) ?hr24
              case hy24 => (intro _ hSw; (try dsimp only at hSw); go_simp <;> with_reducible rfl)
              simp only [Act.put, List.setIfInBounds_toArray, List.set_cons_zero, List.set_cons_succ]
              refine' wpAnyH_take (i := 24) (oi := { dst := some 49, op := Go.Op.load 3 (Go.Operand.tmp 48), type := 3, pos := "law.go:100", after := #[{ on := 23, ground := Go.Ground.data }], guard := none }) (v := _) rfl (by kernel_rfl) (by kernel_rfl) (by kernel_rfl) (fun _ _ _ h => h) (Or.inl ⟨by rfl, ?hy25⟩) (by assumption) ?hr25
              case hy25 => (intro _ hSw; (try dsimp only at hSw); have hc := cell_of hSw HZK.out; go_simp <;> with_reducible rfl)
              simp only [Act.put, List.setIfInBounds_toArray, List.set_cons_zero, List.set_cons_succ]
              refine' wpAnyH_take (i := 25) (oi := { dst := some 50, op := Go.Op.build 33 #[(0, Go.Operand.const (Go.Value.int Go.IntKind.i64 2)), (1, Go.Operand.tmp 49)], type := 33, pos := "law.go:100", after := #[{ on := 24, ground := Go.Ground.data }], guard := none }) (v := _) rfl (by kernel_rfl) (by kernel_rfl) (by kernel_rfl) (fun _ _ _ h => h) (Or.inl ⟨by rfl, ?hy26⟩) (by assumption) ?hr26
              case hy26 => (intro _ hSw; (try dsimp only at hSw); go_simp <;> with_reducible rfl)
              simp only [Act.put, List.setIfInBounds_toArray, List.set_cons_zero, List.set_cons_succ]
              refine' wpAnyH_take (i := 26) (oi := { dst := some 51, op := Go.Op.move (Go.Operand.tmp 1), type := 45, pos := "law.go:100", after := #[], guard := none }) (v := _) rfl (by kernel_rfl) (by kernel_rfl) (by kernel_rfl) (fun _ _ _ h => h) (Or.inl ⟨by rfl, ?hy27⟩) (by assumption) ?hr27
              case hy27 => (intro _ hSw; (try dsimp only at hSw); go_simp <;> with_reducible rfl)
              simp only [Act.put, List.setIfInBounds_toArray, List.set_cons_zero, List.set_cons_succ]
              refine' wpAnyH_take (i := 27) (oi := { dst := some 52, op := Go.Op.move (Go.Operand.tmp 4), type := 3, pos := "law.go:100", after := #[], guard := none }) (v := _) rfl (by kernel_rfl) (by kernel_rfl) (by kernel_rfl) (fun _ _ _ h => h) (Or.inl ⟨by rfl, ?hy28⟩) (by assumption) ?hr28
              case hy28 => (intro _ hSw; (try dsimp only at hSw); go_simp <;> with_reducible rfl)
              simp only [Act.put, List.setIfInBounds_toArray, List.set_cons_zero, List.set_cons_succ]
              refine' wpAnyH_take (i := 28) (oi := { dst := some 53, op := Go.Op.indexAddr 45 (Go.Operand.tmp 51) (Go.Operand.tmp 52), type := 0, pos := "law.go:100", after := #[{ on := 26, ground := Go.Ground.data }, { on := 27, ground := Go.Ground.data }], guard := none }) (v := _) rfl (by kernel_rfl) (by kernel_rfl) (by kernel_rfl) (fun _ _ _ h => h) (Or.inl ⟨by rfl, ?hy29⟩) (by assumption) ?hr29
              case hy29 => (intro _ hSw; (try dsimp only at hSw); go_simp <;> with_reducible rfl)
              simp only [Act.put, List.setIfInBounds_toArray, List.set_cons_zero, List.set_cons_succ]
              refine' wpAnyH_take (i := 29) (oi := { dst := some 54, op := Go.Op.load 3 (Go.Operand.tmp 53), type := 3, pos := "law.go:100", after := #[{ on := 28, ground := Go.Ground.data }], guard := none }) (v := _) rfl (by kernel_rfl) (by kernel_rfl) (by kernel_rfl) (fun _ _ _ h => h) (Or.inl ⟨by rfl, ?hy30⟩) (by assumption) ?hr30
              case hy30 => (intro _ hSw; (try dsimp only at hSw); have hc := cell_of hSw HZM.out; go_simp <;> with_reducible rfl)
              simp only [Act.put, List.setIfInBounds_toArray, List.set_cons_zero, List.set_cons_succ]
              refine' wpAnyH_take (i := 30) (oi := { dst := some 55, op := Go.Op.build 33 #[(0, Go.Operand.const (Go.Value.int Go.IntKind.i64 0)), (1, Go.Operand.tmp 54)], type := 33, pos := "law.go:100", after := #[{ on := 29, ground := Go.Ground.data }], guard := none }) (v := _) rfl (by kernel_rfl) (by kernel_rfl) (by kernel_rfl) (fun _ _ _ h => h) (Or.inl ⟨by rfl, ?hy31⟩) (by assumption) ?hr31
              case hy31 => (intro _ hSw; (try dsimp only at hSw); go_simp <;> with_reducible rfl)
              simp only [Act.put, List.setIfInBounds_toArray, List.set_cons_zero, List.set_cons_succ]
              refine' wpAnyH_take (i := 31) (oi := { dst := some 56, op := Go.Op.build 33 #[(0, Go.Operand.const (Go.Value.int Go.IntKind.i64 3)), (1, Go.Operand.const (Go.Value.int Go.IntKind.i64 1))], type := 33, pos := "law.go:100", after := #[], guard := none }) (v := _) rfl (by kernel_rfl) (by kernel_rfl) (by kernel_rfl) (fun _ _ _ h => h) (Or.inl ⟨by rfl, ?hy32⟩) (by assumption) ?hr32
              case hy32 => (intro _ hSw; (try dsimp only at hSw); go_simp <;> with_reducible rfl)
              simp only [Act.put, List.setIfInBounds_toArray, List.set_cons_zero, List.set_cons_succ]
              refine' wpAnyH_take (i := 32) (oi := { dst := some 57, op := Go.Op.build 33 #[(0, Go.Operand.const (Go.Value.int Go.IntKind.i64 1)), (1, Go.Operand.const (Go.Value.int Go.IntKind.i64 1))], type := 33, pos := "law.go:100", after := #[], guard := none }) (v := _) rfl (by kernel_rfl) (by kernel_rfl) (by kernel_rfl) (fun _ _ _ h => h) (Or.inl ⟨by rfl, ?hy33⟩) (by assumption) ?hr33
              case hy33 => (intro _ hSw; (try dsimp only at hSw); go_simp <;> with_reducible rfl)
              simp only [Act.put, List.setIfInBounds_toArray, List.set_cons_zero, List.set_cons_succ]
              refine wpAnyH_ready (rs := [33]) (by kernel_rfl) (by simp) ?_
              refine AllReadyH.cons (o := { dst := some 58, op := Go.Op.buildSlice 22 9 #[(0, Go.Operand.tmp 29), (1, Go.Operand.tmp 34), (2, Go.Operand.tmp 39), (3, Go.Operand.tmp 44), (4, Go.Operand.tmp 45), (5, Go.Operand.tmp 50), (6, Go.Operand.tmp 55), (7, Go.Operand.tmp 56), (8, Go.Operand.tmp 57)], type := 22, pos := "law.go:100", after := #[{ on := 4, ground := Go.Ground.data }, { on := 9, ground := Go.Ground.data }, { on := 14, ground := Go.Ground.data }, { on := 19, ground := Go.Ground.data }, { on := 20, ground := Go.Ground.data }, { on := 25, ground := Go.Ground.data }, { on := 30, ground := Go.Ground.data }, { on := 31, ground := Go.Ground.data }, { on := 32, ground := Go.Ground.data }], guard := none }) rfl (fun K hK => ?_) AllReadyH.nil
              go_simp
              refine hK.out _ _ (stays hHeld (nest_below _ [_])) (fun hNext => ?_)
              clear hK K hHeld
              have hHeld := hNext
              clear hNext
              (try simp only [Act.put, List.setIfInBounds_toArray, List.set_cons_zero, List.set_cons_succ])
              refine' wpAnyH_take (i := 34) (oi := { dst := some 5, op := Go.Op.assign (Go.Operand.tmp 58), type := 22, pos := "law.go:100", after := #[{ on := 33, ground := Go.Ground.data }, { on := 0, ground := Go.Ground.phase }, { on := 1, ground := Go.Ground.phase }, { on := 2, ground := Go.Ground.phase }, { on := 3, ground := Go.Ground.phase }, { on := 4, ground := Go.Ground.phase }, { on := 5, ground := Go.Ground.phase }, { on := 6, ground := Go.Ground.phase }, { on := 7, ground := Go.Ground.phase }, { on := 8, ground := Go.Ground.phase }, { on := 9, ground := Go.Ground.phase }, { on := 10, ground := Go.Ground.phase }, { on := 11, ground := Go.Ground.phase }, { on := 12, ground := Go.Ground.phase }, { on := 13, ground := Go.Ground.phase }, { on := 14, ground := Go.Ground.phase }, { on := 15, ground := Go.Ground.phase }, { on := 16, ground := Go.Ground.phase }, { on := 17, ground := Go.Ground.phase }, { on := 18, ground := Go.Ground.phase }, { on := 19, ground := Go.Ground.phase }, { on := 20, ground := Go.Ground.phase }, { on := 21, ground := Go.Ground.phase }, { on := 22, ground := Go.Ground.phase }, { on := 23, ground := Go.Ground.phase }, { on := 24, ground := Go.Ground.phase }, { on := 25, ground := Go.Ground.phase }, { on := 26, ground := Go.Ground.phase }, { on := 27, ground := Go.Ground.phase }, { on := 28, ground := Go.Ground.phase }, { on := 29, ground := Go.Ground.phase }, { on := 30, ground := Go.Ground.phase }, { on := 31, ground := Go.Ground.phase }, { on := 32, ground := Go.Ground.phase }, { on := 33, ground := Go.Ground.phase }], guard := none }) (v := _) rfl (by kernel_rfl) (by kernel_rfl) (by kernel_rfl) (fun _ _ _ h => h) (Or.inl ⟨by rfl, ?hy34⟩) (by assumption) ?hr34
              case hy34 => (intro _ hSw; (try dsimp only at hSw); go_simp <;> with_reducible rfl)
              simp only [Act.put, List.setIfInBounds_toArray, List.set_cons_zero, List.set_cons_succ]
              refine wpAnyH_done (by kernel_rfl) ?_ _
              have HA := Lib.hid (arg9 (w := (wr.alloc (.cells #[im 0, im zk, im 2, im zm, im 3, im zk, im 1, im zm, im 4, im 0, im 2, im zk, im 0, im zm, im 3, im 1, im 1, im 1] 33)).drew) (T := _) ⟨0, zk⟩ ⟨2, zm⟩ ⟨3, zk⟩ ⟨1, zm⟩ ⟨4, 0⟩ ⟨2, zk⟩ ⟨0, zm⟩ ⟨3, 1⟩ ⟨1, 1⟩ (nest wr [_] 0 _ rfl))
              have HG2 : Hid (Ns w gb (wr.alloc (.cells #[im 0, im zk, im 2, im zm, im 3, im zk, im 1, im zm, im 4, im 0, im 2, im zk, im 0, im zm, im 3, im 1, im 1, im 1] 33)).drew) := Lib.hid (HG.out.on ((nest_below wr [_]).trans ⟨rfl, rfl, rfl, Nat.le_refl _, fun _ _ => rfl⟩))
              clear hHeld HG
              generalize (wr.alloc (.cells #[im 0, im zk, im 2, im zm, im 3, im zk, im 1, im zm, im 4, im 0, im 2, im zk, im 0, im zm, im 3, im 1, im 1, im 1] 33)).drew = w2 at HA HG2 ⊢
              generalize wr.heap.size = cb at HA ⊢
              have ci := cell_of HG2.out.blk HZI.out
              go_wp2_with fail
              refine (creditPlays.all zi _ 9 9 _ (by unfold maxLen; omega) w2 HA.out).mono ?_
              rintro _ w3 ⟨rfl, hb⟩
              have HG3 := Lib.hid (HG2.out.on hb)
              have HA3 := Lib.hid (HA.out.below hb)
              clear hb HG2 HA ci
              have ci := cell_of HG3.out.blk HZI.out
              go_wp2_with fail
              refine (creditWhole.all zi _ 9 9 _ (by unfold maxLen; omega) w3 HA3.out).mono ?_
              rintro _ w4 ⟨rfl, hb⟩
              have HG4 := Lib.hid (HG3.out.on hb)
              clear hb HG3 HA3 ci
              go_wp2
              go_roundg (9 - (m + 1))
              case measure => omega
              case rel => exact ⟨m + 1, by first | rfl | go_num, Nat.le_refl _, by omega, HG4⟩
            · have t3 : decide ((m : Int) < 9) = false := decide_eq_false (by omega)
              have t3b : ¬ (m : Int) < 9 := by omega
              go_wp2
              go_roundg (9 - (k + 1))
              case measure => omega
              case rel => exact ⟨k + 1, by first | rfl | go_num, Nat.le_refl _, by omega, HG⟩
        · have t2 : decide ((k : Int) < 9) = false := decide_eq_false (by omega)
          have t2b : ¬ (k : Int) < 9 := by omega
          have ci := cell_of HG.out.blk HZI.out
          go_wp2_with fail
          refine (creditNone.all zi wr).mono ?_
          rintro _ w3 ⟨rfl, hb⟩
          have HG3 := Lib.hid (HG.out.on hb)
          clear hb HG ci
          go_wp2
          go_roundg (9 - (i + 1))
          case measure => omega
          case rel => exact ⟨i + 1, by first | rfl | go_num, Nat.le_refl _, by omega, HG3⟩
    · have t1 : decide ((i : Int) < 9) = false := decide_eq_false (by omega)
      have t1b : ¬ (i : Int) < 9 := by omega
      go_wp2_with fail
      refine (fworks wr).mono ?_
      rintro _ w3 ⟨rfl, hb⟩
      have HG3 := Lib.hid (HG.out.on hb)
      clear hb HG
      go_wp2
      go_ret
      exact ⟨rfl, HG3.out.below⟩
end Go.Proofs.Ytaeinccehkofgaa.creditKnown

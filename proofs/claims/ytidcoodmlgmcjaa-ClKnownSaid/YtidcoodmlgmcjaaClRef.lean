/-
  What the document's own Split of layer 16 answers: the same pieces. Condition: a message of at most a hundred thousand bytes.
-/
import Derived.Test.YtidcoodmlgmcjaaClMath
import Derived.Test.YtidcoodmlgmcjaaTk
import Derived.Test.YtidcoodmlgmcjaaRz
import Derived.Test.YtidcoodmlgmcjaaChg
import Derived.Lib.MinMax
import Derived.Lib.ConvBytes
namespace Go.Proofs.Ytidcoodmlgmcjaa.Cl
open Go.RowKit Go.Proofs.Ytidcoodmlgmcjaa.Base Go.Proofs.Ytidcoodmlgmcjaa.Mem
theorem rSplit_no (s : ByteArray) (n1 : Int) (hn : n1 < 2) (w : World) :
    Calls Try.prog 9 #[.string s, .int .i64 n1] w fun e w' => e = .returned (.tuple #[.slice none 0 0, .int .i64 2]) ∧ w' = w := by
  have t1 : decide (n1 < 2) = true := decide_eq_true hn
  go_enter Try.func9, Try.ntmps9
  go_wp2
  go_ret2
  exact ⟨rfl, rfl⟩
theorem wrap_nat (n : Nat) (h : n < 9223372036854775808) : IntKind.i64.wrap (n : Int) = (n : Int) := by rw [IntKind.wrap_i64]; omega
theorem le_cnt (n m k : Nat) (hm : 0 < m) (h : k < cnt n m) : k * m ≤ n := by
  cases k with
  | zero => omega
  | succ j => exact Nat.le_of_lt ((cnt_lt n m j hm).1 h)
theorem quot (a m c : Nat) (hc : c ≤ 200000) (hq : a / m = c) : wrap64 ((a : Int) / (m : Int)) = (c : Int) := by
  have e : (a : Int) / (m : Int) = (c : Int) := by rw [← Int.natCast_ediv, hq]
  rw [e]
  clear e hq
  exact IntWalk.wrap64_in _ (by omega)
/-- A piece appended. -/
theorem run_append_piece (w : World) (ty base : Nat) (v : Value) (l : List ByteArray) (h : RowB w base v l) (x : ByteArray) (hz : l.length + 1 ≤ 1000000) (hb : base ≤ w.heap.size) :
    ∃ v' w', (Builtin.append_ #[23, 23] ty #[v, .slice (some ⟨w.heap.size, 0, none⟩) 1 1]).run Try.prog (w.alloc (.cells #[.string x] 9)) = .ok v' w' ∧ RowB w' base v' (l ++ [x]) ∧ (w.alloc (.cells #[.string x] 9)).grownBy w' v.ownBlock := by
  obtain ⟨v', w', h1, h2, h3, _⟩ := run_append_elt eltB (w.alloc (.cells #[.string x] 9)) ty base v l (h.alloc _) w.heap.size 1 x (fun j hj => by
    obtain rfl : j = 0 := by omega
    exact cell_of (nest w [_] 0 _ rfl) rfl) hz (by rw [size_alloc]; omega)
  exact ⟨v', w', h1, h2, h3⟩
theorem grow_piece {w0 wr w4 : World} {v : Value} {l : List ByteArray} {o : Obj} (hB : Below w0.heap.size w0 wr) (hO : RowB wr w0.heap.size v l) (hg : (wr.alloc o).grownBy w4 v.ownBlock) : Below w0.heap.size w0 w4 :=
  (hB.alloc hB.size _).grown hg (by rw [size_alloc]; have := hB.size; omega) fun k hk => (hO.lt k hk).1
set_option maxHeartbeats 8000000 in
set_option maxRecDepth 100000 in
theorem rSplit_zero (s : ByteArray) (hs : s.size ≤ 100000) (h0 : s.size = 0) (n1 : Int) (hn : 2 ≤ n1) (m : Nat) (hm : min n1 128 = (m : Int) + 1) (w : World) :
    Calls Try.prog 9 #[.string s, .int .i64 n1] w fun e w' => ∃ v, e = .returned (.tuple #[v, .int .i64 0]) ∧ RowB w' w.heap.size v (pcs s m) ∧ Below w.heap.size w w' := by
  have hm0 : 0 < m := by omega
  have hm2 : m ≤ 127 := by omega
  obtain ⟨mm, hmm⟩ : ∃ mm : Nat, m + 1 = mm := ⟨_, rfl⟩
  have q1 : min n1 128 = (mm : Int) := by omega
  have q2 : IntKind.i64.wrap ((mm : Int) - 1) = (m : Int) := by rw [IntKind.wrap_i64]; omega
  have t1 : decide (n1 < 2) = false := decide_eq_false (by omega)
  have t2 : ¬ n1 < 2 := by omega
  obtain ⟨a1, ha1⟩ : ∃ a1, s.size + m = a1 := ⟨_, rfl⟩
  obtain ⟨a2, ha2⟩ : ∃ a2, a1 - 1 = a2 := ⟨_, rfl⟩
  have q3 : IntKind.i64.wrap ((s.size : Int) + (m : Int)) = (a1 : Int) := by rw [IntKind.wrap_i64]; omega
  have q4 : IntKind.i64.wrap ((a1 : Int) - 1) = (a2 : Int) := by rw [IntKind.wrap_i64]; omega
  have t3 : ¬ (m : Int) = 0 := by omega
  have t4 : ((m : Int) == 0) = false := by rw [beq_eq_false_iff_ne]; omega
  obtain ⟨c, hc⟩ : ∃ c, cnt s.size m = c := ⟨_, rfl⟩
  have hcp : 0 < c := hc ▸ cnt_pos s.size m hm0
  have hcl : c ≤ s.size + 1 := hc ▸ cnt_le s.size m hm0
  have hq : a2 / m = 0 := by
    exact Nat.div_eq_of_lt (by omega)
  have HQ5 : Hid (wrap64 ((a2 : Int) / (m : Int)) = 0) := Lib.hid (quot a2 m 0 (by omega) hq)
  have tq : (wrap64 ((a2 : Int) / (m : Int)) == 0) = true := by rw [HQ5.out]; rfl
  clear hq
  have hc1 : c = 1 := by rw [← hc]; unfold cnt; rw [if_pos h0]
  subst hc1; clear h0
  have O0 : Hid (RowB w w.heap.size (.slice none 0 0) (upto s m 0)) := ownS_nil _ _
  have G0 : Hid (Below w.heap.size w w) := Below.refl _ _
  obtain ⟨c1, hc1⟩ : ∃ c1, c1 + 1 = 1 := ⟨0, by omega⟩
  have q6 : IntKind.i64.wrap ((1) - 1) = (c1 : Int) := by rw [IntKind.wrap_i64]; omega
  have HC := Lib.hid hc
  clear hm hmm ha1 ha2 hc
  go_enter Try.func9, Try.ntmps9
  go_wp2_with fail
  (try simp only [HQ5.out])
  clear HQ5 tq q3 q4 t3 t4
  go_loopg [8, 9] 1 (fun g sl i wr => ∃ (k : Nat) (v : Value), sl = v ∧ i = nm k ∧ 1 - k ≤ g ∧ k ≤ 1 ∧ Hid (RowB wr w.heap.size v (upto s m k)) ∧ Hid (Below w.heap.size w wr))
  case atStart => exact ⟨0, _, rfl, rfl, by omega, by omega, O0, G0⟩
  case round =>
    clear O0 G0
    obtain ⟨k, v, hv, rfl, hg, hk, O1, G1⟩ := hrel
    have hv2 := hv.symm
    clear hv
    subst hv2
    by_cases hlt : k < 1
    · have u1 : decide ((k : Int) < 1) = true := decide_eq_true (by omega)
      have u2 : (k : Int) < 1 := by omega
      have hle := le_cnt s.size m k hm0 (by rw [HC.out]; exact hlt)
      obtain ⟨fa, hfa⟩ : ∃ fa, k * m = fa := ⟨_, rfl⟩
      obtain ⟨fb, hfb⟩ : ∃ fb, (k + 1) * m = fb := ⟨_, rfl⟩
      obtain ⟨fe, hfe⟩ : ∃ fe, min s.size fb = fe := ⟨_, rfl⟩
      have hfb2 : fb = fa + m := by rw [← hfb, ← hfa, succ_mul']
      obtain ⟨kk, hkk⟩ : ∃ kk, k + 1 = kk := ⟨_, rfl⟩
      have v0 : IntKind.i64.wrap ((k : Int) + 1) = (kk : Int) := by rw [IntKind.wrap_i64]; omega
      have v1 : IntKind.i64.wrap ((k : Int) * (m : Int)) = (fa : Int) := by
        rw [← Int.natCast_mul, hfa]; exact wrap_nat fa (by omega)
      have v2 : IntKind.i64.wrap ((kk : Int) * (m : Int)) = (fb : Int) := by
        rw [← Int.natCast_mul, ← hkk, hfb]; exact wrap_nat fb (by omega)
      have v3 : min (s.size : Int) (fb : Int) = (fe : Int) := by omega
      have b1 : (fa : Int) ≤ (fe : Int) := by omega
      have b2 : (fe : Int) ≤ (s.size : Int) := by omega
      obtain ⟨x, hx⟩ : ∃ x, s.extract fa fe = x := ⟨_, rfl⟩
      have hx1 : x.size ≤ 100000 := by rw [← hx, ByteArray.size_extract]; omega
      have hx2 : s.extract (k * m) (min s.size ((k + 1) * m)) = x := by rw [hfa, hfb, hfe, hx]
      clear hfa hfb hfe hfb2 hle
      have HLN : Hid ((upto s m k).length + 1 ≤ 1000000) := by show _ + 1 ≤ _; rw [upto_len]; omega
      have hz : k = 0 := by omega
      have hl : k + 1 = 1 := by omega
      have e1 : ((k : Int) == 0) = true := by rw [beq_iff_eq]; omega
      have e3 : ((k : Int) == (c1 : Int)) = true := by rw [beq_iff_eq]; omega
      have hpx : pc s m 1 k = mk 193 x := by unfold pc; rw [hx2, show hd k 1 = 193 by unfold hd; rw [if_pos hz, if_pos hl]]
      obtain ⟨hh, hhv⟩ : ∃ hh : ByteArray, one 193 = hh := ⟨_, rfl⟩
      have hh1 : hh.size ≤ 8 := by rw [← hhv]; decide
      have hcv : ∀ (W : World) (b : Nat), W.cell? ⟨b, 0, none⟩ = some (.int .u8 193) → (convert 37 9 (.slice (some ⟨b, 0, none⟩) 1 1)).run Try.prog W = .ok (.string hh) W := fun W b h0 => by rw [← hhv]; exact conv_at1 W b _ h0
      obtain ⟨px, hpx2⟩ : ∃ px, hh ++ x = px := ⟨_, rfl⟩
      have HPX : Hid (pc s m 1 k = px) := Lib.hid (by rw [hpx, ← hpx2, ← hhv]; rfl)
      have hcat : ¬ 9223372036854775807 < hh.size + x.size := by omega
      have vu : IntKind.u8.wrap 193 = 193 := by decide
      clear hpx hhv hx2 hz hl
      go_wp2_with fail
      refine wp_region_held_drew (S := (fun _ => True)) (by kernel_rfl) trivial (fun hHeld => ?_)
      refine' wpAnyH_take (i := 0) (oi := { dst := some 40, op := Go.Op.move (Go.Operand.tmp 8), type := 23, pos := "ref.go:25", after := #[], guard := none }) (v := _) rfl (by kernel_rfl) (by kernel_rfl) (by kernel_rfl) (fun _ _ _ h => h) (Or.inl ⟨by rfl, ?hy1⟩) (by assumption) ?hr1
      case hy1 => (intro _ hSw; (try dsimp only at hSw); go_simp <;> with_reducible rfl)
      simp only [Act.put, List.setIfInBounds_toArray, List.set_cons_zero, List.set_cons_succ]
      refine' wpAnyH_take (i := 1) (oi := { dst := some 41, op := Go.Op.move (Go.Operand.tmp 10), type := 3, pos := "ref.go:25", after := #[], guard := none }) (v := _) rfl (by kernel_rfl) (by kernel_rfl) (by kernel_rfl) (fun _ _ _ h => h) (Or.inl ⟨by rfl, ?hy2⟩) (by assumption) ?hr2
      case hy2 => (intro _ hSw; (try dsimp only at hSw); go_simp <;> with_reducible rfl)
      simp only [Act.put, List.setIfInBounds_toArray, List.set_cons_zero, List.set_cons_succ]
      refine' wpAnyH_take (i := 2) (oi := { dst := some 42, op := Go.Op.convert 3 5 (Go.Operand.tmp 41), type := 5, pos := "ref.go:25", after := #[{ on := 1, ground := Go.Ground.data }], guard := none }) (v := _) rfl (by kernel_rfl) (by kernel_rfl) (by kernel_rfl) (fun _ _ _ h => h) (Or.inl ⟨by rfl, ?hy3⟩) (by assumption) ?hr3
      case hy3 => (intro _ hSw; (try dsimp only at hSw); go_simp <;> with_reducible rfl)
      simp only [Act.put, List.setIfInBounds_toArray, List.set_cons_zero, List.set_cons_succ]
      refine' wpAnyH_take (i := 5) (oi := { dst := some 45, op := Go.Op.move (Go.Operand.tmp 0), type := 9, pos := "ref.go:25", after := #[], guard := none }) (v := _) rfl (by kernel_rfl) (by kernel_rfl) (by kernel_rfl) (fun _ _ _ h => h) (Or.inl ⟨by rfl, ?hy4⟩) (by assumption) ?hr4
      case hy4 => (intro _ hSw; (try dsimp only at hSw); go_simp <;> with_reducible rfl)
      simp only [Act.put, List.setIfInBounds_toArray, List.set_cons_zero, List.set_cons_succ]
      refine' wpAnyH_take (i := 6) (oi := { dst := some 46, op := Go.Op.move (Go.Operand.tmp 9), type := 3, pos := "ref.go:25", after := #[], guard := none }) (v := _) rfl (by kernel_rfl) (by kernel_rfl) (by kernel_rfl) (fun _ _ _ h => h) (Or.inl ⟨by rfl, ?hy5⟩) (by assumption) ?hr5
      case hy5 => (intro _ hSw; (try dsimp only at hSw); go_simp <;> with_reducible rfl)
      simp only [Act.put, List.setIfInBounds_toArray, List.set_cons_zero, List.set_cons_succ]
      refine' wpAnyH_take (i := 7) (oi := { dst := some 47, op := Go.Op.move (Go.Operand.tmp 6), type := 3, pos := "ref.go:25", after := #[], guard := none }) (v := _) rfl (by kernel_rfl) (by kernel_rfl) (by kernel_rfl) (fun _ _ _ h => h) (Or.inl ⟨by rfl, ?hy6⟩) (by assumption) ?hr6
      case hy6 => (intro _ hSw; (try dsimp only at hSw); go_simp <;> with_reducible rfl)
      simp only [Act.put, List.setIfInBounds_toArray, List.set_cons_zero, List.set_cons_succ]
      refine' wpAnyH_take (i := 8) (oi := { dst := some 48, op := Go.Op.binOp Go.BinOp.mul 3 (Go.Operand.tmp 46) (Go.Operand.tmp 47) 3, type := 3, pos := "ref.go:25", after := #[{ on := 6, ground := Go.Ground.data }, { on := 7, ground := Go.Ground.data }], guard := none }) (v := _) rfl (by kernel_rfl) (by kernel_rfl) (by kernel_rfl) (fun _ _ _ h => h) (Or.inl ⟨by rfl, ?hy7⟩) (by assumption) ?hr7
      case hy7 => (intro _ hSw; (try dsimp only at hSw); go_simp <;> with_reducible rfl)
      simp only [Act.put, List.setIfInBounds_toArray, List.set_cons_zero, List.set_cons_succ]
      refine' wpAnyH_take (i := 9) (oi := { dst := some 49, op := Go.Op.move (Go.Operand.tmp 0), type := 9, pos := "ref.go:25", after := #[], guard := none }) (v := _) rfl (by kernel_rfl) (by kernel_rfl) (by kernel_rfl) (fun _ _ _ h => h) (Or.inl ⟨by rfl, ?hy8⟩) (by assumption) ?hr8
      case hy8 => (intro _ hSw; (try dsimp only at hSw); go_simp <;> with_reducible rfl)
      simp only [Act.put, List.setIfInBounds_toArray, List.set_cons_zero, List.set_cons_succ]
      refine' wpAnyH_take (i := 10) (oi := { dst := some 50, op := Go.Op.call { callee := Go.Callee.builtin Go.Builtin.len, args := #[Go.Operand.tmp 49], argTypes := #[9] }, type := 3, pos := "ref.go:25", after := #[{ on := 9, ground := Go.Ground.data }], guard := none }) (v := _) rfl (by kernel_rfl) (by kernel_rfl) (by kernel_rfl) (fun _ _ _ h => h) (Or.inl ⟨by rfl, ?hy9⟩) (by assumption) ?hr9
      case hy9 => (intro _ hSw; (try dsimp only at hSw); go_simp <;> with_reducible rfl)
      simp only [Act.put, List.setIfInBounds_toArray, List.set_cons_zero, List.set_cons_succ]
      refine' wpAnyH_take (i := 11) (oi := { dst := some 51, op := Go.Op.move (Go.Operand.tmp 9), type := 3, pos := "ref.go:25", after := #[], guard := none }) (v := _) rfl (by kernel_rfl) (by kernel_rfl) (by kernel_rfl) (fun _ _ _ h => h) (Or.inl ⟨by rfl, ?hy10⟩) (by assumption) ?hr10
      case hy10 => (intro _ hSw; (try dsimp only at hSw); go_simp <;> with_reducible rfl)
      simp only [Act.put, List.setIfInBounds_toArray, List.set_cons_zero, List.set_cons_succ]
      refine' wpAnyH_take (i := 12) (oi := { dst := some 52, op := Go.Op.binOp Go.BinOp.add 3 (Go.Operand.tmp 51) (Go.Operand.const (Go.Value.int Go.IntKind.i64 1)) 3, type := 3, pos := "ref.go:25", after := #[{ on := 11, ground := Go.Ground.data }], guard := none }) (v := _) rfl (by kernel_rfl) (by kernel_rfl) (by kernel_rfl) (fun _ _ _ h => h) (Or.inl ⟨by rfl, ?hy11⟩) (by assumption) ?hr11
      case hy11 => (intro _ hSw; (try dsimp only at hSw); go_simp <;> with_reducible rfl)
      simp only [Act.put, List.setIfInBounds_toArray, List.set_cons_zero, List.set_cons_succ]
      refine' wpAnyH_take (i := 13) (oi := { dst := some 53, op := Go.Op.move (Go.Operand.tmp 6), type := 3, pos := "ref.go:25", after := #[], guard := none }) (v := _) rfl (by kernel_rfl) (by kernel_rfl) (by kernel_rfl) (fun _ _ _ h => h) (Or.inl ⟨by rfl, ?hy12⟩) (by assumption) ?hr12
      case hy12 => (intro _ hSw; (try dsimp only at hSw); go_simp <;> with_reducible rfl)
      simp only [Act.put, List.setIfInBounds_toArray, List.set_cons_zero, List.set_cons_succ]
      refine' wpAnyH_take (i := 14) (oi := { dst := some 54, op := Go.Op.binOp Go.BinOp.mul 3 (Go.Operand.tmp 52) (Go.Operand.tmp 53) 3, type := 3, pos := "ref.go:25", after := #[{ on := 12, ground := Go.Ground.data }, { on := 13, ground := Go.Ground.data }], guard := none }) (v := _) rfl (by kernel_rfl) (by kernel_rfl) (by kernel_rfl) (fun _ _ _ h => h) (Or.inl ⟨by rfl, ?hy13⟩) (by assumption) ?hr13
      case hy13 => (intro _ hSw; (try dsimp only at hSw); go_simp <;> with_reducible rfl)
      simp only [Act.put, List.setIfInBounds_toArray, List.set_cons_zero, List.set_cons_succ]
      refine' wpAnyH_take (i := 15) (oi := { dst := some 55, op := Go.Op.call { callee := Go.Callee.builtin Go.Builtin.min, args := #[Go.Operand.tmp 50, Go.Operand.tmp 54], argTypes := #[3, 3] }, type := 3, pos := "ref.go:25", after := #[{ on := 10, ground := Go.Ground.data }, { on := 14, ground := Go.Ground.data }], guard := none }) (v := _) rfl (by kernel_rfl) (by kernel_rfl) (by kernel_rfl) (fun _ _ _ h => h) (Or.inl ⟨by rfl, ?hy14⟩) (by assumption) ?hr14
      case hy14 => (intro _ hSw; (try dsimp only at hSw); go_simp <;> with_reducible rfl)
      simp only [Act.put, List.setIfInBounds_toArray, List.set_cons_zero, List.set_cons_succ]
      refine' wpAnyH_take (i := 16) (oi := { dst := some 56, op := Go.Op.slice 9 (Go.Operand.tmp 45) (some (Go.Operand.tmp 48)) (some (Go.Operand.tmp 55)) none, type := 9, pos := "ref.go:25", after := #[{ on := 5, ground := Go.Ground.data }, { on := 8, ground := Go.Ground.data }, { on := 15, ground := Go.Ground.data }], guard := none }) (v := _) rfl (by kernel_rfl) (by kernel_rfl) (by kernel_rfl) (fun _ _ _ h => h) (Or.inl ⟨by rfl, ?hy15⟩) (by assumption) ?hr15
      case hy15 => (intro _ hSw; (try dsimp only at hSw); go_simp <;> with_reducible rfl)
      simp only [Act.put, List.setIfInBounds_toArray, List.set_cons_zero, List.set_cons_succ]
      refine wpAnyH_ready (rs := [3]) (by kernel_rfl) (by simp) ?_
      refine AllReadyH.cons (o := { dst := some 43, op := Go.Op.buildSlice 37 1 #[(0, Go.Operand.tmp 42)], type := 37, pos := "ref.go:25", after := #[{ on := 2, ground := Go.Ground.data }], guard := none }) rfl (fun K hK => ?_) AllReadyH.nil
      go_simp
      refine hK.out _ _ trivial (fun hNext => ?_)
      clear hK K hHeld
      have hHeld := hNext
      clear hNext
      (try simp only [Act.put, List.setIfInBounds_toArray, List.set_cons_zero, List.set_cons_succ])
      refine wpAnyH_ready (rs := [4]) (by kernel_rfl) (by simp) ?_
      refine AllReadyH.cons (o := { dst := some 44, op := Go.Op.convert 37 9 (Go.Operand.tmp 43), type := 9, pos := "ref.go:25", after := #[{ on := 3, ground := Go.Ground.data }], guard := none }) rfl (fun K hK => ?_) AllReadyH.nil
      have hcx := hcv (wr.alloc (.cells #[.int .u8 193] 5)).drew wr.heap.size (cell_of (nest wr [_] 0 _ rfl) rfl); go_simp
      refine hK.out _ _ trivial (fun hNext => ?_)
      clear hK K hHeld
      have hHeld := hNext
      clear hNext
      (try simp only [Act.put, List.setIfInBounds_toArray, List.set_cons_zero, List.set_cons_succ])
      refine' wpAnyH_take (i := 17) (oi := { dst := some 57, op := Go.Op.binOp Go.BinOp.add 9 (Go.Operand.tmp 44) (Go.Operand.tmp 56) 9, type := 9, pos := "ref.go:25", after := #[{ on := 4, ground := Go.Ground.data }, { on := 16, ground := Go.Ground.data }], guard := none }) (v := _) rfl (by kernel_rfl) (by kernel_rfl) (by kernel_rfl) (fun _ _ _ h => h) (Or.inl ⟨by rfl, ?hy16⟩) (by assumption) ?hr16
      case hy16 => (intro _ hSw; (try dsimp only at hSw); go_simp <;> with_reducible rfl)
      simp only [Act.put, List.setIfInBounds_toArray, List.set_cons_zero, List.set_cons_succ]
      have O2 : Hid (RowB (wr.alloc (.cells #[.int .u8 193] 5)).drew w.heap.size v (upto s m k)) := Lib.hid (O1.out.below (nest_below wr [_]).drew)
      have G2 : Hid (Below w.heap.size w (wr.alloc (.cells #[.int .u8 193] 5)).drew) := Lib.hid (below_on G1.out (nest_below wr [_]).drew)
      clear O1 G1 hcv
      generalize (wr.alloc (.cells #[.int .u8 193] 5)).drew = w2 at O2 G2 ⊢
      obtain ⟨v', w3, hr, ho, hg⟩ := run_append_piece w2 23 w.heap.size v (upto s m k) O2.out px HLN.out G2.out.size
      have O3 : Hid (RowB w3 w.heap.size v' (upto s m (k + 1))) := Lib.hid (by rw [upto_succ, HC.out, HPX.out]; exact ho)
      have G3 := Lib.hid (grow_piece G2.out O2.out hg)
      clear ho hg O2 G2
      refine wpAnyH_ready (rs := [18]) (by kernel_rfl) (by simp) ?_
      refine AllReadyH.cons (o := { dst := some 58, op := Go.Op.buildSlice 23 1 #[(0, Go.Operand.tmp 57)], type := 23, pos := "ref.go:25", after := #[{ on := 17, ground := Go.Ground.data }], guard := none }) rfl (fun K hK => ?_) AllReadyH.nil
      go_simp
      refine hK.out _ _ trivial (fun hNext => ?_)
      clear hK K hHeld
      have hHeld := hNext
      clear hNext
      (try simp only [Act.put, List.setIfInBounds_toArray, List.set_cons_zero, List.set_cons_succ])
      refine wpAnyH_ready (rs := [19]) (by kernel_rfl) (by simp) ?_
      refine AllReadyH.cons (o := { dst := some 59, op := Go.Op.call { callee := Go.Callee.builtin Go.Builtin.append, args := #[Go.Operand.tmp 40, Go.Operand.tmp 58], argTypes := #[23, 23] }, type := 23, pos := "ref.go:25", after := #[{ on := 0, ground := Go.Ground.data }, { on := 18, ground := Go.Ground.data }], guard := none }) rfl (fun K hK => ?_) AllReadyH.nil
      refine step_append_known rfl _ _ _ _ rfl rfl rfl hr ?_
      refine hK.out _ _ trivial (fun hNext => ?_)
      clear hr hK K hHeld
      have hHeld := hNext
      clear hNext
      (try simp only [Act.put, List.setIfInBounds_toArray, List.set_cons_zero, List.set_cons_succ])
      refine' wpAnyH_take (i := 20) (oi := { dst := some 8, op := Go.Op.assign (Go.Operand.tmp 59), type := 23, pos := "ref.go:25", after := #[{ on := 19, ground := Go.Ground.data }, { on := 19, ground := Go.Ground.chain }, { on := 0, ground := Go.Ground.phase }, { on := 1, ground := Go.Ground.phase }, { on := 2, ground := Go.Ground.phase }, { on := 3, ground := Go.Ground.phase }, { on := 4, ground := Go.Ground.phase }, { on := 5, ground := Go.Ground.phase }, { on := 6, ground := Go.Ground.phase }, { on := 7, ground := Go.Ground.phase }, { on := 8, ground := Go.Ground.phase }, { on := 9, ground := Go.Ground.phase }, { on := 10, ground := Go.Ground.phase }, { on := 11, ground := Go.Ground.phase }, { on := 12, ground := Go.Ground.phase }, { on := 13, ground := Go.Ground.phase }, { on := 14, ground := Go.Ground.phase }, { on := 15, ground := Go.Ground.phase }, { on := 16, ground := Go.Ground.phase }, { on := 17, ground := Go.Ground.phase }, { on := 18, ground := Go.Ground.phase }, { on := 19, ground := Go.Ground.phase }], guard := none }) (v := _) rfl (by kernel_rfl) (by kernel_rfl) (by kernel_rfl) (fun _ _ _ h => h) (Or.inl ⟨by rfl, ?hy17⟩) (by assumption) ?hr17
      case hy17 => (intro _ hSw; (try dsimp only at hSw); go_simp <;> with_reducible rfl)
      simp only [Act.put, List.setIfInBounds_toArray, List.set_cons_zero, List.set_cons_succ]
      refine wpAnyH_done (by kernel_rfl) ?_ _
      clear hHeld
      go_wp2
      go_roundg (1 - kk)
      case measure => omega
      case rel => exact ⟨k + 1, v', rfl, by rw [hkk], by omega, by omega, O3, G3⟩
    · obtain rfl : k = 1 := by omega
      have u1 : decide ((1 : Int) < 1) = false := decide_eq_false (by omega)
      go_wp2
      go_ret2
      exact ⟨v, rfl, by have := O1.out; rw [← HC.out, upto_all] at this; exact this, G1.out⟩
set_option maxHeartbeats 8000000 in
set_option maxRecDepth 100000 in
theorem rSplit_pos (s : ByteArray) (hs : s.size ≤ 100000) (h0 : 0 < s.size) (n1 : Int) (hn : 2 ≤ n1) (m : Nat) (hm : min n1 128 = (m : Int) + 1) (w : World) :
    Calls Try.prog 9 #[.string s, .int .i64 n1] w fun e w' => ∃ v, e = .returned (.tuple #[v, .int .i64 0]) ∧ RowB w' w.heap.size v (pcs s m) ∧ Below w.heap.size w w' := by
  have hm0 : 0 < m := by omega
  have hm2 : m ≤ 127 := by omega
  obtain ⟨mm, hmm⟩ : ∃ mm : Nat, m + 1 = mm := ⟨_, rfl⟩
  have q1 : min n1 128 = (mm : Int) := by omega
  have q2 : IntKind.i64.wrap ((mm : Int) - 1) = (m : Int) := by rw [IntKind.wrap_i64]; omega
  have t1 : decide (n1 < 2) = false := decide_eq_false (by omega)
  have t2 : ¬ n1 < 2 := by omega
  obtain ⟨a1, ha1⟩ : ∃ a1, s.size + m = a1 := ⟨_, rfl⟩
  obtain ⟨a2, ha2⟩ : ∃ a2, a1 - 1 = a2 := ⟨_, rfl⟩
  have q3 : IntKind.i64.wrap ((s.size : Int) + (m : Int)) = (a1 : Int) := by rw [IntKind.wrap_i64]; omega
  have q4 : IntKind.i64.wrap ((a1 : Int) - 1) = (a2 : Int) := by rw [IntKind.wrap_i64]; omega
  have t3 : ¬ (m : Int) = 0 := by omega
  have t4 : ((m : Int) == 0) = false := by rw [beq_eq_false_iff_ne]; omega
  obtain ⟨c, hc⟩ : ∃ c, cnt s.size m = c := ⟨_, rfl⟩
  have hcp : 0 < c := hc ▸ cnt_pos s.size m hm0
  have hcl : c ≤ s.size + 1 := hc ▸ cnt_le s.size m hm0
  have hq : a2 / m = c := by
    rw [← hc]; unfold cnt; rw [if_neg (by omega), ← ha2, ← ha1]
  have HQ5 : Hid (wrap64 ((a2 : Int) / (m : Int)) = (c : Int)) := Lib.hid (quot a2 m c (by omega) hq)
  have tq : (wrap64 ((a2 : Int) / (m : Int)) == 0) = false := by rw [HQ5.out]; rw [beq_eq_false_iff_ne]; clear hq; omega
  clear hq


  have O0 : Hid (RowB w w.heap.size (.slice none 0 0) (upto s m 0)) := ownS_nil _ _
  have G0 : Hid (Below w.heap.size w w) := Below.refl _ _
  obtain ⟨c1, hc1⟩ : ∃ c1, c1 + 1 = c := ⟨c - 1, by omega⟩
  have q6 : IntKind.i64.wrap (((c : Int)) - 1) = (c1 : Int) := by rw [IntKind.wrap_i64]; omega
  have HC := Lib.hid hc
  clear hm hmm ha1 ha2 hc
  go_enter Try.func9, Try.ntmps9
  go_wp2_with fail
  (try simp only [HQ5.out])
  clear HQ5 tq q3 q4 t3 t4
  go_loopg [8, 9] c (fun g sl i wr => ∃ (k : Nat) (v : Value), sl = v ∧ i = nm k ∧ c - k ≤ g ∧ k ≤ c ∧ Hid (RowB wr w.heap.size v (upto s m k)) ∧ Hid (Below w.heap.size w wr))
  case atStart => exact ⟨0, _, rfl, rfl, by omega, by omega, O0, G0⟩
  case round =>
    clear O0 G0
    obtain ⟨k, v, hv, rfl, hg, hk, O1, G1⟩ := hrel
    have hv2 := hv.symm
    clear hv
    subst hv2
    by_cases hlt : k < c
    · have u1 : decide ((k : Int) < (c : Int)) = true := decide_eq_true (by omega)
      have u2 : (k : Int) < (c : Int) := by omega
      have hle := le_cnt s.size m k hm0 (by rw [HC.out]; exact hlt)
      obtain ⟨fa, hfa⟩ : ∃ fa, k * m = fa := ⟨_, rfl⟩
      obtain ⟨fb, hfb⟩ : ∃ fb, (k + 1) * m = fb := ⟨_, rfl⟩
      obtain ⟨fe, hfe⟩ : ∃ fe, min s.size fb = fe := ⟨_, rfl⟩
      have hfb2 : fb = fa + m := by rw [← hfb, ← hfa, succ_mul']
      obtain ⟨kk, hkk⟩ : ∃ kk, k + 1 = kk := ⟨_, rfl⟩
      have v0 : IntKind.i64.wrap ((k : Int) + 1) = (kk : Int) := by rw [IntKind.wrap_i64]; omega
      have v1 : IntKind.i64.wrap ((k : Int) * (m : Int)) = (fa : Int) := by
        rw [← Int.natCast_mul, hfa]; exact wrap_nat fa (by omega)
      have v2 : IntKind.i64.wrap ((kk : Int) * (m : Int)) = (fb : Int) := by
        rw [← Int.natCast_mul, ← hkk, hfb]; exact wrap_nat fb (by omega)
      have v3 : min (s.size : Int) (fb : Int) = (fe : Int) := by omega
      have b1 : (fa : Int) ≤ (fe : Int) := by omega
      have b2 : (fe : Int) ≤ (s.size : Int) := by omega
      obtain ⟨x, hx⟩ : ∃ x, s.extract fa fe = x := ⟨_, rfl⟩
      have hx1 : x.size ≤ 100000 := by rw [← hx, ByteArray.size_extract]; omega
      have hx2 : s.extract (k * m) (min s.size ((k + 1) * m)) = x := by rw [hfa, hfb, hfe, hx]
      clear hfa hfb hfe hfb2 hle
      have HLN : Hid ((upto s m k).length + 1 ≤ 1000000) := by show _ + 1 ≤ _; rw [upto_len]; omega
      by_cases hz : k = 0
      · by_cases hl : k + 1 = c
        · have e1 : ((k : Int) == 0) = true := by rw [beq_iff_eq]; omega
          have e3 : ((k : Int) == (c1 : Int)) = true := by rw [beq_iff_eq]; omega
          have hpx : pc s m c k = mk 193 x := by unfold pc; rw [hx2, show hd k c = 193 by unfold hd; rw [if_pos hz, if_pos hl]]
          obtain ⟨hh, hhv⟩ : ∃ hh : ByteArray, one 193 = hh := ⟨_, rfl⟩
          have hh1 : hh.size ≤ 8 := by rw [← hhv]; decide
          have hcv : ∀ (W : World) (b : Nat), W.cell? ⟨b, 0, none⟩ = some (.int .u8 193) → (convert 37 9 (.slice (some ⟨b, 0, none⟩) 1 1)).run Try.prog W = .ok (.string hh) W := fun W b h0 => by rw [← hhv]; exact conv_at1 W b _ h0
          obtain ⟨px, hpx2⟩ : ∃ px, hh ++ x = px := ⟨_, rfl⟩
          have HPX : Hid (pc s m c k = px) := Lib.hid (by rw [hpx, ← hpx2, ← hhv]; rfl)
          have hcat : ¬ 9223372036854775807 < hh.size + x.size := by omega
          have vu : IntKind.u8.wrap 193 = 193 := by decide
          clear hpx hhv hx2 hz hl
          go_wp2_with fail
          refine wp_region_held_drew (S := (fun _ => True)) (by kernel_rfl) trivial (fun hHeld => ?_)
          refine' wpAnyH_take (i := 0) (oi := { dst := some 40, op := Go.Op.move (Go.Operand.tmp 8), type := 23, pos := "ref.go:25", after := #[], guard := none }) (v := _) rfl (by kernel_rfl) (by kernel_rfl) (by kernel_rfl) (fun _ _ _ h => h) (Or.inl ⟨by rfl, ?hy18⟩) (by assumption) ?hr18
          case hy18 => (intro _ hSw; (try dsimp only at hSw); go_simp <;> with_reducible rfl)
          simp only [Act.put, List.setIfInBounds_toArray, List.set_cons_zero, List.set_cons_succ]
          refine' wpAnyH_take (i := 1) (oi := { dst := some 41, op := Go.Op.move (Go.Operand.tmp 10), type := 3, pos := "ref.go:25", after := #[], guard := none }) (v := _) rfl (by kernel_rfl) (by kernel_rfl) (by kernel_rfl) (fun _ _ _ h => h) (Or.inl ⟨by rfl, ?hy19⟩) (by assumption) ?hr19
          case hy19 => (intro _ hSw; (try dsimp only at hSw); go_simp <;> with_reducible rfl)
          simp only [Act.put, List.setIfInBounds_toArray, List.set_cons_zero, List.set_cons_succ]
          refine' wpAnyH_take (i := 2) (oi := { dst := some 42, op := Go.Op.convert 3 5 (Go.Operand.tmp 41), type := 5, pos := "ref.go:25", after := #[{ on := 1, ground := Go.Ground.data }], guard := none }) (v := _) rfl (by kernel_rfl) (by kernel_rfl) (by kernel_rfl) (fun _ _ _ h => h) (Or.inl ⟨by rfl, ?hy20⟩) (by assumption) ?hr20
          case hy20 => (intro _ hSw; (try dsimp only at hSw); go_simp <;> with_reducible rfl)
          simp only [Act.put, List.setIfInBounds_toArray, List.set_cons_zero, List.set_cons_succ]
          refine' wpAnyH_take (i := 5) (oi := { dst := some 45, op := Go.Op.move (Go.Operand.tmp 0), type := 9, pos := "ref.go:25", after := #[], guard := none }) (v := _) rfl (by kernel_rfl) (by kernel_rfl) (by kernel_rfl) (fun _ _ _ h => h) (Or.inl ⟨by rfl, ?hy21⟩) (by assumption) ?hr21
          case hy21 => (intro _ hSw; (try dsimp only at hSw); go_simp <;> with_reducible rfl)
          simp only [Act.put, List.setIfInBounds_toArray, List.set_cons_zero, List.set_cons_succ]
          refine' wpAnyH_take (i := 6) (oi := { dst := some 46, op := Go.Op.move (Go.Operand.tmp 9), type := 3, pos := "ref.go:25", after := #[], guard := none }) (v := _) rfl (by kernel_rfl) (by kernel_rfl) (by kernel_rfl) (fun _ _ _ h => h) (Or.inl ⟨by rfl, ?hy22⟩) (by assumption) ?hr22
          case hy22 => (intro _ hSw; (try dsimp only at hSw); go_simp <;> with_reducible rfl)
          simp only [Act.put, List.setIfInBounds_toArray, List.set_cons_zero, List.set_cons_succ]
          refine' wpAnyH_take (i := 7) (oi := { dst := some 47, op := Go.Op.move (Go.Operand.tmp 6), type := 3, pos := "ref.go:25", after := #[], guard := none }) (v := _) rfl (by kernel_rfl) (by kernel_rfl) (by kernel_rfl) (fun _ _ _ h => h) (Or.inl ⟨by rfl, ?hy23⟩) (by assumption) ?hr23
          case hy23 => (intro _ hSw; (try dsimp only at hSw); go_simp <;> with_reducible rfl)
          simp only [Act.put, List.setIfInBounds_toArray, List.set_cons_zero, List.set_cons_succ]
          refine' wpAnyH_take (i := 8) (oi := { dst := some 48, op := Go.Op.binOp Go.BinOp.mul 3 (Go.Operand.tmp 46) (Go.Operand.tmp 47) 3, type := 3, pos := "ref.go:25", after := #[{ on := 6, ground := Go.Ground.data }, { on := 7, ground := Go.Ground.data }], guard := none }) (v := _) rfl (by kernel_rfl) (by kernel_rfl) (by kernel_rfl) (fun _ _ _ h => h) (Or.inl ⟨by rfl, ?hy24⟩) (by assumption) ?hr24
          case hy24 => (intro _ hSw; (try dsimp only at hSw); go_simp <;> with_reducible rfl)
          simp only [Act.put, List.setIfInBounds_toArray, List.set_cons_zero, List.set_cons_succ]
          refine' wpAnyH_take (i := 9) (oi := { dst := some 49, op := Go.Op.move (Go.Operand.tmp 0), type := 9, pos := "ref.go:25", after := #[], guard := none }) (v := _) rfl (by kernel_rfl) (by kernel_rfl) (by kernel_rfl) (fun _ _ _ h => h) (Or.inl ⟨by rfl, ?hy25⟩) (by assumption) ?hr25
          case hy25 => (intro _ hSw; (try dsimp only at hSw); go_simp <;> with_reducible rfl)
          simp only [Act.put, List.setIfInBounds_toArray, List.set_cons_zero, List.set_cons_succ]
          refine' wpAnyH_take (i := 10) (oi := { dst := some 50, op := Go.Op.call { callee := Go.Callee.builtin Go.Builtin.len, args := #[Go.Operand.tmp 49], argTypes := #[9] }, type := 3, pos := "ref.go:25", after := #[{ on := 9, ground := Go.Ground.data }], guard := none }) (v := _) rfl (by kernel_rfl) (by kernel_rfl) (by kernel_rfl) (fun _ _ _ h => h) (Or.inl ⟨by rfl, ?hy26⟩) (by assumption) ?hr26
          case hy26 => (intro _ hSw; (try dsimp only at hSw); go_simp <;> with_reducible rfl)
          simp only [Act.put, List.setIfInBounds_toArray, List.set_cons_zero, List.set_cons_succ]
          refine' wpAnyH_take (i := 11) (oi := { dst := some 51, op := Go.Op.move (Go.Operand.tmp 9), type := 3, pos := "ref.go:25", after := #[], guard := none }) (v := _) rfl (by kernel_rfl) (by kernel_rfl) (by kernel_rfl) (fun _ _ _ h => h) (Or.inl ⟨by rfl, ?hy27⟩) (by assumption) ?hr27
          case hy27 => (intro _ hSw; (try dsimp only at hSw); go_simp <;> with_reducible rfl)
          simp only [Act.put, List.setIfInBounds_toArray, List.set_cons_zero, List.set_cons_succ]
          refine' wpAnyH_take (i := 12) (oi := { dst := some 52, op := Go.Op.binOp Go.BinOp.add 3 (Go.Operand.tmp 51) (Go.Operand.const (Go.Value.int Go.IntKind.i64 1)) 3, type := 3, pos := "ref.go:25", after := #[{ on := 11, ground := Go.Ground.data }], guard := none }) (v := _) rfl (by kernel_rfl) (by kernel_rfl) (by kernel_rfl) (fun _ _ _ h => h) (Or.inl ⟨by rfl, ?hy28⟩) (by assumption) ?hr28
          case hy28 => (intro _ hSw; (try dsimp only at hSw); go_simp <;> with_reducible rfl)
          simp only [Act.put, List.setIfInBounds_toArray, List.set_cons_zero, List.set_cons_succ]
          refine' wpAnyH_take (i := 13) (oi := { dst := some 53, op := Go.Op.move (Go.Operand.tmp 6), type := 3, pos := "ref.go:25", after := #[], guard := none }) (v := _) rfl (by kernel_rfl) (by kernel_rfl) (by kernel_rfl) (fun _ _ _ h => h) (Or.inl ⟨by rfl, ?hy29⟩) (by assumption) ?hr29
          case hy29 => (intro _ hSw; (try dsimp only at hSw); go_simp <;> with_reducible rfl)
          simp only [Act.put, List.setIfInBounds_toArray, List.set_cons_zero, List.set_cons_succ]
          refine' wpAnyH_take (i := 14) (oi := { dst := some 54, op := Go.Op.binOp Go.BinOp.mul 3 (Go.Operand.tmp 52) (Go.Operand.tmp 53) 3, type := 3, pos := "ref.go:25", after := #[{ on := 12, ground := Go.Ground.data }, { on := 13, ground := Go.Ground.data }], guard := none }) (v := _) rfl (by kernel_rfl) (by kernel_rfl) (by kernel_rfl) (fun _ _ _ h => h) (Or.inl ⟨by rfl, ?hy30⟩) (by assumption) ?hr30
          case hy30 => (intro _ hSw; (try dsimp only at hSw); go_simp <;> with_reducible rfl)
          simp only [Act.put, List.setIfInBounds_toArray, List.set_cons_zero, List.set_cons_succ]
          refine' wpAnyH_take (i := 15) (oi := { dst := some 55, op := Go.Op.call { callee := Go.Callee.builtin Go.Builtin.min, args := #[Go.Operand.tmp 50, Go.Operand.tmp 54], argTypes := #[3, 3] }, type := 3, pos := "ref.go:25", after := #[{ on := 10, ground := Go.Ground.data }, { on := 14, ground := Go.Ground.data }], guard := none }) (v := _) rfl (by kernel_rfl) (by kernel_rfl) (by kernel_rfl) (fun _ _ _ h => h) (Or.inl ⟨by rfl, ?hy31⟩) (by assumption) ?hr31
          case hy31 => (intro _ hSw; (try dsimp only at hSw); go_simp <;> with_reducible rfl)
          simp only [Act.put, List.setIfInBounds_toArray, List.set_cons_zero, List.set_cons_succ]
          refine' wpAnyH_take (i := 16) (oi := { dst := some 56, op := Go.Op.slice 9 (Go.Operand.tmp 45) (some (Go.Operand.tmp 48)) (some (Go.Operand.tmp 55)) none, type := 9, pos := "ref.go:25", after := #[{ on := 5, ground := Go.Ground.data }, { on := 8, ground := Go.Ground.data }, { on := 15, ground := Go.Ground.data }], guard := none }) (v := _) rfl (by kernel_rfl) (by kernel_rfl) (by kernel_rfl) (fun _ _ _ h => h) (Or.inl ⟨by rfl, ?hy32⟩) (by assumption) ?hr32
          case hy32 => (intro _ hSw; (try dsimp only at hSw); go_simp <;> with_reducible rfl)
          simp only [Act.put, List.setIfInBounds_toArray, List.set_cons_zero, List.set_cons_succ]
          refine wpAnyH_ready (rs := [3]) (by kernel_rfl) (by simp) ?_
          refine AllReadyH.cons (o := { dst := some 43, op := Go.Op.buildSlice 37 1 #[(0, Go.Operand.tmp 42)], type := 37, pos := "ref.go:25", after := #[{ on := 2, ground := Go.Ground.data }], guard := none }) rfl (fun K hK => ?_) AllReadyH.nil
          go_simp
          refine hK.out _ _ trivial (fun hNext => ?_)
          clear hK K hHeld
          have hHeld := hNext
          clear hNext
          (try simp only [Act.put, List.setIfInBounds_toArray, List.set_cons_zero, List.set_cons_succ])
          refine wpAnyH_ready (rs := [4]) (by kernel_rfl) (by simp) ?_
          refine AllReadyH.cons (o := { dst := some 44, op := Go.Op.convert 37 9 (Go.Operand.tmp 43), type := 9, pos := "ref.go:25", after := #[{ on := 3, ground := Go.Ground.data }], guard := none }) rfl (fun K hK => ?_) AllReadyH.nil
          have hcx := hcv (wr.alloc (.cells #[.int .u8 193] 5)).drew wr.heap.size (cell_of (nest wr [_] 0 _ rfl) rfl); go_simp
          refine hK.out _ _ trivial (fun hNext => ?_)
          clear hK K hHeld
          have hHeld := hNext
          clear hNext
          (try simp only [Act.put, List.setIfInBounds_toArray, List.set_cons_zero, List.set_cons_succ])
          refine' wpAnyH_take (i := 17) (oi := { dst := some 57, op := Go.Op.binOp Go.BinOp.add 9 (Go.Operand.tmp 44) (Go.Operand.tmp 56) 9, type := 9, pos := "ref.go:25", after := #[{ on := 4, ground := Go.Ground.data }, { on := 16, ground := Go.Ground.data }], guard := none }) (v := _) rfl (by kernel_rfl) (by kernel_rfl) (by kernel_rfl) (fun _ _ _ h => h) (Or.inl ⟨by rfl, ?hy33⟩) (by assumption) ?hr33
          case hy33 => (intro _ hSw; (try dsimp only at hSw); go_simp <;> with_reducible rfl)
          simp only [Act.put, List.setIfInBounds_toArray, List.set_cons_zero, List.set_cons_succ]
          have O2 : Hid (RowB (wr.alloc (.cells #[.int .u8 193] 5)).drew w.heap.size v (upto s m k)) := Lib.hid (O1.out.below (nest_below wr [_]).drew)
          have G2 : Hid (Below w.heap.size w (wr.alloc (.cells #[.int .u8 193] 5)).drew) := Lib.hid (below_on G1.out (nest_below wr [_]).drew)
          clear O1 G1 hcv
          generalize (wr.alloc (.cells #[.int .u8 193] 5)).drew = w2 at O2 G2 ⊢
          obtain ⟨v', w3, hr, ho, hg⟩ := run_append_piece w2 23 w.heap.size v (upto s m k) O2.out px HLN.out G2.out.size
          have O3 : Hid (RowB w3 w.heap.size v' (upto s m (k + 1))) := Lib.hid (by rw [upto_succ, HC.out, HPX.out]; exact ho)
          have G3 := Lib.hid (grow_piece G2.out O2.out hg)
          clear ho hg O2 G2
          refine wpAnyH_ready (rs := [18]) (by kernel_rfl) (by simp) ?_
          refine AllReadyH.cons (o := { dst := some 58, op := Go.Op.buildSlice 23 1 #[(0, Go.Operand.tmp 57)], type := 23, pos := "ref.go:25", after := #[{ on := 17, ground := Go.Ground.data }], guard := none }) rfl (fun K hK => ?_) AllReadyH.nil
          go_simp
          refine hK.out _ _ trivial (fun hNext => ?_)
          clear hK K hHeld
          have hHeld := hNext
          clear hNext
          (try simp only [Act.put, List.setIfInBounds_toArray, List.set_cons_zero, List.set_cons_succ])
          refine wpAnyH_ready (rs := [19]) (by kernel_rfl) (by simp) ?_
          refine AllReadyH.cons (o := { dst := some 59, op := Go.Op.call { callee := Go.Callee.builtin Go.Builtin.append, args := #[Go.Operand.tmp 40, Go.Operand.tmp 58], argTypes := #[23, 23] }, type := 23, pos := "ref.go:25", after := #[{ on := 0, ground := Go.Ground.data }, { on := 18, ground := Go.Ground.data }], guard := none }) rfl (fun K hK => ?_) AllReadyH.nil
          refine step_append_known rfl _ _ _ _ rfl rfl rfl hr ?_
          refine hK.out _ _ trivial (fun hNext => ?_)
          clear hr hK K hHeld
          have hHeld := hNext
          clear hNext
          (try simp only [Act.put, List.setIfInBounds_toArray, List.set_cons_zero, List.set_cons_succ])
          refine' wpAnyH_take (i := 20) (oi := { dst := some 8, op := Go.Op.assign (Go.Operand.tmp 59), type := 23, pos := "ref.go:25", after := #[{ on := 19, ground := Go.Ground.data }, { on := 19, ground := Go.Ground.chain }, { on := 0, ground := Go.Ground.phase }, { on := 1, ground := Go.Ground.phase }, { on := 2, ground := Go.Ground.phase }, { on := 3, ground := Go.Ground.phase }, { on := 4, ground := Go.Ground.phase }, { on := 5, ground := Go.Ground.phase }, { on := 6, ground := Go.Ground.phase }, { on := 7, ground := Go.Ground.phase }, { on := 8, ground := Go.Ground.phase }, { on := 9, ground := Go.Ground.phase }, { on := 10, ground := Go.Ground.phase }, { on := 11, ground := Go.Ground.phase }, { on := 12, ground := Go.Ground.phase }, { on := 13, ground := Go.Ground.phase }, { on := 14, ground := Go.Ground.phase }, { on := 15, ground := Go.Ground.phase }, { on := 16, ground := Go.Ground.phase }, { on := 17, ground := Go.Ground.phase }, { on := 18, ground := Go.Ground.phase }, { on := 19, ground := Go.Ground.phase }], guard := none }) (v := _) rfl (by kernel_rfl) (by kernel_rfl) (by kernel_rfl) (fun _ _ _ h => h) (Or.inl ⟨by rfl, ?hy34⟩) (by assumption) ?hr34
          case hy34 => (intro _ hSw; (try dsimp only at hSw); go_simp <;> with_reducible rfl)
          simp only [Act.put, List.setIfInBounds_toArray, List.set_cons_zero, List.set_cons_succ]
          refine wpAnyH_done (by kernel_rfl) ?_ _
          clear hHeld
          go_wp2
          go_roundg (c - kk)
          case measure => omega
          case rel => exact ⟨k + 1, v', rfl, by rw [hkk], by omega, by omega, O3, G3⟩
        · have e1 : ((k : Int) == 0) = true := by rw [beq_iff_eq]; omega
          have e3 : ((k : Int) == (c1 : Int)) = false := by rw [beq_eq_false_iff_ne]; omega
          have e4 : ¬ (k : Int) = (c1 : Int) := by omega
          have hpx : pc s m c k = mk 129 x := by unfold pc; rw [hx2, show hd k c = 129 by unfold hd; rw [if_pos hz, if_neg hl]]
          obtain ⟨hh, hhv⟩ : ∃ hh : ByteArray, one 129 = hh := ⟨_, rfl⟩
          have hh1 : hh.size ≤ 8 := by rw [← hhv]; decide
          have hcv : ∀ (W : World) (b : Nat), W.cell? ⟨b, 0, none⟩ = some (.int .u8 129) → (convert 37 9 (.slice (some ⟨b, 0, none⟩) 1 1)).run Try.prog W = .ok (.string hh) W := fun W b h0 => by rw [← hhv]; exact conv_at1 W b _ h0
          obtain ⟨px, hpx2⟩ : ∃ px, hh ++ x = px := ⟨_, rfl⟩
          have HPX : Hid (pc s m c k = px) := Lib.hid (by rw [hpx, ← hpx2, ← hhv]; rfl)
          have hcat : ¬ 9223372036854775807 < hh.size + x.size := by omega
          have vu : IntKind.u8.wrap 129 = 129 := by decide
          clear hpx hhv hx2 hz hl
          go_wp2_with fail
          refine wp_region_held_drew (S := (fun _ => True)) (by kernel_rfl) trivial (fun hHeld => ?_)
          refine' wpAnyH_take (i := 0) (oi := { dst := some 40, op := Go.Op.move (Go.Operand.tmp 8), type := 23, pos := "ref.go:25", after := #[], guard := none }) (v := _) rfl (by kernel_rfl) (by kernel_rfl) (by kernel_rfl) (fun _ _ _ h => h) (Or.inl ⟨by rfl, ?hy35⟩) (by assumption) ?hr35
          case hy35 => (intro _ hSw; (try dsimp only at hSw); go_simp <;> with_reducible rfl)
          simp only [Act.put, List.setIfInBounds_toArray, List.set_cons_zero, List.set_cons_succ]
          refine' wpAnyH_take (i := 1) (oi := { dst := some 41, op := Go.Op.move (Go.Operand.tmp 10), type := 3, pos := "ref.go:25", after := #[], guard := none }) (v := _) rfl (by kernel_rfl) (by kernel_rfl) (by kernel_rfl) (fun _ _ _ h => h) (Or.inl ⟨by rfl, ?hy36⟩) (by assumption) ?hr36
          case hy36 => (intro _ hSw; (try dsimp only at hSw); go_simp <;> with_reducible rfl)
          simp only [Act.put, List.setIfInBounds_toArray, List.set_cons_zero, List.set_cons_succ]
          refine' wpAnyH_take (i := 2) (oi := { dst := some 42, op := Go.Op.convert 3 5 (Go.Operand.tmp 41), type := 5, pos := "ref.go:25", after := #[{ on := 1, ground := Go.Ground.data }], guard := none }) (v := _) rfl (by kernel_rfl) (by kernel_rfl) (by kernel_rfl) (fun _ _ _ h => h) (Or.inl ⟨by rfl, ?hy37⟩) (by assumption) ?hr37
          case hy37 => (intro _ hSw; (try dsimp only at hSw); go_simp <;> with_reducible rfl)
          simp only [Act.put, List.setIfInBounds_toArray, List.set_cons_zero, List.set_cons_succ]
          refine' wpAnyH_take (i := 5) (oi := { dst := some 45, op := Go.Op.move (Go.Operand.tmp 0), type := 9, pos := "ref.go:25", after := #[], guard := none }) (v := _) rfl (by kernel_rfl) (by kernel_rfl) (by kernel_rfl) (fun _ _ _ h => h) (Or.inl ⟨by rfl, ?hy38⟩) (by assumption) ?hr38
          case hy38 => (intro _ hSw; (try dsimp only at hSw); go_simp <;> with_reducible rfl)
          simp only [Act.put, List.setIfInBounds_toArray, List.set_cons_zero, List.set_cons_succ]
          refine' wpAnyH_take (i := 6) (oi := { dst := some 46, op := Go.Op.move (Go.Operand.tmp 9), type := 3, pos := "ref.go:25", after := #[], guard := none }) (v := _) rfl (by kernel_rfl) (by kernel_rfl) (by kernel_rfl) (fun _ _ _ h => h) (Or.inl ⟨by rfl, ?hy39⟩) (by assumption) ?hr39
          case hy39 => (intro _ hSw; (try dsimp only at hSw); go_simp <;> with_reducible rfl)
          simp only [Act.put, List.setIfInBounds_toArray, List.set_cons_zero, List.set_cons_succ]
          refine' wpAnyH_take (i := 7) (oi := { dst := some 47, op := Go.Op.move (Go.Operand.tmp 6), type := 3, pos := "ref.go:25", after := #[], guard := none }) (v := _) rfl (by kernel_rfl) (by kernel_rfl) (by kernel_rfl) (fun _ _ _ h => h) (Or.inl ⟨by rfl, ?hy40⟩) (by assumption) ?hr40
          case hy40 => (intro _ hSw; (try dsimp only at hSw); go_simp <;> with_reducible rfl)
          simp only [Act.put, List.setIfInBounds_toArray, List.set_cons_zero, List.set_cons_succ]
          refine' wpAnyH_take (i := 8) (oi := { dst := some 48, op := Go.Op.binOp Go.BinOp.mul 3 (Go.Operand.tmp 46) (Go.Operand.tmp 47) 3, type := 3, pos := "ref.go:25", after := #[{ on := 6, ground := Go.Ground.data }, { on := 7, ground := Go.Ground.data }], guard := none }) (v := _) rfl (by kernel_rfl) (by kernel_rfl) (by kernel_rfl) (fun _ _ _ h => h) (Or.inl ⟨by rfl, ?hy41⟩) (by assumption) ?hr41
          case hy41 => (intro _ hSw; (try dsimp only at hSw); go_simp <;> with_reducible rfl)
          simp only [Act.put, List.setIfInBounds_toArray, List.set_cons_zero, List.set_cons_succ]
          refine' wpAnyH_take (i := 9) (oi := { dst := some 49, op := Go.Op.move (Go.Operand.tmp 0), type := 9, pos := "ref.go:25", after := #[], guard := none }) (v := _) rfl (by kernel_rfl) (by kernel_rfl) (by kernel_rfl) (fun _ _ _ h => h) (Or.inl ⟨by rfl, ?hy42⟩) (by assumption) ?hr42
          case hy42 => (intro _ hSw; (try dsimp only at hSw); go_simp <;> with_reducible rfl)
          simp only [Act.put, List.setIfInBounds_toArray, List.set_cons_zero, List.set_cons_succ]
          refine' wpAnyH_take (i := 10) (oi := { dst := some 50, op := Go.Op.call { callee := Go.Callee.builtin Go.Builtin.len, args := #[Go.Operand.tmp 49], argTypes := #[9] }, type := 3, pos := "ref.go:25", after := #[{ on := 9, ground := Go.Ground.data }], guard := none }) (v := _) rfl (by kernel_rfl) (by kernel_rfl) (by kernel_rfl) (fun _ _ _ h => h) (Or.inl ⟨by rfl, ?hy43⟩) (by assumption) ?hr43
          case hy43 => (intro _ hSw; (try dsimp only at hSw); go_simp <;> with_reducible rfl)
          simp only [Act.put, List.setIfInBounds_toArray, List.set_cons_zero, List.set_cons_succ]
          refine' wpAnyH_take (i := 11) (oi := { dst := some 51, op := Go.Op.move (Go.Operand.tmp 9), type := 3, pos := "ref.go:25", after := #[], guard := none }) (v := _) rfl (by kernel_rfl) (by kernel_rfl) (by kernel_rfl) (fun _ _ _ h => h) (Or.inl ⟨by rfl, ?hy44⟩) (by assumption) ?hr44
          case hy44 => (intro _ hSw; (try dsimp only at hSw); go_simp <;> with_reducible rfl)
          simp only [Act.put, List.setIfInBounds_toArray, List.set_cons_zero, List.set_cons_succ]
          refine' wpAnyH_take (i := 12) (oi := { dst := some 52, op := Go.Op.binOp Go.BinOp.add 3 (Go.Operand.tmp 51) (Go.Operand.const (Go.Value.int Go.IntKind.i64 1)) 3, type := 3, pos := "ref.go:25", after := #[{ on := 11, ground := Go.Ground.data }], guard := none }) (v := _) rfl (by kernel_rfl) (by kernel_rfl) (by kernel_rfl) (fun _ _ _ h => h) (Or.inl ⟨by rfl, ?hy45⟩) (by assumption) ?hr45
          case hy45 => (intro _ hSw; (try dsimp only at hSw); go_simp <;> with_reducible rfl)
          simp only [Act.put, List.setIfInBounds_toArray, List.set_cons_zero, List.set_cons_succ]
          refine' wpAnyH_take (i := 13) (oi := { dst := some 53, op := Go.Op.move (Go.Operand.tmp 6), type := 3, pos := "ref.go:25", after := #[], guard := none }) (v := _) rfl (by kernel_rfl) (by kernel_rfl) (by kernel_rfl) (fun _ _ _ h => h) (Or.inl ⟨by rfl, ?hy46⟩) (by assumption) ?hr46
          case hy46 => (intro _ hSw; (try dsimp only at hSw); go_simp <;> with_reducible rfl)
          simp only [Act.put, List.setIfInBounds_toArray, List.set_cons_zero, List.set_cons_succ]
          refine' wpAnyH_take (i := 14) (oi := { dst := some 54, op := Go.Op.binOp Go.BinOp.mul 3 (Go.Operand.tmp 52) (Go.Operand.tmp 53) 3, type := 3, pos := "ref.go:25", after := #[{ on := 12, ground := Go.Ground.data }, { on := 13, ground := Go.Ground.data }], guard := none }) (v := _) rfl (by kernel_rfl) (by kernel_rfl) (by kernel_rfl) (fun _ _ _ h => h) (Or.inl ⟨by rfl, ?hy47⟩) (by assumption) ?hr47
          case hy47 => (intro _ hSw; (try dsimp only at hSw); go_simp <;> with_reducible rfl)
          simp only [Act.put, List.setIfInBounds_toArray, List.set_cons_zero, List.set_cons_succ]
          refine' wpAnyH_take (i := 15) (oi := { dst := some 55, op := Go.Op.call { callee := Go.Callee.builtin Go.Builtin.min, args := #[Go.Operand.tmp 50, Go.Operand.tmp 54], argTypes := #[3, 3] }, type := 3, pos := "ref.go:25", after := #[{ on := 10, ground := Go.Ground.data }, { on := 14, ground := Go.Ground.data }], guard := none }) (v := _) rfl (by kernel_rfl) (by kernel_rfl) (by kernel_rfl) (fun _ _ _ h => h) (Or.inl ⟨by rfl, ?hy48⟩) (by assumption) ?hr48
          case hy48 => (intro _ hSw; (try dsimp only at hSw); go_simp <;> with_reducible rfl)
          simp only [Act.put, List.setIfInBounds_toArray, List.set_cons_zero, List.set_cons_succ]
          refine' wpAnyH_take (i := 16) (oi := { dst := some 56, op := Go.Op.slice 9 (Go.Operand.tmp 45) (some (Go.Operand.tmp 48)) (some (Go.Operand.tmp 55)) none, type := 9, pos := "ref.go:25", after := #[{ on := 5, ground := Go.Ground.data }, { on := 8, ground := Go.Ground.data }, { on := 15, ground := Go.Ground.data }], guard := none }) (v := _) rfl (by kernel_rfl) (by kernel_rfl) (by kernel_rfl) (fun _ _ _ h => h) (Or.inl ⟨by rfl, ?hy49⟩) (by assumption) ?hr49
          case hy49 => (intro _ hSw; (try dsimp only at hSw); go_simp <;> with_reducible rfl)
          simp only [Act.put, List.setIfInBounds_toArray, List.set_cons_zero, List.set_cons_succ]
          refine wpAnyH_ready (rs := [3]) (by kernel_rfl) (by simp) ?_
          refine AllReadyH.cons (o := { dst := some 43, op := Go.Op.buildSlice 37 1 #[(0, Go.Operand.tmp 42)], type := 37, pos := "ref.go:25", after := #[{ on := 2, ground := Go.Ground.data }], guard := none }) rfl (fun K hK => ?_) AllReadyH.nil
          go_simp
          refine hK.out _ _ trivial (fun hNext => ?_)
          clear hK K hHeld
          have hHeld := hNext
          clear hNext
          (try simp only [Act.put, List.setIfInBounds_toArray, List.set_cons_zero, List.set_cons_succ])
          refine wpAnyH_ready (rs := [4]) (by kernel_rfl) (by simp) ?_
          refine AllReadyH.cons (o := { dst := some 44, op := Go.Op.convert 37 9 (Go.Operand.tmp 43), type := 9, pos := "ref.go:25", after := #[{ on := 3, ground := Go.Ground.data }], guard := none }) rfl (fun K hK => ?_) AllReadyH.nil
          have hcx := hcv (wr.alloc (.cells #[.int .u8 129] 5)).drew wr.heap.size (cell_of (nest wr [_] 0 _ rfl) rfl); go_simp
          refine hK.out _ _ trivial (fun hNext => ?_)
          clear hK K hHeld
          have hHeld := hNext
          clear hNext
          (try simp only [Act.put, List.setIfInBounds_toArray, List.set_cons_zero, List.set_cons_succ])
          refine' wpAnyH_take (i := 17) (oi := { dst := some 57, op := Go.Op.binOp Go.BinOp.add 9 (Go.Operand.tmp 44) (Go.Operand.tmp 56) 9, type := 9, pos := "ref.go:25", after := #[{ on := 4, ground := Go.Ground.data }, { on := 16, ground := Go.Ground.data }], guard := none }) (v := _) rfl (by kernel_rfl) (by kernel_rfl) (by kernel_rfl) (fun _ _ _ h => h) (Or.inl ⟨by rfl, ?hy50⟩) (by assumption) ?hr50
          case hy50 => (intro _ hSw; (try dsimp only at hSw); go_simp <;> with_reducible rfl)
          simp only [Act.put, List.setIfInBounds_toArray, List.set_cons_zero, List.set_cons_succ]
          have O2 : Hid (RowB (wr.alloc (.cells #[.int .u8 129] 5)).drew w.heap.size v (upto s m k)) := Lib.hid (O1.out.below (nest_below wr [_]).drew)
          have G2 : Hid (Below w.heap.size w (wr.alloc (.cells #[.int .u8 129] 5)).drew) := Lib.hid (below_on G1.out (nest_below wr [_]).drew)
          clear O1 G1 hcv
          generalize (wr.alloc (.cells #[.int .u8 129] 5)).drew = w2 at O2 G2 ⊢
          obtain ⟨v', w3, hr, ho, hg⟩ := run_append_piece w2 23 w.heap.size v (upto s m k) O2.out px HLN.out G2.out.size
          have O3 : Hid (RowB w3 w.heap.size v' (upto s m (k + 1))) := Lib.hid (by rw [upto_succ, HC.out, HPX.out]; exact ho)
          have G3 := Lib.hid (grow_piece G2.out O2.out hg)
          clear ho hg O2 G2
          refine wpAnyH_ready (rs := [18]) (by kernel_rfl) (by simp) ?_
          refine AllReadyH.cons (o := { dst := some 58, op := Go.Op.buildSlice 23 1 #[(0, Go.Operand.tmp 57)], type := 23, pos := "ref.go:25", after := #[{ on := 17, ground := Go.Ground.data }], guard := none }) rfl (fun K hK => ?_) AllReadyH.nil
          go_simp
          refine hK.out _ _ trivial (fun hNext => ?_)
          clear hK K hHeld
          have hHeld := hNext
          clear hNext
          (try simp only [Act.put, List.setIfInBounds_toArray, List.set_cons_zero, List.set_cons_succ])
          refine wpAnyH_ready (rs := [19]) (by kernel_rfl) (by simp) ?_
          refine AllReadyH.cons (o := { dst := some 59, op := Go.Op.call { callee := Go.Callee.builtin Go.Builtin.append, args := #[Go.Operand.tmp 40, Go.Operand.tmp 58], argTypes := #[23, 23] }, type := 23, pos := "ref.go:25", after := #[{ on := 0, ground := Go.Ground.data }, { on := 18, ground := Go.Ground.data }], guard := none }) rfl (fun K hK => ?_) AllReadyH.nil
          refine step_append_known rfl _ _ _ _ rfl rfl rfl hr ?_
          refine hK.out _ _ trivial (fun hNext => ?_)
          clear hr hK K hHeld
          have hHeld := hNext
          clear hNext
          (try simp only [Act.put, List.setIfInBounds_toArray, List.set_cons_zero, List.set_cons_succ])
          refine' wpAnyH_take (i := 20) (oi := { dst := some 8, op := Go.Op.assign (Go.Operand.tmp 59), type := 23, pos := "ref.go:25", after := #[{ on := 19, ground := Go.Ground.data }, { on := 19, ground := Go.Ground.chain }, { on := 0, ground := Go.Ground.phase }, { on := 1, ground := Go.Ground.phase }, { on := 2, ground := Go.Ground.phase }, { on := 3, ground := Go.Ground.phase }, { on := 4, ground := Go.Ground.phase }, { on := 5, ground := Go.Ground.phase }, { on := 6, ground := Go.Ground.phase }, { on := 7, ground := Go.Ground.phase }, { on := 8, ground := Go.Ground.phase }, { on := 9, ground := Go.Ground.phase }, { on := 10, ground := Go.Ground.phase }, { on := 11, ground := Go.Ground.phase }, { on := 12, ground := Go.Ground.phase }, { on := 13, ground := Go.Ground.phase }, { on := 14, ground := Go.Ground.phase }, { on := 15, ground := Go.Ground.phase }, { on := 16, ground := Go.Ground.phase }, { on := 17, ground := Go.Ground.phase }, { on := 18, ground := Go.Ground.phase }, { on := 19, ground := Go.Ground.phase }], guard := none }) (v := _) rfl (by kernel_rfl) (by kernel_rfl) (by kernel_rfl) (fun _ _ _ h => h) (Or.inl ⟨by rfl, ?hy51⟩) (by assumption) ?hr51
          case hy51 => (intro _ hSw; (try dsimp only at hSw); go_simp <;> with_reducible rfl)
          simp only [Act.put, List.setIfInBounds_toArray, List.set_cons_zero, List.set_cons_succ]
          refine wpAnyH_done (by kernel_rfl) ?_ _
          clear hHeld
          go_wp2
          go_roundg (c - kk)
          case measure => omega
          case rel => exact ⟨k + 1, v', rfl, by rw [hkk], by omega, by omega, O3, G3⟩
      · by_cases hl : k + 1 = c
        · have e1 : ((k : Int) == 0) = false := by rw [beq_eq_false_iff_ne]; omega
          have e3 : ((k : Int) == (c1 : Int)) = true := by rw [beq_iff_eq]; omega
          have hpx : pc s m c k = mk 65 x := by unfold pc; rw [hx2, show hd k c = 65 by unfold hd; rw [if_neg hz, if_pos hl]]
          obtain ⟨hh, hhv⟩ : ∃ hh : ByteArray, one 65 = hh := ⟨_, rfl⟩
          have hh1 : hh.size ≤ 8 := by rw [← hhv]; decide
          have hcv : ∀ (W : World) (b : Nat), W.cell? ⟨b, 0, none⟩ = some (.int .u8 65) → (convert 37 9 (.slice (some ⟨b, 0, none⟩) 1 1)).run Try.prog W = .ok (.string hh) W := fun W b h0 => by rw [← hhv]; exact conv_at1 W b _ h0
          obtain ⟨px, hpx2⟩ : ∃ px, hh ++ x = px := ⟨_, rfl⟩
          have HPX : Hid (pc s m c k = px) := Lib.hid (by rw [hpx, ← hpx2, ← hhv]; rfl)
          have e6 : ¬ (k : Int) = 0 := by omega
          have hcat : ¬ 9223372036854775807 < hh.size + x.size := by omega
          have vu : IntKind.u8.wrap 65 = 65 := by decide
          clear hpx hhv hx2 hz hl
          go_wp2_with fail
          refine wp_region_held_drew (S := (fun _ => True)) (by kernel_rfl) trivial (fun hHeld => ?_)
          refine' wpAnyH_take (i := 0) (oi := { dst := some 40, op := Go.Op.move (Go.Operand.tmp 8), type := 23, pos := "ref.go:25", after := #[], guard := none }) (v := _) rfl (by kernel_rfl) (by kernel_rfl) (by kernel_rfl) (fun _ _ _ h => h) (Or.inl ⟨by rfl, ?hy52⟩) (by assumption) ?hr52
          case hy52 => (intro _ hSw; (try dsimp only at hSw); go_simp <;> with_reducible rfl)
          simp only [Act.put, List.setIfInBounds_toArray, List.set_cons_zero, List.set_cons_succ]
          refine' wpAnyH_take (i := 1) (oi := { dst := some 41, op := Go.Op.move (Go.Operand.tmp 10), type := 3, pos := "ref.go:25", after := #[], guard := none }) (v := _) rfl (by kernel_rfl) (by kernel_rfl) (by kernel_rfl) (fun _ _ _ h => h) (Or.inl ⟨by rfl, ?hy53⟩) (by assumption) ?hr53
          case hy53 => (intro _ hSw; (try dsimp only at hSw); go_simp <;> with_reducible rfl)
          simp only [Act.put, List.setIfInBounds_toArray, List.set_cons_zero, List.set_cons_succ]
          refine' wpAnyH_take (i := 2) (oi := { dst := some 42, op := Go.Op.convert 3 5 (Go.Operand.tmp 41), type := 5, pos := "ref.go:25", after := #[{ on := 1, ground := Go.Ground.data }], guard := none }) (v := _) rfl (by kernel_rfl) (by kernel_rfl) (by kernel_rfl) (fun _ _ _ h => h) (Or.inl ⟨by rfl, ?hy54⟩) (by assumption) ?hr54
          case hy54 => (intro _ hSw; (try dsimp only at hSw); go_simp <;> with_reducible rfl)
          simp only [Act.put, List.setIfInBounds_toArray, List.set_cons_zero, List.set_cons_succ]
          refine' wpAnyH_take (i := 5) (oi := { dst := some 45, op := Go.Op.move (Go.Operand.tmp 0), type := 9, pos := "ref.go:25", after := #[], guard := none }) (v := _) rfl (by kernel_rfl) (by kernel_rfl) (by kernel_rfl) (fun _ _ _ h => h) (Or.inl ⟨by rfl, ?hy55⟩) (by assumption) ?hr55
          case hy55 => (intro _ hSw; (try dsimp only at hSw); go_simp <;> with_reducible rfl)
          simp only [Act.put, List.setIfInBounds_toArray, List.set_cons_zero, List.set_cons_succ]
          refine' wpAnyH_take (i := 6) (oi := { dst := some 46, op := Go.Op.move (Go.Operand.tmp 9), type := 3, pos := "ref.go:25", after := #[], guard := none }) (v := _) rfl (by kernel_rfl) (by kernel_rfl) (by kernel_rfl) (fun _ _ _ h => h) (Or.inl ⟨by rfl, ?hy56⟩) (by assumption) ?hr56
          case hy56 => (intro _ hSw; (try dsimp only at hSw); go_simp <;> with_reducible rfl)
          simp only [Act.put, List.setIfInBounds_toArray, List.set_cons_zero, List.set_cons_succ]
          refine' wpAnyH_take (i := 7) (oi := { dst := some 47, op := Go.Op.move (Go.Operand.tmp 6), type := 3, pos := "ref.go:25", after := #[], guard := none }) (v := _) rfl (by kernel_rfl) (by kernel_rfl) (by kernel_rfl) (fun _ _ _ h => h) (Or.inl ⟨by rfl, ?hy57⟩) (by assumption) ?hr57
          case hy57 => (intro _ hSw; (try dsimp only at hSw); go_simp <;> with_reducible rfl)
          simp only [Act.put, List.setIfInBounds_toArray, List.set_cons_zero, List.set_cons_succ]
          refine' wpAnyH_take (i := 8) (oi := { dst := some 48, op := Go.Op.binOp Go.BinOp.mul 3 (Go.Operand.tmp 46) (Go.Operand.tmp 47) 3, type := 3, pos := "ref.go:25", after := #[{ on := 6, ground := Go.Ground.data }, { on := 7, ground := Go.Ground.data }], guard := none }) (v := _) rfl (by kernel_rfl) (by kernel_rfl) (by kernel_rfl) (fun _ _ _ h => h) (Or.inl ⟨by rfl, ?hy58⟩) (by assumption) ?hr58
          case hy58 => (intro _ hSw; (try dsimp only at hSw); go_simp <;> with_reducible rfl)
          simp only [Act.put, List.setIfInBounds_toArray, List.set_cons_zero, List.set_cons_succ]
          refine' wpAnyH_take (i := 9) (oi := { dst := some 49, op := Go.Op.move (Go.Operand.tmp 0), type := 9, pos := "ref.go:25", after := #[], guard := none }) (v := _) rfl (by kernel_rfl) (by kernel_rfl) (by kernel_rfl) (fun _ _ _ h => h) (Or.inl ⟨by rfl, ?hy59⟩) (by assumption) ?hr59
          case hy59 => (intro _ hSw; (try dsimp only at hSw); go_simp <;> with_reducible rfl)
          simp only [Act.put, List.setIfInBounds_toArray, List.set_cons_zero, List.set_cons_succ]
          refine' wpAnyH_take (i := 10) (oi := { dst := some 50, op := Go.Op.call { callee := Go.Callee.builtin Go.Builtin.len, args := #[Go.Operand.tmp 49], argTypes := #[9] }, type := 3, pos := "ref.go:25", after := #[{ on := 9, ground := Go.Ground.data }], guard := none }) (v := _) rfl (by kernel_rfl) (by kernel_rfl) (by kernel_rfl) (fun _ _ _ h => h) (Or.inl ⟨by rfl, ?hy60⟩) (by assumption) ?hr60
          case hy60 => (intro _ hSw; (try dsimp only at hSw); go_simp <;> with_reducible rfl)
          simp only [Act.put, List.setIfInBounds_toArray, List.set_cons_zero, List.set_cons_succ]
          refine' wpAnyH_take (i := 11) (oi := { dst := some 51, op := Go.Op.move (Go.Operand.tmp 9), type := 3, pos := "ref.go:25", after := #[], guard := none }) (v := _) rfl (by kernel_rfl) (by kernel_rfl) (by kernel_rfl) (fun _ _ _ h => h) (Or.inl ⟨by rfl, ?hy61⟩) (by assumption) ?hr61
          case hy61 => (intro _ hSw; (try dsimp only at hSw); go_simp <;> with_reducible rfl)
          simp only [Act.put, List.setIfInBounds_toArray, List.set_cons_zero, List.set_cons_succ]
          refine' wpAnyH_take (i := 12) (oi := { dst := some 52, op := Go.Op.binOp Go.BinOp.add 3 (Go.Operand.tmp 51) (Go.Operand.const (Go.Value.int Go.IntKind.i64 1)) 3, type := 3, pos := "ref.go:25", after := #[{ on := 11, ground := Go.Ground.data }], guard := none }) (v := _) rfl (by kernel_rfl) (by kernel_rfl) (by kernel_rfl) (fun _ _ _ h => h) (Or.inl ⟨by rfl, ?hy62⟩) (by assumption) ?hr62
          case hy62 => (intro _ hSw; (try dsimp only at hSw); go_simp <;> with_reducible rfl)
          simp only [Act.put, List.setIfInBounds_toArray, List.set_cons_zero, List.set_cons_succ]
          refine' wpAnyH_take (i := 13) (oi := { dst := some 53, op := Go.Op.move (Go.Operand.tmp 6), type := 3, pos := "ref.go:25", after := #[], guard := none }) (v := _) rfl (by kernel_rfl) (by kernel_rfl) (by kernel_rfl) (fun _ _ _ h => h) (Or.inl ⟨by rfl, ?hy63⟩) (by assumption) ?hr63
          case hy63 => (intro _ hSw; (try dsimp only at hSw); go_simp <;> with_reducible rfl)
          simp only [Act.put, List.setIfInBounds_toArray, List.set_cons_zero, List.set_cons_succ]
          refine' wpAnyH_take (i := 14) (oi := { dst := some 54, op := Go.Op.binOp Go.BinOp.mul 3 (Go.Operand.tmp 52) (Go.Operand.tmp 53) 3, type := 3, pos := "ref.go:25", after := #[{ on := 12, ground := Go.Ground.data }, { on := 13, ground := Go.Ground.data }], guard := none }) (v := _) rfl (by kernel_rfl) (by kernel_rfl) (by kernel_rfl) (fun _ _ _ h => h) (Or.inl ⟨by rfl, ?hy64⟩) (by assumption) ?hr64
          case hy64 => (intro _ hSw; (try dsimp only at hSw); go_simp <;> with_reducible rfl)
          simp only [Act.put, List.setIfInBounds_toArray, List.set_cons_zero, List.set_cons_succ]
          refine' wpAnyH_take (i := 15) (oi := { dst := some 55, op := Go.Op.call { callee := Go.Callee.builtin Go.Builtin.min, args := #[Go.Operand.tmp 50, Go.Operand.tmp 54], argTypes := #[3, 3] }, type := 3, pos := "ref.go:25", after := #[{ on := 10, ground := Go.Ground.data }, { on := 14, ground := Go.Ground.data }], guard := none }) (v := _) rfl (by kernel_rfl) (by kernel_rfl) (by kernel_rfl) (fun _ _ _ h => h) (Or.inl ⟨by rfl, ?hy65⟩) (by assumption) ?hr65
          case hy65 => (intro _ hSw; (try dsimp only at hSw); go_simp <;> with_reducible rfl)
          simp only [Act.put, List.setIfInBounds_toArray, List.set_cons_zero, List.set_cons_succ]
          refine' wpAnyH_take (i := 16) (oi := { dst := some 56, op := Go.Op.slice 9 (Go.Operand.tmp 45) (some (Go.Operand.tmp 48)) (some (Go.Operand.tmp 55)) none, type := 9, pos := "ref.go:25", after := #[{ on := 5, ground := Go.Ground.data }, { on := 8, ground := Go.Ground.data }, { on := 15, ground := Go.Ground.data }], guard := none }) (v := _) rfl (by kernel_rfl) (by kernel_rfl) (by kernel_rfl) (fun _ _ _ h => h) (Or.inl ⟨by rfl, ?hy66⟩) (by assumption) ?hr66
          case hy66 => (intro _ hSw; (try dsimp only at hSw); go_simp <;> with_reducible rfl)
          simp only [Act.put, List.setIfInBounds_toArray, List.set_cons_zero, List.set_cons_succ]
          refine wpAnyH_ready (rs := [3]) (by kernel_rfl) (by simp) ?_
          refine AllReadyH.cons (o := { dst := some 43, op := Go.Op.buildSlice 37 1 #[(0, Go.Operand.tmp 42)], type := 37, pos := "ref.go:25", after := #[{ on := 2, ground := Go.Ground.data }], guard := none }) rfl (fun K hK => ?_) AllReadyH.nil
          go_simp
          refine hK.out _ _ trivial (fun hNext => ?_)
          clear hK K hHeld
          have hHeld := hNext
          clear hNext
          (try simp only [Act.put, List.setIfInBounds_toArray, List.set_cons_zero, List.set_cons_succ])
          refine wpAnyH_ready (rs := [4]) (by kernel_rfl) (by simp) ?_
          refine AllReadyH.cons (o := { dst := some 44, op := Go.Op.convert 37 9 (Go.Operand.tmp 43), type := 9, pos := "ref.go:25", after := #[{ on := 3, ground := Go.Ground.data }], guard := none }) rfl (fun K hK => ?_) AllReadyH.nil
          have hcx := hcv (wr.alloc (.cells #[.int .u8 65] 5)).drew wr.heap.size (cell_of (nest wr [_] 0 _ rfl) rfl); go_simp
          refine hK.out _ _ trivial (fun hNext => ?_)
          clear hK K hHeld
          have hHeld := hNext
          clear hNext
          (try simp only [Act.put, List.setIfInBounds_toArray, List.set_cons_zero, List.set_cons_succ])
          refine' wpAnyH_take (i := 17) (oi := { dst := some 57, op := Go.Op.binOp Go.BinOp.add 9 (Go.Operand.tmp 44) (Go.Operand.tmp 56) 9, type := 9, pos := "ref.go:25", after := #[{ on := 4, ground := Go.Ground.data }, { on := 16, ground := Go.Ground.data }], guard := none }) (v := _) rfl (by kernel_rfl) (by kernel_rfl) (by kernel_rfl) (fun _ _ _ h => h) (Or.inl ⟨by rfl, ?hy67⟩) (by assumption) ?hr67
          case hy67 => (intro _ hSw; (try dsimp only at hSw); go_simp <;> with_reducible rfl)
          simp only [Act.put, List.setIfInBounds_toArray, List.set_cons_zero, List.set_cons_succ]
          have O2 : Hid (RowB (wr.alloc (.cells #[.int .u8 65] 5)).drew w.heap.size v (upto s m k)) := Lib.hid (O1.out.below (nest_below wr [_]).drew)
          have G2 : Hid (Below w.heap.size w (wr.alloc (.cells #[.int .u8 65] 5)).drew) := Lib.hid (below_on G1.out (nest_below wr [_]).drew)
          clear O1 G1 hcv
          generalize (wr.alloc (.cells #[.int .u8 65] 5)).drew = w2 at O2 G2 ⊢
          obtain ⟨v', w3, hr, ho, hg⟩ := run_append_piece w2 23 w.heap.size v (upto s m k) O2.out px HLN.out G2.out.size
          have O3 : Hid (RowB w3 w.heap.size v' (upto s m (k + 1))) := Lib.hid (by rw [upto_succ, HC.out, HPX.out]; exact ho)
          have G3 := Lib.hid (grow_piece G2.out O2.out hg)
          clear ho hg O2 G2
          refine wpAnyH_ready (rs := [18]) (by kernel_rfl) (by simp) ?_
          refine AllReadyH.cons (o := { dst := some 58, op := Go.Op.buildSlice 23 1 #[(0, Go.Operand.tmp 57)], type := 23, pos := "ref.go:25", after := #[{ on := 17, ground := Go.Ground.data }], guard := none }) rfl (fun K hK => ?_) AllReadyH.nil
          go_simp
          refine hK.out _ _ trivial (fun hNext => ?_)
          clear hK K hHeld
          have hHeld := hNext
          clear hNext
          (try simp only [Act.put, List.setIfInBounds_toArray, List.set_cons_zero, List.set_cons_succ])
          refine wpAnyH_ready (rs := [19]) (by kernel_rfl) (by simp) ?_
          refine AllReadyH.cons (o := { dst := some 59, op := Go.Op.call { callee := Go.Callee.builtin Go.Builtin.append, args := #[Go.Operand.tmp 40, Go.Operand.tmp 58], argTypes := #[23, 23] }, type := 23, pos := "ref.go:25", after := #[{ on := 0, ground := Go.Ground.data }, { on := 18, ground := Go.Ground.data }], guard := none }) rfl (fun K hK => ?_) AllReadyH.nil
          refine step_append_known rfl _ _ _ _ rfl rfl rfl hr ?_
          refine hK.out _ _ trivial (fun hNext => ?_)
          clear hr hK K hHeld
          have hHeld := hNext
          clear hNext
          (try simp only [Act.put, List.setIfInBounds_toArray, List.set_cons_zero, List.set_cons_succ])
          refine' wpAnyH_take (i := 20) (oi := { dst := some 8, op := Go.Op.assign (Go.Operand.tmp 59), type := 23, pos := "ref.go:25", after := #[{ on := 19, ground := Go.Ground.data }, { on := 19, ground := Go.Ground.chain }, { on := 0, ground := Go.Ground.phase }, { on := 1, ground := Go.Ground.phase }, { on := 2, ground := Go.Ground.phase }, { on := 3, ground := Go.Ground.phase }, { on := 4, ground := Go.Ground.phase }, { on := 5, ground := Go.Ground.phase }, { on := 6, ground := Go.Ground.phase }, { on := 7, ground := Go.Ground.phase }, { on := 8, ground := Go.Ground.phase }, { on := 9, ground := Go.Ground.phase }, { on := 10, ground := Go.Ground.phase }, { on := 11, ground := Go.Ground.phase }, { on := 12, ground := Go.Ground.phase }, { on := 13, ground := Go.Ground.phase }, { on := 14, ground := Go.Ground.phase }, { on := 15, ground := Go.Ground.phase }, { on := 16, ground := Go.Ground.phase }, { on := 17, ground := Go.Ground.phase }, { on := 18, ground := Go.Ground.phase }, { on := 19, ground := Go.Ground.phase }], guard := none }) (v := _) rfl (by kernel_rfl) (by kernel_rfl) (by kernel_rfl) (fun _ _ _ h => h) (Or.inl ⟨by rfl, ?hy68⟩) (by assumption) ?hr68
          case hy68 => (intro _ hSw; (try dsimp only at hSw); go_simp <;> with_reducible rfl)
          simp only [Act.put, List.setIfInBounds_toArray, List.set_cons_zero, List.set_cons_succ]
          refine wpAnyH_done (by kernel_rfl) ?_ _
          clear hHeld
          go_wp2
          go_roundg (c - kk)
          case measure => omega
          case rel => exact ⟨k + 1, v', rfl, by rw [hkk], by omega, by omega, O3, G3⟩
        · have e1 : ((k : Int) == 0) = false := by rw [beq_eq_false_iff_ne]; omega
          have e3 : ((k : Int) == (c1 : Int)) = false := by rw [beq_eq_false_iff_ne]; omega
          have e4 : ¬ (k : Int) = (c1 : Int) := by omega
          have hpx : pc s m c k = mk 1 x := by unfold pc; rw [hx2, show hd k c = 1 by unfold hd; rw [if_neg hz, if_neg hl]]
          obtain ⟨hh, hhv⟩ : ∃ hh : ByteArray, one 1 = hh := ⟨_, rfl⟩
          have hh1 : hh.size ≤ 8 := by rw [← hhv]; decide
          have hcv : ∀ (W : World) (b : Nat), W.cell? ⟨b, 0, none⟩ = some (.int .u8 1) → (convert 37 9 (.slice (some ⟨b, 0, none⟩) 1 1)).run Try.prog W = .ok (.string hh) W := fun W b h0 => by rw [← hhv]; exact conv_at1 W b _ h0
          obtain ⟨px, hpx2⟩ : ∃ px, hh ++ x = px := ⟨_, rfl⟩
          have HPX : Hid (pc s m c k = px) := Lib.hid (by rw [hpx, ← hpx2, ← hhv]; rfl)
          have e6 : ¬ (k : Int) = 0 := by omega
          have hcat : ¬ 9223372036854775807 < hh.size + x.size := by omega
          have vu : IntKind.u8.wrap 1 = 1 := by decide
          clear hpx hhv hx2 hz hl
          go_wp2_with fail
          refine wp_region_held_drew (S := (fun _ => True)) (by kernel_rfl) trivial (fun hHeld => ?_)
          refine' wpAnyH_take (i := 0) (oi := { dst := some 40, op := Go.Op.move (Go.Operand.tmp 8), type := 23, pos := "ref.go:25", after := #[], guard := none }) (v := _) rfl (by kernel_rfl) (by kernel_rfl) (by kernel_rfl) (fun _ _ _ h => h) (Or.inl ⟨by rfl, ?hy69⟩) (by assumption) ?hr69
          case hy69 => (intro _ hSw; (try dsimp only at hSw); go_simp <;> with_reducible rfl)
          simp only [Act.put, List.setIfInBounds_toArray, List.set_cons_zero, List.set_cons_succ]
          refine' wpAnyH_take (i := 1) (oi := { dst := some 41, op := Go.Op.move (Go.Operand.tmp 10), type := 3, pos := "ref.go:25", after := #[], guard := none }) (v := _) rfl (by kernel_rfl) (by kernel_rfl) (by kernel_rfl) (fun _ _ _ h => h) (Or.inl ⟨by rfl, ?hy70⟩) (by assumption) ?hr70
          case hy70 => (intro _ hSw; (try dsimp only at hSw); go_simp <;> with_reducible rfl)
          simp only [Act.put, List.setIfInBounds_toArray, List.set_cons_zero, List.set_cons_succ]
          refine' wpAnyH_take (i := 2) (oi := { dst := some 42, op := Go.Op.convert 3 5 (Go.Operand.tmp 41), type := 5, pos := "ref.go:25", after := #[{ on := 1, ground := Go.Ground.data }], guard := none }) (v := _) rfl (by kernel_rfl) (by kernel_rfl) (by kernel_rfl) (fun _ _ _ h => h) (Or.inl ⟨by rfl, ?hy71⟩) (by assumption) ?hr71
          case hy71 => (intro _ hSw; (try dsimp only at hSw); go_simp <;> with_reducible rfl)
          simp only [Act.put, List.setIfInBounds_toArray, List.set_cons_zero, List.set_cons_succ]
          refine' wpAnyH_take (i := 5) (oi := { dst := some 45, op := Go.Op.move (Go.Operand.tmp 0), type := 9, pos := "ref.go:25", after := #[], guard := none }) (v := _) rfl (by kernel_rfl) (by kernel_rfl) (by kernel_rfl) (fun _ _ _ h => h) (Or.inl ⟨by rfl, ?hy72⟩) (by assumption) ?hr72
          case hy72 => (intro _ hSw; (try dsimp only at hSw); go_simp <;> with_reducible rfl)
          simp only [Act.put, List.setIfInBounds_toArray, List.set_cons_zero, List.set_cons_succ]
          refine' wpAnyH_take (i := 6) (oi := { dst := some 46, op := Go.Op.move (Go.Operand.tmp 9), type := 3, pos := "ref.go:25", after := #[], guard := none }) (v := _) rfl (by kernel_rfl) (by kernel_rfl) (by kernel_rfl) (fun _ _ _ h => h) (Or.inl ⟨by rfl, ?hy73⟩) (by assumption) ?hr73
          case hy73 => (intro _ hSw; (try dsimp only at hSw); go_simp <;> with_reducible rfl)
          simp only [Act.put, List.setIfInBounds_toArray, List.set_cons_zero, List.set_cons_succ]
          refine' wpAnyH_take (i := 7) (oi := { dst := some 47, op := Go.Op.move (Go.Operand.tmp 6), type := 3, pos := "ref.go:25", after := #[], guard := none }) (v := _) rfl (by kernel_rfl) (by kernel_rfl) (by kernel_rfl) (fun _ _ _ h => h) (Or.inl ⟨by rfl, ?hy74⟩) (by assumption) ?hr74
          case hy74 => (intro _ hSw; (try dsimp only at hSw); go_simp <;> with_reducible rfl)
          simp only [Act.put, List.setIfInBounds_toArray, List.set_cons_zero, List.set_cons_succ]
          refine' wpAnyH_take (i := 8) (oi := { dst := some 48, op := Go.Op.binOp Go.BinOp.mul 3 (Go.Operand.tmp 46) (Go.Operand.tmp 47) 3, type := 3, pos := "ref.go:25", after := #[{ on := 6, ground := Go.Ground.data }, { on := 7, ground := Go.Ground.data }], guard := none }) (v := _) rfl (by kernel_rfl) (by kernel_rfl) (by kernel_rfl) (fun _ _ _ h => h) (Or.inl ⟨by rfl, ?hy75⟩) (by assumption) ?hr75
          case hy75 => (intro _ hSw; (try dsimp only at hSw); go_simp <;> with_reducible rfl)
          simp only [Act.put, List.setIfInBounds_toArray, List.set_cons_zero, List.set_cons_succ]
          refine' wpAnyH_take (i := 9) (oi := { dst := some 49, op := Go.Op.move (Go.Operand.tmp 0), type := 9, pos := "ref.go:25", after := #[], guard := none }) (v := _) rfl (by kernel_rfl) (by kernel_rfl) (by kernel_rfl) (fun _ _ _ h => h) (Or.inl ⟨by rfl, ?hy76⟩) (by assumption) ?hr76
          case hy76 => (intro _ hSw; (try dsimp only at hSw); go_simp <;> with_reducible rfl)
          simp only [Act.put, List.setIfInBounds_toArray, List.set_cons_zero, List.set_cons_succ]
          refine' wpAnyH_take (i := 10) (oi := { dst := some 50, op := Go.Op.call { callee := Go.Callee.builtin Go.Builtin.len, args := #[Go.Operand.tmp 49], argTypes := #[9] }, type := 3, pos := "ref.go:25", after := #[{ on := 9, ground := Go.Ground.data }], guard := none }) (v := _) rfl (by kernel_rfl) (by kernel_rfl) (by kernel_rfl) (fun _ _ _ h => h) (Or.inl ⟨by rfl, ?hy77⟩) (by assumption) ?hr77
          case hy77 => (intro _ hSw; (try dsimp only at hSw); go_simp <;> with_reducible rfl)
          simp only [Act.put, List.setIfInBounds_toArray, List.set_cons_zero, List.set_cons_succ]
          refine' wpAnyH_take (i := 11) (oi := { dst := some 51, op := Go.Op.move (Go.Operand.tmp 9), type := 3, pos := "ref.go:25", after := #[], guard := none }) (v := _) rfl (by kernel_rfl) (by kernel_rfl) (by kernel_rfl) (fun _ _ _ h => h) (Or.inl ⟨by rfl, ?hy78⟩) (by assumption) ?hr78
          case hy78 => (intro _ hSw; (try dsimp only at hSw); go_simp <;> with_reducible rfl)
          simp only [Act.put, List.setIfInBounds_toArray, List.set_cons_zero, List.set_cons_succ]
          refine' wpAnyH_take (i := 12) (oi := { dst := some 52, op := Go.Op.binOp Go.BinOp.add 3 (Go.Operand.tmp 51) (Go.Operand.const (Go.Value.int Go.IntKind.i64 1)) 3, type := 3, pos := "ref.go:25", after := #[{ on := 11, ground := Go.Ground.data }], guard := none }) (v := _) rfl (by kernel_rfl) (by kernel_rfl) (by kernel_rfl) (fun _ _ _ h => h) (Or.inl ⟨by rfl, ?hy79⟩) (by assumption) ?hr79
          case hy79 => (intro _ hSw; (try dsimp only at hSw); go_simp <;> with_reducible rfl)
          simp only [Act.put, List.setIfInBounds_toArray, List.set_cons_zero, List.set_cons_succ]
          refine' wpAnyH_take (i := 13) (oi := { dst := some 53, op := Go.Op.move (Go.Operand.tmp 6), type := 3, pos := "ref.go:25", after := #[], guard := none }) (v := _) rfl (by kernel_rfl) (by kernel_rfl) (by kernel_rfl) (fun _ _ _ h => h) (Or.inl ⟨by rfl, ?hy80⟩) (by assumption) ?hr80
          case hy80 => (intro _ hSw; (try dsimp only at hSw); go_simp <;> with_reducible rfl)
          simp only [Act.put, List.setIfInBounds_toArray, List.set_cons_zero, List.set_cons_succ]
          refine' wpAnyH_take (i := 14) (oi := { dst := some 54, op := Go.Op.binOp Go.BinOp.mul 3 (Go.Operand.tmp 52) (Go.Operand.tmp 53) 3, type := 3, pos := "ref.go:25", after := #[{ on := 12, ground := Go.Ground.data }, { on := 13, ground := Go.Ground.data }], guard := none }) (v := _) rfl (by kernel_rfl) (by kernel_rfl) (by kernel_rfl) (fun _ _ _ h => h) (Or.inl ⟨by rfl, ?hy81⟩) (by assumption) ?hr81
          case hy81 => (intro _ hSw; (try dsimp only at hSw); go_simp <;> with_reducible rfl)
          simp only [Act.put, List.setIfInBounds_toArray, List.set_cons_zero, List.set_cons_succ]
          refine' wpAnyH_take (i := 15) (oi := { dst := some 55, op := Go.Op.call { callee := Go.Callee.builtin Go.Builtin.min, args := #[Go.Operand.tmp 50, Go.Operand.tmp 54], argTypes := #[3, 3] }, type := 3, pos := "ref.go:25", after := #[{ on := 10, ground := Go.Ground.data }, { on := 14, ground := Go.Ground.data }], guard := none }) (v := _) rfl (by kernel_rfl) (by kernel_rfl) (by kernel_rfl) (fun _ _ _ h => h) (Or.inl ⟨by rfl, ?hy82⟩) (by assumption) ?hr82
          case hy82 => (intro _ hSw; (try dsimp only at hSw); go_simp <;> with_reducible rfl)
          simp only [Act.put, List.setIfInBounds_toArray, List.set_cons_zero, List.set_cons_succ]
          refine' wpAnyH_take (i := 16) (oi := { dst := some 56, op := Go.Op.slice 9 (Go.Operand.tmp 45) (some (Go.Operand.tmp 48)) (some (Go.Operand.tmp 55)) none, type := 9, pos := "ref.go:25", after := #[{ on := 5, ground := Go.Ground.data }, { on := 8, ground := Go.Ground.data }, { on := 15, ground := Go.Ground.data }], guard := none }) (v := _) rfl (by kernel_rfl) (by kernel_rfl) (by kernel_rfl) (fun _ _ _ h => h) (Or.inl ⟨by rfl, ?hy83⟩) (by assumption) ?hr83
          case hy83 => (intro _ hSw; (try dsimp only at hSw); go_simp <;> with_reducible rfl)
          simp only [Act.put, List.setIfInBounds_toArray, List.set_cons_zero, List.set_cons_succ]
          refine wpAnyH_ready (rs := [3]) (by kernel_rfl) (by simp) ?_
          refine AllReadyH.cons (o := { dst := some 43, op := Go.Op.buildSlice 37 1 #[(0, Go.Operand.tmp 42)], type := 37, pos := "ref.go:25", after := #[{ on := 2, ground := Go.Ground.data }], guard := none }) rfl (fun K hK => ?_) AllReadyH.nil
          go_simp
          refine hK.out _ _ trivial (fun hNext => ?_)
          clear hK K hHeld
          have hHeld := hNext
          clear hNext
          (try simp only [Act.put, List.setIfInBounds_toArray, List.set_cons_zero, List.set_cons_succ])
          refine wpAnyH_ready (rs := [4]) (by kernel_rfl) (by simp) ?_
          refine AllReadyH.cons (o := { dst := some 44, op := Go.Op.convert 37 9 (Go.Operand.tmp 43), type := 9, pos := "ref.go:25", after := #[{ on := 3, ground := Go.Ground.data }], guard := none }) rfl (fun K hK => ?_) AllReadyH.nil
          have hcx := hcv (wr.alloc (.cells #[.int .u8 1] 5)).drew wr.heap.size (cell_of (nest wr [_] 0 _ rfl) rfl); go_simp
          refine hK.out _ _ trivial (fun hNext => ?_)
          clear hK K hHeld
          have hHeld := hNext
          clear hNext
          (try simp only [Act.put, List.setIfInBounds_toArray, List.set_cons_zero, List.set_cons_succ])
          refine' wpAnyH_take (i := 17) (oi := { dst := some 57, op := Go.Op.binOp Go.BinOp.add 9 (Go.Operand.tmp 44) (Go.Operand.tmp 56) 9, type := 9, pos := "ref.go:25", after := #[{ on := 4, ground := Go.Ground.data }, { on := 16, ground := Go.Ground.data }], guard := none }) (v := _) rfl (by kernel_rfl) (by kernel_rfl) (by kernel_rfl) (fun _ _ _ h => h) (Or.inl ⟨by rfl, ?hy84⟩) (by assumption) ?hr84
          case hy84 => (intro _ hSw; (try dsimp only at hSw); go_simp <;> with_reducible rfl)
          simp only [Act.put, List.setIfInBounds_toArray, List.set_cons_zero, List.set_cons_succ]
          have O2 : Hid (RowB (wr.alloc (.cells #[.int .u8 1] 5)).drew w.heap.size v (upto s m k)) := Lib.hid (O1.out.below (nest_below wr [_]).drew)
          have G2 : Hid (Below w.heap.size w (wr.alloc (.cells #[.int .u8 1] 5)).drew) := Lib.hid (below_on G1.out (nest_below wr [_]).drew)
          clear O1 G1 hcv
          generalize (wr.alloc (.cells #[.int .u8 1] 5)).drew = w2 at O2 G2 ⊢
          obtain ⟨v', w3, hr, ho, hg⟩ := run_append_piece w2 23 w.heap.size v (upto s m k) O2.out px HLN.out G2.out.size
          have O3 : Hid (RowB w3 w.heap.size v' (upto s m (k + 1))) := Lib.hid (by rw [upto_succ, HC.out, HPX.out]; exact ho)
          have G3 := Lib.hid (grow_piece G2.out O2.out hg)
          clear ho hg O2 G2
          refine wpAnyH_ready (rs := [18]) (by kernel_rfl) (by simp) ?_
          refine AllReadyH.cons (o := { dst := some 58, op := Go.Op.buildSlice 23 1 #[(0, Go.Operand.tmp 57)], type := 23, pos := "ref.go:25", after := #[{ on := 17, ground := Go.Ground.data }], guard := none }) rfl (fun K hK => ?_) AllReadyH.nil
          go_simp
          refine hK.out _ _ trivial (fun hNext => ?_)
          clear hK K hHeld
          have hHeld := hNext
          clear hNext
          (try simp only [Act.put, List.setIfInBounds_toArray, List.set_cons_zero, List.set_cons_succ])
          refine wpAnyH_ready (rs := [19]) (by kernel_rfl) (by simp) ?_
          refine AllReadyH.cons (o := { dst := some 59, op := Go.Op.call { callee := Go.Callee.builtin Go.Builtin.append, args := #[Go.Operand.tmp 40, Go.Operand.tmp 58], argTypes := #[23, 23] }, type := 23, pos := "ref.go:25", after := #[{ on := 0, ground := Go.Ground.data }, { on := 18, ground := Go.Ground.data }], guard := none }) rfl (fun K hK => ?_) AllReadyH.nil
          refine step_append_known rfl _ _ _ _ rfl rfl rfl hr ?_
          refine hK.out _ _ trivial (fun hNext => ?_)
          clear hr hK K hHeld
          have hHeld := hNext
          clear hNext
          (try simp only [Act.put, List.setIfInBounds_toArray, List.set_cons_zero, List.set_cons_succ])
          refine' wpAnyH_take (i := 20) (oi := { dst := some 8, op := Go.Op.assign (Go.Operand.tmp 59), type := 23, pos := "ref.go:25", after := #[{ on := 19, ground := Go.Ground.data }, { on := 19, ground := Go.Ground.chain }, { on := 0, ground := Go.Ground.phase }, { on := 1, ground := Go.Ground.phase }, { on := 2, ground := Go.Ground.phase }, { on := 3, ground := Go.Ground.phase }, { on := 4, ground := Go.Ground.phase }, { on := 5, ground := Go.Ground.phase }, { on := 6, ground := Go.Ground.phase }, { on := 7, ground := Go.Ground.phase }, { on := 8, ground := Go.Ground.phase }, { on := 9, ground := Go.Ground.phase }, { on := 10, ground := Go.Ground.phase }, { on := 11, ground := Go.Ground.phase }, { on := 12, ground := Go.Ground.phase }, { on := 13, ground := Go.Ground.phase }, { on := 14, ground := Go.Ground.phase }, { on := 15, ground := Go.Ground.phase }, { on := 16, ground := Go.Ground.phase }, { on := 17, ground := Go.Ground.phase }, { on := 18, ground := Go.Ground.phase }, { on := 19, ground := Go.Ground.phase }], guard := none }) (v := _) rfl (by kernel_rfl) (by kernel_rfl) (by kernel_rfl) (fun _ _ _ h => h) (Or.inl ⟨by rfl, ?hy85⟩) (by assumption) ?hr85
          case hy85 => (intro _ hSw; (try dsimp only at hSw); go_simp <;> with_reducible rfl)
          simp only [Act.put, List.setIfInBounds_toArray, List.set_cons_zero, List.set_cons_succ]
          refine wpAnyH_done (by kernel_rfl) ?_ _
          clear hHeld
          go_wp2
          go_roundg (c - kk)
          case measure => omega
          case rel => exact ⟨k + 1, v', rfl, by rw [hkk], by omega, by omega, O3, G3⟩
    · obtain rfl : k = c := by omega
      have u1 : decide ((k : Int) < (k : Int)) = false := decide_eq_false (by omega)
      go_wp2
      go_ret2
      exact ⟨v, rfl, by have := O1.out; rw [← HC.out, upto_all] at this; exact this, G1.out⟩
theorem rSplit (s : ByteArray) (hs : s.size ≤ 100000) (n1 : Int) (hn : 2 ≤ n1) (m : Nat) (hm : min n1 128 = (m : Int) + 1) (w : World) :
    Calls Try.prog 9 #[.string s, .int .i64 n1] w fun e w' => ∃ v, e = .returned (.tuple #[v, .int .i64 0]) ∧ RowB w' w.heap.size v (pcs s m) ∧ Below w.heap.size w w' := by
  by_cases h0 : s.size = 0
  · exact rSplit_zero s hs h0 n1 hn m hm w
  · exact rSplit_pos s hs (by omega) n1 hn m hm w
end Go.Proofs.Ytidcoodmlgmcjaa.Cl

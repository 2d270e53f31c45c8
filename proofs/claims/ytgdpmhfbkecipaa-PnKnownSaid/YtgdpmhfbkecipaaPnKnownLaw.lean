/-
  PnKnown answers true, and turns nothing that was there. No condition.
-/
import Derived.Test.YtgdpmhfbkecipaaPnBackLaw
import Derived.Test.YtgdpmhfbkecipaaPnPutsLaw
import Derived.Test.YtgdpmhfbkecipaaPnAgreesLaw
import Derived.Test.YtgdpmhfbkecipaaBytes
import Derived.Deep.RegionHeld
import Derived.Laws.AppendOwn
namespace Go.Proofs.Ytgdpmhfbkecipaa.pnKnown
open Go.RowKit Go.Proofs.Ytgdpmhfbkecipaa.Base Go.Proofs.Ytgdpmhfbkecipaa.Mem Go.Proofs.Ytgdpmhfbkecipaa.Pn
theorem row_take {w : World} {b : Nat} {l : List UInt8} (h : Row w b l) (k : Nat) : Row w b (l.take k) := by
  refine ⟨fun i hi => ?_, fun i hi => h.free i (by rw [List.length_take] at hi; omega)⟩
  have hi2 : i < l.length := by rw [List.length_take] at hi; omega
  have hi3 : i < k := by rw [List.length_take] at hi; omega
  rw [h.cell i hi2]
  simp [List.getD, hi3]
/-- A string becomes a row; the row's room is not less. -/
theorem bytes_room (w : World) (s : ByteArray) (n : Nat) (hn : s.size = n) : ∃ W1 cap, n ≤ cap ∧ (convert 9 43 (.string s)).run Try.prog w = .ok (.slice (some ⟨w.heap.size, 0, none⟩) n cap) W1 ∧ Hid (Row W1 w.heap.size s.data.toList) ∧ Hid (Below w.heap.size w W1) := by
  subst hn
  exact ⟨_, _, grownCap_ge _ _ _ _, Lib.run_convert_string_bytes (P := Try.prog) w 9 43 5 s Try.underlying9 Try.underlying43 Try.underlying5,
    Lib.hid ⟨fun i hi => Lib.bytesWorld_cell w 5 s i (by simpa using hi), fun i hi => frozen_bytes w 5 s i (by simpa using hi)⟩, Lib.hid (below_bytes w 5 s)⟩
theorem block_other {w : World} {b c o : Nat} (h : c ≠ b) (v : Value) : (w.setCell ⟨b, o, none⟩ v).heap[c]? = w.heap[c]? := by
  show (w.heap.modify b _)[c]? = _
  rw [Array.getElem?_modify, if_neg (fun e => h e.symm)]
theorem set8_other {w : World} {b c : Nat} (h : c ≠ b) (v0 v1 v2 v3 v4 v5 v6 v7 : Value) : ((((((((w.setCell ⟨b, 0, none⟩ v0).setCell ⟨b, 1, none⟩ v1).setCell ⟨b, 2, none⟩ v2).setCell ⟨b, 3, none⟩ v3).setCell ⟨b, 4, none⟩ v4).setCell ⟨b, 5, none⟩ v5).setCell ⟨b, 6, none⟩ v6).setCell ⟨b, 7, none⟩ v7).heap[c]? = w.heap[c]? := by
  rw [block_other h, block_other h, block_other h, block_other h, block_other h, block_other h, block_other h, block_other h]
abbrev Good (f : FuncId) (args : Array Value) : Prop := ∀ w, Calls Try.prog f args w fun e w' => e = .returned (.bool true) ∧ Below w.heap.size w w'
abbrev GoodP : Prop := ∀ (p : Pr) (s : ByteArray), p.In → s.size ≤ 1000 → Good 3 #[pv p, .string s]
abbrev GoodA : Prop := ∀ (o a : Pr), o.In → a.In → Good 4 #[pv o, pv a]
abbrev GoodB : Prop := ∀ (o a : Pr) (s : ByteArray), o.In → a.In → s.size ≤ 1000 → Good 5 #[pv o, pv a, .string s]
theorem goodP : GoodP := fun p s hp hs w => pnPuts.law p hp s (by unfold maxLen; omega) w
theorem goodA : GoodA := fun o a ho ha w => pnAgrees.law o ho a ha w
theorem goodB : GoodB := fun o a s ho ha hs w => pnBack.law o ho a ha s (by unfold maxLen; omega) w
abbrev numsO : Obj := .cells #[.int .i64 (-9223372036854775808), .int .i64 (-1), .int .i64 (0), .int .i64 (1), .int .i64 (2), .int .i64 (7), .int .i64 (8), .int .i64 (255), .int .i64 (256), .int .i64 (300), .int .i64 (65535), .int .i64 (65536), .int .i64 (9223372036854775807)] 3
theorem nums_at {w : World} {b : Nat} (h : w.heap[b]? = some numsO) (j : Nat) (hj : j < 13) : ∃ n : Int, w.cell? ⟨b, j, none⟩ = some (.int .i64 n) := by
  match j, hj with
  | 0, _ => exact ⟨_, cell_of h rfl⟩
  | 1, _ => exact ⟨_, cell_of h rfl⟩
  | 2, _ => exact ⟨_, cell_of h rfl⟩
  | 3, _ => exact ⟨_, cell_of h rfl⟩
  | 4, _ => exact ⟨_, cell_of h rfl⟩
  | 5, _ => exact ⟨_, cell_of h rfl⟩
  | 6, _ => exact ⟨_, cell_of h rfl⟩
  | 7, _ => exact ⟨_, cell_of h rfl⟩
  | 8, _ => exact ⟨_, cell_of h rfl⟩
  | 9, _ => exact ⟨_, cell_of h rfl⟩
  | 10, _ => exact ⟨_, cell_of h rfl⟩
  | 11, _ => exact ⟨_, cell_of h rfl⟩
  | 12, _ => exact ⟨_, cell_of h rfl⟩
theorem in_one (n : Nat) (h : n < 256) : Pr.In (⟨5, 2, 3, 7, 10, 300, 3, 2⟩ : Pr) ∧ Pr.In (⟨(n : Int), 2, 3, 7, 10, 300, 3, 2⟩ : Pr) ∧ Pr.In (⟨5, 2, (n : Int), 7, 10, 300, 3, 2⟩ : Pr) ∧ Pr.In (⟨5, 2, 3, (n : Int), 10, 300, 3, 2⟩ : Pr) ∧ Pr.In (⟨5, (n : Int), 3, 7, 10, 300, 3, 2⟩ : Pr) := by
  refine ⟨⟨?_, ?_, ?_, ?_⟩, ⟨?_, ?_, ?_, ?_⟩, ⟨?_, ?_, ?_, ?_⟩, ⟨?_, ?_, ?_, ?_⟩, ⟨?_, ?_, ?_, ?_⟩⟩ <;> dsimp only <;> omega
set_option maxRecDepth 100000 in
set_option maxHeartbeats 2000000 in
theorem law (w : World) :
    Calls Try.prog 6 #[] w fun e w' => e = .returned (.bool true) ∧ Below w.heap.size w w' := by
  obtain ⟨S, hS⟩ : ∃ S : ByteArray, (⟨#[5, 50, 7, 10, 44, 1, 3, 2]⟩ : ByteArray) = S := ⟨_, rfl⟩
  have HS8 : Hid (S.size = 8) := Lib.hid (by rw [← hS]; rfl)
  have CR : Hid (∀ w, Calls Try.prog 9 #[pv ⟨5, 2, 3, 7, 10, 300, 3, 2⟩] w fun e w' => e = .returned (.tuple #[.string S, .int .i64 0]) ∧ Below w.heap.size w w') := Lib.hid (fun w => by
    have h := rput ⟨5, 2, 3, 7, 10, 300, 3, 2⟩ (in_one 0 (by decide)).1 w
    rw [← hS]
    exact h)
  have CF : Hid (∀ w, Calls Try.prog 10 #[pv ⟨5, 2, 3, 7, 10, 300, 3, 2⟩] w fun e w' => e = .returned (pv ⟨5, 2, 3, 7, 10, 300, 3, 2⟩) ∧ Below w.heap.size w w') := Lib.hid (fun w => fref ⟨5, 2, 3, 7, 10, 300, 3, 2⟩ w)
  have GP := Lib.hid goodP
  have GA := Lib.hid goodA
  have GB := Lib.hid goodB
  clear hS
  go_enter Try.func6, Try.ntmps6
  go_wp2_with (first
    | (go_at_call 10; ((with_reducible refine (CF.out _).mono ?_); rintro e w1 ⟨rfl, hb⟩; have HB1 : Hid (Below w.heap.size w w1) := Lib.hid (on_new (Below.refl _ _) hb); have HF1 : Hid (w1.heap[w.heap.size]? = some (pO ⟨5, 2, 3, 7, 10, 300, 3, 2⟩ 23)) := Lib.hid (fresh hb); clear hb))
    | (go_at_call 9; ((with_reducible refine (CR.out _).mono ?_); rintro e w2 ⟨rfl, hb⟩; have HB2 : Hid (Below w.heap.size w w2) := Lib.hid (below_on HB1.out hb); have HF2 : Hid (w2.heap[w.heap.size]? = some (pO ⟨5, 2, 3, 7, 10, 300, 3, 2⟩ 23)) := Lib.hid (stays HF1.out hb); clear hb HB1 HF1)))
  go_loopw [4] (fun i wr => ∃ k : Nat, k ≤ 256 ∧ i = .int .i64 k ∧ Hid (Below w2.heap.size w2 wr)) (fun i _ => 256 - (intOf i).toNat)
  case atStart => exact ⟨0, by omega, rfl, Lib.hid (Below.refl _ _)⟩
  case round =>
    obtain ⟨k, hk, rfl, HB⟩ := hrel
    by_cases hlt : k < 256
    · have hd : decide ((k : Int) < 256) = true := by simp; omega
      have qk : IntKind.u8.wrap (k : Int) = (k : Int) := wraps_u8 _ (by omega) (by omega)
      have in1 := Lib.hid (in_one k hlt).1
      have in2 := Lib.hid (in_one k hlt).2.1
      have in3 := Lib.hid (in_one k hlt).2.2.1
      have in4 := Lib.hid (in_one k hlt).2.2.2.1
      have in5 := Lib.hid (in_one k hlt).2.2.2.2
      obtain ⟨wo, rfl⟩ : ∃ wo : World, wo = wr := ⟨_, rfl⟩
      go_wp2
      go_loopw [5] (fun i wr => ∃ j : Nat, j ≤ 8 ∧ i = .int .i64 j ∧ Hid (Below w2.heap.size w2 wr)) (fun i _ => 8 - (intOf i).toNat)
      case atStart => exact ⟨0, by omega, rfl, HB⟩
      case round =>
        clear HB
        obtain ⟨j, hj, rfl, HB⟩ := hrel
        by_cases hlj : j < 8
        · have hdj : decide (j < S.size) = true := by rw [HS8.out]; simp; omega
          obtain ⟨W1, cap, hcap, hcv, HR, HBr⟩ := bytes_room wr S 8 HS8.out
          have LX0 : Hid ((S.data.toList.set j (UInt8.ofNat k)).length = 8) := Lib.hid (by rw [List.length_set, size_toList, HS8.out])
          have hjs : j < S.data.toList.length := by rw [size_toList, HS8.out]; exact hlj
          have RX0 := Lib.hid (HR.out.put j hjs k hlt)
          have HX0 : Hid (Below w2.heap.size w2 (W1.setCell ⟨wr.heap.size, j, none⟩ (.int .u8 (k : Int)))) := Lib.hid (below_on HB.out (HBr.out.setCell (Nat.le_refl _) _))
          have hc := HR.out.cell j hjs
          have hf := HR.out.free j hjs
          clear hjs
          have hj0 : (0 : Int) ≤ (j : Int) := by omega
          have hj8 : (j : Int) < 8 := by omega
          go_upto_region 11 with fail
          clear hc hf hcv
          generalize S.data.toList.set j (UInt8.ofNat k) = l at *
          generalize (W1.setCell ⟨wr.heap.size, j, none⟩ (.int .u8 (k : Int))) = wx at *
          have FX : Hid (wx.heap[w.heap.size]? = some (pO ⟨5, 2, 3, 7, 10, 300, 3, 2⟩ 23)) := Lib.hid (stays HF2.out HX0.out)
          have RX := RX0
          have LX := LX0
          have SX : Hid ((⟨l.toArray⟩ : ByteArray).size ≤ 1000) := Lib.hid (by show l.toArray.size ≤ 1000; rw [List.size_toArray, LX.out]; decide)
          have SY : Hid ((⟨(l.take j).toArray⟩ : ByteArray).size ≤ 1000) := Lib.hid (by show (l.take j).toArray.size ≤ 1000; rw [List.size_toArray, List.length_take]; omega)
          obtain ⟨m, hm⟩ : ∃ m : Int, (k : Int).tmod 16 = m := ⟨_, rfl⟩
          have hjc : (j : Int) ≤ (cap : Int) := by omega
          by_cases hz : m = 0
          · have hz1 : (m == 0) = true := by rw [hz]; rfl
            clear hz
            refine wp_region_held_drew (S := fun w' => Below wx.heap.size wx w') (by kernel_rfl) (Below.refl _ _).drew (fun hHeld => ?_)
            refine' wpAnyH_take (i := 0) (oi := { dst := some 37, op := Go.Op.load 23 (Go.Operand.tmp 1), type := 23, pos := "law.go:62", after := #[], guard := none }) (v := _) rfl (by kernel_rfl) (by kernel_rfl) (by kernel_rfl) (fun _ _ _ h => h) (Or.inl ⟨by rfl, ?hy16⟩) (by assumption) ?hr16
            case hy16 => (intro _ hSw; (try dsimp only at hSw); obtain ⟨c0, c1, c2, c3, c4, c5, c6, c7⟩ := cells_of (stays FX.out hSw); dsimp only at c0 c1 c2 c3 c4 c5 c6 c7; go_simp <;> with_reducible rfl)
            simp only [Act.put, List.setIfInBounds_toArray, List.set_cons_zero, List.set_cons_succ]
            refine' wpAnyH_take (i := 1) (oi := { dst := some 38, op := Go.Op.move (Go.Operand.tmp 6), type := 43, pos := "law.go:62", after := #[], guard := none }) (v := _) rfl (by kernel_rfl) (by kernel_rfl) (by kernel_rfl) (fun _ _ _ h => h) (Or.inl ⟨by rfl, ?hy17⟩) (by assumption) ?hr17
            case hy17 => (intro _ hSw; (try dsimp only at hSw); go_simp <;> with_reducible rfl)
            simp only [Act.put, List.setIfInBounds_toArray, List.set_cons_zero, List.set_cons_succ]
            refine' wpAnyH_take (i := 2) (oi := { dst := some 39, op := Go.Op.convert 43 9 (Go.Operand.tmp 38), type := 9, pos := "law.go:62", after := #[{ on := 1, ground := Go.Ground.data }], guard := none }) (v := _) rfl (by kernel_rfl) (by kernel_rfl) (by kernel_rfl) (fun _ _ _ h => h) (Or.inl ⟨by rfl, ?hy18⟩) (by assumption) ?hr18
            case hy18 => (intro _ hSw; (try dsimp only at hSw); have hcv := Row.conv (Row.below RX.out (by rw [LX.out]; decide) hSw) 8 cap LX.out; go_simp <;> with_reducible rfl)
            simp only [Act.put, List.setIfInBounds_toArray, List.set_cons_zero, List.set_cons_succ]
            refine wpAnyH_ready (rs := [3]) (by kernel_rfl) (by simp) ?_
            refine AllReadyH.cons (o := { dst := some 40, op := Go.Op.call { callee := Go.Callee.value (Go.Operand.func 3), args := #[Go.Operand.tmp 37, Go.Operand.tmp 39], argTypes := #[23, 9] }, type := 4, pos := "law.go:62", after := #[{ on := 0, ground := Go.Ground.data }, { on := 2, ground := Go.Ground.data }], guard := none }) rfl (fun K hK => ?_) AllReadyH.nil
            go_simp
            (with_reducible refine (GP.out ⟨5, 2, 3, 7, 10, 300, 3, 2⟩ _ in1.out SX.out _).mono ?_)
            rintro e wc ⟨rfl, hb⟩
            go_wp2_with fail
            refine hK.out _ _ (below_on hHeld hb) (fun hNext => ?_)
            clear hK K hHeld hb
            have hHeld := hNext
            clear hNext
            (try simp only [Act.put, List.setIfInBounds_toArray, List.set_cons_zero, List.set_cons_succ])
            refine' wpAnyH_take (i := 4) (oi := { dst := some 41, op := Go.Op.unOp Go.UnOp.not 4 (Go.Operand.tmp 40), type := 4, pos := "law.go:62", after := #[{ on := 3, ground := Go.Ground.data }], guard := none }) (v := _) rfl (by kernel_rfl) (by kernel_rfl) (by kernel_rfl) (fun _ _ _ h => h) (Or.inl ⟨by rfl, ?hy19⟩) (by assumption) ?hr19
            case hy19 => (intro _ hSw; (try dsimp only at hSw); go_simp <;> with_reducible rfl)
            simp only [Act.put, List.setIfInBounds_toArray, List.set_cons_zero, List.set_cons_succ]
            refine' wpAnyH_take (i := 5) (oi := { dst := some 42, op := Go.Op.move (Go.Operand.tmp 41), type := 4, pos := "law.go:62", after := #[{ on := 4, ground := Go.Ground.data }, { on := 3, ground := Go.Ground.chain }], guard := none }) (v := _) rfl (by kernel_rfl) (by kernel_rfl) (by kernel_rfl) (fun _ _ _ h => h) (Or.inl ⟨by rfl, ?hy20⟩) (by assumption) ?hr20
            case hy20 => (intro _ hSw; (try dsimp only at hSw); go_simp <;> with_reducible rfl)
            simp only [Act.put, List.setIfInBounds_toArray, List.set_cons_zero, List.set_cons_succ]
            refine' wpAnyH_take (i := 6) (oi := { dst := some 43, op := Go.Op.move (Go.Operand.tmp 4), type := 3, pos := "law.go:62", after := #[{ on := 5, ground := Go.Ground.guard }], guard := some (5, false) }) (v := _) rfl (by kernel_rfl) (by kernel_rfl) (by kernel_rfl) (fun _ _ _ h => h) (Or.inl ⟨by rfl, ?hy21⟩) (by assumption) ?hr21
            case hy21 => (intro _ hSw; (try dsimp only at hSw); go_simp <;> with_reducible rfl)
            simp only [Act.put, List.setIfInBounds_toArray, List.set_cons_zero, List.set_cons_succ]
            refine' wpAnyH_take (i := 7) (oi := { dst := some 44, op := Go.Op.binOp Go.BinOp.rem 3 (Go.Operand.tmp 43) (Go.Operand.const (Go.Value.int Go.IntKind.i64 16)) 3, type := 3, pos := "law.go:62", after := #[{ on := 6, ground := Go.Ground.data }, { on := 5, ground := Go.Ground.guard }], guard := some (5, false) }) (v := _) rfl (by kernel_rfl) (by kernel_rfl) (by kernel_rfl) (fun _ _ _ h => h) (Or.inl ⟨by rfl, ?hy22⟩) (by assumption) ?hr22
            case hy22 => (intro _ hSw; (try dsimp only at hSw); go_simp <;> with_reducible rfl)
            simp only [Act.put, List.setIfInBounds_toArray, List.set_cons_zero, List.set_cons_succ]
            refine' wpAnyH_take (i := 8) (oi := { dst := some 45, op := Go.Op.binOp Go.BinOp.eql 3 (Go.Operand.tmp 44) (Go.Operand.const (Go.Value.int Go.IntKind.i64 0)) 3, type := 4, pos := "law.go:62", after := #[{ on := 7, ground := Go.Ground.data }, { on := 5, ground := Go.Ground.guard }], guard := some (5, false) }) (v := _) rfl (by kernel_rfl) (by kernel_rfl) (by kernel_rfl) (fun _ _ _ h => h) (Or.inl ⟨by rfl, ?hy23⟩) (by assumption) ?hr23
            case hy23 => (intro _ hSw; (try dsimp only at hSw); go_simp <;> with_reducible rfl)
            simp only [Act.put, List.setIfInBounds_toArray, List.set_cons_zero, List.set_cons_succ]
            refine' wpAnyH_take (i := 9) (oi := { dst := some 46, op := Go.Op.move (Go.Operand.tmp 45), type := 4, pos := "law.go:62", after := #[{ on := 8, ground := Go.Ground.data }, { on := 5, ground := Go.Ground.chain }, { on := 5, ground := Go.Ground.guard }], guard := some (5, false) }) (v := _) rfl (by kernel_rfl) (by kernel_rfl) (by kernel_rfl) (fun _ _ _ h => h) (Or.inl ⟨by rfl, ?hy24⟩) (by assumption) ?hr24
            case hy24 => (intro _ hSw; (try dsimp only at hSw); go_simp <;> with_reducible rfl)
            simp only [Act.put, List.setIfInBounds_toArray, List.set_cons_zero, List.set_cons_succ]
            refine' wpAnyH_take (i := 10) (oi := { dst := some 47, op := Go.Op.load 23 (Go.Operand.tmp 1), type := 23, pos := "law.go:62", after := #[{ on := 9, ground := Go.Ground.guard }], guard := some (9, true) }) (v := _) rfl (by kernel_rfl) (by kernel_rfl) (by kernel_rfl) (fun _ _ _ h => h) (Or.inl ⟨by rfl, ?hy25⟩) (by assumption) ?hr25
            case hy25 => (intro _ hSw; (try dsimp only at hSw); obtain ⟨c0, c1, c2, c3, c4, c5, c6, c7⟩ := cells_of (stays FX.out hSw); dsimp only at c0 c1 c2 c3 c4 c5 c6 c7; go_simp <;> with_reducible rfl)
            simp only [Act.put, List.setIfInBounds_toArray, List.set_cons_zero, List.set_cons_succ]
            refine' wpAnyH_take (i := 11) (oi := { dst := some 48, op := Go.Op.load 23 (Go.Operand.tmp 1), type := 23, pos := "law.go:62", after := #[{ on := 9, ground := Go.Ground.guard }], guard := some (9, true) }) (v := _) rfl (by kernel_rfl) (by kernel_rfl) (by kernel_rfl) (fun _ _ _ h => h) (Or.inl ⟨by rfl, ?hy26⟩) (by assumption) ?hr26
            case hy26 => (intro _ hSw; (try dsimp only at hSw); obtain ⟨c0, c1, c2, c3, c4, c5, c6, c7⟩ := cells_of (stays FX.out hSw); dsimp only at c0 c1 c2 c3 c4 c5 c6 c7; go_simp <;> with_reducible rfl)
            simp only [Act.put, List.setIfInBounds_toArray, List.set_cons_zero, List.set_cons_succ]
            refine' wpAnyH_take (i := 12) (oi := { dst := some 49, op := Go.Op.move (Go.Operand.tmp 6), type := 43, pos := "law.go:62", after := #[{ on := 9, ground := Go.Ground.guard }], guard := some (9, true) }) (v := _) rfl (by kernel_rfl) (by kernel_rfl) (by kernel_rfl) (fun _ _ _ h => h) (Or.inl ⟨by rfl, ?hy27⟩) (by assumption) ?hr27
            case hy27 => (intro _ hSw; (try dsimp only at hSw); go_simp <;> with_reducible rfl)
            simp only [Act.put, List.setIfInBounds_toArray, List.set_cons_zero, List.set_cons_succ]
            refine' wpAnyH_take (i := 13) (oi := { dst := some 50, op := Go.Op.move (Go.Operand.tmp 5), type := 3, pos := "law.go:62", after := #[{ on := 9, ground := Go.Ground.guard }], guard := some (9, true) }) (v := _) rfl (by kernel_rfl) (by kernel_rfl) (by kernel_rfl) (fun _ _ _ h => h) (Or.inl ⟨by rfl, ?hy28⟩) (by assumption) ?hr28
            case hy28 => (intro _ hSw; (try dsimp only at hSw); go_simp <;> with_reducible rfl)
            simp only [Act.put, List.setIfInBounds_toArray, List.set_cons_zero, List.set_cons_succ]
            refine' wpAnyH_take (i := 14) (oi := { dst := some 51, op := Go.Op.slice 43 (Go.Operand.tmp 49) none (some (Go.Operand.tmp 50)) none, type := 43, pos := "law.go:62", after := #[{ on := 12, ground := Go.Ground.data }, { on := 13, ground := Go.Ground.data }, { on := 9, ground := Go.Ground.guard }], guard := some (9, true) }) (v := _) rfl (by kernel_rfl) (by kernel_rfl) (by kernel_rfl) (fun _ _ _ h => h) (Or.inl ⟨by rfl, ?hy29⟩) (by assumption) ?hr29
            case hy29 => (intro _ hSw; (try dsimp only at hSw); go_simp <;> with_reducible rfl)
            simp only [Act.put, List.setIfInBounds_toArray, List.set_cons_zero, List.set_cons_succ]
            refine' wpAnyH_take (i := 15) (oi := { dst := some 52, op := Go.Op.convert 43 9 (Go.Operand.tmp 51), type := 9, pos := "law.go:62", after := #[{ on := 14, ground := Go.Ground.data }, { on := 9, ground := Go.Ground.guard }], guard := some (9, true) }) (v := _) rfl (by kernel_rfl) (by kernel_rfl) (by kernel_rfl) (fun _ _ _ h => h) (Or.inl ⟨by rfl, ?hy30⟩) (by assumption) ?hr30
            case hy30 => (intro _ hSw; (try dsimp only at hSw); have hcv := Row.conv (row_take (Row.below RX.out (by rw [LX.out]; decide) hSw) j) j cap (by rw [List.length_take, LX.out]; omega); go_simp <;> with_reducible rfl)
            simp only [Act.put, List.setIfInBounds_toArray, List.set_cons_zero, List.set_cons_succ]
            refine wpAnyH_ready (rs := [16]) (by kernel_rfl) (by simp) ?_
            refine AllReadyH.cons (o := { dst := some 53, op := Go.Op.call { callee := Go.Callee.value (Go.Operand.func 5), args := #[Go.Operand.tmp 47, Go.Operand.tmp 48, Go.Operand.tmp 52], argTypes := #[23, 23, 9] }, type := 4, pos := "law.go:62", after := #[{ on := 10, ground := Go.Ground.data }, { on := 11, ground := Go.Ground.data }, { on := 15, ground := Go.Ground.data }, { on := 9, ground := Go.Ground.chain }, { on := 9, ground := Go.Ground.guard }], guard := some (9, true) }) rfl (fun K hK => ?_) AllReadyH.nil
            go_simp
            (with_reducible refine (GB.out ⟨5, 2, 3, 7, 10, 300, 3, 2⟩ ⟨5, 2, 3, 7, 10, 300, 3, 2⟩ _ in1.out in1.out SY.out _).mono ?_)
            rintro e wc ⟨rfl, hb⟩
            go_wp2_with fail
            refine hK.out _ _ (below_on hHeld hb) (fun hNext => ?_)
            clear hK K hHeld hb
            have hHeld := hNext
            clear hNext
            (try simp only [Act.put, List.setIfInBounds_toArray, List.set_cons_zero, List.set_cons_succ])
            refine' wpAnyH_take (i := 17) (oi := { dst := some 54, op := Go.Op.unOp Go.UnOp.not 4 (Go.Operand.tmp 53), type := 4, pos := "law.go:62", after := #[{ on := 16, ground := Go.Ground.data }, { on := 9, ground := Go.Ground.guard }], guard := some (9, true) }) (v := _) rfl (by kernel_rfl) (by kernel_rfl) (by kernel_rfl) (fun _ _ _ h => h) (Or.inl ⟨by rfl, ?hy31⟩) (by assumption) ?hr31
            case hy31 => (intro _ hSw; (try dsimp only at hSw); go_simp <;> with_reducible rfl)
            simp only [Act.put, List.setIfInBounds_toArray, List.set_cons_zero, List.set_cons_succ]
            refine' wpAnyH_take (i := 18) (oi := { dst := some 55, op := Go.Op.pick (Go.Operand.tmp 46) (Go.Operand.tmp 54) (Go.Operand.const (Go.Value.bool false)), type := 4, pos := "law.go:62", after := #[{ on := 9, ground := Go.Ground.data }, { on := 17, ground := Go.Ground.data }, { on := 5, ground := Go.Ground.guard }], guard := some (5, false) }) (v := _) rfl (by kernel_rfl) (by kernel_rfl) (by kernel_rfl) (fun _ _ _ h => h) (Or.inl ⟨by rfl, ?hy32⟩) (by assumption) ?hr32
            case hy32 => (intro _ hSw; (try dsimp only at hSw); go_simp <;> with_reducible rfl)
            simp only [Act.put, List.setIfInBounds_toArray, List.set_cons_zero, List.set_cons_succ]
            refine' wpAnyH_take (i := 19) (oi := { dst := some 56, op := Go.Op.pick (Go.Operand.tmp 42) (Go.Operand.const (Go.Value.bool true)) (Go.Operand.tmp 55), type := 4, pos := "law.go:62", after := #[{ on := 5, ground := Go.Ground.data }, { on := 18, ground := Go.Ground.data }], guard := none }) (v := _) rfl (by kernel_rfl) (by kernel_rfl) (by kernel_rfl) (fun _ _ _ h => h) (Or.inl ⟨by rfl, ?hy33⟩) (by assumption) ?hr33
            case hy33 => (intro _ hSw; (try dsimp only at hSw); go_simp <;> with_reducible rfl)
            simp only [Act.put, List.setIfInBounds_toArray, List.set_cons_zero, List.set_cons_succ]
            refine wpAnyH_done (by kernel_rfl) ?_ _
            go_wp2
            have HN := Lib.hid (below_on HX0.out hHeld)
            clear hHeld
            go_roundw
            case rel => exact ⟨j + 1, by omega, by go_num, HN⟩
            case measure => simp [intOf]; omega
          · have hz1 : (m == 0) = false := by rw [beq_eq_false_iff_ne]; exact hz
            clear hz
            refine wp_region_held_drew (S := fun w' => Below wx.heap.size wx w') (by kernel_rfl) (Below.refl _ _).drew (fun hHeld => ?_)
            refine' wpAnyH_take (i := 0) (oi := { dst := some 37, op := Go.Op.load 23 (Go.Operand.tmp 1), type := 23, pos := "law.go:62", after := #[], guard := none }) (v := _) rfl (by kernel_rfl) (by kernel_rfl) (by kernel_rfl) (fun _ _ _ h => h) (Or.inl ⟨by rfl, ?hy34⟩) (by assumption) ?hr34
            case hy34 => (intro _ hSw; (try dsimp only at hSw); obtain ⟨c0, c1, c2, c3, c4, c5, c6, c7⟩ := cells_of (stays FX.out hSw); dsimp only at c0 c1 c2 c3 c4 c5 c6 c7; go_simp <;> with_reducible rfl)
            simp only [Act.put, List.setIfInBounds_toArray, List.set_cons_zero, List.set_cons_succ]
            refine' wpAnyH_take (i := 1) (oi := { dst := some 38, op := Go.Op.move (Go.Operand.tmp 6), type := 43, pos := "law.go:62", after := #[], guard := none }) (v := _) rfl (by kernel_rfl) (by kernel_rfl) (by kernel_rfl) (fun _ _ _ h => h) (Or.inl ⟨by rfl, ?hy35⟩) (by assumption) ?hr35
            case hy35 => (intro _ hSw; (try dsimp only at hSw); go_simp <;> with_reducible rfl)
            simp only [Act.put, List.setIfInBounds_toArray, List.set_cons_zero, List.set_cons_succ]
            refine' wpAnyH_take (i := 2) (oi := { dst := some 39, op := Go.Op.convert 43 9 (Go.Operand.tmp 38), type := 9, pos := "law.go:62", after := #[{ on := 1, ground := Go.Ground.data }], guard := none }) (v := _) rfl (by kernel_rfl) (by kernel_rfl) (by kernel_rfl) (fun _ _ _ h => h) (Or.inl ⟨by rfl, ?hy36⟩) (by assumption) ?hr36
            case hy36 => (intro _ hSw; (try dsimp only at hSw); have hcv := Row.conv (Row.below RX.out (by rw [LX.out]; decide) hSw) 8 cap LX.out; go_simp <;> with_reducible rfl)
            simp only [Act.put, List.setIfInBounds_toArray, List.set_cons_zero, List.set_cons_succ]
            refine wpAnyH_ready (rs := [3]) (by kernel_rfl) (by simp) ?_
            refine AllReadyH.cons (o := { dst := some 40, op := Go.Op.call { callee := Go.Callee.value (Go.Operand.func 3), args := #[Go.Operand.tmp 37, Go.Operand.tmp 39], argTypes := #[23, 9] }, type := 4, pos := "law.go:62", after := #[{ on := 0, ground := Go.Ground.data }, { on := 2, ground := Go.Ground.data }], guard := none }) rfl (fun K hK => ?_) AllReadyH.nil
            go_simp
            (with_reducible refine (GP.out ⟨5, 2, 3, 7, 10, 300, 3, 2⟩ _ in1.out SX.out _).mono ?_)
            rintro e wc ⟨rfl, hb⟩
            go_wp2_with fail
            refine hK.out _ _ (below_on hHeld hb) (fun hNext => ?_)
            clear hK K hHeld hb
            have hHeld := hNext
            clear hNext
            (try simp only [Act.put, List.setIfInBounds_toArray, List.set_cons_zero, List.set_cons_succ])
            refine' wpAnyH_take (i := 4) (oi := { dst := some 41, op := Go.Op.unOp Go.UnOp.not 4 (Go.Operand.tmp 40), type := 4, pos := "law.go:62", after := #[{ on := 3, ground := Go.Ground.data }], guard := none }) (v := _) rfl (by kernel_rfl) (by kernel_rfl) (by kernel_rfl) (fun _ _ _ h => h) (Or.inl ⟨by rfl, ?hy37⟩) (by assumption) ?hr37
            case hy37 => (intro _ hSw; (try dsimp only at hSw); go_simp <;> with_reducible rfl)
            simp only [Act.put, List.setIfInBounds_toArray, List.set_cons_zero, List.set_cons_succ]
            refine' wpAnyH_take (i := 5) (oi := { dst := some 42, op := Go.Op.move (Go.Operand.tmp 41), type := 4, pos := "law.go:62", after := #[{ on := 4, ground := Go.Ground.data }, { on := 3, ground := Go.Ground.chain }], guard := none }) (v := _) rfl (by kernel_rfl) (by kernel_rfl) (by kernel_rfl) (fun _ _ _ h => h) (Or.inl ⟨by rfl, ?hy38⟩) (by assumption) ?hr38
            case hy38 => (intro _ hSw; (try dsimp only at hSw); go_simp <;> with_reducible rfl)
            simp only [Act.put, List.setIfInBounds_toArray, List.set_cons_zero, List.set_cons_succ]
            refine' wpAnyH_take (i := 6) (oi := { dst := some 43, op := Go.Op.move (Go.Operand.tmp 4), type := 3, pos := "law.go:62", after := #[{ on := 5, ground := Go.Ground.guard }], guard := some (5, false) }) (v := _) rfl (by kernel_rfl) (by kernel_rfl) (by kernel_rfl) (fun _ _ _ h => h) (Or.inl ⟨by rfl, ?hy39⟩) (by assumption) ?hr39
            case hy39 => (intro _ hSw; (try dsimp only at hSw); go_simp <;> with_reducible rfl)
            simp only [Act.put, List.setIfInBounds_toArray, List.set_cons_zero, List.set_cons_succ]
            refine' wpAnyH_take (i := 7) (oi := { dst := some 44, op := Go.Op.binOp Go.BinOp.rem 3 (Go.Operand.tmp 43) (Go.Operand.const (Go.Value.int Go.IntKind.i64 16)) 3, type := 3, pos := "law.go:62", after := #[{ on := 6, ground := Go.Ground.data }, { on := 5, ground := Go.Ground.guard }], guard := some (5, false) }) (v := _) rfl (by kernel_rfl) (by kernel_rfl) (by kernel_rfl) (fun _ _ _ h => h) (Or.inl ⟨by rfl, ?hy40⟩) (by assumption) ?hr40
            case hy40 => (intro _ hSw; (try dsimp only at hSw); go_simp <;> with_reducible rfl)
            simp only [Act.put, List.setIfInBounds_toArray, List.set_cons_zero, List.set_cons_succ]
            refine' wpAnyH_take (i := 8) (oi := { dst := some 45, op := Go.Op.binOp Go.BinOp.eql 3 (Go.Operand.tmp 44) (Go.Operand.const (Go.Value.int Go.IntKind.i64 0)) 3, type := 4, pos := "law.go:62", after := #[{ on := 7, ground := Go.Ground.data }, { on := 5, ground := Go.Ground.guard }], guard := some (5, false) }) (v := _) rfl (by kernel_rfl) (by kernel_rfl) (by kernel_rfl) (fun _ _ _ h => h) (Or.inl ⟨by rfl, ?hy41⟩) (by assumption) ?hr41
            case hy41 => (intro _ hSw; (try dsimp only at hSw); go_simp <;> with_reducible rfl)
            simp only [Act.put, List.setIfInBounds_toArray, List.set_cons_zero, List.set_cons_succ]
            refine' wpAnyH_take (i := 9) (oi := { dst := some 46, op := Go.Op.move (Go.Operand.tmp 45), type := 4, pos := "law.go:62", after := #[{ on := 8, ground := Go.Ground.data }, { on := 5, ground := Go.Ground.chain }, { on := 5, ground := Go.Ground.guard }], guard := some (5, false) }) (v := _) rfl (by kernel_rfl) (by kernel_rfl) (by kernel_rfl) (fun _ _ _ h => h) (Or.inl ⟨by rfl, ?hy42⟩) (by assumption) ?hr42
            case hy42 => (intro _ hSw; (try dsimp only at hSw); go_simp <;> with_reducible rfl)
            simp only [Act.put, List.setIfInBounds_toArray, List.set_cons_zero, List.set_cons_succ]
            refine wpAnyH_take (i := 10) (oi := { dst := some 47, op := Go.Op.load 23 (Go.Operand.tmp 1), type := 23, pos := "law.go:62", after := #[{ on := 9, ground := Go.Ground.guard }], guard := some (9, true) }) (v := undef) rfl (by kernel_rfl) (by kernel_rfl) (by kernel_rfl) (fun _ _ _ h => h) (Or.inr ⟨by rfl, rfl⟩) (by assumption) ?_
            simp only [Act.put, List.setIfInBounds_toArray, List.set_cons_zero, List.set_cons_succ]
            refine wpAnyH_take (i := 11) (oi := { dst := some 48, op := Go.Op.load 23 (Go.Operand.tmp 1), type := 23, pos := "law.go:62", after := #[{ on := 9, ground := Go.Ground.guard }], guard := some (9, true) }) (v := undef) rfl (by kernel_rfl) (by kernel_rfl) (by kernel_rfl) (fun _ _ _ h => h) (Or.inr ⟨by rfl, rfl⟩) (by assumption) ?_
            simp only [Act.put, List.setIfInBounds_toArray, List.set_cons_zero, List.set_cons_succ]
            refine wpAnyH_take (i := 12) (oi := { dst := some 49, op := Go.Op.move (Go.Operand.tmp 6), type := 43, pos := "law.go:62", after := #[{ on := 9, ground := Go.Ground.guard }], guard := some (9, true) }) (v := undef) rfl (by kernel_rfl) (by kernel_rfl) (by kernel_rfl) (fun _ _ _ h => h) (Or.inr ⟨by rfl, rfl⟩) (by assumption) ?_
            simp only [Act.put, List.setIfInBounds_toArray, List.set_cons_zero, List.set_cons_succ]
            refine wpAnyH_take (i := 13) (oi := { dst := some 50, op := Go.Op.move (Go.Operand.tmp 5), type := 3, pos := "law.go:62", after := #[{ on := 9, ground := Go.Ground.guard }], guard := some (9, true) }) (v := undef) rfl (by kernel_rfl) (by kernel_rfl) (by kernel_rfl) (fun _ _ _ h => h) (Or.inr ⟨by rfl, rfl⟩) (by assumption) ?_
            simp only [Act.put, List.setIfInBounds_toArray, List.set_cons_zero, List.set_cons_succ]
            refine wpAnyH_take (i := 14) (oi := { dst := some 51, op := Go.Op.slice 43 (Go.Operand.tmp 49) none (some (Go.Operand.tmp 50)) none, type := 43, pos := "law.go:62", after := #[{ on := 12, ground := Go.Ground.data }, { on := 13, ground := Go.Ground.data }, { on := 9, ground := Go.Ground.guard }], guard := some (9, true) }) (v := undef) rfl (by kernel_rfl) (by kernel_rfl) (by kernel_rfl) (fun _ _ _ h => h) (Or.inr ⟨by rfl, rfl⟩) (by assumption) ?_
            simp only [Act.put, List.setIfInBounds_toArray, List.set_cons_zero, List.set_cons_succ]
            refine wpAnyH_take (i := 15) (oi := { dst := some 52, op := Go.Op.convert 43 9 (Go.Operand.tmp 51), type := 9, pos := "law.go:62", after := #[{ on := 14, ground := Go.Ground.data }, { on := 9, ground := Go.Ground.guard }], guard := some (9, true) }) (v := undef) rfl (by kernel_rfl) (by kernel_rfl) (by kernel_rfl) (fun _ _ _ h => h) (Or.inr ⟨by rfl, rfl⟩) (by assumption) ?_
            simp only [Act.put, List.setIfInBounds_toArray, List.set_cons_zero, List.set_cons_succ]
            refine wpAnyH_take (i := 16) (oi := { dst := some 53, op := Go.Op.call { callee := Go.Callee.value (Go.Operand.func 5), args := #[Go.Operand.tmp 47, Go.Operand.tmp 48, Go.Operand.tmp 52], argTypes := #[23, 23, 9] }, type := 4, pos := "law.go:62", after := #[{ on := 10, ground := Go.Ground.data }, { on := 11, ground := Go.Ground.data }, { on := 15, ground := Go.Ground.data }, { on := 9, ground := Go.Ground.chain }, { on := 9, ground := Go.Ground.guard }], guard := some (9, true) }) (v := undef) rfl (by kernel_rfl) (by kernel_rfl) (by kernel_rfl) (fun _ _ _ h => h) (Or.inr ⟨by rfl, rfl⟩) (by assumption) ?_
            simp only [Act.put, List.setIfInBounds_toArray, List.set_cons_zero, List.set_cons_succ]
            refine wpAnyH_take (i := 17) (oi := { dst := some 54, op := Go.Op.unOp Go.UnOp.not 4 (Go.Operand.tmp 53), type := 4, pos := "law.go:62", after := #[{ on := 16, ground := Go.Ground.data }, { on := 9, ground := Go.Ground.guard }], guard := some (9, true) }) (v := undef) rfl (by kernel_rfl) (by kernel_rfl) (by kernel_rfl) (fun _ _ _ h => h) (Or.inr ⟨by rfl, rfl⟩) (by assumption) ?_
            simp only [Act.put, List.setIfInBounds_toArray, List.set_cons_zero, List.set_cons_succ]
            refine' wpAnyH_take (i := 18) (oi := { dst := some 55, op := Go.Op.pick (Go.Operand.tmp 46) (Go.Operand.tmp 54) (Go.Operand.const (Go.Value.bool false)), type := 4, pos := "law.go:62", after := #[{ on := 9, ground := Go.Ground.data }, { on := 17, ground := Go.Ground.data }, { on := 5, ground := Go.Ground.guard }], guard := some (5, false) }) (v := _) rfl (by kernel_rfl) (by kernel_rfl) (by kernel_rfl) (fun _ _ _ h => h) (Or.inl ⟨by rfl, ?hy43⟩) (by assumption) ?hr43
            case hy43 => (intro _ hSw; (try dsimp only at hSw); go_simp <;> with_reducible rfl)
            simp only [Act.put, List.setIfInBounds_toArray, List.set_cons_zero, List.set_cons_succ]
            refine' wpAnyH_take (i := 19) (oi := { dst := some 56, op := Go.Op.pick (Go.Operand.tmp 42) (Go.Operand.const (Go.Value.bool true)) (Go.Operand.tmp 55), type := 4, pos := "law.go:62", after := #[{ on := 5, ground := Go.Ground.data }, { on := 18, ground := Go.Ground.data }], guard := none }) (v := _) rfl (by kernel_rfl) (by kernel_rfl) (by kernel_rfl) (fun _ _ _ h => h) (Or.inl ⟨by rfl, ?hy44⟩) (by assumption) ?hr44
            case hy44 => (intro _ hSw; (try dsimp only at hSw); go_simp <;> with_reducible rfl)
            simp only [Act.put, List.setIfInBounds_toArray, List.set_cons_zero, List.set_cons_succ]
            refine wpAnyH_done (by kernel_rfl) ?_ _
            go_wp2
            have HN := Lib.hid (below_on HX0.out hHeld)
            clear hHeld
            go_roundw
            case rel => exact ⟨j + 1, by omega, by go_num, HN⟩
            case measure => simp [intOf]; omega
        · have hdj : decide (j < S.size) = false := by rw [HS8.out]; simp; omega
          have FR := Lib.hid (stays HF2.out HB.out)
          have hlA := lt_heap FR.out
          have hs8 : S.size ≤ 8 := Nat.le_of_eq HS8.out
          obtain ⟨x0, x1, x2, x3, x4, x5, x6, x7⟩ := cells_of FR.out; dsimp only at x0 x1 x2 x3 x4 x5 x6 x7
          go_upto_region 17 with fail
          clear x0 x1 x2 x3 x4 x5 x6 x7
          have HC0 : Hid (Below w2.heap.size w2 ((wr.alloc (pO ⟨(k : Int), 2, 3, 7, 10, 300, 3, 2⟩ 23)).alloc (pO ⟨5, 2, (k : Int), 7, 10, 300, 3, 2⟩ 23))) := Lib.hid (below_on HB.out (nest_below wr [_, _]))
          have FP0 : Hid (((wr.alloc (pO ⟨(k : Int), 2, 3, 7, 10, 300, 3, 2⟩ 23)).alloc (pO ⟨5, 2, (k : Int), 7, 10, 300, 3, 2⟩ 23)).heap[wr.heap.size]? = some (pO ⟨(k : Int), 2, 3, 7, 10, 300, 3, 2⟩ 23)) := Lib.hid (nest wr [_, _] 0 _ rfl)
          have FQ0 : Hid (((wr.alloc (pO ⟨(k : Int), 2, 3, 7, 10, 300, 3, 2⟩ 23)).alloc (pO ⟨5, 2, (k : Int), 7, 10, 300, 3, 2⟩ 23)).heap[wr.heap.size + 1]? = some (pO ⟨5, 2, (k : Int), 7, 10, 300, 3, 2⟩ 23)) := Lib.hid (nest wr [_, _] 1 _ rfl)
          have FX0 : Hid (((wr.alloc (pO ⟨(k : Int), 2, 3, 7, 10, 300, 3, 2⟩ 23)).alloc (pO ⟨5, 2, (k : Int), 7, 10, 300, 3, 2⟩ 23)).heap[w.heap.size]? = some (pO ⟨5, 2, 3, 7, 10, 300, 3, 2⟩ 23)) := Lib.hid (stays FR.out (nest_below wr [_, _]))
          have HA := Lib.hid (Nat.le_trans HB.out.size (Nat.le_refl wr.heap.size))
          generalize ((wr.alloc (pO ⟨(k : Int), 2, 3, 7, 10, 300, 3, 2⟩ 23)).alloc (pO ⟨5, 2, (k : Int), 7, 10, 300, 3, 2⟩ 23)) = wx at *
          have SE : Hid ((⟨#[]⟩ : ByteArray).size ≤ 1000) := Lib.hid (by decide)
          have SX : Hid ((S ++ ⟨#[120]⟩ : ByteArray).size ≤ 1000) := Lib.hid (by rw [ByteArray.size_append, HS8.out]; decide)
          have SS : Hid (S.size ≤ 1000) := Lib.hid (by rw [HS8.out]; decide)
          obtain ⟨g0, g1, g2, g3, g4, g5, g6, g7⟩ := cells_of FP0.out; dsimp only at g0 g1 g2 g3 g4 g5 g6 g7
          go_upto_region 19 with (first
            | (go_at_call 3; ((with_reducible refine (GP.out ⟨(k : Int), 2, 3, 7, 10, 300, 3, 2⟩ _ in2.out SE.out _).mono ?_); rintro e wc1 ⟨rfl, hb⟩; have HC1 := Lib.hid (below_on HC0.out hb); have FP1 := Lib.hid (stays FP0.out hb); have FQ1 := Lib.hid (stays FQ0.out hb); have FX1 := Lib.hid (stays FX0.out hb); clear hb g0 g1 g2 g3 g4 g5 g6 g7; obtain ⟨j0, j1, j2, j3, j4, j5, j6, j7⟩ := cells_of FQ1.out; dsimp only at j0 j1 j2 j3 j4 j5 j6 j7))
            | (go_at_call 3; ((with_reducible refine (GP.out ⟨5, 2, (k : Int), 7, 10, 300, 3, 2⟩ _ in3.out SX.out _).mono ?_); rintro e wc2 ⟨rfl, hb⟩; have HC2 := Lib.hid (below_on HC1.out hb); have FP2 := Lib.hid (stays FP1.out hb); have FQ2 := Lib.hid (stays FQ1.out hb); have FX2 := Lib.hid (stays FX1.out hb); clear hb j0 j1 j2 j3 j4 j5 j6 j7; obtain ⟨g0, g1, g2, g3, g4, g5, g6, g7⟩ := cells_of FP2.out; dsimp only at g0 g1 g2 g3 g4 g5 g6 g7; obtain ⟨j0, j1, j2, j3, j4, j5, j6, j7⟩ := cells_of FQ2.out; dsimp only at j0 j1 j2 j3 j4 j5 j6 j7))
            | (go_at_call 5; ((with_reducible refine (GB.out ⟨(k : Int), 2, 3, 7, 10, 300, 3, 2⟩ ⟨5, 2, (k : Int), 7, 10, 300, 3, 2⟩ _ in2.out in3.out SS.out _).mono ?_); rintro e wc3 ⟨rfl, hb⟩; have HC3 := Lib.hid (below_on HC2.out hb); have FP3 := Lib.hid (stays FP2.out hb); have FQ3 := Lib.hid (stays FQ2.out hb); have FX3 := Lib.hid (stays FX2.out hb); clear hb g0 g1 g2 g3 g4 g5 g6 g7 j0 j1 j2 j3 j4 j5 j6 j7; obtain ⟨x0, x1, x2, x3, x4, x5, x6, x7⟩ := cells_of FX3.out; dsimp only at x0 x1 x2 x3 x4 x5 x6 x7; obtain ⟨g0, g1, g2, g3, g4, g5, g6, g7⟩ := cells_of FP3.out; dsimp only at g0 g1 g2 g3 g4 g5 g6 g7)))
          have HA1 : Hid (w2.heap.size ≤ wr.heap.size) := HA
          obtain ⟨z0, z1, z2, z3, z4, z5, z6, z7⟩ := frees8 FP3.out
          go_upto_region 20 with fail
          clear g0 g1 g2 g3 g4 g5 g6 g7 x0 x1 x2 x3 x4 x5 x6 x7 z0 z1 z2 z3 z4 z5 z6 z7
          have HD0 : Hid (Below w2.heap.size w2 ((((((((wc3.setCell ⟨wr.heap.size, 0, none⟩ (.int .u8 5)).setCell ⟨wr.heap.size, 1, none⟩ (.int .u8 2)).setCell ⟨wr.heap.size, 2, none⟩ (.int .u8 3)).setCell ⟨wr.heap.size, 3, none⟩ (.int .u8 7)).setCell ⟨wr.heap.size, 4, none⟩ (.int .i64 10)).setCell ⟨wr.heap.size, 5, none⟩ (.int .i64 300)).setCell ⟨wr.heap.size, 6, none⟩ (.int .i64 3)).setCell ⟨wr.heap.size, 7, none⟩ (.int .i64 2))) := Lib.hid (set8 HC3.out HA1.out _ _ _ _ _ _ _ _)
          have FP4 : Hid (((((((((wc3.setCell ⟨wr.heap.size, 0, none⟩ (.int .u8 5)).setCell ⟨wr.heap.size, 1, none⟩ (.int .u8 2)).setCell ⟨wr.heap.size, 2, none⟩ (.int .u8 3)).setCell ⟨wr.heap.size, 3, none⟩ (.int .u8 7)).setCell ⟨wr.heap.size, 4, none⟩ (.int .i64 10)).setCell ⟨wr.heap.size, 5, none⟩ (.int .i64 300)).setCell ⟨wr.heap.size, 6, none⟩ (.int .i64 3)).setCell ⟨wr.heap.size, 7, none⟩ (.int .i64 2)).heap[wr.heap.size]? = some (pO ⟨5, 2, 3, 7, 10, 300, 3, 2⟩ 23)) := Lib.hid (set8_at FP3.out _ _ _ _ _ _ _ _)
          have FQ4 : Hid (((((((((wc3.setCell ⟨wr.heap.size, 0, none⟩ (.int .u8 5)).setCell ⟨wr.heap.size, 1, none⟩ (.int .u8 2)).setCell ⟨wr.heap.size, 2, none⟩ (.int .u8 3)).setCell ⟨wr.heap.size, 3, none⟩ (.int .u8 7)).setCell ⟨wr.heap.size, 4, none⟩ (.int .i64 10)).setCell ⟨wr.heap.size, 5, none⟩ (.int .i64 300)).setCell ⟨wr.heap.size, 6, none⟩ (.int .i64 3)).setCell ⟨wr.heap.size, 7, none⟩ (.int .i64 2)).heap[wr.heap.size + 1]? = some (pO ⟨5, 2, (k : Int), 7, 10, 300, 3, 2⟩ 23)) := Lib.hid ((set8_other (by omega) _ _ _ _ _ _ _ _).trans FQ3.out)
          have FX4 : Hid (((((((((wc3.setCell ⟨wr.heap.size, 0, none⟩ (.int .u8 5)).setCell ⟨wr.heap.size, 1, none⟩ (.int .u8 2)).setCell ⟨wr.heap.size, 2, none⟩ (.int .u8 3)).setCell ⟨wr.heap.size, 3, none⟩ (.int .u8 7)).setCell ⟨wr.heap.size, 4, none⟩ (.int .i64 10)).setCell ⟨wr.heap.size, 5, none⟩ (.int .i64 300)).setCell ⟨wr.heap.size, 6, none⟩ (.int .i64 3)).setCell ⟨wr.heap.size, 7, none⟩ (.int .i64 2)).heap[w.heap.size]? = some (pO ⟨5, 2, 3, 7, 10, 300, 3, 2⟩ 23)) := Lib.hid ((set8_other (Nat.ne_of_lt (Nat.lt_of_lt_of_le (lt_heap HF2.out) HA1.out)) _ _ _ _ _ _ _ _).trans FX3.out)
          generalize ((((((((wc3.setCell ⟨wr.heap.size, 0, none⟩ (.int .u8 5)).setCell ⟨wr.heap.size, 1, none⟩ (.int .u8 2)).setCell ⟨wr.heap.size, 2, none⟩ (.int .u8 3)).setCell ⟨wr.heap.size, 3, none⟩ (.int .u8 7)).setCell ⟨wr.heap.size, 4, none⟩ (.int .i64 10)).setCell ⟨wr.heap.size, 5, none⟩ (.int .i64 300)).setCell ⟨wr.heap.size, 6, none⟩ (.int .i64 3)).setCell ⟨wr.heap.size, 7, none⟩ (.int .i64 2)) = wy at *
          obtain ⟨z0, z1, z2, z3, z4, z5, z6, z7⟩ := frees8 FQ4.out
          obtain ⟨x0, x1, x2, x3, x4, x5, x6, x7⟩ := cells_of FX4.out; dsimp only at x0 x1 x2 x3 x4 x5 x6 x7
          obtain ⟨j0, j1, j2, j3, j4, j5, j6, j7⟩ := cells_of FQ4.out; dsimp only at j0 j1 j2 j3 j4 j5 j6 j7
          go_upto_region 21 with fail
          clear x0 x1 x2 x3 x4 x5 x6 x7 z0 z1 z2 z3 z4 z5 z6 z7 j0 j1 j2 j3 j4 j5 j6 j7
          have HD1 : Hid (Below w2.heap.size w2 ((((((((wy.setCell ⟨wr.heap.size + 1, 0, none⟩ (.int .u8 5)).setCell ⟨wr.heap.size + 1, 1, none⟩ (.int .u8 2)).setCell ⟨wr.heap.size + 1, 2, none⟩ (.int .u8 3)).setCell ⟨wr.heap.size + 1, 3, none⟩ (.int .u8 7)).setCell ⟨wr.heap.size + 1, 4, none⟩ (.int .i64 10)).setCell ⟨wr.heap.size + 1, 5, none⟩ (.int .i64 300)).setCell ⟨wr.heap.size + 1, 6, none⟩ (.int .i64 3)).setCell ⟨wr.heap.size + 1, 7, none⟩ (.int .i64 2))) := Lib.hid (set8 HD0.out (Nat.le_succ_of_le HA1.out) _ _ _ _ _ _ _ _)
          have FP5 : Hid (((((((((wy.setCell ⟨wr.heap.size + 1, 0, none⟩ (.int .u8 5)).setCell ⟨wr.heap.size + 1, 1, none⟩ (.int .u8 2)).setCell ⟨wr.heap.size + 1, 2, none⟩ (.int .u8 3)).setCell ⟨wr.heap.size + 1, 3, none⟩ (.int .u8 7)).setCell ⟨wr.heap.size + 1, 4, none⟩ (.int .i64 10)).setCell ⟨wr.heap.size + 1, 5, none⟩ (.int .i64 300)).setCell ⟨wr.heap.size + 1, 6, none⟩ (.int .i64 3)).setCell ⟨wr.heap.size + 1, 7, none⟩ (.int .i64 2)).heap[wr.heap.size]? = some (pO ⟨5, 2, 3, 7, 10, 300, 3, 2⟩ 23)) := Lib.hid ((set8_other (by omega) _ _ _ _ _ _ _ _).trans FP4.out)
          have FQ5 : Hid (((((((((wy.setCell ⟨wr.heap.size + 1, 0, none⟩ (.int .u8 5)).setCell ⟨wr.heap.size + 1, 1, none⟩ (.int .u8 2)).setCell ⟨wr.heap.size + 1, 2, none⟩ (.int .u8 3)).setCell ⟨wr.heap.size + 1, 3, none⟩ (.int .u8 7)).setCell ⟨wr.heap.size + 1, 4, none⟩ (.int .i64 10)).setCell ⟨wr.heap.size + 1, 5, none⟩ (.int .i64 300)).setCell ⟨wr.heap.size + 1, 6, none⟩ (.int .i64 3)).setCell ⟨wr.heap.size + 1, 7, none⟩ (.int .i64 2)).heap[wr.heap.size + 1]? = some (pO ⟨5, 2, 3, 7, 10, 300, 3, 2⟩ 23)) := Lib.hid (set8_at FQ4.out _ _ _ _ _ _ _ _)
          generalize ((((((((wy.setCell ⟨wr.heap.size + 1, 0, none⟩ (.int .u8 5)).setCell ⟨wr.heap.size + 1, 1, none⟩ (.int .u8 2)).setCell ⟨wr.heap.size + 1, 2, none⟩ (.int .u8 3)).setCell ⟨wr.heap.size + 1, 3, none⟩ (.int .u8 7)).setCell ⟨wr.heap.size + 1, 4, none⟩ (.int .i64 10)).setCell ⟨wr.heap.size + 1, 5, none⟩ (.int .i64 300)).setCell ⟨wr.heap.size + 1, 6, none⟩ (.int .i64 3)).setCell ⟨wr.heap.size + 1, 7, none⟩ (.int .i64 2)) = wz at *
          obtain ⟨z0, z1, z2, z3, z4, z5, z6, z7⟩ := frees8 FP5.out
          obtain ⟨g0, g1, g2, g3, g4, g5, g6, g7⟩ := cells_of FP5.out; dsimp only at g0 g1 g2 g3 g4 g5 g6 g7
          go_upto_region 22 with fail
          clear z0 z1 z2 z3 z4 z5 z6 z7 g0 g1 g2 g3 g4 g5 g6 g7
          have HD2 : Hid (Below w2.heap.size w2 (wz.setCell ⟨wr.heap.size, 3, none⟩ (.int .u8 (k : Int)))) := Lib.hid (HD1.out.setCell HA1.out _)
          have FP6 : Hid ((wz.setCell ⟨wr.heap.size, 3, none⟩ (.int .u8 (k : Int))).heap[wr.heap.size]? = some (pO ⟨5, 2, 3, (k : Int), 10, 300, 3, 2⟩ 23)) := Lib.hid (block_set (i := 3) FP5.out _)
          have FQ6 : Hid ((wz.setCell ⟨wr.heap.size, 3, none⟩ (.int .u8 (k : Int))).heap[wr.heap.size + 1]? = some (pO ⟨5, 2, 3, 7, 10, 300, 3, 2⟩ 23)) := Lib.hid ((block_other (by omega) _).trans FQ5.out)
          generalize wz.setCell ⟨wr.heap.size, 3, none⟩ (.int .u8 (k : Int)) = wv at *
          obtain ⟨z0, z1, z2, z3, z4, z5, z6, z7⟩ := frees8 FQ6.out
          obtain ⟨j0, j1, j2, j3, j4, j5, j6, j7⟩ := cells_of FQ6.out; dsimp only at j0 j1 j2 j3 j4 j5 j6 j7
          go_upto_region 23 with fail
          clear z0 z1 z2 z3 z4 z5 z6 z7 j0 j1 j2 j3 j4 j5 j6 j7
          have HD3 : Hid (Below w2.heap.size w2 (wv.setCell ⟨wr.heap.size + 1, 1, none⟩ (.int .u8 (k : Int)))) := Lib.hid (HD2.out.setCell (Nat.le_succ_of_le HA1.out) _)
          have PX : Hid ((wv.setCell ⟨wr.heap.size + 1, 1, none⟩ (.int .u8 (k : Int))).heap[wr.heap.size]? = some (pO ⟨5, 2, 3, (k : Int), 10, 300, 3, 2⟩ 23)) := Lib.hid ((block_other (by omega) _).trans FP6.out)
          have QX : Hid ((wv.setCell ⟨wr.heap.size + 1, 1, none⟩ (.int .u8 (k : Int))).heap[wr.heap.size + 1]? = some (pO ⟨5, (k : Int), 3, 7, 10, 300, 3, 2⟩ 23)) := Lib.hid (block_set (i := 1) FQ6.out _)
          generalize wv.setCell ⟨wr.heap.size + 1, 1, none⟩ (.int .u8 (k : Int)) = wx2 at *
          clear FP0 FQ0 FX0 HC0 FP3 FQ3 FX3 FP4 FQ4 FX4 FP5 FQ5 FP6 FQ6 HD0 HD1 HD2 HC3 wx wz wv
          obtain ⟨wx, rfl⟩ : ∃ wx : World, wx = wx2 := ⟨_, rfl⟩
          obtain ⟨m, hm⟩ : ∃ m : Nat, (k : Int).tmod 9 = (m : Int) := ⟨k % 9, by rw [Int.tmod_eq_emod_of_nonneg (by omega)]; omega⟩
          have hm9 : m ≤ 8 := by have := Int.tmod_eq_emod_of_nonneg (a := (k : Int)) (b := 9) (by omega); omega
          have SY : Hid ((S.extract 0 m).size ≤ 1000) := Lib.hid (by rw [ByteArray.size_extract, HS8.out]; omega)
          have hmS : (m : Int) ≤ (S.size : Int) := by rw [HS8.out]; omega
          have hm0 : (0 : Int) ≤ (m : Int) := by omega
          refine wp_region_held_drew (S := fun w' => Below wx.heap.size wx w') (by kernel_rfl) (Below.refl _ _).drew (fun hHeld => ?_)
          refine' wpAnyH_take (i := 0) (oi := { dst := some 90, op := Go.Op.load 23 (Go.Operand.tmp 7), type := 23, pos := "law.go:77", after := #[], guard := none }) (v := _) rfl (by kernel_rfl) (by kernel_rfl) (by kernel_rfl) (fun _ _ _ h => h) (Or.inl ⟨by rfl, ?hy1⟩) (by assumption) ?hr1
          case hy1 => (intro _ hSw; (try dsimp only at hSw); obtain ⟨c0, c1, c2, c3, c4, c5, c6, c7⟩ := cells_of (stays PX.out hSw); dsimp only at c0 c1 c2 c3 c4 c5 c6 c7; go_simp <;> with_reducible rfl)
          simp only [Act.put, List.setIfInBounds_toArray, List.set_cons_zero, List.set_cons_succ]
          refine wpAnyH_ready (rs := [1]) (by kernel_rfl) (by simp) ?_
          refine AllReadyH.cons (o := { dst := some 91, op := Go.Op.call { callee := Go.Callee.value (Go.Operand.func 3), args := #[Go.Operand.tmp 90, Go.Operand.const (Go.Value.string { data := #[] })], argTypes := #[23, 9] }, type := 4, pos := "law.go:77", after := #[{ on := 0, ground := Go.Ground.data }], guard := none }) rfl (fun K hK => ?_) AllReadyH.nil
          go_simp
          (with_reducible refine (GP.out ⟨5, 2, 3, (k : Int), 10, 300, 3, 2⟩ _ in4.out SE.out _).mono ?_)
          rintro e wc ⟨rfl, hb⟩
          go_wp2_with fail
          refine hK.out _ _ (below_on hHeld hb) (fun hNext => ?_)
          clear hK K hHeld hb
          have hHeld := hNext
          clear hNext
          (try simp only [Act.put, List.setIfInBounds_toArray, List.set_cons_zero, List.set_cons_succ])
          refine' wpAnyH_take (i := 2) (oi := { dst := some 92, op := Go.Op.unOp Go.UnOp.not 4 (Go.Operand.tmp 91), type := 4, pos := "law.go:77", after := #[{ on := 1, ground := Go.Ground.data }], guard := none }) (v := _) rfl (by kernel_rfl) (by kernel_rfl) (by kernel_rfl) (fun _ _ _ h => h) (Or.inl ⟨by rfl, ?hy2⟩) (by assumption) ?hr2
          case hy2 => (intro _ hSw; (try dsimp only at hSw); go_simp <;> with_reducible rfl)
          simp only [Act.put, List.setIfInBounds_toArray, List.set_cons_zero, List.set_cons_succ]
          refine' wpAnyH_take (i := 3) (oi := { dst := some 93, op := Go.Op.move (Go.Operand.tmp 92), type := 4, pos := "law.go:77", after := #[{ on := 2, ground := Go.Ground.data }, { on := 1, ground := Go.Ground.chain }], guard := none }) (v := _) rfl (by kernel_rfl) (by kernel_rfl) (by kernel_rfl) (fun _ _ _ h => h) (Or.inl ⟨by rfl, ?hy3⟩) (by assumption) ?hr3
          case hy3 => (intro _ hSw; (try dsimp only at hSw); go_simp <;> with_reducible rfl)
          simp only [Act.put, List.setIfInBounds_toArray, List.set_cons_zero, List.set_cons_succ]
          refine' wpAnyH_take (i := 4) (oi := { dst := some 94, op := Go.Op.load 23 (Go.Operand.tmp 8), type := 23, pos := "law.go:77", after := #[{ on := 3, ground := Go.Ground.guard }], guard := some (3, false) }) (v := _) rfl (by kernel_rfl) (by kernel_rfl) (by kernel_rfl) (fun _ _ _ h => h) (Or.inl ⟨by rfl, ?hy4⟩) (by assumption) ?hr4
          case hy4 => (intro _ hSw; (try dsimp only at hSw); obtain ⟨c0, c1, c2, c3, c4, c5, c6, c7⟩ := cells_of (stays QX.out hSw); dsimp only at c0 c1 c2 c3 c4 c5 c6 c7; go_simp <;> with_reducible rfl)
          simp only [Act.put, List.setIfInBounds_toArray, List.set_cons_zero, List.set_cons_succ]
          refine wpAnyH_ready (rs := [5]) (by kernel_rfl) (by simp) ?_
          refine AllReadyH.cons (o := { dst := some 95, op := Go.Op.call { callee := Go.Callee.value (Go.Operand.func 3), args := #[Go.Operand.tmp 94, Go.Operand.const (Go.Value.string { data := #[] })], argTypes := #[23, 9] }, type := 4, pos := "law.go:77", after := #[{ on := 4, ground := Go.Ground.data }, { on := 3, ground := Go.Ground.chain }, { on := 3, ground := Go.Ground.guard }], guard := some (3, false) }) rfl (fun K hK => ?_) AllReadyH.nil
          go_simp
          (with_reducible refine (GP.out ⟨5, (k : Int), 3, 7, 10, 300, 3, 2⟩ _ in5.out SE.out _).mono ?_)
          rintro e wc ⟨rfl, hb⟩
          go_wp2_with fail
          refine hK.out _ _ (below_on hHeld hb) (fun hNext => ?_)
          clear hK K hHeld hb
          have hHeld := hNext
          clear hNext
          (try simp only [Act.put, List.setIfInBounds_toArray, List.set_cons_zero, List.set_cons_succ])
          refine' wpAnyH_take (i := 6) (oi := { dst := some 96, op := Go.Op.unOp Go.UnOp.not 4 (Go.Operand.tmp 95), type := 4, pos := "law.go:77", after := #[{ on := 5, ground := Go.Ground.data }, { on := 3, ground := Go.Ground.guard }], guard := some (3, false) }) (v := _) rfl (by kernel_rfl) (by kernel_rfl) (by kernel_rfl) (fun _ _ _ h => h) (Or.inl ⟨by rfl, ?hy5⟩) (by assumption) ?hr5
          case hy5 => (intro _ hSw; (try dsimp only at hSw); go_simp <;> with_reducible rfl)
          simp only [Act.put, List.setIfInBounds_toArray, List.set_cons_zero, List.set_cons_succ]
          refine' wpAnyH_take (i := 7) (oi := { dst := some 97, op := Go.Op.pick (Go.Operand.tmp 93) (Go.Operand.const (Go.Value.bool true)) (Go.Operand.tmp 96), type := 4, pos := "law.go:77", after := #[{ on := 3, ground := Go.Ground.data }, { on := 6, ground := Go.Ground.data }], guard := none }) (v := _) rfl (by kernel_rfl) (by kernel_rfl) (by kernel_rfl) (fun _ _ _ h => h) (Or.inl ⟨by rfl, ?hy6⟩) (by assumption) ?hr6
          case hy6 => (intro _ hSw; (try dsimp only at hSw); go_simp <;> with_reducible rfl)
          simp only [Act.put, List.setIfInBounds_toArray, List.set_cons_zero, List.set_cons_succ]
          refine' wpAnyH_take (i := 8) (oi := { dst := some 98, op := Go.Op.move (Go.Operand.tmp 97), type := 4, pos := "law.go:77", after := #[{ on := 7, ground := Go.Ground.data }, { on := 5, ground := Go.Ground.chain }], guard := none }) (v := _) rfl (by kernel_rfl) (by kernel_rfl) (by kernel_rfl) (fun _ _ _ h => h) (Or.inl ⟨by rfl, ?hy7⟩) (by assumption) ?hr7
          case hy7 => (intro _ hSw; (try dsimp only at hSw); go_simp <;> with_reducible rfl)
          simp only [Act.put, List.setIfInBounds_toArray, List.set_cons_zero, List.set_cons_succ]
          refine' wpAnyH_take (i := 9) (oi := { dst := some 99, op := Go.Op.load 23 (Go.Operand.tmp 8), type := 23, pos := "law.go:77", after := #[{ on := 8, ground := Go.Ground.guard }], guard := some (8, false) }) (v := _) rfl (by kernel_rfl) (by kernel_rfl) (by kernel_rfl) (fun _ _ _ h => h) (Or.inl ⟨by rfl, ?hy8⟩) (by assumption) ?hr8
          case hy8 => (intro _ hSw; (try dsimp only at hSw); obtain ⟨c0, c1, c2, c3, c4, c5, c6, c7⟩ := cells_of (stays QX.out hSw); dsimp only at c0 c1 c2 c3 c4 c5 c6 c7; go_simp <;> with_reducible rfl)
          simp only [Act.put, List.setIfInBounds_toArray, List.set_cons_zero, List.set_cons_succ]
          refine' wpAnyH_take (i := 10) (oi := { dst := some 100, op := Go.Op.load 23 (Go.Operand.tmp 7), type := 23, pos := "law.go:77", after := #[{ on := 8, ground := Go.Ground.guard }], guard := some (8, false) }) (v := _) rfl (by kernel_rfl) (by kernel_rfl) (by kernel_rfl) (fun _ _ _ h => h) (Or.inl ⟨by rfl, ?hy9⟩) (by assumption) ?hr9
          case hy9 => (intro _ hSw; (try dsimp only at hSw); obtain ⟨c0, c1, c2, c3, c4, c5, c6, c7⟩ := cells_of (stays PX.out hSw); dsimp only at c0 c1 c2 c3 c4 c5 c6 c7; go_simp <;> with_reducible rfl)
          simp only [Act.put, List.setIfInBounds_toArray, List.set_cons_zero, List.set_cons_succ]
          refine' wpAnyH_take (i := 11) (oi := { dst := some 101, op := Go.Op.move (Go.Operand.tmp 2), type := 9, pos := "law.go:77", after := #[{ on := 8, ground := Go.Ground.guard }], guard := some (8, false) }) (v := _) rfl (by kernel_rfl) (by kernel_rfl) (by kernel_rfl) (fun _ _ _ h => h) (Or.inl ⟨by rfl, ?hy10⟩) (by assumption) ?hr10
          case hy10 => (intro _ hSw; (try dsimp only at hSw); go_simp <;> with_reducible rfl)
          simp only [Act.put, List.setIfInBounds_toArray, List.set_cons_zero, List.set_cons_succ]
          refine' wpAnyH_take (i := 12) (oi := { dst := some 102, op := Go.Op.move (Go.Operand.tmp 4), type := 3, pos := "law.go:77", after := #[{ on := 8, ground := Go.Ground.guard }], guard := some (8, false) }) (v := _) rfl (by kernel_rfl) (by kernel_rfl) (by kernel_rfl) (fun _ _ _ h => h) (Or.inl ⟨by rfl, ?hy11⟩) (by assumption) ?hr11
          case hy11 => (intro _ hSw; (try dsimp only at hSw); go_simp <;> with_reducible rfl)
          simp only [Act.put, List.setIfInBounds_toArray, List.set_cons_zero, List.set_cons_succ]
          refine' wpAnyH_take (i := 13) (oi := { dst := some 103, op := Go.Op.binOp Go.BinOp.rem 3 (Go.Operand.tmp 102) (Go.Operand.const (Go.Value.int Go.IntKind.i64 9)) 3, type := 3, pos := "law.go:77", after := #[{ on := 12, ground := Go.Ground.data }, { on := 8, ground := Go.Ground.guard }], guard := some (8, false) }) (v := _) rfl (by kernel_rfl) (by kernel_rfl) (by kernel_rfl) (fun _ _ _ h => h) (Or.inl ⟨by rfl, ?hy12⟩) (by assumption) ?hr12
          case hy12 => (intro _ hSw; (try dsimp only at hSw); go_simp <;> with_reducible rfl)
          simp only [Act.put, List.setIfInBounds_toArray, List.set_cons_zero, List.set_cons_succ]
          refine' wpAnyH_take (i := 14) (oi := { dst := some 104, op := Go.Op.slice 9 (Go.Operand.tmp 101) none (some (Go.Operand.tmp 103)) none, type := 9, pos := "law.go:77", after := #[{ on := 11, ground := Go.Ground.data }, { on := 13, ground := Go.Ground.data }, { on := 8, ground := Go.Ground.guard }], guard := some (8, false) }) (v := _) rfl (by kernel_rfl) (by kernel_rfl) (by kernel_rfl) (fun _ _ _ h => h) (Or.inl ⟨by rfl, ?hy13⟩) (by assumption) ?hr13
          case hy13 => (intro _ hSw; (try dsimp only at hSw); go_simp <;> with_reducible rfl)
          simp only [Act.put, List.setIfInBounds_toArray, List.set_cons_zero, List.set_cons_succ]
          refine wpAnyH_ready (rs := [15]) (by kernel_rfl) (by simp) ?_
          refine AllReadyH.cons (o := { dst := some 105, op := Go.Op.call { callee := Go.Callee.value (Go.Operand.func 5), args := #[Go.Operand.tmp 99, Go.Operand.tmp 100, Go.Operand.tmp 104], argTypes := #[23, 23, 9] }, type := 4, pos := "law.go:77", after := #[{ on := 9, ground := Go.Ground.data }, { on := 10, ground := Go.Ground.data }, { on := 14, ground := Go.Ground.data }, { on := 8, ground := Go.Ground.chain }, { on := 8, ground := Go.Ground.guard }], guard := some (8, false) }) rfl (fun K hK => ?_) AllReadyH.nil
          go_simp
          (with_reducible refine (GB.out ⟨5, (k : Int), 3, 7, 10, 300, 3, 2⟩ ⟨5, 2, 3, (k : Int), 10, 300, 3, 2⟩ _ in5.out in4.out SY.out _).mono ?_)
          rintro e wc ⟨rfl, hb⟩
          go_wp2_with fail
          refine hK.out _ _ (below_on hHeld hb) (fun hNext => ?_)
          clear hK K hHeld hb
          have hHeld := hNext
          clear hNext
          (try simp only [Act.put, List.setIfInBounds_toArray, List.set_cons_zero, List.set_cons_succ])
          refine' wpAnyH_take (i := 16) (oi := { dst := some 106, op := Go.Op.unOp Go.UnOp.not 4 (Go.Operand.tmp 105), type := 4, pos := "law.go:77", after := #[{ on := 15, ground := Go.Ground.data }, { on := 8, ground := Go.Ground.guard }], guard := some (8, false) }) (v := _) rfl (by kernel_rfl) (by kernel_rfl) (by kernel_rfl) (fun _ _ _ h => h) (Or.inl ⟨by rfl, ?hy14⟩) (by assumption) ?hr14
          case hy14 => (intro _ hSw; (try dsimp only at hSw); go_simp <;> with_reducible rfl)
          simp only [Act.put, List.setIfInBounds_toArray, List.set_cons_zero, List.set_cons_succ]
          refine' wpAnyH_take (i := 17) (oi := { dst := some 107, op := Go.Op.pick (Go.Operand.tmp 98) (Go.Operand.const (Go.Value.bool true)) (Go.Operand.tmp 106), type := 4, pos := "law.go:77", after := #[{ on := 8, ground := Go.Ground.data }, { on := 16, ground := Go.Ground.data }], guard := none }) (v := _) rfl (by kernel_rfl) (by kernel_rfl) (by kernel_rfl) (fun _ _ _ h => h) (Or.inl ⟨by rfl, ?hy15⟩) (by assumption) ?hr15
          case hy15 => (intro _ hSw; (try dsimp only at hSw); go_simp <;> with_reducible rfl)
          simp only [Act.put, List.setIfInBounds_toArray, List.set_cons_zero, List.set_cons_succ]
          refine wpAnyH_done (by kernel_rfl) ?_ _
          go_wp2
          have HN := Lib.hid (below_on HD3.out hHeld)
          clear hHeld
          go_roundw
          case rel => exact ⟨k + 1, by omega, by go_num, HN⟩
          case measure => simp [intOf]; omega
    · have hd : decide ((k : Int) < 256) = false := by simp; omega
      have HB0 := Lib.hid (HB2.out.trans (HB.out.mono HB2.out.size))
      have HFo := Lib.hid (stays HF2.out HB.out)
      clear HB
      go_upto_region 26 with fail
      have HO : Hid ((wr.alloc numsO).heap[wr.heap.size]? = some numsO) := Lib.hid (nest wr [numsO] 0 _ rfl)
      have HB3 : Hid (Below w.heap.size w (wr.alloc numsO)) := Lib.hid (HB0.out.alloc HB0.out.size _)
      have HF3 : Hid ((wr.alloc numsO).heap[w.heap.size]? = some (pO ⟨5, 2, 3, 7, 10, 300, 3, 2⟩ 23)) := Lib.hid (stays HFo.out (nest_below wr [_]))
      clear HB0 HFo hd hk hlt
      generalize wr.heap.size = b at HO ⊢
      generalize wr.alloc numsO = w3 at *
      have inO : Hid (Pr.In (⟨5, 2, 3, 7, 10, 300, 3, 2⟩ : Pr)) := Lib.hid (in_one 0 (by decide)).1
      have SE : Hid ((⟨#[]⟩ : ByteArray).size ≤ 1000) := Lib.hid (by decide)
      go_wp2
      go_loopw [110] (fun i wr => ∃ j : Nat, j ≤ 13 ∧ i = .int .i64 j ∧ Hid (Below w3.heap.size w3 wr)) (fun i _ => 13 - (intOf i).toNat)
      case atStart => exact ⟨0, by omega, rfl, Lib.hid (Below.refl _ _)⟩
      case round =>
        obtain ⟨j, hj, rfl, HB⟩ := hrel
        by_cases hlj : j < 13
        · have hdj : decide ((j : Int) < 13) = true := by simp; omega
          obtain ⟨n, hcell⟩ := nums_at (stays HO.out HB.out) j hlj
          have hj0 : (0 : Int) ≤ (j : Int) := by omega
          have hj1 : (j : Int) < 13 := by omega
          obtain ⟨wo, rfl⟩ : ∃ wo : World, wo = wr := ⟨_, rfl⟩
          go_wp2
          clear hcell
          go_loopw [11] (fun i wr => ∃ c : Int, 0 ≤ c ∧ c ≤ 4 ∧ i = .int .i64 c ∧ Hid (Below w3.heap.size w3 wr)) (fun i _ => 4 - (intOf i).toNat)
          case atStart => exact ⟨0, by omega, by omega, rfl, HB⟩
          case round =>
            clear HB
            obtain ⟨c, hc0, hc4, rfl, HB⟩ := hrel
            have FR := Lib.hid (stays HF3.out HB.out)
            have hlA := lt_heap FR.out
            obtain ⟨x0, x1, x2, x3, x4, x5, x6, x7⟩ := cells_of FR.out; dsimp only at x0 x1 x2 x3 x4 x5 x6 x7
            have hcs : c = 0 ∨ c = 1 ∨ c = 2 ∨ c = 3 ∨ c = 4 := by omega
            clear hc0 hc4
            rcases hcs with rfl | rfl | rfl | rfl | rfl
            · have inN : Hid (Pr.In (⟨5, 2, 3, 7, n, 300, 3, 2⟩ : Pr)) := Lib.hid ⟨by dsimp only; omega, by dsimp only; omega, by dsimp only; omega, by dsimp only; omega⟩
              go_upto_region 40 with fail
              clear x0 x1 x2 x3 x4 x5 x6 x7
              have HC0 : Hid (Below w3.heap.size w3 (wr.alloc (pO ⟨5, 2, 3, 7, n, 300, 3, 2⟩ 23))) := Lib.hid (below_on HB.out (nest_below wr [_]))
              have FP0 : Hid ((wr.alloc (pO ⟨5, 2, 3, 7, n, 300, 3, 2⟩ 23)).heap[wr.heap.size]? = some (pO ⟨5, 2, 3, 7, n, 300, 3, 2⟩ 23)) := Lib.hid (nest wr [_] 0 _ rfl)
              have FX0 : Hid ((wr.alloc (pO ⟨5, 2, 3, 7, n, 300, 3, 2⟩ 23)).heap[w.heap.size]? = some (pO ⟨5, 2, 3, 7, 10, 300, 3, 2⟩ 23)) := Lib.hid (stays FR.out (nest_below wr [_]))
              generalize (wr.alloc (pO ⟨5, 2, 3, 7, n, 300, 3, 2⟩ 23)) = wx at *
              obtain ⟨g0, g1, g2, g3, g4, g5, g6, g7⟩ := cells_of FP0.out; dsimp only at g0 g1 g2 g3 g4 g5 g6 g7
              obtain ⟨x0, x1, x2, x3, x4, x5, x6, x7⟩ := cells_of FX0.out; dsimp only at x0 x1 x2 x3 x4 x5 x6 x7
              go_wp2_with (first
                | (go_at_call 3; ((with_reducible refine (GP.out ⟨5, 2, 3, 7, n, 300, 3, 2⟩ _ inN.out SE.out _).mono ?_); rintro e wc1 ⟨rfl, hb⟩; have HC1 := Lib.hid (below_on HC0.out hb); have FP1 := Lib.hid (stays FP0.out hb); have FX1 := Lib.hid (stays FX0.out hb); clear hb g0 g1 g2 g3 g4 g5 g6 g7 x0 x1 x2 x3 x4 x5 x6 x7; obtain ⟨g0, g1, g2, g3, g4, g5, g6, g7⟩ := cells_of FP1.out; dsimp only at g0 g1 g2 g3 g4 g5 g6 g7; obtain ⟨x0, x1, x2, x3, x4, x5, x6, x7⟩ := cells_of FX1.out; dsimp only at x0 x1 x2 x3 x4 x5 x6 x7))
                | (go_at_call 4; ((with_reducible refine (GA.out ⟨5, 2, 3, 7, n, 300, 3, 2⟩ ⟨5, 2, 3, 7, 10, 300, 3, 2⟩ inN.out inO.out _).mono ?_); rintro e wc2 ⟨rfl, hb⟩; have HC2 := Lib.hid (below_on HC1.out hb); have FP2 := Lib.hid (stays FP1.out hb); have FX2 := Lib.hid (stays FX1.out hb); clear hb g0 g1 g2 g3 g4 g5 g6 g7 x0 x1 x2 x3 x4 x5 x6 x7; obtain ⟨g0, g1, g2, g3, g4, g5, g6, g7⟩ := cells_of FP2.out; dsimp only at g0 g1 g2 g3 g4 g5 g6 g7; obtain ⟨x0, x1, x2, x3, x4, x5, x6, x7⟩ := cells_of FX2.out; dsimp only at x0 x1 x2 x3 x4 x5 x6 x7))
                | (go_at_call 4; ((with_reducible refine (GA.out ⟨5, 2, 3, 7, 10, 300, 3, 2⟩ ⟨5, 2, 3, 7, n, 300, 3, 2⟩ inO.out inN.out _).mono ?_); rintro e wc3 ⟨rfl, hb⟩; have HC3 := Lib.hid (below_on HC2.out hb); have FP3 := Lib.hid (stays FP2.out hb); have FX3 := Lib.hid (stays FX2.out hb); clear hb g0 g1 g2 g3 g4 g5 g6 g7 x0 x1 x2 x3 x4 x5 x6 x7; obtain ⟨g0, g1, g2, g3, g4, g5, g6, g7⟩ := cells_of FP3.out; dsimp only at g0 g1 g2 g3 g4 g5 g6 g7; obtain ⟨x0, x1, x2, x3, x4, x5, x6, x7⟩ := cells_of FX3.out; dsimp only at x0 x1 x2 x3 x4 x5 x6 x7))
                | (go_at_call 5; ((with_reducible refine (GB.out ⟨5, 2, 3, 7, n, 300, 3, 2⟩ ⟨5, 2, 3, 7, 10, 300, 3, 2⟩ _ inN.out inO.out SE.out _).mono ?_); rintro e wc4 ⟨rfl, hb⟩; have HC4 := Lib.hid (below_on HC3.out hb); have FP4 := Lib.hid (stays FP3.out hb); have FX4 := Lib.hid (stays FX3.out hb); clear hb g0 g1 g2 g3 g4 g5 g6 g7 x0 x1 x2 x3 x4 x5 x6 x7; obtain ⟨g0, g1, g2, g3, g4, g5, g6, g7⟩ := cells_of FP4.out; dsimp only at g0 g1 g2 g3 g4 g5 g6 g7; obtain ⟨x0, x1, x2, x3, x4, x5, x6, x7⟩ := cells_of FX4.out; dsimp only at x0 x1 x2 x3 x4 x5 x6 x7))
                | (go_at_call 5; ((with_reducible refine (GB.out ⟨5, 2, 3, 7, 10, 300, 3, 2⟩ ⟨5, 2, 3, 7, n, 300, 3, 2⟩ _ inO.out inN.out SE.out _).mono ?_); rintro e wc5 ⟨rfl, hb⟩; have HC5 := Lib.hid (below_on HC4.out hb); have FP5 := Lib.hid (stays FP4.out hb); have FX5 := Lib.hid (stays FX4.out hb); clear hb g0 g1 g2 g3 g4 g5 g6 g7 x0 x1 x2 x3 x4 x5 x6 x7)))
              go_roundw
              case rel => exact ⟨1, by decide, by decide, rfl, HC5⟩
              case measure => simp [intOf]
            · have inN : Hid (Pr.In (⟨5, 2, 3, 7, 10, n, 3, 2⟩ : Pr)) := Lib.hid ⟨by dsimp only; omega, by dsimp only; omega, by dsimp only; omega, by dsimp only; omega⟩
              go_upto_region 40 with fail
              clear x0 x1 x2 x3 x4 x5 x6 x7
              have HC0 : Hid (Below w3.heap.size w3 (wr.alloc (pO ⟨5, 2, 3, 7, 10, n, 3, 2⟩ 23))) := Lib.hid (below_on HB.out (nest_below wr [_]))
              have FP0 : Hid ((wr.alloc (pO ⟨5, 2, 3, 7, 10, n, 3, 2⟩ 23)).heap[wr.heap.size]? = some (pO ⟨5, 2, 3, 7, 10, n, 3, 2⟩ 23)) := Lib.hid (nest wr [_] 0 _ rfl)
              have FX0 : Hid ((wr.alloc (pO ⟨5, 2, 3, 7, 10, n, 3, 2⟩ 23)).heap[w.heap.size]? = some (pO ⟨5, 2, 3, 7, 10, 300, 3, 2⟩ 23)) := Lib.hid (stays FR.out (nest_below wr [_]))
              generalize (wr.alloc (pO ⟨5, 2, 3, 7, 10, n, 3, 2⟩ 23)) = wx at *
              obtain ⟨g0, g1, g2, g3, g4, g5, g6, g7⟩ := cells_of FP0.out; dsimp only at g0 g1 g2 g3 g4 g5 g6 g7
              obtain ⟨x0, x1, x2, x3, x4, x5, x6, x7⟩ := cells_of FX0.out; dsimp only at x0 x1 x2 x3 x4 x5 x6 x7
              go_wp2_with (first
                | (go_at_call 3; ((with_reducible refine (GP.out ⟨5, 2, 3, 7, 10, n, 3, 2⟩ _ inN.out SE.out _).mono ?_); rintro e wc1 ⟨rfl, hb⟩; have HC1 := Lib.hid (below_on HC0.out hb); have FP1 := Lib.hid (stays FP0.out hb); have FX1 := Lib.hid (stays FX0.out hb); clear hb g0 g1 g2 g3 g4 g5 g6 g7 x0 x1 x2 x3 x4 x5 x6 x7; obtain ⟨g0, g1, g2, g3, g4, g5, g6, g7⟩ := cells_of FP1.out; dsimp only at g0 g1 g2 g3 g4 g5 g6 g7; obtain ⟨x0, x1, x2, x3, x4, x5, x6, x7⟩ := cells_of FX1.out; dsimp only at x0 x1 x2 x3 x4 x5 x6 x7))
                | (go_at_call 4; ((with_reducible refine (GA.out ⟨5, 2, 3, 7, 10, n, 3, 2⟩ ⟨5, 2, 3, 7, 10, 300, 3, 2⟩ inN.out inO.out _).mono ?_); rintro e wc2 ⟨rfl, hb⟩; have HC2 := Lib.hid (below_on HC1.out hb); have FP2 := Lib.hid (stays FP1.out hb); have FX2 := Lib.hid (stays FX1.out hb); clear hb g0 g1 g2 g3 g4 g5 g6 g7 x0 x1 x2 x3 x4 x5 x6 x7; obtain ⟨g0, g1, g2, g3, g4, g5, g6, g7⟩ := cells_of FP2.out; dsimp only at g0 g1 g2 g3 g4 g5 g6 g7; obtain ⟨x0, x1, x2, x3, x4, x5, x6, x7⟩ := cells_of FX2.out; dsimp only at x0 x1 x2 x3 x4 x5 x6 x7))
                | (go_at_call 4; ((with_reducible refine (GA.out ⟨5, 2, 3, 7, 10, 300, 3, 2⟩ ⟨5, 2, 3, 7, 10, n, 3, 2⟩ inO.out inN.out _).mono ?_); rintro e wc3 ⟨rfl, hb⟩; have HC3 := Lib.hid (below_on HC2.out hb); have FP3 := Lib.hid (stays FP2.out hb); have FX3 := Lib.hid (stays FX2.out hb); clear hb g0 g1 g2 g3 g4 g5 g6 g7 x0 x1 x2 x3 x4 x5 x6 x7; obtain ⟨g0, g1, g2, g3, g4, g5, g6, g7⟩ := cells_of FP3.out; dsimp only at g0 g1 g2 g3 g4 g5 g6 g7; obtain ⟨x0, x1, x2, x3, x4, x5, x6, x7⟩ := cells_of FX3.out; dsimp only at x0 x1 x2 x3 x4 x5 x6 x7))
                | (go_at_call 5; ((with_reducible refine (GB.out ⟨5, 2, 3, 7, 10, n, 3, 2⟩ ⟨5, 2, 3, 7, 10, 300, 3, 2⟩ _ inN.out inO.out SE.out _).mono ?_); rintro e wc4 ⟨rfl, hb⟩; have HC4 := Lib.hid (below_on HC3.out hb); have FP4 := Lib.hid (stays FP3.out hb); have FX4 := Lib.hid (stays FX3.out hb); clear hb g0 g1 g2 g3 g4 g5 g6 g7 x0 x1 x2 x3 x4 x5 x6 x7; obtain ⟨g0, g1, g2, g3, g4, g5, g6, g7⟩ := cells_of FP4.out; dsimp only at g0 g1 g2 g3 g4 g5 g6 g7; obtain ⟨x0, x1, x2, x3, x4, x5, x6, x7⟩ := cells_of FX4.out; dsimp only at x0 x1 x2 x3 x4 x5 x6 x7))
                | (go_at_call 5; ((with_reducible refine (GB.out ⟨5, 2, 3, 7, 10, 300, 3, 2⟩ ⟨5, 2, 3, 7, 10, n, 3, 2⟩ _ inO.out inN.out SE.out _).mono ?_); rintro e wc5 ⟨rfl, hb⟩; have HC5 := Lib.hid (below_on HC4.out hb); have FP5 := Lib.hid (stays FP4.out hb); have FX5 := Lib.hid (stays FX4.out hb); clear hb g0 g1 g2 g3 g4 g5 g6 g7 x0 x1 x2 x3 x4 x5 x6 x7)))
              go_roundw
              case rel => exact ⟨2, by decide, by decide, rfl, HC5⟩
              case measure => simp [intOf]
            · have inN : Hid (Pr.In (⟨5, 2, 3, 7, 10, 300, n, 2⟩ : Pr)) := Lib.hid ⟨by dsimp only; omega, by dsimp only; omega, by dsimp only; omega, by dsimp only; omega⟩
              go_upto_region 40 with fail
              clear x0 x1 x2 x3 x4 x5 x6 x7
              have HC0 : Hid (Below w3.heap.size w3 (wr.alloc (pO ⟨5, 2, 3, 7, 10, 300, n, 2⟩ 23))) := Lib.hid (below_on HB.out (nest_below wr [_]))
              have FP0 : Hid ((wr.alloc (pO ⟨5, 2, 3, 7, 10, 300, n, 2⟩ 23)).heap[wr.heap.size]? = some (pO ⟨5, 2, 3, 7, 10, 300, n, 2⟩ 23)) := Lib.hid (nest wr [_] 0 _ rfl)
              have FX0 : Hid ((wr.alloc (pO ⟨5, 2, 3, 7, 10, 300, n, 2⟩ 23)).heap[w.heap.size]? = some (pO ⟨5, 2, 3, 7, 10, 300, 3, 2⟩ 23)) := Lib.hid (stays FR.out (nest_below wr [_]))
              generalize (wr.alloc (pO ⟨5, 2, 3, 7, 10, 300, n, 2⟩ 23)) = wx at *
              obtain ⟨g0, g1, g2, g3, g4, g5, g6, g7⟩ := cells_of FP0.out; dsimp only at g0 g1 g2 g3 g4 g5 g6 g7
              obtain ⟨x0, x1, x2, x3, x4, x5, x6, x7⟩ := cells_of FX0.out; dsimp only at x0 x1 x2 x3 x4 x5 x6 x7
              go_wp2_with (first
                | (go_at_call 3; ((with_reducible refine (GP.out ⟨5, 2, 3, 7, 10, 300, n, 2⟩ _ inN.out SE.out _).mono ?_); rintro e wc1 ⟨rfl, hb⟩; have HC1 := Lib.hid (below_on HC0.out hb); have FP1 := Lib.hid (stays FP0.out hb); have FX1 := Lib.hid (stays FX0.out hb); clear hb g0 g1 g2 g3 g4 g5 g6 g7 x0 x1 x2 x3 x4 x5 x6 x7; obtain ⟨g0, g1, g2, g3, g4, g5, g6, g7⟩ := cells_of FP1.out; dsimp only at g0 g1 g2 g3 g4 g5 g6 g7; obtain ⟨x0, x1, x2, x3, x4, x5, x6, x7⟩ := cells_of FX1.out; dsimp only at x0 x1 x2 x3 x4 x5 x6 x7))
                | (go_at_call 4; ((with_reducible refine (GA.out ⟨5, 2, 3, 7, 10, 300, n, 2⟩ ⟨5, 2, 3, 7, 10, 300, 3, 2⟩ inN.out inO.out _).mono ?_); rintro e wc2 ⟨rfl, hb⟩; have HC2 := Lib.hid (below_on HC1.out hb); have FP2 := Lib.hid (stays FP1.out hb); have FX2 := Lib.hid (stays FX1.out hb); clear hb g0 g1 g2 g3 g4 g5 g6 g7 x0 x1 x2 x3 x4 x5 x6 x7; obtain ⟨g0, g1, g2, g3, g4, g5, g6, g7⟩ := cells_of FP2.out; dsimp only at g0 g1 g2 g3 g4 g5 g6 g7; obtain ⟨x0, x1, x2, x3, x4, x5, x6, x7⟩ := cells_of FX2.out; dsimp only at x0 x1 x2 x3 x4 x5 x6 x7))
                | (go_at_call 4; ((with_reducible refine (GA.out ⟨5, 2, 3, 7, 10, 300, 3, 2⟩ ⟨5, 2, 3, 7, 10, 300, n, 2⟩ inO.out inN.out _).mono ?_); rintro e wc3 ⟨rfl, hb⟩; have HC3 := Lib.hid (below_on HC2.out hb); have FP3 := Lib.hid (stays FP2.out hb); have FX3 := Lib.hid (stays FX2.out hb); clear hb g0 g1 g2 g3 g4 g5 g6 g7 x0 x1 x2 x3 x4 x5 x6 x7; obtain ⟨g0, g1, g2, g3, g4, g5, g6, g7⟩ := cells_of FP3.out; dsimp only at g0 g1 g2 g3 g4 g5 g6 g7; obtain ⟨x0, x1, x2, x3, x4, x5, x6, x7⟩ := cells_of FX3.out; dsimp only at x0 x1 x2 x3 x4 x5 x6 x7))
                | (go_at_call 5; ((with_reducible refine (GB.out ⟨5, 2, 3, 7, 10, 300, n, 2⟩ ⟨5, 2, 3, 7, 10, 300, 3, 2⟩ _ inN.out inO.out SE.out _).mono ?_); rintro e wc4 ⟨rfl, hb⟩; have HC4 := Lib.hid (below_on HC3.out hb); have FP4 := Lib.hid (stays FP3.out hb); have FX4 := Lib.hid (stays FX3.out hb); clear hb g0 g1 g2 g3 g4 g5 g6 g7 x0 x1 x2 x3 x4 x5 x6 x7; obtain ⟨g0, g1, g2, g3, g4, g5, g6, g7⟩ := cells_of FP4.out; dsimp only at g0 g1 g2 g3 g4 g5 g6 g7; obtain ⟨x0, x1, x2, x3, x4, x5, x6, x7⟩ := cells_of FX4.out; dsimp only at x0 x1 x2 x3 x4 x5 x6 x7))
                | (go_at_call 5; ((with_reducible refine (GB.out ⟨5, 2, 3, 7, 10, 300, 3, 2⟩ ⟨5, 2, 3, 7, 10, 300, n, 2⟩ _ inO.out inN.out SE.out _).mono ?_); rintro e wc5 ⟨rfl, hb⟩; have HC5 := Lib.hid (below_on HC4.out hb); have FP5 := Lib.hid (stays FP4.out hb); have FX5 := Lib.hid (stays FX4.out hb); clear hb g0 g1 g2 g3 g4 g5 g6 g7 x0 x1 x2 x3 x4 x5 x6 x7)))
              go_roundw
              case rel => exact ⟨3, by decide, by decide, rfl, HC5⟩
              case measure => simp [intOf]
            · have inN : Hid (Pr.In (⟨5, 2, 3, 7, 10, 300, 3, n⟩ : Pr)) := Lib.hid ⟨by dsimp only; omega, by dsimp only; omega, by dsimp only; omega, by dsimp only; omega⟩
              go_upto_region 40 with fail
              clear x0 x1 x2 x3 x4 x5 x6 x7
              have HC0 : Hid (Below w3.heap.size w3 (wr.alloc (pO ⟨5, 2, 3, 7, 10, 300, 3, n⟩ 23))) := Lib.hid (below_on HB.out (nest_below wr [_]))
              have FP0 : Hid ((wr.alloc (pO ⟨5, 2, 3, 7, 10, 300, 3, n⟩ 23)).heap[wr.heap.size]? = some (pO ⟨5, 2, 3, 7, 10, 300, 3, n⟩ 23)) := Lib.hid (nest wr [_] 0 _ rfl)
              have FX0 : Hid ((wr.alloc (pO ⟨5, 2, 3, 7, 10, 300, 3, n⟩ 23)).heap[w.heap.size]? = some (pO ⟨5, 2, 3, 7, 10, 300, 3, 2⟩ 23)) := Lib.hid (stays FR.out (nest_below wr [_]))
              generalize (wr.alloc (pO ⟨5, 2, 3, 7, 10, 300, 3, n⟩ 23)) = wx at *
              obtain ⟨g0, g1, g2, g3, g4, g5, g6, g7⟩ := cells_of FP0.out; dsimp only at g0 g1 g2 g3 g4 g5 g6 g7
              obtain ⟨x0, x1, x2, x3, x4, x5, x6, x7⟩ := cells_of FX0.out; dsimp only at x0 x1 x2 x3 x4 x5 x6 x7
              go_wp2_with (first
                | (go_at_call 3; ((with_reducible refine (GP.out ⟨5, 2, 3, 7, 10, 300, 3, n⟩ _ inN.out SE.out _).mono ?_); rintro e wc1 ⟨rfl, hb⟩; have HC1 := Lib.hid (below_on HC0.out hb); have FP1 := Lib.hid (stays FP0.out hb); have FX1 := Lib.hid (stays FX0.out hb); clear hb g0 g1 g2 g3 g4 g5 g6 g7 x0 x1 x2 x3 x4 x5 x6 x7; obtain ⟨g0, g1, g2, g3, g4, g5, g6, g7⟩ := cells_of FP1.out; dsimp only at g0 g1 g2 g3 g4 g5 g6 g7; obtain ⟨x0, x1, x2, x3, x4, x5, x6, x7⟩ := cells_of FX1.out; dsimp only at x0 x1 x2 x3 x4 x5 x6 x7))
                | (go_at_call 4; ((with_reducible refine (GA.out ⟨5, 2, 3, 7, 10, 300, 3, n⟩ ⟨5, 2, 3, 7, 10, 300, 3, 2⟩ inN.out inO.out _).mono ?_); rintro e wc2 ⟨rfl, hb⟩; have HC2 := Lib.hid (below_on HC1.out hb); have FP2 := Lib.hid (stays FP1.out hb); have FX2 := Lib.hid (stays FX1.out hb); clear hb g0 g1 g2 g3 g4 g5 g6 g7 x0 x1 x2 x3 x4 x5 x6 x7; obtain ⟨g0, g1, g2, g3, g4, g5, g6, g7⟩ := cells_of FP2.out; dsimp only at g0 g1 g2 g3 g4 g5 g6 g7; obtain ⟨x0, x1, x2, x3, x4, x5, x6, x7⟩ := cells_of FX2.out; dsimp only at x0 x1 x2 x3 x4 x5 x6 x7))
                | (go_at_call 4; ((with_reducible refine (GA.out ⟨5, 2, 3, 7, 10, 300, 3, 2⟩ ⟨5, 2, 3, 7, 10, 300, 3, n⟩ inO.out inN.out _).mono ?_); rintro e wc3 ⟨rfl, hb⟩; have HC3 := Lib.hid (below_on HC2.out hb); have FP3 := Lib.hid (stays FP2.out hb); have FX3 := Lib.hid (stays FX2.out hb); clear hb g0 g1 g2 g3 g4 g5 g6 g7 x0 x1 x2 x3 x4 x5 x6 x7; obtain ⟨g0, g1, g2, g3, g4, g5, g6, g7⟩ := cells_of FP3.out; dsimp only at g0 g1 g2 g3 g4 g5 g6 g7; obtain ⟨x0, x1, x2, x3, x4, x5, x6, x7⟩ := cells_of FX3.out; dsimp only at x0 x1 x2 x3 x4 x5 x6 x7))
                | (go_at_call 5; ((with_reducible refine (GB.out ⟨5, 2, 3, 7, 10, 300, 3, n⟩ ⟨5, 2, 3, 7, 10, 300, 3, 2⟩ _ inN.out inO.out SE.out _).mono ?_); rintro e wc4 ⟨rfl, hb⟩; have HC4 := Lib.hid (below_on HC3.out hb); have FP4 := Lib.hid (stays FP3.out hb); have FX4 := Lib.hid (stays FX3.out hb); clear hb g0 g1 g2 g3 g4 g5 g6 g7 x0 x1 x2 x3 x4 x5 x6 x7; obtain ⟨g0, g1, g2, g3, g4, g5, g6, g7⟩ := cells_of FP4.out; dsimp only at g0 g1 g2 g3 g4 g5 g6 g7; obtain ⟨x0, x1, x2, x3, x4, x5, x6, x7⟩ := cells_of FX4.out; dsimp only at x0 x1 x2 x3 x4 x5 x6 x7))
                | (go_at_call 5; ((with_reducible refine (GB.out ⟨5, 2, 3, 7, 10, 300, 3, 2⟩ ⟨5, 2, 3, 7, 10, 300, 3, n⟩ _ inO.out inN.out SE.out _).mono ?_); rintro e wc5 ⟨rfl, hb⟩; have HC5 := Lib.hid (below_on HC4.out hb); have FP5 := Lib.hid (stays FP4.out hb); have FX5 := Lib.hid (stays FX4.out hb); clear hb g0 g1 g2 g3 g4 g5 g6 g7 x0 x1 x2 x3 x4 x5 x6 x7)))
              go_roundw
              case rel => exact ⟨4, by decide, by decide, rfl, HC5⟩
              case measure => simp [intOf]
            · clear x0 x1 x2 x3 x4 x5 x6 x7
              go_wp2
              go_roundw
              case rel => exact ⟨j + 1, by omega, by go_num, HB⟩
              case measure => simp [intOf]; omega
        · have hdj : decide ((j : Int) < 13) = false := by simp; omega
          have HBw : Hid (Below w.heap.size w wr) := Lib.hid (HB3.out.trans (HB.out.mono HB3.out.size))
          go_wp2_with (go_at_call 7; ((with_reducible refine (works _).mono ?_); rintro e w5 ⟨rfl, hb⟩; have HX5 := Lib.hid (below_on HBw.out hb); clear hb))
          go_ret
          exact ⟨rfl, HX5.out⟩
end Go.Proofs.Ytgdpmhfbkecipaa.pnKnown

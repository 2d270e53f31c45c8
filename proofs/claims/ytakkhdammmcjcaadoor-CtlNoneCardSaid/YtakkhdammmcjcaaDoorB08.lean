/-
  Layer 22, put together: MscPut (what each says stands ahead of it). Conditions: as each names them.
-/
import Derived.Test.YtakkhdammmcjcaaDoorB07
import Derived.Deep.RegionHeld
/-
  What Put of layer 9, and the document's own, answer. Condition: the octets among a status are octets.
-/
namespace Go.Proofs.YtakkhdammmcjcaaDoor.Msc
open Go.RowKit Go.Proofs.YtakkhdammmcjcaaDoor.Base Go.Proofs.YtakkhdammmcjcaaDoor.Mem Go.Proofs.YtakkhdammmcjcaaDoor.Ea
theorem fput_no (p : St) (CM : ∀ w, Calls Tryd.prog 61 #[sv p] w fun x w' => x = .returned (.bool false) ∧ Below w.heap.size w w') (w : World) :
    Calls Tryd.prog 48 #[sv p] w fun x w' => x = .returned (.tuple #[.string ⟨#[]⟩, .int .i64 2]) ∧ Below w.heap.size w w' := by
  have CMh := Lib.hid CM
  clear CM
  go_enter Tryd.func48, Tryd.ntmps48
  go_wp2_with (go_at_call 61; ((with_reducible refine (CMh.out _).mono ?_); rintro e w1 ⟨rfl, hb⟩; have HB := Lib.hid (on_new (Below.refl _ _) hb); clear hb))
  go_ret2
  exact ⟨rfl, HB.out⟩
theorem fput_two (d : Nat) (f c r i v : Bool) (k : Nat) (n a : Nat) (hd : d < 256) (ha : addr d true = a) (hn : bt ⟨d, f, c, r, i, v, false, k⟩ = n) (CM : ∀ w, Calls Tryd.prog 61 #[sv ⟨d, f, c, r, i, v, false, k⟩] w fun x w' => x = .returned (.bool true) ∧ Below w.heap.size w w') (w : World) :
    Calls Tryd.prog 48 #[sv ⟨d, f, c, r, i, v, false, k⟩] w fun x w' => x = .returned (.tuple #[.string (two a n), .int .i64 0]) ∧ Below w.heap.size w w' := by
  have CMh := Lib.hid CM
  have CA := Lib.hid (fun w => address d hd true w)
  have CB := Lib.hid (fun w => fbits ⟨d, f, c, r, i, v, false, k⟩ w)
  rw [ha] at CA
  rw [hn] at CB
  have hcv := fun W => conv_two W a n
  obtain ⟨S, hS⟩ : ∃ S, two a n = S := ⟨_, rfl⟩
  have hcv2 : ∀ (W : World), (convert 99 9 (.slice (some ⟨W.heap.size, 0, none⟩) 2 2)).run Tryd.prog (W.alloc (.cells #[.int .u8 (a : Int), .int .u8 (n : Int)] 5)) = .ok (.string S) (W.alloc (.cells #[.int .u8 (a : Int), .int .u8 (n : Int)] 5)) := fun W => by rw [← hS]; exact hcv W
  rw [hS]
  clear CM hd ha hn hcv hS
  go_enter Tryd.func48, Tryd.ntmps48
  go_wp2_with (first
    | (go_at_call 61; ((with_reducible refine (CMh.out _).mono ?_); rintro e w1 ⟨rfl, hb⟩; have HF : Hid (w1.heap[w.heap.size]? = some (sO ⟨d, f, c, r, i, v, false, k⟩ 33)) := Lib.hid (fresh hb); obtain ⟨g0, g1, g2, g3, g4, g5, g6, g7⟩ := cells_of HF.out; dsimp only at g0 g1 g2 g3 g4 g5 g6 g7; have HB := Lib.hid (on_new (Below.refl _ _) hb); clear hb))
    | (go_at_call 62; ((with_reducible refine (CA.out _).mono ?_); rintro e w2 ⟨rfl, rfl⟩))
    | (go_at_call 63; ((with_reducible refine (CB.out _).mono ?_); rintro e w2 ⟨rfl, hb⟩; have HB2 := Lib.hid (below_on HB.out hb); clear hb)))
  go_ret2
  exact ⟨rfl, HB2.out.alloc HB2.out.size _⟩
theorem conv_three (w : World) (a b c : Nat) :
    (convert 99 9 (.slice (some ⟨w.heap.size, 0, none⟩) 3 3)).run Tryd.prog (w.alloc (.cells #[.int .u8 (a : Int), .int .u8 (b : Int), .int .u8 (c : Int)] 5))
      = .ok (.string (three a b c)) (w.alloc (.cells #[.int .u8 (a : Int), .int .u8 (b : Int), .int .u8 (c : Int)] 5)) :=
  conv_at3 (w.alloc (.cells #[.int .u8 (a : Int), .int .u8 (b : Int), .int .u8 (c : Int)] 5)) w.heap.size (a : Int) (b : Int) (c : Int) (cell_new w _ _ 0) (cell_new w _ _ 1) (cell_new w _ _ 2)
theorem not_mark (n : Nat) (h : n < 256) (h' : n % 2 = 1) : bits .andNot .u8 (n : Int) 1 = ((n - 1 : Nat) : Int) := by
  have : ∀ j : Fin 256, j.val % 2 = 1 → bits .andNot .u8 (j.val : Int) 1 = ((j.val - 1 : Nat) : Int) := by decide +kernel
  exact this ⟨n, h⟩ h'
theorem break_octet (k : Nat) (h : k ≤ 15) : bits .or .u8 (IntKind.u8.wrap ((k : Int) * 16)) 3 = ((16 * k + 3 : Nat) : Int) := by
  have : ∀ j : Fin 16, bits .or .u8 (IntKind.u8.wrap ((j.val : Int) * 16)) 3 = ((16 * j.val + 3 : Nat) : Int) := by decide +kernel
  exact this ⟨k, by omega⟩
theorem fput_three (d : Nat) (f c r i v : Bool) (k : Nat) (n m a : Nat) (hd : d < 256) (hk : k ≤ 15) (ha : addr d true = a) (hn : bt ⟨d, f, c, r, i, v, true, k⟩ = n) (hm : bits .andNot .u8 (n : Int) 1 = (m : Int)) (CM : ∀ w, Calls Tryd.prog 61 #[sv ⟨d, f, c, r, i, v, true, k⟩] w fun x w' => x = .returned (.bool true) ∧ Below w.heap.size w w') (w : World) :
    Calls Tryd.prog 48 #[sv ⟨d, f, c, r, i, v, true, k⟩] w fun x w' => x = .returned (.tuple #[.string (three a m (16 * k + 3)), .int .i64 0]) ∧ Below w.heap.size w w' := by
  have CMh := Lib.hid CM
  have CA := Lib.hid (fun w => address d hd true w)
  have CB := Lib.hid (fun w => fbits ⟨d, f, c, r, i, v, true, k⟩ w)
  rw [ha] at CA
  rw [hn] at CB
  obtain ⟨S, hS⟩ : ∃ S, three a m (16 * k + 3) = S := ⟨_, rfl⟩
  obtain ⟨x, hx⟩ : ∃ x, 16 * k + 3 = x := ⟨_, rfl⟩
  have hcv : ∀ (W : World), (convert 99 9 (.slice (some ⟨W.heap.size, 0, none⟩) 3 3)).run Tryd.prog (W.alloc (.cells #[.int .u8 (a : Int), .int .u8 (m : Int), .int .u8 (x : Int)] 5)) = .ok (.string S) (W.alloc (.cells #[.int .u8 (a : Int), .int .u8 (m : Int), .int .u8 (x : Int)] 5)) := fun W => by rw [← hS, ← hx]; exact conv_three W a m _
  have hkk : bits .or .u8 (IntKind.u8.wrap ((k : Int) * 16)) 3 = (x : Int) := by rw [← hx]; exact break_octet k hk
  rw [hS]
  clear CM hd ha hn hS hx
  go_enter Tryd.func48, Tryd.ntmps48
  go_wp2_with (first
    | (go_at_call 61; ((with_reducible refine (CMh.out _).mono ?_); rintro e w1 ⟨rfl, hb⟩; have HF0 : Hid (w1.heap[w.heap.size]? = some (sO ⟨d, f, c, r, i, v, true, k⟩ 33)) := Lib.hid (fresh hb); obtain ⟨g0, g1, g2, g3, g4, g5, g6, g7⟩ := cells_of HF0.out; dsimp only at g0 g1 g2 g3 g4 g5 g6 g7; have HB := Lib.hid (on_new (Below.refl _ _) hb); clear hb))
    | (go_at_call 62; ((with_reducible refine (CA.out _).mono ?_); rintro e w2 ⟨rfl, rfl⟩)))
  clear g0 g1 g2 g3 g4 g5 g6 g7
  obtain ⟨wx, rfl⟩ : ∃ wx : World, wx = w1 := ⟨_, rfl⟩
  have HF := HF0
  refine wp_region_held_drew (S := fun w' => Below wx.heap.size wx w') (by kernel_rfl) (Below.refl _ _).drew (fun hHeld => ?_)
  refine' wpAnyH_take (i := 0) (oi := { dst := some 19, op := Go.Op.move (Go.Operand.tmp 4), type := 5, pos := "msc.go:51", after := #[], guard := none }) (v := _) rfl (by kernel_rfl) (by kernel_rfl) (by kernel_rfl) (fun _ _ _ h => h) (Or.inl ⟨by rfl, ?hy1⟩) (by assumption) ?hr1
  case hy1 => (intro _ hSw; (try dsimp only at hSw); go_simp <;> with_reducible rfl)
  simp only [Act.put, List.setIfInBounds_toArray, List.set_cons_zero, List.set_cons_succ]
  refine' wpAnyH_take (i := 1) (oi := { dst := some 20, op := Go.Op.load 33 (Go.Operand.tmp 1), type := 33, pos := "msc.go:51", after := #[], guard := none }) (v := _) rfl (by kernel_rfl) (by kernel_rfl) (by kernel_rfl) (fun _ _ _ h => h) (Or.inl ⟨by rfl, ?hy2⟩) (by assumption) ?hr2
  case hy2 => (intro _ hSw; (try dsimp only at hSw); obtain ⟨c0, c1, c2, c3, c4, c5, c6, c7⟩ := cells_of (stays HF.out hSw); dsimp only at c0 c1 c2 c3 c4 c5 c6 c7; go_simp <;> with_reducible rfl)
  simp only [Act.put, List.setIfInBounds_toArray, List.set_cons_zero, List.set_cons_succ]
  refine' wpAnyH_take (i := 4) (oi := { dst := some 23, op := Go.Op.fieldAddr 33 (Go.Operand.tmp 1) 7, type := 0, pos := "msc.go:51", after := #[], guard := none }) (v := _) rfl (by kernel_rfl) (by kernel_rfl) (by kernel_rfl) (fun _ _ _ h => h) (Or.inl ⟨by rfl, ?hy3⟩) (by assumption) ?hr3
  case hy3 => (intro _ hSw; (try dsimp only at hSw); go_simp <;> with_reducible rfl)
  simp only [Act.put, List.setIfInBounds_toArray, List.set_cons_zero, List.set_cons_succ]
  refine' wpAnyH_take (i := 5) (oi := { dst := some 24, op := Go.Op.load 5 (Go.Operand.tmp 23), type := 5, pos := "msc.go:51", after := #[{ on := 4, ground := Go.Ground.data }], guard := none }) (v := _) rfl (by kernel_rfl) (by kernel_rfl) (by kernel_rfl) (fun _ _ _ h => h) (Or.inl ⟨by rfl, ?hy4⟩) (by assumption) ?hr4
  case hy4 => (intro _ hSw; (try dsimp only at hSw); obtain ⟨c0, c1, c2, c3, c4, c5, c6, c7⟩ := cells_of (stays HF.out hSw); dsimp only at c0 c1 c2 c3 c4 c5 c6 c7; go_simp <;> with_reducible rfl)
  simp only [Act.put, List.setIfInBounds_toArray, List.set_cons_zero, List.set_cons_succ]
  refine' wpAnyH_take (i := 6) (oi := { dst := some 25, op := Go.Op.binOp Go.BinOp.shl 5 (Go.Operand.tmp 24) (Go.Operand.const (Go.Value.int Go.IntKind.u64 4)) 115, type := 5, pos := "msc.go:51", after := #[{ on := 5, ground := Go.Ground.data }], guard := none }) (v := _) rfl (by kernel_rfl) (by kernel_rfl) (by kernel_rfl) (fun _ _ _ h => h) (Or.inl ⟨by rfl, ?hy5⟩) (by assumption) ?hr5
  case hy5 => (intro _ hSw; (try dsimp only at hSw); go_simp <;> with_reducible rfl)
  simp only [Act.put, List.setIfInBounds_toArray, List.set_cons_zero, List.set_cons_succ]
  refine' wpAnyH_take (i := 7) (oi := { dst := some 26, op := Go.Op.binOp Go.BinOp.or 5 (Go.Operand.tmp 25) (Go.Operand.const (Go.Value.int Go.IntKind.u8 3)) 5, type := 5, pos := "msc.go:51", after := #[{ on := 6, ground := Go.Ground.data }], guard := none }) (v := _) rfl (by kernel_rfl) (by kernel_rfl) (by kernel_rfl) (fun _ _ _ h => h) (Or.inl ⟨by rfl, ?hy6⟩) (by assumption) ?hr6
  case hy6 => (intro _ hSw; (try dsimp only at hSw); go_simp <;> with_reducible rfl)
  simp only [Act.put, List.setIfInBounds_toArray, List.set_cons_zero, List.set_cons_succ]
  refine wpAnyH_ready (rs := [2]) (by kernel_rfl) (by simp) ?_
  refine AllReadyH.cons (o := { dst := some 21, op := Go.Op.call { callee := Go.Callee.value (Go.Operand.func 63), args := #[Go.Operand.tmp 20], argTypes := #[33] }, type := 5, pos := "msc.go:51", after := #[{ on := 1, ground := Go.Ground.data }], guard := none }) rfl (fun K hK => ?_) AllReadyH.nil
  go_simp
  (with_reducible refine (CB.out _).mono ?_)
  rintro e wc ⟨rfl, hb⟩
  go_wp2_with fail
  refine hK.out _ _ (below_on hHeld hb) (fun hNext => ?_)
  clear hK K hHeld hb
  have hHeld := hNext
  clear hNext
  (try simp only [Act.put, List.setIfInBounds_toArray, List.set_cons_zero, List.set_cons_succ])
  refine' wpAnyH_take (i := 3) (oi := { dst := some 22, op := Go.Op.binOp Go.BinOp.andNot 5 (Go.Operand.tmp 21) (Go.Operand.const (Go.Value.int Go.IntKind.u8 1)) 5, type := 5, pos := "msc.go:51", after := #[{ on := 2, ground := Go.Ground.data }], guard := none }) (v := _) rfl (by kernel_rfl) (by kernel_rfl) (by kernel_rfl) (fun _ _ _ h => h) (Or.inl ⟨by rfl, ?hy7⟩) (by assumption) ?hr7
  case hy7 => (intro _ hSw; (try dsimp only at hSw); go_simp <;> with_reducible rfl)
  simp only [Act.put, List.setIfInBounds_toArray, List.set_cons_zero, List.set_cons_succ]
  refine wpAnyH_ready (rs := [8]) (by kernel_rfl) (by simp) ?_
  refine AllReadyH.cons (o := { dst := some 27, op := Go.Op.buildSlice 99 3 #[(0, Go.Operand.tmp 19), (1, Go.Operand.tmp 22), (2, Go.Operand.tmp 26)], type := 99, pos := "msc.go:51", after := #[{ on := 0, ground := Go.Ground.data }, { on := 3, ground := Go.Ground.data }, { on := 7, ground := Go.Ground.data }], guard := none }) rfl (fun K hK => ?_) AllReadyH.nil
  go_simp
  refine hK.out _ _ (hHeld.alloc hHeld.size _) (fun hNext => ?_)
  clear hK K hHeld
  have hHeld := hNext
  clear hNext
  (try simp only [Act.put, List.setIfInBounds_toArray, List.set_cons_zero, List.set_cons_succ])
  refine wpAnyH_ready (rs := [9]) (by kernel_rfl) (by simp) ?_
  refine AllReadyH.cons (o := { dst := some 28, op := Go.Op.convert 99 9 (Go.Operand.tmp 27), type := 9, pos := "msc.go:51", after := #[{ on := 8, ground := Go.Ground.data }], guard := none }) rfl (fun K hK => ?_) AllReadyH.nil
  go_simp
  refine hK.out _ _ hHeld (fun hNext => ?_)
  clear hK K hHeld
  have hHeld := hNext
  clear hNext
  (try simp only [Act.put, List.setIfInBounds_toArray, List.set_cons_zero, List.set_cons_succ])
  refine' wpAnyH_take (i := 10) (oi := { dst := some 2, op := Go.Op.assign (Go.Operand.tmp 28), type := 9, pos := "msc.go:51", after := #[{ on := 9, ground := Go.Ground.data }, { on := 2, ground := Go.Ground.chain }, { on := 0, ground := Go.Ground.phase }, { on := 1, ground := Go.Ground.phase }, { on := 2, ground := Go.Ground.phase }, { on := 3, ground := Go.Ground.phase }, { on := 4, ground := Go.Ground.phase }, { on := 5, ground := Go.Ground.phase }, { on := 6, ground := Go.Ground.phase }, { on := 7, ground := Go.Ground.phase }, { on := 8, ground := Go.Ground.phase }, { on := 9, ground := Go.Ground.phase }], guard := none }) (v := _) rfl (by kernel_rfl) (by kernel_rfl) (by kernel_rfl) (fun _ _ _ h => h) (Or.inl ⟨by rfl, ?hy8⟩) (by assumption) ?hr8
  case hy8 => (intro _ hSw; (try dsimp only at hSw); go_simp <;> with_reducible rfl)
  simp only [Act.put, List.setIfInBounds_toArray, List.set_cons_zero, List.set_cons_succ]
  refine' wpAnyH_take (i := 11) (oi := { dst := some 3, op := Go.Op.assign (Go.Operand.const (Go.Value.int Go.IntKind.i64 0)), type := 36, pos := "msc.go:51", after := #[{ on := 10, ground := Go.Ground.chain }, { on := 0, ground := Go.Ground.phase }, { on := 1, ground := Go.Ground.phase }, { on := 2, ground := Go.Ground.phase }, { on := 3, ground := Go.Ground.phase }, { on := 4, ground := Go.Ground.phase }, { on := 5, ground := Go.Ground.phase }, { on := 6, ground := Go.Ground.phase }, { on := 7, ground := Go.Ground.phase }, { on := 8, ground := Go.Ground.phase }, { on := 9, ground := Go.Ground.phase }, { on := 10, ground := Go.Ground.phase }], guard := none }) (v := _) rfl (by kernel_rfl) (by kernel_rfl) (by kernel_rfl) (fun _ _ _ h => h) (Or.inl ⟨by rfl, ?hy9⟩) (by assumption) ?hr9
  case hy9 => (intro _ hSw; (try dsimp only at hSw); go_simp <;> with_reducible rfl)
  simp only [Act.put, List.setIfInBounds_toArray, List.set_cons_zero, List.set_cons_succ]
  refine wpAnyH_done (by kernel_rfl) ?_ _
  go_wp2
  go_ret2
  exact ⟨rfl, below_on HB.out hHeld⟩
theorem fput (p : St) (hp : p.In) (w : World) :
    Calls Tryd.prog 48 #[sv p] w fun x w' => x = .returned (.tuple #[.string (putS p), .int .i64 (putE p)]) ∧ Below w.heap.size w w' := by
  unfold putS putE
  cases hm : may p
  · exact fput_no p (fun w => by have := fmay p w; rw [hm] at this; exact this) w
  · have CM := fun w => fmay p w
    rw [hm] at CM
    have hM := (may_iff p).1 hm
    obtain ⟨d, f, c, r, i, v, b, k⟩ := p
    cases b
    · rw [if_pos rfl, if_pos rfl, octets_two rfl]
      exact fput_two d f c r i v k _ _ hp.d rfl rfl CM w
    · rw [if_pos rfl, if_pos rfl, octets_three rfl]
      exact fput_three d f c r i v k _ _ _ hp.d hM.k rfl rfl (not_mark _ (bt_lt _) (bt_odd _)) CM w
end Go.Proofs.YtakkhdammmcjcaaDoor.Msc

/-
  What the document's own value, Put and Octet of layer 10 answer. Conditions: octets are octets; a message that is valued may be.
-/
import Derived.Test.YtffahjlboakakaaDoorMsgsRef
namespace Go.Proofs.YtffahjlboakakaaDoor.Msgs
open Go.RowKit Go.Proofs.YtffahjlboakakaaDoor.Base Go.Proofs.YtffahjlboakakaaDoor.Mem
set_option maxRecDepth 20000
theorem rvalue_1 (m : Ms) (hk : m.k = 1) (S : ByteArray) (E : Int) (CP : ∀ w, Calls Tryd.prog 38 #[Pn.pv m.p] w fun e w' => e = .returned (.tuple #[.string S, .int .i64 E]) ∧ Below w.heap.size w w') (w : World) :
    Calls Tryd.prog 22 #[mv m] w fun e w' => e = .returned (.tuple #[.int .u8 32, .string S]) ∧ Below w.heap.size w w' := by
  have hq : (m.k : Int) = 1 := in_k (n := m.k) (k := 1) hk
  clear hk
  have CPh := Lib.hid CP
  clear CP
  go_enter Tryd.func22, Tryd.ntmps22
  go_wp2_with (first
    | ((with_reducible refine bxm (m := m) ?hx ?_); (case hx => rfl); intro b1 wx h1 F1; have HX := Lib.hid h1; have HB := Lib.hid F1.below; obtain ⟨c0, c1, c18, c19⟩ := flds h1; clear h1 F1)
    | ((with_reducible refine ldp isPr HX.out ?hx ?_); (case hx => rfl))
    | (go_at_call 38; ((with_reducible refine (CPh.out _).mono ?_); rintro e w2 ⟨rfl, hb⟩; replace HB := Lib.hid (below_on HB.out hb); clear hb c0 c1 c18 c19)))
  go_ret2
  exact ⟨rfl, HB.out⟩
theorem rvalue_2 (m : Ms) (hk : m.k = 2) (S : ByteArray) (E : Int) (CP : ∀ w, Calls Tryd.prog 26 #[Msc.sv m.s] w fun e w' => e = .returned (.tuple #[.string S, .int .i64 E]) ∧ Below w.heap.size w w') (w : World) :
    Calls Tryd.prog 22 #[mv m] w fun e w' => e = .returned (.tuple #[.int .u8 56, .string S]) ∧ Below w.heap.size w w' := by
  have hq : (m.k : Int) = 2 := in_k (n := m.k) (k := 2) hk
  clear hk
  have CPh := Lib.hid CP
  clear CP
  go_enter Tryd.func22, Tryd.ntmps22
  go_wp2_with (first
    | ((with_reducible refine bxm (m := m) ?hx ?_); (case hx => rfl); intro b1 wx h1 F1; have HX := Lib.hid h1; have HB := Lib.hid F1.below; obtain ⟨c0, c1, c18, c19⟩ := flds h1; clear h1 F1)
    | ((with_reducible refine lds isSr HX.out ?hx ?_); (case hx => rfl))
    | (go_at_call 26; ((with_reducible refine (CPh.out _).mono ?_); rintro e w2 ⟨rfl, hb⟩; replace HB := Lib.hid (below_on HB.out hb); clear hb c0 c1 c18 c19)))
  go_ret2
  exact ⟨rfl, HB.out⟩
theorem rvalue_7 (m : Ms) (hk : m.k = 7) (w : World) :
    Calls Tryd.prog 22 #[mv m] w fun e w' => e = .returned (.tuple #[.int .u8 4, .string (one m.t)]) ∧ Below w.heap.size w w' := by
  have hq : (m.k : Int) = 7 := in_k (n := m.k) (k := 7) hk
  clear hk
  have hcv : ∀ (W : World) (b : Nat), W.cell? ⟨b, 0, none⟩ = some (.int .u8 (m.t : Int)) → (convert 54 9 (.slice (some ⟨b, 0, none⟩) 1 1)).run Tryd.prog W = .ok (.string (one m.t)) W := fun W b h0 => conv_at1 W b _ h0
  generalize one m.t = S at *
  go_enter Tryd.func22, Tryd.ntmps22
  go_wp2_with (first
    | ((with_reducible refine bxm (m := m) ?hx ?_); (case hx => rfl); intro b1 wx h1 F1; have HX := Lib.hid h1; have HB := Lib.hid F1.below; obtain ⟨c0, c1, c18, c19⟩ := flds h1; clear h1 F1))
  go_region
  all_goals
    go_wp2
    go_ret2
    exact ⟨rfl, ((HB.out.drew).alloc HB.out.size _)⟩
theorem rvalue_8 (m : Ms) (hk : m.k = 8) (w : World) :
    Calls Tryd.prog 22 #[mv m] w fun e w' => e = .returned (.tuple #[.int .u8 (m.t : Int), .string m.b]) ∧ Below w.heap.size w w' := by
  have hq : (m.k : Int) = 8 := in_k (n := m.k) (k := 8) hk
  clear hk
  go_enter Tryd.func22, Tryd.ntmps22
  go_wp2_with (first
    | ((with_reducible refine bxm (m := m) ?hx ?_); (case hx => rfl); intro b1 wx h1 F1; have HX := Lib.hid h1; have HB := Lib.hid F1.below; obtain ⟨c0, c1, c18, c19⟩ := flds h1; clear h1 F1))
  go_quiet (fail)
  go_wp2
  go_ret2
  exact ⟨rfl, below_drewN HB.out _⟩
theorem rvalue_3 (m : Ms) (hk : m.k = 3) (w : World) :
    Calls Tryd.prog 22 #[mv m] w fun e w' => e = .returned (.tuple #[.int .u8 (tyN 3 : Int), .string m.b]) ∧ Below w.heap.size w w' := by
  have hq : (m.k : Int) = 3 := in_k (n := m.k) (k := 3) hk
  clear hk
  have hwr : IntKind.u8.wrap 2 = 2 := by decide
  go_enter Tryd.func22, Tryd.ntmps22
  go_wp2_with (first
    | ((with_reducible refine bxm (m := m) ?hx ?_); (case hx => rfl); intro b1 wx h1 F1; have HX := Lib.hid h1; have HB := Lib.hid F1.below; obtain ⟨c0, c1, c18, c19⟩ := flds h1; clear h1 F1))
  refine wp_region_held_drew (S := fun w' => Below wx.heap.size wx w') (by kernel_rfl) (Below.refl _ _).drew (fun hHeld => ?_)
  refine' wpAnyH_take (i := 1) (oi := { dst := some 41, op := Go.Op.fieldAddr 36 (Go.Operand.tmp 1) 0, type := 0, pos := "ref.go:73", after := #[], guard := none }) (v := _) rfl (by kernel_rfl) (by kernel_rfl) (by kernel_rfl) (fun _ _ _ h => h) (Or.inl ⟨by rfl, ?hy1⟩) (by assumption) ?hr1
  case hy1 => (intro _ hSw; (try dsimp only at hSw); go_simp <;> with_reducible rfl)
  simp only [Act.put, List.setIfInBounds_toArray, List.set_cons_zero, List.set_cons_succ]
  refine' wpAnyH_take (i := 2) (oi := { dst := some 42, op := Go.Op.load 5 (Go.Operand.tmp 41), type := 5, pos := "ref.go:73", after := #[{ on := 1, ground := Go.Ground.data }], guard := none }) (v := _) rfl (by kernel_rfl) (by kernel_rfl) (by kernel_rfl) (fun _ _ _ h => h) (Or.inl ⟨by rfl, ?hy2⟩) (by assumption) ?hr2
  case hy2 => (intro _ hSw; (try dsimp only at hSw); obtain ⟨c0, c1, c18, c19⟩ := flds (stays HX.out hSw); go_simp <;> with_reducible rfl)
  simp only [Act.put, List.setIfInBounds_toArray, List.set_cons_zero, List.set_cons_succ]
  refine' wpAnyH_take (i := 3) (oi := { dst := some 43, op := Go.Op.binOp Go.BinOp.sub 5 (Go.Operand.tmp 42) (Go.Operand.const (Go.Value.int Go.IntKind.u8 1)) 5, type := 5, pos := "ref.go:73", after := #[{ on := 2, ground := Go.Ground.data }], guard := none }) (v := _) rfl (by kernel_rfl) (by kernel_rfl) (by kernel_rfl) (fun _ _ _ h => h) (Or.inl ⟨by rfl, ?hy3⟩) (by assumption) ?hr3
  case hy3 => (intro _ hSw; (try dsimp only at hSw); go_simp <;> with_reducible rfl)
  simp only [Act.put, List.setIfInBounds_toArray, List.set_cons_zero, List.set_cons_succ]
  refine' wpAnyH_take (i := 6) (oi := { dst := some 46, op := Go.Op.fieldAddr 36 (Go.Operand.tmp 1) 5, type := 0, pos := "ref.go:73", after := #[{ on := 8, ground := Go.Ground.gcOnly Go.Departure.lateStores }], guard := none }) (v := _) rfl (by kernel_rfl) (by kernel_rfl) (by kernel_rfl) (fun _ _ _ h => h) (Or.inl ⟨by rfl, ?hy4⟩) (by assumption) ?hr4
  case hy4 => (intro _ hSw; (try dsimp only at hSw); go_simp <;> with_reducible rfl)
  simp only [Act.put, List.setIfInBounds_toArray, List.set_cons_zero, List.set_cons_succ]
  refine' wpAnyH_take (i := 7) (oi := { dst := some 47, op := Go.Op.load 9 (Go.Operand.tmp 46), type := 9, pos := "ref.go:73", after := #[{ on := 6, ground := Go.Ground.data }, { on := 8, ground := Go.Ground.gcOnly Go.Departure.lateStores }], guard := none }) (v := _) rfl (by kernel_rfl) (by kernel_rfl) (by kernel_rfl) (fun _ _ _ h => h) (Or.inl ⟨by rfl, ?hy5⟩) (by assumption) ?hr5
  case hy5 => (intro _ hSw; (try dsimp only at hSw); obtain ⟨c0, c1, c18, c19⟩ := flds (stays HX.out hSw); go_simp <;> with_reducible rfl)
  simp only [Act.put, List.setIfInBounds_toArray, List.set_cons_zero, List.set_cons_succ]
  refine wpAnyH_ready (rs := [0]) (by kernel_rfl) (by simp) ?_
  refine AllReadyH.cons (o := { dst := some 40, op := Go.Op.call { callee := Go.Callee.value (Go.Operand.func 39), args := #[], argTypes := #[] }, type := 54, pos := "ref.go:73", after := #[], guard := none }) rfl (fun K hK => ?_) AllReadyH.nil
  go_simp
  (with_reducible refine (rtypes _).mono ?_)
  rintro e wc ⟨rfl, hc, hb⟩
  go_wp2_with fail
  refine hK.out _ _ (below_on hHeld hb) (fun hNext => ?_)
  have hcell : wc.cell? ⟨wx.heap.size, 2, none⟩ = some (.int .u8 (tyN 3 : Int)) := hc 2 (by decide)
  clear hK K hHeld hb hc
  have hHeld := hNext
  clear hNext
  (try simp only [Act.put, List.setIfInBounds_toArray, List.set_cons_zero, List.set_cons_succ])
  refine' wpAnyH_take (i := 4) (oi := { dst := some 44, op := Go.Op.indexAddr 54 (Go.Operand.tmp 40) (Go.Operand.tmp 43), type := 0, pos := "ref.go:73", after := #[{ on := 0, ground := Go.Ground.data }, { on := 3, ground := Go.Ground.data }], guard := none }) (v := _) rfl (by kernel_rfl) (by kernel_rfl) (by kernel_rfl) (fun _ _ _ h => h) (Or.inl ⟨by rfl, ?hy6⟩) (by assumption) ?hr6
  case hy6 => (intro _ hSw; (try dsimp only at hSw); go_simp <;> with_reducible rfl)
  simp only [Act.put, List.setIfInBounds_toArray, List.set_cons_zero, List.set_cons_succ]
  refine wpAnyH_ready (rs := [5]) (by kernel_rfl) (by simp) ?_
  refine AllReadyH.cons (o := { dst := some 45, op := Go.Op.load 5 (Go.Operand.tmp 44), type := 5, pos := "ref.go:73", after := #[{ on := 4, ground := Go.Ground.data }], guard := none }) rfl (fun K hK => ?_) AllReadyH.nil
  go_simp
  refine hK.out _ _ hHeld (fun hNext => ?_)
  clear hK K hHeld
  have hHeld := hNext
  clear hNext
  (try simp only [Act.put, List.setIfInBounds_toArray, List.set_cons_zero, List.set_cons_succ])
  refine' wpAnyH_take (i := 8) (oi := { dst := some 2, op := Go.Op.assign (Go.Operand.tmp 45), type := 5, pos := "ref.go:73", after := #[{ on := 5, ground := Go.Ground.data }, { on := 0, ground := Go.Ground.chain }, { on := 0, ground := Go.Ground.phase }, { on := 1, ground := Go.Ground.phase }, { on := 2, ground := Go.Ground.phase }, { on := 3, ground := Go.Ground.phase }, { on := 4, ground := Go.Ground.phase }, { on := 5, ground := Go.Ground.phase }, { on := 6, ground := Go.Ground.textOnly Go.Departure.lateStores }, { on := 7, ground := Go.Ground.textOnly Go.Departure.lateStores }], guard := none }) (v := _) rfl (by kernel_rfl) (by kernel_rfl) (by kernel_rfl) (fun _ _ _ h => h) (Or.inl ⟨by rfl, ?hy7⟩) (by assumption) ?hr7
  case hy7 => (intro _ hSw; (try dsimp only at hSw); go_simp <;> with_reducible rfl)
  simp only [Act.put, List.setIfInBounds_toArray, List.set_cons_zero, List.set_cons_succ]
  refine' wpAnyH_take (i := 9) (oi := { dst := some 3, op := Go.Op.assign (Go.Operand.tmp 47), type := 9, pos := "ref.go:73", after := #[{ on := 7, ground := Go.Ground.data }, { on := 8, ground := Go.Ground.chain }, { on := 0, ground := Go.Ground.phase }, { on := 1, ground := Go.Ground.phase }, { on := 2, ground := Go.Ground.phase }, { on := 3, ground := Go.Ground.phase }, { on := 4, ground := Go.Ground.phase }, { on := 5, ground := Go.Ground.phase }, { on := 6, ground := Go.Ground.phase }, { on := 7, ground := Go.Ground.phase }, { on := 8, ground := Go.Ground.phase }], guard := none }) (v := _) rfl (by kernel_rfl) (by kernel_rfl) (by kernel_rfl) (fun _ _ _ h => h) (Or.inl ⟨by rfl, ?hy8⟩) (by assumption) ?hr8
  case hy8 => (intro _ hSw; (try dsimp only at hSw); go_simp <;> with_reducible rfl)
  simp only [Act.put, List.setIfInBounds_toArray, List.set_cons_zero, List.set_cons_succ]
  refine wpAnyH_done (by kernel_rfl) ?_ _
  go_wp2
  go_ret2
  exact ⟨rfl, below_on HB.out hHeld⟩
theorem rvalue_4 (m : Ms) (hk : m.k = 4) (w : World) :
    Calls Tryd.prog 22 #[mv m] w fun e w' => e = .returned (.tuple #[.int .u8 (tyN 4 : Int), .string m.b]) ∧ Below w.heap.size w w' := by
  have hq : (m.k : Int) = 4 := in_k (n := m.k) (k := 4) hk
  clear hk
  have hwr : IntKind.u8.wrap 3 = 3 := by decide
  go_enter Tryd.func22, Tryd.ntmps22
  go_wp2_with (first
    | ((with_reducible refine bxm (m := m) ?hx ?_); (case hx => rfl); intro b1 wx h1 F1; have HX := Lib.hid h1; have HB := Lib.hid F1.below; obtain ⟨c0, c1, c18, c19⟩ := flds h1; clear h1 F1))
  refine wp_region_held_drew (S := fun w' => Below wx.heap.size wx w') (by kernel_rfl) (Below.refl _ _).drew (fun hHeld => ?_)
  refine' wpAnyH_take (i := 1) (oi := { dst := some 41, op := Go.Op.fieldAddr 36 (Go.Operand.tmp 1) 0, type := 0, pos := "ref.go:73", after := #[], guard := none }) (v := _) rfl (by kernel_rfl) (by kernel_rfl) (by kernel_rfl) (fun _ _ _ h => h) (Or.inl ⟨by rfl, ?hy9⟩) (by assumption) ?hr9
  case hy9 => (intro _ hSw; (try dsimp only at hSw); go_simp <;> with_reducible rfl)
  simp only [Act.put, List.setIfInBounds_toArray, List.set_cons_zero, List.set_cons_succ]
  refine' wpAnyH_take (i := 2) (oi := { dst := some 42, op := Go.Op.load 5 (Go.Operand.tmp 41), type := 5, pos := "ref.go:73", after := #[{ on := 1, ground := Go.Ground.data }], guard := none }) (v := _) rfl (by kernel_rfl) (by kernel_rfl) (by kernel_rfl) (fun _ _ _ h => h) (Or.inl ⟨by rfl, ?hy10⟩) (by assumption) ?hr10
  case hy10 => (intro _ hSw; (try dsimp only at hSw); obtain ⟨c0, c1, c18, c19⟩ := flds (stays HX.out hSw); go_simp <;> with_reducible rfl)
  simp only [Act.put, List.setIfInBounds_toArray, List.set_cons_zero, List.set_cons_succ]
  refine' wpAnyH_take (i := 3) (oi := { dst := some 43, op := Go.Op.binOp Go.BinOp.sub 5 (Go.Operand.tmp 42) (Go.Operand.const (Go.Value.int Go.IntKind.u8 1)) 5, type := 5, pos := "ref.go:73", after := #[{ on := 2, ground := Go.Ground.data }], guard := none }) (v := _) rfl (by kernel_rfl) (by kernel_rfl) (by kernel_rfl) (fun _ _ _ h => h) (Or.inl ⟨by rfl, ?hy11⟩) (by assumption) ?hr11
  case hy11 => (intro _ hSw; (try dsimp only at hSw); go_simp <;> with_reducible rfl)
  simp only [Act.put, List.setIfInBounds_toArray, List.set_cons_zero, List.set_cons_succ]
  refine' wpAnyH_take (i := 6) (oi := { dst := some 46, op := Go.Op.fieldAddr 36 (Go.Operand.tmp 1) 5, type := 0, pos := "ref.go:73", after := #[{ on := 8, ground := Go.Ground.gcOnly Go.Departure.lateStores }], guard := none }) (v := _) rfl (by kernel_rfl) (by kernel_rfl) (by kernel_rfl) (fun _ _ _ h => h) (Or.inl ⟨by rfl, ?hy12⟩) (by assumption) ?hr12
  case hy12 => (intro _ hSw; (try dsimp only at hSw); go_simp <;> with_reducible rfl)
  simp only [Act.put, List.setIfInBounds_toArray, List.set_cons_zero, List.set_cons_succ]
  refine' wpAnyH_take (i := 7) (oi := { dst := some 47, op := Go.Op.load 9 (Go.Operand.tmp 46), type := 9, pos := "ref.go:73", after := #[{ on := 6, ground := Go.Ground.data }, { on := 8, ground := Go.Ground.gcOnly Go.Departure.lateStores }], guard := none }) (v := _) rfl (by kernel_rfl) (by kernel_rfl) (by kernel_rfl) (fun _ _ _ h => h) (Or.inl ⟨by rfl, ?hy13⟩) (by assumption) ?hr13
  case hy13 => (intro _ hSw; (try dsimp only at hSw); obtain ⟨c0, c1, c18, c19⟩ := flds (stays HX.out hSw); go_simp <;> with_reducible rfl)
  simp only [Act.put, List.setIfInBounds_toArray, List.set_cons_zero, List.set_cons_succ]
  refine wpAnyH_ready (rs := [0]) (by kernel_rfl) (by simp) ?_
  refine AllReadyH.cons (o := { dst := some 40, op := Go.Op.call { callee := Go.Callee.value (Go.Operand.func 39), args := #[], argTypes := #[] }, type := 54, pos := "ref.go:73", after := #[], guard := none }) rfl (fun K hK => ?_) AllReadyH.nil
  go_simp
  (with_reducible refine (rtypes _).mono ?_)
  rintro e wc ⟨rfl, hc, hb⟩
  go_wp2_with fail
  refine hK.out _ _ (below_on hHeld hb) (fun hNext => ?_)
  have hcell : wc.cell? ⟨wx.heap.size, 3, none⟩ = some (.int .u8 (tyN 4 : Int)) := hc 3 (by decide)
  clear hK K hHeld hb hc
  have hHeld := hNext
  clear hNext
  (try simp only [Act.put, List.setIfInBounds_toArray, List.set_cons_zero, List.set_cons_succ])
  refine' wpAnyH_take (i := 4) (oi := { dst := some 44, op := Go.Op.indexAddr 54 (Go.Operand.tmp 40) (Go.Operand.tmp 43), type := 0, pos := "ref.go:73", after := #[{ on := 0, ground := Go.Ground.data }, { on := 3, ground := Go.Ground.data }], guard := none }) (v := _) rfl (by kernel_rfl) (by kernel_rfl) (by kernel_rfl) (fun _ _ _ h => h) (Or.inl ⟨by rfl, ?hy14⟩) (by assumption) ?hr14
  case hy14 => (intro _ hSw; (try dsimp only at hSw); go_simp <;> with_reducible rfl)
  simp only [Act.put, List.setIfInBounds_toArray, List.set_cons_zero, List.set_cons_succ]
  refine wpAnyH_ready (rs := [5]) (by kernel_rfl) (by simp) ?_
  refine AllReadyH.cons (o := { dst := some 45, op := Go.Op.load 5 (Go.Operand.tmp 44), type := 5, pos := "ref.go:73", after := #[{ on := 4, ground := Go.Ground.data }], guard := none }) rfl (fun K hK => ?_) AllReadyH.nil
  go_simp
  refine hK.out _ _ hHeld (fun hNext => ?_)
  clear hK K hHeld
  have hHeld := hNext
  clear hNext
  (try simp only [Act.put, List.setIfInBounds_toArray, List.set_cons_zero, List.set_cons_succ])
  refine' wpAnyH_take (i := 8) (oi := { dst := some 2, op := Go.Op.assign (Go.Operand.tmp 45), type := 5, pos := "ref.go:73", after := #[{ on := 5, ground := Go.Ground.data }, { on := 0, ground := Go.Ground.chain }, { on := 0, ground := Go.Ground.phase }, { on := 1, ground := Go.Ground.phase }, { on := 2, ground := Go.Ground.phase }, { on := 3, ground := Go.Ground.phase }, { on := 4, ground := Go.Ground.phase }, { on := 5, ground := Go.Ground.phase }, { on := 6, ground := Go.Ground.textOnly Go.Departure.lateStores }, { on := 7, ground := Go.Ground.textOnly Go.Departure.lateStores }], guard := none }) (v := _) rfl (by kernel_rfl) (by kernel_rfl) (by kernel_rfl) (fun _ _ _ h => h) (Or.inl ⟨by rfl, ?hy15⟩) (by assumption) ?hr15
  case hy15 => (intro _ hSw; (try dsimp only at hSw); go_simp <;> with_reducible rfl)
  simp only [Act.put, List.setIfInBounds_toArray, List.set_cons_zero, List.set_cons_succ]
  refine' wpAnyH_take (i := 9) (oi := { dst := some 3, op := Go.Op.assign (Go.Operand.tmp 47), type := 9, pos := "ref.go:73", after := #[{ on := 7, ground := Go.Ground.data }, { on := 8, ground := Go.Ground.chain }, { on := 0, ground := Go.Ground.phase }, { on := 1, ground := Go.Ground.phase }, { on := 2, ground := Go.Ground.phase }, { on := 3, ground := Go.Ground.phase }, { on := 4, ground := Go.Ground.phase }, { on := 5, ground := Go.Ground.phase }, { on := 6, ground := Go.Ground.phase }, { on := 7, ground := Go.Ground.phase }, { on := 8, ground := Go.Ground.phase }], guard := none }) (v := _) rfl (by kernel_rfl) (by kernel_rfl) (by kernel_rfl) (fun _ _ _ h => h) (Or.inl ⟨by rfl, ?hy16⟩) (by assumption) ?hr16
  case hy16 => (intro _ hSw; (try dsimp only at hSw); go_simp <;> with_reducible rfl)
  simp only [Act.put, List.setIfInBounds_toArray, List.set_cons_zero, List.set_cons_succ]
  refine wpAnyH_done (by kernel_rfl) ?_ _
  go_wp2
  go_ret2
  exact ⟨rfl, below_on HB.out hHeld⟩
theorem rvalue_5 (m : Ms) (hk : m.k = 5) (w : World) :
    Calls Tryd.prog 22 #[mv m] w fun e w' => e = .returned (.tuple #[.int .u8 (tyN 5 : Int), .string m.b]) ∧ Below w.heap.size w w' := by
  have hq : (m.k : Int) = 5 := in_k (n := m.k) (k := 5) hk
  clear hk
  have hwr : IntKind.u8.wrap 4 = 4 := by decide
  go_enter Tryd.func22, Tryd.ntmps22
  go_wp2_with (first
    | ((with_reducible refine bxm (m := m) ?hx ?_); (case hx => rfl); intro b1 wx h1 F1; have HX := Lib.hid h1; have HB := Lib.hid F1.below; obtain ⟨c0, c1, c18, c19⟩ := flds h1; clear h1 F1))
  refine wp_region_held_drew (S := fun w' => Below wx.heap.size wx w') (by kernel_rfl) (Below.refl _ _).drew (fun hHeld => ?_)
  refine' wpAnyH_take (i := 1) (oi := { dst := some 41, op := Go.Op.fieldAddr 36 (Go.Operand.tmp 1) 0, type := 0, pos := "ref.go:73", after := #[], guard := none }) (v := _) rfl (by kernel_rfl) (by kernel_rfl) (by kernel_rfl) (fun _ _ _ h => h) (Or.inl ⟨by rfl, ?hy17⟩) (by assumption) ?hr17
  case hy17 => (intro _ hSw; (try dsimp only at hSw); go_simp <;> with_reducible rfl)
  simp only [Act.put, List.setIfInBounds_toArray, List.set_cons_zero, List.set_cons_succ]
  refine' wpAnyH_take (i := 2) (oi := { dst := some 42, op := Go.Op.load 5 (Go.Operand.tmp 41), type := 5, pos := "ref.go:73", after := #[{ on := 1, ground := Go.Ground.data }], guard := none }) (v := _) rfl (by kernel_rfl) (by kernel_rfl) (by kernel_rfl) (fun _ _ _ h => h) (Or.inl ⟨by rfl, ?hy18⟩) (by assumption) ?hr18
  case hy18 => (intro _ hSw; (try dsimp only at hSw); obtain ⟨c0, c1, c18, c19⟩ := flds (stays HX.out hSw); go_simp <;> with_reducible rfl)
  simp only [Act.put, List.setIfInBounds_toArray, List.set_cons_zero, List.set_cons_succ]
  refine' wpAnyH_take (i := 3) (oi := { dst := some 43, op := Go.Op.binOp Go.BinOp.sub 5 (Go.Operand.tmp 42) (Go.Operand.const (Go.Value.int Go.IntKind.u8 1)) 5, type := 5, pos := "ref.go:73", after := #[{ on := 2, ground := Go.Ground.data }], guard := none }) (v := _) rfl (by kernel_rfl) (by kernel_rfl) (by kernel_rfl) (fun _ _ _ h => h) (Or.inl ⟨by rfl, ?hy19⟩) (by assumption) ?hr19
  case hy19 => (intro _ hSw; (try dsimp only at hSw); go_simp <;> with_reducible rfl)
  simp only [Act.put, List.setIfInBounds_toArray, List.set_cons_zero, List.set_cons_succ]
  refine' wpAnyH_take (i := 6) (oi := { dst := some 46, op := Go.Op.fieldAddr 36 (Go.Operand.tmp 1) 5, type := 0, pos := "ref.go:73", after := #[{ on := 8, ground := Go.Ground.gcOnly Go.Departure.lateStores }], guard := none }) (v := _) rfl (by kernel_rfl) (by kernel_rfl) (by kernel_rfl) (fun _ _ _ h => h) (Or.inl ⟨by rfl, ?hy20⟩) (by assumption) ?hr20
  case hy20 => (intro _ hSw; (try dsimp only at hSw); go_simp <;> with_reducible rfl)
  simp only [Act.put, List.setIfInBounds_toArray, List.set_cons_zero, List.set_cons_succ]
  refine' wpAnyH_take (i := 7) (oi := { dst := some 47, op := Go.Op.load 9 (Go.Operand.tmp 46), type := 9, pos := "ref.go:73", after := #[{ on := 6, ground := Go.Ground.data }, { on := 8, ground := Go.Ground.gcOnly Go.Departure.lateStores }], guard := none }) (v := _) rfl (by kernel_rfl) (by kernel_rfl) (by kernel_rfl) (fun _ _ _ h => h) (Or.inl ⟨by rfl, ?hy21⟩) (by assumption) ?hr21
  case hy21 => (intro _ hSw; (try dsimp only at hSw); obtain ⟨c0, c1, c18, c19⟩ := flds (stays HX.out hSw); go_simp <;> with_reducible rfl)
  simp only [Act.put, List.setIfInBounds_toArray, List.set_cons_zero, List.set_cons_succ]
  refine wpAnyH_ready (rs := [0]) (by kernel_rfl) (by simp) ?_
  refine AllReadyH.cons (o := { dst := some 40, op := Go.Op.call { callee := Go.Callee.value (Go.Operand.func 39), args := #[], argTypes := #[] }, type := 54, pos := "ref.go:73", after := #[], guard := none }) rfl (fun K hK => ?_) AllReadyH.nil
  go_simp
  (with_reducible refine (rtypes _).mono ?_)
  rintro e wc ⟨rfl, hc, hb⟩
  go_wp2_with fail
  refine hK.out _ _ (below_on hHeld hb) (fun hNext => ?_)
  have hcell : wc.cell? ⟨wx.heap.size, 4, none⟩ = some (.int .u8 (tyN 5 : Int)) := hc 4 (by decide)
  clear hK K hHeld hb hc
  have hHeld := hNext
  clear hNext
  (try simp only [Act.put, List.setIfInBounds_toArray, List.set_cons_zero, List.set_cons_succ])
  refine' wpAnyH_take (i := 4) (oi := { dst := some 44, op := Go.Op.indexAddr 54 (Go.Operand.tmp 40) (Go.Operand.tmp 43), type := 0, pos := "ref.go:73", after := #[{ on := 0, ground := Go.Ground.data }, { on := 3, ground := Go.Ground.data }], guard := none }) (v := _) rfl (by kernel_rfl) (by kernel_rfl) (by kernel_rfl) (fun _ _ _ h => h) (Or.inl ⟨by rfl, ?hy22⟩) (by assumption) ?hr22
  case hy22 => (intro _ hSw; (try dsimp only at hSw); go_simp <;> with_reducible rfl)
  simp only [Act.put, List.setIfInBounds_toArray, List.set_cons_zero, List.set_cons_succ]
  refine wpAnyH_ready (rs := [5]) (by kernel_rfl) (by simp) ?_
  refine AllReadyH.cons (o := { dst := some 45, op := Go.Op.load 5 (Go.Operand.tmp 44), type := 5, pos := "ref.go:73", after := #[{ on := 4, ground := Go.Ground.data }], guard := none }) rfl (fun K hK => ?_) AllReadyH.nil
  go_simp
  refine hK.out _ _ hHeld (fun hNext => ?_)
  clear hK K hHeld
  have hHeld := hNext
  clear hNext
  (try simp only [Act.put, List.setIfInBounds_toArray, List.set_cons_zero, List.set_cons_succ])
  refine' wpAnyH_take (i := 8) (oi := { dst := some 2, op := Go.Op.assign (Go.Operand.tmp 45), type := 5, pos := "ref.go:73", after := #[{ on := 5, ground := Go.Ground.data }, { on := 0, ground := Go.Ground.chain }, { on := 0, ground := Go.Ground.phase }, { on := 1, ground := Go.Ground.phase }, { on := 2, ground := Go.Ground.phase }, { on := 3, ground := Go.Ground.phase }, { on := 4, ground := Go.Ground.phase }, { on := 5, ground := Go.Ground.phase }, { on := 6, ground := Go.Ground.textOnly Go.Departure.lateStores }, { on := 7, ground := Go.Ground.textOnly Go.Departure.lateStores }], guard := none }) (v := _) rfl (by kernel_rfl) (by kernel_rfl) (by kernel_rfl) (fun _ _ _ h => h) (Or.inl ⟨by rfl, ?hy23⟩) (by assumption) ?hr23
  case hy23 => (intro _ hSw; (try dsimp only at hSw); go_simp <;> with_reducible rfl)
  simp only [Act.put, List.setIfInBounds_toArray, List.set_cons_zero, List.set_cons_succ]
  refine' wpAnyH_take (i := 9) (oi := { dst := some 3, op := Go.Op.assign (Go.Operand.tmp 47), type := 9, pos := "ref.go:73", after := #[{ on := 7, ground := Go.Ground.data }, { on := 8, ground := Go.Ground.chain }, { on := 0, ground := Go.Ground.phase }, { on := 1, ground := Go.Ground.phase }, { on := 2, ground := Go.Ground.phase }, { on := 3, ground := Go.Ground.phase }, { on := 4, ground := Go.Ground.phase }, { on := 5, ground := Go.Ground.phase }, { on := 6, ground := Go.Ground.phase }, { on := 7, ground := Go.Ground.phase }, { on := 8, ground := Go.Ground.phase }], guard := none }) (v := _) rfl (by kernel_rfl) (by kernel_rfl) (by kernel_rfl) (fun _ _ _ h => h) (Or.inl ⟨by rfl, ?hy24⟩) (by assumption) ?hr24
  case hy24 => (intro _ hSw; (try dsimp only at hSw); go_simp <;> with_reducible rfl)
  simp only [Act.put, List.setIfInBounds_toArray, List.set_cons_zero, List.set_cons_succ]
  refine wpAnyH_done (by kernel_rfl) ?_ _
  go_wp2
  go_ret2
  exact ⟨rfl, below_on HB.out hHeld⟩
theorem rvalue_6 (m : Ms) (hk : m.k = 6) (w : World) :
    Calls Tryd.prog 22 #[mv m] w fun e w' => e = .returned (.tuple #[.int .u8 (tyN 6 : Int), .string m.b]) ∧ Below w.heap.size w w' := by
  have hq : (m.k : Int) = 6 := in_k (n := m.k) (k := 6) hk
  clear hk
  have hwr : IntKind.u8.wrap 5 = 5 := by decide
  go_enter Tryd.func22, Tryd.ntmps22
  go_wp2_with (first
    | ((with_reducible refine bxm (m := m) ?hx ?_); (case hx => rfl); intro b1 wx h1 F1; have HX := Lib.hid h1; have HB := Lib.hid F1.below; obtain ⟨c0, c1, c18, c19⟩ := flds h1; clear h1 F1))
  refine wp_region_held_drew (S := fun w' => Below wx.heap.size wx w') (by kernel_rfl) (Below.refl _ _).drew (fun hHeld => ?_)
  refine' wpAnyH_take (i := 1) (oi := { dst := some 41, op := Go.Op.fieldAddr 36 (Go.Operand.tmp 1) 0, type := 0, pos := "ref.go:73", after := #[], guard := none }) (v := _) rfl (by kernel_rfl) (by kernel_rfl) (by kernel_rfl) (fun _ _ _ h => h) (Or.inl ⟨by rfl, ?hy25⟩) (by assumption) ?hr25
  case hy25 => (intro _ hSw; (try dsimp only at hSw); go_simp <;> with_reducible rfl)
  simp only [Act.put, List.setIfInBounds_toArray, List.set_cons_zero, List.set_cons_succ]
  refine' wpAnyH_take (i := 2) (oi := { dst := some 42, op := Go.Op.load 5 (Go.Operand.tmp 41), type := 5, pos := "ref.go:73", after := #[{ on := 1, ground := Go.Ground.data }], guard := none }) (v := _) rfl (by kernel_rfl) (by kernel_rfl) (by kernel_rfl) (fun _ _ _ h => h) (Or.inl ⟨by rfl, ?hy26⟩) (by assumption) ?hr26
  case hy26 => (intro _ hSw; (try dsimp only at hSw); obtain ⟨c0, c1, c18, c19⟩ := flds (stays HX.out hSw); go_simp <;> with_reducible rfl)
  simp only [Act.put, List.setIfInBounds_toArray, List.set_cons_zero, List.set_cons_succ]
  refine' wpAnyH_take (i := 3) (oi := { dst := some 43, op := Go.Op.binOp Go.BinOp.sub 5 (Go.Operand.tmp 42) (Go.Operand.const (Go.Value.int Go.IntKind.u8 1)) 5, type := 5, pos := "ref.go:73", after := #[{ on := 2, ground := Go.Ground.data }], guard := none }) (v := _) rfl (by kernel_rfl) (by kernel_rfl) (by kernel_rfl) (fun _ _ _ h => h) (Or.inl ⟨by rfl, ?hy27⟩) (by assumption) ?hr27
  case hy27 => (intro _ hSw; (try dsimp only at hSw); go_simp <;> with_reducible rfl)
  simp only [Act.put, List.setIfInBounds_toArray, List.set_cons_zero, List.set_cons_succ]
  refine' wpAnyH_take (i := 6) (oi := { dst := some 46, op := Go.Op.fieldAddr 36 (Go.Operand.tmp 1) 5, type := 0, pos := "ref.go:73", after := #[{ on := 8, ground := Go.Ground.gcOnly Go.Departure.lateStores }], guard := none }) (v := _) rfl (by kernel_rfl) (by kernel_rfl) (by kernel_rfl) (fun _ _ _ h => h) (Or.inl ⟨by rfl, ?hy28⟩) (by assumption) ?hr28
  case hy28 => (intro _ hSw; (try dsimp only at hSw); go_simp <;> with_reducible rfl)
  simp only [Act.put, List.setIfInBounds_toArray, List.set_cons_zero, List.set_cons_succ]
  refine' wpAnyH_take (i := 7) (oi := { dst := some 47, op := Go.Op.load 9 (Go.Operand.tmp 46), type := 9, pos := "ref.go:73", after := #[{ on := 6, ground := Go.Ground.data }, { on := 8, ground := Go.Ground.gcOnly Go.Departure.lateStores }], guard := none }) (v := _) rfl (by kernel_rfl) (by kernel_rfl) (by kernel_rfl) (fun _ _ _ h => h) (Or.inl ⟨by rfl, ?hy29⟩) (by assumption) ?hr29
  case hy29 => (intro _ hSw; (try dsimp only at hSw); obtain ⟨c0, c1, c18, c19⟩ := flds (stays HX.out hSw); go_simp <;> with_reducible rfl)
  simp only [Act.put, List.setIfInBounds_toArray, List.set_cons_zero, List.set_cons_succ]
  refine wpAnyH_ready (rs := [0]) (by kernel_rfl) (by simp) ?_
  refine AllReadyH.cons (o := { dst := some 40, op := Go.Op.call { callee := Go.Callee.value (Go.Operand.func 39), args := #[], argTypes := #[] }, type := 54, pos := "ref.go:73", after := #[], guard := none }) rfl (fun K hK => ?_) AllReadyH.nil
  go_simp
  (with_reducible refine (rtypes _).mono ?_)
  rintro e wc ⟨rfl, hc, hb⟩
  go_wp2_with fail
  refine hK.out _ _ (below_on hHeld hb) (fun hNext => ?_)
  have hcell : wc.cell? ⟨wx.heap.size, 5, none⟩ = some (.int .u8 (tyN 6 : Int)) := hc 5 (by decide)
  clear hK K hHeld hb hc
  have hHeld := hNext
  clear hNext
  (try simp only [Act.put, List.setIfInBounds_toArray, List.set_cons_zero, List.set_cons_succ])
  refine' wpAnyH_take (i := 4) (oi := { dst := some 44, op := Go.Op.indexAddr 54 (Go.Operand.tmp 40) (Go.Operand.tmp 43), type := 0, pos := "ref.go:73", after := #[{ on := 0, ground := Go.Ground.data }, { on := 3, ground := Go.Ground.data }], guard := none }) (v := _) rfl (by kernel_rfl) (by kernel_rfl) (by kernel_rfl) (fun _ _ _ h => h) (Or.inl ⟨by rfl, ?hy30⟩) (by assumption) ?hr30
  case hy30 => (intro _ hSw; (try dsimp only at hSw); go_simp <;> with_reducible rfl)
  simp only [Act.put, List.setIfInBounds_toArray, List.set_cons_zero, List.set_cons_succ]
  refine wpAnyH_ready (rs := [5]) (by kernel_rfl) (by simp) ?_
  refine AllReadyH.cons (o := { dst := some 45, op := Go.Op.load 5 (Go.Operand.tmp 44), type := 5, pos := "ref.go:73", after := #[{ on := 4, ground := Go.Ground.data }], guard := none }) rfl (fun K hK => ?_) AllReadyH.nil
  go_simp
  refine hK.out _ _ hHeld (fun hNext => ?_)
  clear hK K hHeld
  have hHeld := hNext
  clear hNext
  (try simp only [Act.put, List.setIfInBounds_toArray, List.set_cons_zero, List.set_cons_succ])
  refine' wpAnyH_take (i := 8) (oi := { dst := some 2, op := Go.Op.assign (Go.Operand.tmp 45), type := 5, pos := "ref.go:73", after := #[{ on := 5, ground := Go.Ground.data }, { on := 0, ground := Go.Ground.chain }, { on := 0, ground := Go.Ground.phase }, { on := 1, ground := Go.Ground.phase }, { on := 2, ground := Go.Ground.phase }, { on := 3, ground := Go.Ground.phase }, { on := 4, ground := Go.Ground.phase }, { on := 5, ground := Go.Ground.phase }, { on := 6, ground := Go.Ground.textOnly Go.Departure.lateStores }, { on := 7, ground := Go.Ground.textOnly Go.Departure.lateStores }], guard := none }) (v := _) rfl (by kernel_rfl) (by kernel_rfl) (by kernel_rfl) (fun _ _ _ h => h) (Or.inl ⟨by rfl, ?hy31⟩) (by assumption) ?hr31
  case hy31 => (intro _ hSw; (try dsimp only at hSw); go_simp <;> with_reducible rfl)
  simp only [Act.put, List.setIfInBounds_toArray, List.set_cons_zero, List.set_cons_succ]
  refine' wpAnyH_take (i := 9) (oi := { dst := some 3, op := Go.Op.assign (Go.Operand.tmp 47), type := 9, pos := "ref.go:73", after := #[{ on := 7, ground := Go.Ground.data }, { on := 8, ground := Go.Ground.chain }, { on := 0, ground := Go.Ground.phase }, { on := 1, ground := Go.Ground.phase }, { on := 2, ground := Go.Ground.phase }, { on := 3, ground := Go.Ground.phase }, { on := 4, ground := Go.Ground.phase }, { on := 5, ground := Go.Ground.phase }, { on := 6, ground := Go.Ground.phase }, { on := 7, ground := Go.Ground.phase }, { on := 8, ground := Go.Ground.phase }], guard := none }) (v := _) rfl (by kernel_rfl) (by kernel_rfl) (by kernel_rfl) (fun _ _ _ h => h) (Or.inl ⟨by rfl, ?hy32⟩) (by assumption) ?hr32
  case hy32 => (intro _ hSw; (try dsimp only at hSw); go_simp <;> with_reducible rfl)
  simp only [Act.put, List.setIfInBounds_toArray, List.set_cons_zero, List.set_cons_succ]
  refine wpAnyH_done (by kernel_rfl) ?_ _
  go_wp2
  go_ret2
  exact ⟨rfl, below_on HB.out hHeld⟩
theorem rvalue (m : Ms) (hi : m.In) (hm : may m = true) (w : World) :
    Calls Tryd.prog 22 #[mv m] w fun e w' => e = .returned (.tuple #[.int .u8 (ty m : Int), .string (val m)]) ∧ Below w.heap.size w w' := by
  have hk := may_k hm
  have h' : m.k = 1 ∨ m.k = 2 ∨ m.k = 3 ∨ m.k = 4 ∨ m.k = 5 ∨ m.k = 6 ∨ m.k = 7 ∨ m.k = 8 := by omega
  obtain ⟨-, hn⟩ := may_of hm
  have hb : m.k ≠ 5 → m.k ≠ 8 → m.b = no := fun h5 h8 => by
    have := congrArg Ms.b hn
    rw [this]; exact if_neg (fun h => h.elim h5 h8)
  rcases h' with h | h | h | h | h | h | h | h
  · have e1 : ty m = 32 := by unfold ty; rw [h]; rfl
    have e2 : val m = Pn.putS m.p := if_pos h
    rw [e1, e2]; exact rvalue_1 m h _ _ (fun w => Pn.rput m.p hi.p w) w
  · have e1 : ty m = 56 := by unfold ty; rw [h]; rfl
    have e2 : val m = Msc.putS m.s := by unfold val; rw [h]; rfl
    rw [e1, e2]; exact rvalue_2 m h _ _ (fun w => Msc.rput m.s hi.s w) w
  · have e1 : ty m = tyN 3 := by unfold ty; rw [h]; rfl
    have e2 : val m = m.b := by rw [hb (by omega) (by omega)]; unfold val; rw [h]; rfl
    rw [e1, e2]; exact rvalue_3 m h w
  · have e1 : ty m = tyN 4 := by unfold ty; rw [h]; rfl
    have e2 : val m = m.b := by rw [hb (by omega) (by omega)]; unfold val; rw [h]; rfl
    rw [e1, e2]; exact rvalue_4 m h w
  · have e1 : ty m = tyN 5 := by unfold ty; rw [h]; rfl
    have e2 : val m = m.b := by unfold val; rw [h]; rfl
    rw [e1, e2]; exact rvalue_5 m h w
  · have e1 : ty m = tyN 6 := by unfold ty; rw [h]; rfl
    have e2 : val m = m.b := by rw [hb (by omega) (by omega)]; unfold val; rw [h]; rfl
    rw [e1, e2]; exact rvalue_6 m h w
  · have e1 : ty m = 4 := by unfold ty; rw [h]; rfl
    have e2 : val m = one m.t := by unfold val; rw [h]; rfl
    rw [e1, e2]; exact rvalue_7 m h w
  · have e1 : ty m = m.t := if_pos h
    have e2 : val m = m.b := by unfold val; rw [h]; rfl
    rw [e1, e2]; exact rvalue_8 m h w
theorem rput_yes (m : Ms) (V S : ByteArray) (t E : Nat) (CM : ∀ w, Calls Tryd.prog 12 #[mv m] w fun e w' => e = .returned (.bool true) ∧ Below w.heap.size w w')
    (CV : ∀ w, Calls Tryd.prog 22 #[mv m] w fun e w' => e = .returned (.tuple #[.int .u8 (t : Int), .string V]) ∧ Below w.heap.size w w')
    (CP : ∀ w, Calls Tryd.prog 23 #[.int .u8 (t : Int), .bool m.c, .string V] w fun e w' => e = .returned (.tuple #[.string S, .int .i64 (E : Int)]) ∧ Below w.heap.size w w') (w : World) :
    Calls Tryd.prog 9 #[mv m] w fun e w' => e = .returned (.tuple #[.string S, .int .i64 (E : Int)]) ∧ Below w.heap.size w w' := by
  have CMh := Lib.hid CM
  have CVh := Lib.hid CV
  have CPh := Lib.hid CP
  clear CM CV CP
  go_enter Tryd.func9, Tryd.ntmps9
  go_wp2_with (first
    | ((with_reducible refine bxm (m := m) ?hx ?_); (case hx => rfl); intro b1 w1 h1 F1; have HM := Lib.hid h1; have HB := Lib.hid F1.below; clear h1 F1)
    | ((with_reducible refine ldm isR HM.out ?hx ?_); (case hx => rfl))
    | (go_at_call 12; ((with_reducible refine (CMh.out _).mono ?_); rintro e w2 ⟨rfl, hb⟩; replace HM := Lib.hid (stays HM.out hb); replace HB := Lib.hid (below_on HB.out hb); clear hb))
    | (go_at_call 22; ((with_reducible refine (CVh.out _).mono ?_); rintro e w3 ⟨rfl, hb⟩; replace HM := Lib.hid (stays HM.out hb); replace HB := Lib.hid (below_on HB.out hb); clear hb; obtain ⟨c0, c1, c18, c19⟩ := flds HM.out))
    | (go_at_call 23; ((with_reducible refine (CPh.out _).mono ?_); rintro e w4 ⟨rfl, hb⟩; replace HB := Lib.hid (below_on HB.out hb); clear hb)))
  go_ret2
  exact ⟨rfl, HB.out⟩
theorem rput_no (m : Ms) (CM : ∀ w, Calls Tryd.prog 12 #[mv m] w fun e w' => e = .returned (.bool false) ∧ Below w.heap.size w w') (w : World) :
    Calls Tryd.prog 9 #[mv m] w fun e w' => e = .returned (.tuple #[.string no, .int .i64 2]) ∧ Below w.heap.size w w' := by
  have CMh := Lib.hid CM
  clear CM
  go_enter Tryd.func9, Tryd.ntmps9
  go_wp2_with (first
    | ((with_reducible refine bxm (m := m) ?hx ?_); (case hx => rfl); intro b1 w1 h1 F1; have HM := Lib.hid h1; have HB := Lib.hid F1.below; clear h1 F1)
    | ((with_reducible refine ldm isR HM.out ?hx ?_); (case hx => rfl))
    | (go_at_call 12; ((with_reducible refine (CMh.out _).mono ?_); rintro e w2 ⟨rfl, hb⟩; replace HM := Lib.hid (stays HM.out hb); replace HB := Lib.hid (below_on HB.out hb); clear hb)))
  go_ret2
  exact ⟨rfl, HB.out⟩
theorem rput (m : Ms) (hi : m.In) (hb : m.b.size ≤ 281474976710656) (w : World) :
    Calls Tryd.prog 9 #[mv m] w fun e w' => e = .returned (.tuple #[.string (putS m), .int .i64 (putE m : Int)]) ∧ Below w.heap.size w w' := by
  have CM := fun w => rmay m hi w
  cases hm : may m
  · rw [hm] at CM
    have e1 : putS m = no := by unfold putS; rw [hm]; rfl
    have e2 : putE m = 2 := by unfold putE; rw [hm]; rfl
    rw [e1, e2]
    exact rput_no m CM w
  · rw [hm] at CM
    have e1 : putS m = Tlv.putS (ty m) m.c (val m) := by unfold putS; rw [hm]; rfl
    have e2 : putE m = Tlv.putE (ty m) (val m) := by unfold putE; rw [hm]; rfl
    have ht' := ty_le hm
    have hv := val_le m 281474976710656 (by decide) hb
    rw [e1, e2]
    exact rput_yes m _ _ _ _ CM (fun w => rvalue m hi hm w) (fun w => Tlv.rput _ (by omega) _ _ (by omega) w) w

theorem roctet_true (m : Ms) (hc : m.c = true) (V : ByteArray) (t : Nat) (ht : t ≤ 63) (CM : ∀ w, Calls Tryd.prog 12 #[mv m] w fun e w' => e = .returned (.bool true) ∧ Below w.heap.size w w')
    (CV : ∀ w, Calls Tryd.prog 22 #[mv m] w fun e w' => e = .returned (.tuple #[.int .u8 (t : Int), .string V]) ∧ Below w.heap.size w w') (w : World) :
    Calls Tryd.prog 14 #[mv m] w fun e w' => e = .returned (.int .u8 ((4 * t + 3 : Nat) : Int)) ∧ Below w.heap.size w w' := by
  have CMh := Lib.hid CM
  have CVh := Lib.hid CV
  clear CM CV
  go_enter Tryd.func14, Tryd.ntmps14
  go_wp2_with (first
    | ((with_reducible refine bxm (m := m) ?hx ?_); (case hx => rfl); intro b1 w1 h1 F1; have HM := Lib.hid h1; have HB := Lib.hid F1.below; clear h1 F1)
    | ((with_reducible refine ldm isR HM.out ?hx ?_); (case hx => rfl))
    | (go_at_call 12; ((with_reducible refine (CMh.out _).mono ?_); rintro e w2 ⟨rfl, hb⟩; replace HM := Lib.hid (stays HM.out hb); replace HB := Lib.hid (below_on HB.out hb); clear hb))
    | (go_at_call 22; ((with_reducible refine (CVh.out _).mono ?_); rintro e w3 ⟨rfl, hb⟩; replace HM := Lib.hid (stays HM.out hb); replace HB := Lib.hid (below_on HB.out hb); clear hb; obtain ⟨c0, c1, c18, c19⟩ := flds HM.out)))
  go_ret
  exact ⟨ret_int (by simp <;> omega), HB.out⟩
theorem roctet_false (m : Ms) (hc : m.c = false) (V : ByteArray) (t : Nat) (ht : t ≤ 63) (CM : ∀ w, Calls Tryd.prog 12 #[mv m] w fun e w' => e = .returned (.bool true) ∧ Below w.heap.size w w')
    (CV : ∀ w, Calls Tryd.prog 22 #[mv m] w fun e w' => e = .returned (.tuple #[.int .u8 (t : Int), .string V]) ∧ Below w.heap.size w w') (w : World) :
    Calls Tryd.prog 14 #[mv m] w fun e w' => e = .returned (.int .u8 ((4 * t + 1 : Nat) : Int)) ∧ Below w.heap.size w w' := by
  have CMh := Lib.hid CM
  have CVh := Lib.hid CV
  clear CM CV
  go_enter Tryd.func14, Tryd.ntmps14
  go_wp2_with (first
    | ((with_reducible refine bxm (m := m) ?hx ?_); (case hx => rfl); intro b1 w1 h1 F1; have HM := Lib.hid h1; have HB := Lib.hid F1.below; clear h1 F1)
    | ((with_reducible refine ldm isR HM.out ?hx ?_); (case hx => rfl))
    | (go_at_call 12; ((with_reducible refine (CMh.out _).mono ?_); rintro e w2 ⟨rfl, hb⟩; replace HM := Lib.hid (stays HM.out hb); replace HB := Lib.hid (below_on HB.out hb); clear hb))
    | (go_at_call 22; ((with_reducible refine (CVh.out _).mono ?_); rintro e w3 ⟨rfl, hb⟩; replace HM := Lib.hid (stays HM.out hb); replace HB := Lib.hid (below_on HB.out hb); clear hb; obtain ⟨c0, c1, c18, c19⟩ := flds HM.out)))
  go_ret
  exact ⟨ret_int (by simp <;> omega), HB.out⟩
theorem roctet_no (m : Ms) (CM : ∀ w, Calls Tryd.prog 12 #[mv m] w fun e w' => e = .returned (.bool false) ∧ Below w.heap.size w w') (w : World) :
    Calls Tryd.prog 14 #[mv m] w fun e w' => e = .returned (.int .u8 0) ∧ Below w.heap.size w w' := by
  have CMh := Lib.hid CM
  clear CM
  go_enter Tryd.func14, Tryd.ntmps14
  go_wp2_with (first
    | ((with_reducible refine bxm (m := m) ?hx ?_); (case hx => rfl); intro b1 w1 h1 F1; have HM := Lib.hid h1; have HB := Lib.hid F1.below; clear h1 F1)
    | ((with_reducible refine ldm isR HM.out ?hx ?_); (case hx => rfl))
    | (go_at_call 12; ((with_reducible refine (CMh.out _).mono ?_); rintro e w2 ⟨rfl, hb⟩; replace HM := Lib.hid (stays HM.out hb); replace HB := Lib.hid (below_on HB.out hb); clear hb)))
  go_ret
  exact ⟨rfl, HB.out⟩
theorem roctet (m : Ms) (hi : m.In) (w : World) :
    Calls Tryd.prog 14 #[mv m] w fun e w' => e = .returned (.int .u8 (oct m : Int)) ∧ Below w.heap.size w w' := by
  have CM := fun w => rmay m hi w
  cases hm : may m
  · rw [hm] at CM
    have e1 : oct m = 0 := by unfold oct; rw [hm]; rfl
    rw [e1]
    exact roctet_no m CM w
  · rw [hm] at CM
    have ht' := ty_le hm
    have CV := fun w => rvalue m hi hm w
    cases hc : m.c
    · have e1 : oct m = 4 * ty m + 1 := by unfold oct; rw [hm, hc]; show Ea.addr _ _ = _; rw [Ea.addr, if_neg (by omega)]; rfl
      rw [e1]
      exact roctet_false m hc _ _ ht' CM CV w
    · have e1 : oct m = 4 * ty m + 3 := by unfold oct; rw [hm, hc]; show Ea.addr _ _ = _; rw [Ea.addr, if_neg (by omega)]; rfl
      rw [e1]
      exact roctet_true m hc _ _ ht' CM CV w
end Go.Proofs.YtffahjlboakakaaDoor.Msgs

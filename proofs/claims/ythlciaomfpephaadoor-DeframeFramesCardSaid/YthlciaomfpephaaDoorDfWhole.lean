/-
  The method whole of a deframer. Conditions: what it holds lies where it says; what Decode answers.
  The method address of a deframer. Conditions: what it holds lies where it says, and is one of those that a deframer comes to.
  The method written of a deframer. Conditions: what it holds lies where it says, and is one of those that a deframer comes to; what Decode answers.
  The method length of a deframer. Conditions: what it holds lies where it says, and is one of those that a deframer comes to.
-/
import Derived.Test.YthlciaomfpephaaDoorDfMem
import Derived.Deep.RegionHeld
namespace Go.Proofs.YthlciaomfpephaaDoor.Df
open Go.RowKit Go.Proofs.YthlciaomfpephaaDoor.Base Go.Proofs.YthlciaomfpephaaDoor.Ea Go.Proofs.YthlciaomfpephaaDoor.Field Go.Proofs.YthlciaomfpephaaDoor.Basic Go.Proofs.YthlciaomfpephaaDoor.Adv
theorem ne_u8 {a b : UInt8} (h : a ≠ b) : ((a.toNat : Int) != (b.toNat : Int)) = true := by
  rw [bne_iff_ne]
  intro e
  exact h (UInt8.toNat_inj.1 (by omega))
set_option maxHeartbeats 1000000 in
theorem fwhole_no (w : World) (D : Nat) (c : Cf) (q : St) (v : Value) (b : UInt8) (h : DfAt w D c q v) (hb : q.bad ≤ 1000000) (hn : b ≠ 249) :
    Calls Tryd.prog 62 #[ptr D, .int .u8 (b.toNat : Int)] w fun e w' => e = .returned (.tuple #[noFr, .bool false]) ∧ Next D c w v (spoil c q b) w' := by
  have H := Lib.hid h
  have HB := Lib.hid hb
  have e : ((b.toNat : Int) != 249) = true := ne_u8 hn
  clear h hb hn
  go_enter Tryd.func62, Tryd.ntmps62
  go_wp2_with (first
    | (go_at_call 47; ((with_reducible refine (fspoil _ D c q v b (H.out.alloc _) HB.out).mono ?_); rintro e w1 ⟨rfl, hn⟩; have HN := Lib.hid hn; clear hn; obtain ⟨⟨k0, k1, k2, k3, k4, k5, k6⟩, kf⟩ := no_cells (HN.out.fresh H.out rfl))))
  exact bodyPost_ret (v := .tuple #[noFr, .bool false]) (by simp [results, Tryd.results62, go_sem, k0, k1, k2, k3, k4, k5, k6]) rfl ⟨rfl, HN.out.ret H.out rfl _ _ _ _ _ _ _⟩
theorem DfAt.drew {w : World} {D : Nat} {c : Cf} {q : St} {v : Value} (h : DfAt w D c q v) : DfAt w.drew D c q v := h.below (Below.refl _ _).drew
/-- What Decode answers of octets. -/
def DecB (s : ByteArray) (ini : Bool) (n1 : Int) (g : Fr) (r : Nat) : Prop := ∀ w, Tabs w → Calls Tryd.prog 64 #[.string s, .bool ini, .int .i64 n1] w fun e w' => e = .returned (.tuple #[fv g, .int .i64 (r : Int)]) ∧ Below w.heap.size w w'
theorem at_DecB {s : ByteArray} {ini : Bool} {n1 : Int} {g : Fr} {r : Nat} (h : DecB s ini n1 g r) (w : World) (ht : Tabs w) : Calls Tryd.prog 64 #[.string s, .bool ini, .int .i64 n1] w fun e w' => e = .returned (.tuple #[fv g, .int .i64 (r : Int)]) ∧ Below w.heap.size w w' := h w ht
theorem Next.two {D : Nat} {c : Cf} {w w' : World} {v : Value} {q : St} (h : Next D c w v q w') : w'.cell? ⟨D, 1, none⟩ = some (.bool c.ini) ∧ w'.cell? ⟨D, 2, none⟩ = some (.int .i64 (c.room : Int)) := by
  obtain ⟨v', h, _, _⟩ := h
  exact ⟨h.cells.2.1, h.cells.2.2.1⟩
theorem two_set {w : World} {D F : Nat} {a b : Value} (hn : ¬ D = F) (h1 : w.cell? ⟨D, 1, none⟩ = some a) (h2 : w.cell? ⟨D, 2, none⟩ = some b) (v0 v1 v2 v3 v4 v5 v6 : Value) :
    (((((((w.setCell ⟨F, 0, none⟩ v0).setCell ⟨F, 1, none⟩ v1).setCell ⟨F, 2, none⟩ v2).setCell ⟨F, 3, none⟩ v3).setCell ⟨F, 4, none⟩ v4).setCell ⟨F, 5, none⟩ v5).setCell ⟨F, 6, none⟩ v6).cell? ⟨D, 1, none⟩ = some a ∧ (((((((w.setCell ⟨F, 0, none⟩ v0).setCell ⟨F, 1, none⟩ v1).setCell ⟨F, 2, none⟩ v2).setCell ⟨F, 3, none⟩ v3).setCell ⟨F, 4, none⟩ v4).setCell ⟨F, 5, none⟩ v5).setCell ⟨F, 6, none⟩ v6).cell? ⟨D, 2, none⟩ = some b := by
  have e : (((((((w.setCell ⟨F, 0, none⟩ v0).setCell ⟨F, 1, none⟩ v1).setCell ⟨F, 2, none⟩ v2).setCell ⟨F, 3, none⟩ v3).setCell ⟨F, 4, none⟩ v4).setCell ⟨F, 5, none⟩ v5).setCell ⟨F, 6, none⟩ v6).heap[D]? = w.heap[D]? := by
    rw [Below.heap_setCell _ _ _ _ hn, Below.heap_setCell _ _ _ _ hn, Below.heap_setCell _ _ _ _ hn, Below.heap_setCell _ _ _ _ hn, Below.heap_setCell _ _ _ _ hn, Below.heap_setCell _ _ _ _ hn, Below.heap_setCell _ _ _ _ hn]
  exact ⟨(World.cell?_of_block (a := ⟨D, 1, none⟩) e).trans h1, (World.cell?_of_block (a := ⟨D, 2, none⟩) e).trans h2⟩
/-- What a call leaves, if ahead of its work only blocks were made. -/
theorem Next.back {D : Nat} {c : Cf} {w a b : World} {v : Value} {q q0 : St} {o : Obj} (_h : DfAt w D c q0 v) (hb : Below (w.alloc o).drew.heap.size (w.alloc o).drew a) (h : Next D c a v q b) : Next D c (w.alloc o) v q b :=
  Next.on (Kp.of (below_on' (Below.refl _ _).drew hb)) (lies_refl _ _) h
set_option maxHeartbeats 1000000 in
set_option maxRecDepth 100000 in
theorem fwhole_yes (w : World) (D : Nat) (c : Cf) (q : St) (v : Value) (h : DfAt w D c q v) (hb : q.bad ≤ 1000000) (ht : Tabs w) (g : Fr) (hd : DecB ⟨q.got.toArray⟩ c.ini c.room g 0) :
    Calls Tryd.prog 62 #[ptr D, .int .u8 249] w fun e w' => e = .returned (.tuple #[fv g, .bool true]) ∧ Next D c w v (begin c q) w' := by
  have H := Lib.hid h
  have HB := Lib.hid hb
  have HT := Lib.hid ht
  have HD := Lib.hid hd
  obtain ⟨g0, g1, g2, g3, g4, g5, g6⟩ := (H.out.alloc noObj).cells
  have hlt := h.lt
  have hn1 : ¬ D = w.heap.size := by omega
  have hn2 : ¬ w.heap.size = D := by omega
  have hcv : (convert 42 9 v).run Tryd.prog (w.alloc noObj).drew = .ok (.string ⟨q.got.toArray⟩) (w.alloc noObj).drew := (H.out.alloc noObj).drew.own.conv
  clear h hb ht hd
  go_enter Tryd.func62, Tryd.ntmps62
  go_wp2
  refine wp_region_held_drew (S := fun w' => w'.cell? ⟨D, 1, none⟩ = some (.bool c.ini) ∧ w'.cell? ⟨D, 2, none⟩ = some (.int .i64 (c.room : Int))) (by kernel_rfl) ⟨g1, g2⟩ (fun hHeld => ?_)
  refine' wpAnyH_take (i := 0) (oi := { dst := some 13, op := Go.Op.move (Go.Operand.tmp 0), type := 27, pos := "deframe.go:136", after := #[], guard := none }) (v := _) rfl (by kernel_rfl) (by kernel_rfl) (by kernel_rfl) (fun _ _ _ h => h) (Or.inl ⟨by rfl, ?hy1⟩) (by assumption) ?hr1
  case hy1 => (intro _ hSw; (try dsimp only at hSw); go_simp <;> with_reducible rfl)
  simp only [Act.put, List.setIfInBounds_toArray, List.set_cons_zero, List.set_cons_succ]
  refine' wpAnyH_take (i := 1) (oi := { dst := some 14, op := Go.Op.move (Go.Operand.tmp 0), type := 27, pos := "deframe.go:136", after := #[], guard := none }) (v := _) rfl (by kernel_rfl) (by kernel_rfl) (by kernel_rfl) (fun _ _ _ h => h) (Or.inl ⟨by rfl, ?hy2⟩) (by assumption) ?hr2
  case hy2 => (intro _ hSw; (try dsimp only at hSw); go_simp <;> with_reducible rfl)
  simp only [Act.put, List.setIfInBounds_toArray, List.set_cons_zero, List.set_cons_succ]
  refine' wpAnyH_take (i := 2) (oi := { dst := some 15, op := Go.Op.nilCheck (Go.Operand.tmp 14), type := 0, pos := "deframe.go:136", after := #[{ on := 1, ground := Go.Ground.data }], guard := none }) (v := _) rfl (by kernel_rfl) (by kernel_rfl) (by kernel_rfl) (fun _ _ _ h => h) (Or.inl ⟨by rfl, ?hy3⟩) (by assumption) ?hr3
  case hy3 => (intro _ hSw; (try dsimp only at hSw); go_simp <;> with_reducible rfl)
  simp only [Act.put, List.setIfInBounds_toArray, List.set_cons_zero, List.set_cons_succ]
  refine' wpAnyH_take (i := 3) (oi := { dst := some 16, op := Go.Op.fieldAddr 44 (Go.Operand.tmp 15) 4, type := 0, pos := "deframe.go:136", after := #[{ on := 2, ground := Go.Ground.data }], guard := none }) (v := _) rfl (by kernel_rfl) (by kernel_rfl) (by kernel_rfl) (fun _ _ _ h => h) (Or.inl ⟨by rfl, ?hy4⟩) (by assumption) ?hr4
  case hy4 => (intro _ hSw; (try dsimp only at hSw); go_simp <;> with_reducible rfl)
  simp only [Act.put, List.setIfInBounds_toArray, List.set_cons_zero, List.set_cons_succ]
  refine' wpAnyH_take (i := 6) (oi := { dst := some 19, op := Go.Op.move (Go.Operand.tmp 0), type := 27, pos := "deframe.go:136", after := #[], guard := none }) (v := _) rfl (by kernel_rfl) (by kernel_rfl) (by kernel_rfl) (fun _ _ _ h => h) (Or.inl ⟨by rfl, ?hy5⟩) (by assumption) ?hr5
  case hy5 => (intro _ hSw; (try dsimp only at hSw); go_simp <;> with_reducible rfl)
  simp only [Act.put, List.setIfInBounds_toArray, List.set_cons_zero, List.set_cons_succ]
  refine' wpAnyH_take (i := 7) (oi := { dst := some 20, op := Go.Op.nilCheck (Go.Operand.tmp 19), type := 0, pos := "deframe.go:136", after := #[{ on := 6, ground := Go.Ground.data }], guard := none }) (v := _) rfl (by kernel_rfl) (by kernel_rfl) (by kernel_rfl) (fun _ _ _ h => h) (Or.inl ⟨by rfl, ?hy6⟩) (by assumption) ?hr6
  case hy6 => (intro _ hSw; (try dsimp only at hSw); go_simp <;> with_reducible rfl)
  simp only [Act.put, List.setIfInBounds_toArray, List.set_cons_zero, List.set_cons_succ]
  refine' wpAnyH_take (i := 8) (oi := { dst := some 21, op := Go.Op.fieldAddr 44 (Go.Operand.tmp 20) 1, type := 0, pos := "deframe.go:136", after := #[{ on := 7, ground := Go.Ground.data }], guard := none }) (v := _) rfl (by kernel_rfl) (by kernel_rfl) (by kernel_rfl) (fun _ _ _ h => h) (Or.inl ⟨by rfl, ?hy7⟩) (by assumption) ?hr7
  case hy7 => (intro _ hSw; (try dsimp only at hSw); go_simp <;> with_reducible rfl)
  simp only [Act.put, List.setIfInBounds_toArray, List.set_cons_zero, List.set_cons_succ]
  refine' wpAnyH_take (i := 9) (oi := { dst := some 22, op := Go.Op.load 4 (Go.Operand.tmp 21), type := 4, pos := "deframe.go:136", after := #[{ on := 8, ground := Go.Ground.data }], guard := none }) (v := _) rfl (by kernel_rfl) (by kernel_rfl) (by kernel_rfl) (fun _ _ _ h => h) (Or.inl ⟨by rfl, ?hy8⟩) (by assumption) ?hr8
  case hy8 => (intro _ hSw; (try dsimp only at hSw); go_simp <;> with_reducible rfl)
  simp only [Act.put, List.setIfInBounds_toArray, List.set_cons_zero, List.set_cons_succ]
  refine' wpAnyH_take (i := 10) (oi := { dst := some 23, op := Go.Op.move (Go.Operand.tmp 0), type := 27, pos := "deframe.go:136", after := #[], guard := none }) (v := _) rfl (by kernel_rfl) (by kernel_rfl) (by kernel_rfl) (fun _ _ _ h => h) (Or.inl ⟨by rfl, ?hy9⟩) (by assumption) ?hr9
  case hy9 => (intro _ hSw; (try dsimp only at hSw); go_simp <;> with_reducible rfl)
  simp only [Act.put, List.setIfInBounds_toArray, List.set_cons_zero, List.set_cons_succ]
  refine' wpAnyH_take (i := 11) (oi := { dst := some 24, op := Go.Op.nilCheck (Go.Operand.tmp 23), type := 0, pos := "deframe.go:136", after := #[{ on := 10, ground := Go.Ground.data }], guard := none }) (v := _) rfl (by kernel_rfl) (by kernel_rfl) (by kernel_rfl) (fun _ _ _ h => h) (Or.inl ⟨by rfl, ?hy10⟩) (by assumption) ?hr10
  case hy10 => (intro _ hSw; (try dsimp only at hSw); go_simp <;> with_reducible rfl)
  simp only [Act.put, List.setIfInBounds_toArray, List.set_cons_zero, List.set_cons_succ]
  refine' wpAnyH_take (i := 12) (oi := { dst := some 25, op := Go.Op.fieldAddr 44 (Go.Operand.tmp 24) 2, type := 0, pos := "deframe.go:136", after := #[{ on := 11, ground := Go.Ground.data }], guard := none }) (v := _) rfl (by kernel_rfl) (by kernel_rfl) (by kernel_rfl) (fun _ _ _ h => h) (Or.inl ⟨by rfl, ?hy11⟩) (by assumption) ?hr11
  case hy11 => (intro _ hSw; (try dsimp only at hSw); go_simp <;> with_reducible rfl)
  simp only [Act.put, List.setIfInBounds_toArray, List.set_cons_zero, List.set_cons_succ]
  refine' wpAnyH_take (i := 13) (oi := { dst := some 26, op := Go.Op.load 3 (Go.Operand.tmp 25), type := 3, pos := "deframe.go:136", after := #[{ on := 12, ground := Go.Ground.data }], guard := none }) (v := _) rfl (by kernel_rfl) (by kernel_rfl) (by kernel_rfl) (fun _ _ _ h => h) (Or.inl ⟨by rfl, ?hy12⟩) (by assumption) ?hr12
  case hy12 => (intro _ hSw; (try dsimp only at hSw); go_simp <;> with_reducible rfl)
  simp only [Act.put, List.setIfInBounds_toArray, List.set_cons_zero, List.set_cons_succ]
  refine wpAnyH_ready (rs := [4]) (by kernel_rfl) (by simp) ?_
  refine AllReadyH.cons (o := { dst := some 17, op := Go.Op.load 42 (Go.Operand.tmp 16), type := 42, pos := "deframe.go:136", after := #[{ on := 3, ground := Go.Ground.data }], guard := none }) rfl (fun K hK => ?_) AllReadyH.nil
  go_simp
  refine hK.out _ _ (by assumption) (fun hHeld => ?_)
  clear hK K
  (try simp only [Act.put, List.setIfInBounds_toArray, List.set_cons_zero, List.set_cons_succ])
  refine wpAnyH_ready (rs := [5]) (by kernel_rfl) (by simp) ?_
  refine AllReadyH.cons (o := { dst := some 18, op := Go.Op.convert 42 9 (Go.Operand.tmp 17), type := 9, pos := "deframe.go:136", after := #[{ on := 4, ground := Go.Ground.data }], guard := none }) rfl (fun K hK => ?_) AllReadyH.nil
  go_simp
  refine hK.out _ _ (by assumption) (fun hHeld => ?_)
  clear hK K
  (try simp only [Act.put, List.setIfInBounds_toArray, List.set_cons_zero, List.set_cons_succ])
  refine wpAnyH_ready (rs := [14]) (by kernel_rfl) (by simp) ?_
  refine AllReadyH.cons (o := { dst := some 27, op := Go.Op.call { callee := Go.Callee.value (Go.Operand.func 64), args := #[Go.Operand.tmp 18, Go.Operand.tmp 22, Go.Operand.tmp 26], argTypes := #[9, 4, 3] }, type := 74, pos := "deframe.go:136", after := #[{ on := 5, ground := Go.Ground.data }, { on := 9, ground := Go.Ground.data }, { on := 13, ground := Go.Ground.data }], guard := none }) rfl (fun K hK => ?_) AllReadyH.nil
  go_simp
  (with_reducible refine (at_DecB HD.out _ ?_).mono ?_)
  · exact tabs_below HT.out (((Below.refl _ _).alloc (Nat.le_refl _) noObj).drew)
  rintro e w1 ⟨rfl, hb⟩
  have HW := Lib.hid hb
  clear hb
  have y1 := cell_below (cell_of (H.out.alloc noObj).drew.blk (i := 1) rfl) HW.out
  have y2 := cell_below (cell_of (H.out.alloc noObj).drew.blk (i := 2) rfl) HW.out
  go_wp2_with fail
  refine hK.out _ _ ⟨y1, y2⟩ (fun hHeld => ?_)
  clear hK K
  (try simp only [Act.put, List.setIfInBounds_toArray, List.set_cons_zero, List.set_cons_succ])
  refine' wpAnyH_take (i := 15) (oi := { dst := some 28, op := Go.Op.extract (Go.Operand.tmp 27) 0, type := 30, pos := "deframe.go:136", after := #[{ on := 14, ground := Go.Ground.data }], guard := none }) (v := _) rfl (by kernel_rfl) (by kernel_rfl) (by kernel_rfl) (fun _ _ _ h => h) (Or.inl ⟨by rfl, ?hy13⟩) (by assumption) ?hr13
  case hy13 => (intro _ hSw; (try dsimp only at hSw); go_simp <;> with_reducible rfl)
  simp only [Act.put, List.setIfInBounds_toArray, List.set_cons_zero, List.set_cons_succ]
  refine' wpAnyH_take (i := 16) (oi := { dst := some 29, op := Go.Op.extract (Go.Operand.tmp 27) 1, type := 45, pos := "deframe.go:136", after := #[{ on := 14, ground := Go.Ground.data }], guard := none }) (v := _) rfl (by kernel_rfl) (by kernel_rfl) (by kernel_rfl) (fun _ _ _ h => h) (Or.inl ⟨by rfl, ?hy14⟩) (by assumption) ?hr14
  case hy14 => (intro _ hSw; (try dsimp only at hSw); go_simp <;> with_reducible rfl)
  simp only [Act.put, List.setIfInBounds_toArray, List.set_cons_zero, List.set_cons_succ]
  refine wpAnyH_ready (rs := [17]) (by kernel_rfl) (by simp) ?_
  refine AllReadyH.cons (o := { dst := some 30, op := Go.Op.call { callee := Go.Callee.value (Go.Operand.func 49), args := #[Go.Operand.tmp 13, Go.Operand.tmp 28, Go.Operand.tmp 29], argTypes := #[27, 30, 45] }, type := 38, pos := "deframe.go:136", after := #[{ on := 0, ground := Go.Ground.data }, { on := 15, ground := Go.Ground.data }, { on := 16, ground := Go.Ground.data }, { on := 14, ground := Go.Ground.chain }], guard := none }) rfl (fun K hK => ?_) AllReadyH.nil
  go_simp
  (with_reducible refine (fjudge_ok _ D c q v g ((H.out.alloc noObj).drew.below HW.out)).mono ?_)
  rintro e w2 ⟨rfl, hn⟩
  obtain ⟨z1, z2⟩ := Next.two hn
  have HN := Lib.hid (Next.back H.out HW.out hn)
  clear hn
  obtain ⟨⟨k0, k1, k2, k3, k4, k5, k6⟩, kf⟩ := no_cells (HN.out.fresh H.out rfl)
  go_wp2_with fail
  refine hK.out _ _ ⟨z1, z2⟩ (fun hHeld => ?_)
  clear hK K
  (try simp only [Act.put, List.setIfInBounds_toArray, List.set_cons_zero, List.set_cons_succ])
  refine' wpAnyH_take (i := 18) (oi := { dst := some 31, op := Go.Op.extract (Go.Operand.tmp 30) 0, type := 30, pos := "deframe.go:136", after := #[{ on := 17, ground := Go.Ground.data }], guard := none }) (v := _) rfl (by kernel_rfl) (by kernel_rfl) (by kernel_rfl) (fun _ _ _ h => h) (Or.inl ⟨by rfl, ?hy15⟩) (by assumption) ?hr15
  case hy15 => (intro _ hSw; (try dsimp only at hSw); go_simp <;> with_reducible rfl)
  simp only [Act.put, List.setIfInBounds_toArray, List.set_cons_zero, List.set_cons_succ]
  refine' wpAnyH_take (i := 19) (oi := { dst := some 32, op := Go.Op.extract (Go.Operand.tmp 30) 1, type := 4, pos := "deframe.go:136", after := #[{ on := 17, ground := Go.Ground.data }], guard := none }) (v := _) rfl (by kernel_rfl) (by kernel_rfl) (by kernel_rfl) (fun _ _ _ h => h) (Or.inl ⟨by rfl, ?hy16⟩) (by assumption) ?hr16
  case hy16 => (intro _ hSw; (try dsimp only at hSw); go_simp <;> with_reducible rfl)
  simp only [Act.put, List.setIfInBounds_toArray, List.set_cons_zero, List.set_cons_succ]
  refine wpAnyH_ready (rs := [20]) (by kernel_rfl) (by simp) ?_
  refine AllReadyH.cons (o := { dst := none, op := Go.Op.store 30 (Go.Operand.tmp 4) (Go.Operand.tmp 31), type := 0, pos := "deframe.go:136", after := #[{ on := 18, ground := Go.Ground.data }, { on := 17, ground := Go.Ground.chain }, { on := 0, ground := Go.Ground.phase }, { on := 1, ground := Go.Ground.phase }, { on := 2, ground := Go.Ground.phase }, { on := 3, ground := Go.Ground.phase }, { on := 4, ground := Go.Ground.phase }, { on := 5, ground := Go.Ground.phase }, { on := 6, ground := Go.Ground.phase }, { on := 7, ground := Go.Ground.phase }, { on := 8, ground := Go.Ground.phase }, { on := 9, ground := Go.Ground.phase }, { on := 10, ground := Go.Ground.phase }, { on := 11, ground := Go.Ground.phase }, { on := 12, ground := Go.Ground.phase }, { on := 13, ground := Go.Ground.phase }, { on := 14, ground := Go.Ground.phase }, { on := 15, ground := Go.Ground.phase }, { on := 16, ground := Go.Ground.phase }, { on := 17, ground := Go.Ground.phase }, { on := 18, ground := Go.Ground.phase }, { on := 19, ground := Go.Ground.phase }], guard := none }) rfl (fun K hK => ?_) AllReadyH.nil
  go_simp
  refine hK.out _ _ (two_set hn1 z1 z2 _ _ _ _ _ _ _) (fun hHeld => ?_)
  clear hK K
  (try simp only [Act.put, List.setIfInBounds_toArray, List.set_cons_zero, List.set_cons_succ])
  refine' wpAnyH_take (i := 21) (oi := { dst := some 5, op := Go.Op.assign (Go.Operand.tmp 32), type := 4, pos := "deframe.go:136", after := #[{ on := 19, ground := Go.Ground.data }, { on := 20, ground := Go.Ground.chain }, { on := 0, ground := Go.Ground.phase }, { on := 1, ground := Go.Ground.phase }, { on := 2, ground := Go.Ground.phase }, { on := 3, ground := Go.Ground.phase }, { on := 4, ground := Go.Ground.phase }, { on := 5, ground := Go.Ground.phase }, { on := 6, ground := Go.Ground.phase }, { on := 7, ground := Go.Ground.phase }, { on := 8, ground := Go.Ground.phase }, { on := 9, ground := Go.Ground.phase }, { on := 10, ground := Go.Ground.phase }, { on := 11, ground := Go.Ground.phase }, { on := 12, ground := Go.Ground.phase }, { on := 13, ground := Go.Ground.phase }, { on := 14, ground := Go.Ground.phase }, { on := 15, ground := Go.Ground.phase }, { on := 16, ground := Go.Ground.phase }, { on := 17, ground := Go.Ground.phase }, { on := 18, ground := Go.Ground.phase }, { on := 19, ground := Go.Ground.phase }, { on := 20, ground := Go.Ground.phase }], guard := none }) (v := _) rfl (by kernel_rfl) (by kernel_rfl) (by kernel_rfl) (fun _ _ _ h => h) (Or.inl ⟨by rfl, ?hy17⟩) (by assumption) ?hr17
  case hy17 => (intro _ hSw; (try dsimp only at hSw); go_simp <;> with_reducible rfl)
  simp only [Act.put, List.setIfInBounds_toArray, List.set_cons_zero, List.set_cons_succ]
  refine wpAnyH_done (by kernel_rfl) ?_ _
  clear hHeld
  go_wp2
  exact bodyPost_ret (v := .tuple #[fv g, .bool true]) (by simp [results, Tryd.results62, go_sem, k0, k1, k2, k3, k4, k5, k6]) rfl ⟨rfl, HN.out.ret H.out rfl _ _ _ _ _ _ _⟩
set_option maxHeartbeats 1000000 in
set_option maxRecDepth 100000 in
theorem fwhole_bad (w : World) (D : Nat) (c : Cf) (q : St) (v : Value) (h : DfAt w D c q v) (hb : q.bad ≤ 1000000) (ht : Tabs w) (g : Fr) (r : Nat) (hr : r ≠ 0) (hd : DecB ⟨q.got.toArray⟩ c.ini c.room g r) :
    Calls Tryd.prog 62 #[ptr D, .int .u8 249] w fun e w' => e = .returned (.tuple #[noFr, .bool false]) ∧ Next D c w v (spoil c q (flagB c)) w' := by
  have H := Lib.hid h
  have HB := Lib.hid hb
  have HT := Lib.hid ht
  have HD := Lib.hid hd
  have HR := Lib.hid hr
  obtain ⟨g0, g1, g2, g3, g4, g5, g6⟩ := (H.out.alloc noObj).cells
  have hlt := h.lt
  have hn1 : ¬ D = w.heap.size := by omega
  have hn2 : ¬ w.heap.size = D := by omega
  have hcv : (convert 42 9 v).run Tryd.prog (w.alloc noObj).drew = .ok (.string ⟨q.got.toArray⟩) (w.alloc noObj).drew := (H.out.alloc noObj).drew.own.conv
  clear h hb ht hd hr
  go_enter Tryd.func62, Tryd.ntmps62
  go_wp2
  refine wp_region_held_drew (S := fun w' => w'.cell? ⟨D, 1, none⟩ = some (.bool c.ini) ∧ w'.cell? ⟨D, 2, none⟩ = some (.int .i64 (c.room : Int))) (by kernel_rfl) ⟨g1, g2⟩ (fun hHeld => ?_)
  refine' wpAnyH_take (i := 0) (oi := { dst := some 13, op := Go.Op.move (Go.Operand.tmp 0), type := 27, pos := "deframe.go:136", after := #[], guard := none }) (v := _) rfl (by kernel_rfl) (by kernel_rfl) (by kernel_rfl) (fun _ _ _ h => h) (Or.inl ⟨by rfl, ?hy18⟩) (by assumption) ?hr18
  case hy18 => (intro _ hSw; (try dsimp only at hSw); go_simp <;> with_reducible rfl)
  simp only [Act.put, List.setIfInBounds_toArray, List.set_cons_zero, List.set_cons_succ]
  refine' wpAnyH_take (i := 1) (oi := { dst := some 14, op := Go.Op.move (Go.Operand.tmp 0), type := 27, pos := "deframe.go:136", after := #[], guard := none }) (v := _) rfl (by kernel_rfl) (by kernel_rfl) (by kernel_rfl) (fun _ _ _ h => h) (Or.inl ⟨by rfl, ?hy19⟩) (by assumption) ?hr19
  case hy19 => (intro _ hSw; (try dsimp only at hSw); go_simp <;> with_reducible rfl)
  simp only [Act.put, List.setIfInBounds_toArray, List.set_cons_zero, List.set_cons_succ]
  refine' wpAnyH_take (i := 2) (oi := { dst := some 15, op := Go.Op.nilCheck (Go.Operand.tmp 14), type := 0, pos := "deframe.go:136", after := #[{ on := 1, ground := Go.Ground.data }], guard := none }) (v := _) rfl (by kernel_rfl) (by kernel_rfl) (by kernel_rfl) (fun _ _ _ h => h) (Or.inl ⟨by rfl, ?hy20⟩) (by assumption) ?hr20
  case hy20 => (intro _ hSw; (try dsimp only at hSw); go_simp <;> with_reducible rfl)
  simp only [Act.put, List.setIfInBounds_toArray, List.set_cons_zero, List.set_cons_succ]
  refine' wpAnyH_take (i := 3) (oi := { dst := some 16, op := Go.Op.fieldAddr 44 (Go.Operand.tmp 15) 4, type := 0, pos := "deframe.go:136", after := #[{ on := 2, ground := Go.Ground.data }], guard := none }) (v := _) rfl (by kernel_rfl) (by kernel_rfl) (by kernel_rfl) (fun _ _ _ h => h) (Or.inl ⟨by rfl, ?hy21⟩) (by assumption) ?hr21
  case hy21 => (intro _ hSw; (try dsimp only at hSw); go_simp <;> with_reducible rfl)
  simp only [Act.put, List.setIfInBounds_toArray, List.set_cons_zero, List.set_cons_succ]
  refine' wpAnyH_take (i := 6) (oi := { dst := some 19, op := Go.Op.move (Go.Operand.tmp 0), type := 27, pos := "deframe.go:136", after := #[], guard := none }) (v := _) rfl (by kernel_rfl) (by kernel_rfl) (by kernel_rfl) (fun _ _ _ h => h) (Or.inl ⟨by rfl, ?hy22⟩) (by assumption) ?hr22
  case hy22 => (intro _ hSw; (try dsimp only at hSw); go_simp <;> with_reducible rfl)
  simp only [Act.put, List.setIfInBounds_toArray, List.set_cons_zero, List.set_cons_succ]
  refine' wpAnyH_take (i := 7) (oi := { dst := some 20, op := Go.Op.nilCheck (Go.Operand.tmp 19), type := 0, pos := "deframe.go:136", after := #[{ on := 6, ground := Go.Ground.data }], guard := none }) (v := _) rfl (by kernel_rfl) (by kernel_rfl) (by kernel_rfl) (fun _ _ _ h => h) (Or.inl ⟨by rfl, ?hy23⟩) (by assumption) ?hr23
  case hy23 => (intro _ hSw; (try dsimp only at hSw); go_simp <;> with_reducible rfl)
  simp only [Act.put, List.setIfInBounds_toArray, List.set_cons_zero, List.set_cons_succ]
  refine' wpAnyH_take (i := 8) (oi := { dst := some 21, op := Go.Op.fieldAddr 44 (Go.Operand.tmp 20) 1, type := 0, pos := "deframe.go:136", after := #[{ on := 7, ground := Go.Ground.data }], guard := none }) (v := _) rfl (by kernel_rfl) (by kernel_rfl) (by kernel_rfl) (fun _ _ _ h => h) (Or.inl ⟨by rfl, ?hy24⟩) (by assumption) ?hr24
  case hy24 => (intro _ hSw; (try dsimp only at hSw); go_simp <;> with_reducible rfl)
  simp only [Act.put, List.setIfInBounds_toArray, List.set_cons_zero, List.set_cons_succ]
  refine' wpAnyH_take (i := 9) (oi := { dst := some 22, op := Go.Op.load 4 (Go.Operand.tmp 21), type := 4, pos := "deframe.go:136", after := #[{ on := 8, ground := Go.Ground.data }], guard := none }) (v := _) rfl (by kernel_rfl) (by kernel_rfl) (by kernel_rfl) (fun _ _ _ h => h) (Or.inl ⟨by rfl, ?hy25⟩) (by assumption) ?hr25
  case hy25 => (intro _ hSw; (try dsimp only at hSw); go_simp <;> with_reducible rfl)
  simp only [Act.put, List.setIfInBounds_toArray, List.set_cons_zero, List.set_cons_succ]
  refine' wpAnyH_take (i := 10) (oi := { dst := some 23, op := Go.Op.move (Go.Operand.tmp 0), type := 27, pos := "deframe.go:136", after := #[], guard := none }) (v := _) rfl (by kernel_rfl) (by kernel_rfl) (by kernel_rfl) (fun _ _ _ h => h) (Or.inl ⟨by rfl, ?hy26⟩) (by assumption) ?hr26
  case hy26 => (intro _ hSw; (try dsimp only at hSw); go_simp <;> with_reducible rfl)
  simp only [Act.put, List.setIfInBounds_toArray, List.set_cons_zero, List.set_cons_succ]
  refine' wpAnyH_take (i := 11) (oi := { dst := some 24, op := Go.Op.nilCheck (Go.Operand.tmp 23), type := 0, pos := "deframe.go:136", after := #[{ on := 10, ground := Go.Ground.data }], guard := none }) (v := _) rfl (by kernel_rfl) (by kernel_rfl) (by kernel_rfl) (fun _ _ _ h => h) (Or.inl ⟨by rfl, ?hy27⟩) (by assumption) ?hr27
  case hy27 => (intro _ hSw; (try dsimp only at hSw); go_simp <;> with_reducible rfl)
  simp only [Act.put, List.setIfInBounds_toArray, List.set_cons_zero, List.set_cons_succ]
  refine' wpAnyH_take (i := 12) (oi := { dst := some 25, op := Go.Op.fieldAddr 44 (Go.Operand.tmp 24) 2, type := 0, pos := "deframe.go:136", after := #[{ on := 11, ground := Go.Ground.data }], guard := none }) (v := _) rfl (by kernel_rfl) (by kernel_rfl) (by kernel_rfl) (fun _ _ _ h => h) (Or.inl ⟨by rfl, ?hy28⟩) (by assumption) ?hr28
  case hy28 => (intro _ hSw; (try dsimp only at hSw); go_simp <;> with_reducible rfl)
  simp only [Act.put, List.setIfInBounds_toArray, List.set_cons_zero, List.set_cons_succ]
  refine' wpAnyH_take (i := 13) (oi := { dst := some 26, op := Go.Op.load 3 (Go.Operand.tmp 25), type := 3, pos := "deframe.go:136", after := #[{ on := 12, ground := Go.Ground.data }], guard := none }) (v := _) rfl (by kernel_rfl) (by kernel_rfl) (by kernel_rfl) (fun _ _ _ h => h) (Or.inl ⟨by rfl, ?hy29⟩) (by assumption) ?hr29
  case hy29 => (intro _ hSw; (try dsimp only at hSw); go_simp <;> with_reducible rfl)
  simp only [Act.put, List.setIfInBounds_toArray, List.set_cons_zero, List.set_cons_succ]
  refine wpAnyH_ready (rs := [4]) (by kernel_rfl) (by simp) ?_
  refine AllReadyH.cons (o := { dst := some 17, op := Go.Op.load 42 (Go.Operand.tmp 16), type := 42, pos := "deframe.go:136", after := #[{ on := 3, ground := Go.Ground.data }], guard := none }) rfl (fun K hK => ?_) AllReadyH.nil
  go_simp
  refine hK.out _ _ (by assumption) (fun hHeld => ?_)
  clear hK K
  (try simp only [Act.put, List.setIfInBounds_toArray, List.set_cons_zero, List.set_cons_succ])
  refine wpAnyH_ready (rs := [5]) (by kernel_rfl) (by simp) ?_
  refine AllReadyH.cons (o := { dst := some 18, op := Go.Op.convert 42 9 (Go.Operand.tmp 17), type := 9, pos := "deframe.go:136", after := #[{ on := 4, ground := Go.Ground.data }], guard := none }) rfl (fun K hK => ?_) AllReadyH.nil
  go_simp
  refine hK.out _ _ (by assumption) (fun hHeld => ?_)
  clear hK K
  (try simp only [Act.put, List.setIfInBounds_toArray, List.set_cons_zero, List.set_cons_succ])
  refine wpAnyH_ready (rs := [14]) (by kernel_rfl) (by simp) ?_
  refine AllReadyH.cons (o := { dst := some 27, op := Go.Op.call { callee := Go.Callee.value (Go.Operand.func 64), args := #[Go.Operand.tmp 18, Go.Operand.tmp 22, Go.Operand.tmp 26], argTypes := #[9, 4, 3] }, type := 74, pos := "deframe.go:136", after := #[{ on := 5, ground := Go.Ground.data }, { on := 9, ground := Go.Ground.data }, { on := 13, ground := Go.Ground.data }], guard := none }) rfl (fun K hK => ?_) AllReadyH.nil
  go_simp
  (with_reducible refine (at_DecB HD.out _ ?_).mono ?_)
  · exact tabs_below HT.out (((Below.refl _ _).alloc (Nat.le_refl _) noObj).drew)
  rintro e w1 ⟨rfl, hb⟩
  have HW := Lib.hid hb
  clear hb
  have y1 := cell_below (cell_of (H.out.alloc noObj).drew.blk (i := 1) rfl) HW.out
  have y2 := cell_below (cell_of (H.out.alloc noObj).drew.blk (i := 2) rfl) HW.out
  go_wp2_with fail
  refine hK.out _ _ ⟨y1, y2⟩ (fun hHeld => ?_)
  clear hK K
  (try simp only [Act.put, List.setIfInBounds_toArray, List.set_cons_zero, List.set_cons_succ])
  refine' wpAnyH_take (i := 15) (oi := { dst := some 28, op := Go.Op.extract (Go.Operand.tmp 27) 0, type := 30, pos := "deframe.go:136", after := #[{ on := 14, ground := Go.Ground.data }], guard := none }) (v := _) rfl (by kernel_rfl) (by kernel_rfl) (by kernel_rfl) (fun _ _ _ h => h) (Or.inl ⟨by rfl, ?hy30⟩) (by assumption) ?hr30
  case hy30 => (intro _ hSw; (try dsimp only at hSw); go_simp <;> with_reducible rfl)
  simp only [Act.put, List.setIfInBounds_toArray, List.set_cons_zero, List.set_cons_succ]
  refine' wpAnyH_take (i := 16) (oi := { dst := some 29, op := Go.Op.extract (Go.Operand.tmp 27) 1, type := 45, pos := "deframe.go:136", after := #[{ on := 14, ground := Go.Ground.data }], guard := none }) (v := _) rfl (by kernel_rfl) (by kernel_rfl) (by kernel_rfl) (fun _ _ _ h => h) (Or.inl ⟨by rfl, ?hy31⟩) (by assumption) ?hr31
  case hy31 => (intro _ hSw; (try dsimp only at hSw); go_simp <;> with_reducible rfl)
  simp only [Act.put, List.setIfInBounds_toArray, List.set_cons_zero, List.set_cons_succ]
  refine wpAnyH_ready (rs := [17]) (by kernel_rfl) (by simp) ?_
  refine AllReadyH.cons (o := { dst := some 30, op := Go.Op.call { callee := Go.Callee.value (Go.Operand.func 49), args := #[Go.Operand.tmp 13, Go.Operand.tmp 28, Go.Operand.tmp 29], argTypes := #[27, 30, 45] }, type := 38, pos := "deframe.go:136", after := #[{ on := 0, ground := Go.Ground.data }, { on := 15, ground := Go.Ground.data }, { on := 16, ground := Go.Ground.data }, { on := 14, ground := Go.Ground.chain }], guard := none }) rfl (fun K hK => ?_) AllReadyH.nil
  go_simp
  (with_reducible refine (fjudge_no _ D c q v g r ((H.out.alloc noObj).drew.below HW.out) HB.out HR.out).mono ?_)
  rintro e w2 ⟨rfl, hn⟩
  obtain ⟨z1, z2⟩ := Next.two hn
  have HN := Lib.hid (Next.back H.out HW.out hn)
  clear hn
  obtain ⟨⟨k0, k1, k2, k3, k4, k5, k6⟩, kf⟩ := no_cells (HN.out.fresh H.out rfl)
  go_wp2_with fail
  refine hK.out _ _ ⟨z1, z2⟩ (fun hHeld => ?_)
  clear hK K
  (try simp only [Act.put, List.setIfInBounds_toArray, List.set_cons_zero, List.set_cons_succ])
  refine' wpAnyH_take (i := 18) (oi := { dst := some 31, op := Go.Op.extract (Go.Operand.tmp 30) 0, type := 30, pos := "deframe.go:136", after := #[{ on := 17, ground := Go.Ground.data }], guard := none }) (v := _) rfl (by kernel_rfl) (by kernel_rfl) (by kernel_rfl) (fun _ _ _ h => h) (Or.inl ⟨by rfl, ?hy32⟩) (by assumption) ?hr32
  case hy32 => (intro _ hSw; (try dsimp only at hSw); go_simp <;> with_reducible rfl)
  simp only [Act.put, List.setIfInBounds_toArray, List.set_cons_zero, List.set_cons_succ]
  refine' wpAnyH_take (i := 19) (oi := { dst := some 32, op := Go.Op.extract (Go.Operand.tmp 30) 1, type := 4, pos := "deframe.go:136", after := #[{ on := 17, ground := Go.Ground.data }], guard := none }) (v := _) rfl (by kernel_rfl) (by kernel_rfl) (by kernel_rfl) (fun _ _ _ h => h) (Or.inl ⟨by rfl, ?hy33⟩) (by assumption) ?hr33
  case hy33 => (intro _ hSw; (try dsimp only at hSw); go_simp <;> with_reducible rfl)
  simp only [Act.put, List.setIfInBounds_toArray, List.set_cons_zero, List.set_cons_succ]
  refine wpAnyH_ready (rs := [20]) (by kernel_rfl) (by simp) ?_
  refine AllReadyH.cons (o := { dst := none, op := Go.Op.store 30 (Go.Operand.tmp 4) (Go.Operand.tmp 31), type := 0, pos := "deframe.go:136", after := #[{ on := 18, ground := Go.Ground.data }, { on := 17, ground := Go.Ground.chain }, { on := 0, ground := Go.Ground.phase }, { on := 1, ground := Go.Ground.phase }, { on := 2, ground := Go.Ground.phase }, { on := 3, ground := Go.Ground.phase }, { on := 4, ground := Go.Ground.phase }, { on := 5, ground := Go.Ground.phase }, { on := 6, ground := Go.Ground.phase }, { on := 7, ground := Go.Ground.phase }, { on := 8, ground := Go.Ground.phase }, { on := 9, ground := Go.Ground.phase }, { on := 10, ground := Go.Ground.phase }, { on := 11, ground := Go.Ground.phase }, { on := 12, ground := Go.Ground.phase }, { on := 13, ground := Go.Ground.phase }, { on := 14, ground := Go.Ground.phase }, { on := 15, ground := Go.Ground.phase }, { on := 16, ground := Go.Ground.phase }, { on := 17, ground := Go.Ground.phase }, { on := 18, ground := Go.Ground.phase }, { on := 19, ground := Go.Ground.phase }], guard := none }) rfl (fun K hK => ?_) AllReadyH.nil
  go_simp
  refine hK.out _ _ (two_set hn1 z1 z2 _ _ _ _ _ _ _) (fun hHeld => ?_)
  clear hK K
  (try simp only [Act.put, List.setIfInBounds_toArray, List.set_cons_zero, List.set_cons_succ])
  refine' wpAnyH_take (i := 21) (oi := { dst := some 5, op := Go.Op.assign (Go.Operand.tmp 32), type := 4, pos := "deframe.go:136", after := #[{ on := 19, ground := Go.Ground.data }, { on := 20, ground := Go.Ground.chain }, { on := 0, ground := Go.Ground.phase }, { on := 1, ground := Go.Ground.phase }, { on := 2, ground := Go.Ground.phase }, { on := 3, ground := Go.Ground.phase }, { on := 4, ground := Go.Ground.phase }, { on := 5, ground := Go.Ground.phase }, { on := 6, ground := Go.Ground.phase }, { on := 7, ground := Go.Ground.phase }, { on := 8, ground := Go.Ground.phase }, { on := 9, ground := Go.Ground.phase }, { on := 10, ground := Go.Ground.phase }, { on := 11, ground := Go.Ground.phase }, { on := 12, ground := Go.Ground.phase }, { on := 13, ground := Go.Ground.phase }, { on := 14, ground := Go.Ground.phase }, { on := 15, ground := Go.Ground.phase }, { on := 16, ground := Go.Ground.phase }, { on := 17, ground := Go.Ground.phase }, { on := 18, ground := Go.Ground.phase }, { on := 19, ground := Go.Ground.phase }, { on := 20, ground := Go.Ground.phase }], guard := none }) (v := _) rfl (by kernel_rfl) (by kernel_rfl) (by kernel_rfl) (fun _ _ _ h => h) (Or.inl ⟨by rfl, ?hy34⟩) (by assumption) ?hr34
  case hy34 => (intro _ hSw; (try dsimp only at hSw); go_simp <;> with_reducible rfl)
  simp only [Act.put, List.setIfInBounds_toArray, List.set_cons_zero, List.set_cons_succ]
  refine wpAnyH_done (by kernel_rfl) ?_ _
  clear hHeld
  go_wp2
  exact bodyPost_ret (v := .tuple #[noFr, .bool false]) (by simp [results, Tryd.results62, go_sem, k0, k1, k2, k3, k4, k5, k6]) rfl ⟨rfl, HN.out.ret H.out rfl _ _ _ _ _ _ _⟩
theorem fwhole_ok (w : World) (D : Nat) (c : Cf) (q : St) (v : Value) (h : DfAt w D c q v) (hb : q.bad ≤ 1000000) (ht : Tabs w) (g : Fr) (r : Nat) (hd : DecB ⟨q.got.toArray⟩ c.ini c.room g r) :
    Calls Tryd.prog 62 #[ptr D, .int .u8 249] w fun e w' => e = .returned (ansV (judge c q (g, r)).2) ∧ Next D c w v (judge c q (g, r)).1 w' := by
  by_cases hr : r = 0
  · subst hr
    exact fwhole_yes w D c q v h hb ht g hd
  · have e : judge c q (g, r) = (spoil c q (flagB c), none) := if_neg hr
    rw [e]
    exact fwhole_bad w D c q v h hb ht g r hr hd
set_option maxHeartbeats 1000000 in
theorem faddress_flag (w : World) (D : Nat) (c : Cf) (q : St) (v : Value) (h : DfAt w D c q v) :
    Calls Tryd.prog 36 #[ptr D, .int .u8 249] w fun e w' => e = .returned (.tuple #[noFr, .bool false]) ∧ Next D c w v q w' := by
  have H := Lib.hid h
  clear h
  go_enter Tryd.func36, Tryd.ntmps36
  go_wp2
  exact bodyPost_ret (v := .tuple #[noFr, .bool false]) (by simp [results, Tryd.results36, go_sem]) rfl ⟨rfl, Next.same H.out _⟩
set_option maxHeartbeats 1000000 in
theorem faddress_no (w : World) (D : Nat) (c : Cf) (q : St) (v : Value) (b : UInt8) (h : DfAt w D c q v) (hb : q.bad ≤ 1000000) (hn : b ≠ 249) (hk : spK b.toNat = false) :
    Calls Tryd.prog 36 #[ptr D, .int .u8 (b.toNat : Int)] w fun e w' => e = .returned (.tuple #[noFr, .bool false]) ∧ Next D c w v (spoil c q b) w' := by
  have H := Lib.hid h
  have HB := Lib.hid hb
  have e : ((b.toNat : Int) == 249) = false := bne_u8 hn
  have CS : ∀ w, Calls Tryd.prog 44 #[.int .u8 (b.toNat : Int)] w fun e w' => e = .returned (.tuple #[.int .u8 ((spD b.toNat : Nat) : Int), .bool (spC b.toNat), .bool false]) ∧ w = w' := fun w => by
    have p := split b.toNat (oct_lt b) w; rw [hk] at p; exact p
  have HS := Lib.hid CS
  clear h hb hn hk CS
  go_enter Tryd.func36, Tryd.ntmps36
  go_wp2_with (first
    | (go_at_call 44; ((with_reducible refine (HS.out _).mono ?_); rintro e w' ⟨rfl, rfl⟩))
    | (go_at_call 47; ((with_reducible refine (fspoil _ D c q _ b (H.out.alloc _) HB.out).mono ?_); rintro e w1 ⟨rfl, hn⟩; have HN := Lib.hid hn; clear hn; obtain ⟨⟨k0, k1, k2, k3, k4, k5, k6⟩, kf⟩ := no_cells (HN.out.fresh H.out rfl))))
  exact bodyPost_ret (v := .tuple #[noFr, .bool false]) (by simp [results, Tryd.results36, go_sem, k0, k1, k2, k3, k4, k5, k6]) rfl ⟨rfl, HN.out.ret H.out rfl _ _ _ _ _ _ _⟩
set_option maxHeartbeats 1000000 in
theorem faddress_ok (w : World) (D : Nat) (c : Cf) (q : St) (v : Value) (b : UInt8) (h : DfAt w D c q v) (hl : q.got.length ≤ 300) (hn : b ≠ 249) (hk : spK b.toNat = true) :
    Calls Tryd.prog 36 #[ptr D, .int .u8 (b.toNat : Int)] w fun e w' => e = .returned (.tuple #[noFr, .bool false]) ∧ Next D c w v { more q b with m := 3 } w' := by
  have H := Lib.hid h
  have HL := Lib.hid hl
  obtain ⟨-, -, -, -, G4, -, -⟩ := h.cells
  have hf := h.free
  have hlt := h.lt
  have hn1 : ¬ D = w.heap.size := by omega
  have hn2 : ¬ w.heap.size = D := by omega
  have e : ((b.toNat : Int) == 249) = false := bne_u8 hn
  have CS : ∀ w, Calls Tryd.prog 44 #[.int .u8 (b.toNat : Int)] w fun e w' => e = .returned (.tuple #[.int .u8 ((spD b.toNat : Nat) : Int), .bool (spC b.toNat), .bool true]) ∧ w = w' := fun w => by
    have p := split b.toNat (oct_lt b) w; rw [hk] at p; exact p
  have HS := Lib.hid CS
  clear h hl hn hk CS
  go_enter Tryd.func36, Tryd.ntmps36
  go_wp2_with (first
    | (go_at_call 44; ((with_reducible refine (HS.out _).mono ?_); rintro e w' ⟨rfl, rfl⟩))
    | (at_builtin; refine wpList_append_bytes _ rfl _ _ rfl (D + 1) _ rfl _ ((H.out.own.alloc _).alloc _) _ _ _ rfl [b] rfl (cells_byte w b) (by have := HL.out; omega) (by have := H.out.lt; simp; omega) ?_; intro v2 w2 ho hg hv; obtain ⟨gb, gn, gc, rfl⟩ := own_some ho; have HG := Lib.hid (grew H.out ho hg hv); clear ho hg hv; obtain ⟨g0, g1, g2, g3, g4, g5, g6⟩ := HG.out.cells; have hf2 := HG.out.free; obtain ⟨⟨k0, k1, k2, k3, k4, k5, k6⟩, kf⟩ := no_cells HG.out.fr))
  exact bodyPost_ret (v := .tuple #[noFr, .bool false]) (by simp [results, Tryd.results36, go_sem, k0, k1, k2, k3, k4, k5, k6]) rfl ⟨rfl, Next.fin H.out ((Raw.set4 HG.out.raw _).set3 3 rfl) (own_D (own_D HG.out.own _ _) _ _) ((HG.out.kp.set _ _).set _ _) HG.out.lies HG.out.ne rfl _ _ _ _ _ _ _ rfl⟩
theorem own_len {w : World} {base : Nat} {v : Value} {l : List UInt8} (h : Own w base v l) : ∃ a cap, v = .slice a l.length cap := by
  rcases h.shape with ⟨rfl, rfl⟩ | ⟨g, cap, rfl, _⟩
  · exact ⟨none, 0, rfl⟩
  · exact ⟨_, cap, rfl⟩
set_option maxHeartbeats 1000000 in
theorem fwritten_more (w : World) (D : Nat) (c : Cf) (q : St) (v : Value) (b : UInt8) (h : DfAt w D c q v) (hl : q.got.length ≤ 300) (hr : c.room ≤ 128) (hn : b ≠ 126) (hm : q.got.length ≤ most c) :
    Calls Tryd.prog 37 #[ptr D, .int .u8 (b.toNat : Int)] w fun e w' => e = .returned (.tuple #[noFr, .bool false]) ∧ Next D c w v (more q b) w' := by
  obtain ⟨a, cap, rfl⟩ := own_len h.own
  have H := Lib.hid h
  have HL := Lib.hid hl
  obtain ⟨-, -, G2, -, G4, -, -⟩ := h.cells
  have hf := h.free
  have hlt := h.lt
  have hn1 : ¬ D = w.heap.size := by omega
  have hn2 : ¬ w.heap.size = D := by omega
  have e : ((b.toNat : Int) != 126) = true := ne_u8 hn
  have e2 : decide ((q.got.length : Int) ≤ 2 * (3 + (c.room : Int))) = true := by unfold most at hm; simp; omega
  clear h hl hn hm
  go_enter Tryd.func37, Tryd.ntmps37
  go_wp2_with (first
    | (at_builtin; refine wpList_append_bytes _ rfl _ _ rfl (D + 1) _ rfl _ ((H.out.own.alloc _).alloc _) _ _ _ rfl [b] rfl (cells_byte w b) (by have := HL.out; omega) (by have := H.out.lt; simp; omega) ?_; intro v2 w2 ho hg hv; obtain ⟨gb, gn, gc, rfl⟩ := own_some ho; have HG := Lib.hid (grew H.out ho hg hv); clear ho hg hv; obtain ⟨g0, g1, g2, g3, g4, g5, g6⟩ := HG.out.cells; have hf2 := HG.out.free; obtain ⟨⟨k0, k1, k2, k3, k4, k5, k6⟩, kf⟩ := no_cells HG.out.fr))
  exact bodyPost_ret (v := .tuple #[noFr, .bool false]) (by simp [results, Tryd.results37, go_sem, k0, k1, k2, k3, k4, k5, k6]) rfl ⟨rfl, Next.fin H.out (Raw.set4 HG.out.raw _) (own_D HG.out.own _ _) (HG.out.kp.set _ _) HG.out.lies HG.out.ne rfl _ _ _ _ _ _ _ rfl⟩
set_option maxHeartbeats 1000000 in
theorem fwritten_full (w : World) (D : Nat) (c : Cf) (q : St) (v : Value) (b : UInt8) (h : DfAt w D c q v) (hr : c.room ≤ 128) (hn : b ≠ 126) (hm : ¬ q.got.length ≤ most c) :
    Calls Tryd.prog 37 #[ptr D, .int .u8 (b.toNat : Int)] w fun e w' => e = .returned (.tuple #[noFr, .bool false]) ∧ Next D c w v q w' := by
  obtain ⟨a, cap, rfl⟩ := own_len h.own
  have H := Lib.hid h
  obtain ⟨-, -, G2, -, G4, -, -⟩ := h.cells
  have hlt := h.lt
  have e : ((b.toNat : Int) != 126) = true := ne_u8 hn
  have e2 : decide ((q.got.length : Int) ≤ 2 * (3 + (c.room : Int))) = false := by unfold most at hm; simp; omega
  clear h hn hm
  go_enter Tryd.func37, Tryd.ntmps37
  go_wp2
  exact bodyPost_ret (v := .tuple #[noFr, .bool false]) (by simp [results, Tryd.results37, go_sem]) rfl ⟨rfl, Next.same H.out _⟩
set_option maxHeartbeats 1000000 in
theorem fwritten_none (w : World) (D : Nat) (c : Cf) (q : St) (v : Value) (h : DfAt w D c q v) (hr : c.room ≤ 128) (hm : q.got.length = 0) :
    Calls Tryd.prog 37 #[ptr D, .int .u8 126] w fun e w' => e = .returned (.tuple #[noFr, .bool false]) ∧ Next D c w v q w' := by
  obtain ⟨a, cap, rfl⟩ := own_len h.own
  have H := Lib.hid h
  obtain ⟨-, -, G2, -, G4, -, -⟩ := h.cells
  have hlt := h.lt
  have e2 : ((q.got.length : Int) == 0) = true := by rw [beq_iff_eq]; omega
  clear h hm
  go_enter Tryd.func37, Tryd.ntmps37
  go_wp2
  exact bodyPost_ret (v := .tuple #[noFr, .bool false]) (by simp [results, Tryd.results37, go_sem]) rfl ⟨rfl, Next.same H.out _⟩
set_option maxHeartbeats 1000000 in
theorem fwritten_spoil (w : World) (D : Nat) (c : Cf) (q : St) (v : Value) (b : UInt8) (hbv : b = 126) (h : DfAt w D c q v) (hb : q.bad ≤ 1000000) (hr : c.room ≤ 128) (hm : most c < q.got.length) :
    Calls Tryd.prog 37 #[ptr D, .int .u8 126] w fun e w' => e = .returned (.tuple #[noFr, .bool false]) ∧ Next D c w v (spoil c q b) w' := by
  obtain ⟨a, cap, rfl⟩ := own_len h.own
  have H := Lib.hid h
  have HB := Lib.hid hb
  have HV : Hid ((126 : Int) = (b.toNat : Int)) := Lib.hid (by subst hbv; rfl)
  obtain ⟨-, -, G2, -, G4, -, -⟩ := h.cells
  have hlt := h.lt
  have e1 : ((q.got.length : Int) == 0) = false := by rw [beq_eq_false_iff_ne]; omega
  have e2 : decide ((q.got.length : Int) > 2 * (3 + (c.room : Int))) = true := by unfold most at hm; simp; omega
  have e3 : 2 * (3 + (c.room : Int)) < (q.got.length : Int) := by unfold most at hm; omega
  clear h hm hbv hb
  go_enter Tryd.func37, Tryd.ntmps37
  go_wp2_with (first
    | (go_at_call 47; rw [HV.out]; ((with_reducible refine (fspoil _ D c q _ b (H.out.alloc _) HB.out).mono ?_); rintro e w1 ⟨rfl, hn⟩; have HN := Lib.hid hn; clear hn; obtain ⟨⟨k0, k1, k2, k3, k4, k5, k6⟩, kf⟩ := no_cells (HN.out.fresh H.out rfl))))
  exact bodyPost_ret (v := .tuple #[noFr, .bool false]) (by simp [results, Tryd.results37, go_sem, k0, k1, k2, k3, k4, k5, k6]) rfl ⟨rfl, HN.out.ret H.out rfl _ _ _ _ _ _ _⟩
/-- What Decode answers of octets. -/
def DecA (s : ByteArray) (ini : Bool) (n1 : Int) (g : Fr) (r : Nat) : Prop := ∀ w, Tabs w → Calls Tryd.prog 50 #[.string s, .bool ini, .int .i64 n1] w fun e w' => e = .returned (.tuple #[fv g, .int .i64 (r : Int)]) ∧ Below w.heap.size w w'
theorem at_DecA {s : ByteArray} {ini : Bool} {n1 : Int} {g : Fr} {r : Nat} (h : DecA s ini n1 g r) (w : World) (ht : Tabs w) : Calls Tryd.prog 50 #[.string s, .bool ini, .int .i64 n1] w fun e w' => e = .returned (.tuple #[fv g, .int .i64 (r : Int)]) ∧ Below w.heap.size w w' := h w ht
set_option maxHeartbeats 1000000 in
set_option maxRecDepth 100000 in
theorem fwritten_yes (w : World) (D : Nat) (c : Cf) (q : St) (v : Value) (h : DfAt w D c q v) (hb : q.bad ≤ 1000000) (ht : Tabs w) (hm0 : q.got.length ≠ 0) (hm : q.got.length ≤ most c) (hr8 : c.room ≤ 128) (g : Fr) (hd : DecA ⟨q.got.toArray⟩ c.ini c.room g 0) :
    Calls Tryd.prog 37 #[ptr D, .int .u8 126] w fun e w' => e = .returned (.tuple #[fv g, .bool true]) ∧ Next D c w v (begin c q) w' := by
  obtain ⟨a, cap, rfl⟩ := own_len h.own
  have H := Lib.hid h
  have HB := Lib.hid hb
  have HT := Lib.hid ht
  have HD := Lib.hid hd
  have e1 : ((q.got.length : Int) == 0) = false := by rw [beq_eq_false_iff_ne]; omega
  have e2 : decide ((q.got.length : Int) > 2 * (3 + (c.room : Int))) = false := by unfold most at hm; simp; omega
  have e3 : ¬ 2 * (3 + (c.room : Int)) < (q.got.length : Int) := by unfold most at hm; omega
  obtain ⟨g0, g1, g2, g3, g4, g5, g6⟩ := (H.out.alloc noObj).cells
  have hlt := h.lt
  have hn1 : ¬ D = w.heap.size := by omega
  have hn2 : ¬ w.heap.size = D := by omega
  have hcv : (convert 42 9 (.slice a q.got.length cap)).run Tryd.prog (w.alloc noObj).drew = .ok (.string ⟨q.got.toArray⟩) (w.alloc noObj).drew := (H.out.alloc noObj).drew.own.conv
  clear h hb ht hd hm0 hm
  go_enter Tryd.func37, Tryd.ntmps37
  go_wp2
  refine wp_region_held_drew (S := fun w' => w'.cell? ⟨D, 1, none⟩ = some (.bool c.ini) ∧ w'.cell? ⟨D, 2, none⟩ = some (.int .i64 (c.room : Int))) (by kernel_rfl) ⟨g1, g2⟩ (fun hHeld => ?_)
  refine' wpAnyH_take (i := 0) (oi := { dst := some 55, op := Go.Op.move (Go.Operand.tmp 0), type := 27, pos := "deframe.go:79", after := #[], guard := none }) (v := _) rfl (by kernel_rfl) (by kernel_rfl) (by kernel_rfl) (fun _ _ _ h => h) (Or.inl ⟨by rfl, ?hy35⟩) (by assumption) ?hr35
  case hy35 => (intro _ hSw; (try dsimp only at hSw); go_simp <;> with_reducible rfl)
  simp only [Act.put, List.setIfInBounds_toArray, List.set_cons_zero, List.set_cons_succ]
  refine' wpAnyH_take (i := 1) (oi := { dst := some 56, op := Go.Op.move (Go.Operand.tmp 0), type := 27, pos := "deframe.go:79", after := #[], guard := none }) (v := _) rfl (by kernel_rfl) (by kernel_rfl) (by kernel_rfl) (fun _ _ _ h => h) (Or.inl ⟨by rfl, ?hy36⟩) (by assumption) ?hr36
  case hy36 => (intro _ hSw; (try dsimp only at hSw); go_simp <;> with_reducible rfl)
  simp only [Act.put, List.setIfInBounds_toArray, List.set_cons_zero, List.set_cons_succ]
  refine' wpAnyH_take (i := 2) (oi := { dst := some 57, op := Go.Op.nilCheck (Go.Operand.tmp 56), type := 0, pos := "deframe.go:79", after := #[{ on := 1, ground := Go.Ground.data }], guard := none }) (v := _) rfl (by kernel_rfl) (by kernel_rfl) (by kernel_rfl) (fun _ _ _ h => h) (Or.inl ⟨by rfl, ?hy37⟩) (by assumption) ?hr37
  case hy37 => (intro _ hSw; (try dsimp only at hSw); go_simp <;> with_reducible rfl)
  simp only [Act.put, List.setIfInBounds_toArray, List.set_cons_zero, List.set_cons_succ]
  refine' wpAnyH_take (i := 3) (oi := { dst := some 58, op := Go.Op.fieldAddr 44 (Go.Operand.tmp 57) 4, type := 0, pos := "deframe.go:79", after := #[{ on := 2, ground := Go.Ground.data }], guard := none }) (v := _) rfl (by kernel_rfl) (by kernel_rfl) (by kernel_rfl) (fun _ _ _ h => h) (Or.inl ⟨by rfl, ?hy38⟩) (by assumption) ?hr38
  case hy38 => (intro _ hSw; (try dsimp only at hSw); go_simp <;> with_reducible rfl)
  simp only [Act.put, List.setIfInBounds_toArray, List.set_cons_zero, List.set_cons_succ]
  refine' wpAnyH_take (i := 6) (oi := { dst := some 61, op := Go.Op.move (Go.Operand.tmp 0), type := 27, pos := "deframe.go:79", after := #[], guard := none }) (v := _) rfl (by kernel_rfl) (by kernel_rfl) (by kernel_rfl) (fun _ _ _ h => h) (Or.inl ⟨by rfl, ?hy39⟩) (by assumption) ?hr39
  case hy39 => (intro _ hSw; (try dsimp only at hSw); go_simp <;> with_reducible rfl)
  simp only [Act.put, List.setIfInBounds_toArray, List.set_cons_zero, List.set_cons_succ]
  refine' wpAnyH_take (i := 7) (oi := { dst := some 62, op := Go.Op.nilCheck (Go.Operand.tmp 61), type := 0, pos := "deframe.go:79", after := #[{ on := 6, ground := Go.Ground.data }], guard := none }) (v := _) rfl (by kernel_rfl) (by kernel_rfl) (by kernel_rfl) (fun _ _ _ h => h) (Or.inl ⟨by rfl, ?hy40⟩) (by assumption) ?hr40
  case hy40 => (intro _ hSw; (try dsimp only at hSw); go_simp <;> with_reducible rfl)
  simp only [Act.put, List.setIfInBounds_toArray, List.set_cons_zero, List.set_cons_succ]
  refine' wpAnyH_take (i := 8) (oi := { dst := some 63, op := Go.Op.fieldAddr 44 (Go.Operand.tmp 62) 1, type := 0, pos := "deframe.go:79", after := #[{ on := 7, ground := Go.Ground.data }], guard := none }) (v := _) rfl (by kernel_rfl) (by kernel_rfl) (by kernel_rfl) (fun _ _ _ h => h) (Or.inl ⟨by rfl, ?hy41⟩) (by assumption) ?hr41
  case hy41 => (intro _ hSw; (try dsimp only at hSw); go_simp <;> with_reducible rfl)
  simp only [Act.put, List.setIfInBounds_toArray, List.set_cons_zero, List.set_cons_succ]
  refine' wpAnyH_take (i := 9) (oi := { dst := some 64, op := Go.Op.load 4 (Go.Operand.tmp 63), type := 4, pos := "deframe.go:79", after := #[{ on := 8, ground := Go.Ground.data }], guard := none }) (v := _) rfl (by kernel_rfl) (by kernel_rfl) (by kernel_rfl) (fun _ _ _ h => h) (Or.inl ⟨by rfl, ?hy42⟩) (by assumption) ?hr42
  case hy42 => (intro _ hSw; (try dsimp only at hSw); go_simp <;> with_reducible rfl)
  simp only [Act.put, List.setIfInBounds_toArray, List.set_cons_zero, List.set_cons_succ]
  refine' wpAnyH_take (i := 10) (oi := { dst := some 65, op := Go.Op.move (Go.Operand.tmp 0), type := 27, pos := "deframe.go:79", after := #[], guard := none }) (v := _) rfl (by kernel_rfl) (by kernel_rfl) (by kernel_rfl) (fun _ _ _ h => h) (Or.inl ⟨by rfl, ?hy43⟩) (by assumption) ?hr43
  case hy43 => (intro _ hSw; (try dsimp only at hSw); go_simp <;> with_reducible rfl)
  simp only [Act.put, List.setIfInBounds_toArray, List.set_cons_zero, List.set_cons_succ]
  refine' wpAnyH_take (i := 11) (oi := { dst := some 66, op := Go.Op.nilCheck (Go.Operand.tmp 65), type := 0, pos := "deframe.go:79", after := #[{ on := 10, ground := Go.Ground.data }], guard := none }) (v := _) rfl (by kernel_rfl) (by kernel_rfl) (by kernel_rfl) (fun _ _ _ h => h) (Or.inl ⟨by rfl, ?hy44⟩) (by assumption) ?hr44
  case hy44 => (intro _ hSw; (try dsimp only at hSw); go_simp <;> with_reducible rfl)
  simp only [Act.put, List.setIfInBounds_toArray, List.set_cons_zero, List.set_cons_succ]
  refine' wpAnyH_take (i := 12) (oi := { dst := some 67, op := Go.Op.fieldAddr 44 (Go.Operand.tmp 66) 2, type := 0, pos := "deframe.go:79", after := #[{ on := 11, ground := Go.Ground.data }], guard := none }) (v := _) rfl (by kernel_rfl) (by kernel_rfl) (by kernel_rfl) (fun _ _ _ h => h) (Or.inl ⟨by rfl, ?hy45⟩) (by assumption) ?hr45
  case hy45 => (intro _ hSw; (try dsimp only at hSw); go_simp <;> with_reducible rfl)
  simp only [Act.put, List.setIfInBounds_toArray, List.set_cons_zero, List.set_cons_succ]
  refine' wpAnyH_take (i := 13) (oi := { dst := some 68, op := Go.Op.load 3 (Go.Operand.tmp 67), type := 3, pos := "deframe.go:79", after := #[{ on := 12, ground := Go.Ground.data }], guard := none }) (v := _) rfl (by kernel_rfl) (by kernel_rfl) (by kernel_rfl) (fun _ _ _ h => h) (Or.inl ⟨by rfl, ?hy46⟩) (by assumption) ?hr46
  case hy46 => (intro _ hSw; (try dsimp only at hSw); go_simp <;> with_reducible rfl)
  simp only [Act.put, List.setIfInBounds_toArray, List.set_cons_zero, List.set_cons_succ]
  refine wpAnyH_ready (rs := [4]) (by kernel_rfl) (by simp) ?_
  refine AllReadyH.cons (o := { dst := some 59, op := Go.Op.load 42 (Go.Operand.tmp 58), type := 42, pos := "deframe.go:79", after := #[{ on := 3, ground := Go.Ground.data }], guard := none }) rfl (fun K hK => ?_) AllReadyH.nil
  go_simp
  refine hK.out _ _ (by assumption) (fun hHeld => ?_)
  clear hK K
  (try simp only [Act.put, List.setIfInBounds_toArray, List.set_cons_zero, List.set_cons_succ])
  refine wpAnyH_ready (rs := [5]) (by kernel_rfl) (by simp) ?_
  refine AllReadyH.cons (o := { dst := some 60, op := Go.Op.convert 42 9 (Go.Operand.tmp 59), type := 9, pos := "deframe.go:79", after := #[{ on := 4, ground := Go.Ground.data }], guard := none }) rfl (fun K hK => ?_) AllReadyH.nil
  go_simp
  refine hK.out _ _ (by assumption) (fun hHeld => ?_)
  clear hK K
  (try simp only [Act.put, List.setIfInBounds_toArray, List.set_cons_zero, List.set_cons_succ])
  refine wpAnyH_ready (rs := [14]) (by kernel_rfl) (by simp) ?_
  refine AllReadyH.cons (o := { dst := some 69, op := Go.Op.call { callee := Go.Callee.value (Go.Operand.func 50), args := #[Go.Operand.tmp 60, Go.Operand.tmp 64, Go.Operand.tmp 68], argTypes := #[9, 4, 3] }, type := 74, pos := "deframe.go:79", after := #[{ on := 5, ground := Go.Ground.data }, { on := 9, ground := Go.Ground.data }, { on := 13, ground := Go.Ground.data }], guard := none }) rfl (fun K hK => ?_) AllReadyH.nil
  go_simp
  (with_reducible refine (at_DecA HD.out _ ?_).mono ?_)
  · exact tabs_below HT.out (((Below.refl _ _).alloc (Nat.le_refl _) noObj).drew)
  rintro e w1 ⟨rfl, hb⟩
  have HW := Lib.hid hb
  clear hb
  have y1 := cell_below (cell_of (H.out.alloc noObj).drew.blk (i := 1) rfl) HW.out
  have y2 := cell_below (cell_of (H.out.alloc noObj).drew.blk (i := 2) rfl) HW.out
  go_wp2_with fail
  refine hK.out _ _ ⟨y1, y2⟩ (fun hHeld => ?_)
  clear hK K
  (try simp only [Act.put, List.setIfInBounds_toArray, List.set_cons_zero, List.set_cons_succ])
  refine' wpAnyH_take (i := 15) (oi := { dst := some 70, op := Go.Op.extract (Go.Operand.tmp 69) 0, type := 30, pos := "deframe.go:79", after := #[{ on := 14, ground := Go.Ground.data }], guard := none }) (v := _) rfl (by kernel_rfl) (by kernel_rfl) (by kernel_rfl) (fun _ _ _ h => h) (Or.inl ⟨by rfl, ?hy47⟩) (by assumption) ?hr47
  case hy47 => (intro _ hSw; (try dsimp only at hSw); go_simp <;> with_reducible rfl)
  simp only [Act.put, List.setIfInBounds_toArray, List.set_cons_zero, List.set_cons_succ]
  refine' wpAnyH_take (i := 16) (oi := { dst := some 71, op := Go.Op.extract (Go.Operand.tmp 69) 1, type := 45, pos := "deframe.go:79", after := #[{ on := 14, ground := Go.Ground.data }], guard := none }) (v := _) rfl (by kernel_rfl) (by kernel_rfl) (by kernel_rfl) (fun _ _ _ h => h) (Or.inl ⟨by rfl, ?hy48⟩) (by assumption) ?hr48
  case hy48 => (intro _ hSw; (try dsimp only at hSw); go_simp <;> with_reducible rfl)
  simp only [Act.put, List.setIfInBounds_toArray, List.set_cons_zero, List.set_cons_succ]
  refine wpAnyH_ready (rs := [17]) (by kernel_rfl) (by simp) ?_
  refine AllReadyH.cons (o := { dst := some 72, op := Go.Op.call { callee := Go.Callee.value (Go.Operand.func 49), args := #[Go.Operand.tmp 55, Go.Operand.tmp 70, Go.Operand.tmp 71], argTypes := #[27, 30, 45] }, type := 38, pos := "deframe.go:79", after := #[{ on := 0, ground := Go.Ground.data }, { on := 15, ground := Go.Ground.data }, { on := 16, ground := Go.Ground.data }, { on := 14, ground := Go.Ground.chain }], guard := none }) rfl (fun K hK => ?_) AllReadyH.nil
  go_simp
  (with_reducible refine (fjudge_ok _ D c q _ g ((H.out.alloc noObj).drew.below HW.out)).mono ?_)
  rintro e w2 ⟨rfl, hn⟩
  obtain ⟨z1, z2⟩ := Next.two hn
  have HN := Lib.hid (Next.back H.out HW.out hn)
  clear hn
  obtain ⟨⟨k0, k1, k2, k3, k4, k5, k6⟩, kf⟩ := no_cells (HN.out.fresh H.out rfl)
  go_wp2_with fail
  refine hK.out _ _ ⟨z1, z2⟩ (fun hHeld => ?_)
  clear hK K
  (try simp only [Act.put, List.setIfInBounds_toArray, List.set_cons_zero, List.set_cons_succ])
  refine' wpAnyH_take (i := 18) (oi := { dst := some 73, op := Go.Op.extract (Go.Operand.tmp 72) 0, type := 30, pos := "deframe.go:79", after := #[{ on := 17, ground := Go.Ground.data }], guard := none }) (v := _) rfl (by kernel_rfl) (by kernel_rfl) (by kernel_rfl) (fun _ _ _ h => h) (Or.inl ⟨by rfl, ?hy49⟩) (by assumption) ?hr49
  case hy49 => (intro _ hSw; (try dsimp only at hSw); go_simp <;> with_reducible rfl)
  simp only [Act.put, List.setIfInBounds_toArray, List.set_cons_zero, List.set_cons_succ]
  refine' wpAnyH_take (i := 19) (oi := { dst := some 74, op := Go.Op.extract (Go.Operand.tmp 72) 1, type := 4, pos := "deframe.go:79", after := #[{ on := 17, ground := Go.Ground.data }], guard := none }) (v := _) rfl (by kernel_rfl) (by kernel_rfl) (by kernel_rfl) (fun _ _ _ h => h) (Or.inl ⟨by rfl, ?hy50⟩) (by assumption) ?hr50
  case hy50 => (intro _ hSw; (try dsimp only at hSw); go_simp <;> with_reducible rfl)
  simp only [Act.put, List.setIfInBounds_toArray, List.set_cons_zero, List.set_cons_succ]
  refine wpAnyH_ready (rs := [20]) (by kernel_rfl) (by simp) ?_
  refine AllReadyH.cons (o := { dst := none, op := Go.Op.store 30 (Go.Operand.tmp 4) (Go.Operand.tmp 73), type := 0, pos := "deframe.go:79", after := #[{ on := 18, ground := Go.Ground.data }, { on := 17, ground := Go.Ground.chain }, { on := 0, ground := Go.Ground.phase }, { on := 1, ground := Go.Ground.phase }, { on := 2, ground := Go.Ground.phase }, { on := 3, ground := Go.Ground.phase }, { on := 4, ground := Go.Ground.phase }, { on := 5, ground := Go.Ground.phase }, { on := 6, ground := Go.Ground.phase }, { on := 7, ground := Go.Ground.phase }, { on := 8, ground := Go.Ground.phase }, { on := 9, ground := Go.Ground.phase }, { on := 10, ground := Go.Ground.phase }, { on := 11, ground := Go.Ground.phase }, { on := 12, ground := Go.Ground.phase }, { on := 13, ground := Go.Ground.phase }, { on := 14, ground := Go.Ground.phase }, { on := 15, ground := Go.Ground.phase }, { on := 16, ground := Go.Ground.phase }, { on := 17, ground := Go.Ground.phase }, { on := 18, ground := Go.Ground.phase }, { on := 19, ground := Go.Ground.phase }], guard := none }) rfl (fun K hK => ?_) AllReadyH.nil
  go_simp
  refine hK.out _ _ (two_set hn1 z1 z2 _ _ _ _ _ _ _) (fun hHeld => ?_)
  clear hK K
  (try simp only [Act.put, List.setIfInBounds_toArray, List.set_cons_zero, List.set_cons_succ])
  refine' wpAnyH_take (i := 21) (oi := { dst := some 5, op := Go.Op.assign (Go.Operand.tmp 74), type := 4, pos := "deframe.go:79", after := #[{ on := 19, ground := Go.Ground.data }, { on := 20, ground := Go.Ground.chain }, { on := 0, ground := Go.Ground.phase }, { on := 1, ground := Go.Ground.phase }, { on := 2, ground := Go.Ground.phase }, { on := 3, ground := Go.Ground.phase }, { on := 4, ground := Go.Ground.phase }, { on := 5, ground := Go.Ground.phase }, { on := 6, ground := Go.Ground.phase }, { on := 7, ground := Go.Ground.phase }, { on := 8, ground := Go.Ground.phase }, { on := 9, ground := Go.Ground.phase }, { on := 10, ground := Go.Ground.phase }, { on := 11, ground := Go.Ground.phase }, { on := 12, ground := Go.Ground.phase }, { on := 13, ground := Go.Ground.phase }, { on := 14, ground := Go.Ground.phase }, { on := 15, ground := Go.Ground.phase }, { on := 16, ground := Go.Ground.phase }, { on := 17, ground := Go.Ground.phase }, { on := 18, ground := Go.Ground.phase }, { on := 19, ground := Go.Ground.phase }, { on := 20, ground := Go.Ground.phase }], guard := none }) (v := _) rfl (by kernel_rfl) (by kernel_rfl) (by kernel_rfl) (fun _ _ _ h => h) (Or.inl ⟨by rfl, ?hy51⟩) (by assumption) ?hr51
  case hy51 => (intro _ hSw; (try dsimp only at hSw); go_simp <;> with_reducible rfl)
  simp only [Act.put, List.setIfInBounds_toArray, List.set_cons_zero, List.set_cons_succ]
  refine wpAnyH_done (by kernel_rfl) ?_ _
  clear hHeld
  go_wp2
  exact bodyPost_ret (v := .tuple #[fv g, .bool true]) (by simp [results, Tryd.results37, go_sem, k0, k1, k2, k3, k4, k5, k6]) rfl ⟨rfl, HN.out.ret H.out rfl _ _ _ _ _ _ _⟩
set_option maxHeartbeats 1000000 in
set_option maxRecDepth 100000 in
theorem fwritten_bad (w : World) (D : Nat) (c : Cf) (q : St) (v : Value) (h : DfAt w D c q v) (hb : q.bad ≤ 1000000) (ht : Tabs w) (hm0 : q.got.length ≠ 0) (hm : q.got.length ≤ most c) (hr8 : c.room ≤ 128) (g : Fr) (r : Nat) (hr : r ≠ 0) (hd : DecA ⟨q.got.toArray⟩ c.ini c.room g r) :
    Calls Tryd.prog 37 #[ptr D, .int .u8 126] w fun e w' => e = .returned (.tuple #[noFr, .bool false]) ∧ Next D c w v (spoil c q (flagB c)) w' := by
  obtain ⟨a, cap, rfl⟩ := own_len h.own
  have H := Lib.hid h
  have HB := Lib.hid hb
  have HT := Lib.hid ht
  have HD := Lib.hid hd
  have HR := Lib.hid hr
  have e1 : ((q.got.length : Int) == 0) = false := by rw [beq_eq_false_iff_ne]; omega
  have e2 : decide ((q.got.length : Int) > 2 * (3 + (c.room : Int))) = false := by unfold most at hm; simp; omega
  have e3 : ¬ 2 * (3 + (c.room : Int)) < (q.got.length : Int) := by unfold most at hm; omega
  obtain ⟨g0, g1, g2, g3, g4, g5, g6⟩ := (H.out.alloc noObj).cells
  have hlt := h.lt
  have hn1 : ¬ D = w.heap.size := by omega
  have hn2 : ¬ w.heap.size = D := by omega
  have hcv : (convert 42 9 (.slice a q.got.length cap)).run Tryd.prog (w.alloc noObj).drew = .ok (.string ⟨q.got.toArray⟩) (w.alloc noObj).drew := (H.out.alloc noObj).drew.own.conv
  clear h hb ht hd hr hm0 hm
  go_enter Tryd.func37, Tryd.ntmps37
  go_wp2
  refine wp_region_held_drew (S := fun w' => w'.cell? ⟨D, 1, none⟩ = some (.bool c.ini) ∧ w'.cell? ⟨D, 2, none⟩ = some (.int .i64 (c.room : Int))) (by kernel_rfl) ⟨g1, g2⟩ (fun hHeld => ?_)
  refine' wpAnyH_take (i := 0) (oi := { dst := some 55, op := Go.Op.move (Go.Operand.tmp 0), type := 27, pos := "deframe.go:79", after := #[], guard := none }) (v := _) rfl (by kernel_rfl) (by kernel_rfl) (by kernel_rfl) (fun _ _ _ h => h) (Or.inl ⟨by rfl, ?hy52⟩) (by assumption) ?hr52
  case hy52 => (intro _ hSw; (try dsimp only at hSw); go_simp <;> with_reducible rfl)
  simp only [Act.put, List.setIfInBounds_toArray, List.set_cons_zero, List.set_cons_succ]
  refine' wpAnyH_take (i := 1) (oi := { dst := some 56, op := Go.Op.move (Go.Operand.tmp 0), type := 27, pos := "deframe.go:79", after := #[], guard := none }) (v := _) rfl (by kernel_rfl) (by kernel_rfl) (by kernel_rfl) (fun _ _ _ h => h) (Or.inl ⟨by rfl, ?hy53⟩) (by assumption) ?hr53
  case hy53 => (intro _ hSw; (try dsimp only at hSw); go_simp <;> with_reducible rfl)
  simp only [Act.put, List.setIfInBounds_toArray, List.set_cons_zero, List.set_cons_succ]
  refine' wpAnyH_take (i := 2) (oi := { dst := some 57, op := Go.Op.nilCheck (Go.Operand.tmp 56), type := 0, pos := "deframe.go:79", after := #[{ on := 1, ground := Go.Ground.data }], guard := none }) (v := _) rfl (by kernel_rfl) (by kernel_rfl) (by kernel_rfl) (fun _ _ _ h => h) (Or.inl ⟨by rfl, ?hy54⟩) (by assumption) ?hr54
  case hy54 => (intro _ hSw; (try dsimp only at hSw); go_simp <;> with_reducible rfl)
  simp only [Act.put, List.setIfInBounds_toArray, List.set_cons_zero, List.set_cons_succ]
  refine' wpAnyH_take (i := 3) (oi := { dst := some 58, op := Go.Op.fieldAddr 44 (Go.Operand.tmp 57) 4, type := 0, pos := "deframe.go:79", after := #[{ on := 2, ground := Go.Ground.data }], guard := none }) (v := _) rfl (by kernel_rfl) (by kernel_rfl) (by kernel_rfl) (fun _ _ _ h => h) (Or.inl ⟨by rfl, ?hy55⟩) (by assumption) ?hr55
  case hy55 => (intro _ hSw; (try dsimp only at hSw); go_simp <;> with_reducible rfl)
  simp only [Act.put, List.setIfInBounds_toArray, List.set_cons_zero, List.set_cons_succ]
  refine' wpAnyH_take (i := 6) (oi := { dst := some 61, op := Go.Op.move (Go.Operand.tmp 0), type := 27, pos := "deframe.go:79", after := #[], guard := none }) (v := _) rfl (by kernel_rfl) (by kernel_rfl) (by kernel_rfl) (fun _ _ _ h => h) (Or.inl ⟨by rfl, ?hy56⟩) (by assumption) ?hr56
  case hy56 => (intro _ hSw; (try dsimp only at hSw); go_simp <;> with_reducible rfl)
  simp only [Act.put, List.setIfInBounds_toArray, List.set_cons_zero, List.set_cons_succ]
  refine' wpAnyH_take (i := 7) (oi := { dst := some 62, op := Go.Op.nilCheck (Go.Operand.tmp 61), type := 0, pos := "deframe.go:79", after := #[{ on := 6, ground := Go.Ground.data }], guard := none }) (v := _) rfl (by kernel_rfl) (by kernel_rfl) (by kernel_rfl) (fun _ _ _ h => h) (Or.inl ⟨by rfl, ?hy57⟩) (by assumption) ?hr57
  case hy57 => (intro _ hSw; (try dsimp only at hSw); go_simp <;> with_reducible rfl)
  simp only [Act.put, List.setIfInBounds_toArray, List.set_cons_zero, List.set_cons_succ]
  refine' wpAnyH_take (i := 8) (oi := { dst := some 63, op := Go.Op.fieldAddr 44 (Go.Operand.tmp 62) 1, type := 0, pos := "deframe.go:79", after := #[{ on := 7, ground := Go.Ground.data }], guard := none }) (v := _) rfl (by kernel_rfl) (by kernel_rfl) (by kernel_rfl) (fun _ _ _ h => h) (Or.inl ⟨by rfl, ?hy58⟩) (by assumption) ?hr58
  case hy58 => (intro _ hSw; (try dsimp only at hSw); go_simp <;> with_reducible rfl)
  simp only [Act.put, List.setIfInBounds_toArray, List.set_cons_zero, List.set_cons_succ]
  refine' wpAnyH_take (i := 9) (oi := { dst := some 64, op := Go.Op.load 4 (Go.Operand.tmp 63), type := 4, pos := "deframe.go:79", after := #[{ on := 8, ground := Go.Ground.data }], guard := none }) (v := _) rfl (by kernel_rfl) (by kernel_rfl) (by kernel_rfl) (fun _ _ _ h => h) (Or.inl ⟨by rfl, ?hy59⟩) (by assumption) ?hr59
  case hy59 => (intro _ hSw; (try dsimp only at hSw); go_simp <;> with_reducible rfl)
  simp only [Act.put, List.setIfInBounds_toArray, List.set_cons_zero, List.set_cons_succ]
  refine' wpAnyH_take (i := 10) (oi := { dst := some 65, op := Go.Op.move (Go.Operand.tmp 0), type := 27, pos := "deframe.go:79", after := #[], guard := none }) (v := _) rfl (by kernel_rfl) (by kernel_rfl) (by kernel_rfl) (fun _ _ _ h => h) (Or.inl ⟨by rfl, ?hy60⟩) (by assumption) ?hr60
  case hy60 => (intro _ hSw; (try dsimp only at hSw); go_simp <;> with_reducible rfl)
  simp only [Act.put, List.setIfInBounds_toArray, List.set_cons_zero, List.set_cons_succ]
  refine' wpAnyH_take (i := 11) (oi := { dst := some 66, op := Go.Op.nilCheck (Go.Operand.tmp 65), type := 0, pos := "deframe.go:79", after := #[{ on := 10, ground := Go.Ground.data }], guard := none }) (v := _) rfl (by kernel_rfl) (by kernel_rfl) (by kernel_rfl) (fun _ _ _ h => h) (Or.inl ⟨by rfl, ?hy61⟩) (by assumption) ?hr61
  case hy61 => (intro _ hSw; (try dsimp only at hSw); go_simp <;> with_reducible rfl)
  simp only [Act.put, List.setIfInBounds_toArray, List.set_cons_zero, List.set_cons_succ]
  refine' wpAnyH_take (i := 12) (oi := { dst := some 67, op := Go.Op.fieldAddr 44 (Go.Operand.tmp 66) 2, type := 0, pos := "deframe.go:79", after := #[{ on := 11, ground := Go.Ground.data }], guard := none }) (v := _) rfl (by kernel_rfl) (by kernel_rfl) (by kernel_rfl) (fun _ _ _ h => h) (Or.inl ⟨by rfl, ?hy62⟩) (by assumption) ?hr62
  case hy62 => (intro _ hSw; (try dsimp only at hSw); go_simp <;> with_reducible rfl)
  simp only [Act.put, List.setIfInBounds_toArray, List.set_cons_zero, List.set_cons_succ]
  refine' wpAnyH_take (i := 13) (oi := { dst := some 68, op := Go.Op.load 3 (Go.Operand.tmp 67), type := 3, pos := "deframe.go:79", after := #[{ on := 12, ground := Go.Ground.data }], guard := none }) (v := _) rfl (by kernel_rfl) (by kernel_rfl) (by kernel_rfl) (fun _ _ _ h => h) (Or.inl ⟨by rfl, ?hy63⟩) (by assumption) ?hr63
  case hy63 => (intro _ hSw; (try dsimp only at hSw); go_simp <;> with_reducible rfl)
  simp only [Act.put, List.setIfInBounds_toArray, List.set_cons_zero, List.set_cons_succ]
  refine wpAnyH_ready (rs := [4]) (by kernel_rfl) (by simp) ?_
  refine AllReadyH.cons (o := { dst := some 59, op := Go.Op.load 42 (Go.Operand.tmp 58), type := 42, pos := "deframe.go:79", after := #[{ on := 3, ground := Go.Ground.data }], guard := none }) rfl (fun K hK => ?_) AllReadyH.nil
  go_simp
  refine hK.out _ _ (by assumption) (fun hHeld => ?_)
  clear hK K
  (try simp only [Act.put, List.setIfInBounds_toArray, List.set_cons_zero, List.set_cons_succ])
  refine wpAnyH_ready (rs := [5]) (by kernel_rfl) (by simp) ?_
  refine AllReadyH.cons (o := { dst := some 60, op := Go.Op.convert 42 9 (Go.Operand.tmp 59), type := 9, pos := "deframe.go:79", after := #[{ on := 4, ground := Go.Ground.data }], guard := none }) rfl (fun K hK => ?_) AllReadyH.nil
  go_simp
  refine hK.out _ _ (by assumption) (fun hHeld => ?_)
  clear hK K
  (try simp only [Act.put, List.setIfInBounds_toArray, List.set_cons_zero, List.set_cons_succ])
  refine wpAnyH_ready (rs := [14]) (by kernel_rfl) (by simp) ?_
  refine AllReadyH.cons (o := { dst := some 69, op := Go.Op.call { callee := Go.Callee.value (Go.Operand.func 50), args := #[Go.Operand.tmp 60, Go.Operand.tmp 64, Go.Operand.tmp 68], argTypes := #[9, 4, 3] }, type := 74, pos := "deframe.go:79", after := #[{ on := 5, ground := Go.Ground.data }, { on := 9, ground := Go.Ground.data }, { on := 13, ground := Go.Ground.data }], guard := none }) rfl (fun K hK => ?_) AllReadyH.nil
  go_simp
  (with_reducible refine (at_DecA HD.out _ ?_).mono ?_)
  · exact tabs_below HT.out (((Below.refl _ _).alloc (Nat.le_refl _) noObj).drew)
  rintro e w1 ⟨rfl, hb⟩
  have HW := Lib.hid hb
  clear hb
  have y1 := cell_below (cell_of (H.out.alloc noObj).drew.blk (i := 1) rfl) HW.out
  have y2 := cell_below (cell_of (H.out.alloc noObj).drew.blk (i := 2) rfl) HW.out
  go_wp2_with fail
  refine hK.out _ _ ⟨y1, y2⟩ (fun hHeld => ?_)
  clear hK K
  (try simp only [Act.put, List.setIfInBounds_toArray, List.set_cons_zero, List.set_cons_succ])
  refine' wpAnyH_take (i := 15) (oi := { dst := some 70, op := Go.Op.extract (Go.Operand.tmp 69) 0, type := 30, pos := "deframe.go:79", after := #[{ on := 14, ground := Go.Ground.data }], guard := none }) (v := _) rfl (by kernel_rfl) (by kernel_rfl) (by kernel_rfl) (fun _ _ _ h => h) (Or.inl ⟨by rfl, ?hy64⟩) (by assumption) ?hr64
  case hy64 => (intro _ hSw; (try dsimp only at hSw); go_simp <;> with_reducible rfl)
  simp only [Act.put, List.setIfInBounds_toArray, List.set_cons_zero, List.set_cons_succ]
  refine' wpAnyH_take (i := 16) (oi := { dst := some 71, op := Go.Op.extract (Go.Operand.tmp 69) 1, type := 45, pos := "deframe.go:79", after := #[{ on := 14, ground := Go.Ground.data }], guard := none }) (v := _) rfl (by kernel_rfl) (by kernel_rfl) (by kernel_rfl) (fun _ _ _ h => h) (Or.inl ⟨by rfl, ?hy65⟩) (by assumption) ?hr65
  case hy65 => (intro _ hSw; (try dsimp only at hSw); go_simp <;> with_reducible rfl)
  simp only [Act.put, List.setIfInBounds_toArray, List.set_cons_zero, List.set_cons_succ]
  refine wpAnyH_ready (rs := [17]) (by kernel_rfl) (by simp) ?_
  refine AllReadyH.cons (o := { dst := some 72, op := Go.Op.call { callee := Go.Callee.value (Go.Operand.func 49), args := #[Go.Operand.tmp 55, Go.Operand.tmp 70, Go.Operand.tmp 71], argTypes := #[27, 30, 45] }, type := 38, pos := "deframe.go:79", after := #[{ on := 0, ground := Go.Ground.data }, { on := 15, ground := Go.Ground.data }, { on := 16, ground := Go.Ground.data }, { on := 14, ground := Go.Ground.chain }], guard := none }) rfl (fun K hK => ?_) AllReadyH.nil
  go_simp
  (with_reducible refine (fjudge_no _ D c q _ g r ((H.out.alloc noObj).drew.below HW.out) HB.out HR.out).mono ?_)
  rintro e w2 ⟨rfl, hn⟩
  obtain ⟨z1, z2⟩ := Next.two hn
  have HN := Lib.hid (Next.back H.out HW.out hn)
  clear hn
  obtain ⟨⟨k0, k1, k2, k3, k4, k5, k6⟩, kf⟩ := no_cells (HN.out.fresh H.out rfl)
  go_wp2_with fail
  refine hK.out _ _ ⟨z1, z2⟩ (fun hHeld => ?_)
  clear hK K
  (try simp only [Act.put, List.setIfInBounds_toArray, List.set_cons_zero, List.set_cons_succ])
  refine' wpAnyH_take (i := 18) (oi := { dst := some 73, op := Go.Op.extract (Go.Operand.tmp 72) 0, type := 30, pos := "deframe.go:79", after := #[{ on := 17, ground := Go.Ground.data }], guard := none }) (v := _) rfl (by kernel_rfl) (by kernel_rfl) (by kernel_rfl) (fun _ _ _ h => h) (Or.inl ⟨by rfl, ?hy66⟩) (by assumption) ?hr66
  case hy66 => (intro _ hSw; (try dsimp only at hSw); go_simp <;> with_reducible rfl)
  simp only [Act.put, List.setIfInBounds_toArray, List.set_cons_zero, List.set_cons_succ]
  refine' wpAnyH_take (i := 19) (oi := { dst := some 74, op := Go.Op.extract (Go.Operand.tmp 72) 1, type := 4, pos := "deframe.go:79", after := #[{ on := 17, ground := Go.Ground.data }], guard := none }) (v := _) rfl (by kernel_rfl) (by kernel_rfl) (by kernel_rfl) (fun _ _ _ h => h) (Or.inl ⟨by rfl, ?hy67⟩) (by assumption) ?hr67
  case hy67 => (intro _ hSw; (try dsimp only at hSw); go_simp <;> with_reducible rfl)
  simp only [Act.put, List.setIfInBounds_toArray, List.set_cons_zero, List.set_cons_succ]
  refine wpAnyH_ready (rs := [20]) (by kernel_rfl) (by simp) ?_
  refine AllReadyH.cons (o := { dst := none, op := Go.Op.store 30 (Go.Operand.tmp 4) (Go.Operand.tmp 73), type := 0, pos := "deframe.go:79", after := #[{ on := 18, ground := Go.Ground.data }, { on := 17, ground := Go.Ground.chain }, { on := 0, ground := Go.Ground.phase }, { on := 1, ground := Go.Ground.phase }, { on := 2, ground := Go.Ground.phase }, { on := 3, ground := Go.Ground.phase }, { on := 4, ground := Go.Ground.phase }, { on := 5, ground := Go.Ground.phase }, { on := 6, ground := Go.Ground.phase }, { on := 7, ground := Go.Ground.phase }, { on := 8, ground := Go.Ground.phase }, { on := 9, ground := Go.Ground.phase }, { on := 10, ground := Go.Ground.phase }, { on := 11, ground := Go.Ground.phase }, { on := 12, ground := Go.Ground.phase }, { on := 13, ground := Go.Ground.phase }, { on := 14, ground := Go.Ground.phase }, { on := 15, ground := Go.Ground.phase }, { on := 16, ground := Go.Ground.phase }, { on := 17, ground := Go.Ground.phase }, { on := 18, ground := Go.Ground.phase }, { on := 19, ground := Go.Ground.phase }], guard := none }) rfl (fun K hK => ?_) AllReadyH.nil
  go_simp
  refine hK.out _ _ (two_set hn1 z1 z2 _ _ _ _ _ _ _) (fun hHeld => ?_)
  clear hK K
  (try simp only [Act.put, List.setIfInBounds_toArray, List.set_cons_zero, List.set_cons_succ])
  refine' wpAnyH_take (i := 21) (oi := { dst := some 5, op := Go.Op.assign (Go.Operand.tmp 74), type := 4, pos := "deframe.go:79", after := #[{ on := 19, ground := Go.Ground.data }, { on := 20, ground := Go.Ground.chain }, { on := 0, ground := Go.Ground.phase }, { on := 1, ground := Go.Ground.phase }, { on := 2, ground := Go.Ground.phase }, { on := 3, ground := Go.Ground.phase }, { on := 4, ground := Go.Ground.phase }, { on := 5, ground := Go.Ground.phase }, { on := 6, ground := Go.Ground.phase }, { on := 7, ground := Go.Ground.phase }, { on := 8, ground := Go.Ground.phase }, { on := 9, ground := Go.Ground.phase }, { on := 10, ground := Go.Ground.phase }, { on := 11, ground := Go.Ground.phase }, { on := 12, ground := Go.Ground.phase }, { on := 13, ground := Go.Ground.phase }, { on := 14, ground := Go.Ground.phase }, { on := 15, ground := Go.Ground.phase }, { on := 16, ground := Go.Ground.phase }, { on := 17, ground := Go.Ground.phase }, { on := 18, ground := Go.Ground.phase }, { on := 19, ground := Go.Ground.phase }, { on := 20, ground := Go.Ground.phase }], guard := none }) (v := _) rfl (by kernel_rfl) (by kernel_rfl) (by kernel_rfl) (fun _ _ _ h => h) (Or.inl ⟨by rfl, ?hy68⟩) (by assumption) ?hr68
  case hy68 => (intro _ hSw; (try dsimp only at hSw); go_simp <;> with_reducible rfl)
  simp only [Act.put, List.setIfInBounds_toArray, List.set_cons_zero, List.set_cons_succ]
  refine wpAnyH_done (by kernel_rfl) ?_ _
  clear hHeld
  go_wp2
  exact bodyPost_ret (v := .tuple #[noFr, .bool false]) (by simp [results, Tryd.results37, go_sem, k0, k1, k2, k3, k4, k5, k6]) rfl ⟨rfl, HN.out.ret H.out rfl _ _ _ _ _ _ _⟩
theorem fwritten_ok (w : World) (D : Nat) (c : Cf) (q : St) (v : Value) (h : DfAt w D c q v) (hb : q.bad ≤ 1000000) (ht : Tabs w) (hm0 : q.got.length ≠ 0) (hm : q.got.length ≤ most c) (hr8 : c.room ≤ 128) (g : Fr) (r : Nat) (hd : DecA ⟨q.got.toArray⟩ c.ini c.room g r) :
    Calls Tryd.prog 37 #[ptr D, .int .u8 126] w fun e w' => e = .returned (ansV (judge c q (g, r)).2) ∧ Next D c w v (judge c q (g, r)).1 w' := by
  by_cases hr : r = 0
  · subst hr
    exact fwritten_yes w D c q v h hb ht hm0 hm hr8 g hd
  · have e : judge c q (g, r) = (spoil c q (flagB c), none) := if_neg hr
    rw [e]
    exact fwritten_bad w D c q v h hb ht hm0 hm hr8 g r hr hd
set_option maxHeartbeats 1000000 in
theorem fleast (s : ByteArray) (hs : s.size ≤ 1000) (w : World) :
    Calls Tryd.prog 59 #[.string s] w fun e w' => e = .returned (.int .i64 (tkN (s.data.toList ++ [1]) : Int)) ∧ w = w' := by
  have C : ∀ w, Calls Tryd.prog 58 #[.string (s ++ ⟨#[1]⟩)] w fun e w' => e = .returned (.tuple #[.int .i64 (tkN (s.data.toList ++ [1]) : Int), .int .i64 (tkZ (s.data.toList ++ [1]) : Int), .int .i64 (tkE (s.data.toList ++ [1]) : Int)]) ∧ w = w' := fun w => by
    have p := take (s ++ ⟨#[1]⟩) w (by rw [ByteArray.size_append]; show s.size + 1 ≤ _; unfold maxLen; omega)
    rw [app_list] at p
    exact p
  have HC := Lib.hid C
  have hz : s.size + (⟨#[1]⟩ : ByteArray).size ≤ 9223372036854775807 := by show s.size + 1 ≤ _; omega
  clear C
  go_enter Tryd.func59, Tryd.ntmps59
  go_wp2_with (go_at_call 58; ((with_reducible refine (HC.out _).mono ?_); rintro e w' ⟨rfl, rfl⟩))
  go_ret
  exact ⟨rfl, rfl⟩
theorem own_n {w : World} {base g n cap : Nat} {l : List UInt8} (h : Own w base (.slice (some ⟨g, 0, none⟩) n cap) l) : n = l.length ∧ n ≤ cap := by
  rcases h.2 with ⟨h1, _⟩ | ⟨g', cap', cur, h1, h2, h3, h4, h5, h6, h7⟩
  · cases h1
  · injection h1 with e1 e2 e3
    subst e2
    subst e3
    exact ⟨rfl, h4⟩
theorem conv_drop {w : World} {base g n cap : Nat} {l : List UInt8} (h : Own w base (.slice (some ⟨g, 0, none⟩) n cap) l) (h2 : 2 ≤ n) :
    (convert 42 9 (.slice (some ⟨g, 2, none⟩) (n - 2) (cap - 2))).run Tryd.prog w = .ok (.string ⟨(l.drop 2).toArray⟩) w := by
  have hn := (own_n h).1
  have hc := run_convert_bytes_arg (P := Tryd.prog) w 42 5 Tryd.underlying42 Tryd.underlying5 g 2 (n - 2) (cap - 2)
    ((l.drop 2).map fun c => (c.toNat : Int)) (by simp; omega) (fun i hi => by
      have hi' : i < (l.drop 2).length := by simp; omega
      have hi2 : 2 + i < l.length := by simp at hi'; omega
      rw [h.cells (2 + i) hi2, map_getD (fun c : UInt8 => (c.toNat : Int)) _ i 0 0 hi']
      simp [val8, List.getD, List.getElem?_drop]) 9 Tryd.underlying9
  rw [hc]
  have e : strOfNums ((l.drop 2).map fun c => (c.toNat : Int)) = ⟨(l.drop 2).toArray⟩ := by
    unfold strOfNums
    rw [List.map_map]
    have hid : ((fun n : Int => UInt8.ofNat n.toNat) ∘ fun c : UInt8 => (c.toNat : Int)) = id := by
      funext c; simp
    rw [hid, List.map_id]
  rw [e]
/-- What a call leaves that went on from a world W where what was gathered had grown. -/
theorem Next.ret2 {D : Nat} {c : Cf} {w W w3 : World} {v v2 : Value} {q q0 : St} {n : Nat} (h0 : DfAt w D c q0 v) (hK : Kp D v.ownBlock w W) (hL : Lies w v v2) (hne : v2.ownBlock = none ∨ v2.ownBlock ≠ some n) (hn : w.heap.size = n) (hW : n < W.heap.size) (h : Next D c W v2 q w3) (v0 v1 u2 v3 v4 v5 v6 : Value) :
    Next D c w v q (((((((w3.setCell ⟨n, 0, none⟩ v0).setCell ⟨n, 1, none⟩ v1).setCell ⟨n, 2, none⟩ u2).setCell ⟨n, 3, none⟩ v3).setCell ⟨n, 4, none⟩ v4).setCell ⟨n, 5, none⟩ v5).setCell ⟨n, 6, none⟩ v6) := by
  obtain ⟨v', h1, h2, h3⟩ := h
  have hD := h0.lt
  have hnD : n ≠ D := by omega
  have hv : v'.ownBlock = none ∨ v'.ownBlock ≠ some n := by
    rcases h3 with h3 | h3
    · rw [h3]; exact hne
    · refine Or.inr fun e => ?_
      have := h3 _ e
      omega
  have hK' : Kp D v.ownBlock w w3 := hK.next hL h2
  exact ⟨v', ((((((h1.set _ _ _ hnD hv).set _ _ _ hnD hv).set _ _ _ hnD hv).set _ _ _ hnD hv).set _ _ _ hnD hv).set _ _ _ hnD hv).set _ _ _ hnD hv, ((((((hK'.new (Nat.le_of_eq hn) _).new (Nat.le_of_eq hn) _).new (Nat.le_of_eq hn) _).new (Nat.le_of_eq hn) _).new (Nat.le_of_eq hn) _).new (Nat.le_of_eq hn) _).new (Nat.le_of_eq hn) _, lies_on hL hK.size h3⟩
theorem Next.frame {D : Nat} {c : Cf} {W w3 : World} {v2 : Value} {q : St} {n : Nat} {o : Obj} (h : Next D c W v2 q w3) (ho : W.heap[n]? = some o) (hD : n ≠ D) (hne : v2.ownBlock = none ∨ v2.ownBlock ≠ some n) : w3.heap[n]? = some o := by
  obtain ⟨v', _, h2, _⟩ := h
  refine h2.at ho hD (fun e => ?_)
  rcases hne with h | h
  · rw [h] at e; cases e
  · exact h e.symm
theorem DfAt.drewN {w : World} {D : Nat} {c : Cf} {q : St} {v : Value} (h : DfAt w D c q v) (n : Nat) : DfAt (w.drewN n) D c q v := ⟨h.blk, h.own⟩
theorem Kp.drewN {D : Nat} {r : Option Nat} {a b : World} (h : Kp D r a b) (n : Nat) : Kp D r a (b.drewN n) := ⟨h.os, h.tape, h.output, h.size, h.block⟩
theorem own_big {w : World} {base g n cap : Nat} {l : List UInt8} {b : UInt8} (h : Own w base (.slice (some ⟨g, 0, none⟩) n cap) (l ++ [b])) (h2 : 2 ≤ l.length) : 2 ≤ n ∧ n ≤ cap ∧ 3 ≤ n := by
  have h1 := own_n h
  rw [List.length_append] at h1
  exact ⟨by omega, h1.2, by have := h1.1; simp only [List.length_cons, List.length_nil] at this; omega⟩
def TakeIs (o : ByteArray) (n z e : Nat) : Prop := ∀ w, Calls Tryd.prog 58 #[.string o] w fun r w' => r = .returned (.tuple #[.int .i64 (n : Int), .int .i64 (z : Int), .int .i64 (e : Int)]) ∧ w = w'
def LeastIs (o : ByteArray) (n : Nat) : Prop := ∀ w, Calls Tryd.prog 59 #[.string o] w fun r w' => r = .returned (.int .i64 (n : Int)) ∧ w = w'
def LenIs (n : Nat) (t : ByteArray) : Prop := ∀ w, Calls Tryd.prog 33 #[.int .i64 (n : Int)] w fun r w' => r = .returned (.string t) ∧ Below w.heap.size w w'
theorem TakeIs.out {o : ByteArray} {n z e : Nat} (h : Hid (TakeIs o n z e)) (w : World) : Calls Tryd.prog 58 #[.string o] w fun r w' => r = .returned (.tuple #[.int .i64 (n : Int), .int .i64 (z : Int), .int .i64 (e : Int)]) ∧ w = w' := h.out w
theorem LeastIs.out {o : ByteArray} {n : Nat} (h : Hid (LeastIs o n)) (w : World) : Calls Tryd.prog 59 #[.string o] w fun r w' => r = .returned (.int .i64 (n : Int)) ∧ w = w' := h.out w
theorem LenIs.out {n : Nat} {t : ByteArray} (h : Hid (LenIs n t)) (w : World) : Calls Tryd.prog 33 #[.int .i64 (n : Int)] w fun r w' => r = .returned (.string t) ∧ Below w.heap.size w w' := h.out w
set_option maxHeartbeats 1000000 in
set_option maxRecDepth 100000 in
theorem flength_1 (w : World) (D : Nat) (c : Cf) (q : St) (v : Value) (b : UInt8) (h : DfAt w D c q v) (hl : q.got.length ≤ 300) (h2 : 2 ≤ q.got.length) (hb : q.bad ≤ 1000000) (o : ByteArray) (ho : (⟨((q.got ++ [b]).drop 2).toArray⟩ : ByteArray) = o) (n z e m : Nat) (ct : TakeIs o n z e) (cl : LeastIs o m) (he : e ≠ 0) (hm : c.room < m) :
    Calls Tryd.prog 54 #[ptr D, .int .u8 (b.toNat : Int)] w fun e w' => e = .returned (.tuple #[noFr, .bool false]) ∧ Next D c w v (spoil c (more q b) b) w' := by
  have H := Lib.hid h
  have HL := Lib.hid hl
  have HB : Hid ((more q b).bad ≤ 1000000) := Lib.hid (show q.bad ≤ 1000000 from hb)
  have H2 := Lib.hid h2
  have HO := Lib.hid ho
  have CT := Lib.hid ct
  have CL := Lib.hid cl
  obtain ⟨-, -, -, -, G4, -, -⟩ := h.cells
  have hf := h.free
  have hlt := h.lt
  have hn1 : ¬ D = w.heap.size := by omega
  have hn2 : ¬ w.heap.size = D := by omega
  have n0 : ((e : Int) != 0) = true := by rw [bne_iff_ne]; omega
  have n1 : decide ((m : Int) > (c.room : Int)) = true := by simp; omega
  have n3 : (c.room : Int) < (m : Int) := by omega
  clear h hl hb h2 ho ct cl he hm
  go_enter Tryd.func54, Tryd.ntmps54
  go_wp2_with (first
    | (at_builtin; refine wpList_append_bytes _ rfl _ _ rfl (D + 1) _ rfl _ ((H.out.own.alloc _).alloc _) _ _ _ rfl [b] rfl (cells_byte w b) (by have := HL.out; omega) (by have := H.out.lt; simp; omega) ?_; intro v2 w2 ho hg hv; obtain ⟨gb, gn, gc, rfl⟩ := own_some ho; have HG := Lib.hid (grew H.out ho hg hv); clear hg hv; obtain ⟨g0, g1, g2, g3, g4, g5, g6⟩ := HG.out.cells; have hf2 := HG.out.free; obtain ⟨⟨k0, k1, k2, k3, k4, k5, k6⟩, kf⟩ := no_cells HG.out.fr; obtain ⟨x1, x2, x6⟩ := own_big ho H2.out; have x4 : ¬ gc = 2 := (by omega); have x5 : ¬ gc - 2 = 0 := (by omega); have x3 : (2 : Int) ≤ (gn : Int) := (by omega); have hcv := conv_drop (own_D HG.out.own 4 (.slice (some ⟨gb, 0, none⟩) gn gc)) x1; rw [HO.out] at hcv; have HW := Lib.hid (Raw.at (q := more q b) (Raw.set4 HG.out.raw (.slice (some ⟨gb, 0, none⟩) gn gc)) (own_D HG.out.own _ _) rfl); have HK := Lib.hid (HG.out.kp.set 4 (.slice (some ⟨gb, 0, none⟩) gn gc)); clear ho)
    | (go_at_call 58; ((with_reducible refine (TakeIs.out CT _).mono ?_); rintro e w' ⟨rfl, rfl⟩)))
  go_quiet ((go_at_call 59; exact quiet_left (LeastIs.out CL _)))
  go_wp2_with (first
    | (go_at_call 47; ((with_reducible refine (fspoil _ D c (more q b) _ b (HW.out.drewN _) HB.out).mono ?_); rintro e w4 ⟨rfl, hn⟩; have HN := Lib.hid hn; clear hn; obtain ⟨⟨k0, k1, k2, k3, k4, k5, k6⟩, kf⟩ := no_cells (HN.out.frame (show (World.drewN _ _).heap[w.heap.size]? = some noObj from ((Below.heap_setCell _ _ _ _ hn2).trans HG.out.fr)) hn2 HG.out.ne))))
  exact bodyPost_ret (v := .tuple #[noFr, .bool false]) (by simp [results, Tryd.results54, go_sem, k0, k1, k2, k3, k4, k5, k6]) rfl ⟨rfl, Next.ret2 H.out (HK.out.drewN _) HG.out.lies HG.out.ne rfl (lt_heap HG.out.fr |> fun h => by simpa [World.setCell] using h) HN.out _ _ _ _ _ _ _⟩
set_option maxHeartbeats 1000000 in
set_option maxRecDepth 100000 in
theorem flength_2 (w : World) (D : Nat) (c : Cf) (q : St) (v : Value) (b : UInt8) (h : DfAt w D c q v) (hl : q.got.length ≤ 300) (h2 : 2 ≤ q.got.length) (hb : q.bad ≤ 1000000) (o : ByteArray) (ho : (⟨((q.got ++ [b]).drop 2).toArray⟩ : ByteArray) = o) (n z e m : Nat) (ct : TakeIs o n z e) (cl : LeastIs o m) (he : e ≠ 0) (hm : ¬ c.room < m) :
    Calls Tryd.prog 54 #[ptr D, .int .u8 (b.toNat : Int)] w fun e w' => e = .returned (.tuple #[noFr, .bool false]) ∧ Next D c w v (more q b) w' := by
  have H := Lib.hid h
  have HL := Lib.hid hl
  have HB : Hid ((more q b).bad ≤ 1000000) := Lib.hid (show q.bad ≤ 1000000 from hb)
  have H2 := Lib.hid h2
  have HO := Lib.hid ho
  have CT := Lib.hid ct
  have CL := Lib.hid cl
  obtain ⟨-, -, -, -, G4, -, -⟩ := h.cells
  have hf := h.free
  have hlt := h.lt
  have hn1 : ¬ D = w.heap.size := by omega
  have hn2 : ¬ w.heap.size = D := by omega
  have n0 : ((e : Int) != 0) = true := by rw [bne_iff_ne]; omega
  have n1 : decide ((m : Int) > (c.room : Int)) = false := by simp; omega
  have n3 : ¬ (c.room : Int) < (m : Int) := by omega
  clear h hl hb h2 ho ct cl he hm
  go_enter Tryd.func54, Tryd.ntmps54
  go_wp2_with (first
    | (at_builtin; refine wpList_append_bytes _ rfl _ _ rfl (D + 1) _ rfl _ ((H.out.own.alloc _).alloc _) _ _ _ rfl [b] rfl (cells_byte w b) (by have := HL.out; omega) (by have := H.out.lt; simp; omega) ?_; intro v2 w2 ho hg hv; obtain ⟨gb, gn, gc, rfl⟩ := own_some ho; have HG := Lib.hid (grew H.out ho hg hv); clear hg hv; obtain ⟨g0, g1, g2, g3, g4, g5, g6⟩ := HG.out.cells; have hf2 := HG.out.free; obtain ⟨⟨k0, k1, k2, k3, k4, k5, k6⟩, kf⟩ := no_cells HG.out.fr; obtain ⟨x1, x2, x6⟩ := own_big ho H2.out; have x4 : ¬ gc = 2 := (by omega); have x5 : ¬ gc - 2 = 0 := (by omega); have x3 : (2 : Int) ≤ (gn : Int) := (by omega); have hcv := conv_drop (own_D HG.out.own 4 (.slice (some ⟨gb, 0, none⟩) gn gc)) x1; rw [HO.out] at hcv; have HW := Lib.hid (Raw.at (q := more q b) (Raw.set4 HG.out.raw (.slice (some ⟨gb, 0, none⟩) gn gc)) (own_D HG.out.own _ _) rfl); have HK := Lib.hid (HG.out.kp.set 4 (.slice (some ⟨gb, 0, none⟩) gn gc)); clear ho)
    | (go_at_call 58; ((with_reducible refine (TakeIs.out CT _).mono ?_); rintro e w' ⟨rfl, rfl⟩)))
  go_quiet ((go_at_call 59; exact quiet_left (LeastIs.out CL _)))
  go_wp2
  exact bodyPost_ret (v := .tuple #[noFr, .bool false]) (by simp [results, Tryd.results54, go_sem, k0, k1, k2, k3, k4, k5, k6]) rfl ⟨rfl, Next.fin H.out (show Raw (World.drewN _ _) D c q.m _ q.left q.bad from (HW.out.drewN _).blk) (HW.out.drewN _).own (HK.out.drewN _) HG.out.lies HG.out.ne rfl _ _ _ _ _ _ _ rfl⟩
set_option maxHeartbeats 1000000 in
set_option maxRecDepth 100000 in
theorem flength_3 (w : World) (D : Nat) (c : Cf) (q : St) (v : Value) (b : UInt8) (h : DfAt w D c q v) (hl : q.got.length ≤ 300) (h2 : 2 ≤ q.got.length) (hb : q.bad ≤ 1000000) (o : ByteArray) (ho : (⟨((q.got ++ [b]).drop 2).toArray⟩ : ByteArray) = o) (n z e : Nat) (ct : TakeIs o n z e) (he : e = 0) (hm : c.room < n) :
    Calls Tryd.prog 54 #[ptr D, .int .u8 (b.toNat : Int)] w fun e w' => e = .returned (.tuple #[noFr, .bool false]) ∧ Next D c w v (spoil c (more q b) b) w' := by
  have H := Lib.hid h
  have HL := Lib.hid hl
  have HB : Hid ((more q b).bad ≤ 1000000) := Lib.hid (show q.bad ≤ 1000000 from hb)
  have H2 := Lib.hid h2
  have HO := Lib.hid ho
  have CT := Lib.hid ct
  obtain ⟨-, -, -, -, G4, -, -⟩ := h.cells
  have hf := h.free
  have hlt := h.lt
  have hn1 : ¬ D = w.heap.size := by omega
  have hn2 : ¬ w.heap.size = D := by omega
  have n0 : ((e : Int) != 0) = false := by rw [bne_eq_false_iff_eq]; omega
  have n1 : decide ((n : Int) > (c.room : Int)) = true := by simp; omega
  have n3 : (c.room : Int) < (n : Int) := by omega
  clear h hl hb h2 ho ct he hm
  go_enter Tryd.func54, Tryd.ntmps54
  go_wp2_with (first
    | (at_builtin; refine wpList_append_bytes _ rfl _ _ rfl (D + 1) _ rfl _ ((H.out.own.alloc _).alloc _) _ _ _ rfl [b] rfl (cells_byte w b) (by have := HL.out; omega) (by have := H.out.lt; simp; omega) ?_; intro v2 w2 ho hg hv; obtain ⟨gb, gn, gc, rfl⟩ := own_some ho; have HG := Lib.hid (grew H.out ho hg hv); clear hg hv; obtain ⟨g0, g1, g2, g3, g4, g5, g6⟩ := HG.out.cells; have hf2 := HG.out.free; obtain ⟨⟨k0, k1, k2, k3, k4, k5, k6⟩, kf⟩ := no_cells HG.out.fr; obtain ⟨x1, x2, x6⟩ := own_big ho H2.out; have x4 : ¬ gc = 2 := (by omega); have x5 : ¬ gc - 2 = 0 := (by omega); have x3 : (2 : Int) ≤ (gn : Int) := (by omega); have hcv := conv_drop (own_D HG.out.own 4 (.slice (some ⟨gb, 0, none⟩) gn gc)) x1; rw [HO.out] at hcv; have HW := Lib.hid (Raw.at (q := more q b) (Raw.set4 HG.out.raw (.slice (some ⟨gb, 0, none⟩) gn gc)) (own_D HG.out.own _ _) rfl); have HK := Lib.hid (HG.out.kp.set 4 (.slice (some ⟨gb, 0, none⟩) gn gc)); clear ho)
    | (go_at_call 58; ((with_reducible refine (TakeIs.out CT _).mono ?_); rintro e w' ⟨rfl, rfl⟩))
    | (go_at_call 47; ((with_reducible refine (fspoil _ D c (more q b) _ b (HW.out) HB.out).mono ?_); rintro e w4 ⟨rfl, hn⟩; have HN := Lib.hid hn; clear hn; obtain ⟨⟨k0, k1, k2, k3, k4, k5, k6⟩, kf⟩ := no_cells (HN.out.frame ((Below.heap_setCell _ _ _ _ hn2).trans HG.out.fr) hn2 HG.out.ne))))
  exact bodyPost_ret (v := .tuple #[noFr, .bool false]) (by simp [results, Tryd.results54, go_sem, k0, k1, k2, k3, k4, k5, k6]) rfl ⟨rfl, Next.ret2 H.out HK.out HG.out.lies HG.out.ne rfl (lt_heap HG.out.fr |> fun h => by simpa [World.setCell] using h) HN.out _ _ _ _ _ _ _⟩
set_option maxHeartbeats 1000000 in
set_option maxRecDepth 100000 in
theorem flength_4 (w : World) (D : Nat) (c : Cf) (q : St) (v : Value) (b : UInt8) (h : DfAt w D c q v) (hl : q.got.length ≤ 300) (h2 : 2 ≤ q.got.length) (hb : q.bad ≤ 1000000) (o : ByteArray) (ho : (⟨((q.got ++ [b]).drop 2).toArray⟩ : ByteArray) = o) (n z e : Nat) (t : ByteArray) (ct : TakeIs o n z e) (cn : LenIs n t) (he : e = 0) (hm : ¬ c.room < n) (hne : t ≠ o) :
    Calls Tryd.prog 54 #[ptr D, .int .u8 (b.toNat : Int)] w fun e w' => e = .returned (.tuple #[noFr, .bool false]) ∧ Next D c w v (spoil c (more q b) b) w' := by
  have H := Lib.hid h
  have HL := Lib.hid hl
  have HB : Hid ((more q b).bad ≤ 1000000) := Lib.hid (show q.bad ≤ 1000000 from hb)
  have H2 := Lib.hid h2
  have HO := Lib.hid ho
  have CT := Lib.hid ct
  have CN := Lib.hid cn
  obtain ⟨-, -, -, -, G4, -, -⟩ := h.cells
  have hf := h.free
  have hlt := h.lt
  have hn1 : ¬ D = w.heap.size := by omega
  have hn2 : ¬ w.heap.size = D := by omega
  have n0 : ((e : Int) != 0) = false := by rw [bne_eq_false_iff_eq]; omega
  have n1 : decide ((n : Int) > (c.room : Int)) = false := by simp; omega
  have n3 : ¬ (c.room : Int) < (n : Int) := by omega
  have n4 := ne_list hne
  clear h hl hb h2 ho ct cn he hm hne
  go_enter Tryd.func54, Tryd.ntmps54
  go_wp2_with (first
    | (at_builtin; refine wpList_append_bytes _ rfl _ _ rfl (D + 1) _ rfl _ ((H.out.own.alloc _).alloc _) _ _ _ rfl [b] rfl (cells_byte w b) (by have := HL.out; omega) (by have := H.out.lt; simp; omega) ?_; intro v2 w2 ho hg hv; obtain ⟨gb, gn, gc, rfl⟩ := own_some ho; have HG := Lib.hid (grew H.out ho hg hv); clear hg hv; obtain ⟨g0, g1, g2, g3, g4, g5, g6⟩ := HG.out.cells; have hf2 := HG.out.free; obtain ⟨⟨k0, k1, k2, k3, k4, k5, k6⟩, kf⟩ := no_cells HG.out.fr; obtain ⟨x1, x2, x6⟩ := own_big ho H2.out; have x4 : ¬ gc = 2 := (by omega); have x5 : ¬ gc - 2 = 0 := (by omega); have x3 : (2 : Int) ≤ (gn : Int) := (by omega); have hcv := conv_drop (own_D HG.out.own 4 (.slice (some ⟨gb, 0, none⟩) gn gc)) x1; rw [HO.out] at hcv; have HW := Lib.hid (Raw.at (q := more q b) (Raw.set4 HG.out.raw (.slice (some ⟨gb, 0, none⟩) gn gc)) (own_D HG.out.own _ _) rfl); have HK := Lib.hid (HG.out.kp.set 4 (.slice (some ⟨gb, 0, none⟩) gn gc)); clear ho)
    | (go_at_call 58; ((with_reducible refine (TakeIs.out CT _).mono ?_); rintro e w' ⟨rfl, rfl⟩))
    | (go_at_call 33; ((with_reducible refine (LenIs.out CN _).mono ?_); rintro e w3 ⟨rfl, hb⟩; have HB3 := Lib.hid hb; clear hb))
    | (go_at_call 47; ((with_reducible refine (fspoil _ D c (more q b) _ b (HW.out.below HB3.out) HB.out).mono ?_); rintro e w4 ⟨rfl, hn⟩; have HN := Lib.hid hn; clear hn; obtain ⟨⟨k0, k1, k2, k3, k4, k5, k6⟩, kf⟩ := no_cells (HN.out.frame (stays ((Below.heap_setCell _ _ _ _ hn2).trans HG.out.fr) HB3.out) hn2 HG.out.ne))))
  exact bodyPost_ret (v := .tuple #[noFr, .bool false]) (by simp [results, Tryd.results54, go_sem, k0, k1, k2, k3, k4, k5, k6]) rfl ⟨rfl, Next.ret2 H.out (HK.out.on HB3.out) HG.out.lies HG.out.ne rfl (lt_heap (stays ((Below.heap_setCell _ _ _ _ hn2).trans HG.out.fr) HB3.out)) HN.out _ _ _ _ _ _ _⟩
set_option maxHeartbeats 1000000 in
set_option maxRecDepth 100000 in
theorem flength_5 (w : World) (D : Nat) (c : Cf) (q : St) (v : Value) (b : UInt8) (h : DfAt w D c q v) (hl : q.got.length ≤ 300) (h2 : 2 ≤ q.got.length) (hb : q.bad ≤ 1000000) (o : ByteArray) (ho : (⟨((q.got ++ [b]).drop 2).toArray⟩ : ByteArray) = o) (n z e : Nat) (ct : TakeIs o n z e) (cn : LenIs n o) (he : e = 0) (hm : ¬ c.room < n) (hr : c.room ≤ 128) :
    Calls Tryd.prog 54 #[ptr D, .int .u8 (b.toNat : Int)] w fun e w' => e = .returned (.tuple #[noFr, .bool false]) ∧ Next D c w v { more q b with left := n + 1, m := 5 } w' := by
  have H := Lib.hid h
  have HL := Lib.hid hl
  have HB : Hid ((more q b).bad ≤ 1000000) := Lib.hid (show q.bad ≤ 1000000 from hb)
  have H2 := Lib.hid h2
  have HO := Lib.hid ho
  have CT := Lib.hid ct
  have CN := Lib.hid cn
  obtain ⟨-, -, -, -, G4, -, -⟩ := h.cells
  have hf := h.free
  have hlt := h.lt
  have hn1 : ¬ D = w.heap.size := by omega
  have hn2 : ¬ w.heap.size = D := by omega
  have n0 : ((e : Int) != 0) = false := by rw [bne_eq_false_iff_eq]; omega
  have n1 : decide ((n : Int) > (c.room : Int)) = false := by simp; omega
  have n3 : ¬ (c.room : Int) < (n : Int) := by omega
  have n5 : n ≤ 128 := by omega
  have HX : Hid (((n + 1 : Nat) : Int) = (n : Int) + 1) := Lib.hid (by omega)
  clear h hl hb h2 ho ct cn he hm hr
  go_enter Tryd.func54, Tryd.ntmps54
  go_wp2_with (first
    | (at_builtin; refine wpList_append_bytes _ rfl _ _ rfl (D + 1) _ rfl _ ((H.out.own.alloc _).alloc _) _ _ _ rfl [b] rfl (cells_byte w b) (by have := HL.out; omega) (by have := H.out.lt; simp; omega) ?_; intro v2 w2 ho hg hv; obtain ⟨gb, gn, gc, rfl⟩ := own_some ho; have HG := Lib.hid (grew H.out ho hg hv); clear hg hv; obtain ⟨g0, g1, g2, g3, g4, g5, g6⟩ := HG.out.cells; have hf2 := HG.out.free; obtain ⟨⟨k0, k1, k2, k3, k4, k5, k6⟩, kf⟩ := no_cells HG.out.fr; obtain ⟨x1, x2, x6⟩ := own_big ho H2.out; have x4 : ¬ gc = 2 := (by omega); have x5 : ¬ gc - 2 = 0 := (by omega); have x3 : (2 : Int) ≤ (gn : Int) := (by omega); have hcv := conv_drop (own_D HG.out.own 4 (.slice (some ⟨gb, 0, none⟩) gn gc)) x1; rw [HO.out] at hcv; have HW := Lib.hid (Raw.at (q := more q b) (Raw.set4 HG.out.raw (.slice (some ⟨gb, 0, none⟩) gn gc)) (own_D HG.out.own _ _) rfl); have HK := Lib.hid (HG.out.kp.set 4 (.slice (some ⟨gb, 0, none⟩) gn gc)); clear ho)
    | (go_at_call 58; ((with_reducible refine (TakeIs.out CT _).mono ?_); rintro e w' ⟨rfl, rfl⟩))
    | (go_at_call 33; ((with_reducible refine (LenIs.out CN _).mono ?_); rintro e w3 ⟨rfl, hb⟩; have HB3 := Lib.hid hb; clear hb; have HW3 := Lib.hid (HW.out.below HB3.out); obtain ⟨g0, g1, g2, g3, g4, g5, g6⟩ := HW3.out.cells; have hf3 := HW3.out.free; obtain ⟨⟨k0, k1, k2, k3, k4, k5, k6⟩, kf⟩ := no_cells (stays ((Below.heap_setCell _ _ _ _ hn2).trans HG.out.fr) HB3.out))))
  exact bodyPost_ret (v := .tuple #[noFr, .bool false]) (by simp [results, Tryd.results54, go_sem, k0, k1, k2, k3, k4, k5, k6]) rfl ⟨rfl, Next.fin H.out ((Raw.set5 HW3.out.blk (n + 1) HX.out).set3 5 rfl) (own_D (own_D HW3.out.own _ _) _ _) (((HK.out.on HB3.out).set _ _).set _ _) HG.out.lies HG.out.ne rfl _ _ _ _ _ _ _ rfl⟩
end Go.Proofs.YthlciaomfpephaaDoor.Df

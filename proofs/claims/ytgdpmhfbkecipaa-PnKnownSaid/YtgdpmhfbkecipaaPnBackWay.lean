/-
  PnBack where the octets are at most a hundred: over the contracts of what it calls.
-/
import Derived.Test.YtgdpmhfbkecipaaPnWorks
import Derived.Deep.DeepCutAuto
namespace Go.Proofs.Ytgdpmhfbkecipaa.pnBack
open Go.RowKit Go.Proofs.Ytgdpmhfbkecipaa.Base Go.Proofs.Ytgdpmhfbkecipaa.Mem Go.Proofs.Ytgdpmhfbkecipaa.Pn
/-- The two that came in lie in their blocks. -/
structure Two (w wx : World) (o a : Pr) : Prop where
  o : wx.heap[w.heap.size]? = some (pO o 23)
  a : wx.heap[w.heap.size + 1]? = some (pO a 23)
  b : Below w.heap.size w wx
theorem Two.next {w u v : World} {o a : Pr} (h : Two w u o a) (hb : Below u.heap.size u v) : Two w v o a := ⟨stays h.o hb, stays h.a hb, below_on h.b hb⟩
theorem two_new (w : World) (o a : Pr) : Two w ((w.alloc (pO o 23)).alloc (pO a 23)) o a := ⟨nest w [_, _] 0 _ rfl, nest w [_, _] 1 _ rfl, nest_below w [_, _]⟩
theorem Two.alloc {w u : World} {o a : Pr} (h : Two w u o a) (x : Obj) : Two w (u.alloc x) o a := h.next ((Below.refl _ _).alloc (Nat.le_refl _) x)
theorem set8_far {w : World} {b c : Nat} {o : Obj} (h : w.heap[c]? = some o) (hne : c ≠ b) (v0 v1 v2 v3 v4 v5 v6 v7 : Value) : ((((((((w.setCell ⟨b, 0, none⟩ v0).setCell ⟨b, 1, none⟩ v1).setCell ⟨b, 2, none⟩ v2).setCell ⟨b, 3, none⟩ v3).setCell ⟨b, 4, none⟩ v4).setCell ⟨b, 5, none⟩ v5).setCell ⟨b, 6, none⟩ v6).setCell ⟨b, 7, none⟩ v7).heap[c]? = some o := by
  have s : ∀ (u : World) (i : Nat) (v : Value), u.heap[c]? = some o → (u.setCell ⟨b, i, none⟩ v).heap[c]? = some o := fun u i v h => (Below.heap_setCell _ _ _ _ hne).trans h
  exact s _ _ _ (s _ _ _ (s _ _ _ (s _ _ _ (s _ _ _ (s _ _ _ (s _ _ _ (s _ _ _ h)))))))
set_option maxHeartbeats 4000000 in
set_option maxRecDepth 100000 in
theorem way (o a q1 q x y : Pr) (v S Tx : ByteArray) (E e1 g hE : Int) (mo ma mx : Bool) (hv : ¬ 100 < v.size) (w : World)
    (CP0 : ∀ w, Calls Try.prog 8 #[pv a] w fun x w' => x = .returned (.tuple #[.string S, .int .i64 E]) ∧ Below w.heap.size w w')
    (CG0 : ∀ w, Calls Try.prog 11 #[.string S] w fun x w' => x = .returned (.tuple #[pv q1, .int .i64 e1]) ∧ Below w.heap.size w w')
    (CQ0 : ∀ w, Calls Try.prog 11 #[.string v] w fun x w' => x = .returned (.tuple #[pv q, .int .i64 g]) ∧ Below w.heap.size w w')
    (CR0 : ∀ w, Calls Try.prog 8 #[pv q] w fun x w' => x = .returned (.tuple #[.string Tx, .int .i64 hE]) ∧ Below w.heap.size w w')
    (CMa0 : ∀ w, Calls Try.prog 13 #[pv a] w fun x w' => x = .returned (.bool ma) ∧ Below w.heap.size w w')
    (CMo0 : ∀ w, Calls Try.prog 13 #[pv o] w fun x w' => x = .returned (.bool mo) ∧ Below w.heap.size w w')
    (CMx0 : ∀ w, Calls Try.prog 13 #[pv x] w fun e w' => e = .returned (.bool mx) ∧ Below w.heap.size w w')
    (CA10 : ∀ w, Calls Try.prog 15 #[pv o, pv a] w fun e w' => e = .returned (pv x) ∧ Below w.heap.size w w')
    (CA20 : ∀ w, Calls Try.prog 15 #[pv a, pv o] w fun e w' => e = .returned (pv y) ∧ Below w.heap.size w w')
    (CA30 : ∀ w, Calls Try.prog 15 #[pv o, pv x] w fun e w' => e = .returned (pv x) ∧ Below w.heap.size w w')
    (CA40 : ∀ w, Calls Try.prog 15 #[pv a, pv x] w fun e w' => e = .returned (pv x) ∧ Below w.heap.size w w')
    (CL0 : ∀ w, Calls Try.prog 17 #[pv x, pv a] w fun e w' => e = .returned (.bool true) ∧ Below w.heap.size w w')
    (hAB : (ma = true ∧ E = 0 ∧ e1 = 0 ∧ q1 = a) ∨ (ma = false ∧ E = 2 ∧ S = ⟨#[]⟩)) (hCD : (g = 0 ∧ hE = 0 ∧ Tx = v) ∨ ((g = 20 ∨ g = 70) ∧ q = zero))
    (hn : x.n = y.n) (hk : x.k = y.k) (hno : x.n ≤ o.n) (hko : x.k ≤ o.k) (hm : mo = true → ma = true → mx = true) :
    Calls Try.prog 5 #[pv o, pv a, .string v] w fun e w' => e = .returned (.bool true) ∧ Below w.heap.size w w' := by
  have CP := Lib.hid CP0
  have CG := Lib.hid CG0
  have CQ := Lib.hid CQ0
  have CR := Lib.hid CR0
  have CMa := Lib.hid CMa0
  have CMo := Lib.hid CMo0
  have CMx := Lib.hid CMx0
  have CA1 := Lib.hid CA10
  have CA2 := Lib.hid CA20
  have CA3 := Lib.hid CA30
  have CA4 := Lib.hid CA40
  have CL := Lib.hid CL0
  have CW := Lib.hid (fun w => works w)
  have HAB := Lib.hid hAB
  have HCD := Lib.hid hCD
  have HN := Lib.hid hn
  have HK := Lib.hid hk
  have HNO := Lib.hid hno
  have HKO := Lib.hid hko
  have HM := Lib.hid hm
  have HX : ∀ w, (binOp .neq 23 (pv x) (pv x)).run Try.prog w = .ok (.bool false) w := fun w => by rw [run_neP, eqP_self]; rfl
  have HA' : ∀ w, (binOp .neq 23 (pv a) (pv a)).run Try.prog w = .ok (.bool false) w := fun w => by rw [run_neP, eqP_self]; rfl
  have HZ : ∀ w, (binOp .neq 23 noV noV).run Try.prog w = .ok (.bool false) w := fun w => (run_neP zero zero w).trans (by rw [eqP_self]; rfl)
  clear CP0 CG0 CQ0 CR0 CMa0 CMo0 CMx0 CA10 CA20 CA30 CA40 CL0 hAB hCD hn hk hno hko hm
  go_enter Try.func5, Try.ntmps5
  go_upto_region 5 with (first
    | (go_at_call 8; ((with_reducible refine (CP.out _).mono ?_); rintro e w1 ⟨rfl, hb⟩; have HT1 := Lib.hid ((two_new w o a).next hb); clear hb))
    | (go_at_call 11; ((with_reducible refine (CG.out _).mono ?_); rintro e w2 ⟨rfl, hb⟩; have HT2 := Lib.hid (HT1.out.next hb); clear hb)))
  have HT3 : Hid (Two w (w2.alloc (pO q1 23)) o a) := Lib.hid (HT2.out.alloc _)
  have HQ3 : Hid ((w2.alloc (pO q1 23)).heap[w2.heap.size]? = some (pO q1 23)) := Lib.hid (nest w2 [_] 0 _ rfl)
  generalize w2.alloc (pO q1 23) = W3 at *
  go_cut [56] (fun s56 wx => s56 = .bool false ∧ Two w wx o a)
  case first =>
    obtain ⟨j0, j1, j2, j3, j4, j5, j6, j7⟩ := cells_of HT3.out.a
    rcases HAB.out with ⟨rfl, rfl, rfl, rfl⟩ | ⟨rfl, rfl, rfl⟩
    · go_wp2_with (go_at_call 13; ((with_reducible refine (CMa.out _).mono ?_); rintro e w4 ⟨rfl, hb⟩; have HT4 := Lib.hid (HT3.out.next hb); have HQ4 := Lib.hid (stays HQ3.out hb); clear hb j0 j1 j2 j3 j4 j5 j6 j7; obtain ⟨j0, j1, j2, j3, j4, j5, j6, j7⟩ := cells_of HT4.out.a; obtain ⟨g0, g1, g2, g3, g4, g5, g6, g7⟩ := cells_of HQ4.out))
      go_meet
      exact ⟨rfl, HT4.out⟩
    · go_wp2_with (go_at_call 13; ((with_reducible refine (CMa.out _).mono ?_); rintro e w4 ⟨rfl, hb⟩; have HT4 := Lib.hid (HT3.out.next hb); have HQ4 := Lib.hid (stays HQ3.out hb); clear hb j0 j1 j2 j3 j4 j5 j6 j7))
      go_meet
      exact ⟨rfl, HT4.out⟩
  case rest =>
    obtain ⟨rfl, ht⟩ := hcut
    have HTc := Lib.hid ht
    clear ht
    go_upto_region 9 with (first
      | (go_at_call 11; ((with_reducible refine (CQ.out _).mono ?_); rintro e w5 ⟨rfl, hb⟩; have HT5 := Lib.hid (HTc.out.next hb); clear hb))
      | (go_at_call 8; ((with_reducible refine (CR.out _).mono ?_); rintro e w6 ⟨rfl, hb⟩; have HT6 := Lib.hid ((HT5.out.alloc (pO q 23)).next hb); have HQ6 : Hid (w6.heap[w5.heap.size]? = some (pO q 23)) := Lib.hid (fresh hb); clear hb)))
    go_cut [86] (fun s86 wx => s86 = .bool false ∧ w6 = wx)
    case first =>
      rcases HCD.out with ⟨rfl, rfl, rfl⟩ | ⟨rfl | rfl, rfl⟩
      · go_wp2
        go_meet
        exact ⟨rfl, rfl⟩
      · obtain ⟨j0, j1, j2, j3, j4, j5, j6, j7⟩ := no_cells (t := 23) HQ6.out
        go_wp2
        go_meet
        exact ⟨rfl, rfl⟩
      · obtain ⟨j0, j1, j2, j3, j4, j5, j6, j7⟩ := no_cells (t := 23) HQ6.out
        go_wp2
        go_meet
        exact ⟨rfl, rfl⟩
    case rest =>
      obtain ⟨rfl, rfl⟩ := hcut
      go_upto_region 11 with fail
      go_cut [15, 16] (fun s15 s16 wx => ∃ A B, s15 = ptr A ∧ s16 = ptr B ∧ Two w wx o a ∧ wx.heap[A]? = some (pO x 23) ∧ wx.heap[B]? = some (pO y 23))
      case first =>
        have HT := HT6
        obtain ⟨W, hW⟩ : ∃ W, W = w6 := ⟨_, rfl⟩
        rw [← hW] at HT ⊢
        clear hW HT6 HQ6 HT5 HTc
        obtain ⟨g0, g1, g2, g3, g4, g5, g6, g7⟩ := cells_of HT.out.o
        obtain ⟨j0, j1, j2, j3, j4, j5, j6, j7⟩ := cells_of HT.out.a
        have HSB : Hid (∀ w', Below W.heap.size W w' → (w'.cell? ⟨w.heap.size, 0, none⟩ = some (.int .u8 o.d) ∧ w'.cell? ⟨w.heap.size, 1, none⟩ = some (.int .u8 o.f) ∧ w'.cell? ⟨w.heap.size, 2, none⟩ = some (.int .u8 o.c) ∧ w'.cell? ⟨w.heap.size, 3, none⟩ = some (.int .u8 o.r) ∧ w'.cell? ⟨w.heap.size, 4, none⟩ = some (.int .i64 o.t) ∧ w'.cell? ⟨w.heap.size, 5, none⟩ = some (.int .i64 o.n) ∧ w'.cell? ⟨w.heap.size, 6, none⟩ = some (.int .i64 o.z) ∧ w'.cell? ⟨w.heap.size, 7, none⟩ = some (.int .i64 o.k) ∧ w'.cell? ⟨(w.heap.size + 1), 0, none⟩ = some (.int .u8 a.d) ∧ w'.cell? ⟨(w.heap.size + 1), 1, none⟩ = some (.int .u8 a.f) ∧ w'.cell? ⟨(w.heap.size + 1), 2, none⟩ = some (.int .u8 a.c) ∧ w'.cell? ⟨(w.heap.size + 1), 3, none⟩ = some (.int .u8 a.r) ∧ w'.cell? ⟨(w.heap.size + 1), 4, none⟩ = some (.int .i64 a.t) ∧ w'.cell? ⟨(w.heap.size + 1), 5, none⟩ = some (.int .i64 a.n) ∧ w'.cell? ⟨(w.heap.size + 1), 6, none⟩ = some (.int .i64 a.z) ∧ w'.cell? ⟨(w.heap.size + 1), 7, none⟩ = some (.int .i64 a.k) ∧ Below W.heap.size W w')) := Lib.hid (fun w' hb => ⟨cell_below g0 hb, cell_below g1 hb, cell_below g2 hb, cell_below g3 hb, cell_below g4 hb, cell_below g5 hb, cell_below g6 hb, cell_below g7 hb, cell_below j0 hb, cell_below j1 hb, cell_below j2 hb, cell_below j3 hb, cell_below j4 hb, cell_below j5 hb, cell_below j6 hb, cell_below j7 hb, hb⟩)
        have HW : Hid (Below W.heap.size W W.drew) := Lib.hid (Below.refl _ _).drew
        refine wp_region_held_drew (S := fun w' => w'.cell? ⟨w.heap.size, 0, none⟩ = some (.int .u8 o.d) ∧ w'.cell? ⟨w.heap.size, 1, none⟩ = some (.int .u8 o.f) ∧ w'.cell? ⟨w.heap.size, 2, none⟩ = some (.int .u8 o.c) ∧ w'.cell? ⟨w.heap.size, 3, none⟩ = some (.int .u8 o.r) ∧ w'.cell? ⟨w.heap.size, 4, none⟩ = some (.int .i64 o.t) ∧ w'.cell? ⟨w.heap.size, 5, none⟩ = some (.int .i64 o.n) ∧ w'.cell? ⟨w.heap.size, 6, none⟩ = some (.int .i64 o.z) ∧ w'.cell? ⟨w.heap.size, 7, none⟩ = some (.int .i64 o.k) ∧ w'.cell? ⟨(w.heap.size + 1), 0, none⟩ = some (.int .u8 a.d) ∧ w'.cell? ⟨(w.heap.size + 1), 1, none⟩ = some (.int .u8 a.f) ∧ w'.cell? ⟨(w.heap.size + 1), 2, none⟩ = some (.int .u8 a.c) ∧ w'.cell? ⟨(w.heap.size + 1), 3, none⟩ = some (.int .u8 a.r) ∧ w'.cell? ⟨(w.heap.size + 1), 4, none⟩ = some (.int .i64 a.t) ∧ w'.cell? ⟨(w.heap.size + 1), 5, none⟩ = some (.int .i64 a.n) ∧ w'.cell? ⟨(w.heap.size + 1), 6, none⟩ = some (.int .i64 a.z) ∧ w'.cell? ⟨(w.heap.size + 1), 7, none⟩ = some (.int .i64 a.k) ∧ Below W.heap.size W w') (by kernel_rfl) (HSB.out _ HW.out) (fun hHeld => ?_)
        refine' wpAnyH_take (i := 0) (oi := { dst := some 87, op := Go.Op.load 23 (Go.Operand.tmp 3), type := 23, pos := "law.go:47", after := #[], guard := none }) (v := _) rfl (by kernel_rfl) (by kernel_rfl) (by kernel_rfl) (fun _ _ _ h => h) (Or.inl ⟨by rfl, ?hy1⟩) (by assumption) ?hr1
        case hy1 => (intro _ hSw; (try dsimp only at hSw); go_simp <;> with_reducible rfl)
        simp only [Act.put, List.setIfInBounds_toArray, List.set_cons_zero, List.set_cons_succ]
        refine' wpAnyH_take (i := 1) (oi := { dst := some 88, op := Go.Op.load 23 (Go.Operand.tmp 4), type := 23, pos := "law.go:47", after := #[], guard := none }) (v := _) rfl (by kernel_rfl) (by kernel_rfl) (by kernel_rfl) (fun _ _ _ h => h) (Or.inl ⟨by rfl, ?hy2⟩) (by assumption) ?hr2
        case hy2 => (intro _ hSw; (try dsimp only at hSw); go_simp <;> with_reducible rfl)
        simp only [Act.put, List.setIfInBounds_toArray, List.set_cons_zero, List.set_cons_succ]
        refine' wpAnyH_take (i := 3) (oi := { dst := some 90, op := Go.Op.load 23 (Go.Operand.tmp 4), type := 23, pos := "law.go:47", after := #[], guard := none }) (v := _) rfl (by kernel_rfl) (by kernel_rfl) (by kernel_rfl) (fun _ _ _ h => h) (Or.inl ⟨by rfl, ?hy3⟩) (by assumption) ?hr3
        case hy3 => (intro _ hSw; (try dsimp only at hSw); go_simp <;> with_reducible rfl)
        simp only [Act.put, List.setIfInBounds_toArray, List.set_cons_zero, List.set_cons_succ]
        refine' wpAnyH_take (i := 4) (oi := { dst := some 91, op := Go.Op.load 23 (Go.Operand.tmp 3), type := 23, pos := "law.go:47", after := #[], guard := none }) (v := _) rfl (by kernel_rfl) (by kernel_rfl) (by kernel_rfl) (fun _ _ _ h => h) (Or.inl ⟨by rfl, ?hy4⟩) (by assumption) ?hr4
        case hy4 => (intro _ hSw; (try dsimp only at hSw); go_simp <;> with_reducible rfl)
        simp only [Act.put, List.setIfInBounds_toArray, List.set_cons_zero, List.set_cons_succ]
        clear g0 g1 g2 g3 g4 g5 g6 g7 j0 j1 j2 j3 j4 j5 j6 j7
        generalize W.drew = u0 at *
        refine wpAnyH_ready (rs := [2, 6, 7]) (by kernel_rfl) (by simp) ?_
        refine (AllReadyH.cons (o := { dst := some 89, op := Go.Op.call { callee := Go.Callee.value (Go.Operand.func 15), args := #[Go.Operand.tmp 87, Go.Operand.tmp 88], argTypes := #[23, 23] }, type := 23, pos := "law.go:47", after := #[{ on := 0, ground := Go.Ground.data }, { on := 1, ground := Go.Ground.data }], guard := none }) rfl (fun K hK => ?_) (AllReadyH.cons (o := { dst := some 15, op := Go.Op.alloc 23, type := 0, pos := "law.go:47", after := #[], guard := none }) rfl (fun K hK => ?_) (AllReadyH.cons (o := { dst := some 16, op := Go.Op.alloc 23, type := 0, pos := "law.go:47", after := #[], guard := none }) rfl (fun K hK => ?_) AllReadyH.nil)))
        · go_simp
          (with_reducible refine (CA1.out _).mono ?_)
          rintro e u1 ⟨rfl, hb⟩
          have HW := Lib.hid (below_on HW.out hb)
          clear hb
          go_wp2_with fail
          refine hK.out _ _ (HSB.out _ HW.out) (fun hHeld => ?_)
          clear hK K
          (try dsimp only [Act.put, List.setIfInBounds_toArray, List.set_cons_zero, List.set_cons_succ])
          refine wpAnyH_ready (rs := [5, 6, 7]) (by kernel_rfl) (by simp) ?_
          refine (AllReadyH.cons (o := { dst := some 92, op := Go.Op.call { callee := Go.Callee.value (Go.Operand.func 15), args := #[Go.Operand.tmp 90, Go.Operand.tmp 91], argTypes := #[23, 23] }, type := 23, pos := "law.go:47", after := #[{ on := 3, ground := Go.Ground.data }, { on := 4, ground := Go.Ground.data }, { on := 2, ground := Go.Ground.chain }], guard := none }) rfl (fun K hK => ?_) (AllReadyH.cons (o := { dst := some 15, op := Go.Op.alloc 23, type := 0, pos := "law.go:47", after := #[], guard := none }) rfl (fun K hK => ?_) (AllReadyH.cons (o := { dst := some 16, op := Go.Op.alloc 23, type := 0, pos := "law.go:47", after := #[], guard := none }) rfl (fun K hK => ?_) AllReadyH.nil)))
          · go_simp
            (with_reducible refine (CA2.out _).mono ?_)
            rintro e u2 ⟨rfl, hb⟩
            have HW := Lib.hid (below_on HW.out hb)
            clear hb
            go_wp2_with fail
            refine hK.out _ _ (HSB.out _ HW.out) (fun hHeld => ?_)
            clear hK K
            (try dsimp only [Act.put, List.setIfInBounds_toArray, List.set_cons_zero, List.set_cons_succ])
            refine wpAnyH_ready (rs := [6, 7]) (by kernel_rfl) (by simp) ?_
            refine (AllReadyH.cons (o := { dst := some 15, op := Go.Op.alloc 23, type := 0, pos := "law.go:47", after := #[], guard := none }) rfl (fun K hK => ?_) (AllReadyH.cons (o := { dst := some 16, op := Go.Op.alloc 23, type := 0, pos := "law.go:47", after := #[], guard := none }) rfl (fun K hK => ?_) AllReadyH.nil))
            · go_simp
              refine hK.out _ _ (HSB.out _ (HW.out.alloc HW.out.size _)) (fun hHeld => ?_)
              have HA : Hid ((u2.alloc (noO 23)).heap[u2.heap.size]? = some (noO 23)) := Lib.hid (nest u2 [_] 0 _ rfl)
              have HGEA : Hid (W.heap.size ≤ u2.heap.size) := Lib.hid HW.out.size
              have HW : Hid (Below W.heap.size W (u2.alloc (noO 23))) := Lib.hid (HW.out.alloc HW.out.size _)
              generalize u2.alloc (noO 23) = u3 at *
              generalize u2.heap.size = A3 at *
              clear hK K
              (try dsimp only [Act.put, List.setIfInBounds_toArray, List.set_cons_zero, List.set_cons_succ])
              refine wpAnyH_ready (rs := [7]) (by kernel_rfl) (by simp) ?_
              refine (AllReadyH.cons (o := { dst := some 16, op := Go.Op.alloc 23, type := 0, pos := "law.go:47", after := #[], guard := none }) rfl (fun K hK => ?_) AllReadyH.nil)
              go_simp
              refine hK.out _ _ (HSB.out _ (HW.out.alloc HW.out.size _)) (fun hHeld => ?_)
              have hne : A3 ≠ u3.heap.size := Nat.ne_of_lt (lt_heap HA.out)
              have HA := Lib.hid (stays HA.out ((Below.refl _ _).alloc (Nat.le_refl _) (noO 23)))
              have HC : Hid ((u3.alloc (noO 23)).heap[u3.heap.size]? = some (noO 23)) := Lib.hid (nest u3 [_] 0 _ rfl)
              have HGEB : Hid (W.heap.size ≤ u3.heap.size) := Lib.hid HW.out.size
              have HW : Hid (Below W.heap.size W (u3.alloc (noO 23))) := Lib.hid (HW.out.alloc HW.out.size _)
              generalize u3.alloc (noO 23) = u4 at *
              generalize u3.heap.size = B4 at *
              clear hK K
              (try dsimp only [Act.put, List.setIfInBounds_toArray, List.set_cons_zero, List.set_cons_succ])
              refine wpAnyH_ready (rs := [8]) (by kernel_rfl) (by simp) ?_
              refine (AllReadyH.cons (o := { dst := none, op := Go.Op.store 23 (Go.Operand.tmp 15) (Go.Operand.tmp 89), type := 0, pos := "law.go:47", after := #[{ on := 6, ground := Go.Ground.data }, { on := 2, ground := Go.Ground.data }, { on := 5, ground := Go.Ground.chain }, { on := 0, ground := Go.Ground.phase }, { on := 1, ground := Go.Ground.phase }, { on := 2, ground := Go.Ground.phase }, { on := 3, ground := Go.Ground.textOnly Go.Departure.lateStores }, { on := 4, ground := Go.Ground.textOnly Go.Departure.lateStores }, { on := 5, ground := Go.Ground.textOnly Go.Departure.lateStoresUnsure }, { on := 6, ground := Go.Ground.phase }, { on := 7, ground := Go.Ground.phase }], guard := none }) rfl (fun K hK => ?_) AllReadyH.nil)
              have p0 : u4.frozen? ⟨A3, 0, none⟩ = false := free_of HA.out
              have p1 : u4.frozen? ⟨A3, 1, none⟩ = false := free_of HA.out
              have p2 : u4.frozen? ⟨A3, 2, none⟩ = false := free_of HA.out
              have p3 : u4.frozen? ⟨A3, 3, none⟩ = false := free_of HA.out
              have p4 : u4.frozen? ⟨A3, 4, none⟩ = false := free_of HA.out
              have p5 : u4.frozen? ⟨A3, 5, none⟩ = false := free_of HA.out
              have p6 : u4.frozen? ⟨A3, 6, none⟩ = false := free_of HA.out
              have p7 : u4.frozen? ⟨A3, 7, none⟩ = false := free_of HA.out
              have q0 : u4.cell? ⟨A3, 0, none⟩ = some (.int .u8 0) := cell_of HA.out rfl
              have q1 : u4.cell? ⟨A3, 1, none⟩ = some (.int .u8 0) := cell_of HA.out rfl
              have q2 : u4.cell? ⟨A3, 2, none⟩ = some (.int .u8 0) := cell_of HA.out rfl
              have q3 : u4.cell? ⟨A3, 3, none⟩ = some (.int .u8 0) := cell_of HA.out rfl
              have q4 : u4.cell? ⟨A3, 4, none⟩ = some (.int .i64 0) := cell_of HA.out rfl
              have q5 : u4.cell? ⟨A3, 5, none⟩ = some (.int .i64 0) := cell_of HA.out rfl
              have q6 : u4.cell? ⟨A3, 6, none⟩ = some (.int .i64 0) := cell_of HA.out rfl
              have q7 : u4.cell? ⟨A3, 7, none⟩ = some (.int .i64 0) := cell_of HA.out rfl
              go_simp
              have HW : Hid (Below W.heap.size W (((((((((u4.setCell ⟨A3, 0, none⟩ (.int .u8 x.d)).setCell ⟨A3, 1, none⟩ (.int .u8 x.f)).setCell ⟨A3, 2, none⟩ (.int .u8 x.c)).setCell ⟨A3, 3, none⟩ (.int .u8 x.r)).setCell ⟨A3, 4, none⟩ (.int .i64 x.t)).setCell ⟨A3, 5, none⟩ (.int .i64 x.n)).setCell ⟨A3, 6, none⟩ (.int .i64 x.z)).setCell ⟨A3, 7, none⟩ (.int .i64 x.k)))) := Lib.hid (set8 HW.out HGEA.out _ _ _ _ _ _ _ _)
              refine hK.out _ _ (HSB.out _ HW.out) (fun hHeld => ?_)
              have HA : Hid ((((((((((u4.setCell ⟨A3, 0, none⟩ (.int .u8 x.d)).setCell ⟨A3, 1, none⟩ (.int .u8 x.f)).setCell ⟨A3, 2, none⟩ (.int .u8 x.c)).setCell ⟨A3, 3, none⟩ (.int .u8 x.r)).setCell ⟨A3, 4, none⟩ (.int .i64 x.t)).setCell ⟨A3, 5, none⟩ (.int .i64 x.n)).setCell ⟨A3, 6, none⟩ (.int .i64 x.z)).setCell ⟨A3, 7, none⟩ (.int .i64 x.k))).heap[A3]? = some (pO x 23)) := Lib.hid (set8_at HA.out _ _ _ _ _ _ _ _)
              have HC : Hid ((((((((((u4.setCell ⟨A3, 0, none⟩ (.int .u8 x.d)).setCell ⟨A3, 1, none⟩ (.int .u8 x.f)).setCell ⟨A3, 2, none⟩ (.int .u8 x.c)).setCell ⟨A3, 3, none⟩ (.int .u8 x.r)).setCell ⟨A3, 4, none⟩ (.int .i64 x.t)).setCell ⟨A3, 5, none⟩ (.int .i64 x.n)).setCell ⟨A3, 6, none⟩ (.int .i64 x.z)).setCell ⟨A3, 7, none⟩ (.int .i64 x.k))).heap[B4]? = some (noO 23)) := Lib.hid (set8_far HC.out (by first | exact hne | exact hne.symm) _ _ _ _ _ _ _ _)
              generalize ((((((((u4.setCell ⟨A3, 0, none⟩ (.int .u8 x.d)).setCell ⟨A3, 1, none⟩ (.int .u8 x.f)).setCell ⟨A3, 2, none⟩ (.int .u8 x.c)).setCell ⟨A3, 3, none⟩ (.int .u8 x.r)).setCell ⟨A3, 4, none⟩ (.int .i64 x.t)).setCell ⟨A3, 5, none⟩ (.int .i64 x.n)).setCell ⟨A3, 6, none⟩ (.int .i64 x.z)).setCell ⟨A3, 7, none⟩ (.int .i64 x.k)) = u5 at *
              clear p0 p1 p2 p3 p4 p5 p6 p7 q0 q1 q2 q3 q4 q5 q6 q7
              clear hK K
              (try dsimp only [Act.put, List.setIfInBounds_toArray, List.set_cons_zero, List.set_cons_succ])
              refine wpAnyH_ready (rs := [9]) (by kernel_rfl) (by simp) ?_
              refine (AllReadyH.cons (o := { dst := none, op := Go.Op.store 23 (Go.Operand.tmp 16) (Go.Operand.tmp 92), type := 0, pos := "law.go:47", after := #[{ on := 7, ground := Go.Ground.data }, { on := 5, ground := Go.Ground.data }, { on := 8, ground := Go.Ground.chain }, { on := 0, ground := Go.Ground.phase }, { on := 1, ground := Go.Ground.phase }, { on := 2, ground := Go.Ground.phase }, { on := 3, ground := Go.Ground.phase }, { on := 4, ground := Go.Ground.phase }, { on := 5, ground := Go.Ground.phase }, { on := 6, ground := Go.Ground.phase }, { on := 7, ground := Go.Ground.phase }, { on := 8, ground := Go.Ground.phase }], guard := none }) rfl (fun K hK => ?_) AllReadyH.nil)
              have p0 : u5.frozen? ⟨B4, 0, none⟩ = false := free_of HC.out
              have p1 : u5.frozen? ⟨B4, 1, none⟩ = false := free_of HC.out
              have p2 : u5.frozen? ⟨B4, 2, none⟩ = false := free_of HC.out
              have p3 : u5.frozen? ⟨B4, 3, none⟩ = false := free_of HC.out
              have p4 : u5.frozen? ⟨B4, 4, none⟩ = false := free_of HC.out
              have p5 : u5.frozen? ⟨B4, 5, none⟩ = false := free_of HC.out
              have p6 : u5.frozen? ⟨B4, 6, none⟩ = false := free_of HC.out
              have p7 : u5.frozen? ⟨B4, 7, none⟩ = false := free_of HC.out
              have q0 : u5.cell? ⟨B4, 0, none⟩ = some (.int .u8 0) := cell_of HC.out rfl
              have q1 : u5.cell? ⟨B4, 1, none⟩ = some (.int .u8 0) := cell_of HC.out rfl
              have q2 : u5.cell? ⟨B4, 2, none⟩ = some (.int .u8 0) := cell_of HC.out rfl
              have q3 : u5.cell? ⟨B4, 3, none⟩ = some (.int .u8 0) := cell_of HC.out rfl
              have q4 : u5.cell? ⟨B4, 4, none⟩ = some (.int .i64 0) := cell_of HC.out rfl
              have q5 : u5.cell? ⟨B4, 5, none⟩ = some (.int .i64 0) := cell_of HC.out rfl
              have q6 : u5.cell? ⟨B4, 6, none⟩ = some (.int .i64 0) := cell_of HC.out rfl
              have q7 : u5.cell? ⟨B4, 7, none⟩ = some (.int .i64 0) := cell_of HC.out rfl
              go_simp
              have HW : Hid (Below W.heap.size W (((((((((u5.setCell ⟨B4, 0, none⟩ (.int .u8 y.d)).setCell ⟨B4, 1, none⟩ (.int .u8 y.f)).setCell ⟨B4, 2, none⟩ (.int .u8 y.c)).setCell ⟨B4, 3, none⟩ (.int .u8 y.r)).setCell ⟨B4, 4, none⟩ (.int .i64 y.t)).setCell ⟨B4, 5, none⟩ (.int .i64 y.n)).setCell ⟨B4, 6, none⟩ (.int .i64 y.z)).setCell ⟨B4, 7, none⟩ (.int .i64 y.k)))) := Lib.hid (set8 HW.out HGEB.out _ _ _ _ _ _ _ _)
              refine hK.out _ _ (HSB.out _ HW.out) (fun hHeld => ?_)
              have HC : Hid ((((((((((u5.setCell ⟨B4, 0, none⟩ (.int .u8 y.d)).setCell ⟨B4, 1, none⟩ (.int .u8 y.f)).setCell ⟨B4, 2, none⟩ (.int .u8 y.c)).setCell ⟨B4, 3, none⟩ (.int .u8 y.r)).setCell ⟨B4, 4, none⟩ (.int .i64 y.t)).setCell ⟨B4, 5, none⟩ (.int .i64 y.n)).setCell ⟨B4, 6, none⟩ (.int .i64 y.z)).setCell ⟨B4, 7, none⟩ (.int .i64 y.k))).heap[B4]? = some (pO y 23)) := Lib.hid (set8_at HC.out _ _ _ _ _ _ _ _)
              have HA : Hid ((((((((((u5.setCell ⟨B4, 0, none⟩ (.int .u8 y.d)).setCell ⟨B4, 1, none⟩ (.int .u8 y.f)).setCell ⟨B4, 2, none⟩ (.int .u8 y.c)).setCell ⟨B4, 3, none⟩ (.int .u8 y.r)).setCell ⟨B4, 4, none⟩ (.int .i64 y.t)).setCell ⟨B4, 5, none⟩ (.int .i64 y.n)).setCell ⟨B4, 6, none⟩ (.int .i64 y.z)).setCell ⟨B4, 7, none⟩ (.int .i64 y.k))).heap[A3]? = some (pO x 23)) := Lib.hid (set8_far HA.out (by first | exact hne | exact hne.symm) _ _ _ _ _ _ _ _)
              generalize ((((((((u5.setCell ⟨B4, 0, none⟩ (.int .u8 y.d)).setCell ⟨B4, 1, none⟩ (.int .u8 y.f)).setCell ⟨B4, 2, none⟩ (.int .u8 y.c)).setCell ⟨B4, 3, none⟩ (.int .u8 y.r)).setCell ⟨B4, 4, none⟩ (.int .i64 y.t)).setCell ⟨B4, 5, none⟩ (.int .i64 y.n)).setCell ⟨B4, 6, none⟩ (.int .i64 y.z)).setCell ⟨B4, 7, none⟩ (.int .i64 y.k)) = u6 at *
              clear p0 p1 p2 p3 p4 p5 p6 p7 q0 q1 q2 q3 q4 q5 q6 q7
              clear hK K
              (try dsimp only [Act.put, List.setIfInBounds_toArray, List.set_cons_zero, List.set_cons_succ])
              refine wpAnyH_done (by kernel_rfl) ?_ _
              go_wp2_with fail
              go_meet
              exact ⟨A3, B4, rfl, rfl, HT.out.next HW.out, HA.out, HC.out⟩
            · go_simp
              refine hK.out _ _ (HSB.out _ (HW.out.alloc HW.out.size _)) (fun hHeld => ?_)
              have HC : Hid ((u2.alloc (noO 23)).heap[u2.heap.size]? = some (noO 23)) := Lib.hid (nest u2 [_] 0 _ rfl)
              have HGEB : Hid (W.heap.size ≤ u2.heap.size) := Lib.hid HW.out.size
              have HW : Hid (Below W.heap.size W (u2.alloc (noO 23))) := Lib.hid (HW.out.alloc HW.out.size _)
              generalize u2.alloc (noO 23) = u7 at *
              generalize u2.heap.size = B7 at *
              clear hK K
              (try dsimp only [Act.put, List.setIfInBounds_toArray, List.set_cons_zero, List.set_cons_succ])
              refine wpAnyH_ready (rs := [6]) (by kernel_rfl) (by simp) ?_
              refine (AllReadyH.cons (o := { dst := some 15, op := Go.Op.alloc 23, type := 0, pos := "law.go:47", after := #[], guard := none }) rfl (fun K hK => ?_) AllReadyH.nil)
              go_simp
              refine hK.out _ _ (HSB.out _ (HW.out.alloc HW.out.size _)) (fun hHeld => ?_)
              have hne : B7 ≠ u7.heap.size := Nat.ne_of_lt (lt_heap HC.out)
              have HC := Lib.hid (stays HC.out ((Below.refl _ _).alloc (Nat.le_refl _) (noO 23)))
              have HA : Hid ((u7.alloc (noO 23)).heap[u7.heap.size]? = some (noO 23)) := Lib.hid (nest u7 [_] 0 _ rfl)
              have HGEA : Hid (W.heap.size ≤ u7.heap.size) := Lib.hid HW.out.size
              have HW : Hid (Below W.heap.size W (u7.alloc (noO 23))) := Lib.hid (HW.out.alloc HW.out.size _)
              generalize u7.alloc (noO 23) = u8 at *
              generalize u7.heap.size = A8 at *
              clear hK K
              (try dsimp only [Act.put, List.setIfInBounds_toArray, List.set_cons_zero, List.set_cons_succ])
              refine wpAnyH_ready (rs := [8]) (by kernel_rfl) (by simp) ?_
              refine (AllReadyH.cons (o := { dst := none, op := Go.Op.store 23 (Go.Operand.tmp 15) (Go.Operand.tmp 89), type := 0, pos := "law.go:47", after := #[{ on := 6, ground := Go.Ground.data }, { on := 2, ground := Go.Ground.data }, { on := 5, ground := Go.Ground.chain }, { on := 0, ground := Go.Ground.phase }, { on := 1, ground := Go.Ground.phase }, { on := 2, ground := Go.Ground.phase }, { on := 3, ground := Go.Ground.textOnly Go.Departure.lateStores }, { on := 4, ground := Go.Ground.textOnly Go.Departure.lateStores }, { on := 5, ground := Go.Ground.textOnly Go.Departure.lateStoresUnsure }, { on := 6, ground := Go.Ground.phase }, { on := 7, ground := Go.Ground.phase }], guard := none }) rfl (fun K hK => ?_) AllReadyH.nil)
              have p0 : u8.frozen? ⟨A8, 0, none⟩ = false := free_of HA.out
              have p1 : u8.frozen? ⟨A8, 1, none⟩ = false := free_of HA.out
              have p2 : u8.frozen? ⟨A8, 2, none⟩ = false := free_of HA.out
              have p3 : u8.frozen? ⟨A8, 3, none⟩ = false := free_of HA.out
              have p4 : u8.frozen? ⟨A8, 4, none⟩ = false := free_of HA.out
              have p5 : u8.frozen? ⟨A8, 5, none⟩ = false := free_of HA.out
              have p6 : u8.frozen? ⟨A8, 6, none⟩ = false := free_of HA.out
              have p7 : u8.frozen? ⟨A8, 7, none⟩ = false := free_of HA.out
              have q0 : u8.cell? ⟨A8, 0, none⟩ = some (.int .u8 0) := cell_of HA.out rfl
              have q1 : u8.cell? ⟨A8, 1, none⟩ = some (.int .u8 0) := cell_of HA.out rfl
              have q2 : u8.cell? ⟨A8, 2, none⟩ = some (.int .u8 0) := cell_of HA.out rfl
              have q3 : u8.cell? ⟨A8, 3, none⟩ = some (.int .u8 0) := cell_of HA.out rfl
              have q4 : u8.cell? ⟨A8, 4, none⟩ = some (.int .i64 0) := cell_of HA.out rfl
              have q5 : u8.cell? ⟨A8, 5, none⟩ = some (.int .i64 0) := cell_of HA.out rfl
              have q6 : u8.cell? ⟨A8, 6, none⟩ = some (.int .i64 0) := cell_of HA.out rfl
              have q7 : u8.cell? ⟨A8, 7, none⟩ = some (.int .i64 0) := cell_of HA.out rfl
              go_simp
              have HW : Hid (Below W.heap.size W (((((((((u8.setCell ⟨A8, 0, none⟩ (.int .u8 x.d)).setCell ⟨A8, 1, none⟩ (.int .u8 x.f)).setCell ⟨A8, 2, none⟩ (.int .u8 x.c)).setCell ⟨A8, 3, none⟩ (.int .u8 x.r)).setCell ⟨A8, 4, none⟩ (.int .i64 x.t)).setCell ⟨A8, 5, none⟩ (.int .i64 x.n)).setCell ⟨A8, 6, none⟩ (.int .i64 x.z)).setCell ⟨A8, 7, none⟩ (.int .i64 x.k)))) := Lib.hid (set8 HW.out HGEA.out _ _ _ _ _ _ _ _)
              refine hK.out _ _ (HSB.out _ HW.out) (fun hHeld => ?_)
              have HA : Hid ((((((((((u8.setCell ⟨A8, 0, none⟩ (.int .u8 x.d)).setCell ⟨A8, 1, none⟩ (.int .u8 x.f)).setCell ⟨A8, 2, none⟩ (.int .u8 x.c)).setCell ⟨A8, 3, none⟩ (.int .u8 x.r)).setCell ⟨A8, 4, none⟩ (.int .i64 x.t)).setCell ⟨A8, 5, none⟩ (.int .i64 x.n)).setCell ⟨A8, 6, none⟩ (.int .i64 x.z)).setCell ⟨A8, 7, none⟩ (.int .i64 x.k))).heap[A8]? = some (pO x 23)) := Lib.hid (set8_at HA.out _ _ _ _ _ _ _ _)
              have HC : Hid ((((((((((u8.setCell ⟨A8, 0, none⟩ (.int .u8 x.d)).setCell ⟨A8, 1, none⟩ (.int .u8 x.f)).setCell ⟨A8, 2, none⟩ (.int .u8 x.c)).setCell ⟨A8, 3, none⟩ (.int .u8 x.r)).setCell ⟨A8, 4, none⟩ (.int .i64 x.t)).setCell ⟨A8, 5, none⟩ (.int .i64 x.n)).setCell ⟨A8, 6, none⟩ (.int .i64 x.z)).setCell ⟨A8, 7, none⟩ (.int .i64 x.k))).heap[B7]? = some (noO 23)) := Lib.hid (set8_far HC.out (by first | exact hne | exact hne.symm) _ _ _ _ _ _ _ _)
              generalize ((((((((u8.setCell ⟨A8, 0, none⟩ (.int .u8 x.d)).setCell ⟨A8, 1, none⟩ (.int .u8 x.f)).setCell ⟨A8, 2, none⟩ (.int .u8 x.c)).setCell ⟨A8, 3, none⟩ (.int .u8 x.r)).setCell ⟨A8, 4, none⟩ (.int .i64 x.t)).setCell ⟨A8, 5, none⟩ (.int .i64 x.n)).setCell ⟨A8, 6, none⟩ (.int .i64 x.z)).setCell ⟨A8, 7, none⟩ (.int .i64 x.k)) = u9 at *
              clear p0 p1 p2 p3 p4 p5 p6 p7 q0 q1 q2 q3 q4 q5 q6 q7
              clear hK K
              (try dsimp only [Act.put, List.setIfInBounds_toArray, List.set_cons_zero, List.set_cons_succ])
              refine wpAnyH_ready (rs := [9]) (by kernel_rfl) (by simp) ?_
              refine (AllReadyH.cons (o := { dst := none, op := Go.Op.store 23 (Go.Operand.tmp 16) (Go.Operand.tmp 92), type := 0, pos := "law.go:47", after := #[{ on := 7, ground := Go.Ground.data }, { on := 5, ground := Go.Ground.data }, { on := 8, ground := Go.Ground.chain }, { on := 0, ground := Go.Ground.phase }, { on := 1, ground := Go.Ground.phase }, { on := 2, ground := Go.Ground.phase }, { on := 3, ground := Go.Ground.phase }, { on := 4, ground := Go.Ground.phase }, { on := 5, ground := Go.Ground.phase }, { on := 6, ground := Go.Ground.phase }, { on := 7, ground := Go.Ground.phase }, { on := 8, ground := Go.Ground.phase }], guard := none }) rfl (fun K hK => ?_) AllReadyH.nil)
              have p0 : u9.frozen? ⟨B7, 0, none⟩ = false := free_of HC.out
              have p1 : u9.frozen? ⟨B7, 1, none⟩ = false := free_of HC.out
              have p2 : u9.frozen? ⟨B7, 2, none⟩ = false := free_of HC.out
              have p3 : u9.frozen? ⟨B7, 3, none⟩ = false := free_of HC.out
              have p4 : u9.frozen? ⟨B7, 4, none⟩ = false := free_of HC.out
              have p5 : u9.frozen? ⟨B7, 5, none⟩ = false := free_of HC.out
              have p6 : u9.frozen? ⟨B7, 6, none⟩ = false := free_of HC.out
              have p7 : u9.frozen? ⟨B7, 7, none⟩ = false := free_of HC.out
              have q0 : u9.cell? ⟨B7, 0, none⟩ = some (.int .u8 0) := cell_of HC.out rfl
              have q1 : u9.cell? ⟨B7, 1, none⟩ = some (.int .u8 0) := cell_of HC.out rfl
              have q2 : u9.cell? ⟨B7, 2, none⟩ = some (.int .u8 0) := cell_of HC.out rfl
              have q3 : u9.cell? ⟨B7, 3, none⟩ = some (.int .u8 0) := cell_of HC.out rfl
              have q4 : u9.cell? ⟨B7, 4, none⟩ = some (.int .i64 0) := cell_of HC.out rfl
              have q5 : u9.cell? ⟨B7, 5, none⟩ = some (.int .i64 0) := cell_of HC.out rfl
              have q6 : u9.cell? ⟨B7, 6, none⟩ = some (.int .i64 0) := cell_of HC.out rfl
              have q7 : u9.cell? ⟨B7, 7, none⟩ = some (.int .i64 0) := cell_of HC.out rfl
              go_simp
              have HW : Hid (Below W.heap.size W (((((((((u9.setCell ⟨B7, 0, none⟩ (.int .u8 y.d)).setCell ⟨B7, 1, none⟩ (.int .u8 y.f)).setCell ⟨B7, 2, none⟩ (.int .u8 y.c)).setCell ⟨B7, 3, none⟩ (.int .u8 y.r)).setCell ⟨B7, 4, none⟩ (.int .i64 y.t)).setCell ⟨B7, 5, none⟩ (.int .i64 y.n)).setCell ⟨B7, 6, none⟩ (.int .i64 y.z)).setCell ⟨B7, 7, none⟩ (.int .i64 y.k)))) := Lib.hid (set8 HW.out HGEB.out _ _ _ _ _ _ _ _)
              refine hK.out _ _ (HSB.out _ HW.out) (fun hHeld => ?_)
              have HC : Hid ((((((((((u9.setCell ⟨B7, 0, none⟩ (.int .u8 y.d)).setCell ⟨B7, 1, none⟩ (.int .u8 y.f)).setCell ⟨B7, 2, none⟩ (.int .u8 y.c)).setCell ⟨B7, 3, none⟩ (.int .u8 y.r)).setCell ⟨B7, 4, none⟩ (.int .i64 y.t)).setCell ⟨B7, 5, none⟩ (.int .i64 y.n)).setCell ⟨B7, 6, none⟩ (.int .i64 y.z)).setCell ⟨B7, 7, none⟩ (.int .i64 y.k))).heap[B7]? = some (pO y 23)) := Lib.hid (set8_at HC.out _ _ _ _ _ _ _ _)
              have HA : Hid ((((((((((u9.setCell ⟨B7, 0, none⟩ (.int .u8 y.d)).setCell ⟨B7, 1, none⟩ (.int .u8 y.f)).setCell ⟨B7, 2, none⟩ (.int .u8 y.c)).setCell ⟨B7, 3, none⟩ (.int .u8 y.r)).setCell ⟨B7, 4, none⟩ (.int .i64 y.t)).setCell ⟨B7, 5, none⟩ (.int .i64 y.n)).setCell ⟨B7, 6, none⟩ (.int .i64 y.z)).setCell ⟨B7, 7, none⟩ (.int .i64 y.k))).heap[A8]? = some (pO x 23)) := Lib.hid (set8_far HA.out (by first | exact hne | exact hne.symm) _ _ _ _ _ _ _ _)
              generalize ((((((((u9.setCell ⟨B7, 0, none⟩ (.int .u8 y.d)).setCell ⟨B7, 1, none⟩ (.int .u8 y.f)).setCell ⟨B7, 2, none⟩ (.int .u8 y.c)).setCell ⟨B7, 3, none⟩ (.int .u8 y.r)).setCell ⟨B7, 4, none⟩ (.int .i64 y.t)).setCell ⟨B7, 5, none⟩ (.int .i64 y.n)).setCell ⟨B7, 6, none⟩ (.int .i64 y.z)).setCell ⟨B7, 7, none⟩ (.int .i64 y.k)) = u10 at *
              clear p0 p1 p2 p3 p4 p5 p6 p7 q0 q1 q2 q3 q4 q5 q6 q7
              clear hK K
              (try dsimp only [Act.put, List.setIfInBounds_toArray, List.set_cons_zero, List.set_cons_succ])
              refine wpAnyH_done (by kernel_rfl) ?_ _
              go_wp2_with fail
              go_meet
              exact ⟨A8, B7, rfl, rfl, HT.out.next HW.out, HA.out, HC.out⟩
          · go_simp
            refine hK.out _ _ (HSB.out _ (HW.out.alloc HW.out.size _)) (fun hHeld => ?_)
            have HA : Hid ((u1.alloc (noO 23)).heap[u1.heap.size]? = some (noO 23)) := Lib.hid (nest u1 [_] 0 _ rfl)
            have HGEA : Hid (W.heap.size ≤ u1.heap.size) := Lib.hid HW.out.size
            have HW : Hid (Below W.heap.size W (u1.alloc (noO 23))) := Lib.hid (HW.out.alloc HW.out.size _)
            generalize u1.alloc (noO 23) = u11 at *
            generalize u1.heap.size = A11 at *
            clear hK K
            (try dsimp only [Act.put, List.setIfInBounds_toArray, List.set_cons_zero, List.set_cons_succ])
            refine wpAnyH_ready (rs := [5, 7]) (by kernel_rfl) (by simp) ?_
            refine (AllReadyH.cons (o := { dst := some 92, op := Go.Op.call { callee := Go.Callee.value (Go.Operand.func 15), args := #[Go.Operand.tmp 90, Go.Operand.tmp 91], argTypes := #[23, 23] }, type := 23, pos := "law.go:47", after := #[{ on := 3, ground := Go.Ground.data }, { on := 4, ground := Go.Ground.data }, { on := 2, ground := Go.Ground.chain }], guard := none }) rfl (fun K hK => ?_) (AllReadyH.cons (o := { dst := some 16, op := Go.Op.alloc 23, type := 0, pos := "law.go:47", after := #[], guard := none }) rfl (fun K hK => ?_) AllReadyH.nil))
            · go_simp
              (with_reducible refine (CA2.out _).mono ?_)
              rintro e u12 ⟨rfl, hb⟩
              have HA := Lib.hid (stays HA.out hb)
              have HW := Lib.hid (below_on HW.out hb)
              clear hb
              go_wp2_with fail
              refine hK.out _ _ (HSB.out _ HW.out) (fun hHeld => ?_)
              clear hK K
              (try dsimp only [Act.put, List.setIfInBounds_toArray, List.set_cons_zero, List.set_cons_succ])
              refine wpAnyH_ready (rs := [7]) (by kernel_rfl) (by simp) ?_
              refine (AllReadyH.cons (o := { dst := some 16, op := Go.Op.alloc 23, type := 0, pos := "law.go:47", after := #[], guard := none }) rfl (fun K hK => ?_) AllReadyH.nil)
              go_simp
              refine hK.out _ _ (HSB.out _ (HW.out.alloc HW.out.size _)) (fun hHeld => ?_)
              have hne : A11 ≠ u12.heap.size := Nat.ne_of_lt (lt_heap HA.out)
              have HA := Lib.hid (stays HA.out ((Below.refl _ _).alloc (Nat.le_refl _) (noO 23)))
              have HC : Hid ((u12.alloc (noO 23)).heap[u12.heap.size]? = some (noO 23)) := Lib.hid (nest u12 [_] 0 _ rfl)
              have HGEB : Hid (W.heap.size ≤ u12.heap.size) := Lib.hid HW.out.size
              have HW : Hid (Below W.heap.size W (u12.alloc (noO 23))) := Lib.hid (HW.out.alloc HW.out.size _)
              generalize u12.alloc (noO 23) = u13 at *
              generalize u12.heap.size = B13 at *
              clear hK K
              (try dsimp only [Act.put, List.setIfInBounds_toArray, List.set_cons_zero, List.set_cons_succ])
              refine wpAnyH_ready (rs := [8]) (by kernel_rfl) (by simp) ?_
              refine (AllReadyH.cons (o := { dst := none, op := Go.Op.store 23 (Go.Operand.tmp 15) (Go.Operand.tmp 89), type := 0, pos := "law.go:47", after := #[{ on := 6, ground := Go.Ground.data }, { on := 2, ground := Go.Ground.data }, { on := 5, ground := Go.Ground.chain }, { on := 0, ground := Go.Ground.phase }, { on := 1, ground := Go.Ground.phase }, { on := 2, ground := Go.Ground.phase }, { on := 3, ground := Go.Ground.textOnly Go.Departure.lateStores }, { on := 4, ground := Go.Ground.textOnly Go.Departure.lateStores }, { on := 5, ground := Go.Ground.textOnly Go.Departure.lateStoresUnsure }, { on := 6, ground := Go.Ground.phase }, { on := 7, ground := Go.Ground.phase }], guard := none }) rfl (fun K hK => ?_) AllReadyH.nil)
              have p0 : u13.frozen? ⟨A11, 0, none⟩ = false := free_of HA.out
              have p1 : u13.frozen? ⟨A11, 1, none⟩ = false := free_of HA.out
              have p2 : u13.frozen? ⟨A11, 2, none⟩ = false := free_of HA.out
              have p3 : u13.frozen? ⟨A11, 3, none⟩ = false := free_of HA.out
              have p4 : u13.frozen? ⟨A11, 4, none⟩ = false := free_of HA.out
              have p5 : u13.frozen? ⟨A11, 5, none⟩ = false := free_of HA.out
              have p6 : u13.frozen? ⟨A11, 6, none⟩ = false := free_of HA.out
              have p7 : u13.frozen? ⟨A11, 7, none⟩ = false := free_of HA.out
              have q0 : u13.cell? ⟨A11, 0, none⟩ = some (.int .u8 0) := cell_of HA.out rfl
              have q1 : u13.cell? ⟨A11, 1, none⟩ = some (.int .u8 0) := cell_of HA.out rfl
              have q2 : u13.cell? ⟨A11, 2, none⟩ = some (.int .u8 0) := cell_of HA.out rfl
              have q3 : u13.cell? ⟨A11, 3, none⟩ = some (.int .u8 0) := cell_of HA.out rfl
              have q4 : u13.cell? ⟨A11, 4, none⟩ = some (.int .i64 0) := cell_of HA.out rfl
              have q5 : u13.cell? ⟨A11, 5, none⟩ = some (.int .i64 0) := cell_of HA.out rfl
              have q6 : u13.cell? ⟨A11, 6, none⟩ = some (.int .i64 0) := cell_of HA.out rfl
              have q7 : u13.cell? ⟨A11, 7, none⟩ = some (.int .i64 0) := cell_of HA.out rfl
              go_simp
              have HW : Hid (Below W.heap.size W (((((((((u13.setCell ⟨A11, 0, none⟩ (.int .u8 x.d)).setCell ⟨A11, 1, none⟩ (.int .u8 x.f)).setCell ⟨A11, 2, none⟩ (.int .u8 x.c)).setCell ⟨A11, 3, none⟩ (.int .u8 x.r)).setCell ⟨A11, 4, none⟩ (.int .i64 x.t)).setCell ⟨A11, 5, none⟩ (.int .i64 x.n)).setCell ⟨A11, 6, none⟩ (.int .i64 x.z)).setCell ⟨A11, 7, none⟩ (.int .i64 x.k)))) := Lib.hid (set8 HW.out HGEA.out _ _ _ _ _ _ _ _)
              refine hK.out _ _ (HSB.out _ HW.out) (fun hHeld => ?_)
              have HA : Hid ((((((((((u13.setCell ⟨A11, 0, none⟩ (.int .u8 x.d)).setCell ⟨A11, 1, none⟩ (.int .u8 x.f)).setCell ⟨A11, 2, none⟩ (.int .u8 x.c)).setCell ⟨A11, 3, none⟩ (.int .u8 x.r)).setCell ⟨A11, 4, none⟩ (.int .i64 x.t)).setCell ⟨A11, 5, none⟩ (.int .i64 x.n)).setCell ⟨A11, 6, none⟩ (.int .i64 x.z)).setCell ⟨A11, 7, none⟩ (.int .i64 x.k))).heap[A11]? = some (pO x 23)) := Lib.hid (set8_at HA.out _ _ _ _ _ _ _ _)
              have HC : Hid ((((((((((u13.setCell ⟨A11, 0, none⟩ (.int .u8 x.d)).setCell ⟨A11, 1, none⟩ (.int .u8 x.f)).setCell ⟨A11, 2, none⟩ (.int .u8 x.c)).setCell ⟨A11, 3, none⟩ (.int .u8 x.r)).setCell ⟨A11, 4, none⟩ (.int .i64 x.t)).setCell ⟨A11, 5, none⟩ (.int .i64 x.n)).setCell ⟨A11, 6, none⟩ (.int .i64 x.z)).setCell ⟨A11, 7, none⟩ (.int .i64 x.k))).heap[B13]? = some (noO 23)) := Lib.hid (set8_far HC.out (by first | exact hne | exact hne.symm) _ _ _ _ _ _ _ _)
              generalize ((((((((u13.setCell ⟨A11, 0, none⟩ (.int .u8 x.d)).setCell ⟨A11, 1, none⟩ (.int .u8 x.f)).setCell ⟨A11, 2, none⟩ (.int .u8 x.c)).setCell ⟨A11, 3, none⟩ (.int .u8 x.r)).setCell ⟨A11, 4, none⟩ (.int .i64 x.t)).setCell ⟨A11, 5, none⟩ (.int .i64 x.n)).setCell ⟨A11, 6, none⟩ (.int .i64 x.z)).setCell ⟨A11, 7, none⟩ (.int .i64 x.k)) = u14 at *
              clear p0 p1 p2 p3 p4 p5 p6 p7 q0 q1 q2 q3 q4 q5 q6 q7
              clear hK K
              (try dsimp only [Act.put, List.setIfInBounds_toArray, List.set_cons_zero, List.set_cons_succ])
              refine wpAnyH_ready (rs := [9]) (by kernel_rfl) (by simp) ?_
              refine (AllReadyH.cons (o := { dst := none, op := Go.Op.store 23 (Go.Operand.tmp 16) (Go.Operand.tmp 92), type := 0, pos := "law.go:47", after := #[{ on := 7, ground := Go.Ground.data }, { on := 5, ground := Go.Ground.data }, { on := 8, ground := Go.Ground.chain }, { on := 0, ground := Go.Ground.phase }, { on := 1, ground := Go.Ground.phase }, { on := 2, ground := Go.Ground.phase }, { on := 3, ground := Go.Ground.phase }, { on := 4, ground := Go.Ground.phase }, { on := 5, ground := Go.Ground.phase }, { on := 6, ground := Go.Ground.phase }, { on := 7, ground := Go.Ground.phase }, { on := 8, ground := Go.Ground.phase }], guard := none }) rfl (fun K hK => ?_) AllReadyH.nil)
              have p0 : u14.frozen? ⟨B13, 0, none⟩ = false := free_of HC.out
              have p1 : u14.frozen? ⟨B13, 1, none⟩ = false := free_of HC.out
              have p2 : u14.frozen? ⟨B13, 2, none⟩ = false := free_of HC.out
              have p3 : u14.frozen? ⟨B13, 3, none⟩ = false := free_of HC.out
              have p4 : u14.frozen? ⟨B13, 4, none⟩ = false := free_of HC.out
              have p5 : u14.frozen? ⟨B13, 5, none⟩ = false := free_of HC.out
              have p6 : u14.frozen? ⟨B13, 6, none⟩ = false := free_of HC.out
              have p7 : u14.frozen? ⟨B13, 7, none⟩ = false := free_of HC.out
              have q0 : u14.cell? ⟨B13, 0, none⟩ = some (.int .u8 0) := cell_of HC.out rfl
              have q1 : u14.cell? ⟨B13, 1, none⟩ = some (.int .u8 0) := cell_of HC.out rfl
              have q2 : u14.cell? ⟨B13, 2, none⟩ = some (.int .u8 0) := cell_of HC.out rfl
              have q3 : u14.cell? ⟨B13, 3, none⟩ = some (.int .u8 0) := cell_of HC.out rfl
              have q4 : u14.cell? ⟨B13, 4, none⟩ = some (.int .i64 0) := cell_of HC.out rfl
              have q5 : u14.cell? ⟨B13, 5, none⟩ = some (.int .i64 0) := cell_of HC.out rfl
              have q6 : u14.cell? ⟨B13, 6, none⟩ = some (.int .i64 0) := cell_of HC.out rfl
              have q7 : u14.cell? ⟨B13, 7, none⟩ = some (.int .i64 0) := cell_of HC.out rfl
              go_simp
              have HW : Hid (Below W.heap.size W (((((((((u14.setCell ⟨B13, 0, none⟩ (.int .u8 y.d)).setCell ⟨B13, 1, none⟩ (.int .u8 y.f)).setCell ⟨B13, 2, none⟩ (.int .u8 y.c)).setCell ⟨B13, 3, none⟩ (.int .u8 y.r)).setCell ⟨B13, 4, none⟩ (.int .i64 y.t)).setCell ⟨B13, 5, none⟩ (.int .i64 y.n)).setCell ⟨B13, 6, none⟩ (.int .i64 y.z)).setCell ⟨B13, 7, none⟩ (.int .i64 y.k)))) := Lib.hid (set8 HW.out HGEB.out _ _ _ _ _ _ _ _)
              refine hK.out _ _ (HSB.out _ HW.out) (fun hHeld => ?_)
              have HC : Hid ((((((((((u14.setCell ⟨B13, 0, none⟩ (.int .u8 y.d)).setCell ⟨B13, 1, none⟩ (.int .u8 y.f)).setCell ⟨B13, 2, none⟩ (.int .u8 y.c)).setCell ⟨B13, 3, none⟩ (.int .u8 y.r)).setCell ⟨B13, 4, none⟩ (.int .i64 y.t)).setCell ⟨B13, 5, none⟩ (.int .i64 y.n)).setCell ⟨B13, 6, none⟩ (.int .i64 y.z)).setCell ⟨B13, 7, none⟩ (.int .i64 y.k))).heap[B13]? = some (pO y 23)) := Lib.hid (set8_at HC.out _ _ _ _ _ _ _ _)
              have HA : Hid ((((((((((u14.setCell ⟨B13, 0, none⟩ (.int .u8 y.d)).setCell ⟨B13, 1, none⟩ (.int .u8 y.f)).setCell ⟨B13, 2, none⟩ (.int .u8 y.c)).setCell ⟨B13, 3, none⟩ (.int .u8 y.r)).setCell ⟨B13, 4, none⟩ (.int .i64 y.t)).setCell ⟨B13, 5, none⟩ (.int .i64 y.n)).setCell ⟨B13, 6, none⟩ (.int .i64 y.z)).setCell ⟨B13, 7, none⟩ (.int .i64 y.k))).heap[A11]? = some (pO x 23)) := Lib.hid (set8_far HA.out (by first | exact hne | exact hne.symm) _ _ _ _ _ _ _ _)
              generalize ((((((((u14.setCell ⟨B13, 0, none⟩ (.int .u8 y.d)).setCell ⟨B13, 1, none⟩ (.int .u8 y.f)).setCell ⟨B13, 2, none⟩ (.int .u8 y.c)).setCell ⟨B13, 3, none⟩ (.int .u8 y.r)).setCell ⟨B13, 4, none⟩ (.int .i64 y.t)).setCell ⟨B13, 5, none⟩ (.int .i64 y.n)).setCell ⟨B13, 6, none⟩ (.int .i64 y.z)).setCell ⟨B13, 7, none⟩ (.int .i64 y.k)) = u15 at *
              clear p0 p1 p2 p3 p4 p5 p6 p7 q0 q1 q2 q3 q4 q5 q6 q7
              clear hK K
              (try dsimp only [Act.put, List.setIfInBounds_toArray, List.set_cons_zero, List.set_cons_succ])
              refine wpAnyH_done (by kernel_rfl) ?_ _
              go_wp2_with fail
              go_meet
              exact ⟨A11, B13, rfl, rfl, HT.out.next HW.out, HA.out, HC.out⟩
            · go_simp
              refine hK.out _ _ (HSB.out _ (HW.out.alloc HW.out.size _)) (fun hHeld => ?_)
              have hne : A11 ≠ u11.heap.size := Nat.ne_of_lt (lt_heap HA.out)
              have HA := Lib.hid (stays HA.out ((Below.refl _ _).alloc (Nat.le_refl _) (noO 23)))
              have HC : Hid ((u11.alloc (noO 23)).heap[u11.heap.size]? = some (noO 23)) := Lib.hid (nest u11 [_] 0 _ rfl)
              have HGEB : Hid (W.heap.size ≤ u11.heap.size) := Lib.hid HW.out.size
              have HW : Hid (Below W.heap.size W (u11.alloc (noO 23))) := Lib.hid (HW.out.alloc HW.out.size _)
              generalize u11.alloc (noO 23) = u16 at *
              generalize u11.heap.size = B16 at *
              clear hK K
              (try dsimp only [Act.put, List.setIfInBounds_toArray, List.set_cons_zero, List.set_cons_succ])
              refine wpAnyH_ready (rs := [5]) (by kernel_rfl) (by simp) ?_
              refine (AllReadyH.cons (o := { dst := some 92, op := Go.Op.call { callee := Go.Callee.value (Go.Operand.func 15), args := #[Go.Operand.tmp 90, Go.Operand.tmp 91], argTypes := #[23, 23] }, type := 23, pos := "law.go:47", after := #[{ on := 3, ground := Go.Ground.data }, { on := 4, ground := Go.Ground.data }, { on := 2, ground := Go.Ground.chain }], guard := none }) rfl (fun K hK => ?_) AllReadyH.nil)
              go_simp
              (with_reducible refine (CA2.out _).mono ?_)
              rintro e u17 ⟨rfl, hb⟩
              have HA := Lib.hid (stays HA.out hb)
              have HC := Lib.hid (stays HC.out hb)
              have HW := Lib.hid (below_on HW.out hb)
              clear hb
              go_wp2_with fail
              refine hK.out _ _ (HSB.out _ HW.out) (fun hHeld => ?_)
              clear hK K
              (try dsimp only [Act.put, List.setIfInBounds_toArray, List.set_cons_zero, List.set_cons_succ])
              refine wpAnyH_ready (rs := [8]) (by kernel_rfl) (by simp) ?_
              refine (AllReadyH.cons (o := { dst := none, op := Go.Op.store 23 (Go.Operand.tmp 15) (Go.Operand.tmp 89), type := 0, pos := "law.go:47", after := #[{ on := 6, ground := Go.Ground.data }, { on := 2, ground := Go.Ground.data }, { on := 5, ground := Go.Ground.chain }, { on := 0, ground := Go.Ground.phase }, { on := 1, ground := Go.Ground.phase }, { on := 2, ground := Go.Ground.phase }, { on := 3, ground := Go.Ground.textOnly Go.Departure.lateStores }, { on := 4, ground := Go.Ground.textOnly Go.Departure.lateStores }, { on := 5, ground := Go.Ground.textOnly Go.Departure.lateStoresUnsure }, { on := 6, ground := Go.Ground.phase }, { on := 7, ground := Go.Ground.phase }], guard := none }) rfl (fun K hK => ?_) AllReadyH.nil)
              have p0 : u17.frozen? ⟨A11, 0, none⟩ = false := free_of HA.out
              have p1 : u17.frozen? ⟨A11, 1, none⟩ = false := free_of HA.out
              have p2 : u17.frozen? ⟨A11, 2, none⟩ = false := free_of HA.out
              have p3 : u17.frozen? ⟨A11, 3, none⟩ = false := free_of HA.out
              have p4 : u17.frozen? ⟨A11, 4, none⟩ = false := free_of HA.out
              have p5 : u17.frozen? ⟨A11, 5, none⟩ = false := free_of HA.out
              have p6 : u17.frozen? ⟨A11, 6, none⟩ = false := free_of HA.out
              have p7 : u17.frozen? ⟨A11, 7, none⟩ = false := free_of HA.out
              have q0 : u17.cell? ⟨A11, 0, none⟩ = some (.int .u8 0) := cell_of HA.out rfl
              have q1 : u17.cell? ⟨A11, 1, none⟩ = some (.int .u8 0) := cell_of HA.out rfl
              have q2 : u17.cell? ⟨A11, 2, none⟩ = some (.int .u8 0) := cell_of HA.out rfl
              have q3 : u17.cell? ⟨A11, 3, none⟩ = some (.int .u8 0) := cell_of HA.out rfl
              have q4 : u17.cell? ⟨A11, 4, none⟩ = some (.int .i64 0) := cell_of HA.out rfl
              have q5 : u17.cell? ⟨A11, 5, none⟩ = some (.int .i64 0) := cell_of HA.out rfl
              have q6 : u17.cell? ⟨A11, 6, none⟩ = some (.int .i64 0) := cell_of HA.out rfl
              have q7 : u17.cell? ⟨A11, 7, none⟩ = some (.int .i64 0) := cell_of HA.out rfl
              go_simp
              have HW : Hid (Below W.heap.size W (((((((((u17.setCell ⟨A11, 0, none⟩ (.int .u8 x.d)).setCell ⟨A11, 1, none⟩ (.int .u8 x.f)).setCell ⟨A11, 2, none⟩ (.int .u8 x.c)).setCell ⟨A11, 3, none⟩ (.int .u8 x.r)).setCell ⟨A11, 4, none⟩ (.int .i64 x.t)).setCell ⟨A11, 5, none⟩ (.int .i64 x.n)).setCell ⟨A11, 6, none⟩ (.int .i64 x.z)).setCell ⟨A11, 7, none⟩ (.int .i64 x.k)))) := Lib.hid (set8 HW.out HGEA.out _ _ _ _ _ _ _ _)
              refine hK.out _ _ (HSB.out _ HW.out) (fun hHeld => ?_)
              have HA : Hid ((((((((((u17.setCell ⟨A11, 0, none⟩ (.int .u8 x.d)).setCell ⟨A11, 1, none⟩ (.int .u8 x.f)).setCell ⟨A11, 2, none⟩ (.int .u8 x.c)).setCell ⟨A11, 3, none⟩ (.int .u8 x.r)).setCell ⟨A11, 4, none⟩ (.int .i64 x.t)).setCell ⟨A11, 5, none⟩ (.int .i64 x.n)).setCell ⟨A11, 6, none⟩ (.int .i64 x.z)).setCell ⟨A11, 7, none⟩ (.int .i64 x.k))).heap[A11]? = some (pO x 23)) := Lib.hid (set8_at HA.out _ _ _ _ _ _ _ _)
              have HC : Hid ((((((((((u17.setCell ⟨A11, 0, none⟩ (.int .u8 x.d)).setCell ⟨A11, 1, none⟩ (.int .u8 x.f)).setCell ⟨A11, 2, none⟩ (.int .u8 x.c)).setCell ⟨A11, 3, none⟩ (.int .u8 x.r)).setCell ⟨A11, 4, none⟩ (.int .i64 x.t)).setCell ⟨A11, 5, none⟩ (.int .i64 x.n)).setCell ⟨A11, 6, none⟩ (.int .i64 x.z)).setCell ⟨A11, 7, none⟩ (.int .i64 x.k))).heap[B16]? = some (noO 23)) := Lib.hid (set8_far HC.out (by first | exact hne | exact hne.symm) _ _ _ _ _ _ _ _)
              generalize ((((((((u17.setCell ⟨A11, 0, none⟩ (.int .u8 x.d)).setCell ⟨A11, 1, none⟩ (.int .u8 x.f)).setCell ⟨A11, 2, none⟩ (.int .u8 x.c)).setCell ⟨A11, 3, none⟩ (.int .u8 x.r)).setCell ⟨A11, 4, none⟩ (.int .i64 x.t)).setCell ⟨A11, 5, none⟩ (.int .i64 x.n)).setCell ⟨A11, 6, none⟩ (.int .i64 x.z)).setCell ⟨A11, 7, none⟩ (.int .i64 x.k)) = u18 at *
              clear p0 p1 p2 p3 p4 p5 p6 p7 q0 q1 q2 q3 q4 q5 q6 q7
              clear hK K
              (try dsimp only [Act.put, List.setIfInBounds_toArray, List.set_cons_zero, List.set_cons_succ])
              refine wpAnyH_ready (rs := [9]) (by kernel_rfl) (by simp) ?_
              refine (AllReadyH.cons (o := { dst := none, op := Go.Op.store 23 (Go.Operand.tmp 16) (Go.Operand.tmp 92), type := 0, pos := "law.go:47", after := #[{ on := 7, ground := Go.Ground.data }, { on := 5, ground := Go.Ground.data }, { on := 8, ground := Go.Ground.chain }, { on := 0, ground := Go.Ground.phase }, { on := 1, ground := Go.Ground.phase }, { on := 2, ground := Go.Ground.phase }, { on := 3, ground := Go.Ground.phase }, { on := 4, ground := Go.Ground.phase }, { on := 5, ground := Go.Ground.phase }, { on := 6, ground := Go.Ground.phase }, { on := 7, ground := Go.Ground.phase }, { on := 8, ground := Go.Ground.phase }], guard := none }) rfl (fun K hK => ?_) AllReadyH.nil)
              have p0 : u18.frozen? ⟨B16, 0, none⟩ = false := free_of HC.out
              have p1 : u18.frozen? ⟨B16, 1, none⟩ = false := free_of HC.out
              have p2 : u18.frozen? ⟨B16, 2, none⟩ = false := free_of HC.out
              have p3 : u18.frozen? ⟨B16, 3, none⟩ = false := free_of HC.out
              have p4 : u18.frozen? ⟨B16, 4, none⟩ = false := free_of HC.out
              have p5 : u18.frozen? ⟨B16, 5, none⟩ = false := free_of HC.out
              have p6 : u18.frozen? ⟨B16, 6, none⟩ = false := free_of HC.out
              have p7 : u18.frozen? ⟨B16, 7, none⟩ = false := free_of HC.out
              have q0 : u18.cell? ⟨B16, 0, none⟩ = some (.int .u8 0) := cell_of HC.out rfl
              have q1 : u18.cell? ⟨B16, 1, none⟩ = some (.int .u8 0) := cell_of HC.out rfl
              have q2 : u18.cell? ⟨B16, 2, none⟩ = some (.int .u8 0) := cell_of HC.out rfl
              have q3 : u18.cell? ⟨B16, 3, none⟩ = some (.int .u8 0) := cell_of HC.out rfl
              have q4 : u18.cell? ⟨B16, 4, none⟩ = some (.int .i64 0) := cell_of HC.out rfl
              have q5 : u18.cell? ⟨B16, 5, none⟩ = some (.int .i64 0) := cell_of HC.out rfl
              have q6 : u18.cell? ⟨B16, 6, none⟩ = some (.int .i64 0) := cell_of HC.out rfl
              have q7 : u18.cell? ⟨B16, 7, none⟩ = some (.int .i64 0) := cell_of HC.out rfl
              go_simp
              have HW : Hid (Below W.heap.size W (((((((((u18.setCell ⟨B16, 0, none⟩ (.int .u8 y.d)).setCell ⟨B16, 1, none⟩ (.int .u8 y.f)).setCell ⟨B16, 2, none⟩ (.int .u8 y.c)).setCell ⟨B16, 3, none⟩ (.int .u8 y.r)).setCell ⟨B16, 4, none⟩ (.int .i64 y.t)).setCell ⟨B16, 5, none⟩ (.int .i64 y.n)).setCell ⟨B16, 6, none⟩ (.int .i64 y.z)).setCell ⟨B16, 7, none⟩ (.int .i64 y.k)))) := Lib.hid (set8 HW.out HGEB.out _ _ _ _ _ _ _ _)
              refine hK.out _ _ (HSB.out _ HW.out) (fun hHeld => ?_)
              have HC : Hid ((((((((((u18.setCell ⟨B16, 0, none⟩ (.int .u8 y.d)).setCell ⟨B16, 1, none⟩ (.int .u8 y.f)).setCell ⟨B16, 2, none⟩ (.int .u8 y.c)).setCell ⟨B16, 3, none⟩ (.int .u8 y.r)).setCell ⟨B16, 4, none⟩ (.int .i64 y.t)).setCell ⟨B16, 5, none⟩ (.int .i64 y.n)).setCell ⟨B16, 6, none⟩ (.int .i64 y.z)).setCell ⟨B16, 7, none⟩ (.int .i64 y.k))).heap[B16]? = some (pO y 23)) := Lib.hid (set8_at HC.out _ _ _ _ _ _ _ _)
              have HA : Hid ((((((((((u18.setCell ⟨B16, 0, none⟩ (.int .u8 y.d)).setCell ⟨B16, 1, none⟩ (.int .u8 y.f)).setCell ⟨B16, 2, none⟩ (.int .u8 y.c)).setCell ⟨B16, 3, none⟩ (.int .u8 y.r)).setCell ⟨B16, 4, none⟩ (.int .i64 y.t)).setCell ⟨B16, 5, none⟩ (.int .i64 y.n)).setCell ⟨B16, 6, none⟩ (.int .i64 y.z)).setCell ⟨B16, 7, none⟩ (.int .i64 y.k))).heap[A11]? = some (pO x 23)) := Lib.hid (set8_far HA.out (by first | exact hne | exact hne.symm) _ _ _ _ _ _ _ _)
              generalize ((((((((u18.setCell ⟨B16, 0, none⟩ (.int .u8 y.d)).setCell ⟨B16, 1, none⟩ (.int .u8 y.f)).setCell ⟨B16, 2, none⟩ (.int .u8 y.c)).setCell ⟨B16, 3, none⟩ (.int .u8 y.r)).setCell ⟨B16, 4, none⟩ (.int .i64 y.t)).setCell ⟨B16, 5, none⟩ (.int .i64 y.n)).setCell ⟨B16, 6, none⟩ (.int .i64 y.z)).setCell ⟨B16, 7, none⟩ (.int .i64 y.k)) = u19 at *
              clear p0 p1 p2 p3 p4 p5 p6 p7 q0 q1 q2 q3 q4 q5 q6 q7
              clear hK K
              (try dsimp only [Act.put, List.setIfInBounds_toArray, List.set_cons_zero, List.set_cons_succ])
              refine wpAnyH_done (by kernel_rfl) ?_ _
              go_wp2_with fail
              go_meet
              exact ⟨A11, B16, rfl, rfl, HT.out.next HW.out, HA.out, HC.out⟩
          · go_simp
            refine hK.out _ _ (HSB.out _ (HW.out.alloc HW.out.size _)) (fun hHeld => ?_)
            have HC : Hid ((u1.alloc (noO 23)).heap[u1.heap.size]? = some (noO 23)) := Lib.hid (nest u1 [_] 0 _ rfl)
            have HGEB : Hid (W.heap.size ≤ u1.heap.size) := Lib.hid HW.out.size
            have HW : Hid (Below W.heap.size W (u1.alloc (noO 23))) := Lib.hid (HW.out.alloc HW.out.size _)
            generalize u1.alloc (noO 23) = u20 at *
            generalize u1.heap.size = B20 at *
            clear hK K
            (try dsimp only [Act.put, List.setIfInBounds_toArray, List.set_cons_zero, List.set_cons_succ])
            refine wpAnyH_ready (rs := [5, 6]) (by kernel_rfl) (by simp) ?_
            refine (AllReadyH.cons (o := { dst := some 92, op := Go.Op.call { callee := Go.Callee.value (Go.Operand.func 15), args := #[Go.Operand.tmp 90, Go.Operand.tmp 91], argTypes := #[23, 23] }, type := 23, pos := "law.go:47", after := #[{ on := 3, ground := Go.Ground.data }, { on := 4, ground := Go.Ground.data }, { on := 2, ground := Go.Ground.chain }], guard := none }) rfl (fun K hK => ?_) (AllReadyH.cons (o := { dst := some 15, op := Go.Op.alloc 23, type := 0, pos := "law.go:47", after := #[], guard := none }) rfl (fun K hK => ?_) AllReadyH.nil))
            · go_simp
              (with_reducible refine (CA2.out _).mono ?_)
              rintro e u21 ⟨rfl, hb⟩
              have HC := Lib.hid (stays HC.out hb)
              have HW := Lib.hid (below_on HW.out hb)
              clear hb
              go_wp2_with fail
              refine hK.out _ _ (HSB.out _ HW.out) (fun hHeld => ?_)
              clear hK K
              (try dsimp only [Act.put, List.setIfInBounds_toArray, List.set_cons_zero, List.set_cons_succ])
              refine wpAnyH_ready (rs := [6]) (by kernel_rfl) (by simp) ?_
              refine (AllReadyH.cons (o := { dst := some 15, op := Go.Op.alloc 23, type := 0, pos := "law.go:47", after := #[], guard := none }) rfl (fun K hK => ?_) AllReadyH.nil)
              go_simp
              refine hK.out _ _ (HSB.out _ (HW.out.alloc HW.out.size _)) (fun hHeld => ?_)
              have hne : B20 ≠ u21.heap.size := Nat.ne_of_lt (lt_heap HC.out)
              have HC := Lib.hid (stays HC.out ((Below.refl _ _).alloc (Nat.le_refl _) (noO 23)))
              have HA : Hid ((u21.alloc (noO 23)).heap[u21.heap.size]? = some (noO 23)) := Lib.hid (nest u21 [_] 0 _ rfl)
              have HGEA : Hid (W.heap.size ≤ u21.heap.size) := Lib.hid HW.out.size
              have HW : Hid (Below W.heap.size W (u21.alloc (noO 23))) := Lib.hid (HW.out.alloc HW.out.size _)
              generalize u21.alloc (noO 23) = u22 at *
              generalize u21.heap.size = A22 at *
              clear hK K
              (try dsimp only [Act.put, List.setIfInBounds_toArray, List.set_cons_zero, List.set_cons_succ])
              refine wpAnyH_ready (rs := [8]) (by kernel_rfl) (by simp) ?_
              refine (AllReadyH.cons (o := { dst := none, op := Go.Op.store 23 (Go.Operand.tmp 15) (Go.Operand.tmp 89), type := 0, pos := "law.go:47", after := #[{ on := 6, ground := Go.Ground.data }, { on := 2, ground := Go.Ground.data }, { on := 5, ground := Go.Ground.chain }, { on := 0, ground := Go.Ground.phase }, { on := 1, ground := Go.Ground.phase }, { on := 2, ground := Go.Ground.phase }, { on := 3, ground := Go.Ground.textOnly Go.Departure.lateStores }, { on := 4, ground := Go.Ground.textOnly Go.Departure.lateStores }, { on := 5, ground := Go.Ground.textOnly Go.Departure.lateStoresUnsure }, { on := 6, ground := Go.Ground.phase }, { on := 7, ground := Go.Ground.phase }], guard := none }) rfl (fun K hK => ?_) AllReadyH.nil)
              have p0 : u22.frozen? ⟨A22, 0, none⟩ = false := free_of HA.out
              have p1 : u22.frozen? ⟨A22, 1, none⟩ = false := free_of HA.out
              have p2 : u22.frozen? ⟨A22, 2, none⟩ = false := free_of HA.out
              have p3 : u22.frozen? ⟨A22, 3, none⟩ = false := free_of HA.out
              have p4 : u22.frozen? ⟨A22, 4, none⟩ = false := free_of HA.out
              have p5 : u22.frozen? ⟨A22, 5, none⟩ = false := free_of HA.out
              have p6 : u22.frozen? ⟨A22, 6, none⟩ = false := free_of HA.out
              have p7 : u22.frozen? ⟨A22, 7, none⟩ = false := free_of HA.out
              have q0 : u22.cell? ⟨A22, 0, none⟩ = some (.int .u8 0) := cell_of HA.out rfl
              have q1 : u22.cell? ⟨A22, 1, none⟩ = some (.int .u8 0) := cell_of HA.out rfl
              have q2 : u22.cell? ⟨A22, 2, none⟩ = some (.int .u8 0) := cell_of HA.out rfl
              have q3 : u22.cell? ⟨A22, 3, none⟩ = some (.int .u8 0) := cell_of HA.out rfl
              have q4 : u22.cell? ⟨A22, 4, none⟩ = some (.int .i64 0) := cell_of HA.out rfl
              have q5 : u22.cell? ⟨A22, 5, none⟩ = some (.int .i64 0) := cell_of HA.out rfl
              have q6 : u22.cell? ⟨A22, 6, none⟩ = some (.int .i64 0) := cell_of HA.out rfl
              have q7 : u22.cell? ⟨A22, 7, none⟩ = some (.int .i64 0) := cell_of HA.out rfl
              go_simp
              have HW : Hid (Below W.heap.size W (((((((((u22.setCell ⟨A22, 0, none⟩ (.int .u8 x.d)).setCell ⟨A22, 1, none⟩ (.int .u8 x.f)).setCell ⟨A22, 2, none⟩ (.int .u8 x.c)).setCell ⟨A22, 3, none⟩ (.int .u8 x.r)).setCell ⟨A22, 4, none⟩ (.int .i64 x.t)).setCell ⟨A22, 5, none⟩ (.int .i64 x.n)).setCell ⟨A22, 6, none⟩ (.int .i64 x.z)).setCell ⟨A22, 7, none⟩ (.int .i64 x.k)))) := Lib.hid (set8 HW.out HGEA.out _ _ _ _ _ _ _ _)
              refine hK.out _ _ (HSB.out _ HW.out) (fun hHeld => ?_)
              have HA : Hid ((((((((((u22.setCell ⟨A22, 0, none⟩ (.int .u8 x.d)).setCell ⟨A22, 1, none⟩ (.int .u8 x.f)).setCell ⟨A22, 2, none⟩ (.int .u8 x.c)).setCell ⟨A22, 3, none⟩ (.int .u8 x.r)).setCell ⟨A22, 4, none⟩ (.int .i64 x.t)).setCell ⟨A22, 5, none⟩ (.int .i64 x.n)).setCell ⟨A22, 6, none⟩ (.int .i64 x.z)).setCell ⟨A22, 7, none⟩ (.int .i64 x.k))).heap[A22]? = some (pO x 23)) := Lib.hid (set8_at HA.out _ _ _ _ _ _ _ _)
              have HC : Hid ((((((((((u22.setCell ⟨A22, 0, none⟩ (.int .u8 x.d)).setCell ⟨A22, 1, none⟩ (.int .u8 x.f)).setCell ⟨A22, 2, none⟩ (.int .u8 x.c)).setCell ⟨A22, 3, none⟩ (.int .u8 x.r)).setCell ⟨A22, 4, none⟩ (.int .i64 x.t)).setCell ⟨A22, 5, none⟩ (.int .i64 x.n)).setCell ⟨A22, 6, none⟩ (.int .i64 x.z)).setCell ⟨A22, 7, none⟩ (.int .i64 x.k))).heap[B20]? = some (noO 23)) := Lib.hid (set8_far HC.out (by first | exact hne | exact hne.symm) _ _ _ _ _ _ _ _)
              generalize ((((((((u22.setCell ⟨A22, 0, none⟩ (.int .u8 x.d)).setCell ⟨A22, 1, none⟩ (.int .u8 x.f)).setCell ⟨A22, 2, none⟩ (.int .u8 x.c)).setCell ⟨A22, 3, none⟩ (.int .u8 x.r)).setCell ⟨A22, 4, none⟩ (.int .i64 x.t)).setCell ⟨A22, 5, none⟩ (.int .i64 x.n)).setCell ⟨A22, 6, none⟩ (.int .i64 x.z)).setCell ⟨A22, 7, none⟩ (.int .i64 x.k)) = u23 at *
              clear p0 p1 p2 p3 p4 p5 p6 p7 q0 q1 q2 q3 q4 q5 q6 q7
              clear hK K
              (try dsimp only [Act.put, List.setIfInBounds_toArray, List.set_cons_zero, List.set_cons_succ])
              refine wpAnyH_ready (rs := [9]) (by kernel_rfl) (by simp) ?_
              refine (AllReadyH.cons (o := { dst := none, op := Go.Op.store 23 (Go.Operand.tmp 16) (Go.Operand.tmp 92), type := 0, pos := "law.go:47", after := #[{ on := 7, ground := Go.Ground.data }, { on := 5, ground := Go.Ground.data }, { on := 8, ground := Go.Ground.chain }, { on := 0, ground := Go.Ground.phase }, { on := 1, ground := Go.Ground.phase }, { on := 2, ground := Go.Ground.phase }, { on := 3, ground := Go.Ground.phase }, { on := 4, ground := Go.Ground.phase }, { on := 5, ground := Go.Ground.phase }, { on := 6, ground := Go.Ground.phase }, { on := 7, ground := Go.Ground.phase }, { on := 8, ground := Go.Ground.phase }], guard := none }) rfl (fun K hK => ?_) AllReadyH.nil)
              have p0 : u23.frozen? ⟨B20, 0, none⟩ = false := free_of HC.out
              have p1 : u23.frozen? ⟨B20, 1, none⟩ = false := free_of HC.out
              have p2 : u23.frozen? ⟨B20, 2, none⟩ = false := free_of HC.out
              have p3 : u23.frozen? ⟨B20, 3, none⟩ = false := free_of HC.out
              have p4 : u23.frozen? ⟨B20, 4, none⟩ = false := free_of HC.out
              have p5 : u23.frozen? ⟨B20, 5, none⟩ = false := free_of HC.out
              have p6 : u23.frozen? ⟨B20, 6, none⟩ = false := free_of HC.out
              have p7 : u23.frozen? ⟨B20, 7, none⟩ = false := free_of HC.out
              have q0 : u23.cell? ⟨B20, 0, none⟩ = some (.int .u8 0) := cell_of HC.out rfl
              have q1 : u23.cell? ⟨B20, 1, none⟩ = some (.int .u8 0) := cell_of HC.out rfl
              have q2 : u23.cell? ⟨B20, 2, none⟩ = some (.int .u8 0) := cell_of HC.out rfl
              have q3 : u23.cell? ⟨B20, 3, none⟩ = some (.int .u8 0) := cell_of HC.out rfl
              have q4 : u23.cell? ⟨B20, 4, none⟩ = some (.int .i64 0) := cell_of HC.out rfl
              have q5 : u23.cell? ⟨B20, 5, none⟩ = some (.int .i64 0) := cell_of HC.out rfl
              have q6 : u23.cell? ⟨B20, 6, none⟩ = some (.int .i64 0) := cell_of HC.out rfl
              have q7 : u23.cell? ⟨B20, 7, none⟩ = some (.int .i64 0) := cell_of HC.out rfl
              go_simp
              have HW : Hid (Below W.heap.size W (((((((((u23.setCell ⟨B20, 0, none⟩ (.int .u8 y.d)).setCell ⟨B20, 1, none⟩ (.int .u8 y.f)).setCell ⟨B20, 2, none⟩ (.int .u8 y.c)).setCell ⟨B20, 3, none⟩ (.int .u8 y.r)).setCell ⟨B20, 4, none⟩ (.int .i64 y.t)).setCell ⟨B20, 5, none⟩ (.int .i64 y.n)).setCell ⟨B20, 6, none⟩ (.int .i64 y.z)).setCell ⟨B20, 7, none⟩ (.int .i64 y.k)))) := Lib.hid (set8 HW.out HGEB.out _ _ _ _ _ _ _ _)
              refine hK.out _ _ (HSB.out _ HW.out) (fun hHeld => ?_)
              have HC : Hid ((((((((((u23.setCell ⟨B20, 0, none⟩ (.int .u8 y.d)).setCell ⟨B20, 1, none⟩ (.int .u8 y.f)).setCell ⟨B20, 2, none⟩ (.int .u8 y.c)).setCell ⟨B20, 3, none⟩ (.int .u8 y.r)).setCell ⟨B20, 4, none⟩ (.int .i64 y.t)).setCell ⟨B20, 5, none⟩ (.int .i64 y.n)).setCell ⟨B20, 6, none⟩ (.int .i64 y.z)).setCell ⟨B20, 7, none⟩ (.int .i64 y.k))).heap[B20]? = some (pO y 23)) := Lib.hid (set8_at HC.out _ _ _ _ _ _ _ _)
              have HA : Hid ((((((((((u23.setCell ⟨B20, 0, none⟩ (.int .u8 y.d)).setCell ⟨B20, 1, none⟩ (.int .u8 y.f)).setCell ⟨B20, 2, none⟩ (.int .u8 y.c)).setCell ⟨B20, 3, none⟩ (.int .u8 y.r)).setCell ⟨B20, 4, none⟩ (.int .i64 y.t)).setCell ⟨B20, 5, none⟩ (.int .i64 y.n)).setCell ⟨B20, 6, none⟩ (.int .i64 y.z)).setCell ⟨B20, 7, none⟩ (.int .i64 y.k))).heap[A22]? = some (pO x 23)) := Lib.hid (set8_far HA.out (by first | exact hne | exact hne.symm) _ _ _ _ _ _ _ _)
              generalize ((((((((u23.setCell ⟨B20, 0, none⟩ (.int .u8 y.d)).setCell ⟨B20, 1, none⟩ (.int .u8 y.f)).setCell ⟨B20, 2, none⟩ (.int .u8 y.c)).setCell ⟨B20, 3, none⟩ (.int .u8 y.r)).setCell ⟨B20, 4, none⟩ (.int .i64 y.t)).setCell ⟨B20, 5, none⟩ (.int .i64 y.n)).setCell ⟨B20, 6, none⟩ (.int .i64 y.z)).setCell ⟨B20, 7, none⟩ (.int .i64 y.k)) = u24 at *
              clear p0 p1 p2 p3 p4 p5 p6 p7 q0 q1 q2 q3 q4 q5 q6 q7
              clear hK K
              (try dsimp only [Act.put, List.setIfInBounds_toArray, List.set_cons_zero, List.set_cons_succ])
              refine wpAnyH_done (by kernel_rfl) ?_ _
              go_wp2_with fail
              go_meet
              exact ⟨A22, B20, rfl, rfl, HT.out.next HW.out, HA.out, HC.out⟩
            · go_simp
              refine hK.out _ _ (HSB.out _ (HW.out.alloc HW.out.size _)) (fun hHeld => ?_)
              have hne : B20 ≠ u20.heap.size := Nat.ne_of_lt (lt_heap HC.out)
              have HC := Lib.hid (stays HC.out ((Below.refl _ _).alloc (Nat.le_refl _) (noO 23)))
              have HA : Hid ((u20.alloc (noO 23)).heap[u20.heap.size]? = some (noO 23)) := Lib.hid (nest u20 [_] 0 _ rfl)
              have HGEA : Hid (W.heap.size ≤ u20.heap.size) := Lib.hid HW.out.size
              have HW : Hid (Below W.heap.size W (u20.alloc (noO 23))) := Lib.hid (HW.out.alloc HW.out.size _)
              generalize u20.alloc (noO 23) = u25 at *
              generalize u20.heap.size = A25 at *
              clear hK K
              (try dsimp only [Act.put, List.setIfInBounds_toArray, List.set_cons_zero, List.set_cons_succ])
              refine wpAnyH_ready (rs := [5]) (by kernel_rfl) (by simp) ?_
              refine (AllReadyH.cons (o := { dst := some 92, op := Go.Op.call { callee := Go.Callee.value (Go.Operand.func 15), args := #[Go.Operand.tmp 90, Go.Operand.tmp 91], argTypes := #[23, 23] }, type := 23, pos := "law.go:47", after := #[{ on := 3, ground := Go.Ground.data }, { on := 4, ground := Go.Ground.data }, { on := 2, ground := Go.Ground.chain }], guard := none }) rfl (fun K hK => ?_) AllReadyH.nil)
              go_simp
              (with_reducible refine (CA2.out _).mono ?_)
              rintro e u26 ⟨rfl, hb⟩
              have HA := Lib.hid (stays HA.out hb)
              have HC := Lib.hid (stays HC.out hb)
              have HW := Lib.hid (below_on HW.out hb)
              clear hb
              go_wp2_with fail
              refine hK.out _ _ (HSB.out _ HW.out) (fun hHeld => ?_)
              clear hK K
              (try dsimp only [Act.put, List.setIfInBounds_toArray, List.set_cons_zero, List.set_cons_succ])
              refine wpAnyH_ready (rs := [8]) (by kernel_rfl) (by simp) ?_
              refine (AllReadyH.cons (o := { dst := none, op := Go.Op.store 23 (Go.Operand.tmp 15) (Go.Operand.tmp 89), type := 0, pos := "law.go:47", after := #[{ on := 6, ground := Go.Ground.data }, { on := 2, ground := Go.Ground.data }, { on := 5, ground := Go.Ground.chain }, { on := 0, ground := Go.Ground.phase }, { on := 1, ground := Go.Ground.phase }, { on := 2, ground := Go.Ground.phase }, { on := 3, ground := Go.Ground.textOnly Go.Departure.lateStores }, { on := 4, ground := Go.Ground.textOnly Go.Departure.lateStores }, { on := 5, ground := Go.Ground.textOnly Go.Departure.lateStoresUnsure }, { on := 6, ground := Go.Ground.phase }, { on := 7, ground := Go.Ground.phase }], guard := none }) rfl (fun K hK => ?_) AllReadyH.nil)
              have p0 : u26.frozen? ⟨A25, 0, none⟩ = false := free_of HA.out
              have p1 : u26.frozen? ⟨A25, 1, none⟩ = false := free_of HA.out
              have p2 : u26.frozen? ⟨A25, 2, none⟩ = false := free_of HA.out
              have p3 : u26.frozen? ⟨A25, 3, none⟩ = false := free_of HA.out
              have p4 : u26.frozen? ⟨A25, 4, none⟩ = false := free_of HA.out
              have p5 : u26.frozen? ⟨A25, 5, none⟩ = false := free_of HA.out
              have p6 : u26.frozen? ⟨A25, 6, none⟩ = false := free_of HA.out
              have p7 : u26.frozen? ⟨A25, 7, none⟩ = false := free_of HA.out
              have q0 : u26.cell? ⟨A25, 0, none⟩ = some (.int .u8 0) := cell_of HA.out rfl
              have q1 : u26.cell? ⟨A25, 1, none⟩ = some (.int .u8 0) := cell_of HA.out rfl
              have q2 : u26.cell? ⟨A25, 2, none⟩ = some (.int .u8 0) := cell_of HA.out rfl
              have q3 : u26.cell? ⟨A25, 3, none⟩ = some (.int .u8 0) := cell_of HA.out rfl
              have q4 : u26.cell? ⟨A25, 4, none⟩ = some (.int .i64 0) := cell_of HA.out rfl
              have q5 : u26.cell? ⟨A25, 5, none⟩ = some (.int .i64 0) := cell_of HA.out rfl
              have q6 : u26.cell? ⟨A25, 6, none⟩ = some (.int .i64 0) := cell_of HA.out rfl
              have q7 : u26.cell? ⟨A25, 7, none⟩ = some (.int .i64 0) := cell_of HA.out rfl
              go_simp
              have HW : Hid (Below W.heap.size W (((((((((u26.setCell ⟨A25, 0, none⟩ (.int .u8 x.d)).setCell ⟨A25, 1, none⟩ (.int .u8 x.f)).setCell ⟨A25, 2, none⟩ (.int .u8 x.c)).setCell ⟨A25, 3, none⟩ (.int .u8 x.r)).setCell ⟨A25, 4, none⟩ (.int .i64 x.t)).setCell ⟨A25, 5, none⟩ (.int .i64 x.n)).setCell ⟨A25, 6, none⟩ (.int .i64 x.z)).setCell ⟨A25, 7, none⟩ (.int .i64 x.k)))) := Lib.hid (set8 HW.out HGEA.out _ _ _ _ _ _ _ _)
              refine hK.out _ _ (HSB.out _ HW.out) (fun hHeld => ?_)
              have HA : Hid ((((((((((u26.setCell ⟨A25, 0, none⟩ (.int .u8 x.d)).setCell ⟨A25, 1, none⟩ (.int .u8 x.f)).setCell ⟨A25, 2, none⟩ (.int .u8 x.c)).setCell ⟨A25, 3, none⟩ (.int .u8 x.r)).setCell ⟨A25, 4, none⟩ (.int .i64 x.t)).setCell ⟨A25, 5, none⟩ (.int .i64 x.n)).setCell ⟨A25, 6, none⟩ (.int .i64 x.z)).setCell ⟨A25, 7, none⟩ (.int .i64 x.k))).heap[A25]? = some (pO x 23)) := Lib.hid (set8_at HA.out _ _ _ _ _ _ _ _)
              have HC : Hid ((((((((((u26.setCell ⟨A25, 0, none⟩ (.int .u8 x.d)).setCell ⟨A25, 1, none⟩ (.int .u8 x.f)).setCell ⟨A25, 2, none⟩ (.int .u8 x.c)).setCell ⟨A25, 3, none⟩ (.int .u8 x.r)).setCell ⟨A25, 4, none⟩ (.int .i64 x.t)).setCell ⟨A25, 5, none⟩ (.int .i64 x.n)).setCell ⟨A25, 6, none⟩ (.int .i64 x.z)).setCell ⟨A25, 7, none⟩ (.int .i64 x.k))).heap[B20]? = some (noO 23)) := Lib.hid (set8_far HC.out (by first | exact hne | exact hne.symm) _ _ _ _ _ _ _ _)
              generalize ((((((((u26.setCell ⟨A25, 0, none⟩ (.int .u8 x.d)).setCell ⟨A25, 1, none⟩ (.int .u8 x.f)).setCell ⟨A25, 2, none⟩ (.int .u8 x.c)).setCell ⟨A25, 3, none⟩ (.int .u8 x.r)).setCell ⟨A25, 4, none⟩ (.int .i64 x.t)).setCell ⟨A25, 5, none⟩ (.int .i64 x.n)).setCell ⟨A25, 6, none⟩ (.int .i64 x.z)).setCell ⟨A25, 7, none⟩ (.int .i64 x.k)) = u27 at *
              clear p0 p1 p2 p3 p4 p5 p6 p7 q0 q1 q2 q3 q4 q5 q6 q7
              clear hK K
              (try dsimp only [Act.put, List.setIfInBounds_toArray, List.set_cons_zero, List.set_cons_succ])
              refine wpAnyH_ready (rs := [9]) (by kernel_rfl) (by simp) ?_
              refine (AllReadyH.cons (o := { dst := none, op := Go.Op.store 23 (Go.Operand.tmp 16) (Go.Operand.tmp 92), type := 0, pos := "law.go:47", after := #[{ on := 7, ground := Go.Ground.data }, { on := 5, ground := Go.Ground.data }, { on := 8, ground := Go.Ground.chain }, { on := 0, ground := Go.Ground.phase }, { on := 1, ground := Go.Ground.phase }, { on := 2, ground := Go.Ground.phase }, { on := 3, ground := Go.Ground.phase }, { on := 4, ground := Go.Ground.phase }, { on := 5, ground := Go.Ground.phase }, { on := 6, ground := Go.Ground.phase }, { on := 7, ground := Go.Ground.phase }, { on := 8, ground := Go.Ground.phase }], guard := none }) rfl (fun K hK => ?_) AllReadyH.nil)
              have p0 : u27.frozen? ⟨B20, 0, none⟩ = false := free_of HC.out
              have p1 : u27.frozen? ⟨B20, 1, none⟩ = false := free_of HC.out
              have p2 : u27.frozen? ⟨B20, 2, none⟩ = false := free_of HC.out
              have p3 : u27.frozen? ⟨B20, 3, none⟩ = false := free_of HC.out
              have p4 : u27.frozen? ⟨B20, 4, none⟩ = false := free_of HC.out
              have p5 : u27.frozen? ⟨B20, 5, none⟩ = false := free_of HC.out
              have p6 : u27.frozen? ⟨B20, 6, none⟩ = false := free_of HC.out
              have p7 : u27.frozen? ⟨B20, 7, none⟩ = false := free_of HC.out
              have q0 : u27.cell? ⟨B20, 0, none⟩ = some (.int .u8 0) := cell_of HC.out rfl
              have q1 : u27.cell? ⟨B20, 1, none⟩ = some (.int .u8 0) := cell_of HC.out rfl
              have q2 : u27.cell? ⟨B20, 2, none⟩ = some (.int .u8 0) := cell_of HC.out rfl
              have q3 : u27.cell? ⟨B20, 3, none⟩ = some (.int .u8 0) := cell_of HC.out rfl
              have q4 : u27.cell? ⟨B20, 4, none⟩ = some (.int .i64 0) := cell_of HC.out rfl
              have q5 : u27.cell? ⟨B20, 5, none⟩ = some (.int .i64 0) := cell_of HC.out rfl
              have q6 : u27.cell? ⟨B20, 6, none⟩ = some (.int .i64 0) := cell_of HC.out rfl
              have q7 : u27.cell? ⟨B20, 7, none⟩ = some (.int .i64 0) := cell_of HC.out rfl
              go_simp
              have HW : Hid (Below W.heap.size W (((((((((u27.setCell ⟨B20, 0, none⟩ (.int .u8 y.d)).setCell ⟨B20, 1, none⟩ (.int .u8 y.f)).setCell ⟨B20, 2, none⟩ (.int .u8 y.c)).setCell ⟨B20, 3, none⟩ (.int .u8 y.r)).setCell ⟨B20, 4, none⟩ (.int .i64 y.t)).setCell ⟨B20, 5, none⟩ (.int .i64 y.n)).setCell ⟨B20, 6, none⟩ (.int .i64 y.z)).setCell ⟨B20, 7, none⟩ (.int .i64 y.k)))) := Lib.hid (set8 HW.out HGEB.out _ _ _ _ _ _ _ _)
              refine hK.out _ _ (HSB.out _ HW.out) (fun hHeld => ?_)
              have HC : Hid ((((((((((u27.setCell ⟨B20, 0, none⟩ (.int .u8 y.d)).setCell ⟨B20, 1, none⟩ (.int .u8 y.f)).setCell ⟨B20, 2, none⟩ (.int .u8 y.c)).setCell ⟨B20, 3, none⟩ (.int .u8 y.r)).setCell ⟨B20, 4, none⟩ (.int .i64 y.t)).setCell ⟨B20, 5, none⟩ (.int .i64 y.n)).setCell ⟨B20, 6, none⟩ (.int .i64 y.z)).setCell ⟨B20, 7, none⟩ (.int .i64 y.k))).heap[B20]? = some (pO y 23)) := Lib.hid (set8_at HC.out _ _ _ _ _ _ _ _)
              have HA : Hid ((((((((((u27.setCell ⟨B20, 0, none⟩ (.int .u8 y.d)).setCell ⟨B20, 1, none⟩ (.int .u8 y.f)).setCell ⟨B20, 2, none⟩ (.int .u8 y.c)).setCell ⟨B20, 3, none⟩ (.int .u8 y.r)).setCell ⟨B20, 4, none⟩ (.int .i64 y.t)).setCell ⟨B20, 5, none⟩ (.int .i64 y.n)).setCell ⟨B20, 6, none⟩ (.int .i64 y.z)).setCell ⟨B20, 7, none⟩ (.int .i64 y.k))).heap[A25]? = some (pO x 23)) := Lib.hid (set8_far HA.out (by first | exact hne | exact hne.symm) _ _ _ _ _ _ _ _)
              generalize ((((((((u27.setCell ⟨B20, 0, none⟩ (.int .u8 y.d)).setCell ⟨B20, 1, none⟩ (.int .u8 y.f)).setCell ⟨B20, 2, none⟩ (.int .u8 y.c)).setCell ⟨B20, 3, none⟩ (.int .u8 y.r)).setCell ⟨B20, 4, none⟩ (.int .i64 y.t)).setCell ⟨B20, 5, none⟩ (.int .i64 y.n)).setCell ⟨B20, 6, none⟩ (.int .i64 y.z)).setCell ⟨B20, 7, none⟩ (.int .i64 y.k)) = u28 at *
              clear p0 p1 p2 p3 p4 p5 p6 p7 q0 q1 q2 q3 q4 q5 q6 q7
              clear hK K
              (try dsimp only [Act.put, List.setIfInBounds_toArray, List.set_cons_zero, List.set_cons_succ])
              refine wpAnyH_done (by kernel_rfl) ?_ _
              go_wp2_with fail
              go_meet
              exact ⟨A25, B20, rfl, rfl, HT.out.next HW.out, HA.out, HC.out⟩
        · go_simp
          refine hK.out _ _ (HSB.out _ (HW.out.alloc HW.out.size _)) (fun hHeld => ?_)
          have HA : Hid ((u0.alloc (noO 23)).heap[u0.heap.size]? = some (noO 23)) := Lib.hid (nest u0 [_] 0 _ rfl)
          have HGEA : Hid (W.heap.size ≤ u0.heap.size) := Lib.hid HW.out.size
          have HW : Hid (Below W.heap.size W (u0.alloc (noO 23))) := Lib.hid (HW.out.alloc HW.out.size _)
          generalize u0.alloc (noO 23) = u29 at *
          generalize u0.heap.size = A29 at *
          clear hK K
          (try dsimp only [Act.put, List.setIfInBounds_toArray, List.set_cons_zero, List.set_cons_succ])
          refine wpAnyH_ready (rs := [2, 7]) (by kernel_rfl) (by simp) ?_
          refine (AllReadyH.cons (o := { dst := some 89, op := Go.Op.call { callee := Go.Callee.value (Go.Operand.func 15), args := #[Go.Operand.tmp 87, Go.Operand.tmp 88], argTypes := #[23, 23] }, type := 23, pos := "law.go:47", after := #[{ on := 0, ground := Go.Ground.data }, { on := 1, ground := Go.Ground.data }], guard := none }) rfl (fun K hK => ?_) (AllReadyH.cons (o := { dst := some 16, op := Go.Op.alloc 23, type := 0, pos := "law.go:47", after := #[], guard := none }) rfl (fun K hK => ?_) AllReadyH.nil))
          · go_simp
            (with_reducible refine (CA1.out _).mono ?_)
            rintro e u30 ⟨rfl, hb⟩
            have HA := Lib.hid (stays HA.out hb)
            have HW := Lib.hid (below_on HW.out hb)
            clear hb
            go_wp2_with fail
            refine hK.out _ _ (HSB.out _ HW.out) (fun hHeld => ?_)
            clear hK K
            (try dsimp only [Act.put, List.setIfInBounds_toArray, List.set_cons_zero, List.set_cons_succ])
            refine wpAnyH_ready (rs := [5, 7]) (by kernel_rfl) (by simp) ?_
            refine (AllReadyH.cons (o := { dst := some 92, op := Go.Op.call { callee := Go.Callee.value (Go.Operand.func 15), args := #[Go.Operand.tmp 90, Go.Operand.tmp 91], argTypes := #[23, 23] }, type := 23, pos := "law.go:47", after := #[{ on := 3, ground := Go.Ground.data }, { on := 4, ground := Go.Ground.data }, { on := 2, ground := Go.Ground.chain }], guard := none }) rfl (fun K hK => ?_) (AllReadyH.cons (o := { dst := some 16, op := Go.Op.alloc 23, type := 0, pos := "law.go:47", after := #[], guard := none }) rfl (fun K hK => ?_) AllReadyH.nil))
            · go_simp
              (with_reducible refine (CA2.out _).mono ?_)
              rintro e u31 ⟨rfl, hb⟩
              have HA := Lib.hid (stays HA.out hb)
              have HW := Lib.hid (below_on HW.out hb)
              clear hb
              go_wp2_with fail
              refine hK.out _ _ (HSB.out _ HW.out) (fun hHeld => ?_)
              clear hK K
              (try dsimp only [Act.put, List.setIfInBounds_toArray, List.set_cons_zero, List.set_cons_succ])
              refine wpAnyH_ready (rs := [7]) (by kernel_rfl) (by simp) ?_
              refine (AllReadyH.cons (o := { dst := some 16, op := Go.Op.alloc 23, type := 0, pos := "law.go:47", after := #[], guard := none }) rfl (fun K hK => ?_) AllReadyH.nil)
              go_simp
              refine hK.out _ _ (HSB.out _ (HW.out.alloc HW.out.size _)) (fun hHeld => ?_)
              have hne : A29 ≠ u31.heap.size := Nat.ne_of_lt (lt_heap HA.out)
              have HA := Lib.hid (stays HA.out ((Below.refl _ _).alloc (Nat.le_refl _) (noO 23)))
              have HC : Hid ((u31.alloc (noO 23)).heap[u31.heap.size]? = some (noO 23)) := Lib.hid (nest u31 [_] 0 _ rfl)
              have HGEB : Hid (W.heap.size ≤ u31.heap.size) := Lib.hid HW.out.size
              have HW : Hid (Below W.heap.size W (u31.alloc (noO 23))) := Lib.hid (HW.out.alloc HW.out.size _)
              generalize u31.alloc (noO 23) = u32 at *
              generalize u31.heap.size = B32 at *
              clear hK K
              (try dsimp only [Act.put, List.setIfInBounds_toArray, List.set_cons_zero, List.set_cons_succ])
              refine wpAnyH_ready (rs := [8]) (by kernel_rfl) (by simp) ?_
              refine (AllReadyH.cons (o := { dst := none, op := Go.Op.store 23 (Go.Operand.tmp 15) (Go.Operand.tmp 89), type := 0, pos := "law.go:47", after := #[{ on := 6, ground := Go.Ground.data }, { on := 2, ground := Go.Ground.data }, { on := 5, ground := Go.Ground.chain }, { on := 0, ground := Go.Ground.phase }, { on := 1, ground := Go.Ground.phase }, { on := 2, ground := Go.Ground.phase }, { on := 3, ground := Go.Ground.textOnly Go.Departure.lateStores }, { on := 4, ground := Go.Ground.textOnly Go.Departure.lateStores }, { on := 5, ground := Go.Ground.textOnly Go.Departure.lateStoresUnsure }, { on := 6, ground := Go.Ground.phase }, { on := 7, ground := Go.Ground.phase }], guard := none }) rfl (fun K hK => ?_) AllReadyH.nil)
              have p0 : u32.frozen? ⟨A29, 0, none⟩ = false := free_of HA.out
              have p1 : u32.frozen? ⟨A29, 1, none⟩ = false := free_of HA.out
              have p2 : u32.frozen? ⟨A29, 2, none⟩ = false := free_of HA.out
              have p3 : u32.frozen? ⟨A29, 3, none⟩ = false := free_of HA.out
              have p4 : u32.frozen? ⟨A29, 4, none⟩ = false := free_of HA.out
              have p5 : u32.frozen? ⟨A29, 5, none⟩ = false := free_of HA.out
              have p6 : u32.frozen? ⟨A29, 6, none⟩ = false := free_of HA.out
              have p7 : u32.frozen? ⟨A29, 7, none⟩ = false := free_of HA.out
              have q0 : u32.cell? ⟨A29, 0, none⟩ = some (.int .u8 0) := cell_of HA.out rfl
              have q1 : u32.cell? ⟨A29, 1, none⟩ = some (.int .u8 0) := cell_of HA.out rfl
              have q2 : u32.cell? ⟨A29, 2, none⟩ = some (.int .u8 0) := cell_of HA.out rfl
              have q3 : u32.cell? ⟨A29, 3, none⟩ = some (.int .u8 0) := cell_of HA.out rfl
              have q4 : u32.cell? ⟨A29, 4, none⟩ = some (.int .i64 0) := cell_of HA.out rfl
              have q5 : u32.cell? ⟨A29, 5, none⟩ = some (.int .i64 0) := cell_of HA.out rfl
              have q6 : u32.cell? ⟨A29, 6, none⟩ = some (.int .i64 0) := cell_of HA.out rfl
              have q7 : u32.cell? ⟨A29, 7, none⟩ = some (.int .i64 0) := cell_of HA.out rfl
              go_simp
              have HW : Hid (Below W.heap.size W (((((((((u32.setCell ⟨A29, 0, none⟩ (.int .u8 x.d)).setCell ⟨A29, 1, none⟩ (.int .u8 x.f)).setCell ⟨A29, 2, none⟩ (.int .u8 x.c)).setCell ⟨A29, 3, none⟩ (.int .u8 x.r)).setCell ⟨A29, 4, none⟩ (.int .i64 x.t)).setCell ⟨A29, 5, none⟩ (.int .i64 x.n)).setCell ⟨A29, 6, none⟩ (.int .i64 x.z)).setCell ⟨A29, 7, none⟩ (.int .i64 x.k)))) := Lib.hid (set8 HW.out HGEA.out _ _ _ _ _ _ _ _)
              refine hK.out _ _ (HSB.out _ HW.out) (fun hHeld => ?_)
              have HA : Hid ((((((((((u32.setCell ⟨A29, 0, none⟩ (.int .u8 x.d)).setCell ⟨A29, 1, none⟩ (.int .u8 x.f)).setCell ⟨A29, 2, none⟩ (.int .u8 x.c)).setCell ⟨A29, 3, none⟩ (.int .u8 x.r)).setCell ⟨A29, 4, none⟩ (.int .i64 x.t)).setCell ⟨A29, 5, none⟩ (.int .i64 x.n)).setCell ⟨A29, 6, none⟩ (.int .i64 x.z)).setCell ⟨A29, 7, none⟩ (.int .i64 x.k))).heap[A29]? = some (pO x 23)) := Lib.hid (set8_at HA.out _ _ _ _ _ _ _ _)
              have HC : Hid ((((((((((u32.setCell ⟨A29, 0, none⟩ (.int .u8 x.d)).setCell ⟨A29, 1, none⟩ (.int .u8 x.f)).setCell ⟨A29, 2, none⟩ (.int .u8 x.c)).setCell ⟨A29, 3, none⟩ (.int .u8 x.r)).setCell ⟨A29, 4, none⟩ (.int .i64 x.t)).setCell ⟨A29, 5, none⟩ (.int .i64 x.n)).setCell ⟨A29, 6, none⟩ (.int .i64 x.z)).setCell ⟨A29, 7, none⟩ (.int .i64 x.k))).heap[B32]? = some (noO 23)) := Lib.hid (set8_far HC.out (by first | exact hne | exact hne.symm) _ _ _ _ _ _ _ _)
              generalize ((((((((u32.setCell ⟨A29, 0, none⟩ (.int .u8 x.d)).setCell ⟨A29, 1, none⟩ (.int .u8 x.f)).setCell ⟨A29, 2, none⟩ (.int .u8 x.c)).setCell ⟨A29, 3, none⟩ (.int .u8 x.r)).setCell ⟨A29, 4, none⟩ (.int .i64 x.t)).setCell ⟨A29, 5, none⟩ (.int .i64 x.n)).setCell ⟨A29, 6, none⟩ (.int .i64 x.z)).setCell ⟨A29, 7, none⟩ (.int .i64 x.k)) = u33 at *
              clear p0 p1 p2 p3 p4 p5 p6 p7 q0 q1 q2 q3 q4 q5 q6 q7
              clear hK K
              (try dsimp only [Act.put, List.setIfInBounds_toArray, List.set_cons_zero, List.set_cons_succ])
              refine wpAnyH_ready (rs := [9]) (by kernel_rfl) (by simp) ?_
              refine (AllReadyH.cons (o := { dst := none, op := Go.Op.store 23 (Go.Operand.tmp 16) (Go.Operand.tmp 92), type := 0, pos := "law.go:47", after := #[{ on := 7, ground := Go.Ground.data }, { on := 5, ground := Go.Ground.data }, { on := 8, ground := Go.Ground.chain }, { on := 0, ground := Go.Ground.phase }, { on := 1, ground := Go.Ground.phase }, { on := 2, ground := Go.Ground.phase }, { on := 3, ground := Go.Ground.phase }, { on := 4, ground := Go.Ground.phase }, { on := 5, ground := Go.Ground.phase }, { on := 6, ground := Go.Ground.phase }, { on := 7, ground := Go.Ground.phase }, { on := 8, ground := Go.Ground.phase }], guard := none }) rfl (fun K hK => ?_) AllReadyH.nil)
              have p0 : u33.frozen? ⟨B32, 0, none⟩ = false := free_of HC.out
              have p1 : u33.frozen? ⟨B32, 1, none⟩ = false := free_of HC.out
              have p2 : u33.frozen? ⟨B32, 2, none⟩ = false := free_of HC.out
              have p3 : u33.frozen? ⟨B32, 3, none⟩ = false := free_of HC.out
              have p4 : u33.frozen? ⟨B32, 4, none⟩ = false := free_of HC.out
              have p5 : u33.frozen? ⟨B32, 5, none⟩ = false := free_of HC.out
              have p6 : u33.frozen? ⟨B32, 6, none⟩ = false := free_of HC.out
              have p7 : u33.frozen? ⟨B32, 7, none⟩ = false := free_of HC.out
              have q0 : u33.cell? ⟨B32, 0, none⟩ = some (.int .u8 0) := cell_of HC.out rfl
              have q1 : u33.cell? ⟨B32, 1, none⟩ = some (.int .u8 0) := cell_of HC.out rfl
              have q2 : u33.cell? ⟨B32, 2, none⟩ = some (.int .u8 0) := cell_of HC.out rfl
              have q3 : u33.cell? ⟨B32, 3, none⟩ = some (.int .u8 0) := cell_of HC.out rfl
              have q4 : u33.cell? ⟨B32, 4, none⟩ = some (.int .i64 0) := cell_of HC.out rfl
              have q5 : u33.cell? ⟨B32, 5, none⟩ = some (.int .i64 0) := cell_of HC.out rfl
              have q6 : u33.cell? ⟨B32, 6, none⟩ = some (.int .i64 0) := cell_of HC.out rfl
              have q7 : u33.cell? ⟨B32, 7, none⟩ = some (.int .i64 0) := cell_of HC.out rfl
              go_simp
              have HW : Hid (Below W.heap.size W (((((((((u33.setCell ⟨B32, 0, none⟩ (.int .u8 y.d)).setCell ⟨B32, 1, none⟩ (.int .u8 y.f)).setCell ⟨B32, 2, none⟩ (.int .u8 y.c)).setCell ⟨B32, 3, none⟩ (.int .u8 y.r)).setCell ⟨B32, 4, none⟩ (.int .i64 y.t)).setCell ⟨B32, 5, none⟩ (.int .i64 y.n)).setCell ⟨B32, 6, none⟩ (.int .i64 y.z)).setCell ⟨B32, 7, none⟩ (.int .i64 y.k)))) := Lib.hid (set8 HW.out HGEB.out _ _ _ _ _ _ _ _)
              refine hK.out _ _ (HSB.out _ HW.out) (fun hHeld => ?_)
              have HC : Hid ((((((((((u33.setCell ⟨B32, 0, none⟩ (.int .u8 y.d)).setCell ⟨B32, 1, none⟩ (.int .u8 y.f)).setCell ⟨B32, 2, none⟩ (.int .u8 y.c)).setCell ⟨B32, 3, none⟩ (.int .u8 y.r)).setCell ⟨B32, 4, none⟩ (.int .i64 y.t)).setCell ⟨B32, 5, none⟩ (.int .i64 y.n)).setCell ⟨B32, 6, none⟩ (.int .i64 y.z)).setCell ⟨B32, 7, none⟩ (.int .i64 y.k))).heap[B32]? = some (pO y 23)) := Lib.hid (set8_at HC.out _ _ _ _ _ _ _ _)
              have HA : Hid ((((((((((u33.setCell ⟨B32, 0, none⟩ (.int .u8 y.d)).setCell ⟨B32, 1, none⟩ (.int .u8 y.f)).setCell ⟨B32, 2, none⟩ (.int .u8 y.c)).setCell ⟨B32, 3, none⟩ (.int .u8 y.r)).setCell ⟨B32, 4, none⟩ (.int .i64 y.t)).setCell ⟨B32, 5, none⟩ (.int .i64 y.n)).setCell ⟨B32, 6, none⟩ (.int .i64 y.z)).setCell ⟨B32, 7, none⟩ (.int .i64 y.k))).heap[A29]? = some (pO x 23)) := Lib.hid (set8_far HA.out (by first | exact hne | exact hne.symm) _ _ _ _ _ _ _ _)
              generalize ((((((((u33.setCell ⟨B32, 0, none⟩ (.int .u8 y.d)).setCell ⟨B32, 1, none⟩ (.int .u8 y.f)).setCell ⟨B32, 2, none⟩ (.int .u8 y.c)).setCell ⟨B32, 3, none⟩ (.int .u8 y.r)).setCell ⟨B32, 4, none⟩ (.int .i64 y.t)).setCell ⟨B32, 5, none⟩ (.int .i64 y.n)).setCell ⟨B32, 6, none⟩ (.int .i64 y.z)).setCell ⟨B32, 7, none⟩ (.int .i64 y.k)) = u34 at *
              clear p0 p1 p2 p3 p4 p5 p6 p7 q0 q1 q2 q3 q4 q5 q6 q7
              clear hK K
              (try dsimp only [Act.put, List.setIfInBounds_toArray, List.set_cons_zero, List.set_cons_succ])
              refine wpAnyH_done (by kernel_rfl) ?_ _
              go_wp2_with fail
              go_meet
              exact ⟨A29, B32, rfl, rfl, HT.out.next HW.out, HA.out, HC.out⟩
            · go_simp
              refine hK.out _ _ (HSB.out _ (HW.out.alloc HW.out.size _)) (fun hHeld => ?_)
              have hne : A29 ≠ u30.heap.size := Nat.ne_of_lt (lt_heap HA.out)
              have HA := Lib.hid (stays HA.out ((Below.refl _ _).alloc (Nat.le_refl _) (noO 23)))
              have HC : Hid ((u30.alloc (noO 23)).heap[u30.heap.size]? = some (noO 23)) := Lib.hid (nest u30 [_] 0 _ rfl)
              have HGEB : Hid (W.heap.size ≤ u30.heap.size) := Lib.hid HW.out.size
              have HW : Hid (Below W.heap.size W (u30.alloc (noO 23))) := Lib.hid (HW.out.alloc HW.out.size _)
              generalize u30.alloc (noO 23) = u35 at *
              generalize u30.heap.size = B35 at *
              clear hK K
              (try dsimp only [Act.put, List.setIfInBounds_toArray, List.set_cons_zero, List.set_cons_succ])
              refine wpAnyH_ready (rs := [5]) (by kernel_rfl) (by simp) ?_
              refine (AllReadyH.cons (o := { dst := some 92, op := Go.Op.call { callee := Go.Callee.value (Go.Operand.func 15), args := #[Go.Operand.tmp 90, Go.Operand.tmp 91], argTypes := #[23, 23] }, type := 23, pos := "law.go:47", after := #[{ on := 3, ground := Go.Ground.data }, { on := 4, ground := Go.Ground.data }, { on := 2, ground := Go.Ground.chain }], guard := none }) rfl (fun K hK => ?_) AllReadyH.nil)
              go_simp
              (with_reducible refine (CA2.out _).mono ?_)
              rintro e u36 ⟨rfl, hb⟩
              have HA := Lib.hid (stays HA.out hb)
              have HC := Lib.hid (stays HC.out hb)
              have HW := Lib.hid (below_on HW.out hb)
              clear hb
              go_wp2_with fail
              refine hK.out _ _ (HSB.out _ HW.out) (fun hHeld => ?_)
              clear hK K
              (try dsimp only [Act.put, List.setIfInBounds_toArray, List.set_cons_zero, List.set_cons_succ])
              refine wpAnyH_ready (rs := [8]) (by kernel_rfl) (by simp) ?_
              refine (AllReadyH.cons (o := { dst := none, op := Go.Op.store 23 (Go.Operand.tmp 15) (Go.Operand.tmp 89), type := 0, pos := "law.go:47", after := #[{ on := 6, ground := Go.Ground.data }, { on := 2, ground := Go.Ground.data }, { on := 5, ground := Go.Ground.chain }, { on := 0, ground := Go.Ground.phase }, { on := 1, ground := Go.Ground.phase }, { on := 2, ground := Go.Ground.phase }, { on := 3, ground := Go.Ground.textOnly Go.Departure.lateStores }, { on := 4, ground := Go.Ground.textOnly Go.Departure.lateStores }, { on := 5, ground := Go.Ground.textOnly Go.Departure.lateStoresUnsure }, { on := 6, ground := Go.Ground.phase }, { on := 7, ground := Go.Ground.phase }], guard := none }) rfl (fun K hK => ?_) AllReadyH.nil)
              have p0 : u36.frozen? ⟨A29, 0, none⟩ = false := free_of HA.out
              have p1 : u36.frozen? ⟨A29, 1, none⟩ = false := free_of HA.out
              have p2 : u36.frozen? ⟨A29, 2, none⟩ = false := free_of HA.out
              have p3 : u36.frozen? ⟨A29, 3, none⟩ = false := free_of HA.out
              have p4 : u36.frozen? ⟨A29, 4, none⟩ = false := free_of HA.out
              have p5 : u36.frozen? ⟨A29, 5, none⟩ = false := free_of HA.out
              have p6 : u36.frozen? ⟨A29, 6, none⟩ = false := free_of HA.out
              have p7 : u36.frozen? ⟨A29, 7, none⟩ = false := free_of HA.out
              have q0 : u36.cell? ⟨A29, 0, none⟩ = some (.int .u8 0) := cell_of HA.out rfl
              have q1 : u36.cell? ⟨A29, 1, none⟩ = some (.int .u8 0) := cell_of HA.out rfl
              have q2 : u36.cell? ⟨A29, 2, none⟩ = some (.int .u8 0) := cell_of HA.out rfl
              have q3 : u36.cell? ⟨A29, 3, none⟩ = some (.int .u8 0) := cell_of HA.out rfl
              have q4 : u36.cell? ⟨A29, 4, none⟩ = some (.int .i64 0) := cell_of HA.out rfl
              have q5 : u36.cell? ⟨A29, 5, none⟩ = some (.int .i64 0) := cell_of HA.out rfl
              have q6 : u36.cell? ⟨A29, 6, none⟩ = some (.int .i64 0) := cell_of HA.out rfl
              have q7 : u36.cell? ⟨A29, 7, none⟩ = some (.int .i64 0) := cell_of HA.out rfl
              go_simp
              have HW : Hid (Below W.heap.size W (((((((((u36.setCell ⟨A29, 0, none⟩ (.int .u8 x.d)).setCell ⟨A29, 1, none⟩ (.int .u8 x.f)).setCell ⟨A29, 2, none⟩ (.int .u8 x.c)).setCell ⟨A29, 3, none⟩ (.int .u8 x.r)).setCell ⟨A29, 4, none⟩ (.int .i64 x.t)).setCell ⟨A29, 5, none⟩ (.int .i64 x.n)).setCell ⟨A29, 6, none⟩ (.int .i64 x.z)).setCell ⟨A29, 7, none⟩ (.int .i64 x.k)))) := Lib.hid (set8 HW.out HGEA.out _ _ _ _ _ _ _ _)
              refine hK.out _ _ (HSB.out _ HW.out) (fun hHeld => ?_)
              have HA : Hid ((((((((((u36.setCell ⟨A29, 0, none⟩ (.int .u8 x.d)).setCell ⟨A29, 1, none⟩ (.int .u8 x.f)).setCell ⟨A29, 2, none⟩ (.int .u8 x.c)).setCell ⟨A29, 3, none⟩ (.int .u8 x.r)).setCell ⟨A29, 4, none⟩ (.int .i64 x.t)).setCell ⟨A29, 5, none⟩ (.int .i64 x.n)).setCell ⟨A29, 6, none⟩ (.int .i64 x.z)).setCell ⟨A29, 7, none⟩ (.int .i64 x.k))).heap[A29]? = some (pO x 23)) := Lib.hid (set8_at HA.out _ _ _ _ _ _ _ _)
              have HC : Hid ((((((((((u36.setCell ⟨A29, 0, none⟩ (.int .u8 x.d)).setCell ⟨A29, 1, none⟩ (.int .u8 x.f)).setCell ⟨A29, 2, none⟩ (.int .u8 x.c)).setCell ⟨A29, 3, none⟩ (.int .u8 x.r)).setCell ⟨A29, 4, none⟩ (.int .i64 x.t)).setCell ⟨A29, 5, none⟩ (.int .i64 x.n)).setCell ⟨A29, 6, none⟩ (.int .i64 x.z)).setCell ⟨A29, 7, none⟩ (.int .i64 x.k))).heap[B35]? = some (noO 23)) := Lib.hid (set8_far HC.out (by first | exact hne | exact hne.symm) _ _ _ _ _ _ _ _)
              generalize ((((((((u36.setCell ⟨A29, 0, none⟩ (.int .u8 x.d)).setCell ⟨A29, 1, none⟩ (.int .u8 x.f)).setCell ⟨A29, 2, none⟩ (.int .u8 x.c)).setCell ⟨A29, 3, none⟩ (.int .u8 x.r)).setCell ⟨A29, 4, none⟩ (.int .i64 x.t)).setCell ⟨A29, 5, none⟩ (.int .i64 x.n)).setCell ⟨A29, 6, none⟩ (.int .i64 x.z)).setCell ⟨A29, 7, none⟩ (.int .i64 x.k)) = u37 at *
              clear p0 p1 p2 p3 p4 p5 p6 p7 q0 q1 q2 q3 q4 q5 q6 q7
              clear hK K
              (try dsimp only [Act.put, List.setIfInBounds_toArray, List.set_cons_zero, List.set_cons_succ])
              refine wpAnyH_ready (rs := [9]) (by kernel_rfl) (by simp) ?_
              refine (AllReadyH.cons (o := { dst := none, op := Go.Op.store 23 (Go.Operand.tmp 16) (Go.Operand.tmp 92), type := 0, pos := "law.go:47", after := #[{ on := 7, ground := Go.Ground.data }, { on := 5, ground := Go.Ground.data }, { on := 8, ground := Go.Ground.chain }, { on := 0, ground := Go.Ground.phase }, { on := 1, ground := Go.Ground.phase }, { on := 2, ground := Go.Ground.phase }, { on := 3, ground := Go.Ground.phase }, { on := 4, ground := Go.Ground.phase }, { on := 5, ground := Go.Ground.phase }, { on := 6, ground := Go.Ground.phase }, { on := 7, ground := Go.Ground.phase }, { on := 8, ground := Go.Ground.phase }], guard := none }) rfl (fun K hK => ?_) AllReadyH.nil)
              have p0 : u37.frozen? ⟨B35, 0, none⟩ = false := free_of HC.out
              have p1 : u37.frozen? ⟨B35, 1, none⟩ = false := free_of HC.out
              have p2 : u37.frozen? ⟨B35, 2, none⟩ = false := free_of HC.out
              have p3 : u37.frozen? ⟨B35, 3, none⟩ = false := free_of HC.out
              have p4 : u37.frozen? ⟨B35, 4, none⟩ = false := free_of HC.out
              have p5 : u37.frozen? ⟨B35, 5, none⟩ = false := free_of HC.out
              have p6 : u37.frozen? ⟨B35, 6, none⟩ = false := free_of HC.out
              have p7 : u37.frozen? ⟨B35, 7, none⟩ = false := free_of HC.out
              have q0 : u37.cell? ⟨B35, 0, none⟩ = some (.int .u8 0) := cell_of HC.out rfl
              have q1 : u37.cell? ⟨B35, 1, none⟩ = some (.int .u8 0) := cell_of HC.out rfl
              have q2 : u37.cell? ⟨B35, 2, none⟩ = some (.int .u8 0) := cell_of HC.out rfl
              have q3 : u37.cell? ⟨B35, 3, none⟩ = some (.int .u8 0) := cell_of HC.out rfl
              have q4 : u37.cell? ⟨B35, 4, none⟩ = some (.int .i64 0) := cell_of HC.out rfl
              have q5 : u37.cell? ⟨B35, 5, none⟩ = some (.int .i64 0) := cell_of HC.out rfl
              have q6 : u37.cell? ⟨B35, 6, none⟩ = some (.int .i64 0) := cell_of HC.out rfl
              have q7 : u37.cell? ⟨B35, 7, none⟩ = some (.int .i64 0) := cell_of HC.out rfl
              go_simp
              have HW : Hid (Below W.heap.size W (((((((((u37.setCell ⟨B35, 0, none⟩ (.int .u8 y.d)).setCell ⟨B35, 1, none⟩ (.int .u8 y.f)).setCell ⟨B35, 2, none⟩ (.int .u8 y.c)).setCell ⟨B35, 3, none⟩ (.int .u8 y.r)).setCell ⟨B35, 4, none⟩ (.int .i64 y.t)).setCell ⟨B35, 5, none⟩ (.int .i64 y.n)).setCell ⟨B35, 6, none⟩ (.int .i64 y.z)).setCell ⟨B35, 7, none⟩ (.int .i64 y.k)))) := Lib.hid (set8 HW.out HGEB.out _ _ _ _ _ _ _ _)
              refine hK.out _ _ (HSB.out _ HW.out) (fun hHeld => ?_)
              have HC : Hid ((((((((((u37.setCell ⟨B35, 0, none⟩ (.int .u8 y.d)).setCell ⟨B35, 1, none⟩ (.int .u8 y.f)).setCell ⟨B35, 2, none⟩ (.int .u8 y.c)).setCell ⟨B35, 3, none⟩ (.int .u8 y.r)).setCell ⟨B35, 4, none⟩ (.int .i64 y.t)).setCell ⟨B35, 5, none⟩ (.int .i64 y.n)).setCell ⟨B35, 6, none⟩ (.int .i64 y.z)).setCell ⟨B35, 7, none⟩ (.int .i64 y.k))).heap[B35]? = some (pO y 23)) := Lib.hid (set8_at HC.out _ _ _ _ _ _ _ _)
              have HA : Hid ((((((((((u37.setCell ⟨B35, 0, none⟩ (.int .u8 y.d)).setCell ⟨B35, 1, none⟩ (.int .u8 y.f)).setCell ⟨B35, 2, none⟩ (.int .u8 y.c)).setCell ⟨B35, 3, none⟩ (.int .u8 y.r)).setCell ⟨B35, 4, none⟩ (.int .i64 y.t)).setCell ⟨B35, 5, none⟩ (.int .i64 y.n)).setCell ⟨B35, 6, none⟩ (.int .i64 y.z)).setCell ⟨B35, 7, none⟩ (.int .i64 y.k))).heap[A29]? = some (pO x 23)) := Lib.hid (set8_far HA.out (by first | exact hne | exact hne.symm) _ _ _ _ _ _ _ _)
              generalize ((((((((u37.setCell ⟨B35, 0, none⟩ (.int .u8 y.d)).setCell ⟨B35, 1, none⟩ (.int .u8 y.f)).setCell ⟨B35, 2, none⟩ (.int .u8 y.c)).setCell ⟨B35, 3, none⟩ (.int .u8 y.r)).setCell ⟨B35, 4, none⟩ (.int .i64 y.t)).setCell ⟨B35, 5, none⟩ (.int .i64 y.n)).setCell ⟨B35, 6, none⟩ (.int .i64 y.z)).setCell ⟨B35, 7, none⟩ (.int .i64 y.k)) = u38 at *
              clear p0 p1 p2 p3 p4 p5 p6 p7 q0 q1 q2 q3 q4 q5 q6 q7
              clear hK K
              (try dsimp only [Act.put, List.setIfInBounds_toArray, List.set_cons_zero, List.set_cons_succ])
              refine wpAnyH_done (by kernel_rfl) ?_ _
              go_wp2_with fail
              go_meet
              exact ⟨A29, B35, rfl, rfl, HT.out.next HW.out, HA.out, HC.out⟩
          · go_simp
            refine hK.out _ _ (HSB.out _ (HW.out.alloc HW.out.size _)) (fun hHeld => ?_)
            have hne : A29 ≠ u29.heap.size := Nat.ne_of_lt (lt_heap HA.out)
            have HA := Lib.hid (stays HA.out ((Below.refl _ _).alloc (Nat.le_refl _) (noO 23)))
            have HC : Hid ((u29.alloc (noO 23)).heap[u29.heap.size]? = some (noO 23)) := Lib.hid (nest u29 [_] 0 _ rfl)
            have HGEB : Hid (W.heap.size ≤ u29.heap.size) := Lib.hid HW.out.size
            have HW : Hid (Below W.heap.size W (u29.alloc (noO 23))) := Lib.hid (HW.out.alloc HW.out.size _)
            generalize u29.alloc (noO 23) = u39 at *
            generalize u29.heap.size = B39 at *
            clear hK K
            (try dsimp only [Act.put, List.setIfInBounds_toArray, List.set_cons_zero, List.set_cons_succ])
            refine wpAnyH_ready (rs := [2]) (by kernel_rfl) (by simp) ?_
            refine (AllReadyH.cons (o := { dst := some 89, op := Go.Op.call { callee := Go.Callee.value (Go.Operand.func 15), args := #[Go.Operand.tmp 87, Go.Operand.tmp 88], argTypes := #[23, 23] }, type := 23, pos := "law.go:47", after := #[{ on := 0, ground := Go.Ground.data }, { on := 1, ground := Go.Ground.data }], guard := none }) rfl (fun K hK => ?_) AllReadyH.nil)
            go_simp
            (with_reducible refine (CA1.out _).mono ?_)
            rintro e u40 ⟨rfl, hb⟩
            have HA := Lib.hid (stays HA.out hb)
            have HC := Lib.hid (stays HC.out hb)
            have HW := Lib.hid (below_on HW.out hb)
            clear hb
            go_wp2_with fail
            refine hK.out _ _ (HSB.out _ HW.out) (fun hHeld => ?_)
            clear hK K
            (try dsimp only [Act.put, List.setIfInBounds_toArray, List.set_cons_zero, List.set_cons_succ])
            refine wpAnyH_ready (rs := [5]) (by kernel_rfl) (by simp) ?_
            refine (AllReadyH.cons (o := { dst := some 92, op := Go.Op.call { callee := Go.Callee.value (Go.Operand.func 15), args := #[Go.Operand.tmp 90, Go.Operand.tmp 91], argTypes := #[23, 23] }, type := 23, pos := "law.go:47", after := #[{ on := 3, ground := Go.Ground.data }, { on := 4, ground := Go.Ground.data }, { on := 2, ground := Go.Ground.chain }], guard := none }) rfl (fun K hK => ?_) AllReadyH.nil)
            go_simp
            (with_reducible refine (CA2.out _).mono ?_)
            rintro e u41 ⟨rfl, hb⟩
            have HA := Lib.hid (stays HA.out hb)
            have HC := Lib.hid (stays HC.out hb)
            have HW := Lib.hid (below_on HW.out hb)
            clear hb
            go_wp2_with fail
            refine hK.out _ _ (HSB.out _ HW.out) (fun hHeld => ?_)
            clear hK K
            (try dsimp only [Act.put, List.setIfInBounds_toArray, List.set_cons_zero, List.set_cons_succ])
            refine wpAnyH_ready (rs := [8]) (by kernel_rfl) (by simp) ?_
            refine (AllReadyH.cons (o := { dst := none, op := Go.Op.store 23 (Go.Operand.tmp 15) (Go.Operand.tmp 89), type := 0, pos := "law.go:47", after := #[{ on := 6, ground := Go.Ground.data }, { on := 2, ground := Go.Ground.data }, { on := 5, ground := Go.Ground.chain }, { on := 0, ground := Go.Ground.phase }, { on := 1, ground := Go.Ground.phase }, { on := 2, ground := Go.Ground.phase }, { on := 3, ground := Go.Ground.textOnly Go.Departure.lateStores }, { on := 4, ground := Go.Ground.textOnly Go.Departure.lateStores }, { on := 5, ground := Go.Ground.textOnly Go.Departure.lateStoresUnsure }, { on := 6, ground := Go.Ground.phase }, { on := 7, ground := Go.Ground.phase }], guard := none }) rfl (fun K hK => ?_) AllReadyH.nil)
            have p0 : u41.frozen? ⟨A29, 0, none⟩ = false := free_of HA.out
            have p1 : u41.frozen? ⟨A29, 1, none⟩ = false := free_of HA.out
            have p2 : u41.frozen? ⟨A29, 2, none⟩ = false := free_of HA.out
            have p3 : u41.frozen? ⟨A29, 3, none⟩ = false := free_of HA.out
            have p4 : u41.frozen? ⟨A29, 4, none⟩ = false := free_of HA.out
            have p5 : u41.frozen? ⟨A29, 5, none⟩ = false := free_of HA.out
            have p6 : u41.frozen? ⟨A29, 6, none⟩ = false := free_of HA.out
            have p7 : u41.frozen? ⟨A29, 7, none⟩ = false := free_of HA.out
            have q0 : u41.cell? ⟨A29, 0, none⟩ = some (.int .u8 0) := cell_of HA.out rfl
            have q1 : u41.cell? ⟨A29, 1, none⟩ = some (.int .u8 0) := cell_of HA.out rfl
            have q2 : u41.cell? ⟨A29, 2, none⟩ = some (.int .u8 0) := cell_of HA.out rfl
            have q3 : u41.cell? ⟨A29, 3, none⟩ = some (.int .u8 0) := cell_of HA.out rfl
            have q4 : u41.cell? ⟨A29, 4, none⟩ = some (.int .i64 0) := cell_of HA.out rfl
            have q5 : u41.cell? ⟨A29, 5, none⟩ = some (.int .i64 0) := cell_of HA.out rfl
            have q6 : u41.cell? ⟨A29, 6, none⟩ = some (.int .i64 0) := cell_of HA.out rfl
            have q7 : u41.cell? ⟨A29, 7, none⟩ = some (.int .i64 0) := cell_of HA.out rfl
            go_simp
            have HW : Hid (Below W.heap.size W (((((((((u41.setCell ⟨A29, 0, none⟩ (.int .u8 x.d)).setCell ⟨A29, 1, none⟩ (.int .u8 x.f)).setCell ⟨A29, 2, none⟩ (.int .u8 x.c)).setCell ⟨A29, 3, none⟩ (.int .u8 x.r)).setCell ⟨A29, 4, none⟩ (.int .i64 x.t)).setCell ⟨A29, 5, none⟩ (.int .i64 x.n)).setCell ⟨A29, 6, none⟩ (.int .i64 x.z)).setCell ⟨A29, 7, none⟩ (.int .i64 x.k)))) := Lib.hid (set8 HW.out HGEA.out _ _ _ _ _ _ _ _)
            refine hK.out _ _ (HSB.out _ HW.out) (fun hHeld => ?_)
            have HA : Hid ((((((((((u41.setCell ⟨A29, 0, none⟩ (.int .u8 x.d)).setCell ⟨A29, 1, none⟩ (.int .u8 x.f)).setCell ⟨A29, 2, none⟩ (.int .u8 x.c)).setCell ⟨A29, 3, none⟩ (.int .u8 x.r)).setCell ⟨A29, 4, none⟩ (.int .i64 x.t)).setCell ⟨A29, 5, none⟩ (.int .i64 x.n)).setCell ⟨A29, 6, none⟩ (.int .i64 x.z)).setCell ⟨A29, 7, none⟩ (.int .i64 x.k))).heap[A29]? = some (pO x 23)) := Lib.hid (set8_at HA.out _ _ _ _ _ _ _ _)
            have HC : Hid ((((((((((u41.setCell ⟨A29, 0, none⟩ (.int .u8 x.d)).setCell ⟨A29, 1, none⟩ (.int .u8 x.f)).setCell ⟨A29, 2, none⟩ (.int .u8 x.c)).setCell ⟨A29, 3, none⟩ (.int .u8 x.r)).setCell ⟨A29, 4, none⟩ (.int .i64 x.t)).setCell ⟨A29, 5, none⟩ (.int .i64 x.n)).setCell ⟨A29, 6, none⟩ (.int .i64 x.z)).setCell ⟨A29, 7, none⟩ (.int .i64 x.k))).heap[B39]? = some (noO 23)) := Lib.hid (set8_far HC.out (by first | exact hne | exact hne.symm) _ _ _ _ _ _ _ _)
            generalize ((((((((u41.setCell ⟨A29, 0, none⟩ (.int .u8 x.d)).setCell ⟨A29, 1, none⟩ (.int .u8 x.f)).setCell ⟨A29, 2, none⟩ (.int .u8 x.c)).setCell ⟨A29, 3, none⟩ (.int .u8 x.r)).setCell ⟨A29, 4, none⟩ (.int .i64 x.t)).setCell ⟨A29, 5, none⟩ (.int .i64 x.n)).setCell ⟨A29, 6, none⟩ (.int .i64 x.z)).setCell ⟨A29, 7, none⟩ (.int .i64 x.k)) = u42 at *
            clear p0 p1 p2 p3 p4 p5 p6 p7 q0 q1 q2 q3 q4 q5 q6 q7
            clear hK K
            (try dsimp only [Act.put, List.setIfInBounds_toArray, List.set_cons_zero, List.set_cons_succ])
            refine wpAnyH_ready (rs := [9]) (by kernel_rfl) (by simp) ?_
            refine (AllReadyH.cons (o := { dst := none, op := Go.Op.store 23 (Go.Operand.tmp 16) (Go.Operand.tmp 92), type := 0, pos := "law.go:47", after := #[{ on := 7, ground := Go.Ground.data }, { on := 5, ground := Go.Ground.data }, { on := 8, ground := Go.Ground.chain }, { on := 0, ground := Go.Ground.phase }, { on := 1, ground := Go.Ground.phase }, { on := 2, ground := Go.Ground.phase }, { on := 3, ground := Go.Ground.phase }, { on := 4, ground := Go.Ground.phase }, { on := 5, ground := Go.Ground.phase }, { on := 6, ground := Go.Ground.phase }, { on := 7, ground := Go.Ground.phase }, { on := 8, ground := Go.Ground.phase }], guard := none }) rfl (fun K hK => ?_) AllReadyH.nil)
            have p0 : u42.frozen? ⟨B39, 0, none⟩ = false := free_of HC.out
            have p1 : u42.frozen? ⟨B39, 1, none⟩ = false := free_of HC.out
            have p2 : u42.frozen? ⟨B39, 2, none⟩ = false := free_of HC.out
            have p3 : u42.frozen? ⟨B39, 3, none⟩ = false := free_of HC.out
            have p4 : u42.frozen? ⟨B39, 4, none⟩ = false := free_of HC.out
            have p5 : u42.frozen? ⟨B39, 5, none⟩ = false := free_of HC.out
            have p6 : u42.frozen? ⟨B39, 6, none⟩ = false := free_of HC.out
            have p7 : u42.frozen? ⟨B39, 7, none⟩ = false := free_of HC.out
            have q0 : u42.cell? ⟨B39, 0, none⟩ = some (.int .u8 0) := cell_of HC.out rfl
            have q1 : u42.cell? ⟨B39, 1, none⟩ = some (.int .u8 0) := cell_of HC.out rfl
            have q2 : u42.cell? ⟨B39, 2, none⟩ = some (.int .u8 0) := cell_of HC.out rfl
            have q3 : u42.cell? ⟨B39, 3, none⟩ = some (.int .u8 0) := cell_of HC.out rfl
            have q4 : u42.cell? ⟨B39, 4, none⟩ = some (.int .i64 0) := cell_of HC.out rfl
            have q5 : u42.cell? ⟨B39, 5, none⟩ = some (.int .i64 0) := cell_of HC.out rfl
            have q6 : u42.cell? ⟨B39, 6, none⟩ = some (.int .i64 0) := cell_of HC.out rfl
            have q7 : u42.cell? ⟨B39, 7, none⟩ = some (.int .i64 0) := cell_of HC.out rfl
            go_simp
            have HW : Hid (Below W.heap.size W (((((((((u42.setCell ⟨B39, 0, none⟩ (.int .u8 y.d)).setCell ⟨B39, 1, none⟩ (.int .u8 y.f)).setCell ⟨B39, 2, none⟩ (.int .u8 y.c)).setCell ⟨B39, 3, none⟩ (.int .u8 y.r)).setCell ⟨B39, 4, none⟩ (.int .i64 y.t)).setCell ⟨B39, 5, none⟩ (.int .i64 y.n)).setCell ⟨B39, 6, none⟩ (.int .i64 y.z)).setCell ⟨B39, 7, none⟩ (.int .i64 y.k)))) := Lib.hid (set8 HW.out HGEB.out _ _ _ _ _ _ _ _)
            refine hK.out _ _ (HSB.out _ HW.out) (fun hHeld => ?_)
            have HC : Hid ((((((((((u42.setCell ⟨B39, 0, none⟩ (.int .u8 y.d)).setCell ⟨B39, 1, none⟩ (.int .u8 y.f)).setCell ⟨B39, 2, none⟩ (.int .u8 y.c)).setCell ⟨B39, 3, none⟩ (.int .u8 y.r)).setCell ⟨B39, 4, none⟩ (.int .i64 y.t)).setCell ⟨B39, 5, none⟩ (.int .i64 y.n)).setCell ⟨B39, 6, none⟩ (.int .i64 y.z)).setCell ⟨B39, 7, none⟩ (.int .i64 y.k))).heap[B39]? = some (pO y 23)) := Lib.hid (set8_at HC.out _ _ _ _ _ _ _ _)
            have HA : Hid ((((((((((u42.setCell ⟨B39, 0, none⟩ (.int .u8 y.d)).setCell ⟨B39, 1, none⟩ (.int .u8 y.f)).setCell ⟨B39, 2, none⟩ (.int .u8 y.c)).setCell ⟨B39, 3, none⟩ (.int .u8 y.r)).setCell ⟨B39, 4, none⟩ (.int .i64 y.t)).setCell ⟨B39, 5, none⟩ (.int .i64 y.n)).setCell ⟨B39, 6, none⟩ (.int .i64 y.z)).setCell ⟨B39, 7, none⟩ (.int .i64 y.k))).heap[A29]? = some (pO x 23)) := Lib.hid (set8_far HA.out (by first | exact hne | exact hne.symm) _ _ _ _ _ _ _ _)
            generalize ((((((((u42.setCell ⟨B39, 0, none⟩ (.int .u8 y.d)).setCell ⟨B39, 1, none⟩ (.int .u8 y.f)).setCell ⟨B39, 2, none⟩ (.int .u8 y.c)).setCell ⟨B39, 3, none⟩ (.int .u8 y.r)).setCell ⟨B39, 4, none⟩ (.int .i64 y.t)).setCell ⟨B39, 5, none⟩ (.int .i64 y.n)).setCell ⟨B39, 6, none⟩ (.int .i64 y.z)).setCell ⟨B39, 7, none⟩ (.int .i64 y.k)) = u43 at *
            clear p0 p1 p2 p3 p4 p5 p6 p7 q0 q1 q2 q3 q4 q5 q6 q7
            clear hK K
            (try dsimp only [Act.put, List.setIfInBounds_toArray, List.set_cons_zero, List.set_cons_succ])
            refine wpAnyH_done (by kernel_rfl) ?_ _
            go_wp2_with fail
            go_meet
            exact ⟨A29, B39, rfl, rfl, HT.out.next HW.out, HA.out, HC.out⟩
        · go_simp
          refine hK.out _ _ (HSB.out _ (HW.out.alloc HW.out.size _)) (fun hHeld => ?_)
          have HC : Hid ((u0.alloc (noO 23)).heap[u0.heap.size]? = some (noO 23)) := Lib.hid (nest u0 [_] 0 _ rfl)
          have HGEB : Hid (W.heap.size ≤ u0.heap.size) := Lib.hid HW.out.size
          have HW : Hid (Below W.heap.size W (u0.alloc (noO 23))) := Lib.hid (HW.out.alloc HW.out.size _)
          generalize u0.alloc (noO 23) = u44 at *
          generalize u0.heap.size = B44 at *
          clear hK K
          (try dsimp only [Act.put, List.setIfInBounds_toArray, List.set_cons_zero, List.set_cons_succ])
          refine wpAnyH_ready (rs := [2, 6]) (by kernel_rfl) (by simp) ?_
          refine (AllReadyH.cons (o := { dst := some 89, op := Go.Op.call { callee := Go.Callee.value (Go.Operand.func 15), args := #[Go.Operand.tmp 87, Go.Operand.tmp 88], argTypes := #[23, 23] }, type := 23, pos := "law.go:47", after := #[{ on := 0, ground := Go.Ground.data }, { on := 1, ground := Go.Ground.data }], guard := none }) rfl (fun K hK => ?_) (AllReadyH.cons (o := { dst := some 15, op := Go.Op.alloc 23, type := 0, pos := "law.go:47", after := #[], guard := none }) rfl (fun K hK => ?_) AllReadyH.nil))
          · go_simp
            (with_reducible refine (CA1.out _).mono ?_)
            rintro e u45 ⟨rfl, hb⟩
            have HC := Lib.hid (stays HC.out hb)
            have HW := Lib.hid (below_on HW.out hb)
            clear hb
            go_wp2_with fail
            refine hK.out _ _ (HSB.out _ HW.out) (fun hHeld => ?_)
            clear hK K
            (try dsimp only [Act.put, List.setIfInBounds_toArray, List.set_cons_zero, List.set_cons_succ])
            refine wpAnyH_ready (rs := [5, 6]) (by kernel_rfl) (by simp) ?_
            refine (AllReadyH.cons (o := { dst := some 92, op := Go.Op.call { callee := Go.Callee.value (Go.Operand.func 15), args := #[Go.Operand.tmp 90, Go.Operand.tmp 91], argTypes := #[23, 23] }, type := 23, pos := "law.go:47", after := #[{ on := 3, ground := Go.Ground.data }, { on := 4, ground := Go.Ground.data }, { on := 2, ground := Go.Ground.chain }], guard := none }) rfl (fun K hK => ?_) (AllReadyH.cons (o := { dst := some 15, op := Go.Op.alloc 23, type := 0, pos := "law.go:47", after := #[], guard := none }) rfl (fun K hK => ?_) AllReadyH.nil))
            · go_simp
              (with_reducible refine (CA2.out _).mono ?_)
              rintro e u46 ⟨rfl, hb⟩
              have HC := Lib.hid (stays HC.out hb)
              have HW := Lib.hid (below_on HW.out hb)
              clear hb
              go_wp2_with fail
              refine hK.out _ _ (HSB.out _ HW.out) (fun hHeld => ?_)
              clear hK K
              (try dsimp only [Act.put, List.setIfInBounds_toArray, List.set_cons_zero, List.set_cons_succ])
              refine wpAnyH_ready (rs := [6]) (by kernel_rfl) (by simp) ?_
              refine (AllReadyH.cons (o := { dst := some 15, op := Go.Op.alloc 23, type := 0, pos := "law.go:47", after := #[], guard := none }) rfl (fun K hK => ?_) AllReadyH.nil)
              go_simp
              refine hK.out _ _ (HSB.out _ (HW.out.alloc HW.out.size _)) (fun hHeld => ?_)
              have hne : B44 ≠ u46.heap.size := Nat.ne_of_lt (lt_heap HC.out)
              have HC := Lib.hid (stays HC.out ((Below.refl _ _).alloc (Nat.le_refl _) (noO 23)))
              have HA : Hid ((u46.alloc (noO 23)).heap[u46.heap.size]? = some (noO 23)) := Lib.hid (nest u46 [_] 0 _ rfl)
              have HGEA : Hid (W.heap.size ≤ u46.heap.size) := Lib.hid HW.out.size
              have HW : Hid (Below W.heap.size W (u46.alloc (noO 23))) := Lib.hid (HW.out.alloc HW.out.size _)
              generalize u46.alloc (noO 23) = u47 at *
              generalize u46.heap.size = A47 at *
              clear hK K
              (try dsimp only [Act.put, List.setIfInBounds_toArray, List.set_cons_zero, List.set_cons_succ])
              refine wpAnyH_ready (rs := [8]) (by kernel_rfl) (by simp) ?_
              refine (AllReadyH.cons (o := { dst := none, op := Go.Op.store 23 (Go.Operand.tmp 15) (Go.Operand.tmp 89), type := 0, pos := "law.go:47", after := #[{ on := 6, ground := Go.Ground.data }, { on := 2, ground := Go.Ground.data }, { on := 5, ground := Go.Ground.chain }, { on := 0, ground := Go.Ground.phase }, { on := 1, ground := Go.Ground.phase }, { on := 2, ground := Go.Ground.phase }, { on := 3, ground := Go.Ground.textOnly Go.Departure.lateStores }, { on := 4, ground := Go.Ground.textOnly Go.Departure.lateStores }, { on := 5, ground := Go.Ground.textOnly Go.Departure.lateStoresUnsure }, { on := 6, ground := Go.Ground.phase }, { on := 7, ground := Go.Ground.phase }], guard := none }) rfl (fun K hK => ?_) AllReadyH.nil)
              have p0 : u47.frozen? ⟨A47, 0, none⟩ = false := free_of HA.out
              have p1 : u47.frozen? ⟨A47, 1, none⟩ = false := free_of HA.out
              have p2 : u47.frozen? ⟨A47, 2, none⟩ = false := free_of HA.out
              have p3 : u47.frozen? ⟨A47, 3, none⟩ = false := free_of HA.out
              have p4 : u47.frozen? ⟨A47, 4, none⟩ = false := free_of HA.out
              have p5 : u47.frozen? ⟨A47, 5, none⟩ = false := free_of HA.out
              have p6 : u47.frozen? ⟨A47, 6, none⟩ = false := free_of HA.out
              have p7 : u47.frozen? ⟨A47, 7, none⟩ = false := free_of HA.out
              have q0 : u47.cell? ⟨A47, 0, none⟩ = some (.int .u8 0) := cell_of HA.out rfl
              have q1 : u47.cell? ⟨A47, 1, none⟩ = some (.int .u8 0) := cell_of HA.out rfl
              have q2 : u47.cell? ⟨A47, 2, none⟩ = some (.int .u8 0) := cell_of HA.out rfl
              have q3 : u47.cell? ⟨A47, 3, none⟩ = some (.int .u8 0) := cell_of HA.out rfl
              have q4 : u47.cell? ⟨A47, 4, none⟩ = some (.int .i64 0) := cell_of HA.out rfl
              have q5 : u47.cell? ⟨A47, 5, none⟩ = some (.int .i64 0) := cell_of HA.out rfl
              have q6 : u47.cell? ⟨A47, 6, none⟩ = some (.int .i64 0) := cell_of HA.out rfl
              have q7 : u47.cell? ⟨A47, 7, none⟩ = some (.int .i64 0) := cell_of HA.out rfl
              go_simp
              have HW : Hid (Below W.heap.size W (((((((((u47.setCell ⟨A47, 0, none⟩ (.int .u8 x.d)).setCell ⟨A47, 1, none⟩ (.int .u8 x.f)).setCell ⟨A47, 2, none⟩ (.int .u8 x.c)).setCell ⟨A47, 3, none⟩ (.int .u8 x.r)).setCell ⟨A47, 4, none⟩ (.int .i64 x.t)).setCell ⟨A47, 5, none⟩ (.int .i64 x.n)).setCell ⟨A47, 6, none⟩ (.int .i64 x.z)).setCell ⟨A47, 7, none⟩ (.int .i64 x.k)))) := Lib.hid (set8 HW.out HGEA.out _ _ _ _ _ _ _ _)
              refine hK.out _ _ (HSB.out _ HW.out) (fun hHeld => ?_)
              have HA : Hid ((((((((((u47.setCell ⟨A47, 0, none⟩ (.int .u8 x.d)).setCell ⟨A47, 1, none⟩ (.int .u8 x.f)).setCell ⟨A47, 2, none⟩ (.int .u8 x.c)).setCell ⟨A47, 3, none⟩ (.int .u8 x.r)).setCell ⟨A47, 4, none⟩ (.int .i64 x.t)).setCell ⟨A47, 5, none⟩ (.int .i64 x.n)).setCell ⟨A47, 6, none⟩ (.int .i64 x.z)).setCell ⟨A47, 7, none⟩ (.int .i64 x.k))).heap[A47]? = some (pO x 23)) := Lib.hid (set8_at HA.out _ _ _ _ _ _ _ _)
              have HC : Hid ((((((((((u47.setCell ⟨A47, 0, none⟩ (.int .u8 x.d)).setCell ⟨A47, 1, none⟩ (.int .u8 x.f)).setCell ⟨A47, 2, none⟩ (.int .u8 x.c)).setCell ⟨A47, 3, none⟩ (.int .u8 x.r)).setCell ⟨A47, 4, none⟩ (.int .i64 x.t)).setCell ⟨A47, 5, none⟩ (.int .i64 x.n)).setCell ⟨A47, 6, none⟩ (.int .i64 x.z)).setCell ⟨A47, 7, none⟩ (.int .i64 x.k))).heap[B44]? = some (noO 23)) := Lib.hid (set8_far HC.out (by first | exact hne | exact hne.symm) _ _ _ _ _ _ _ _)
              generalize ((((((((u47.setCell ⟨A47, 0, none⟩ (.int .u8 x.d)).setCell ⟨A47, 1, none⟩ (.int .u8 x.f)).setCell ⟨A47, 2, none⟩ (.int .u8 x.c)).setCell ⟨A47, 3, none⟩ (.int .u8 x.r)).setCell ⟨A47, 4, none⟩ (.int .i64 x.t)).setCell ⟨A47, 5, none⟩ (.int .i64 x.n)).setCell ⟨A47, 6, none⟩ (.int .i64 x.z)).setCell ⟨A47, 7, none⟩ (.int .i64 x.k)) = u48 at *
              clear p0 p1 p2 p3 p4 p5 p6 p7 q0 q1 q2 q3 q4 q5 q6 q7
              clear hK K
              (try dsimp only [Act.put, List.setIfInBounds_toArray, List.set_cons_zero, List.set_cons_succ])
              refine wpAnyH_ready (rs := [9]) (by kernel_rfl) (by simp) ?_
              refine (AllReadyH.cons (o := { dst := none, op := Go.Op.store 23 (Go.Operand.tmp 16) (Go.Operand.tmp 92), type := 0, pos := "law.go:47", after := #[{ on := 7, ground := Go.Ground.data }, { on := 5, ground := Go.Ground.data }, { on := 8, ground := Go.Ground.chain }, { on := 0, ground := Go.Ground.phase }, { on := 1, ground := Go.Ground.phase }, { on := 2, ground := Go.Ground.phase }, { on := 3, ground := Go.Ground.phase }, { on := 4, ground := Go.Ground.phase }, { on := 5, ground := Go.Ground.phase }, { on := 6, ground := Go.Ground.phase }, { on := 7, ground := Go.Ground.phase }, { on := 8, ground := Go.Ground.phase }], guard := none }) rfl (fun K hK => ?_) AllReadyH.nil)
              have p0 : u48.frozen? ⟨B44, 0, none⟩ = false := free_of HC.out
              have p1 : u48.frozen? ⟨B44, 1, none⟩ = false := free_of HC.out
              have p2 : u48.frozen? ⟨B44, 2, none⟩ = false := free_of HC.out
              have p3 : u48.frozen? ⟨B44, 3, none⟩ = false := free_of HC.out
              have p4 : u48.frozen? ⟨B44, 4, none⟩ = false := free_of HC.out
              have p5 : u48.frozen? ⟨B44, 5, none⟩ = false := free_of HC.out
              have p6 : u48.frozen? ⟨B44, 6, none⟩ = false := free_of HC.out
              have p7 : u48.frozen? ⟨B44, 7, none⟩ = false := free_of HC.out
              have q0 : u48.cell? ⟨B44, 0, none⟩ = some (.int .u8 0) := cell_of HC.out rfl
              have q1 : u48.cell? ⟨B44, 1, none⟩ = some (.int .u8 0) := cell_of HC.out rfl
              have q2 : u48.cell? ⟨B44, 2, none⟩ = some (.int .u8 0) := cell_of HC.out rfl
              have q3 : u48.cell? ⟨B44, 3, none⟩ = some (.int .u8 0) := cell_of HC.out rfl
              have q4 : u48.cell? ⟨B44, 4, none⟩ = some (.int .i64 0) := cell_of HC.out rfl
              have q5 : u48.cell? ⟨B44, 5, none⟩ = some (.int .i64 0) := cell_of HC.out rfl
              have q6 : u48.cell? ⟨B44, 6, none⟩ = some (.int .i64 0) := cell_of HC.out rfl
              have q7 : u48.cell? ⟨B44, 7, none⟩ = some (.int .i64 0) := cell_of HC.out rfl
              go_simp
              have HW : Hid (Below W.heap.size W (((((((((u48.setCell ⟨B44, 0, none⟩ (.int .u8 y.d)).setCell ⟨B44, 1, none⟩ (.int .u8 y.f)).setCell ⟨B44, 2, none⟩ (.int .u8 y.c)).setCell ⟨B44, 3, none⟩ (.int .u8 y.r)).setCell ⟨B44, 4, none⟩ (.int .i64 y.t)).setCell ⟨B44, 5, none⟩ (.int .i64 y.n)).setCell ⟨B44, 6, none⟩ (.int .i64 y.z)).setCell ⟨B44, 7, none⟩ (.int .i64 y.k)))) := Lib.hid (set8 HW.out HGEB.out _ _ _ _ _ _ _ _)
              refine hK.out _ _ (HSB.out _ HW.out) (fun hHeld => ?_)
              have HC : Hid ((((((((((u48.setCell ⟨B44, 0, none⟩ (.int .u8 y.d)).setCell ⟨B44, 1, none⟩ (.int .u8 y.f)).setCell ⟨B44, 2, none⟩ (.int .u8 y.c)).setCell ⟨B44, 3, none⟩ (.int .u8 y.r)).setCell ⟨B44, 4, none⟩ (.int .i64 y.t)).setCell ⟨B44, 5, none⟩ (.int .i64 y.n)).setCell ⟨B44, 6, none⟩ (.int .i64 y.z)).setCell ⟨B44, 7, none⟩ (.int .i64 y.k))).heap[B44]? = some (pO y 23)) := Lib.hid (set8_at HC.out _ _ _ _ _ _ _ _)
              have HA : Hid ((((((((((u48.setCell ⟨B44, 0, none⟩ (.int .u8 y.d)).setCell ⟨B44, 1, none⟩ (.int .u8 y.f)).setCell ⟨B44, 2, none⟩ (.int .u8 y.c)).setCell ⟨B44, 3, none⟩ (.int .u8 y.r)).setCell ⟨B44, 4, none⟩ (.int .i64 y.t)).setCell ⟨B44, 5, none⟩ (.int .i64 y.n)).setCell ⟨B44, 6, none⟩ (.int .i64 y.z)).setCell ⟨B44, 7, none⟩ (.int .i64 y.k))).heap[A47]? = some (pO x 23)) := Lib.hid (set8_far HA.out (by first | exact hne | exact hne.symm) _ _ _ _ _ _ _ _)
              generalize ((((((((u48.setCell ⟨B44, 0, none⟩ (.int .u8 y.d)).setCell ⟨B44, 1, none⟩ (.int .u8 y.f)).setCell ⟨B44, 2, none⟩ (.int .u8 y.c)).setCell ⟨B44, 3, none⟩ (.int .u8 y.r)).setCell ⟨B44, 4, none⟩ (.int .i64 y.t)).setCell ⟨B44, 5, none⟩ (.int .i64 y.n)).setCell ⟨B44, 6, none⟩ (.int .i64 y.z)).setCell ⟨B44, 7, none⟩ (.int .i64 y.k)) = u49 at *
              clear p0 p1 p2 p3 p4 p5 p6 p7 q0 q1 q2 q3 q4 q5 q6 q7
              clear hK K
              (try dsimp only [Act.put, List.setIfInBounds_toArray, List.set_cons_zero, List.set_cons_succ])
              refine wpAnyH_done (by kernel_rfl) ?_ _
              go_wp2_with fail
              go_meet
              exact ⟨A47, B44, rfl, rfl, HT.out.next HW.out, HA.out, HC.out⟩
            · go_simp
              refine hK.out _ _ (HSB.out _ (HW.out.alloc HW.out.size _)) (fun hHeld => ?_)
              have hne : B44 ≠ u45.heap.size := Nat.ne_of_lt (lt_heap HC.out)
              have HC := Lib.hid (stays HC.out ((Below.refl _ _).alloc (Nat.le_refl _) (noO 23)))
              have HA : Hid ((u45.alloc (noO 23)).heap[u45.heap.size]? = some (noO 23)) := Lib.hid (nest u45 [_] 0 _ rfl)
              have HGEA : Hid (W.heap.size ≤ u45.heap.size) := Lib.hid HW.out.size
              have HW : Hid (Below W.heap.size W (u45.alloc (noO 23))) := Lib.hid (HW.out.alloc HW.out.size _)
              generalize u45.alloc (noO 23) = u50 at *
              generalize u45.heap.size = A50 at *
              clear hK K
              (try dsimp only [Act.put, List.setIfInBounds_toArray, List.set_cons_zero, List.set_cons_succ])
              refine wpAnyH_ready (rs := [5]) (by kernel_rfl) (by simp) ?_
              refine (AllReadyH.cons (o := { dst := some 92, op := Go.Op.call { callee := Go.Callee.value (Go.Operand.func 15), args := #[Go.Operand.tmp 90, Go.Operand.tmp 91], argTypes := #[23, 23] }, type := 23, pos := "law.go:47", after := #[{ on := 3, ground := Go.Ground.data }, { on := 4, ground := Go.Ground.data }, { on := 2, ground := Go.Ground.chain }], guard := none }) rfl (fun K hK => ?_) AllReadyH.nil)
              go_simp
              (with_reducible refine (CA2.out _).mono ?_)
              rintro e u51 ⟨rfl, hb⟩
              have HA := Lib.hid (stays HA.out hb)
              have HC := Lib.hid (stays HC.out hb)
              have HW := Lib.hid (below_on HW.out hb)
              clear hb
              go_wp2_with fail
              refine hK.out _ _ (HSB.out _ HW.out) (fun hHeld => ?_)
              clear hK K
              (try dsimp only [Act.put, List.setIfInBounds_toArray, List.set_cons_zero, List.set_cons_succ])
              refine wpAnyH_ready (rs := [8]) (by kernel_rfl) (by simp) ?_
              refine (AllReadyH.cons (o := { dst := none, op := Go.Op.store 23 (Go.Operand.tmp 15) (Go.Operand.tmp 89), type := 0, pos := "law.go:47", after := #[{ on := 6, ground := Go.Ground.data }, { on := 2, ground := Go.Ground.data }, { on := 5, ground := Go.Ground.chain }, { on := 0, ground := Go.Ground.phase }, { on := 1, ground := Go.Ground.phase }, { on := 2, ground := Go.Ground.phase }, { on := 3, ground := Go.Ground.textOnly Go.Departure.lateStores }, { on := 4, ground := Go.Ground.textOnly Go.Departure.lateStores }, { on := 5, ground := Go.Ground.textOnly Go.Departure.lateStoresUnsure }, { on := 6, ground := Go.Ground.phase }, { on := 7, ground := Go.Ground.phase }], guard := none }) rfl (fun K hK => ?_) AllReadyH.nil)
              have p0 : u51.frozen? ⟨A50, 0, none⟩ = false := free_of HA.out
              have p1 : u51.frozen? ⟨A50, 1, none⟩ = false := free_of HA.out
              have p2 : u51.frozen? ⟨A50, 2, none⟩ = false := free_of HA.out
              have p3 : u51.frozen? ⟨A50, 3, none⟩ = false := free_of HA.out
              have p4 : u51.frozen? ⟨A50, 4, none⟩ = false := free_of HA.out
              have p5 : u51.frozen? ⟨A50, 5, none⟩ = false := free_of HA.out
              have p6 : u51.frozen? ⟨A50, 6, none⟩ = false := free_of HA.out
              have p7 : u51.frozen? ⟨A50, 7, none⟩ = false := free_of HA.out
              have q0 : u51.cell? ⟨A50, 0, none⟩ = some (.int .u8 0) := cell_of HA.out rfl
              have q1 : u51.cell? ⟨A50, 1, none⟩ = some (.int .u8 0) := cell_of HA.out rfl
              have q2 : u51.cell? ⟨A50, 2, none⟩ = some (.int .u8 0) := cell_of HA.out rfl
              have q3 : u51.cell? ⟨A50, 3, none⟩ = some (.int .u8 0) := cell_of HA.out rfl
              have q4 : u51.cell? ⟨A50, 4, none⟩ = some (.int .i64 0) := cell_of HA.out rfl
              have q5 : u51.cell? ⟨A50, 5, none⟩ = some (.int .i64 0) := cell_of HA.out rfl
              have q6 : u51.cell? ⟨A50, 6, none⟩ = some (.int .i64 0) := cell_of HA.out rfl
              have q7 : u51.cell? ⟨A50, 7, none⟩ = some (.int .i64 0) := cell_of HA.out rfl
              go_simp
              have HW : Hid (Below W.heap.size W (((((((((u51.setCell ⟨A50, 0, none⟩ (.int .u8 x.d)).setCell ⟨A50, 1, none⟩ (.int .u8 x.f)).setCell ⟨A50, 2, none⟩ (.int .u8 x.c)).setCell ⟨A50, 3, none⟩ (.int .u8 x.r)).setCell ⟨A50, 4, none⟩ (.int .i64 x.t)).setCell ⟨A50, 5, none⟩ (.int .i64 x.n)).setCell ⟨A50, 6, none⟩ (.int .i64 x.z)).setCell ⟨A50, 7, none⟩ (.int .i64 x.k)))) := Lib.hid (set8 HW.out HGEA.out _ _ _ _ _ _ _ _)
              refine hK.out _ _ (HSB.out _ HW.out) (fun hHeld => ?_)
              have HA : Hid ((((((((((u51.setCell ⟨A50, 0, none⟩ (.int .u8 x.d)).setCell ⟨A50, 1, none⟩ (.int .u8 x.f)).setCell ⟨A50, 2, none⟩ (.int .u8 x.c)).setCell ⟨A50, 3, none⟩ (.int .u8 x.r)).setCell ⟨A50, 4, none⟩ (.int .i64 x.t)).setCell ⟨A50, 5, none⟩ (.int .i64 x.n)).setCell ⟨A50, 6, none⟩ (.int .i64 x.z)).setCell ⟨A50, 7, none⟩ (.int .i64 x.k))).heap[A50]? = some (pO x 23)) := Lib.hid (set8_at HA.out _ _ _ _ _ _ _ _)
              have HC : Hid ((((((((((u51.setCell ⟨A50, 0, none⟩ (.int .u8 x.d)).setCell ⟨A50, 1, none⟩ (.int .u8 x.f)).setCell ⟨A50, 2, none⟩ (.int .u8 x.c)).setCell ⟨A50, 3, none⟩ (.int .u8 x.r)).setCell ⟨A50, 4, none⟩ (.int .i64 x.t)).setCell ⟨A50, 5, none⟩ (.int .i64 x.n)).setCell ⟨A50, 6, none⟩ (.int .i64 x.z)).setCell ⟨A50, 7, none⟩ (.int .i64 x.k))).heap[B44]? = some (noO 23)) := Lib.hid (set8_far HC.out (by first | exact hne | exact hne.symm) _ _ _ _ _ _ _ _)
              generalize ((((((((u51.setCell ⟨A50, 0, none⟩ (.int .u8 x.d)).setCell ⟨A50, 1, none⟩ (.int .u8 x.f)).setCell ⟨A50, 2, none⟩ (.int .u8 x.c)).setCell ⟨A50, 3, none⟩ (.int .u8 x.r)).setCell ⟨A50, 4, none⟩ (.int .i64 x.t)).setCell ⟨A50, 5, none⟩ (.int .i64 x.n)).setCell ⟨A50, 6, none⟩ (.int .i64 x.z)).setCell ⟨A50, 7, none⟩ (.int .i64 x.k)) = u52 at *
              clear p0 p1 p2 p3 p4 p5 p6 p7 q0 q1 q2 q3 q4 q5 q6 q7
              clear hK K
              (try dsimp only [Act.put, List.setIfInBounds_toArray, List.set_cons_zero, List.set_cons_succ])
              refine wpAnyH_ready (rs := [9]) (by kernel_rfl) (by simp) ?_
              refine (AllReadyH.cons (o := { dst := none, op := Go.Op.store 23 (Go.Operand.tmp 16) (Go.Operand.tmp 92), type := 0, pos := "law.go:47", after := #[{ on := 7, ground := Go.Ground.data }, { on := 5, ground := Go.Ground.data }, { on := 8, ground := Go.Ground.chain }, { on := 0, ground := Go.Ground.phase }, { on := 1, ground := Go.Ground.phase }, { on := 2, ground := Go.Ground.phase }, { on := 3, ground := Go.Ground.phase }, { on := 4, ground := Go.Ground.phase }, { on := 5, ground := Go.Ground.phase }, { on := 6, ground := Go.Ground.phase }, { on := 7, ground := Go.Ground.phase }, { on := 8, ground := Go.Ground.phase }], guard := none }) rfl (fun K hK => ?_) AllReadyH.nil)
              have p0 : u52.frozen? ⟨B44, 0, none⟩ = false := free_of HC.out
              have p1 : u52.frozen? ⟨B44, 1, none⟩ = false := free_of HC.out
              have p2 : u52.frozen? ⟨B44, 2, none⟩ = false := free_of HC.out
              have p3 : u52.frozen? ⟨B44, 3, none⟩ = false := free_of HC.out
              have p4 : u52.frozen? ⟨B44, 4, none⟩ = false := free_of HC.out
              have p5 : u52.frozen? ⟨B44, 5, none⟩ = false := free_of HC.out
              have p6 : u52.frozen? ⟨B44, 6, none⟩ = false := free_of HC.out
              have p7 : u52.frozen? ⟨B44, 7, none⟩ = false := free_of HC.out
              have q0 : u52.cell? ⟨B44, 0, none⟩ = some (.int .u8 0) := cell_of HC.out rfl
              have q1 : u52.cell? ⟨B44, 1, none⟩ = some (.int .u8 0) := cell_of HC.out rfl
              have q2 : u52.cell? ⟨B44, 2, none⟩ = some (.int .u8 0) := cell_of HC.out rfl
              have q3 : u52.cell? ⟨B44, 3, none⟩ = some (.int .u8 0) := cell_of HC.out rfl
              have q4 : u52.cell? ⟨B44, 4, none⟩ = some (.int .i64 0) := cell_of HC.out rfl
              have q5 : u52.cell? ⟨B44, 5, none⟩ = some (.int .i64 0) := cell_of HC.out rfl
              have q6 : u52.cell? ⟨B44, 6, none⟩ = some (.int .i64 0) := cell_of HC.out rfl
              have q7 : u52.cell? ⟨B44, 7, none⟩ = some (.int .i64 0) := cell_of HC.out rfl
              go_simp
              have HW : Hid (Below W.heap.size W (((((((((u52.setCell ⟨B44, 0, none⟩ (.int .u8 y.d)).setCell ⟨B44, 1, none⟩ (.int .u8 y.f)).setCell ⟨B44, 2, none⟩ (.int .u8 y.c)).setCell ⟨B44, 3, none⟩ (.int .u8 y.r)).setCell ⟨B44, 4, none⟩ (.int .i64 y.t)).setCell ⟨B44, 5, none⟩ (.int .i64 y.n)).setCell ⟨B44, 6, none⟩ (.int .i64 y.z)).setCell ⟨B44, 7, none⟩ (.int .i64 y.k)))) := Lib.hid (set8 HW.out HGEB.out _ _ _ _ _ _ _ _)
              refine hK.out _ _ (HSB.out _ HW.out) (fun hHeld => ?_)
              have HC : Hid ((((((((((u52.setCell ⟨B44, 0, none⟩ (.int .u8 y.d)).setCell ⟨B44, 1, none⟩ (.int .u8 y.f)).setCell ⟨B44, 2, none⟩ (.int .u8 y.c)).setCell ⟨B44, 3, none⟩ (.int .u8 y.r)).setCell ⟨B44, 4, none⟩ (.int .i64 y.t)).setCell ⟨B44, 5, none⟩ (.int .i64 y.n)).setCell ⟨B44, 6, none⟩ (.int .i64 y.z)).setCell ⟨B44, 7, none⟩ (.int .i64 y.k))).heap[B44]? = some (pO y 23)) := Lib.hid (set8_at HC.out _ _ _ _ _ _ _ _)
              have HA : Hid ((((((((((u52.setCell ⟨B44, 0, none⟩ (.int .u8 y.d)).setCell ⟨B44, 1, none⟩ (.int .u8 y.f)).setCell ⟨B44, 2, none⟩ (.int .u8 y.c)).setCell ⟨B44, 3, none⟩ (.int .u8 y.r)).setCell ⟨B44, 4, none⟩ (.int .i64 y.t)).setCell ⟨B44, 5, none⟩ (.int .i64 y.n)).setCell ⟨B44, 6, none⟩ (.int .i64 y.z)).setCell ⟨B44, 7, none⟩ (.int .i64 y.k))).heap[A50]? = some (pO x 23)) := Lib.hid (set8_far HA.out (by first | exact hne | exact hne.symm) _ _ _ _ _ _ _ _)
              generalize ((((((((u52.setCell ⟨B44, 0, none⟩ (.int .u8 y.d)).setCell ⟨B44, 1, none⟩ (.int .u8 y.f)).setCell ⟨B44, 2, none⟩ (.int .u8 y.c)).setCell ⟨B44, 3, none⟩ (.int .u8 y.r)).setCell ⟨B44, 4, none⟩ (.int .i64 y.t)).setCell ⟨B44, 5, none⟩ (.int .i64 y.n)).setCell ⟨B44, 6, none⟩ (.int .i64 y.z)).setCell ⟨B44, 7, none⟩ (.int .i64 y.k)) = u53 at *
              clear p0 p1 p2 p3 p4 p5 p6 p7 q0 q1 q2 q3 q4 q5 q6 q7
              clear hK K
              (try dsimp only [Act.put, List.setIfInBounds_toArray, List.set_cons_zero, List.set_cons_succ])
              refine wpAnyH_done (by kernel_rfl) ?_ _
              go_wp2_with fail
              go_meet
              exact ⟨A50, B44, rfl, rfl, HT.out.next HW.out, HA.out, HC.out⟩
          · go_simp
            refine hK.out _ _ (HSB.out _ (HW.out.alloc HW.out.size _)) (fun hHeld => ?_)
            have hne : B44 ≠ u44.heap.size := Nat.ne_of_lt (lt_heap HC.out)
            have HC := Lib.hid (stays HC.out ((Below.refl _ _).alloc (Nat.le_refl _) (noO 23)))
            have HA : Hid ((u44.alloc (noO 23)).heap[u44.heap.size]? = some (noO 23)) := Lib.hid (nest u44 [_] 0 _ rfl)
            have HGEA : Hid (W.heap.size ≤ u44.heap.size) := Lib.hid HW.out.size
            have HW : Hid (Below W.heap.size W (u44.alloc (noO 23))) := Lib.hid (HW.out.alloc HW.out.size _)
            generalize u44.alloc (noO 23) = u54 at *
            generalize u44.heap.size = A54 at *
            clear hK K
            (try dsimp only [Act.put, List.setIfInBounds_toArray, List.set_cons_zero, List.set_cons_succ])
            refine wpAnyH_ready (rs := [2]) (by kernel_rfl) (by simp) ?_
            refine (AllReadyH.cons (o := { dst := some 89, op := Go.Op.call { callee := Go.Callee.value (Go.Operand.func 15), args := #[Go.Operand.tmp 87, Go.Operand.tmp 88], argTypes := #[23, 23] }, type := 23, pos := "law.go:47", after := #[{ on := 0, ground := Go.Ground.data }, { on := 1, ground := Go.Ground.data }], guard := none }) rfl (fun K hK => ?_) AllReadyH.nil)
            go_simp
            (with_reducible refine (CA1.out _).mono ?_)
            rintro e u55 ⟨rfl, hb⟩
            have HA := Lib.hid (stays HA.out hb)
            have HC := Lib.hid (stays HC.out hb)
            have HW := Lib.hid (below_on HW.out hb)
            clear hb
            go_wp2_with fail
            refine hK.out _ _ (HSB.out _ HW.out) (fun hHeld => ?_)
            clear hK K
            (try dsimp only [Act.put, List.setIfInBounds_toArray, List.set_cons_zero, List.set_cons_succ])
            refine wpAnyH_ready (rs := [5]) (by kernel_rfl) (by simp) ?_
            refine (AllReadyH.cons (o := { dst := some 92, op := Go.Op.call { callee := Go.Callee.value (Go.Operand.func 15), args := #[Go.Operand.tmp 90, Go.Operand.tmp 91], argTypes := #[23, 23] }, type := 23, pos := "law.go:47", after := #[{ on := 3, ground := Go.Ground.data }, { on := 4, ground := Go.Ground.data }, { on := 2, ground := Go.Ground.chain }], guard := none }) rfl (fun K hK => ?_) AllReadyH.nil)
            go_simp
            (with_reducible refine (CA2.out _).mono ?_)
            rintro e u56 ⟨rfl, hb⟩
            have HA := Lib.hid (stays HA.out hb)
            have HC := Lib.hid (stays HC.out hb)
            have HW := Lib.hid (below_on HW.out hb)
            clear hb
            go_wp2_with fail
            refine hK.out _ _ (HSB.out _ HW.out) (fun hHeld => ?_)
            clear hK K
            (try dsimp only [Act.put, List.setIfInBounds_toArray, List.set_cons_zero, List.set_cons_succ])
            refine wpAnyH_ready (rs := [8]) (by kernel_rfl) (by simp) ?_
            refine (AllReadyH.cons (o := { dst := none, op := Go.Op.store 23 (Go.Operand.tmp 15) (Go.Operand.tmp 89), type := 0, pos := "law.go:47", after := #[{ on := 6, ground := Go.Ground.data }, { on := 2, ground := Go.Ground.data }, { on := 5, ground := Go.Ground.chain }, { on := 0, ground := Go.Ground.phase }, { on := 1, ground := Go.Ground.phase }, { on := 2, ground := Go.Ground.phase }, { on := 3, ground := Go.Ground.textOnly Go.Departure.lateStores }, { on := 4, ground := Go.Ground.textOnly Go.Departure.lateStores }, { on := 5, ground := Go.Ground.textOnly Go.Departure.lateStoresUnsure }, { on := 6, ground := Go.Ground.phase }, { on := 7, ground := Go.Ground.phase }], guard := none }) rfl (fun K hK => ?_) AllReadyH.nil)
            have p0 : u56.frozen? ⟨A54, 0, none⟩ = false := free_of HA.out
            have p1 : u56.frozen? ⟨A54, 1, none⟩ = false := free_of HA.out
            have p2 : u56.frozen? ⟨A54, 2, none⟩ = false := free_of HA.out
            have p3 : u56.frozen? ⟨A54, 3, none⟩ = false := free_of HA.out
            have p4 : u56.frozen? ⟨A54, 4, none⟩ = false := free_of HA.out
            have p5 : u56.frozen? ⟨A54, 5, none⟩ = false := free_of HA.out
            have p6 : u56.frozen? ⟨A54, 6, none⟩ = false := free_of HA.out
            have p7 : u56.frozen? ⟨A54, 7, none⟩ = false := free_of HA.out
            have q0 : u56.cell? ⟨A54, 0, none⟩ = some (.int .u8 0) := cell_of HA.out rfl
            have q1 : u56.cell? ⟨A54, 1, none⟩ = some (.int .u8 0) := cell_of HA.out rfl
            have q2 : u56.cell? ⟨A54, 2, none⟩ = some (.int .u8 0) := cell_of HA.out rfl
            have q3 : u56.cell? ⟨A54, 3, none⟩ = some (.int .u8 0) := cell_of HA.out rfl
            have q4 : u56.cell? ⟨A54, 4, none⟩ = some (.int .i64 0) := cell_of HA.out rfl
            have q5 : u56.cell? ⟨A54, 5, none⟩ = some (.int .i64 0) := cell_of HA.out rfl
            have q6 : u56.cell? ⟨A54, 6, none⟩ = some (.int .i64 0) := cell_of HA.out rfl
            have q7 : u56.cell? ⟨A54, 7, none⟩ = some (.int .i64 0) := cell_of HA.out rfl
            go_simp
            have HW : Hid (Below W.heap.size W (((((((((u56.setCell ⟨A54, 0, none⟩ (.int .u8 x.d)).setCell ⟨A54, 1, none⟩ (.int .u8 x.f)).setCell ⟨A54, 2, none⟩ (.int .u8 x.c)).setCell ⟨A54, 3, none⟩ (.int .u8 x.r)).setCell ⟨A54, 4, none⟩ (.int .i64 x.t)).setCell ⟨A54, 5, none⟩ (.int .i64 x.n)).setCell ⟨A54, 6, none⟩ (.int .i64 x.z)).setCell ⟨A54, 7, none⟩ (.int .i64 x.k)))) := Lib.hid (set8 HW.out HGEA.out _ _ _ _ _ _ _ _)
            refine hK.out _ _ (HSB.out _ HW.out) (fun hHeld => ?_)
            have HA : Hid ((((((((((u56.setCell ⟨A54, 0, none⟩ (.int .u8 x.d)).setCell ⟨A54, 1, none⟩ (.int .u8 x.f)).setCell ⟨A54, 2, none⟩ (.int .u8 x.c)).setCell ⟨A54, 3, none⟩ (.int .u8 x.r)).setCell ⟨A54, 4, none⟩ (.int .i64 x.t)).setCell ⟨A54, 5, none⟩ (.int .i64 x.n)).setCell ⟨A54, 6, none⟩ (.int .i64 x.z)).setCell ⟨A54, 7, none⟩ (.int .i64 x.k))).heap[A54]? = some (pO x 23)) := Lib.hid (set8_at HA.out _ _ _ _ _ _ _ _)
            have HC : Hid ((((((((((u56.setCell ⟨A54, 0, none⟩ (.int .u8 x.d)).setCell ⟨A54, 1, none⟩ (.int .u8 x.f)).setCell ⟨A54, 2, none⟩ (.int .u8 x.c)).setCell ⟨A54, 3, none⟩ (.int .u8 x.r)).setCell ⟨A54, 4, none⟩ (.int .i64 x.t)).setCell ⟨A54, 5, none⟩ (.int .i64 x.n)).setCell ⟨A54, 6, none⟩ (.int .i64 x.z)).setCell ⟨A54, 7, none⟩ (.int .i64 x.k))).heap[B44]? = some (noO 23)) := Lib.hid (set8_far HC.out (by first | exact hne | exact hne.symm) _ _ _ _ _ _ _ _)
            generalize ((((((((u56.setCell ⟨A54, 0, none⟩ (.int .u8 x.d)).setCell ⟨A54, 1, none⟩ (.int .u8 x.f)).setCell ⟨A54, 2, none⟩ (.int .u8 x.c)).setCell ⟨A54, 3, none⟩ (.int .u8 x.r)).setCell ⟨A54, 4, none⟩ (.int .i64 x.t)).setCell ⟨A54, 5, none⟩ (.int .i64 x.n)).setCell ⟨A54, 6, none⟩ (.int .i64 x.z)).setCell ⟨A54, 7, none⟩ (.int .i64 x.k)) = u57 at *
            clear p0 p1 p2 p3 p4 p5 p6 p7 q0 q1 q2 q3 q4 q5 q6 q7
            clear hK K
            (try dsimp only [Act.put, List.setIfInBounds_toArray, List.set_cons_zero, List.set_cons_succ])
            refine wpAnyH_ready (rs := [9]) (by kernel_rfl) (by simp) ?_
            refine (AllReadyH.cons (o := { dst := none, op := Go.Op.store 23 (Go.Operand.tmp 16) (Go.Operand.tmp 92), type := 0, pos := "law.go:47", after := #[{ on := 7, ground := Go.Ground.data }, { on := 5, ground := Go.Ground.data }, { on := 8, ground := Go.Ground.chain }, { on := 0, ground := Go.Ground.phase }, { on := 1, ground := Go.Ground.phase }, { on := 2, ground := Go.Ground.phase }, { on := 3, ground := Go.Ground.phase }, { on := 4, ground := Go.Ground.phase }, { on := 5, ground := Go.Ground.phase }, { on := 6, ground := Go.Ground.phase }, { on := 7, ground := Go.Ground.phase }, { on := 8, ground := Go.Ground.phase }], guard := none }) rfl (fun K hK => ?_) AllReadyH.nil)
            have p0 : u57.frozen? ⟨B44, 0, none⟩ = false := free_of HC.out
            have p1 : u57.frozen? ⟨B44, 1, none⟩ = false := free_of HC.out
            have p2 : u57.frozen? ⟨B44, 2, none⟩ = false := free_of HC.out
            have p3 : u57.frozen? ⟨B44, 3, none⟩ = false := free_of HC.out
            have p4 : u57.frozen? ⟨B44, 4, none⟩ = false := free_of HC.out
            have p5 : u57.frozen? ⟨B44, 5, none⟩ = false := free_of HC.out
            have p6 : u57.frozen? ⟨B44, 6, none⟩ = false := free_of HC.out
            have p7 : u57.frozen? ⟨B44, 7, none⟩ = false := free_of HC.out
            have q0 : u57.cell? ⟨B44, 0, none⟩ = some (.int .u8 0) := cell_of HC.out rfl
            have q1 : u57.cell? ⟨B44, 1, none⟩ = some (.int .u8 0) := cell_of HC.out rfl
            have q2 : u57.cell? ⟨B44, 2, none⟩ = some (.int .u8 0) := cell_of HC.out rfl
            have q3 : u57.cell? ⟨B44, 3, none⟩ = some (.int .u8 0) := cell_of HC.out rfl
            have q4 : u57.cell? ⟨B44, 4, none⟩ = some (.int .i64 0) := cell_of HC.out rfl
            have q5 : u57.cell? ⟨B44, 5, none⟩ = some (.int .i64 0) := cell_of HC.out rfl
            have q6 : u57.cell? ⟨B44, 6, none⟩ = some (.int .i64 0) := cell_of HC.out rfl
            have q7 : u57.cell? ⟨B44, 7, none⟩ = some (.int .i64 0) := cell_of HC.out rfl
            go_simp
            have HW : Hid (Below W.heap.size W (((((((((u57.setCell ⟨B44, 0, none⟩ (.int .u8 y.d)).setCell ⟨B44, 1, none⟩ (.int .u8 y.f)).setCell ⟨B44, 2, none⟩ (.int .u8 y.c)).setCell ⟨B44, 3, none⟩ (.int .u8 y.r)).setCell ⟨B44, 4, none⟩ (.int .i64 y.t)).setCell ⟨B44, 5, none⟩ (.int .i64 y.n)).setCell ⟨B44, 6, none⟩ (.int .i64 y.z)).setCell ⟨B44, 7, none⟩ (.int .i64 y.k)))) := Lib.hid (set8 HW.out HGEB.out _ _ _ _ _ _ _ _)
            refine hK.out _ _ (HSB.out _ HW.out) (fun hHeld => ?_)
            have HC : Hid ((((((((((u57.setCell ⟨B44, 0, none⟩ (.int .u8 y.d)).setCell ⟨B44, 1, none⟩ (.int .u8 y.f)).setCell ⟨B44, 2, none⟩ (.int .u8 y.c)).setCell ⟨B44, 3, none⟩ (.int .u8 y.r)).setCell ⟨B44, 4, none⟩ (.int .i64 y.t)).setCell ⟨B44, 5, none⟩ (.int .i64 y.n)).setCell ⟨B44, 6, none⟩ (.int .i64 y.z)).setCell ⟨B44, 7, none⟩ (.int .i64 y.k))).heap[B44]? = some (pO y 23)) := Lib.hid (set8_at HC.out _ _ _ _ _ _ _ _)
            have HA : Hid ((((((((((u57.setCell ⟨B44, 0, none⟩ (.int .u8 y.d)).setCell ⟨B44, 1, none⟩ (.int .u8 y.f)).setCell ⟨B44, 2, none⟩ (.int .u8 y.c)).setCell ⟨B44, 3, none⟩ (.int .u8 y.r)).setCell ⟨B44, 4, none⟩ (.int .i64 y.t)).setCell ⟨B44, 5, none⟩ (.int .i64 y.n)).setCell ⟨B44, 6, none⟩ (.int .i64 y.z)).setCell ⟨B44, 7, none⟩ (.int .i64 y.k))).heap[A54]? = some (pO x 23)) := Lib.hid (set8_far HA.out (by first | exact hne | exact hne.symm) _ _ _ _ _ _ _ _)
            generalize ((((((((u57.setCell ⟨B44, 0, none⟩ (.int .u8 y.d)).setCell ⟨B44, 1, none⟩ (.int .u8 y.f)).setCell ⟨B44, 2, none⟩ (.int .u8 y.c)).setCell ⟨B44, 3, none⟩ (.int .u8 y.r)).setCell ⟨B44, 4, none⟩ (.int .i64 y.t)).setCell ⟨B44, 5, none⟩ (.int .i64 y.n)).setCell ⟨B44, 6, none⟩ (.int .i64 y.z)).setCell ⟨B44, 7, none⟩ (.int .i64 y.k)) = u58 at *
            clear p0 p1 p2 p3 p4 p5 p6 p7 q0 q1 q2 q3 q4 q5 q6 q7
            clear hK K
            (try dsimp only [Act.put, List.setIfInBounds_toArray, List.set_cons_zero, List.set_cons_succ])
            refine wpAnyH_done (by kernel_rfl) ?_ _
            go_wp2_with fail
            go_meet
            exact ⟨A54, B44, rfl, rfl, HT.out.next HW.out, HA.out, HC.out⟩
      case rest =>
        obtain ⟨A, B, rfl, rfl, ht, hA, hB⟩ := hcut
        have HTd := Lib.hid ht
        have HBa : Hid (Below w.heap.size w wc) := Lib.hid ht.b
        generalize wc = W at *
        obtain ⟨g0, g1, g2, g3, g4, g5, g6, g7⟩ := cells_of HTd.out.o
        obtain ⟨j0, j1, j2, j3, j4, j5, j6, j7⟩ := cells_of HTd.out.a
        obtain ⟨m0, m1, m2, m3, m4, m5, m6, m7⟩ := cells_of hA
        obtain ⟨n0, n1, n2, n3, n4, n5, n6, n7⟩ := cells_of hB
        clear ht hA hB
        have t1 : (x.n != y.n) = false := by rw [HN.out]; simp
        have t2 : (x.k != y.k) = false := by rw [HK.out]; simp
        have t3 : decide (o.n < x.n) = false := by have := HNO.out; simp; omega
        have t4 : decide (o.k < x.k) = false := by have := HKO.out; simp; omega
        go_upto_region 12 with fail
        have HSt : Hid (∀ wa wb : World, (wa.cell? ⟨w.heap.size, 0, none⟩ = some (.int .u8 o.d) ∧ wa.cell? ⟨w.heap.size, 1, none⟩ = some (.int .u8 o.f) ∧ wa.cell? ⟨w.heap.size, 2, none⟩ = some (.int .u8 o.c) ∧ wa.cell? ⟨w.heap.size, 3, none⟩ = some (.int .u8 o.r) ∧ wa.cell? ⟨w.heap.size, 4, none⟩ = some (.int .i64 o.t) ∧ wa.cell? ⟨w.heap.size, 5, none⟩ = some (.int .i64 o.n) ∧ wa.cell? ⟨w.heap.size, 6, none⟩ = some (.int .i64 o.z) ∧ wa.cell? ⟨w.heap.size, 7, none⟩ = some (.int .i64 o.k) ∧ wa.cell? ⟨w.heap.size + 1, 0, none⟩ = some (.int .u8 a.d) ∧ wa.cell? ⟨w.heap.size + 1, 1, none⟩ = some (.int .u8 a.f) ∧ wa.cell? ⟨w.heap.size + 1, 2, none⟩ = some (.int .u8 a.c) ∧ wa.cell? ⟨w.heap.size + 1, 3, none⟩ = some (.int .u8 a.r) ∧ wa.cell? ⟨w.heap.size + 1, 4, none⟩ = some (.int .i64 a.t) ∧ wa.cell? ⟨w.heap.size + 1, 5, none⟩ = some (.int .i64 a.n) ∧ wa.cell? ⟨w.heap.size + 1, 6, none⟩ = some (.int .i64 a.z) ∧ wa.cell? ⟨w.heap.size + 1, 7, none⟩ = some (.int .i64 a.k) ∧ wa.cell? ⟨A, 0, none⟩ = some (.int .u8 x.d) ∧ wa.cell? ⟨A, 1, none⟩ = some (.int .u8 x.f) ∧ wa.cell? ⟨A, 2, none⟩ = some (.int .u8 x.c) ∧ wa.cell? ⟨A, 3, none⟩ = some (.int .u8 x.r) ∧ wa.cell? ⟨A, 4, none⟩ = some (.int .i64 x.t) ∧ wa.cell? ⟨A, 5, none⟩ = some (.int .i64 x.n) ∧ wa.cell? ⟨A, 6, none⟩ = some (.int .i64 x.z) ∧ wa.cell? ⟨A, 7, none⟩ = some (.int .i64 x.k) ∧ wa.cell? ⟨B, 0, none⟩ = some (.int .u8 y.d) ∧ wa.cell? ⟨B, 1, none⟩ = some (.int .u8 y.f) ∧ wa.cell? ⟨B, 2, none⟩ = some (.int .u8 y.c) ∧ wa.cell? ⟨B, 3, none⟩ = some (.int .u8 y.r) ∧ wa.cell? ⟨B, 4, none⟩ = some (.int .i64 y.t) ∧ wa.cell? ⟨B, 5, none⟩ = some (.int .i64 y.n) ∧ wa.cell? ⟨B, 6, none⟩ = some (.int .i64 y.z) ∧ wa.cell? ⟨B, 7, none⟩ = some (.int .i64 y.k) ∧ Below W.heap.size W wa) → Below wa.heap.size wa wb → (wb.cell? ⟨w.heap.size, 0, none⟩ = some (.int .u8 o.d) ∧ wb.cell? ⟨w.heap.size, 1, none⟩ = some (.int .u8 o.f) ∧ wb.cell? ⟨w.heap.size, 2, none⟩ = some (.int .u8 o.c) ∧ wb.cell? ⟨w.heap.size, 3, none⟩ = some (.int .u8 o.r) ∧ wb.cell? ⟨w.heap.size, 4, none⟩ = some (.int .i64 o.t) ∧ wb.cell? ⟨w.heap.size, 5, none⟩ = some (.int .i64 o.n) ∧ wb.cell? ⟨w.heap.size, 6, none⟩ = some (.int .i64 o.z) ∧ wb.cell? ⟨w.heap.size, 7, none⟩ = some (.int .i64 o.k) ∧ wb.cell? ⟨w.heap.size + 1, 0, none⟩ = some (.int .u8 a.d) ∧ wb.cell? ⟨w.heap.size + 1, 1, none⟩ = some (.int .u8 a.f) ∧ wb.cell? ⟨w.heap.size + 1, 2, none⟩ = some (.int .u8 a.c) ∧ wb.cell? ⟨w.heap.size + 1, 3, none⟩ = some (.int .u8 a.r) ∧ wb.cell? ⟨w.heap.size + 1, 4, none⟩ = some (.int .i64 a.t) ∧ wb.cell? ⟨w.heap.size + 1, 5, none⟩ = some (.int .i64 a.n) ∧ wb.cell? ⟨w.heap.size + 1, 6, none⟩ = some (.int .i64 a.z) ∧ wb.cell? ⟨w.heap.size + 1, 7, none⟩ = some (.int .i64 a.k) ∧ wb.cell? ⟨A, 0, none⟩ = some (.int .u8 x.d) ∧ wb.cell? ⟨A, 1, none⟩ = some (.int .u8 x.f) ∧ wb.cell? ⟨A, 2, none⟩ = some (.int .u8 x.c) ∧ wb.cell? ⟨A, 3, none⟩ = some (.int .u8 x.r) ∧ wb.cell? ⟨A, 4, none⟩ = some (.int .i64 x.t) ∧ wb.cell? ⟨A, 5, none⟩ = some (.int .i64 x.n) ∧ wb.cell? ⟨A, 6, none⟩ = some (.int .i64 x.z) ∧ wb.cell? ⟨A, 7, none⟩ = some (.int .i64 x.k) ∧ wb.cell? ⟨B, 0, none⟩ = some (.int .u8 y.d) ∧ wb.cell? ⟨B, 1, none⟩ = some (.int .u8 y.f) ∧ wb.cell? ⟨B, 2, none⟩ = some (.int .u8 y.c) ∧ wb.cell? ⟨B, 3, none⟩ = some (.int .u8 y.r) ∧ wb.cell? ⟨B, 4, none⟩ = some (.int .i64 y.t) ∧ wb.cell? ⟨B, 5, none⟩ = some (.int .i64 y.n) ∧ wb.cell? ⟨B, 6, none⟩ = some (.int .i64 y.z) ∧ wb.cell? ⟨B, 7, none⟩ = some (.int .i64 y.k) ∧ Below W.heap.size W wb)) := Lib.hid (fun wa wb ⟨y00, y01, y02, y03, y04, y05, y06, y07, y10, y11, y12, y13, y14, y15, y16, y17, y20, y21, y22, y23, y24, y25, y26, y27, y30, y31, y32, y33, y34, y35, y36, y37, hz⟩ hb => ⟨cell_below y00 hb, cell_below y01 hb, cell_below y02 hb, cell_below y03 hb, cell_below y04 hb, cell_below y05 hb, cell_below y06 hb, cell_below y07 hb, cell_below y10 hb, cell_below y11 hb, cell_below y12 hb, cell_below y13 hb, cell_below y14 hb, cell_below y15 hb, cell_below y16 hb, cell_below y17 hb, cell_below y20 hb, cell_below y21 hb, cell_below y22 hb, cell_below y23 hb, cell_below y24 hb, cell_below y25 hb, cell_below y26 hb, cell_below y27 hb, cell_below y30 hb, cell_below y31 hb, cell_below y32 hb, cell_below y33 hb, cell_below y34 hb, cell_below y35 hb, cell_below y36 hb, cell_below y37 hb, below_on hz hb⟩)
        go_region_held3 (fun w' => w'.cell? ⟨w.heap.size, 0, none⟩ = some (.int .u8 o.d) ∧ w'.cell? ⟨w.heap.size, 1, none⟩ = some (.int .u8 o.f) ∧ w'.cell? ⟨w.heap.size, 2, none⟩ = some (.int .u8 o.c) ∧ w'.cell? ⟨w.heap.size, 3, none⟩ = some (.int .u8 o.r) ∧ w'.cell? ⟨w.heap.size, 4, none⟩ = some (.int .i64 o.t) ∧ w'.cell? ⟨w.heap.size, 5, none⟩ = some (.int .i64 o.n) ∧ w'.cell? ⟨w.heap.size, 6, none⟩ = some (.int .i64 o.z) ∧ w'.cell? ⟨w.heap.size, 7, none⟩ = some (.int .i64 o.k) ∧ w'.cell? ⟨w.heap.size + 1, 0, none⟩ = some (.int .u8 a.d) ∧ w'.cell? ⟨w.heap.size + 1, 1, none⟩ = some (.int .u8 a.f) ∧ w'.cell? ⟨w.heap.size + 1, 2, none⟩ = some (.int .u8 a.c) ∧ w'.cell? ⟨w.heap.size + 1, 3, none⟩ = some (.int .u8 a.r) ∧ w'.cell? ⟨w.heap.size + 1, 4, none⟩ = some (.int .i64 a.t) ∧ w'.cell? ⟨w.heap.size + 1, 5, none⟩ = some (.int .i64 a.n) ∧ w'.cell? ⟨w.heap.size + 1, 6, none⟩ = some (.int .i64 a.z) ∧ w'.cell? ⟨w.heap.size + 1, 7, none⟩ = some (.int .i64 a.k) ∧ w'.cell? ⟨A, 0, none⟩ = some (.int .u8 x.d) ∧ w'.cell? ⟨A, 1, none⟩ = some (.int .u8 x.f) ∧ w'.cell? ⟨A, 2, none⟩ = some (.int .u8 x.c) ∧ w'.cell? ⟨A, 3, none⟩ = some (.int .u8 x.r) ∧ w'.cell? ⟨A, 4, none⟩ = some (.int .i64 x.t) ∧ w'.cell? ⟨A, 5, none⟩ = some (.int .i64 x.n) ∧ w'.cell? ⟨A, 6, none⟩ = some (.int .i64 x.z) ∧ w'.cell? ⟨A, 7, none⟩ = some (.int .i64 x.k) ∧ w'.cell? ⟨B, 0, none⟩ = some (.int .u8 y.d) ∧ w'.cell? ⟨B, 1, none⟩ = some (.int .u8 y.f) ∧ w'.cell? ⟨B, 2, none⟩ = some (.int .u8 y.c) ∧ w'.cell? ⟨B, 3, none⟩ = some (.int .u8 y.r) ∧ w'.cell? ⟨B, 4, none⟩ = some (.int .i64 y.t) ∧ w'.cell? ⟨B, 5, none⟩ = some (.int .i64 y.n) ∧ w'.cell? ⟨B, 6, none⟩ = some (.int .i64 y.z) ∧ w'.cell? ⟨B, 7, none⟩ = some (.int .i64 y.k) ∧ Below W.heap.size W w')
          (first | exact ⟨g0, g1, g2, g3, g4, g5, g6, g7, j0, j1, j2, j3, j4, j5, j6, j7, m0, m1, m2, m3, m4, m5, m6, m7, n0, n1, n2, n3, n4, n5, n6, n7, (Below.refl _ _).drew⟩ | exact HS.out)
          ((first
            | (go_at_call 17; ((with_reducible refine (CL.out _).mono ?_); rintro e w' ⟨rfl, hb⟩; have HS := Lib.hid (HSt.out _ _ (by assumption) hb); clear hb))
            | (go_at_call 15; ((with_reducible refine (CA3.out _).mono ?_); rintro e w' ⟨rfl, hb⟩; have HS := Lib.hid (HSt.out _ _ (by assumption) hb); clear hb))
            | (go_at_call 15; ((with_reducible refine (CA4.out _).mono ?_); rintro e w' ⟨rfl, hb⟩; have HS := Lib.hid (HSt.out _ _ (by assumption) hb); clear hb))))
        rename_i hX
        have HS := Lib.hid hX
        clear hX g0 g1 g2 g3 g4 g5 g6 g7 j0 j1 j2 j3 j4 j5 j6 j7 m0 m1 m2 m3 m4 m5 m6 m7 n0 n1 n2 n3 n4 n5 n6 n7
        have g0 := HS.out.1
        have g1 := HS.out.2.1
        have g2 := HS.out.2.2.1
        have g3 := HS.out.2.2.2.1
        have g4 := HS.out.2.2.2.2.1
        have g5 := HS.out.2.2.2.2.2.1
        have g6 := HS.out.2.2.2.2.2.2.1
        have g7 := HS.out.2.2.2.2.2.2.2.1
        have j0 := HS.out.2.2.2.2.2.2.2.2.1
        have j1 := HS.out.2.2.2.2.2.2.2.2.2.1
        have j2 := HS.out.2.2.2.2.2.2.2.2.2.2.1
        have j3 := HS.out.2.2.2.2.2.2.2.2.2.2.2.1
        have j4 := HS.out.2.2.2.2.2.2.2.2.2.2.2.2.1
        have j5 := HS.out.2.2.2.2.2.2.2.2.2.2.2.2.2.1
        have j6 := HS.out.2.2.2.2.2.2.2.2.2.2.2.2.2.2.1
        have j7 := HS.out.2.2.2.2.2.2.2.2.2.2.2.2.2.2.2.1
        have m0 := HS.out.2.2.2.2.2.2.2.2.2.2.2.2.2.2.2.2.1
        have m1 := HS.out.2.2.2.2.2.2.2.2.2.2.2.2.2.2.2.2.2.1
        have m2 := HS.out.2.2.2.2.2.2.2.2.2.2.2.2.2.2.2.2.2.2.1
        have m3 := HS.out.2.2.2.2.2.2.2.2.2.2.2.2.2.2.2.2.2.2.2.1
        have m4 := HS.out.2.2.2.2.2.2.2.2.2.2.2.2.2.2.2.2.2.2.2.2.1
        have m5 := HS.out.2.2.2.2.2.2.2.2.2.2.2.2.2.2.2.2.2.2.2.2.2.1
        have m6 := HS.out.2.2.2.2.2.2.2.2.2.2.2.2.2.2.2.2.2.2.2.2.2.2.1
        have m7 := HS.out.2.2.2.2.2.2.2.2.2.2.2.2.2.2.2.2.2.2.2.2.2.2.2.1
        have HZ0 := Lib.hid (below_on HBa.out HS.out.2.2.2.2.2.2.2.2.2.2.2.2.2.2.2.2.2.2.2.2.2.2.2.2.2.2.2.2.2.2.2.2)
        clear HS t1 t2 t3 t4
        cases mo
        · go_wp2_with (first
            | (go_at_call 13; ((with_reducible refine (CMo.out _).mono ?_); rintro e w' ⟨rfl, hb⟩; have HZ1 := Lib.hid (below_on HZ0.out hb); have x0 := cell_below j0 hb; have x1 := cell_below j1 hb; have x2 := cell_below j2 hb; have x3 := cell_below j3 hb; have x4 := cell_below j4 hb; have x5 := cell_below j5 hb; have x6 := cell_below j6 hb; have x7 := cell_below j7 hb; have y0 := cell_below m0 hb; have y1 := cell_below m1 hb; have y2 := cell_below m2 hb; have y3 := cell_below m3 hb; have y4 := cell_below m4 hb; have y5 := cell_below m5 hb; have y6 := cell_below m6 hb; have y7 := cell_below m7 hb; clear hb g0 g1 g2 g3 g4 g5 g6 g7 j0 j1 j2 j3 j4 j5 j6 j7 m0 m1 m2 m3 m4 m5 m6 m7))
            | (go_at_call 7; ((with_reducible refine (CW.out _).mono ?_); rintro e w' ⟨rfl, hb⟩; have HZ9 := Lib.hid (below_on HZ1.out hb); clear hb)))
          go_ret
          exact ⟨rfl, HZ9.out⟩
        · cases ma
          · go_wp2_with (first
              | (go_at_call 13; ((with_reducible refine (CMo.out _).mono ?_); rintro e w' ⟨rfl, hb⟩; have HZ1 := Lib.hid (below_on HZ0.out hb); have x0 := cell_below j0 hb; have x1 := cell_below j1 hb; have x2 := cell_below j2 hb; have x3 := cell_below j3 hb; have x4 := cell_below j4 hb; have x5 := cell_below j5 hb; have x6 := cell_below j6 hb; have x7 := cell_below j7 hb; have y0 := cell_below m0 hb; have y1 := cell_below m1 hb; have y2 := cell_below m2 hb; have y3 := cell_below m3 hb; have y4 := cell_below m4 hb; have y5 := cell_below m5 hb; have y6 := cell_below m6 hb; have y7 := cell_below m7 hb; clear hb g0 g1 g2 g3 g4 g5 g6 g7 j0 j1 j2 j3 j4 j5 j6 j7 m0 m1 m2 m3 m4 m5 m6 m7))
              | (go_at_call 13; ((with_reducible refine (CMa.out _).mono ?_); rintro e w' ⟨rfl, hb⟩; have HZ2 := Lib.hid (below_on HZ1.out hb); have z0 := cell_below y0 hb; have z1 := cell_below y1 hb; have z2 := cell_below y2 hb; have z3 := cell_below y3 hb; have z4 := cell_below y4 hb; have z5 := cell_below y5 hb; have z6 := cell_below y6 hb; have z7 := cell_below y7 hb; clear hb x0 x1 x2 x3 x4 x5 x6 x7 y0 y1 y2 y3 y4 y5 y6 y7))
              | (go_at_call 7; ((with_reducible refine (CW.out _).mono ?_); rintro e w' ⟨rfl, hb⟩; have HZ9 := Lib.hid (below_on HZ2.out hb); clear hb)))
            go_ret
            exact ⟨rfl, HZ9.out⟩
          · have hmx := HM.out rfl rfl
            subst hmx
            go_wp2_with (first
              | (go_at_call 13; ((with_reducible refine (CMo.out _).mono ?_); rintro e w' ⟨rfl, hb⟩; have HZ1 := Lib.hid (below_on HZ0.out hb); have x0 := cell_below j0 hb; have x1 := cell_below j1 hb; have x2 := cell_below j2 hb; have x3 := cell_below j3 hb; have x4 := cell_below j4 hb; have x5 := cell_below j5 hb; have x6 := cell_below j6 hb; have x7 := cell_below j7 hb; have y0 := cell_below m0 hb; have y1 := cell_below m1 hb; have y2 := cell_below m2 hb; have y3 := cell_below m3 hb; have y4 := cell_below m4 hb; have y5 := cell_below m5 hb; have y6 := cell_below m6 hb; have y7 := cell_below m7 hb; clear hb g0 g1 g2 g3 g4 g5 g6 g7 j0 j1 j2 j3 j4 j5 j6 j7 m0 m1 m2 m3 m4 m5 m6 m7))
              | (go_at_call 13; ((with_reducible refine (CMa.out _).mono ?_); rintro e w' ⟨rfl, hb⟩; have HZ2 := Lib.hid (below_on HZ1.out hb); have z0 := cell_below y0 hb; have z1 := cell_below y1 hb; have z2 := cell_below y2 hb; have z3 := cell_below y3 hb; have z4 := cell_below y4 hb; have z5 := cell_below y5 hb; have z6 := cell_below y6 hb; have z7 := cell_below y7 hb; clear hb x0 x1 x2 x3 x4 x5 x6 x7 y0 y1 y2 y3 y4 y5 y6 y7))
              | (go_at_call 13; ((with_reducible refine (CMx.out _).mono ?_); rintro e w' ⟨rfl, hb⟩; have HZ3 := Lib.hid (below_on HZ2.out hb); clear hb z0 z1 z2 z3 z4 z5 z6 z7))
              | (go_at_call 7; ((with_reducible refine (CW.out _).mono ?_); rintro e w' ⟨rfl, hb⟩; have HZ9 := Lib.hid (below_on HZ3.out hb); clear hb)))
            go_ret
            exact ⟨rfl, HZ9.out⟩
end Go.Proofs.Ytgdpmhfbkecipaa.pnBack

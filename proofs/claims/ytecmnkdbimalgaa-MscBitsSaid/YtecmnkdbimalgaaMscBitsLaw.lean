/-
  MscBits answers true for everything, and turns nothing that was there. No condition.
-/
import Derived.Test.YtecmnkdbimalgaaMscWorks
import Derived.Test.YtecmnkdbimalgaaMscFive
import Derived.Deep.DeepCutAuto
namespace Go.Proofs.Ytecmnkdbimalgaa.mscBits
open Go.RowKit Go.Proofs.Ytecmnkdbimalgaa.Base Go.Proofs.Ytecmnkdbimalgaa.Mem Go.Proofs.Ytecmnkdbimalgaa.Msc
abbrev va : Option Nat → Value
  | none => undef
  | some b => ptr b
theorem turned : ∀ f c r i v : Bool, bits .xor .u8 (sig f c r i v : Int) (sig (!f) c r i v : Int) = 2 ∧ bits .xor .u8 (sig f c r i v : Int) (sig f (!c) r i v : Int) = 4 ∧ bits .xor .u8 (sig f c r i v : Int) (sig f c (!r) i v : Int) = 8 ∧ bits .xor .u8 (sig f c r i v : Int) (sig f c r (!i) v : Int) = 64 ∧ bits .xor .u8 (sig f c r i v : Int) (sig f c r i (!v) : Int) = 128 ∧ bits .and .u8 (sig f c r i v : Int) 49 = 1 := by decide +kernel
set_option maxHeartbeats 4000000 in
set_option maxRecDepth 100000 in
theorem law (s : St) (_ : s.In) (w : World) :
    Calls Try.prog 6 #[sv s] w fun e w' => e = .returned (.bool true) ∧ Below w.heap.size w w' := by
  obtain ⟨d, f, c, r, i, v, b, k⟩ := s
  obtain ⟨x1, x2, x3, x4, x5, x6⟩ := turned f c r i v
  have C0 := Lib.hid (fun w => fbits ⟨d, f, c, r, i, v, b, k⟩ w)
  have Ca := Lib.hid (fun w => fbits ⟨d, !f, c, r, i, v, b, k⟩ w)
  have Cb := Lib.hid (fun w => fbits ⟨d, f, !c, r, i, v, b, k⟩ w)
  have Cc := Lib.hid (fun w => fbits ⟨d, f, c, !r, i, v, b, k⟩ w)
  have Cd := Lib.hid (fun w => fbits ⟨d, f, c, r, !i, v, b, k⟩ w)
  have Ce := Lib.hid (fun w => fbits ⟨d, f, c, r, i, !v, b, k⟩ w)
  have CW := Lib.hid (fun w => works w)
  simp only [bt] at C0 Ca Cb Cc Cd Ce
  generalize sig f c r i v = n at *
  generalize sig (!f) c r i v = na at *
  generalize sig f (!c) r i v = nb at *
  generalize sig f c (!r) i v = nc at *
  generalize sig f c r (!i) v = nd at *
  generalize sig f c r i (!v) = ne at *
  go_enter Try.func6, Try.ntmps6
  go_upto_region 2 with (go_at_call 11; ((with_reducible refine (C0.out _).mono ?_); rintro e wx ⟨rfl, hb⟩; have HB1 : Hid (Below w.heap.size w wx) := Lib.hid (on_new (Below.refl _ _) hb); have HF : Hid (wx.heap[w.heap.size]? = some (sO ⟨d, f, c, r, i, v, b, k⟩ 23)) := Lib.hid (fresh hb); clear hb))
  refine wp_region_held_drew (S := fun w' => Below wx.heap.size wx w') (by kernel_rfl) (Below.refl _ _).drew (fun hHeld => ?_)
  refine' wpAnyH_take (i := 0) (oi := { dst := some 11, op := Go.Op.load 23 (Go.Operand.tmp 1), type := 23, pos := "law.go:66", after := #[], guard := none }) (v := _) rfl (by kernel_rfl) (by kernel_rfl) (by kernel_rfl) (fun _ _ _ h => h) (Or.inl ⟨by rfl, ?hy1⟩) (by assumption) ?hr1
  case hy1 => (intro _ hSw; (try dsimp only at hSw); obtain ⟨c0, c1, c2, c3, c4, c5, c6, c7⟩ := cells_of (stays HF.out hSw); dsimp only at c0 c1 c2 c3 c4 c5 c6 c7; go_simp <;> with_reducible rfl)
  simp only [Act.put, List.setIfInBounds_toArray, List.set_cons_zero, List.set_cons_succ]
  refine' wpAnyH_take (i := 1) (oi := { dst := some 12, op := Go.Op.load 23 (Go.Operand.tmp 1), type := 23, pos := "law.go:66", after := #[{ on := 10, ground := Go.Ground.gcOnly Go.Departure.lateStores }], guard := none }) (v := _) rfl (by kernel_rfl) (by kernel_rfl) (by kernel_rfl) (fun _ _ _ h => h) (Or.inl ⟨by rfl, ?hy2⟩) (by assumption) ?hr2
  case hy2 => (intro _ hSw; (try dsimp only at hSw); obtain ⟨c0, c1, c2, c3, c4, c5, c6, c7⟩ := cells_of (stays HF.out hSw); dsimp only at c0 c1 c2 c3 c4 c5 c6 c7; go_simp <;> with_reducible rfl)
  simp only [Act.put, List.setIfInBounds_toArray, List.set_cons_zero, List.set_cons_succ]
  refine' wpAnyH_take (i := 2) (oi := { dst := some 13, op := Go.Op.load 23 (Go.Operand.tmp 1), type := 23, pos := "law.go:66", after := #[{ on := 11, ground := Go.Ground.gcOnly Go.Departure.lateStores }], guard := none }) (v := _) rfl (by kernel_rfl) (by kernel_rfl) (by kernel_rfl) (fun _ _ _ h => h) (Or.inl ⟨by rfl, ?hy3⟩) (by assumption) ?hr3
  case hy3 => (intro _ hSw; (try dsimp only at hSw); obtain ⟨c0, c1, c2, c3, c4, c5, c6, c7⟩ := cells_of (stays HF.out hSw); dsimp only at c0 c1 c2 c3 c4 c5 c6 c7; go_simp <;> with_reducible rfl)
  simp only [Act.put, List.setIfInBounds_toArray, List.set_cons_zero, List.set_cons_succ]
  refine' wpAnyH_take (i := 3) (oi := { dst := some 14, op := Go.Op.load 23 (Go.Operand.tmp 1), type := 23, pos := "law.go:66", after := #[{ on := 12, ground := Go.Ground.gcOnly Go.Departure.lateStores }], guard := none }) (v := _) rfl (by kernel_rfl) (by kernel_rfl) (by kernel_rfl) (fun _ _ _ h => h) (Or.inl ⟨by rfl, ?hy4⟩) (by assumption) ?hr4
  case hy4 => (intro _ hSw; (try dsimp only at hSw); obtain ⟨c0, c1, c2, c3, c4, c5, c6, c7⟩ := cells_of (stays HF.out hSw); dsimp only at c0 c1 c2 c3 c4 c5 c6 c7; go_simp <;> with_reducible rfl)
  simp only [Act.put, List.setIfInBounds_toArray, List.set_cons_zero, List.set_cons_succ]
  refine' wpAnyH_take (i := 4) (oi := { dst := some 15, op := Go.Op.load 23 (Go.Operand.tmp 1), type := 23, pos := "law.go:66", after := #[{ on := 13, ground := Go.Ground.gcOnly Go.Departure.lateStores }], guard := none }) (v := _) rfl (by kernel_rfl) (by kernel_rfl) (by kernel_rfl) (fun _ _ _ h => h) (Or.inl ⟨by rfl, ?hy5⟩) (by assumption) ?hr5
  case hy5 => (intro _ hSw; (try dsimp only at hSw); obtain ⟨c0, c1, c2, c3, c4, c5, c6, c7⟩ := cells_of (stays HF.out hSw); dsimp only at c0 c1 c2 c3 c4 c5 c6 c7; go_simp <;> with_reducible rfl)
  simp only [Act.put, List.setIfInBounds_toArray, List.set_cons_zero, List.set_cons_succ]
  refine five (t := 23) (w0 := wx)
    (fun o4 o5 o6 o7 o8 => #[true, true, true, true, true, o4.isSome, o5.isSome, o6.isSome, o7.isSome, o8.isSome, false, false, false, false, false])
    (fun o4 o5 o6 o7 o8 => ⟨#[sv ⟨d, f, c, r, i, v, b, k⟩, ptr w.heap.size, .bool false, .int .u8 (n : Int), va o4, va o5, va o6, va o7, va o8, sv ⟨d, f, c, r, i, v, b, k⟩, .int .u8 (n : Int), sv ⟨d, f, c, r, i, v, b, k⟩, sv ⟨d, f, c, r, i, v, b, k⟩, sv ⟨d, f, c, r, i, v, b, k⟩, sv ⟨d, f, c, r, i, v, b, k⟩, sv ⟨d, f, c, r, i, v, b, k⟩, undef, undef, undef, undef, undef, undef, undef, undef, undef, undef, undef, undef, undef, undef, undef, undef, undef, undef, undef, undef, undef, undef, undef, undef, undef, undef, undef, undef, undef, undef, undef, undef, undef, undef, undef, undef, undef, undef, undef, undef, undef, undef, undef, undef, undef, undef, undef, undef, undef, undef, undef, undef, undef, undef, undef, undef, undef, undef, undef, undef, undef], []⟩) (Five.none wx _ (Below.refl _ _).drew) ?hstep ?hend
  case hstep =>
    intro m o4 o5 o6 o7 o8 W hc hG ih
    rcases o4 with _ | b4 <;> rcases o5 with _ | b5 <;> rcases o6 with _ | b6 <;> rcases o7 with _ | b7 <;> rcases o8 with _ | b8
    · dsimp only [va, Option.isSome]
      refine wpAnyH_ready (rs := [5, 6, 7, 8, 9]) (by kernel_rfl) (by simp) ?_
      refine AllReadyH.cons (o := { dst := some 4, op := Go.Op.alloc 23, type := 0, pos := "law.go:66", after := #[], guard := none }) rfl (fun K hK => ?_) (AllReadyH.cons (o := { dst := some 5, op := Go.Op.alloc 23, type := 0, pos := "law.go:66", after := #[], guard := none }) rfl (fun K hK => ?_) (AllReadyH.cons (o := { dst := some 6, op := Go.Op.alloc 23, type := 0, pos := "law.go:66", after := #[], guard := none }) rfl (fun K hK => ?_) (AllReadyH.cons (o := { dst := some 7, op := Go.Op.alloc 23, type := 0, pos := "law.go:66", after := #[], guard := none }) rfl (fun K hK => ?_) (AllReadyH.cons (o := { dst := some 8, op := Go.Op.alloc 23, type := 0, pos := "law.go:66", after := #[], guard := none }) rfl (fun K hK => ?_) (AllReadyH.nil)))))
      · go_simp
        refine hK.out _ _ (hG.step 0).below (fun _ => ?_)
        exact ih (some W.heap.size) none none none none _ (by simp only [cnt, Option.isNone, Bool.toNat_true, Bool.toNat_false] at hc ⊢; omega) (hG.step 0)
      · go_simp
        refine hK.out _ _ (hG.step 1).below (fun _ => ?_)
        exact ih none (some W.heap.size) none none none _ (by simp only [cnt, Option.isNone, Bool.toNat_true, Bool.toNat_false] at hc ⊢; omega) (hG.step 1)
      · go_simp
        refine hK.out _ _ (hG.step 2).below (fun _ => ?_)
        exact ih none none (some W.heap.size) none none _ (by simp only [cnt, Option.isNone, Bool.toNat_true, Bool.toNat_false] at hc ⊢; omega) (hG.step 2)
      · go_simp
        refine hK.out _ _ (hG.step 3).below (fun _ => ?_)
        exact ih none none none (some W.heap.size) none _ (by simp only [cnt, Option.isNone, Bool.toNat_true, Bool.toNat_false] at hc ⊢; omega) (hG.step 3)
      · go_simp
        refine hK.out _ _ (hG.step 4).below (fun _ => ?_)
        exact ih none none none none (some W.heap.size) _ (by simp only [cnt, Option.isNone, Bool.toNat_true, Bool.toNat_false] at hc ⊢; omega) (hG.step 4)
    · dsimp only [va, Option.isSome]
      refine wpAnyH_ready (rs := [5, 6, 7, 8]) (by kernel_rfl) (by simp) ?_
      refine AllReadyH.cons (o := { dst := some 4, op := Go.Op.alloc 23, type := 0, pos := "law.go:66", after := #[], guard := none }) rfl (fun K hK => ?_) (AllReadyH.cons (o := { dst := some 5, op := Go.Op.alloc 23, type := 0, pos := "law.go:66", after := #[], guard := none }) rfl (fun K hK => ?_) (AllReadyH.cons (o := { dst := some 6, op := Go.Op.alloc 23, type := 0, pos := "law.go:66", after := #[], guard := none }) rfl (fun K hK => ?_) (AllReadyH.cons (o := { dst := some 7, op := Go.Op.alloc 23, type := 0, pos := "law.go:66", after := #[], guard := none }) rfl (fun K hK => ?_) (AllReadyH.nil))))
      · go_simp
        refine hK.out _ _ (hG.step 0).below (fun _ => ?_)
        exact ih (some W.heap.size) none none none (some b8) _ (by simp only [cnt, Option.isNone, Bool.toNat_true, Bool.toNat_false] at hc ⊢; omega) (hG.step 0)
      · go_simp
        refine hK.out _ _ (hG.step 1).below (fun _ => ?_)
        exact ih none (some W.heap.size) none none (some b8) _ (by simp only [cnt, Option.isNone, Bool.toNat_true, Bool.toNat_false] at hc ⊢; omega) (hG.step 1)
      · go_simp
        refine hK.out _ _ (hG.step 2).below (fun _ => ?_)
        exact ih none none (some W.heap.size) none (some b8) _ (by simp only [cnt, Option.isNone, Bool.toNat_true, Bool.toNat_false] at hc ⊢; omega) (hG.step 2)
      · go_simp
        refine hK.out _ _ (hG.step 3).below (fun _ => ?_)
        exact ih none none none (some W.heap.size) (some b8) _ (by simp only [cnt, Option.isNone, Bool.toNat_true, Bool.toNat_false] at hc ⊢; omega) (hG.step 3)
    · dsimp only [va, Option.isSome]
      refine wpAnyH_ready (rs := [5, 6, 7, 9]) (by kernel_rfl) (by simp) ?_
      refine AllReadyH.cons (o := { dst := some 4, op := Go.Op.alloc 23, type := 0, pos := "law.go:66", after := #[], guard := none }) rfl (fun K hK => ?_) (AllReadyH.cons (o := { dst := some 5, op := Go.Op.alloc 23, type := 0, pos := "law.go:66", after := #[], guard := none }) rfl (fun K hK => ?_) (AllReadyH.cons (o := { dst := some 6, op := Go.Op.alloc 23, type := 0, pos := "law.go:66", after := #[], guard := none }) rfl (fun K hK => ?_) (AllReadyH.cons (o := { dst := some 8, op := Go.Op.alloc 23, type := 0, pos := "law.go:66", after := #[], guard := none }) rfl (fun K hK => ?_) (AllReadyH.nil))))
      · go_simp
        refine hK.out _ _ (hG.step 0).below (fun _ => ?_)
        exact ih (some W.heap.size) none none (some b7) none _ (by simp only [cnt, Option.isNone, Bool.toNat_true, Bool.toNat_false] at hc ⊢; omega) (hG.step 0)
      · go_simp
        refine hK.out _ _ (hG.step 1).below (fun _ => ?_)
        exact ih none (some W.heap.size) none (some b7) none _ (by simp only [cnt, Option.isNone, Bool.toNat_true, Bool.toNat_false] at hc ⊢; omega) (hG.step 1)
      · go_simp
        refine hK.out _ _ (hG.step 2).below (fun _ => ?_)
        exact ih none none (some W.heap.size) (some b7) none _ (by simp only [cnt, Option.isNone, Bool.toNat_true, Bool.toNat_false] at hc ⊢; omega) (hG.step 2)
      · go_simp
        refine hK.out _ _ (hG.step 4).below (fun _ => ?_)
        exact ih none none none (some b7) (some W.heap.size) _ (by simp only [cnt, Option.isNone, Bool.toNat_true, Bool.toNat_false] at hc ⊢; omega) (hG.step 4)
    · dsimp only [va, Option.isSome]
      refine wpAnyH_ready (rs := [5, 6, 7]) (by kernel_rfl) (by simp) ?_
      refine AllReadyH.cons (o := { dst := some 4, op := Go.Op.alloc 23, type := 0, pos := "law.go:66", after := #[], guard := none }) rfl (fun K hK => ?_) (AllReadyH.cons (o := { dst := some 5, op := Go.Op.alloc 23, type := 0, pos := "law.go:66", after := #[], guard := none }) rfl (fun K hK => ?_) (AllReadyH.cons (o := { dst := some 6, op := Go.Op.alloc 23, type := 0, pos := "law.go:66", after := #[], guard := none }) rfl (fun K hK => ?_) (AllReadyH.nil)))
      · go_simp
        refine hK.out _ _ (hG.step 0).below (fun _ => ?_)
        exact ih (some W.heap.size) none none (some b7) (some b8) _ (by simp only [cnt, Option.isNone, Bool.toNat_true, Bool.toNat_false] at hc ⊢; omega) (hG.step 0)
      · go_simp
        refine hK.out _ _ (hG.step 1).below (fun _ => ?_)
        exact ih none (some W.heap.size) none (some b7) (some b8) _ (by simp only [cnt, Option.isNone, Bool.toNat_true, Bool.toNat_false] at hc ⊢; omega) (hG.step 1)
      · go_simp
        refine hK.out _ _ (hG.step 2).below (fun _ => ?_)
        exact ih none none (some W.heap.size) (some b7) (some b8) _ (by simp only [cnt, Option.isNone, Bool.toNat_true, Bool.toNat_false] at hc ⊢; omega) (hG.step 2)
    · dsimp only [va, Option.isSome]
      refine wpAnyH_ready (rs := [5, 6, 8, 9]) (by kernel_rfl) (by simp) ?_
      refine AllReadyH.cons (o := { dst := some 4, op := Go.Op.alloc 23, type := 0, pos := "law.go:66", after := #[], guard := none }) rfl (fun K hK => ?_) (AllReadyH.cons (o := { dst := some 5, op := Go.Op.alloc 23, type := 0, pos := "law.go:66", after := #[], guard := none }) rfl (fun K hK => ?_) (AllReadyH.cons (o := { dst := some 7, op := Go.Op.alloc 23, type := 0, pos := "law.go:66", after := #[], guard := none }) rfl (fun K hK => ?_) (AllReadyH.cons (o := { dst := some 8, op := Go.Op.alloc 23, type := 0, pos := "law.go:66", after := #[], guard := none }) rfl (fun K hK => ?_) (AllReadyH.nil))))
      · go_simp
        refine hK.out _ _ (hG.step 0).below (fun _ => ?_)
        exact ih (some W.heap.size) none (some b6) none none _ (by simp only [cnt, Option.isNone, Bool.toNat_true, Bool.toNat_false] at hc ⊢; omega) (hG.step 0)
      · go_simp
        refine hK.out _ _ (hG.step 1).below (fun _ => ?_)
        exact ih none (some W.heap.size) (some b6) none none _ (by simp only [cnt, Option.isNone, Bool.toNat_true, Bool.toNat_false] at hc ⊢; omega) (hG.step 1)
      · go_simp
        refine hK.out _ _ (hG.step 3).below (fun _ => ?_)
        exact ih none none (some b6) (some W.heap.size) none _ (by simp only [cnt, Option.isNone, Bool.toNat_true, Bool.toNat_false] at hc ⊢; omega) (hG.step 3)
      · go_simp
        refine hK.out _ _ (hG.step 4).below (fun _ => ?_)
        exact ih none none (some b6) none (some W.heap.size) _ (by simp only [cnt, Option.isNone, Bool.toNat_true, Bool.toNat_false] at hc ⊢; omega) (hG.step 4)
    · dsimp only [va, Option.isSome]
      refine wpAnyH_ready (rs := [5, 6, 8]) (by kernel_rfl) (by simp) ?_
      refine AllReadyH.cons (o := { dst := some 4, op := Go.Op.alloc 23, type := 0, pos := "law.go:66", after := #[], guard := none }) rfl (fun K hK => ?_) (AllReadyH.cons (o := { dst := some 5, op := Go.Op.alloc 23, type := 0, pos := "law.go:66", after := #[], guard := none }) rfl (fun K hK => ?_) (AllReadyH.cons (o := { dst := some 7, op := Go.Op.alloc 23, type := 0, pos := "law.go:66", after := #[], guard := none }) rfl (fun K hK => ?_) (AllReadyH.nil)))
      · go_simp
        refine hK.out _ _ (hG.step 0).below (fun _ => ?_)
        exact ih (some W.heap.size) none (some b6) none (some b8) _ (by simp only [cnt, Option.isNone, Bool.toNat_true, Bool.toNat_false] at hc ⊢; omega) (hG.step 0)
      · go_simp
        refine hK.out _ _ (hG.step 1).below (fun _ => ?_)
        exact ih none (some W.heap.size) (some b6) none (some b8) _ (by simp only [cnt, Option.isNone, Bool.toNat_true, Bool.toNat_false] at hc ⊢; omega) (hG.step 1)
      · go_simp
        refine hK.out _ _ (hG.step 3).below (fun _ => ?_)
        exact ih none none (some b6) (some W.heap.size) (some b8) _ (by simp only [cnt, Option.isNone, Bool.toNat_true, Bool.toNat_false] at hc ⊢; omega) (hG.step 3)
    · dsimp only [va, Option.isSome]
      refine wpAnyH_ready (rs := [5, 6, 9]) (by kernel_rfl) (by simp) ?_
      refine AllReadyH.cons (o := { dst := some 4, op := Go.Op.alloc 23, type := 0, pos := "law.go:66", after := #[], guard := none }) rfl (fun K hK => ?_) (AllReadyH.cons (o := { dst := some 5, op := Go.Op.alloc 23, type := 0, pos := "law.go:66", after := #[], guard := none }) rfl (fun K hK => ?_) (AllReadyH.cons (o := { dst := some 8, op := Go.Op.alloc 23, type := 0, pos := "law.go:66", after := #[], guard := none }) rfl (fun K hK => ?_) (AllReadyH.nil)))
      · go_simp
        refine hK.out _ _ (hG.step 0).below (fun _ => ?_)
        exact ih (some W.heap.size) none (some b6) (some b7) none _ (by simp only [cnt, Option.isNone, Bool.toNat_true, Bool.toNat_false] at hc ⊢; omega) (hG.step 0)
      · go_simp
        refine hK.out _ _ (hG.step 1).below (fun _ => ?_)
        exact ih none (some W.heap.size) (some b6) (some b7) none _ (by simp only [cnt, Option.isNone, Bool.toNat_true, Bool.toNat_false] at hc ⊢; omega) (hG.step 1)
      · go_simp
        refine hK.out _ _ (hG.step 4).below (fun _ => ?_)
        exact ih none none (some b6) (some b7) (some W.heap.size) _ (by simp only [cnt, Option.isNone, Bool.toNat_true, Bool.toNat_false] at hc ⊢; omega) (hG.step 4)
    · dsimp only [va, Option.isSome]
      refine wpAnyH_ready (rs := [5, 6]) (by kernel_rfl) (by simp) ?_
      refine AllReadyH.cons (o := { dst := some 4, op := Go.Op.alloc 23, type := 0, pos := "law.go:66", after := #[], guard := none }) rfl (fun K hK => ?_) (AllReadyH.cons (o := { dst := some 5, op := Go.Op.alloc 23, type := 0, pos := "law.go:66", after := #[], guard := none }) rfl (fun K hK => ?_) (AllReadyH.nil))
      · go_simp
        refine hK.out _ _ (hG.step 0).below (fun _ => ?_)
        exact ih (some W.heap.size) none (some b6) (some b7) (some b8) _ (by simp only [cnt, Option.isNone, Bool.toNat_true, Bool.toNat_false] at hc ⊢; omega) (hG.step 0)
      · go_simp
        refine hK.out _ _ (hG.step 1).below (fun _ => ?_)
        exact ih none (some W.heap.size) (some b6) (some b7) (some b8) _ (by simp only [cnt, Option.isNone, Bool.toNat_true, Bool.toNat_false] at hc ⊢; omega) (hG.step 1)
    · dsimp only [va, Option.isSome]
      refine wpAnyH_ready (rs := [5, 7, 8, 9]) (by kernel_rfl) (by simp) ?_
      refine AllReadyH.cons (o := { dst := some 4, op := Go.Op.alloc 23, type := 0, pos := "law.go:66", after := #[], guard := none }) rfl (fun K hK => ?_) (AllReadyH.cons (o := { dst := some 6, op := Go.Op.alloc 23, type := 0, pos := "law.go:66", after := #[], guard := none }) rfl (fun K hK => ?_) (AllReadyH.cons (o := { dst := some 7, op := Go.Op.alloc 23, type := 0, pos := "law.go:66", after := #[], guard := none }) rfl (fun K hK => ?_) (AllReadyH.cons (o := { dst := some 8, op := Go.Op.alloc 23, type := 0, pos := "law.go:66", after := #[], guard := none }) rfl (fun K hK => ?_) (AllReadyH.nil))))
      · go_simp
        refine hK.out _ _ (hG.step 0).below (fun _ => ?_)
        exact ih (some W.heap.size) (some b5) none none none _ (by simp only [cnt, Option.isNone, Bool.toNat_true, Bool.toNat_false] at hc ⊢; omega) (hG.step 0)
      · go_simp
        refine hK.out _ _ (hG.step 2).below (fun _ => ?_)
        exact ih none (some b5) (some W.heap.size) none none _ (by simp only [cnt, Option.isNone, Bool.toNat_true, Bool.toNat_false] at hc ⊢; omega) (hG.step 2)
      · go_simp
        refine hK.out _ _ (hG.step 3).below (fun _ => ?_)
        exact ih none (some b5) none (some W.heap.size) none _ (by simp only [cnt, Option.isNone, Bool.toNat_true, Bool.toNat_false] at hc ⊢; omega) (hG.step 3)
      · go_simp
        refine hK.out _ _ (hG.step 4).below (fun _ => ?_)
        exact ih none (some b5) none none (some W.heap.size) _ (by simp only [cnt, Option.isNone, Bool.toNat_true, Bool.toNat_false] at hc ⊢; omega) (hG.step 4)
    · dsimp only [va, Option.isSome]
      refine wpAnyH_ready (rs := [5, 7, 8]) (by kernel_rfl) (by simp) ?_
      refine AllReadyH.cons (o := { dst := some 4, op := Go.Op.alloc 23, type := 0, pos := "law.go:66", after := #[], guard := none }) rfl (fun K hK => ?_) (AllReadyH.cons (o := { dst := some 6, op := Go.Op.alloc 23, type := 0, pos := "law.go:66", after := #[], guard := none }) rfl (fun K hK => ?_) (AllReadyH.cons (o := { dst := some 7, op := Go.Op.alloc 23, type := 0, pos := "law.go:66", after := #[], guard := none }) rfl (fun K hK => ?_) (AllReadyH.nil)))
      · go_simp
        refine hK.out _ _ (hG.step 0).below (fun _ => ?_)
        exact ih (some W.heap.size) (some b5) none none (some b8) _ (by simp only [cnt, Option.isNone, Bool.toNat_true, Bool.toNat_false] at hc ⊢; omega) (hG.step 0)
      · go_simp
        refine hK.out _ _ (hG.step 2).below (fun _ => ?_)
        exact ih none (some b5) (some W.heap.size) none (some b8) _ (by simp only [cnt, Option.isNone, Bool.toNat_true, Bool.toNat_false] at hc ⊢; omega) (hG.step 2)
      · go_simp
        refine hK.out _ _ (hG.step 3).below (fun _ => ?_)
        exact ih none (some b5) none (some W.heap.size) (some b8) _ (by simp only [cnt, Option.isNone, Bool.toNat_true, Bool.toNat_false] at hc ⊢; omega) (hG.step 3)
    · dsimp only [va, Option.isSome]
      refine wpAnyH_ready (rs := [5, 7, 9]) (by kernel_rfl) (by simp) ?_
      refine AllReadyH.cons (o := { dst := some 4, op := Go.Op.alloc 23, type := 0, pos := "law.go:66", after := #[], guard := none }) rfl (fun K hK => ?_) (AllReadyH.cons (o := { dst := some 6, op := Go.Op.alloc 23, type := 0, pos := "law.go:66", after := #[], guard := none }) rfl (fun K hK => ?_) (AllReadyH.cons (o := { dst := some 8, op := Go.Op.alloc 23, type := 0, pos := "law.go:66", after := #[], guard := none }) rfl (fun K hK => ?_) (AllReadyH.nil)))
      · go_simp
        refine hK.out _ _ (hG.step 0).below (fun _ => ?_)
        exact ih (some W.heap.size) (some b5) none (some b7) none _ (by simp only [cnt, Option.isNone, Bool.toNat_true, Bool.toNat_false] at hc ⊢; omega) (hG.step 0)
      · go_simp
        refine hK.out _ _ (hG.step 2).below (fun _ => ?_)
        exact ih none (some b5) (some W.heap.size) (some b7) none _ (by simp only [cnt, Option.isNone, Bool.toNat_true, Bool.toNat_false] at hc ⊢; omega) (hG.step 2)
      · go_simp
        refine hK.out _ _ (hG.step 4).below (fun _ => ?_)
        exact ih none (some b5) none (some b7) (some W.heap.size) _ (by simp only [cnt, Option.isNone, Bool.toNat_true, Bool.toNat_false] at hc ⊢; omega) (hG.step 4)
    · dsimp only [va, Option.isSome]
      refine wpAnyH_ready (rs := [5, 7]) (by kernel_rfl) (by simp) ?_
      refine AllReadyH.cons (o := { dst := some 4, op := Go.Op.alloc 23, type := 0, pos := "law.go:66", after := #[], guard := none }) rfl (fun K hK => ?_) (AllReadyH.cons (o := { dst := some 6, op := Go.Op.alloc 23, type := 0, pos := "law.go:66", after := #[], guard := none }) rfl (fun K hK => ?_) (AllReadyH.nil))
      · go_simp
        refine hK.out _ _ (hG.step 0).below (fun _ => ?_)
        exact ih (some W.heap.size) (some b5) none (some b7) (some b8) _ (by simp only [cnt, Option.isNone, Bool.toNat_true, Bool.toNat_false] at hc ⊢; omega) (hG.step 0)
      · go_simp
        refine hK.out _ _ (hG.step 2).below (fun _ => ?_)
        exact ih none (some b5) (some W.heap.size) (some b7) (some b8) _ (by simp only [cnt, Option.isNone, Bool.toNat_true, Bool.toNat_false] at hc ⊢; omega) (hG.step 2)
    · dsimp only [va, Option.isSome]
      refine wpAnyH_ready (rs := [5, 8, 9]) (by kernel_rfl) (by simp) ?_
      refine AllReadyH.cons (o := { dst := some 4, op := Go.Op.alloc 23, type := 0, pos := "law.go:66", after := #[], guard := none }) rfl (fun K hK => ?_) (AllReadyH.cons (o := { dst := some 7, op := Go.Op.alloc 23, type := 0, pos := "law.go:66", after := #[], guard := none }) rfl (fun K hK => ?_) (AllReadyH.cons (o := { dst := some 8, op := Go.Op.alloc 23, type := 0, pos := "law.go:66", after := #[], guard := none }) rfl (fun K hK => ?_) (AllReadyH.nil)))
      · go_simp
        refine hK.out _ _ (hG.step 0).below (fun _ => ?_)
        exact ih (some W.heap.size) (some b5) (some b6) none none _ (by simp only [cnt, Option.isNone, Bool.toNat_true, Bool.toNat_false] at hc ⊢; omega) (hG.step 0)
      · go_simp
        refine hK.out _ _ (hG.step 3).below (fun _ => ?_)
        exact ih none (some b5) (some b6) (some W.heap.size) none _ (by simp only [cnt, Option.isNone, Bool.toNat_true, Bool.toNat_false] at hc ⊢; omega) (hG.step 3)
      · go_simp
        refine hK.out _ _ (hG.step 4).below (fun _ => ?_)
        exact ih none (some b5) (some b6) none (some W.heap.size) _ (by simp only [cnt, Option.isNone, Bool.toNat_true, Bool.toNat_false] at hc ⊢; omega) (hG.step 4)
    · dsimp only [va, Option.isSome]
      refine wpAnyH_ready (rs := [5, 8]) (by kernel_rfl) (by simp) ?_
      refine AllReadyH.cons (o := { dst := some 4, op := Go.Op.alloc 23, type := 0, pos := "law.go:66", after := #[], guard := none }) rfl (fun K hK => ?_) (AllReadyH.cons (o := { dst := some 7, op := Go.Op.alloc 23, type := 0, pos := "law.go:66", after := #[], guard := none }) rfl (fun K hK => ?_) (AllReadyH.nil))
      · go_simp
        refine hK.out _ _ (hG.step 0).below (fun _ => ?_)
        exact ih (some W.heap.size) (some b5) (some b6) none (some b8) _ (by simp only [cnt, Option.isNone, Bool.toNat_true, Bool.toNat_false] at hc ⊢; omega) (hG.step 0)
      · go_simp
        refine hK.out _ _ (hG.step 3).below (fun _ => ?_)
        exact ih none (some b5) (some b6) (some W.heap.size) (some b8) _ (by simp only [cnt, Option.isNone, Bool.toNat_true, Bool.toNat_false] at hc ⊢; omega) (hG.step 3)
    · dsimp only [va, Option.isSome]
      refine wpAnyH_ready (rs := [5, 9]) (by kernel_rfl) (by simp) ?_
      refine AllReadyH.cons (o := { dst := some 4, op := Go.Op.alloc 23, type := 0, pos := "law.go:66", after := #[], guard := none }) rfl (fun K hK => ?_) (AllReadyH.cons (o := { dst := some 8, op := Go.Op.alloc 23, type := 0, pos := "law.go:66", after := #[], guard := none }) rfl (fun K hK => ?_) (AllReadyH.nil))
      · go_simp
        refine hK.out _ _ (hG.step 0).below (fun _ => ?_)
        exact ih (some W.heap.size) (some b5) (some b6) (some b7) none _ (by simp only [cnt, Option.isNone, Bool.toNat_true, Bool.toNat_false] at hc ⊢; omega) (hG.step 0)
      · go_simp
        refine hK.out _ _ (hG.step 4).below (fun _ => ?_)
        exact ih none (some b5) (some b6) (some b7) (some W.heap.size) _ (by simp only [cnt, Option.isNone, Bool.toNat_true, Bool.toNat_false] at hc ⊢; omega) (hG.step 4)
    · dsimp only [va, Option.isSome]
      refine wpAnyH_ready (rs := [5]) (by kernel_rfl) (by simp) ?_
      refine AllReadyH.cons (o := { dst := some 4, op := Go.Op.alloc 23, type := 0, pos := "law.go:66", after := #[], guard := none }) rfl (fun K hK => ?_) (AllReadyH.nil)
      · go_simp
        refine hK.out _ _ (hG.step 0).below (fun _ => ?_)
        exact ih (some W.heap.size) (some b5) (some b6) (some b7) (some b8) _ (by simp only [cnt, Option.isNone, Bool.toNat_true, Bool.toNat_false] at hc ⊢; omega) (hG.step 0)
    · dsimp only [va, Option.isSome]
      refine wpAnyH_ready (rs := [6, 7, 8, 9]) (by kernel_rfl) (by simp) ?_
      refine AllReadyH.cons (o := { dst := some 5, op := Go.Op.alloc 23, type := 0, pos := "law.go:66", after := #[], guard := none }) rfl (fun K hK => ?_) (AllReadyH.cons (o := { dst := some 6, op := Go.Op.alloc 23, type := 0, pos := "law.go:66", after := #[], guard := none }) rfl (fun K hK => ?_) (AllReadyH.cons (o := { dst := some 7, op := Go.Op.alloc 23, type := 0, pos := "law.go:66", after := #[], guard := none }) rfl (fun K hK => ?_) (AllReadyH.cons (o := { dst := some 8, op := Go.Op.alloc 23, type := 0, pos := "law.go:66", after := #[], guard := none }) rfl (fun K hK => ?_) (AllReadyH.nil))))
      · go_simp
        refine hK.out _ _ (hG.step 1).below (fun _ => ?_)
        exact ih (some b4) (some W.heap.size) none none none _ (by simp only [cnt, Option.isNone, Bool.toNat_true, Bool.toNat_false] at hc ⊢; omega) (hG.step 1)
      · go_simp
        refine hK.out _ _ (hG.step 2).below (fun _ => ?_)
        exact ih (some b4) none (some W.heap.size) none none _ (by simp only [cnt, Option.isNone, Bool.toNat_true, Bool.toNat_false] at hc ⊢; omega) (hG.step 2)
      · go_simp
        refine hK.out _ _ (hG.step 3).below (fun _ => ?_)
        exact ih (some b4) none none (some W.heap.size) none _ (by simp only [cnt, Option.isNone, Bool.toNat_true, Bool.toNat_false] at hc ⊢; omega) (hG.step 3)
      · go_simp
        refine hK.out _ _ (hG.step 4).below (fun _ => ?_)
        exact ih (some b4) none none none (some W.heap.size) _ (by simp only [cnt, Option.isNone, Bool.toNat_true, Bool.toNat_false] at hc ⊢; omega) (hG.step 4)
    · dsimp only [va, Option.isSome]
      refine wpAnyH_ready (rs := [6, 7, 8]) (by kernel_rfl) (by simp) ?_
      refine AllReadyH.cons (o := { dst := some 5, op := Go.Op.alloc 23, type := 0, pos := "law.go:66", after := #[], guard := none }) rfl (fun K hK => ?_) (AllReadyH.cons (o := { dst := some 6, op := Go.Op.alloc 23, type := 0, pos := "law.go:66", after := #[], guard := none }) rfl (fun K hK => ?_) (AllReadyH.cons (o := { dst := some 7, op := Go.Op.alloc 23, type := 0, pos := "law.go:66", after := #[], guard := none }) rfl (fun K hK => ?_) (AllReadyH.nil)))
      · go_simp
        refine hK.out _ _ (hG.step 1).below (fun _ => ?_)
        exact ih (some b4) (some W.heap.size) none none (some b8) _ (by simp only [cnt, Option.isNone, Bool.toNat_true, Bool.toNat_false] at hc ⊢; omega) (hG.step 1)
      · go_simp
        refine hK.out _ _ (hG.step 2).below (fun _ => ?_)
        exact ih (some b4) none (some W.heap.size) none (some b8) _ (by simp only [cnt, Option.isNone, Bool.toNat_true, Bool.toNat_false] at hc ⊢; omega) (hG.step 2)
      · go_simp
        refine hK.out _ _ (hG.step 3).below (fun _ => ?_)
        exact ih (some b4) none none (some W.heap.size) (some b8) _ (by simp only [cnt, Option.isNone, Bool.toNat_true, Bool.toNat_false] at hc ⊢; omega) (hG.step 3)
    · dsimp only [va, Option.isSome]
      refine wpAnyH_ready (rs := [6, 7, 9]) (by kernel_rfl) (by simp) ?_
      refine AllReadyH.cons (o := { dst := some 5, op := Go.Op.alloc 23, type := 0, pos := "law.go:66", after := #[], guard := none }) rfl (fun K hK => ?_) (AllReadyH.cons (o := { dst := some 6, op := Go.Op.alloc 23, type := 0, pos := "law.go:66", after := #[], guard := none }) rfl (fun K hK => ?_) (AllReadyH.cons (o := { dst := some 8, op := Go.Op.alloc 23, type := 0, pos := "law.go:66", after := #[], guard := none }) rfl (fun K hK => ?_) (AllReadyH.nil)))
      · go_simp
        refine hK.out _ _ (hG.step 1).below (fun _ => ?_)
        exact ih (some b4) (some W.heap.size) none (some b7) none _ (by simp only [cnt, Option.isNone, Bool.toNat_true, Bool.toNat_false] at hc ⊢; omega) (hG.step 1)
      · go_simp
        refine hK.out _ _ (hG.step 2).below (fun _ => ?_)
        exact ih (some b4) none (some W.heap.size) (some b7) none _ (by simp only [cnt, Option.isNone, Bool.toNat_true, Bool.toNat_false] at hc ⊢; omega) (hG.step 2)
      · go_simp
        refine hK.out _ _ (hG.step 4).below (fun _ => ?_)
        exact ih (some b4) none none (some b7) (some W.heap.size) _ (by simp only [cnt, Option.isNone, Bool.toNat_true, Bool.toNat_false] at hc ⊢; omega) (hG.step 4)
    · dsimp only [va, Option.isSome]
      refine wpAnyH_ready (rs := [6, 7]) (by kernel_rfl) (by simp) ?_
      refine AllReadyH.cons (o := { dst := some 5, op := Go.Op.alloc 23, type := 0, pos := "law.go:66", after := #[], guard := none }) rfl (fun K hK => ?_) (AllReadyH.cons (o := { dst := some 6, op := Go.Op.alloc 23, type := 0, pos := "law.go:66", after := #[], guard := none }) rfl (fun K hK => ?_) (AllReadyH.nil))
      · go_simp
        refine hK.out _ _ (hG.step 1).below (fun _ => ?_)
        exact ih (some b4) (some W.heap.size) none (some b7) (some b8) _ (by simp only [cnt, Option.isNone, Bool.toNat_true, Bool.toNat_false] at hc ⊢; omega) (hG.step 1)
      · go_simp
        refine hK.out _ _ (hG.step 2).below (fun _ => ?_)
        exact ih (some b4) none (some W.heap.size) (some b7) (some b8) _ (by simp only [cnt, Option.isNone, Bool.toNat_true, Bool.toNat_false] at hc ⊢; omega) (hG.step 2)
    · dsimp only [va, Option.isSome]
      refine wpAnyH_ready (rs := [6, 8, 9]) (by kernel_rfl) (by simp) ?_
      refine AllReadyH.cons (o := { dst := some 5, op := Go.Op.alloc 23, type := 0, pos := "law.go:66", after := #[], guard := none }) rfl (fun K hK => ?_) (AllReadyH.cons (o := { dst := some 7, op := Go.Op.alloc 23, type := 0, pos := "law.go:66", after := #[], guard := none }) rfl (fun K hK => ?_) (AllReadyH.cons (o := { dst := some 8, op := Go.Op.alloc 23, type := 0, pos := "law.go:66", after := #[], guard := none }) rfl (fun K hK => ?_) (AllReadyH.nil)))
      · go_simp
        refine hK.out _ _ (hG.step 1).below (fun _ => ?_)
        exact ih (some b4) (some W.heap.size) (some b6) none none _ (by simp only [cnt, Option.isNone, Bool.toNat_true, Bool.toNat_false] at hc ⊢; omega) (hG.step 1)
      · go_simp
        refine hK.out _ _ (hG.step 3).below (fun _ => ?_)
        exact ih (some b4) none (some b6) (some W.heap.size) none _ (by simp only [cnt, Option.isNone, Bool.toNat_true, Bool.toNat_false] at hc ⊢; omega) (hG.step 3)
      · go_simp
        refine hK.out _ _ (hG.step 4).below (fun _ => ?_)
        exact ih (some b4) none (some b6) none (some W.heap.size) _ (by simp only [cnt, Option.isNone, Bool.toNat_true, Bool.toNat_false] at hc ⊢; omega) (hG.step 4)
    · dsimp only [va, Option.isSome]
      refine wpAnyH_ready (rs := [6, 8]) (by kernel_rfl) (by simp) ?_
      refine AllReadyH.cons (o := { dst := some 5, op := Go.Op.alloc 23, type := 0, pos := "law.go:66", after := #[], guard := none }) rfl (fun K hK => ?_) (AllReadyH.cons (o := { dst := some 7, op := Go.Op.alloc 23, type := 0, pos := "law.go:66", after := #[], guard := none }) rfl (fun K hK => ?_) (AllReadyH.nil))
      · go_simp
        refine hK.out _ _ (hG.step 1).below (fun _ => ?_)
        exact ih (some b4) (some W.heap.size) (some b6) none (some b8) _ (by simp only [cnt, Option.isNone, Bool.toNat_true, Bool.toNat_false] at hc ⊢; omega) (hG.step 1)
      · go_simp
        refine hK.out _ _ (hG.step 3).below (fun _ => ?_)
        exact ih (some b4) none (some b6) (some W.heap.size) (some b8) _ (by simp only [cnt, Option.isNone, Bool.toNat_true, Bool.toNat_false] at hc ⊢; omega) (hG.step 3)
    · dsimp only [va, Option.isSome]
      refine wpAnyH_ready (rs := [6, 9]) (by kernel_rfl) (by simp) ?_
      refine AllReadyH.cons (o := { dst := some 5, op := Go.Op.alloc 23, type := 0, pos := "law.go:66", after := #[], guard := none }) rfl (fun K hK => ?_) (AllReadyH.cons (o := { dst := some 8, op := Go.Op.alloc 23, type := 0, pos := "law.go:66", after := #[], guard := none }) rfl (fun K hK => ?_) (AllReadyH.nil))
      · go_simp
        refine hK.out _ _ (hG.step 1).below (fun _ => ?_)
        exact ih (some b4) (some W.heap.size) (some b6) (some b7) none _ (by simp only [cnt, Option.isNone, Bool.toNat_true, Bool.toNat_false] at hc ⊢; omega) (hG.step 1)
      · go_simp
        refine hK.out _ _ (hG.step 4).below (fun _ => ?_)
        exact ih (some b4) none (some b6) (some b7) (some W.heap.size) _ (by simp only [cnt, Option.isNone, Bool.toNat_true, Bool.toNat_false] at hc ⊢; omega) (hG.step 4)
    · dsimp only [va, Option.isSome]
      refine wpAnyH_ready (rs := [6]) (by kernel_rfl) (by simp) ?_
      refine AllReadyH.cons (o := { dst := some 5, op := Go.Op.alloc 23, type := 0, pos := "law.go:66", after := #[], guard := none }) rfl (fun K hK => ?_) (AllReadyH.nil)
      · go_simp
        refine hK.out _ _ (hG.step 1).below (fun _ => ?_)
        exact ih (some b4) (some W.heap.size) (some b6) (some b7) (some b8) _ (by simp only [cnt, Option.isNone, Bool.toNat_true, Bool.toNat_false] at hc ⊢; omega) (hG.step 1)
    · dsimp only [va, Option.isSome]
      refine wpAnyH_ready (rs := [7, 8, 9]) (by kernel_rfl) (by simp) ?_
      refine AllReadyH.cons (o := { dst := some 6, op := Go.Op.alloc 23, type := 0, pos := "law.go:66", after := #[], guard := none }) rfl (fun K hK => ?_) (AllReadyH.cons (o := { dst := some 7, op := Go.Op.alloc 23, type := 0, pos := "law.go:66", after := #[], guard := none }) rfl (fun K hK => ?_) (AllReadyH.cons (o := { dst := some 8, op := Go.Op.alloc 23, type := 0, pos := "law.go:66", after := #[], guard := none }) rfl (fun K hK => ?_) (AllReadyH.nil)))
      · go_simp
        refine hK.out _ _ (hG.step 2).below (fun _ => ?_)
        exact ih (some b4) (some b5) (some W.heap.size) none none _ (by simp only [cnt, Option.isNone, Bool.toNat_true, Bool.toNat_false] at hc ⊢; omega) (hG.step 2)
      · go_simp
        refine hK.out _ _ (hG.step 3).below (fun _ => ?_)
        exact ih (some b4) (some b5) none (some W.heap.size) none _ (by simp only [cnt, Option.isNone, Bool.toNat_true, Bool.toNat_false] at hc ⊢; omega) (hG.step 3)
      · go_simp
        refine hK.out _ _ (hG.step 4).below (fun _ => ?_)
        exact ih (some b4) (some b5) none none (some W.heap.size) _ (by simp only [cnt, Option.isNone, Bool.toNat_true, Bool.toNat_false] at hc ⊢; omega) (hG.step 4)
    · dsimp only [va, Option.isSome]
      refine wpAnyH_ready (rs := [7, 8]) (by kernel_rfl) (by simp) ?_
      refine AllReadyH.cons (o := { dst := some 6, op := Go.Op.alloc 23, type := 0, pos := "law.go:66", after := #[], guard := none }) rfl (fun K hK => ?_) (AllReadyH.cons (o := { dst := some 7, op := Go.Op.alloc 23, type := 0, pos := "law.go:66", after := #[], guard := none }) rfl (fun K hK => ?_) (AllReadyH.nil))
      · go_simp
        refine hK.out _ _ (hG.step 2).below (fun _ => ?_)
        exact ih (some b4) (some b5) (some W.heap.size) none (some b8) _ (by simp only [cnt, Option.isNone, Bool.toNat_true, Bool.toNat_false] at hc ⊢; omega) (hG.step 2)
      · go_simp
        refine hK.out _ _ (hG.step 3).below (fun _ => ?_)
        exact ih (some b4) (some b5) none (some W.heap.size) (some b8) _ (by simp only [cnt, Option.isNone, Bool.toNat_true, Bool.toNat_false] at hc ⊢; omega) (hG.step 3)
    · dsimp only [va, Option.isSome]
      refine wpAnyH_ready (rs := [7, 9]) (by kernel_rfl) (by simp) ?_
      refine AllReadyH.cons (o := { dst := some 6, op := Go.Op.alloc 23, type := 0, pos := "law.go:66", after := #[], guard := none }) rfl (fun K hK => ?_) (AllReadyH.cons (o := { dst := some 8, op := Go.Op.alloc 23, type := 0, pos := "law.go:66", after := #[], guard := none }) rfl (fun K hK => ?_) (AllReadyH.nil))
      · go_simp
        refine hK.out _ _ (hG.step 2).below (fun _ => ?_)
        exact ih (some b4) (some b5) (some W.heap.size) (some b7) none _ (by simp only [cnt, Option.isNone, Bool.toNat_true, Bool.toNat_false] at hc ⊢; omega) (hG.step 2)
      · go_simp
        refine hK.out _ _ (hG.step 4).below (fun _ => ?_)
        exact ih (some b4) (some b5) none (some b7) (some W.heap.size) _ (by simp only [cnt, Option.isNone, Bool.toNat_true, Bool.toNat_false] at hc ⊢; omega) (hG.step 4)
    · dsimp only [va, Option.isSome]
      refine wpAnyH_ready (rs := [7]) (by kernel_rfl) (by simp) ?_
      refine AllReadyH.cons (o := { dst := some 6, op := Go.Op.alloc 23, type := 0, pos := "law.go:66", after := #[], guard := none }) rfl (fun K hK => ?_) (AllReadyH.nil)
      · go_simp
        refine hK.out _ _ (hG.step 2).below (fun _ => ?_)
        exact ih (some b4) (some b5) (some W.heap.size) (some b7) (some b8) _ (by simp only [cnt, Option.isNone, Bool.toNat_true, Bool.toNat_false] at hc ⊢; omega) (hG.step 2)
    · dsimp only [va, Option.isSome]
      refine wpAnyH_ready (rs := [8, 9]) (by kernel_rfl) (by simp) ?_
      refine AllReadyH.cons (o := { dst := some 7, op := Go.Op.alloc 23, type := 0, pos := "law.go:66", after := #[], guard := none }) rfl (fun K hK => ?_) (AllReadyH.cons (o := { dst := some 8, op := Go.Op.alloc 23, type := 0, pos := "law.go:66", after := #[], guard := none }) rfl (fun K hK => ?_) (AllReadyH.nil))
      · go_simp
        refine hK.out _ _ (hG.step 3).below (fun _ => ?_)
        exact ih (some b4) (some b5) (some b6) (some W.heap.size) none _ (by simp only [cnt, Option.isNone, Bool.toNat_true, Bool.toNat_false] at hc ⊢; omega) (hG.step 3)
      · go_simp
        refine hK.out _ _ (hG.step 4).below (fun _ => ?_)
        exact ih (some b4) (some b5) (some b6) none (some W.heap.size) _ (by simp only [cnt, Option.isNone, Bool.toNat_true, Bool.toNat_false] at hc ⊢; omega) (hG.step 4)
    · dsimp only [va, Option.isSome]
      refine wpAnyH_ready (rs := [8]) (by kernel_rfl) (by simp) ?_
      refine AllReadyH.cons (o := { dst := some 7, op := Go.Op.alloc 23, type := 0, pos := "law.go:66", after := #[], guard := none }) rfl (fun K hK => ?_) (AllReadyH.nil)
      · go_simp
        refine hK.out _ _ (hG.step 3).below (fun _ => ?_)
        exact ih (some b4) (some b5) (some b6) (some W.heap.size) (some b8) _ (by simp only [cnt, Option.isNone, Bool.toNat_true, Bool.toNat_false] at hc ⊢; omega) (hG.step 3)
    · dsimp only [va, Option.isSome]
      refine wpAnyH_ready (rs := [9]) (by kernel_rfl) (by simp) ?_
      refine AllReadyH.cons (o := { dst := some 8, op := Go.Op.alloc 23, type := 0, pos := "law.go:66", after := #[], guard := none }) rfl (fun K hK => ?_) (AllReadyH.nil)
      · go_simp
        refine hK.out _ _ (hG.step 4).below (fun _ => ?_)
        exact ih (some b4) (some b5) (some b6) (some b7) (some W.heap.size) _ (by simp only [cnt, Option.isNone, Bool.toNat_true, Bool.toNat_false] at hc ⊢; omega) (hG.step 4)
    · exact absurd hc (by simp [cnt])
  case hend =>
    intro b4 b5 b6 b7 b8 W hG
    dsimp only [va, Option.isSome, sv, ptr]
    have hHeld := hG.below
    have Lb4 : wx.heap.size ≤ b4 := (hG.at_ b4 (by simp)).1
    have Fb4 : Hid (W.heap[b4]? = some (noO 23)) := Lib.hid ((hG.at_ b4 (by simp)).2)
    have Lb5 : wx.heap.size ≤ b5 := (hG.at_ b5 (by simp)).1
    have Fb5 : Hid (W.heap[b5]? = some (noO 23)) := Lib.hid ((hG.at_ b5 (by simp)).2)
    have Lb6 : wx.heap.size ≤ b6 := (hG.at_ b6 (by simp)).1
    have Fb6 : Hid (W.heap[b6]? = some (noO 23)) := Lib.hid ((hG.at_ b6 (by simp)).2)
    have Lb7 : wx.heap.size ≤ b7 := (hG.at_ b7 (by simp)).1
    have Fb7 : Hid (W.heap[b7]? = some (noO 23)) := Lib.hid ((hG.at_ b7 (by simp)).2)
    have Lb8 : wx.heap.size ≤ b8 := (hG.at_ b8 (by simp)).1
    have Fb8 : Hid (W.heap[b8]? = some (noO 23)) := Lib.hid ((hG.at_ b8 (by simp)).2)
    have N01 : b4 ≠ b5 := fun e => by have := hG.apart 0 1 b4 rfl (by rw [e]; rfl); omega
    have N02 : b4 ≠ b6 := fun e => by have := hG.apart 0 2 b4 rfl (by rw [e]; rfl); omega
    have N03 : b4 ≠ b7 := fun e => by have := hG.apart 0 3 b4 rfl (by rw [e]; rfl); omega
    have N04 : b4 ≠ b8 := fun e => by have := hG.apart 0 4 b4 rfl (by rw [e]; rfl); omega
    have N10 : b5 ≠ b4 := fun e => by have := hG.apart 1 0 b5 rfl (by rw [e]; rfl); omega
    have N12 : b5 ≠ b6 := fun e => by have := hG.apart 1 2 b5 rfl (by rw [e]; rfl); omega
    have N13 : b5 ≠ b7 := fun e => by have := hG.apart 1 3 b5 rfl (by rw [e]; rfl); omega
    have N14 : b5 ≠ b8 := fun e => by have := hG.apart 1 4 b5 rfl (by rw [e]; rfl); omega
    have N20 : b6 ≠ b4 := fun e => by have := hG.apart 2 0 b6 rfl (by rw [e]; rfl); omega
    have N21 : b6 ≠ b5 := fun e => by have := hG.apart 2 1 b6 rfl (by rw [e]; rfl); omega
    have N23 : b6 ≠ b7 := fun e => by have := hG.apart 2 3 b6 rfl (by rw [e]; rfl); omega
    have N24 : b6 ≠ b8 := fun e => by have := hG.apart 2 4 b6 rfl (by rw [e]; rfl); omega
    have N30 : b7 ≠ b4 := fun e => by have := hG.apart 3 0 b7 rfl (by rw [e]; rfl); omega
    have N31 : b7 ≠ b5 := fun e => by have := hG.apart 3 1 b7 rfl (by rw [e]; rfl); omega
    have N32 : b7 ≠ b6 := fun e => by have := hG.apart 3 2 b7 rfl (by rw [e]; rfl); omega
    have N34 : b7 ≠ b8 := fun e => by have := hG.apart 3 4 b7 rfl (by rw [e]; rfl); omega
    have N40 : b8 ≠ b4 := fun e => by have := hG.apart 4 0 b8 rfl (by rw [e]; rfl); omega
    have N41 : b8 ≠ b5 := fun e => by have := hG.apart 4 1 b8 rfl (by rw [e]; rfl); omega
    have N42 : b8 ≠ b6 := fun e => by have := hG.apart 4 2 b8 rfl (by rw [e]; rfl); omega
    have N43 : b8 ≠ b7 := fun e => by have := hG.apart 4 3 b8 rfl (by rw [e]; rfl); omega
    clear hG
    obtain ⟨z0, z1, z2, z3, z4, z5, z6, z7⟩ := no_frees Fb4.out
    obtain ⟨y0, y1, y2, y3, y4, y5, y6, y7⟩ := no_cells Fb4.out
    refine wpAnyH_ready (rs := [10]) (by kernel_rfl) (by simp) ?_
    refine AllReadyH.cons (o := { dst := none, op := Go.Op.store 23 (Go.Operand.tmp 4) (Go.Operand.tmp 11), type := 0, pos := "law.go:66", after := #[{ on := 5, ground := Go.Ground.data }, { on := 0, ground := Go.Ground.data }, { on := 0, ground := Go.Ground.phase }, { on := 1, ground := Go.Ground.textOnly Go.Departure.lateStores }, { on := 2, ground := Go.Ground.textOnly Go.Departure.lateStores }, { on := 3, ground := Go.Ground.textOnly Go.Departure.lateStores }, { on := 4, ground := Go.Ground.textOnly Go.Departure.lateStores }, { on := 5, ground := Go.Ground.phase }, { on := 6, ground := Go.Ground.phase }, { on := 7, ground := Go.Ground.phase }, { on := 8, ground := Go.Ground.phase }, { on := 9, ground := Go.Ground.phase }], guard := none }) rfl (fun K hK => ?_) AllReadyH.nil
    go_simp
    refine hK.out _ _ (set8 hHeld Lb4 _ _ _ _ _ _ _ _) (fun hNext => ?_)
    clear hK K hHeld
    have hHeld := hNext
    clear hNext
    (try simp only [List.setIfInBounds_toArray, List.set_cons_zero, List.set_cons_succ])
    clear z0 z1 z2 z3 z4 z5 z6 z7 y0 y1 y2 y3 y4 y5 y6 y7
    have Gb4 : Hid (((((((((W.setCell ⟨b4, 0, none⟩ (.int .u8 (d : Int))).setCell ⟨b4, 1, none⟩ (.bool f)).setCell ⟨b4, 2, none⟩ (.bool c)).setCell ⟨b4, 3, none⟩ (.bool r)).setCell ⟨b4, 4, none⟩ (.bool i)).setCell ⟨b4, 5, none⟩ (.bool v)).setCell ⟨b4, 6, none⟩ (.bool b)).setCell ⟨b4, 7, none⟩ (.int .u8 (k : Int))).heap[b4]? = some (sO ⟨d, f, c, r, i, v, b, k⟩ 23)) := Lib.hid (set8_at Fb4.out _ _ _ _ _ _ _ _)
    have Gb5 : Hid (((((((((W.setCell ⟨b4, 0, none⟩ (.int .u8 (d : Int))).setCell ⟨b4, 1, none⟩ (.bool f)).setCell ⟨b4, 2, none⟩ (.bool c)).setCell ⟨b4, 3, none⟩ (.bool r)).setCell ⟨b4, 4, none⟩ (.bool i)).setCell ⟨b4, 5, none⟩ (.bool v)).setCell ⟨b4, 6, none⟩ (.bool b)).setCell ⟨b4, 7, none⟩ (.int .u8 (k : Int))).heap[b5]? = some (noO 23)) := Lib.hid ((set8_other N10 _ _ _ _ _ _ _ _).trans Fb5.out)
    have Gb6 : Hid (((((((((W.setCell ⟨b4, 0, none⟩ (.int .u8 (d : Int))).setCell ⟨b4, 1, none⟩ (.bool f)).setCell ⟨b4, 2, none⟩ (.bool c)).setCell ⟨b4, 3, none⟩ (.bool r)).setCell ⟨b4, 4, none⟩ (.bool i)).setCell ⟨b4, 5, none⟩ (.bool v)).setCell ⟨b4, 6, none⟩ (.bool b)).setCell ⟨b4, 7, none⟩ (.int .u8 (k : Int))).heap[b6]? = some (noO 23)) := Lib.hid ((set8_other N20 _ _ _ _ _ _ _ _).trans Fb6.out)
    have Gb7 : Hid (((((((((W.setCell ⟨b4, 0, none⟩ (.int .u8 (d : Int))).setCell ⟨b4, 1, none⟩ (.bool f)).setCell ⟨b4, 2, none⟩ (.bool c)).setCell ⟨b4, 3, none⟩ (.bool r)).setCell ⟨b4, 4, none⟩ (.bool i)).setCell ⟨b4, 5, none⟩ (.bool v)).setCell ⟨b4, 6, none⟩ (.bool b)).setCell ⟨b4, 7, none⟩ (.int .u8 (k : Int))).heap[b7]? = some (noO 23)) := Lib.hid ((set8_other N30 _ _ _ _ _ _ _ _).trans Fb7.out)
    have Gb8 : Hid (((((((((W.setCell ⟨b4, 0, none⟩ (.int .u8 (d : Int))).setCell ⟨b4, 1, none⟩ (.bool f)).setCell ⟨b4, 2, none⟩ (.bool c)).setCell ⟨b4, 3, none⟩ (.bool r)).setCell ⟨b4, 4, none⟩ (.bool i)).setCell ⟨b4, 5, none⟩ (.bool v)).setCell ⟨b4, 6, none⟩ (.bool b)).setCell ⟨b4, 7, none⟩ (.int .u8 (k : Int))).heap[b8]? = some (noO 23)) := Lib.hid ((set8_other N40 _ _ _ _ _ _ _ _).trans Fb8.out)
    clear Fb4 Fb5 Fb6 Fb7 Fb8
    generalize ((((((((W.setCell ⟨b4, 0, none⟩ (.int .u8 (d : Int))).setCell ⟨b4, 1, none⟩ (.bool f)).setCell ⟨b4, 2, none⟩ (.bool c)).setCell ⟨b4, 3, none⟩ (.bool r)).setCell ⟨b4, 4, none⟩ (.bool i)).setCell ⟨b4, 5, none⟩ (.bool v)).setCell ⟨b4, 6, none⟩ (.bool b)).setCell ⟨b4, 7, none⟩ (.int .u8 (k : Int))) = W1 at *
    have Fb4 := Gb4
    have Fb5 := Gb5
    have Fb6 := Gb6
    have Fb7 := Gb7
    have Fb8 := Gb8
    clear Gb4 Gb5 Gb6 Gb7 Gb8
    obtain ⟨z0, z1, z2, z3, z4, z5, z6, z7⟩ := no_frees Fb5.out
    obtain ⟨y0, y1, y2, y3, y4, y5, y6, y7⟩ := no_cells Fb5.out
    refine wpAnyH_ready (rs := [11]) (by kernel_rfl) (by simp) ?_
    refine AllReadyH.cons (o := { dst := none, op := Go.Op.store 23 (Go.Operand.tmp 5) (Go.Operand.tmp 12), type := 0, pos := "law.go:66", after := #[{ on := 6, ground := Go.Ground.data }, { on := 1, ground := Go.Ground.data }, { on := 10, ground := Go.Ground.chain }, { on := 0, ground := Go.Ground.phase }, { on := 1, ground := Go.Ground.phase }, { on := 2, ground := Go.Ground.textOnly Go.Departure.lateStores }, { on := 3, ground := Go.Ground.textOnly Go.Departure.lateStores }, { on := 4, ground := Go.Ground.textOnly Go.Departure.lateStores }, { on := 5, ground := Go.Ground.phase }, { on := 6, ground := Go.Ground.phase }, { on := 7, ground := Go.Ground.phase }, { on := 8, ground := Go.Ground.phase }, { on := 9, ground := Go.Ground.phase }, { on := 10, ground := Go.Ground.phase }], guard := none }) rfl (fun K hK => ?_) AllReadyH.nil
    go_simp
    refine hK.out _ _ (set8 hHeld Lb5 _ _ _ _ _ _ _ _) (fun hNext => ?_)
    clear hK K hHeld
    have hHeld := hNext
    clear hNext
    (try simp only [List.setIfInBounds_toArray, List.set_cons_zero, List.set_cons_succ])
    clear z0 z1 z2 z3 z4 z5 z6 z7 y0 y1 y2 y3 y4 y5 y6 y7
    have Gb4 : Hid (((((((((W1.setCell ⟨b5, 0, none⟩ (.int .u8 (d : Int))).setCell ⟨b5, 1, none⟩ (.bool f)).setCell ⟨b5, 2, none⟩ (.bool c)).setCell ⟨b5, 3, none⟩ (.bool r)).setCell ⟨b5, 4, none⟩ (.bool i)).setCell ⟨b5, 5, none⟩ (.bool v)).setCell ⟨b5, 6, none⟩ (.bool b)).setCell ⟨b5, 7, none⟩ (.int .u8 (k : Int))).heap[b4]? = some (sO ⟨d, f, c, r, i, v, b, k⟩ 23)) := Lib.hid ((set8_other N01 _ _ _ _ _ _ _ _).trans Fb4.out)
    have Gb5 : Hid (((((((((W1.setCell ⟨b5, 0, none⟩ (.int .u8 (d : Int))).setCell ⟨b5, 1, none⟩ (.bool f)).setCell ⟨b5, 2, none⟩ (.bool c)).setCell ⟨b5, 3, none⟩ (.bool r)).setCell ⟨b5, 4, none⟩ (.bool i)).setCell ⟨b5, 5, none⟩ (.bool v)).setCell ⟨b5, 6, none⟩ (.bool b)).setCell ⟨b5, 7, none⟩ (.int .u8 (k : Int))).heap[b5]? = some (sO ⟨d, f, c, r, i, v, b, k⟩ 23)) := Lib.hid (set8_at Fb5.out _ _ _ _ _ _ _ _)
    have Gb6 : Hid (((((((((W1.setCell ⟨b5, 0, none⟩ (.int .u8 (d : Int))).setCell ⟨b5, 1, none⟩ (.bool f)).setCell ⟨b5, 2, none⟩ (.bool c)).setCell ⟨b5, 3, none⟩ (.bool r)).setCell ⟨b5, 4, none⟩ (.bool i)).setCell ⟨b5, 5, none⟩ (.bool v)).setCell ⟨b5, 6, none⟩ (.bool b)).setCell ⟨b5, 7, none⟩ (.int .u8 (k : Int))).heap[b6]? = some (noO 23)) := Lib.hid ((set8_other N21 _ _ _ _ _ _ _ _).trans Fb6.out)
    have Gb7 : Hid (((((((((W1.setCell ⟨b5, 0, none⟩ (.int .u8 (d : Int))).setCell ⟨b5, 1, none⟩ (.bool f)).setCell ⟨b5, 2, none⟩ (.bool c)).setCell ⟨b5, 3, none⟩ (.bool r)).setCell ⟨b5, 4, none⟩ (.bool i)).setCell ⟨b5, 5, none⟩ (.bool v)).setCell ⟨b5, 6, none⟩ (.bool b)).setCell ⟨b5, 7, none⟩ (.int .u8 (k : Int))).heap[b7]? = some (noO 23)) := Lib.hid ((set8_other N31 _ _ _ _ _ _ _ _).trans Fb7.out)
    have Gb8 : Hid (((((((((W1.setCell ⟨b5, 0, none⟩ (.int .u8 (d : Int))).setCell ⟨b5, 1, none⟩ (.bool f)).setCell ⟨b5, 2, none⟩ (.bool c)).setCell ⟨b5, 3, none⟩ (.bool r)).setCell ⟨b5, 4, none⟩ (.bool i)).setCell ⟨b5, 5, none⟩ (.bool v)).setCell ⟨b5, 6, none⟩ (.bool b)).setCell ⟨b5, 7, none⟩ (.int .u8 (k : Int))).heap[b8]? = some (noO 23)) := Lib.hid ((set8_other N41 _ _ _ _ _ _ _ _).trans Fb8.out)
    clear Fb4 Fb5 Fb6 Fb7 Fb8
    generalize ((((((((W1.setCell ⟨b5, 0, none⟩ (.int .u8 (d : Int))).setCell ⟨b5, 1, none⟩ (.bool f)).setCell ⟨b5, 2, none⟩ (.bool c)).setCell ⟨b5, 3, none⟩ (.bool r)).setCell ⟨b5, 4, none⟩ (.bool i)).setCell ⟨b5, 5, none⟩ (.bool v)).setCell ⟨b5, 6, none⟩ (.bool b)).setCell ⟨b5, 7, none⟩ (.int .u8 (k : Int))) = W2 at *
    have Fb4 := Gb4
    have Fb5 := Gb5
    have Fb6 := Gb6
    have Fb7 := Gb7
    have Fb8 := Gb8
    clear Gb4 Gb5 Gb6 Gb7 Gb8
    obtain ⟨z0, z1, z2, z3, z4, z5, z6, z7⟩ := no_frees Fb6.out
    obtain ⟨y0, y1, y2, y3, y4, y5, y6, y7⟩ := no_cells Fb6.out
    refine wpAnyH_ready (rs := [12]) (by kernel_rfl) (by simp) ?_
    refine AllReadyH.cons (o := { dst := none, op := Go.Op.store 23 (Go.Operand.tmp 6) (Go.Operand.tmp 13), type := 0, pos := "law.go:66", after := #[{ on := 7, ground := Go.Ground.data }, { on := 2, ground := Go.Ground.data }, { on := 11, ground := Go.Ground.chain }, { on := 0, ground := Go.Ground.phase }, { on := 1, ground := Go.Ground.phase }, { on := 2, ground := Go.Ground.phase }, { on := 3, ground := Go.Ground.textOnly Go.Departure.lateStores }, { on := 4, ground := Go.Ground.textOnly Go.Departure.lateStores }, { on := 5, ground := Go.Ground.phase }, { on := 6, ground := Go.Ground.phase }, { on := 7, ground := Go.Ground.phase }, { on := 8, ground := Go.Ground.phase }, { on := 9, ground := Go.Ground.phase }, { on := 10, ground := Go.Ground.phase }, { on := 11, ground := Go.Ground.phase }], guard := none }) rfl (fun K hK => ?_) AllReadyH.nil
    go_simp
    refine hK.out _ _ (set8 hHeld Lb6 _ _ _ _ _ _ _ _) (fun hNext => ?_)
    clear hK K hHeld
    have hHeld := hNext
    clear hNext
    (try simp only [List.setIfInBounds_toArray, List.set_cons_zero, List.set_cons_succ])
    clear z0 z1 z2 z3 z4 z5 z6 z7 y0 y1 y2 y3 y4 y5 y6 y7
    have Gb4 : Hid (((((((((W2.setCell ⟨b6, 0, none⟩ (.int .u8 (d : Int))).setCell ⟨b6, 1, none⟩ (.bool f)).setCell ⟨b6, 2, none⟩ (.bool c)).setCell ⟨b6, 3, none⟩ (.bool r)).setCell ⟨b6, 4, none⟩ (.bool i)).setCell ⟨b6, 5, none⟩ (.bool v)).setCell ⟨b6, 6, none⟩ (.bool b)).setCell ⟨b6, 7, none⟩ (.int .u8 (k : Int))).heap[b4]? = some (sO ⟨d, f, c, r, i, v, b, k⟩ 23)) := Lib.hid ((set8_other N02 _ _ _ _ _ _ _ _).trans Fb4.out)
    have Gb5 : Hid (((((((((W2.setCell ⟨b6, 0, none⟩ (.int .u8 (d : Int))).setCell ⟨b6, 1, none⟩ (.bool f)).setCell ⟨b6, 2, none⟩ (.bool c)).setCell ⟨b6, 3, none⟩ (.bool r)).setCell ⟨b6, 4, none⟩ (.bool i)).setCell ⟨b6, 5, none⟩ (.bool v)).setCell ⟨b6, 6, none⟩ (.bool b)).setCell ⟨b6, 7, none⟩ (.int .u8 (k : Int))).heap[b5]? = some (sO ⟨d, f, c, r, i, v, b, k⟩ 23)) := Lib.hid ((set8_other N12 _ _ _ _ _ _ _ _).trans Fb5.out)
    have Gb6 : Hid (((((((((W2.setCell ⟨b6, 0, none⟩ (.int .u8 (d : Int))).setCell ⟨b6, 1, none⟩ (.bool f)).setCell ⟨b6, 2, none⟩ (.bool c)).setCell ⟨b6, 3, none⟩ (.bool r)).setCell ⟨b6, 4, none⟩ (.bool i)).setCell ⟨b6, 5, none⟩ (.bool v)).setCell ⟨b6, 6, none⟩ (.bool b)).setCell ⟨b6, 7, none⟩ (.int .u8 (k : Int))).heap[b6]? = some (sO ⟨d, f, c, r, i, v, b, k⟩ 23)) := Lib.hid (set8_at Fb6.out _ _ _ _ _ _ _ _)
    have Gb7 : Hid (((((((((W2.setCell ⟨b6, 0, none⟩ (.int .u8 (d : Int))).setCell ⟨b6, 1, none⟩ (.bool f)).setCell ⟨b6, 2, none⟩ (.bool c)).setCell ⟨b6, 3, none⟩ (.bool r)).setCell ⟨b6, 4, none⟩ (.bool i)).setCell ⟨b6, 5, none⟩ (.bool v)).setCell ⟨b6, 6, none⟩ (.bool b)).setCell ⟨b6, 7, none⟩ (.int .u8 (k : Int))).heap[b7]? = some (noO 23)) := Lib.hid ((set8_other N32 _ _ _ _ _ _ _ _).trans Fb7.out)
    have Gb8 : Hid (((((((((W2.setCell ⟨b6, 0, none⟩ (.int .u8 (d : Int))).setCell ⟨b6, 1, none⟩ (.bool f)).setCell ⟨b6, 2, none⟩ (.bool c)).setCell ⟨b6, 3, none⟩ (.bool r)).setCell ⟨b6, 4, none⟩ (.bool i)).setCell ⟨b6, 5, none⟩ (.bool v)).setCell ⟨b6, 6, none⟩ (.bool b)).setCell ⟨b6, 7, none⟩ (.int .u8 (k : Int))).heap[b8]? = some (noO 23)) := Lib.hid ((set8_other N42 _ _ _ _ _ _ _ _).trans Fb8.out)
    clear Fb4 Fb5 Fb6 Fb7 Fb8
    generalize ((((((((W2.setCell ⟨b6, 0, none⟩ (.int .u8 (d : Int))).setCell ⟨b6, 1, none⟩ (.bool f)).setCell ⟨b6, 2, none⟩ (.bool c)).setCell ⟨b6, 3, none⟩ (.bool r)).setCell ⟨b6, 4, none⟩ (.bool i)).setCell ⟨b6, 5, none⟩ (.bool v)).setCell ⟨b6, 6, none⟩ (.bool b)).setCell ⟨b6, 7, none⟩ (.int .u8 (k : Int))) = W3 at *
    have Fb4 := Gb4
    have Fb5 := Gb5
    have Fb6 := Gb6
    have Fb7 := Gb7
    have Fb8 := Gb8
    clear Gb4 Gb5 Gb6 Gb7 Gb8
    obtain ⟨z0, z1, z2, z3, z4, z5, z6, z7⟩ := no_frees Fb7.out
    obtain ⟨y0, y1, y2, y3, y4, y5, y6, y7⟩ := no_cells Fb7.out
    refine wpAnyH_ready (rs := [13]) (by kernel_rfl) (by simp) ?_
    refine AllReadyH.cons (o := { dst := none, op := Go.Op.store 23 (Go.Operand.tmp 7) (Go.Operand.tmp 14), type := 0, pos := "law.go:66", after := #[{ on := 8, ground := Go.Ground.data }, { on := 3, ground := Go.Ground.data }, { on := 12, ground := Go.Ground.chain }, { on := 0, ground := Go.Ground.phase }, { on := 1, ground := Go.Ground.phase }, { on := 2, ground := Go.Ground.phase }, { on := 3, ground := Go.Ground.phase }, { on := 4, ground := Go.Ground.textOnly Go.Departure.lateStores }, { on := 5, ground := Go.Ground.phase }, { on := 6, ground := Go.Ground.phase }, { on := 7, ground := Go.Ground.phase }, { on := 8, ground := Go.Ground.phase }, { on := 9, ground := Go.Ground.phase }, { on := 10, ground := Go.Ground.phase }, { on := 11, ground := Go.Ground.phase }, { on := 12, ground := Go.Ground.phase }], guard := none }) rfl (fun K hK => ?_) AllReadyH.nil
    go_simp
    refine hK.out _ _ (set8 hHeld Lb7 _ _ _ _ _ _ _ _) (fun hNext => ?_)
    clear hK K hHeld
    have hHeld := hNext
    clear hNext
    (try simp only [List.setIfInBounds_toArray, List.set_cons_zero, List.set_cons_succ])
    clear z0 z1 z2 z3 z4 z5 z6 z7 y0 y1 y2 y3 y4 y5 y6 y7
    have Gb4 : Hid (((((((((W3.setCell ⟨b7, 0, none⟩ (.int .u8 (d : Int))).setCell ⟨b7, 1, none⟩ (.bool f)).setCell ⟨b7, 2, none⟩ (.bool c)).setCell ⟨b7, 3, none⟩ (.bool r)).setCell ⟨b7, 4, none⟩ (.bool i)).setCell ⟨b7, 5, none⟩ (.bool v)).setCell ⟨b7, 6, none⟩ (.bool b)).setCell ⟨b7, 7, none⟩ (.int .u8 (k : Int))).heap[b4]? = some (sO ⟨d, f, c, r, i, v, b, k⟩ 23)) := Lib.hid ((set8_other N03 _ _ _ _ _ _ _ _).trans Fb4.out)
    have Gb5 : Hid (((((((((W3.setCell ⟨b7, 0, none⟩ (.int .u8 (d : Int))).setCell ⟨b7, 1, none⟩ (.bool f)).setCell ⟨b7, 2, none⟩ (.bool c)).setCell ⟨b7, 3, none⟩ (.bool r)).setCell ⟨b7, 4, none⟩ (.bool i)).setCell ⟨b7, 5, none⟩ (.bool v)).setCell ⟨b7, 6, none⟩ (.bool b)).setCell ⟨b7, 7, none⟩ (.int .u8 (k : Int))).heap[b5]? = some (sO ⟨d, f, c, r, i, v, b, k⟩ 23)) := Lib.hid ((set8_other N13 _ _ _ _ _ _ _ _).trans Fb5.out)
    have Gb6 : Hid (((((((((W3.setCell ⟨b7, 0, none⟩ (.int .u8 (d : Int))).setCell ⟨b7, 1, none⟩ (.bool f)).setCell ⟨b7, 2, none⟩ (.bool c)).setCell ⟨b7, 3, none⟩ (.bool r)).setCell ⟨b7, 4, none⟩ (.bool i)).setCell ⟨b7, 5, none⟩ (.bool v)).setCell ⟨b7, 6, none⟩ (.bool b)).setCell ⟨b7, 7, none⟩ (.int .u8 (k : Int))).heap[b6]? = some (sO ⟨d, f, c, r, i, v, b, k⟩ 23)) := Lib.hid ((set8_other N23 _ _ _ _ _ _ _ _).trans Fb6.out)
    have Gb7 : Hid (((((((((W3.setCell ⟨b7, 0, none⟩ (.int .u8 (d : Int))).setCell ⟨b7, 1, none⟩ (.bool f)).setCell ⟨b7, 2, none⟩ (.bool c)).setCell ⟨b7, 3, none⟩ (.bool r)).setCell ⟨b7, 4, none⟩ (.bool i)).setCell ⟨b7, 5, none⟩ (.bool v)).setCell ⟨b7, 6, none⟩ (.bool b)).setCell ⟨b7, 7, none⟩ (.int .u8 (k : Int))).heap[b7]? = some (sO ⟨d, f, c, r, i, v, b, k⟩ 23)) := Lib.hid (set8_at Fb7.out _ _ _ _ _ _ _ _)
    have Gb8 : Hid (((((((((W3.setCell ⟨b7, 0, none⟩ (.int .u8 (d : Int))).setCell ⟨b7, 1, none⟩ (.bool f)).setCell ⟨b7, 2, none⟩ (.bool c)).setCell ⟨b7, 3, none⟩ (.bool r)).setCell ⟨b7, 4, none⟩ (.bool i)).setCell ⟨b7, 5, none⟩ (.bool v)).setCell ⟨b7, 6, none⟩ (.bool b)).setCell ⟨b7, 7, none⟩ (.int .u8 (k : Int))).heap[b8]? = some (noO 23)) := Lib.hid ((set8_other N43 _ _ _ _ _ _ _ _).trans Fb8.out)
    clear Fb4 Fb5 Fb6 Fb7 Fb8
    generalize ((((((((W3.setCell ⟨b7, 0, none⟩ (.int .u8 (d : Int))).setCell ⟨b7, 1, none⟩ (.bool f)).setCell ⟨b7, 2, none⟩ (.bool c)).setCell ⟨b7, 3, none⟩ (.bool r)).setCell ⟨b7, 4, none⟩ (.bool i)).setCell ⟨b7, 5, none⟩ (.bool v)).setCell ⟨b7, 6, none⟩ (.bool b)).setCell ⟨b7, 7, none⟩ (.int .u8 (k : Int))) = W4 at *
    have Fb4 := Gb4
    have Fb5 := Gb5
    have Fb6 := Gb6
    have Fb7 := Gb7
    have Fb8 := Gb8
    clear Gb4 Gb5 Gb6 Gb7 Gb8
    obtain ⟨z0, z1, z2, z3, z4, z5, z6, z7⟩ := no_frees Fb8.out
    obtain ⟨y0, y1, y2, y3, y4, y5, y6, y7⟩ := no_cells Fb8.out
    refine wpAnyH_ready (rs := [14]) (by kernel_rfl) (by simp) ?_
    refine AllReadyH.cons (o := { dst := none, op := Go.Op.store 23 (Go.Operand.tmp 8) (Go.Operand.tmp 15), type := 0, pos := "law.go:66", after := #[{ on := 9, ground := Go.Ground.data }, { on := 4, ground := Go.Ground.data }, { on := 13, ground := Go.Ground.chain }, { on := 0, ground := Go.Ground.phase }, { on := 1, ground := Go.Ground.phase }, { on := 2, ground := Go.Ground.phase }, { on := 3, ground := Go.Ground.phase }, { on := 4, ground := Go.Ground.phase }, { on := 5, ground := Go.Ground.phase }, { on := 6, ground := Go.Ground.phase }, { on := 7, ground := Go.Ground.phase }, { on := 8, ground := Go.Ground.phase }, { on := 9, ground := Go.Ground.phase }, { on := 10, ground := Go.Ground.phase }, { on := 11, ground := Go.Ground.phase }, { on := 12, ground := Go.Ground.phase }, { on := 13, ground := Go.Ground.phase }], guard := none }) rfl (fun K hK => ?_) AllReadyH.nil
    go_simp
    refine hK.out _ _ (set8 hHeld Lb8 _ _ _ _ _ _ _ _) (fun hNext => ?_)
    clear hK K hHeld
    have hHeld := hNext
    clear hNext
    (try simp only [List.setIfInBounds_toArray, List.set_cons_zero, List.set_cons_succ])
    clear z0 z1 z2 z3 z4 z5 z6 z7 y0 y1 y2 y3 y4 y5 y6 y7
    have Gb4 : Hid (((((((((W4.setCell ⟨b8, 0, none⟩ (.int .u8 (d : Int))).setCell ⟨b8, 1, none⟩ (.bool f)).setCell ⟨b8, 2, none⟩ (.bool c)).setCell ⟨b8, 3, none⟩ (.bool r)).setCell ⟨b8, 4, none⟩ (.bool i)).setCell ⟨b8, 5, none⟩ (.bool v)).setCell ⟨b8, 6, none⟩ (.bool b)).setCell ⟨b8, 7, none⟩ (.int .u8 (k : Int))).heap[b4]? = some (sO ⟨d, f, c, r, i, v, b, k⟩ 23)) := Lib.hid ((set8_other N04 _ _ _ _ _ _ _ _).trans Fb4.out)
    have Gb5 : Hid (((((((((W4.setCell ⟨b8, 0, none⟩ (.int .u8 (d : Int))).setCell ⟨b8, 1, none⟩ (.bool f)).setCell ⟨b8, 2, none⟩ (.bool c)).setCell ⟨b8, 3, none⟩ (.bool r)).setCell ⟨b8, 4, none⟩ (.bool i)).setCell ⟨b8, 5, none⟩ (.bool v)).setCell ⟨b8, 6, none⟩ (.bool b)).setCell ⟨b8, 7, none⟩ (.int .u8 (k : Int))).heap[b5]? = some (sO ⟨d, f, c, r, i, v, b, k⟩ 23)) := Lib.hid ((set8_other N14 _ _ _ _ _ _ _ _).trans Fb5.out)
    have Gb6 : Hid (((((((((W4.setCell ⟨b8, 0, none⟩ (.int .u8 (d : Int))).setCell ⟨b8, 1, none⟩ (.bool f)).setCell ⟨b8, 2, none⟩ (.bool c)).setCell ⟨b8, 3, none⟩ (.bool r)).setCell ⟨b8, 4, none⟩ (.bool i)).setCell ⟨b8, 5, none⟩ (.bool v)).setCell ⟨b8, 6, none⟩ (.bool b)).setCell ⟨b8, 7, none⟩ (.int .u8 (k : Int))).heap[b6]? = some (sO ⟨d, f, c, r, i, v, b, k⟩ 23)) := Lib.hid ((set8_other N24 _ _ _ _ _ _ _ _).trans Fb6.out)
    have Gb7 : Hid (((((((((W4.setCell ⟨b8, 0, none⟩ (.int .u8 (d : Int))).setCell ⟨b8, 1, none⟩ (.bool f)).setCell ⟨b8, 2, none⟩ (.bool c)).setCell ⟨b8, 3, none⟩ (.bool r)).setCell ⟨b8, 4, none⟩ (.bool i)).setCell ⟨b8, 5, none⟩ (.bool v)).setCell ⟨b8, 6, none⟩ (.bool b)).setCell ⟨b8, 7, none⟩ (.int .u8 (k : Int))).heap[b7]? = some (sO ⟨d, f, c, r, i, v, b, k⟩ 23)) := Lib.hid ((set8_other N34 _ _ _ _ _ _ _ _).trans Fb7.out)
    have Gb8 : Hid (((((((((W4.setCell ⟨b8, 0, none⟩ (.int .u8 (d : Int))).setCell ⟨b8, 1, none⟩ (.bool f)).setCell ⟨b8, 2, none⟩ (.bool c)).setCell ⟨b8, 3, none⟩ (.bool r)).setCell ⟨b8, 4, none⟩ (.bool i)).setCell ⟨b8, 5, none⟩ (.bool v)).setCell ⟨b8, 6, none⟩ (.bool b)).setCell ⟨b8, 7, none⟩ (.int .u8 (k : Int))).heap[b8]? = some (sO ⟨d, f, c, r, i, v, b, k⟩ 23)) := Lib.hid (set8_at Fb8.out _ _ _ _ _ _ _ _)
    clear Fb4 Fb5 Fb6 Fb7 Fb8
    generalize ((((((((W4.setCell ⟨b8, 0, none⟩ (.int .u8 (d : Int))).setCell ⟨b8, 1, none⟩ (.bool f)).setCell ⟨b8, 2, none⟩ (.bool c)).setCell ⟨b8, 3, none⟩ (.bool r)).setCell ⟨b8, 4, none⟩ (.bool i)).setCell ⟨b8, 5, none⟩ (.bool v)).setCell ⟨b8, 6, none⟩ (.bool b)).setCell ⟨b8, 7, none⟩ (.int .u8 (k : Int))) = W5 at *
    have Fb4 := Gb4
    have Fb5 := Gb5
    have Fb6 := Gb6
    have Fb7 := Gb7
    have Fb8 := Gb8
    clear Gb4 Gb5 Gb6 Gb7 Gb8
    refine wpAnyH_done (by kernel_rfl) ?_ _
    have HB : Hid (Below w.heap.size w W5) := Lib.hid (below_on HB1.out hHeld)
    have FX : Hid (W5.heap[w.heap.size]? = some (sO ⟨d, f, c, r, i, v, b, k⟩ 23)) := Lib.hid (stays HF.out hHeld)
    have Mb4 : w.heap.size ≠ b4 := by have := lt_heap HF.out; omega
    have Kb4 : w.heap.size ≤ b4 := by have := lt_heap HF.out; omega
    have Mb5 : w.heap.size ≠ b5 := by have := lt_heap HF.out; omega
    have Kb5 : w.heap.size ≤ b5 := by have := lt_heap HF.out; omega
    have Mb6 : w.heap.size ≠ b6 := by have := lt_heap HF.out; omega
    have Kb6 : w.heap.size ≤ b6 := by have := lt_heap HF.out; omega
    have Mb7 : w.heap.size ≠ b7 := by have := lt_heap HF.out; omega
    have Kb7 : w.heap.size ≤ b7 := by have := lt_heap HF.out; omega
    have Mb8 : w.heap.size ≠ b8 := by have := lt_heap HF.out; omega
    have Kb8 : w.heap.size ≤ b8 := by have := lt_heap HF.out; omega
    clear hHeld Lb4 Lb5 Lb6 Lb7 Lb8
    obtain ⟨z0, z1, z2, z3, z4, z5, z6, z7⟩ := frees8 Fb4.out
    obtain ⟨g0, g1, g2, g3, g4, g5, g6, g7⟩ := cells_of FX.out; dsimp only at g0 g1 g2 g3 g4 g5 g6 g7
    obtain ⟨y0, y1, y2, y3, y4, y5, y6, y7⟩ := cells_of Fb4.out; dsimp only at y0 y1 y2 y3 y4 y5 y6 y7
    go_upto_region 4 with fail
    clear z0 z1 z2 z3 z4 z5 z6 z7 g0 g1 g2 g3 g4 g5 g6 g7 y0 y1 y2 y3 y4 y5 y6 y7
    have Gb4 : Hid ((W5.setCell ⟨b4, 1, none⟩ (.bool (!f))).heap[b4]? = some (sO ⟨d, !f, c, r, i, v, b, k⟩ 23)) := Lib.hid (block_set (i := 1) Fb4.out _)
    have Gb5 : Hid ((W5.setCell ⟨b4, 1, none⟩ (.bool (!f))).heap[b5]? = some (sO ⟨d, f, c, r, i, v, b, k⟩ 23)) := Lib.hid ((block_other N10 _).trans Fb5.out)
    have Gb6 : Hid ((W5.setCell ⟨b4, 1, none⟩ (.bool (!f))).heap[b6]? = some (sO ⟨d, f, c, r, i, v, b, k⟩ 23)) := Lib.hid ((block_other N20 _).trans Fb6.out)
    have Gb7 : Hid ((W5.setCell ⟨b4, 1, none⟩ (.bool (!f))).heap[b7]? = some (sO ⟨d, f, c, r, i, v, b, k⟩ 23)) := Lib.hid ((block_other N30 _).trans Fb7.out)
    have Gb8 : Hid ((W5.setCell ⟨b4, 1, none⟩ (.bool (!f))).heap[b8]? = some (sO ⟨d, f, c, r, i, v, b, k⟩ 23)) := Lib.hid ((block_other N40 _).trans Fb8.out)
    have GX : Hid ((W5.setCell ⟨b4, 1, none⟩ (.bool (!f))).heap[w.heap.size]? = some (sO ⟨d, f, c, r, i, v, b, k⟩ 23)) := Lib.hid ((block_other Mb4 _).trans FX.out)
    have HC : Hid (Below w.heap.size w (W5.setCell ⟨b4, 1, none⟩ (.bool (!f)))) := Lib.hid (HB.out.setCell Kb4 _)
    clear Fb4 Fb5 Fb6 Fb7 Fb8 FX HB
    generalize (W5.setCell ⟨b4, 1, none⟩ (.bool (!f))) = W6 at *
    have Fb4 := Gb4
    have Fb5 := Gb5
    have Fb6 := Gb6
    have Fb7 := Gb7
    have Fb8 := Gb8
    have FX := GX
    have HB := HC
    clear Gb4 Gb5 Gb6 Gb7 Gb8 GX HC
    obtain ⟨z0, z1, z2, z3, z4, z5, z6, z7⟩ := frees8 Fb5.out
    obtain ⟨g0, g1, g2, g3, g4, g5, g6, g7⟩ := cells_of FX.out; dsimp only at g0 g1 g2 g3 g4 g5 g6 g7
    obtain ⟨y0, y1, y2, y3, y4, y5, y6, y7⟩ := cells_of Fb5.out; dsimp only at y0 y1 y2 y3 y4 y5 y6 y7
    go_upto_region 5 with fail
    clear z0 z1 z2 z3 z4 z5 z6 z7 g0 g1 g2 g3 g4 g5 g6 g7 y0 y1 y2 y3 y4 y5 y6 y7
    have Gb4 : Hid ((W6.setCell ⟨b5, 2, none⟩ (.bool (!c))).heap[b4]? = some (sO ⟨d, !f, c, r, i, v, b, k⟩ 23)) := Lib.hid ((block_other N01 _).trans Fb4.out)
    have Gb5 : Hid ((W6.setCell ⟨b5, 2, none⟩ (.bool (!c))).heap[b5]? = some (sO ⟨d, f, !c, r, i, v, b, k⟩ 23)) := Lib.hid (block_set (i := 2) Fb5.out _)
    have Gb6 : Hid ((W6.setCell ⟨b5, 2, none⟩ (.bool (!c))).heap[b6]? = some (sO ⟨d, f, c, r, i, v, b, k⟩ 23)) := Lib.hid ((block_other N21 _).trans Fb6.out)
    have Gb7 : Hid ((W6.setCell ⟨b5, 2, none⟩ (.bool (!c))).heap[b7]? = some (sO ⟨d, f, c, r, i, v, b, k⟩ 23)) := Lib.hid ((block_other N31 _).trans Fb7.out)
    have Gb8 : Hid ((W6.setCell ⟨b5, 2, none⟩ (.bool (!c))).heap[b8]? = some (sO ⟨d, f, c, r, i, v, b, k⟩ 23)) := Lib.hid ((block_other N41 _).trans Fb8.out)
    have GX : Hid ((W6.setCell ⟨b5, 2, none⟩ (.bool (!c))).heap[w.heap.size]? = some (sO ⟨d, f, c, r, i, v, b, k⟩ 23)) := Lib.hid ((block_other Mb5 _).trans FX.out)
    have HC : Hid (Below w.heap.size w (W6.setCell ⟨b5, 2, none⟩ (.bool (!c)))) := Lib.hid (HB.out.setCell Kb5 _)
    clear Fb4 Fb5 Fb6 Fb7 Fb8 FX HB
    generalize (W6.setCell ⟨b5, 2, none⟩ (.bool (!c))) = W7 at *
    have Fb4 := Gb4
    have Fb5 := Gb5
    have Fb6 := Gb6
    have Fb7 := Gb7
    have Fb8 := Gb8
    have FX := GX
    have HB := HC
    clear Gb4 Gb5 Gb6 Gb7 Gb8 GX HC
    obtain ⟨z0, z1, z2, z3, z4, z5, z6, z7⟩ := frees8 Fb6.out
    obtain ⟨g0, g1, g2, g3, g4, g5, g6, g7⟩ := cells_of FX.out; dsimp only at g0 g1 g2 g3 g4 g5 g6 g7
    obtain ⟨y0, y1, y2, y3, y4, y5, y6, y7⟩ := cells_of Fb6.out; dsimp only at y0 y1 y2 y3 y4 y5 y6 y7
    go_upto_region 6 with fail
    clear z0 z1 z2 z3 z4 z5 z6 z7 g0 g1 g2 g3 g4 g5 g6 g7 y0 y1 y2 y3 y4 y5 y6 y7
    have Gb4 : Hid ((W7.setCell ⟨b6, 3, none⟩ (.bool (!r))).heap[b4]? = some (sO ⟨d, !f, c, r, i, v, b, k⟩ 23)) := Lib.hid ((block_other N02 _).trans Fb4.out)
    have Gb5 : Hid ((W7.setCell ⟨b6, 3, none⟩ (.bool (!r))).heap[b5]? = some (sO ⟨d, f, !c, r, i, v, b, k⟩ 23)) := Lib.hid ((block_other N12 _).trans Fb5.out)
    have Gb6 : Hid ((W7.setCell ⟨b6, 3, none⟩ (.bool (!r))).heap[b6]? = some (sO ⟨d, f, c, !r, i, v, b, k⟩ 23)) := Lib.hid (block_set (i := 3) Fb6.out _)
    have Gb7 : Hid ((W7.setCell ⟨b6, 3, none⟩ (.bool (!r))).heap[b7]? = some (sO ⟨d, f, c, r, i, v, b, k⟩ 23)) := Lib.hid ((block_other N32 _).trans Fb7.out)
    have Gb8 : Hid ((W7.setCell ⟨b6, 3, none⟩ (.bool (!r))).heap[b8]? = some (sO ⟨d, f, c, r, i, v, b, k⟩ 23)) := Lib.hid ((block_other N42 _).trans Fb8.out)
    have GX : Hid ((W7.setCell ⟨b6, 3, none⟩ (.bool (!r))).heap[w.heap.size]? = some (sO ⟨d, f, c, r, i, v, b, k⟩ 23)) := Lib.hid ((block_other Mb6 _).trans FX.out)
    have HC : Hid (Below w.heap.size w (W7.setCell ⟨b6, 3, none⟩ (.bool (!r)))) := Lib.hid (HB.out.setCell Kb6 _)
    clear Fb4 Fb5 Fb6 Fb7 Fb8 FX HB
    generalize (W7.setCell ⟨b6, 3, none⟩ (.bool (!r))) = W8 at *
    have Fb4 := Gb4
    have Fb5 := Gb5
    have Fb6 := Gb6
    have Fb7 := Gb7
    have Fb8 := Gb8
    have FX := GX
    have HB := HC
    clear Gb4 Gb5 Gb6 Gb7 Gb8 GX HC
    obtain ⟨z0, z1, z2, z3, z4, z5, z6, z7⟩ := frees8 Fb7.out
    obtain ⟨g0, g1, g2, g3, g4, g5, g6, g7⟩ := cells_of FX.out; dsimp only at g0 g1 g2 g3 g4 g5 g6 g7
    obtain ⟨y0, y1, y2, y3, y4, y5, y6, y7⟩ := cells_of Fb7.out; dsimp only at y0 y1 y2 y3 y4 y5 y6 y7
    go_upto_region 7 with fail
    clear z0 z1 z2 z3 z4 z5 z6 z7 g0 g1 g2 g3 g4 g5 g6 g7 y0 y1 y2 y3 y4 y5 y6 y7
    have Gb4 : Hid ((W8.setCell ⟨b7, 4, none⟩ (.bool (!i))).heap[b4]? = some (sO ⟨d, !f, c, r, i, v, b, k⟩ 23)) := Lib.hid ((block_other N03 _).trans Fb4.out)
    have Gb5 : Hid ((W8.setCell ⟨b7, 4, none⟩ (.bool (!i))).heap[b5]? = some (sO ⟨d, f, !c, r, i, v, b, k⟩ 23)) := Lib.hid ((block_other N13 _).trans Fb5.out)
    have Gb6 : Hid ((W8.setCell ⟨b7, 4, none⟩ (.bool (!i))).heap[b6]? = some (sO ⟨d, f, c, !r, i, v, b, k⟩ 23)) := Lib.hid ((block_other N23 _).trans Fb6.out)
    have Gb7 : Hid ((W8.setCell ⟨b7, 4, none⟩ (.bool (!i))).heap[b7]? = some (sO ⟨d, f, c, r, !i, v, b, k⟩ 23)) := Lib.hid (block_set (i := 4) Fb7.out _)
    have Gb8 : Hid ((W8.setCell ⟨b7, 4, none⟩ (.bool (!i))).heap[b8]? = some (sO ⟨d, f, c, r, i, v, b, k⟩ 23)) := Lib.hid ((block_other N43 _).trans Fb8.out)
    have GX : Hid ((W8.setCell ⟨b7, 4, none⟩ (.bool (!i))).heap[w.heap.size]? = some (sO ⟨d, f, c, r, i, v, b, k⟩ 23)) := Lib.hid ((block_other Mb7 _).trans FX.out)
    have HC : Hid (Below w.heap.size w (W8.setCell ⟨b7, 4, none⟩ (.bool (!i)))) := Lib.hid (HB.out.setCell Kb7 _)
    clear Fb4 Fb5 Fb6 Fb7 Fb8 FX HB
    generalize (W8.setCell ⟨b7, 4, none⟩ (.bool (!i))) = W9 at *
    have Fb4 := Gb4
    have Fb5 := Gb5
    have Fb6 := Gb6
    have Fb7 := Gb7
    have Fb8 := Gb8
    have FX := GX
    have HB := HC
    clear Gb4 Gb5 Gb6 Gb7 Gb8 GX HC
    obtain ⟨z0, z1, z2, z3, z4, z5, z6, z7⟩ := frees8 Fb8.out
    obtain ⟨g0, g1, g2, g3, g4, g5, g6, g7⟩ := cells_of FX.out; dsimp only at g0 g1 g2 g3 g4 g5 g6 g7
    obtain ⟨y0, y1, y2, y3, y4, y5, y6, y7⟩ := cells_of Fb8.out; dsimp only at y0 y1 y2 y3 y4 y5 y6 y7
    go_upto_region 8 with fail
    clear z0 z1 z2 z3 z4 z5 z6 z7 g0 g1 g2 g3 g4 g5 g6 g7 y0 y1 y2 y3 y4 y5 y6 y7
    have Gb4 : Hid ((W9.setCell ⟨b8, 5, none⟩ (.bool (!v))).heap[b4]? = some (sO ⟨d, !f, c, r, i, v, b, k⟩ 23)) := Lib.hid ((block_other N04 _).trans Fb4.out)
    have Gb5 : Hid ((W9.setCell ⟨b8, 5, none⟩ (.bool (!v))).heap[b5]? = some (sO ⟨d, f, !c, r, i, v, b, k⟩ 23)) := Lib.hid ((block_other N14 _).trans Fb5.out)
    have Gb6 : Hid ((W9.setCell ⟨b8, 5, none⟩ (.bool (!v))).heap[b6]? = some (sO ⟨d, f, c, !r, i, v, b, k⟩ 23)) := Lib.hid ((block_other N24 _).trans Fb6.out)
    have Gb7 : Hid ((W9.setCell ⟨b8, 5, none⟩ (.bool (!v))).heap[b7]? = some (sO ⟨d, f, c, r, !i, v, b, k⟩ 23)) := Lib.hid ((block_other N34 _).trans Fb7.out)
    have Gb8 : Hid ((W9.setCell ⟨b8, 5, none⟩ (.bool (!v))).heap[b8]? = some (sO ⟨d, f, c, r, i, !v, b, k⟩ 23)) := Lib.hid (block_set (i := 5) Fb8.out _)
    have GX : Hid ((W9.setCell ⟨b8, 5, none⟩ (.bool (!v))).heap[w.heap.size]? = some (sO ⟨d, f, c, r, i, v, b, k⟩ 23)) := Lib.hid ((block_other Mb8 _).trans FX.out)
    have HC : Hid (Below w.heap.size w (W9.setCell ⟨b8, 5, none⟩ (.bool (!v)))) := Lib.hid (HB.out.setCell Kb8 _)
    clear Fb4 Fb5 Fb6 Fb7 Fb8 FX HB
    generalize (W9.setCell ⟨b8, 5, none⟩ (.bool (!v))) = W10 at *
    have Fb4 := Gb4
    have Fb5 := Gb5
    have Fb6 := Gb6
    have Fb7 := Gb7
    have Fb8 := Gb8
    have FX := GX
    have HB := HC
    clear Gb4 Gb5 Gb6 Gb7 Gb8 GX HC
    obtain ⟨g0, g1, g2, g3, g4, g5, g6, g7⟩ := cells_of Fb4.out; dsimp only at g0 g1 g2 g3 g4 g5 g6 g7
    go_wp2_with (first
      | (go_at_call 11; ((with_reducible refine (Ca.out _).mono ?_); rintro e wa ⟨rfl, hb⟩; have HBa := Lib.hid (below_on HB.out hb); have Fb5a := Lib.hid (stays Fb5.out hb); have Fb6a := Lib.hid (stays Fb6.out hb); have Fb7a := Lib.hid (stays Fb7.out hb); have Fb8a := Lib.hid (stays Fb8.out hb); clear hb g0 g1 g2 g3 g4 g5 g6 g7; obtain ⟨g0, g1, g2, g3, g4, g5, g6, g7⟩ := cells_of Fb5a.out; dsimp only at g0 g1 g2 g3 g4 g5 g6 g7))
      | (go_at_call 11; ((with_reducible refine (Cb.out _).mono ?_); rintro e wb ⟨rfl, hb⟩; have HBb := Lib.hid (below_on HBa.out hb); have Fb6b := Lib.hid (stays Fb6a.out hb); have Fb7b := Lib.hid (stays Fb7a.out hb); have Fb8b := Lib.hid (stays Fb8a.out hb); clear hb g0 g1 g2 g3 g4 g5 g6 g7; obtain ⟨g0, g1, g2, g3, g4, g5, g6, g7⟩ := cells_of Fb6b.out; dsimp only at g0 g1 g2 g3 g4 g5 g6 g7))
      | (go_at_call 11; ((with_reducible refine (Cc.out _).mono ?_); rintro e wc ⟨rfl, hb⟩; have HBc := Lib.hid (below_on HBb.out hb); have Fb7c := Lib.hid (stays Fb7b.out hb); have Fb8c := Lib.hid (stays Fb8b.out hb); clear hb g0 g1 g2 g3 g4 g5 g6 g7; obtain ⟨g0, g1, g2, g3, g4, g5, g6, g7⟩ := cells_of Fb7c.out; dsimp only at g0 g1 g2 g3 g4 g5 g6 g7))
      | (go_at_call 11; ((with_reducible refine (Cd.out _).mono ?_); rintro e wd ⟨rfl, hb⟩; have HBd := Lib.hid (below_on HBc.out hb); have Fb8d := Lib.hid (stays Fb8c.out hb); clear hb g0 g1 g2 g3 g4 g5 g6 g7; obtain ⟨g0, g1, g2, g3, g4, g5, g6, g7⟩ := cells_of Fb8d.out; dsimp only at g0 g1 g2 g3 g4 g5 g6 g7))
      | (go_at_call 11; ((with_reducible refine (Ce.out _).mono ?_); rintro e we ⟨rfl, hb⟩; have HBe := Lib.hid (below_on HBd.out hb); clear hb g0 g1 g2 g3 g4 g5 g6 g7))
      | (go_at_call 13; ((with_reducible refine (CW.out _).mono ?_); rintro e wl ⟨rfl, hb⟩; have HBl := Lib.hid (below_on HBe.out hb); clear hb)))
    go_ret
    exact ⟨rfl, HBl.out⟩
end Go.Proofs.Ytecmnkdbimalgaa.mscBits

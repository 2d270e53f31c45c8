/-
  Layer 22, put together: MsgsRput, CtlDoc2, CtlNext. Conditions: as each theorem names them.
-/
import Derived.Test.YtakkhdammmcjcaaGreatDoorK15
import Derived.Test.YtakkhdammmcjcaaGreatDoorK01
import Derived.Test.YtakkhdammmcjcaaGreatDoorK14
import Derived.Lib.MinMax
namespace Go.Proofs.YtakkhdammmcjcaaGreatDoor.Msgs
open Go.RowKit Base Mem
set_option maxRecDepth 20000
theorem rvalue_1 (m : Ms) (hk : m.k = 1) (S : ByteArray) (E : Int) (CP : ∀ w, Calls Tryz.prog 76 #[Pn.pv m.p] w fun e w' => e = .returned (.tuple #[.string S, .int .i64 E]) ∧ Below w.heap.size w w') (w : World) :
 Calls Tryz.prog 55 #[mv m] w fun e w' => e = .returned (.tuple #[.int .u8 32, .string S]) ∧ Below w.heap.size w w' := by
 have hq : (m.k : Int) = 1 := in_k (n := m.k) (k := 1) hk
 clear hk
 have CPh := Lib.hid CP
 clear CP
 go_enter Tryz.func55, Tryz.ntmps55
 go_wp2_with (first
  | ((with_reducible refine bxm (m := m) ?hx ?_); (case hx => rfl); intro b1 wx h1 F1; have HX := Lib.hid h1; have HB := Lib.hid F1.below; obtain ⟨c0, c1, c18, c19⟩ := flds h1; clear h1 F1)
  | ((with_reducible refine ldp isPr HX.out ?hx ?_); (case hx => rfl))
  | (go_at_call 76; ((with_reducible refine (CPh.out _).mono ?_); rintro e w2 ⟨rfl, hb⟩; replace HB := Lib.hid (below_on HB.out hb); clear hb c0 c1 c18 c19)))
 go_ret2
 exact ⟨rfl, HB.out⟩
theorem rvalue_2 (m : Ms) (hk : m.k = 2) (S : ByteArray) (E : Int) (CP : ∀ w, Calls Tryz.prog 74 #[Msc.sv m.s] w fun e w' => e = .returned (.tuple #[.string S, .int .i64 E]) ∧ Below w.heap.size w w') (w : World) :
 Calls Tryz.prog 55 #[mv m] w fun e w' => e = .returned (.tuple #[.int .u8 56, .string S]) ∧ Below w.heap.size w w' := by
 have hq : (m.k : Int) = 2 := in_k (n := m.k) (k := 2) hk
 clear hk
 have CPh := Lib.hid CP
 clear CP
 go_enter Tryz.func55, Tryz.ntmps55
 go_wp2_with (first
  | ((with_reducible refine bxm (m := m) ?hx ?_); (case hx => rfl); intro b1 wx h1 F1; have HX := Lib.hid h1; have HB := Lib.hid F1.below; obtain ⟨c0, c1, c18, c19⟩ := flds h1; clear h1 F1)
  | ((with_reducible refine lds isSr HX.out ?hx ?_); (case hx => rfl))
  | (go_at_call 74; ((with_reducible refine (CPh.out _).mono ?_); rintro e w2 ⟨rfl, hb⟩; replace HB := Lib.hid (below_on HB.out hb); clear hb c0 c1 c18 c19)))
 go_ret2
 exact ⟨rfl, HB.out⟩
theorem rvalue_7 (m : Ms) (hk : m.k = 7) (w : World) :
 Calls Tryz.prog 55 #[mv m] w fun e w' => e = .returned (.tuple #[.int .u8 4, .string (one m.t)]) ∧ Below w.heap.size w w' := by
 have hq : (m.k : Int) = 7 := in_k (n := m.k) (k := 7) hk
 clear hk
 have hcv : ∀ (W : World) (b : Nat), W.cell? ⟨b, 0, none⟩ = some (.int .u8 (m.t : Int)) → (convert 126 9 (.slice (some ⟨b, 0, none⟩) 1 1)).run Tryz.prog W = .ok (.string (one m.t)) W := fun W b h0 => conv_at1 W b _ h0
 generalize one m.t = S at *
 go_enter Tryz.func55, Tryz.ntmps55
 go_wp2_with (first
  | ((with_reducible refine bxm (m := m) ?hx ?_); (case hx => rfl); intro b1 wx h1 F1; have HX := Lib.hid h1; have HB := Lib.hid F1.below; obtain ⟨c0, c1, c18, c19⟩ := flds h1; clear h1 F1))
 go_region
 all_goals
  go_wp2
  go_ret2
  exact ⟨rfl, ((HB.out.drew).alloc HB.out.size _)⟩
theorem rvalue_8 (m : Ms) (hk : m.k = 8) (w : World) :
 Calls Tryz.prog 55 #[mv m] w fun e w' => e = .returned (.tuple #[.int .u8 (m.t : Int), .string m.b]) ∧ Below w.heap.size w w' := by
 have hq : (m.k : Int) = 8 := in_k (n := m.k) (k := 8) hk
 clear hk
 go_enter Tryz.func55, Tryz.ntmps55
 go_wp2_with (first
  | ((with_reducible refine bxm (m := m) ?hx ?_); (case hx => rfl); intro b1 wx h1 F1; have HX := Lib.hid h1; have HB := Lib.hid F1.below; obtain ⟨c0, c1, c18, c19⟩ := flds h1; clear h1 F1))
 go_quiet (fail)
 go_wp2
 go_ret2
 exact ⟨rfl, below_drewN HB.out _⟩
theorem rvalue_3 (m : Ms) (hk : m.k = 3) (w : World) :
 Calls Tryz.prog 55 #[mv m] w fun e w' => e = .returned (.tuple #[.int .u8 (tyN 3 : Int), .string m.b]) ∧ Below w.heap.size w w' := by
 have hq : (m.k : Int) = 3 := in_k (n := m.k) (k := 3) hk
 clear hk
 have hwr : IntKind.u8.wrap 2 = 2 := by decide
 go_enter Tryz.func55, Tryz.ntmps55
 go_wp2_with (first
  | ((with_reducible refine bxm (m := m) ?hx ?_); (case hx => rfl); intro b1 wx h1 F1; have HX := Lib.hid h1; have HB := Lib.hid F1.below; obtain ⟨c0, c1, c18, c19⟩ := flds h1; clear h1 F1))
 refine wp_region_held_drew (S := fun w' => Below wx.heap.size wx w') (by kernel_rfl) (Below.refl _ _).drew (fun hHeld => ?_)
 refine' tk9 1 rfl ?_
 refine' tv9 2 rfl (by intro _ hSw; (try dsimp only at hSw); obtain ⟨c0, c1, c18, c19⟩ := flds (stays HX.out hSw); go_simp <;> with_reducible rfl) ?_
 refine' tk9 3 rfl ?_
 refine' tk9 6 rfl ?_
 refine' tv9 7 rfl (by intro _ hSw; (try dsimp only at hSw); obtain ⟨c0, c1, c18, c19⟩ := flds (stays HX.out hSw); go_simp <;> with_reducible rfl) ?_
 refine ry [0] (.cons rfl (fun K hK => ?_) .nil)
 go_simp
 (with_reducible refine (rtypes _).mono ?_)
 rintro e wc ⟨rfl, hc, hb⟩
 go_wp2_with fail
 refine hK.out _ _ (below_on hHeld hb) (fun hNext => ?_)
 have hcell : wc.cell? ⟨wx.heap.size, 2, none⟩ = some (.int .u8 (tyN 3 : Int)) := hc 2 (by decide)
 clear hK K hHeld hb hc
 have hHeld := hNext; clear hNext
 (try simp only [Act.put, z1', z2', z3'])
 refine' tk9 4 rfl ?_
 refine ry [5] (.cons rfl (fun K hK => ?_) .nil)
 go_simp
 refine hK.out _ _ hHeld (fun hNext => ?_)
 clear hK K hHeld
 have hHeld := hNext; clear hNext
 (try simp only [Act.put, z1', z2', z3'])
 refine' tk9 8 rfl ?_
 refine' tk9 9 rfl ?_
 refine wpAnyH_done (by kernel_rfl) ?_ _
 go_wp2
 go_ret2
 exact ⟨rfl, below_on HB.out hHeld⟩
theorem rvalue_4 (m : Ms) (hk : m.k = 4) (w : World) :
 Calls Tryz.prog 55 #[mv m] w fun e w' => e = .returned (.tuple #[.int .u8 (tyN 4 : Int), .string m.b]) ∧ Below w.heap.size w w' := by
 have hq : (m.k : Int) = 4 := in_k (n := m.k) (k := 4) hk
 clear hk
 have hwr : IntKind.u8.wrap 3 = 3 := by decide
 go_enter Tryz.func55, Tryz.ntmps55
 go_wp2_with (first
  | ((with_reducible refine bxm (m := m) ?hx ?_); (case hx => rfl); intro b1 wx h1 F1; have HX := Lib.hid h1; have HB := Lib.hid F1.below; obtain ⟨c0, c1, c18, c19⟩ := flds h1; clear h1 F1))
 refine wp_region_held_drew (S := fun w' => Below wx.heap.size wx w') (by kernel_rfl) (Below.refl _ _).drew (fun hHeld => ?_)
 refine' tk9 1 rfl ?_
 refine' tv9 2 rfl (by intro _ hSw; (try dsimp only at hSw); obtain ⟨c0, c1, c18, c19⟩ := flds (stays HX.out hSw); go_simp <;> with_reducible rfl) ?_
 refine' tk9 3 rfl ?_
 refine' tk9 6 rfl ?_
 refine' tv9 7 rfl (by intro _ hSw; (try dsimp only at hSw); obtain ⟨c0, c1, c18, c19⟩ := flds (stays HX.out hSw); go_simp <;> with_reducible rfl) ?_
 refine ry [0] (.cons rfl (fun K hK => ?_) .nil)
 go_simp
 (with_reducible refine (rtypes _).mono ?_)
 rintro e wc ⟨rfl, hc, hb⟩
 go_wp2_with fail
 refine hK.out _ _ (below_on hHeld hb) (fun hNext => ?_)
 have hcell : wc.cell? ⟨wx.heap.size, 3, none⟩ = some (.int .u8 (tyN 4 : Int)) := hc 3 (by decide)
 clear hK K hHeld hb hc
 have hHeld := hNext; clear hNext
 (try simp only [Act.put, z1', z2', z3'])
 refine' tk9 4 rfl ?_
 refine ry [5] (.cons rfl (fun K hK => ?_) .nil)
 go_simp
 refine hK.out _ _ hHeld (fun hNext => ?_)
 clear hK K hHeld
 have hHeld := hNext; clear hNext
 (try simp only [Act.put, z1', z2', z3'])
 refine' tk9 8 rfl ?_
 refine' tk9 9 rfl ?_
 refine wpAnyH_done (by kernel_rfl) ?_ _
 go_wp2
 go_ret2
 exact ⟨rfl, below_on HB.out hHeld⟩
theorem rvalue_5 (m : Ms) (hk : m.k = 5) (w : World) :
 Calls Tryz.prog 55 #[mv m] w fun e w' => e = .returned (.tuple #[.int .u8 (tyN 5 : Int), .string m.b]) ∧ Below w.heap.size w w' := by
 have hq : (m.k : Int) = 5 := in_k (n := m.k) (k := 5) hk
 clear hk
 have hwr : IntKind.u8.wrap 4 = 4 := by decide
 go_enter Tryz.func55, Tryz.ntmps55
 go_wp2_with (first
  | ((with_reducible refine bxm (m := m) ?hx ?_); (case hx => rfl); intro b1 wx h1 F1; have HX := Lib.hid h1; have HB := Lib.hid F1.below; obtain ⟨c0, c1, c18, c19⟩ := flds h1; clear h1 F1))
 refine wp_region_held_drew (S := fun w' => Below wx.heap.size wx w') (by kernel_rfl) (Below.refl _ _).drew (fun hHeld => ?_)
 refine' tk9 1 rfl ?_
 refine' tv9 2 rfl (by intro _ hSw; (try dsimp only at hSw); obtain ⟨c0, c1, c18, c19⟩ := flds (stays HX.out hSw); go_simp <;> with_reducible rfl) ?_
 refine' tk9 3 rfl ?_
 refine' tk9 6 rfl ?_
 refine' tv9 7 rfl (by intro _ hSw; (try dsimp only at hSw); obtain ⟨c0, c1, c18, c19⟩ := flds (stays HX.out hSw); go_simp <;> with_reducible rfl) ?_
 refine ry [0] (.cons rfl (fun K hK => ?_) .nil)
 go_simp
 (with_reducible refine (rtypes _).mono ?_)
 rintro e wc ⟨rfl, hc, hb⟩
 go_wp2_with fail
 refine hK.out _ _ (below_on hHeld hb) (fun hNext => ?_)
 have hcell : wc.cell? ⟨wx.heap.size, 4, none⟩ = some (.int .u8 (tyN 5 : Int)) := hc 4 (by decide)
 clear hK K hHeld hb hc
 have hHeld := hNext; clear hNext
 (try simp only [Act.put, z1', z2', z3'])
 refine' tk9 4 rfl ?_
 refine ry [5] (.cons rfl (fun K hK => ?_) .nil)
 go_simp
 refine hK.out _ _ hHeld (fun hNext => ?_)
 clear hK K hHeld
 have hHeld := hNext; clear hNext
 (try simp only [Act.put, z1', z2', z3'])
 refine' tk9 8 rfl ?_
 refine' tk9 9 rfl ?_
 refine wpAnyH_done (by kernel_rfl) ?_ _
 go_wp2
 go_ret2
 exact ⟨rfl, below_on HB.out hHeld⟩
theorem rvalue_6 (m : Ms) (hk : m.k = 6) (w : World) :
 Calls Tryz.prog 55 #[mv m] w fun e w' => e = .returned (.tuple #[.int .u8 (tyN 6 : Int), .string m.b]) ∧ Below w.heap.size w w' := by
 have hq : (m.k : Int) = 6 := in_k (n := m.k) (k := 6) hk
 clear hk
 have hwr : IntKind.u8.wrap 5 = 5 := by decide
 go_enter Tryz.func55, Tryz.ntmps55
 go_wp2_with (first
  | ((with_reducible refine bxm (m := m) ?hx ?_); (case hx => rfl); intro b1 wx h1 F1; have HX := Lib.hid h1; have HB := Lib.hid F1.below; obtain ⟨c0, c1, c18, c19⟩ := flds h1; clear h1 F1))
 refine wp_region_held_drew (S := fun w' => Below wx.heap.size wx w') (by kernel_rfl) (Below.refl _ _).drew (fun hHeld => ?_)
 refine' tk9 1 rfl ?_
 refine' tv9 2 rfl (by intro _ hSw; (try dsimp only at hSw); obtain ⟨c0, c1, c18, c19⟩ := flds (stays HX.out hSw); go_simp <;> with_reducible rfl) ?_
 refine' tk9 3 rfl ?_
 refine' tk9 6 rfl ?_
 refine' tv9 7 rfl (by intro _ hSw; (try dsimp only at hSw); obtain ⟨c0, c1, c18, c19⟩ := flds (stays HX.out hSw); go_simp <;> with_reducible rfl) ?_
 refine ry [0] (.cons rfl (fun K hK => ?_) .nil)
 go_simp
 (with_reducible refine (rtypes _).mono ?_)
 rintro e wc ⟨rfl, hc, hb⟩
 go_wp2_with fail
 refine hK.out _ _ (below_on hHeld hb) (fun hNext => ?_)
 have hcell : wc.cell? ⟨wx.heap.size, 5, none⟩ = some (.int .u8 (tyN 6 : Int)) := hc 5 (by decide)
 clear hK K hHeld hb hc
 have hHeld := hNext; clear hNext
 (try simp only [Act.put, z1', z2', z3'])
 refine' tk9 4 rfl ?_
 refine ry [5] (.cons rfl (fun K hK => ?_) .nil)
 go_simp
 refine hK.out _ _ hHeld (fun hNext => ?_)
 clear hK K hHeld
 have hHeld := hNext; clear hNext
 (try simp only [Act.put, z1', z2', z3'])
 refine' tk9 8 rfl ?_
 refine' tk9 9 rfl ?_
 refine wpAnyH_done (by kernel_rfl) ?_ _
 go_wp2
 go_ret2
 exact ⟨rfl, below_on HB.out hHeld⟩
theorem rvalue (m : Ms) (hi : m.In) (hm : may m = true) (w : World) :
 Calls Tryz.prog 55 #[mv m] w fun e w' => e = .returned (.tuple #[.int .u8 (ty m : Int), .string (val m)]) ∧ Below w.heap.size w w' := by
 have hk := may_k hm
 have h' : m.k = 1 ∨ m.k = 2 ∨ m.k = 3 ∨ m.k = 4 ∨ m.k = 5 ∨ m.k = 6 ∨ m.k = 7 ∨ m.k = 8 := by omega
 obtain ⟨-, hn⟩ := may_of hm
 have hb : m.k ≠ 5 → m.k ≠ 8 → m.b = no := fun h5 h8 => by
  have := congrArg Ms.b hn
  rw [this]; exact if_neg (fun h => h.elim h5 h8)
 rcases h' with h | h | h | h | h | h | h | h
 · have e1 : ty m = 32 := by unfold ty; rw [h]; rfl
   have e2 : val m = Pn.putS m.p := if_pos h
   rw [e1, e2]; exact rvalue_1 m h _ _ (fun w => Pn.rput m.p hi.p w) w
 · have e1 : ty m = 56 := by unfold ty; rw [h]; rfl
   have e2 : val m = Msc.putS m.s := by unfold val; rw [h]; rfl
   rw [e1, e2]; exact rvalue_2 m h _ _ (fun w => Msc.rput m.s hi.s w) w
 · have e1 : ty m = tyN 3 := by unfold ty; rw [h]; rfl
   have e2 : val m = m.b := by rw [hb (by omega) (by omega)]; unfold val; rw [h]; rfl
   rw [e1, e2]; exact rvalue_3 m h w
 · have e1 : ty m = tyN 4 := by unfold ty; rw [h]; rfl
   have e2 : val m = m.b := by rw [hb (by omega) (by omega)]; unfold val; rw [h]; rfl
   rw [e1, e2]; exact rvalue_4 m h w
 · have e1 : ty m = tyN 5 := by unfold ty; rw [h]; rfl
   have e2 : val m = m.b := by unfold val; rw [h]; rfl
   rw [e1, e2]; exact rvalue_5 m h w
 · have e1 : ty m = tyN 6 := by unfold ty; rw [h]; rfl
   have e2 : val m = m.b := by rw [hb (by omega) (by omega)]; unfold val; rw [h]; rfl
   rw [e1, e2]; exact rvalue_6 m h w
 · have e1 : ty m = 4 := by unfold ty; rw [h]; rfl
   have e2 : val m = one m.t := by unfold val; rw [h]; rfl
   rw [e1, e2]; exact rvalue_7 m h w
 · have e1 : ty m = m.t := if_pos h
   have e2 : val m = m.b := by unfold val; rw [h]; rfl
   rw [e1, e2]; exact rvalue_8 m h w
theorem rput_yes (m : Ms) (V S : ByteArray) (t E : Nat) (CM : ∀ w, Calls Tryz.prog 52 #[mv m] w fun e w' => e = .returned (.bool true) ∧ Below w.heap.size w w')
 (CV : ∀ w, Calls Tryz.prog 55 #[mv m] w fun e w' => e = .returned (.tuple #[.int .u8 (t : Int), .string V]) ∧ Below w.heap.size w w')
 (CP : ∀ w, Calls Tryz.prog 56 #[.int .u8 (t : Int), .bool m.c, .string V] w fun e w' => e = .returned (.tuple #[.string S, .int .i64 (E : Int)]) ∧ Below w.heap.size w w') (w : World) :
 Calls Tryz.prog 30 #[mv m] w fun e w' => e = .returned (.tuple #[.string S, .int .i64 (E : Int)]) ∧ Below w.heap.size w w' := by
 have CMh := Lib.hid CM
 have CVh := Lib.hid CV
 have CPh := Lib.hid CP
 clear CM CV CP
 go_enter Tryz.func30, Tryz.ntmps30
 go_wp2_with (first
  | ((with_reducible refine bxm (m := m) ?hx ?_); (case hx => rfl); intro b1 w1 h1 F1; have HM := Lib.hid h1; have HB := Lib.hid F1.below; clear h1 F1)
  | ((with_reducible refine ldm isR HM.out ?hx ?_); (case hx => rfl))
  | (go_at_call 52; ((with_reducible refine (CMh.out _).mono ?_); rintro e w2 ⟨rfl, hb⟩; replace HM := Lib.hid (stays HM.out hb); replace HB := Lib.hid (below_on HB.out hb); clear hb))
  | (go_at_call 55; ((with_reducible refine (CVh.out _).mono ?_); rintro e w3 ⟨rfl, hb⟩; replace HM := Lib.hid (stays HM.out hb); replace HB := Lib.hid (below_on HB.out hb); clear hb; obtain ⟨c0, c1, c18, c19⟩ := flds HM.out))
  | (go_at_call 56; ((with_reducible refine (CPh.out _).mono ?_); rintro e w4 ⟨rfl, hb⟩; replace HB := Lib.hid (below_on HB.out hb); clear hb)))
 go_ret2
 exact ⟨rfl, HB.out⟩
theorem rput_no (m : Ms) (CM : ∀ w, Calls Tryz.prog 52 #[mv m] w fun e w' => e = .returned (.bool false) ∧ Below w.heap.size w w') (w : World) :
 Calls Tryz.prog 30 #[mv m] w fun e w' => e = .returned (.tuple #[.string no, .int .i64 2]) ∧ Below w.heap.size w w' := by
 have CMh := Lib.hid CM
 clear CM
 go_enter Tryz.func30, Tryz.ntmps30
 go_wp2_with (first
  | ((with_reducible refine bxm (m := m) ?hx ?_); (case hx => rfl); intro b1 w1 h1 F1; have HM := Lib.hid h1; have HB := Lib.hid F1.below; clear h1 F1)
  | ((with_reducible refine ldm isR HM.out ?hx ?_); (case hx => rfl))
  | (go_at_call 52; ((with_reducible refine (CMh.out _).mono ?_); rintro e w2 ⟨rfl, hb⟩; replace HM := Lib.hid (stays HM.out hb); replace HB := Lib.hid (below_on HB.out hb); clear hb)))
 go_ret2
 exact ⟨rfl, HB.out⟩
theorem rput (m : Ms) (hi : m.In) (hb : m.b.size ≤ 281474976710656) (w : World) :
 Calls Tryz.prog 30 #[mv m] w fun e w' => e = .returned (.tuple #[.string (putS m), .int .i64 (putE m : Int)]) ∧ Below w.heap.size w w' := by
 have CM := fun w => rmay m hi w
 cases hm : may m
 · rw [hm] at CM
   have e1 : putS m = no := by unfold putS; rw [hm]; rfl
   have e2 : putE m = 2 := by unfold putE; rw [hm]; rfl
   rw [e1, e2]
   exact rput_no m CM w
 · rw [hm] at CM
   have e1 : putS m = Tlv.putS (ty m) m.c (val m) := by unfold putS; rw [hm]; rfl
   have e2 : putE m = Tlv.putE (ty m) (val m) := by unfold putE; rw [hm]; rfl
   have ht' := ty_le hm
   have hv := val_le m 281474976710656 (by decide) hb
   rw [e1, e2]
   exact rput_yes m _ _ _ _ CM (fun w => rvalue m hi hm w) (fun w => Tlv.rput _ (by omega) _ _ (by omega) w) w

theorem roctet_true (m : Ms) (hc : m.c = true) (V : ByteArray) (t : Nat) (ht : t ≤ 63) (CM : ∀ w, Calls Tryz.prog 52 #[mv m] w fun e w' => e = .returned (.bool true) ∧ Below w.heap.size w w')
 (CV : ∀ w, Calls Tryz.prog 55 #[mv m] w fun e w' => e = .returned (.tuple #[.int .u8 (t : Int), .string V]) ∧ Below w.heap.size w w') (w : World) :
 Calls Tryz.prog 80 #[mv m] w fun e w' => e = .returned (.int .u8 ((4 * t + 3 : Nat) : Int)) ∧ Below w.heap.size w w' := by
 have CMh := Lib.hid CM
 have CVh := Lib.hid CV
 clear CM CV
 go_enter Tryz.func80, Tryz.ntmps80
 go_wp2_with (first
  | ((with_reducible refine bxm (m := m) ?hx ?_); (case hx => rfl); intro b1 w1 h1 F1; have HM := Lib.hid h1; have HB := Lib.hid F1.below; clear h1 F1)
  | ((with_reducible refine ldm isR HM.out ?hx ?_); (case hx => rfl))
  | (go_at_call 52; ((with_reducible refine (CMh.out _).mono ?_); rintro e w2 ⟨rfl, hb⟩; replace HM := Lib.hid (stays HM.out hb); replace HB := Lib.hid (below_on HB.out hb); clear hb))
  | (go_at_call 55; ((with_reducible refine (CVh.out _).mono ?_); rintro e w3 ⟨rfl, hb⟩; replace HM := Lib.hid (stays HM.out hb); replace HB := Lib.hid (below_on HB.out hb); clear hb; obtain ⟨c0, c1, c18, c19⟩ := flds HM.out)))
 go_ret
 exact ⟨ret_int (by simp <;> omega), HB.out⟩
theorem roctet_false (m : Ms) (hc : m.c = false) (V : ByteArray) (t : Nat) (ht : t ≤ 63) (CM : ∀ w, Calls Tryz.prog 52 #[mv m] w fun e w' => e = .returned (.bool true) ∧ Below w.heap.size w w')
 (CV : ∀ w, Calls Tryz.prog 55 #[mv m] w fun e w' => e = .returned (.tuple #[.int .u8 (t : Int), .string V]) ∧ Below w.heap.size w w') (w : World) :
 Calls Tryz.prog 80 #[mv m] w fun e w' => e = .returned (.int .u8 ((4 * t + 1 : Nat) : Int)) ∧ Below w.heap.size w w' := by
 have CMh := Lib.hid CM
 have CVh := Lib.hid CV
 clear CM CV
 go_enter Tryz.func80, Tryz.ntmps80
 go_wp2_with (first
  | ((with_reducible refine bxm (m := m) ?hx ?_); (case hx => rfl); intro b1 w1 h1 F1; have HM := Lib.hid h1; have HB := Lib.hid F1.below; clear h1 F1)
  | ((with_reducible refine ldm isR HM.out ?hx ?_); (case hx => rfl))
  | (go_at_call 52; ((with_reducible refine (CMh.out _).mono ?_); rintro e w2 ⟨rfl, hb⟩; replace HM := Lib.hid (stays HM.out hb); replace HB := Lib.hid (below_on HB.out hb); clear hb))
  | (go_at_call 55; ((with_reducible refine (CVh.out _).mono ?_); rintro e w3 ⟨rfl, hb⟩; replace HM := Lib.hid (stays HM.out hb); replace HB := Lib.hid (below_on HB.out hb); clear hb; obtain ⟨c0, c1, c18, c19⟩ := flds HM.out)))
 go_ret
 exact ⟨ret_int (by simp <;> omega), HB.out⟩
theorem roctet_no (m : Ms) (CM : ∀ w, Calls Tryz.prog 52 #[mv m] w fun e w' => e = .returned (.bool false) ∧ Below w.heap.size w w') (w : World) :
 Calls Tryz.prog 80 #[mv m] w fun e w' => e = .returned (.int .u8 0) ∧ Below w.heap.size w w' := by
 have CMh := Lib.hid CM
 clear CM
 go_enter Tryz.func80, Tryz.ntmps80
 go_wp2_with (first
  | ((with_reducible refine bxm (m := m) ?hx ?_); (case hx => rfl); intro b1 w1 h1 F1; have HM := Lib.hid h1; have HB := Lib.hid F1.below; clear h1 F1)
  | ((with_reducible refine ldm isR HM.out ?hx ?_); (case hx => rfl))
  | (go_at_call 52; ((with_reducible refine (CMh.out _).mono ?_); rintro e w2 ⟨rfl, hb⟩; replace HM := Lib.hid (stays HM.out hb); replace HB := Lib.hid (below_on HB.out hb); clear hb)))
 go_ret
 exact ⟨rfl, HB.out⟩
theorem roctet (m : Ms) (hi : m.In) (w : World) :
 Calls Tryz.prog 80 #[mv m] w fun e w' => e = .returned (.int .u8 (oct m : Int)) ∧ Below w.heap.size w w' := by
 have CM := fun w => rmay m hi w
 cases hm : may m
 · rw [hm] at CM
   have e1 : oct m = 0 := by unfold oct; rw [hm]; rfl
   rw [e1]
   exact roctet_no m CM w
 · rw [hm] at CM
   have ht' := ty_le hm
   have CV := fun w => rvalue m hi hm w
   cases hc : m.c
   · have e1 : oct m = 4 * ty m + 1 := by unfold oct; rw [hm, hc]; show Ea.addr _ _ = _; rw [Ea.addr, if_neg (by omega)]; rfl
     rw [e1]
     exact roctet_false m hc _ _ ht' CM CV w
   · have e1 : oct m = 4 * ty m + 3 := by unfold oct; rw [hm, hc]; show Ea.addr _ _ = _; rw [Ea.addr, if_neg (by omega)]; rfl
     rw [e1]
     exact roctet_true m hc _ _ ht' CM CV w
end Go.Proofs.YtakkhdammmcjcaaGreatDoor.Msgs
namespace Go.Proofs.YtakkhdammmcjcaaGreatDoor.Ctl
open Go.RowKit Base Mem Msgs Cr
set_option maxRecDepth 20000
theorem wrap_nat (n : Nat) (h : n ≤ 9223372036854775807) : IntKind.i64.wrap (n : Int) = (n : Int) := by rw [IntKind.wrap_i64]; omega
section
variable {w w' : World} {c base b : Nat} {va vc : Value} {x : Ct}
theorem D.eqv (h : D w c base va vc x) (he : ∀ k, DS c va vc k → w'.heap[k]? = w.heap[k]?) : D w' c base va vc x :=
 ⟨(he c (.inl rfl)).trans h.hd, h.an.eqv fun g hg => he g (.inr (.inl hg)), own_keep h.cs fun g hg => he g (.inr (.inr hg)), h.ne, h.lo⟩
theorem D.mod (h : D w c base va vc x) (M : Mod b w w') (hb : ¬ DS c va vc b) : D w' c base va vc x := h.eqv fun k hk => M.rest k fun e => hb (e ▸ hk)
theorem D.not_new (h : D w c base va vc x) {k : Nat} (hk : w.heap.size ≤ k) : ¬ DS c va vc k := fun hs => by have := (h.own_lt k hs).2; omega
theorem D.free (h : D w c base va vc x) : ∀ i, w.frozen? ⟨c, i, none⟩ = false := h.hd.free
theorem ok_b {m : Ms} (h : m.Ok) : m.b.size ≤ 127 := by
 have h1 := (may_of h.may).2
 have h2 := h.few
 have hk := may_k h.may
 unfold val at h2
 have hb : m.b = if m.k = 5 ∨ m.k = 8 then m.b else no := congrArg Ms.b h1
 by_cases h5 : m.k = 5 ∨ m.k = 8
 · rw [if_neg (by omega), if_neg (by omega), if_neg (by omega), if_pos h5] at h2; exact h2
 · rw [if_neg h5] at hb; rw [hb]; show 0 ≤ 127; decide
theorem any_take {p : Wt → Bool} {l : List Wt} {k : Nat} {y : Wt} (hy : l[k]? = some y) : (l.take (k + 1)).any p = ((l.take k).any p || p y) := by
 rw [List.take_add_one, hy, List.any_append]; simp
set_option maxHeartbeats 2000000 in
theorem rhas (h : D w c base va vc x) (hx : x.Ok) : Calls Tryz.prog 17 #[ptr c] w fun e w' => e = .returned (.bool x.has) ∧ w = w' := by
 obtain ⟨oa, cap, rfl, ga⟩ := own_form h.cs
 obtain ⟨ob, capb, rfl⟩ := h.an.form
 obtain ⟨c8, c9, c10, c11⟩ := h.cells
 have hl := h.hd.lt
 have hfew := hx.few
 have hmany := hx.cs_few
 have HA : Hid (x.has = (x.cs.any (fun w => w.lf == 0) || decide (0 < x.an.length))) := Lib.hid (by
  unfold Ct.has
  congr 1
  cases x.an <;> rfl)
 have HO := Lib.hid h.cs
 clear h hx
 generalize x.has = q at HA ⊢
 obtain ⟨l, hcs⟩ : ∃ l, x.cs = l := ⟨_, rfl⟩
 rw [hcs] at ga HO HA c11 hmany
 obtain ⟨n, hln⟩ : ∃ n, l.length = n := ⟨_, rfl⟩
 rw [hln] at ga HO c11 hmany
 have HL := Lib.hid hln
 have GA := Lib.hid ga
 generalize x.an.length = z at HA c10 hfew
 clear hcs hln ga c8 c9
 go_enter Tryz.func17, Tryz.ntmps17
 go_wp2_with fail
 go_loopg [3] n (fun gm s wr => ∃ k : Nat, s = nm k ∧ n - k ≤ gm ∧ k ≤ n ∧ Hid ((l.take k).any (fun w => w.lf == 0) = false) ∧ w = wr)
 case atStart => exact ⟨0, rfl, by omega, by omega, Lib.hid rfl, rfl⟩
 case round =>
  obtain ⟨k, rfl, hgm, hkn, HK, rfl⟩ := hrel
  by_cases hlt : k < n
  · have t1 : decide ((k : Int) < (n : Int)) = true := decide_eq_true (by omega)
    have t2 : (k : Int) < (n : Int) := by omega
    have j0 : (0 : Int) ≤ (k : Int) := by omega
    have vk := wrap_nat (k + 1) (by omega)
    obtain ⟨g, rfl⟩ := GA.out k hlt
    obtain ⟨y, hy⟩ : ∃ y, l[k]? = some y := ⟨_, List.getElem?_eq_getElem (by rw [HL.out]; exact hlt)⟩
    obtain ⟨d0, d1, d2⟩ := elt_at HO.out hy
    have HN := Lib.hid (any_take (p := fun w => w.lf == 0) hy)
    by_cases hz : y.lf = 0
    · have u0 : ((y.lf : Int) == 0) = true := by rw [hz]; rfl
      have HQ : Hid (q = true) := Lib.hid (by
       rw [HA.out]
       have : l.any (fun w => w.lf == 0) = true := List.any_eq_true.2 ⟨y, List.mem_of_getElem? hy, by simp [hz]⟩
       rw [this, Bool.true_or])
      clear HN hz hy
      go_wp2
      go_ret
      exact ⟨by rw [HQ.out]; rfl, rfl⟩
    · have u0 : ((y.lf : Int) == 0) = false := Mem.beq_false (by omega)
      have HN2 : Hid ((l.take (k + 1)).any (fun w => w.lf == 0) = false) := Lib.hid (by
       rw [HN.out, HK.out, Bool.false_or]; exact beq_eq_false_iff_ne.2 hz)
      clear HN hz hy
      go_wp2
      go_roundg (n - (k + 1))
      case measure => omega
      case rel => exact ⟨k + 1, by first | rfl | go_num, Nat.le_refl _, by omega, HN2, rfl⟩
  · obtain rfl : k = n := by omega
    have t1 : decide ((k : Int) < (k : Int)) = false := decide_eq_false (by omega)
    have t2 : ¬ (k : Int) < (k : Int) := by omega
    have HQ : Hid (q = decide (0 < z)) := Lib.hid (by
     have := HK.out
     rw [List.take_of_length_le (by rw [HL.out]; exact Nat.le_refl _)] at this
     rw [HA.out, this, Bool.false_or])
    by_cases hz : 0 < z
    · have u0 : decide ((0 : Int) < (z : Int)) = true := decide_eq_true (by omega)
      have u1 : (0 : Int) < (z : Int) := by omega
      go_wp2
      go_ret
      exact ⟨by rw [HQ.out, decide_eq_true hz]; rfl, rfl⟩
    · have u0 : decide ((0 : Int) < (z : Int)) = false := decide_eq_false (by omega)
      have u1 : ¬ (0 : Int) < (z : Int) := by omega
      go_wp2
      go_ret
      exact ⟨by rw [HQ.out, decide_eq_false hz]; rfl, rfl⟩
/-- What a call leaves that turns nothing but its own. -/
structure Nx (w : World) (c base : Nat) (va vc : Value) (x : Ct) (w' : World) : Prop where
 d : ∃ va' vc', D w' c base va' vc' x ∧ ∀ k, DS c va' vc' k → DS c va vc k ∨ w.heap.size ≤ k
 chg : Chg (DS c va vc) w w'
theorem Nx.below (h : D w c base va vc x) (hb : Below w.heap.size w w') : Nx w c base va vc x w' := ⟨⟨va, vc, h.below hb, fun _ hk => .inl hk⟩, Chg.of_below hb⟩
/-- The document's own is made. -/
def pcl (p : Pn.Pr) : Array Value := #[.int .u8 p.d, .int .u8 p.f, .int .u8 p.c, .int .u8 p.r, .int .i64 p.t, .int .i64 p.n, .int .i64 p.z, .int .i64 p.k]
theorem built0 (p : Pn.Pr) (t n : Int) : Tryz.prog.built DT [(0, .agg (pcl p)), (1, .int .i64 t), (2, .int .i64 n)] = some #[.int .u8 p.d, .int .u8 p.f, .int .u8 p.c, .int .u8 p.r, .int .i64 p.t, .int .i64 p.n, .int .i64 p.z, .int .i64 p.k, .int .i64 t, .int .i64 n, .slice none 0 0, .slice none 0 0] := by kernel_rfl
theorem pcells {b : Nat} {p : Pn.Pr} {t : TypeId} (h : w.heap[b]? = some (.cells (pcl p) t (0, 0))) : w.cell? ⟨b, 0, none⟩ = some (.int .u8 p.d) ∧ w.cell? ⟨b, 1, none⟩ = some (.int .u8 p.f) ∧ w.cell? ⟨b, 2, none⟩ = some (.int .u8 p.c) ∧ w.cell? ⟨b, 3, none⟩ = some (.int .u8 p.r) ∧ w.cell? ⟨b, 4, none⟩ = some (.int .i64 p.t) ∧ w.cell? ⟨b, 5, none⟩ = some (.int .i64 p.n) ∧ w.cell? ⟨b, 6, none⟩ = some (.int .i64 p.z) ∧ w.cell? ⟨b, 7, none⟩ = some (.int .i64 p.k) :=
 ⟨cell_of h rfl, cell_of h rfl, cell_of h rfl, cell_of h rfl, cell_of h rfl, cell_of h rfl, cell_of h rfl, cell_of h rfl⟩
theorem brought_t (t : Int) : min (max t 1) 255 = (((min (max t 1) 255).toNat : Nat) : Int) := by omega
theorem brought_n (t : Int) : min (max t 0) 255 = (((min (max t 0) 255).toNat : Nat) : Int) := by omega
theorem bdB {ops : Array Oper} {rest : List Oper} {a : Act} {Q : Exit → Act → World → Prop} {d : Option Tmp} {ty : TypeId} {pos : String} {af : Array Edge} {T : Nat} {parts : Array (Nat × Operand)} {l : List (Nat × Value)} {c : Array Value} (hb : Tryz.prog.built T l = some c) (hl : (parts.map fun (i, x) => (i, a.eval x)).toList = l) (k : wpList Tryz.prog ops Q rest (a.put d (.agg c)) w) :
 wpList Tryz.prog ops Q ({ dst := d, op := .build T parts, type := ty, pos := pos, after := af, guard := none } :: rest) a w := by
 subst hl
 refine wpList_build rfl T parts rfl (by rw [hb]; rfl) ?_
 rw [hb]
 exact k
set_option maxHeartbeats 2000000 in
theorem rnew (p : Pn.Pr) (t2 n2 : Int) (w : World) : Calls Tryz.prog 12 #[Pn.pv p, .int .i64 t2, .int .i64 n2] w fun e w' => ∃ c, e = .returned (ptr c) ∧ D w' c w.heap.size (.slice none 0 0) (.slice none 0 0) (Ct.new p t2 n2) ∧ Below w.heap.size w w' := by
 have HC := Lib.hid (built0 (brought p) (min (max t2 1) 255) (min (max n2 0) 255))
 go_enter Tryz.func12, Tryz.ntmps12
 go_wp2_with (first
  | ((with_reducible refine bxz (pcl p) ?hx ?_); (case hx => rfl); intro b1 w1 h1 F1; obtain ⟨c0, c1, c2, c3, c4, c5, c6, c7⟩ := pcells h1; have f1 : ∀ i, w1.frozen? ⟨b1, i, none⟩ = false := fun _ => free_of h1; have l1 := lt_heap h1; have L1 := Lib.hid F1; clear h1 F1)
  | ((with_reducible refine bdB HC.out ?hl ?_); (case hl => kernel_rfl)))
 have HB := Lib.hid ((L1.out.below.setCell (p := ⟨b1, 5, none⟩) (L1.out.le (Below.refl _ _)) (.int .i64 (min (max p.n 1) 65535))).setCell (p := ⟨b1, 7, none⟩) (L1.out.le (Below.refl _ _)) (.int .i64 (min (max p.k 1) 7)))
 have hs : w1.heap.size = ((w1.setCell ⟨b1, 5, none⟩ (.int .i64 (min (max p.n 1) 65535))).setCell ⟨b1, 7, none⟩ (.int .i64 (min (max p.k 1) 7))).heap.size := by simp
 rw [hs]
 clear HC c0 c1 c2 c3 c4 c5 c6 c7 f1 l1 hs
 generalize (w1.setCell ⟨b1, 5, none⟩ (.int .i64 (min (max p.n 1) 65535))).setCell ⟨b1, 7, none⟩ (.int .i64 (min (max p.k 1) 7)) = w2 at HB ⊢
 go_ret
 refine ⟨_, rfl, ⟨?_, qz_nil _ _, ownS_nil _ _, fun k hk => (by cases hk), HB.out.size⟩, HB.out.alloc HB.out.size _⟩
 have e1 := brought_t t2
 have e2 := brought_n n2
 show (w2.alloc _).heap[w2.heap.size]? = _
 rw [e1, e2]
 exact nest w2 [_] 0 _ rfl
end
end Go.Proofs.YtakkhdammmcjcaaGreatDoor.Ctl
namespace Go.Proofs.YtakkhdammmcjcaaGreatDoor.Ctl
open Go.RowKit Base Mem Msgs Cr
set_option maxRecDepth 20000
section
variable {α : Type} {z : Nat} {fc : α → List Value} {w : World} {base n c : Nat} {o : Option Addr} {y : α} {r : List α}
/-- The first element of a row that is not empty, and the row without it. -/
theorem qz_uncons (hl : ∀ x, (fc x).length = z) (h : Qz z fc w base (.slice o n c) (y :: r)) :
 ∃ g off, o = some ⟨g, off, none⟩ ∧ n = r.length + 1 ∧ n ≤ c ∧ c ≤ 9223372036854775807 ∧ g < w.heap.size ∧ w.rangeAt g off (fc y) ∧ Qz z fc w base (.slice (some ⟨g, if c = 1 then off else off + z, none⟩) r.length (c - 1)) r := by
 rcases h with ⟨_, h⟩ | ⟨g, off, cap, hv, hb, hR⟩
 · cases h
 · injection hv with h1 h2 h3
   subst h1 h2 h3
   have hln := hR.len
   refine ⟨g, off, rfl, rfl, hln, hR.max, hR.lt, fun j v hv => ?_, ?_⟩
   · have hj : j < z := by rw [← hl y]; exact (List.getElem?_eq_some_iff.1 hv).1
     have := hR.cell 0 y rfl j hj
     rw [Nat.mul_zero, Nat.zero_add] at this
     exact this.trans hv
   · rw [List.length_cons] at hln
     by_cases hc : c = 1
     · rw [if_pos hc]
       have hr : r = [] := List.eq_nil_of_length_eq_zero (by omega)
       subst hr
       subst hc
       exact Qz.of hb ⟨Nat.zero_le _, by decide, hR.lt, fun i y hi => (by simp at hi), fun i hi => (by simp at hi), fun i hi => (by simp at hi)⟩ rfl
     · rw [if_neg hc]
       have := hR.drop 1 (by omega)
       rw [Nat.mul_one] at this
       exact Qz.of hb this rfl
end
section
variable {w w' : World} {c base b : Nat} {va vc va' vc' : Value} {x : Ct} {r : List Ms} {l : List Wt}
theorem D.set_an (h : D w c base va vc x) (hq : Qz 20 ml w base va' r) (ho : ∀ k, va'.ownBlock = some k → k ≠ c ∧ vc.ownBlock ≠ some k) : D (w.setCell ⟨c, 10, none⟩ va') c base va' vc { x with an := r } :=
 ⟨h.hd.set 10 va', hq.eqv fun g hg => set_other (ho g hg).1 _, own_keep h.cs fun g hg => set_other (fun e => by
  obtain ⟨cs, hc⟩ := own_blk h.cs hg
  exact ne_type h.hd hc (by decide) e.symm) _, ho, h.lo⟩
theorem D.set_cs (h : D w c base va vc x) (hq : OwnS WT 23 wl w base vc' l) (ho : ∀ k, va.ownBlock = some k → vc'.ownBlock ≠ some k) : D (w.setCell ⟨c, 11, none⟩ vc') c base va vc' { x with cs := l } :=
 ⟨h.hd.set 11 vc', h.an.eqv fun g hg => set_other (h.ne g hg).1 _, own_keep hq fun g hg => set_other (fun e => by
  obtain ⟨cs, hc⟩ := own_blk hq hg
  exact ne_type h.hd hc (by decide) e.symm) _, fun k hk => ⟨(h.ne k hk).1, ho k hk⟩, h.lo⟩
theorem chg_mod {S : Nat → Prop} {a : World} (h : Chg S a w) (M : Mod b w w') (hb : a.heap.size ≤ b) : Chg S a w' :=
 h.trans (T := fun k => k = b) ⟨M.os, M.tape, M.output, Nat.le_of_eq M.size.symm, fun k _ hk => M.rest k hk⟩ fun k hk e => by subst e; omega
set_option maxHeartbeats 4000000 in
theorem rnext_a (h : D w c base va vc x) (hx : x.Ok) (a : Ms) (ha : x.an = a :: r) : Calls Tryz.prog 29 #[ptr c] w fun e w' => e = .returned (.tuple #[.string (putS a), .int .u8 (ch a : Int), .bool true]) ∧ Nx w c base va vc { x with an := r } w' := by
 have hok := hx.an a (by rw [ha]; exact List.mem_cons_self)
 have CP := Lib.hid (fun w => rput a hok.in_ (by have := ok_b hok; omega) w)
 have CC := Lib.hid (fun w => rchannel a hok.in_ w)
 obtain ⟨oa, cap, rfl⟩ := h.an.form
 have hq := h.an
 rw [ha] at hq
 obtain ⟨g, off, rfl, hn, hcap, hmax, hgw, hr, hq2⟩ := qz_uncons ml_len hq
 have hlen : x.an.length = r.length + 1 := by rw [ha]; rfl
 rw [hlen] at h ⊢
 rw [hn] at hcap
 obtain ⟨z, hz⟩ : ∃ z, r.length = z := ⟨_, rfl⟩
 rw [hz] at h hcap hq2 ⊢
 obtain ⟨c8, c9, c10, c11⟩ := h.cells
 have hl := h.hd.lt
 have HD := Lib.hid h
 have HR := Lib.hid hr
 have HQ := Lib.hid hq2
 have z0 : ((z + 1 : Nat) : Int) = (z : Int) + 1 := by omega
 have z2 : decide ((0 : Int) < (z : Int) + 1) = true := decide_eq_true (by omega)
 have z4 : (0 : Int) < (z : Int) + 1 := by omega
 have z5 : (1 : Int) ≤ (z : Int) + 1 := by omega
 clear h hx ha hq hr hq2 hok hn hlen hz
 by_cases hc1 : cap = 1
 · subst hc1
   obtain rfl : z = 0 := by omega
   have h0 := HD.out
   have q0 := HQ.out
   rw [if_pos rfl] at q0
   rw [Nat.zero_add] at h0 c10 ⊢
   have HD := Lib.hid h0
   have HQ := Lib.hid q0
   clear z0 z2 z4 z5 h0 q0
   have HV : Hid (∀ k, (Value.slice (some ⟨g, off, none⟩) 0 0).ownBlock = some k → k ≠ c ∧ vc.ownBlock ≠ some k) := Lib.hid fun k hk => HD.out.ne k (by cases hk; rfl)
   go_enter Tryz.func29, Tryz.ntmps29
   go_wp2_with (first
    | ((with_reducible refine ldr (m := a) isR HR.out ?hx ?_); (case hx => rfl))
    | ((with_reducible refine alm zeroR ?_); intro b5 w1 h1 F1; have HD1 := Lib.hid (HD.out.below F1.below); have HQ1 := Lib.hid (HQ.out.below F1.below); have H5 := Lib.hid h1; have N5 := Lib.hid (HD.out.not_new (k := b5) (by rw [F1.eq]; exact Nat.le_refl _)); have L1 := Lib.hid F1; clear h1 F1 c8 c9 c10 c11 hl)
    | ((with_reducible refine stm (m := a) isR H5.out ?hx ?hy ?_); (case hx => rfl); (case hy => rfl); intro w2 h2 M2; have HD2 := Lib.hid (HD1.out.mod M2 N5.out); have HD3 := Lib.hid (HD2.out.set_an (HQ1.out.eqv fun k hk => M2.rest k fun e => N5.out (.inr (.inl (by subst e; cases hk; rfl)))) HV.out); have H7 := Lib.hid ((set_other (b := c) (c := b5) (o := 10) (fun e => N5.out (.inl e)) (.slice (some ⟨g, off, none⟩) 0 0)).trans h2); have HC := Lib.hid ((chg_mod (Chg.of_below (S := DS c (.slice (some ⟨g, off, none⟩) 1 1) vc) L1.out.below) M2 (by rw [L1.out.eq]; exact Nat.le_refl _)).setCell c 10 (.slice (some ⟨g, off, none⟩) 0 0) fun _ => .inl rfl); obtain ⟨c8, c9, c10, c11⟩ := HD2.out.cells; have hl := HD2.out.hd.lt; have hf := HD2.out.free; clear h2 M2)
    | ((with_reducible refine ldm isR H7.out ?hx ?_); (case hx => rfl))
    | (go_at_call 30; ((with_reducible refine (CP.out _).mono ?_); rintro e w4 ⟨rfl, hb⟩; have HD4 := Lib.hid (HD3.out.below hb); have H8 := Lib.hid (stays H7.out hb); have HC4 := Lib.hid (HC.out.on hb); clear hb c8 c9 c10 c11 hl hf))
    | ((with_reducible refine ldm isR H8.out ?hx ?_); (case hx => rfl))
    | (go_at_call 47; ((with_reducible refine (CC.out _).mono ?_); rintro e w5 ⟨rfl, hb⟩; have HD5 := Lib.hid (HD4.out.below hb); have HC5 := Lib.hid (HC4.out.on hb); clear hb)))
   go_ret3
   exact ⟨rfl, ⟨⟨_, _, HD5.out, fun k hk => .inl (by rcases hk with h | h | h; exact .inl h; exact .inr (.inl (by cases h; rfl)); exact .inr (.inr h))⟩, HC5.out⟩⟩
 · have hc2 : 1 < cap := by omega
   rw [if_neg hc1] at HQ
   have HV : Hid (∀ k, (Value.slice (some ⟨g, off + 20, none⟩) z (cap - 1)).ownBlock = some k → k ≠ c ∧ vc.ownBlock ≠ some k) := Lib.hid fun k hk => HD.out.ne k (by cases hk; rfl)
   go_enter Tryz.func29, Tryz.ntmps29
   go_wp2_with (first
    | ((with_reducible refine ldr (m := a) isR HR.out ?hx ?_); (case hx => rfl))
    | ((with_reducible refine alm zeroR ?_); intro b5 w1 h1 F1; have HD1 := Lib.hid (HD.out.below F1.below); have HQ1 := Lib.hid (HQ.out.below F1.below); have H5 := Lib.hid h1; have N5 := Lib.hid (HD.out.not_new (k := b5) (by rw [F1.eq]; exact Nat.le_refl _)); have L1 := Lib.hid F1; clear h1 F1 c8 c9 c10 c11 hl)
    | ((with_reducible refine stm (m := a) isR H5.out ?hx ?hy ?_); (case hx => rfl); (case hy => rfl); intro w2 h2 M2; have HD2 := Lib.hid (HD1.out.mod M2 N5.out); have HD3 := Lib.hid (HD2.out.set_an (HQ1.out.eqv fun k hk => M2.rest k fun e => N5.out (.inr (.inl (by subst e; cases hk; rfl)))) HV.out); have H7 := Lib.hid ((set_other (b := c) (c := b5) (o := 10) (fun e => N5.out (.inl e)) (.slice (some ⟨g, off + 20, none⟩) z (cap - 1))).trans h2); have HC := Lib.hid ((chg_mod (Chg.of_below (S := DS c (.slice (some ⟨g, off, none⟩) (z + 1) cap) vc) L1.out.below) M2 (by rw [L1.out.eq]; exact Nat.le_refl _)).setCell c 10 (.slice (some ⟨g, off + 20, none⟩) z (cap - 1)) fun _ => .inl rfl); obtain ⟨c8, c9, c10, c11⟩ := HD2.out.cells; have hl := HD2.out.hd.lt; have hf := HD2.out.free; clear h2 M2)
    | ((with_reducible refine ldm isR H7.out ?hx ?_); (case hx => rfl))
    | (go_at_call 30; ((with_reducible refine (CP.out _).mono ?_); rintro e w4 ⟨rfl, hb⟩; have HD4 := Lib.hid (HD3.out.below hb); have H8 := Lib.hid (stays H7.out hb); have HC4 := Lib.hid (HC.out.on hb); clear hb c8 c9 c10 c11 hl hf))
    | ((with_reducible refine ldm isR H8.out ?hx ?_); (case hx => rfl))
    | (go_at_call 47; ((with_reducible refine (CC.out _).mono ?_); rintro e w5 ⟨rfl, hb⟩; have HD5 := Lib.hid (HD4.out.below hb); have HC5 := Lib.hid (HC4.out.on hb); clear hb)))
   go_ret3
   exact ⟨rfl, ⟨⟨_, _, HD5.out, fun k hk => .inl (by rcases hk with h | h | h; exact .inl h; exact .inr (.inl (by cases h; rfl)); exact .inr (.inr h))⟩, HC5.out⟩⟩
end
end Go.Proofs.YtakkhdammmcjcaaGreatDoor.Ctl

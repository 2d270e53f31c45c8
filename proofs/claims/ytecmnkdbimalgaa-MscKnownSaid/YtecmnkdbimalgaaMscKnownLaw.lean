/-
  MscKnown answers true, and turns nothing that was there. No condition.
-/
import Derived.Test.YtecmnkdbimalgaaMscBackLaw
import Derived.Test.YtecmnkdbimalgaaMscPutLaw
import Derived.Test.YtecmnkdbimalgaaMscGetLaw
import Derived.Test.YtecmnkdbimalgaaMscBitsLaw
namespace Go.Proofs.Ytecmnkdbimalgaa.mscKnown
open Go.RowKit Go.Proofs.Ytecmnkdbimalgaa.Base Go.Proofs.Ytecmnkdbimalgaa.Mem Go.Proofs.Ytecmnkdbimalgaa.Msc
theorem conv_threeI (w : World) (a b c : Int) :
    (convert 40 9 (.slice (some ⟨w.heap.size, 0, none⟩) 3 3)).run Try.prog (w.alloc (.cells #[.int .u8 a, .int .u8 b, .int .u8 c] 5))
      = .ok (.string ⟨#[UInt8.ofNat a.toNat, UInt8.ofNat b.toNat, UInt8.ofNat c.toNat]⟩) (w.alloc (.cells #[.int .u8 a, .int .u8 b, .int .u8 c] 5)) :=
  conv_at3 (w.alloc (.cells #[.int .u8 a, .int .u8 b, .int .u8 c] 5)) w.heap.size a b c (cell_new w _ _ 0) (cell_new w _ _ 1) (cell_new w _ _ 2)
abbrev Good (f : FuncId) (args : Array Value) : Prop := ∀ w, Calls Try.prog f args w fun e w' => e = .returned (.bool true) ∧ Below w.heap.size w w'
theorem goodP (p : St) (h : p.In) : Good 3 #[sv p] := fun w => mscPut.law p h w
theorem goodI (p : St) (h : p.In) : Good 6 #[sv p] := fun w => mscBits.law p h w
theorem goodG (v : ByteArray) (h : v.size ≤ 1000) : Good 4 #[.string v] := fun w => mscGet.law v (by unfold maxLen; omega) w
theorem goodB (p q : St) (v : ByteArray) (hp : p.In) (hq : q.In) (h : v.size ≤ 1000) : Good 5 #[sv p, sv q, .string v] := fun w => mscBack.law p hp q hq v (by unfold maxLen; omega) w
abbrev numsO : Obj := .cells #[.int .u8 0, .int .u8 3, .int .u8 83, .int .u8 243, .int .u8 81, .int .u8 67, .int .u8 255] 5
theorem nums_at {w : World} {b : Nat} (h : w.heap[b]? = some numsO) (j : Nat) (hj : j < 7) : ∃ n : Nat, n < 256 ∧ w.cell? ⟨b, j, none⟩ = some (.int .u8 (n : Int)) := by
  match j, hj with
  | 0, _ => exact ⟨0, by decide, cell_of h rfl⟩
  | 1, _ => exact ⟨3, by decide, cell_of h rfl⟩
  | 2, _ => exact ⟨83, by decide, cell_of h rfl⟩
  | 3, _ => exact ⟨243, by decide, cell_of h rfl⟩
  | 4, _ => exact ⟨81, by decide, cell_of h rfl⟩
  | 5, _ => exact ⟨67, by decide, cell_of h rfl⟩
  | 6, _ => exact ⟨255, by decide, cell_of h rfl⟩
set_option maxRecDepth 100000 in
set_option maxHeartbeats 2000000 in
theorem law (w : World) :
    Calls Try.prog 7 #[] w fun e w' => e = .returned (.bool true) ∧ Below w.heap.size w w' := by
  have GE0 : Hid (Good 4 #[.string ⟨#[]⟩]) := Lib.hid (goodG ⟨#[]⟩ (by decide))
  have GE1 : Hid (Good 4 #[.string ⟨#[7, 2]⟩]) := Lib.hid (goodG ⟨#[7, 2]⟩ (by decide))
  have GE2 : Hid (Good 4 #[.string ⟨#[7, 2, 83, 1]⟩]) := Lib.hid (goodG ⟨#[7, 2, 83, 1]⟩ (by decide))
  have GW : Hid (Good 13 #[]) := Lib.hid (fun w => works w)
  go_enter Try.func7, Try.ntmps7
  go_wp2
  go_loopw [1] (fun i wr => ∃ k : Nat, k ≤ 256 ∧ i = .int .i64 k ∧ Hid (Below w.heap.size w wr)) (fun i _ => 256 - (intOf i).toNat)
  case atStart => exact ⟨0, by omega, rfl, Lib.hid (Below.refl _ _)⟩
  case round =>
    obtain ⟨k, hk, rfl, HB⟩ := hrel
    by_cases hlt : k < 256
    · have hd : decide ((k : Int) < 256) = true := by simp; omega
      have qk : IntKind.u8.wrap (k : Int) = (k : Int) := by rw [IntKind.wrap_u8]; omega
      go_upto_region 4 with fail
      have HO : Hid ((wr.alloc numsO).heap[wr.heap.size]? = some numsO) := Lib.hid (nest wr [numsO] 0 _ rfl)
      have HB3 : Hid (Below w.heap.size w (wr.alloc numsO)) := Lib.hid (HB.out.alloc HB.out.size _)
      clear HB
      go_wp2
      generalize wr.heap.size = b at HO ⊢
      generalize wr.alloc numsO = w3 at *
      go_loopw [12] (fun i wr => ∃ j : Nat, j ≤ 7 ∧ i = .int .i64 j ∧ Hid (Below w3.heap.size w3 wr)) (fun i _ => 7 - (intOf i).toNat)
      case atStart => exact ⟨0, by omega, rfl, Lib.hid (Below.refl _ _)⟩
      case round =>
        obtain ⟨j, hj, rfl, HB⟩ := hrel
        by_cases hlj : j < 7
        · have hdj : decide ((j : Int) < 7) = true := by simp; omega
          obtain ⟨m, hm, hcell⟩ := nums_at (stays HO.out HB.out) j hlj
          have hj0 : (0 : Int) ≤ (j : Int) := by omega
          have hj1 : (j : Int) < 7 := by omega
          obtain ⟨U3, hU3⟩ : ∃ U3 : ByteArray, (⟨#[UInt8.ofNat (7 : Int).toNat, UInt8.ofNat ((k : Int) : Int).toNat, UInt8.ofNat ((m : Int) : Int).toNat]⟩ : ByteArray) = U3 := ⟨_, rfl⟩
          obtain ⟨U2, hU2⟩ : ∃ U2 : ByteArray, (⟨#[UInt8.ofNat ((m : Int) : Int).toNat, UInt8.ofNat ((k : Int) : Int).toNat]⟩ : ByteArray) = U2 := ⟨_, rfl⟩
          have G3 : Hid (Good 4 #[.string U3]) := Lib.hid (goodG U3 (by rw [← hU3]; show 3 ≤ 1000; decide))
          have G2 : Hid (Good 4 #[.string U2]) := Lib.hid (goodG U2 (by rw [← hU2]; show 2 ≤ 1000; decide))
          have hc3 : ∀ W : World, (convert 40 9 (.slice (some ⟨W.heap.size, 0, none⟩) 3 3)).run Try.prog (W.alloc (.cells #[.int .u8 7, .int .u8 (k : Int), .int .u8 (m : Int)] 5)) = .ok (.string U3) (W.alloc (.cells #[.int .u8 7, .int .u8 (k : Int), .int .u8 (m : Int)] 5)) := fun W => by rw [← hU3]; exact conv_threeI W 7 (k : Int) (m : Int)
          have hc2 : ∀ W : World, (convert 40 9 (.slice (some ⟨W.heap.size, 0, none⟩) 2 2)).run Try.prog (W.alloc (.cells #[.int .u8 (m : Int), .int .u8 (k : Int)] 5)) = .ok (.string U2) (W.alloc (.cells #[.int .u8 (m : Int), .int .u8 (k : Int)] 5)) := fun W => by rw [← hU2]; exact conv_twoI W (m : Int) (k : Int)
          clear hU3 hU2
          obtain ⟨wo, rfl⟩ : ∃ wo : World, wo = wr := ⟨_, rfl⟩
          go_wp2_with (first
            | (go_at_call 4; ((with_reducible refine (G3.out _).mono ?_); rintro e wg ⟨rfl, hb⟩; have HG1 := Lib.hid (on_new HB.out hb); clear hcell; clear hb))
            | (go_at_call 4; ((with_reducible refine (G2.out _).mono ?_); rintro e wg2 ⟨rfl, hb⟩; have HG2 := Lib.hid (on_new HG1.out hb); clear hb)))
          go_roundw
          case rel => exact ⟨j + 1, by omega, by go_num, HG2⟩
          case measure => simp [intOf]; omega
        · have hdj : decide ((j : Int) < 7) = false := by simp; omega
          have HB4 : Hid (Below w.heap.size w wr) := Lib.hid (HB3.out.trans (HB.out.mono HB3.out.size))
          clear HB HO HB3
          obtain ⟨a, ha, ha2⟩ : ∃ a : Nat, (k : Int) % 66 = (a : Int) ∧ a < 256 := ⟨k % 66, by omega, by omega⟩
          obtain ⟨d, hd, hd2⟩ : ∃ d : Nat, (k : Int) % 18 = (d : Int) ∧ d < 256 := ⟨k % 18, by omega, by omega⟩
          have hat : (k : Int).tmod 66 = (a : Int) := by rw [Int.tmod_eq_emod_of_nonneg (by omega)]; exact ha
          have hdt : (k : Int).tmod 18 = (d : Int) := by rw [Int.tmod_eq_emod_of_nonneg (by omega)]; exact hd
          have qa : IntKind.u8.wrap (a : Int) = (a : Int) := by rw [IntKind.wrap_u8]; omega
          have qd : IntKind.u8.wrap (d : Int) = (d : Int) := by rw [IntKind.wrap_u8]; omega
          obtain ⟨b1, e1⟩ : ∃ x, (bits .and .i64 (k : Int) 1 == 0) = x := ⟨_, rfl⟩
          obtain ⟨b2, e2⟩ : ∃ x, (bits .and .i64 (k : Int) 2 == 0) = x := ⟨_, rfl⟩
          obtain ⟨b3, e3⟩ : ∃ x, (bits .and .i64 (k : Int) 4 == 0) = x := ⟨_, rfl⟩
          obtain ⟨b4, e4⟩ : ∃ x, (bits .and .i64 (k : Int) 8 == 0) = x := ⟨_, rfl⟩
          obtain ⟨b5, e5⟩ : ∃ x, (bits .and .i64 (k : Int) 16 == 0) = x := ⟨_, rfl⟩
          obtain ⟨b6, e6⟩ : ∃ x, (bits .and .i64 (k : Int) 32 == 0) = x := ⟨_, rfl⟩
          go_upto_region 13 with fail
          have HC0 : Hid (Below w.heap.size w ((wr.alloc (sO ⟨a, b1, b2, b3, b4, b5, b6, d⟩ 23)).alloc (sO ⟨a, b1, b2, b3, b4, !b5, b6, d⟩ 23))) := Lib.hid (below_on HB4.out (nest_below wr [_, _]))
          have FP0 : Hid (((wr.alloc (sO ⟨a, b1, b2, b3, b4, b5, b6, d⟩ 23)).alloc (sO ⟨a, b1, b2, b3, b4, !b5, b6, d⟩ 23)).heap[wr.heap.size]? = some (sO ⟨a, b1, b2, b3, b4, b5, b6, d⟩ 23)) := Lib.hid (nest wr [_, _] 0 _ rfl)
          have FQ0 : Hid (((wr.alloc (sO ⟨a, b1, b2, b3, b4, b5, b6, d⟩ 23)).alloc (sO ⟨a, b1, b2, b3, b4, !b5, b6, d⟩ 23)).heap[wr.heap.size + 1]? = some (sO ⟨a, b1, b2, b3, b4, !b5, b6, d⟩ 23)) := Lib.hid (nest wr [_, _] 1 _ rfl)
          clear HB4 e1 e2 e3 e4 e5 e6 hat hdt qa qd ha hd
          have in1 : St.In ⟨a, b1, b2, b3, b4, b5, b6, d⟩ := ⟨ha2, hd2⟩
          have in2 : St.In ⟨a, b1, b2, b3, b4, !b5, b6, d⟩ := ⟨ha2, hd2⟩
          generalize ((wr.alloc (sO ⟨a, b1, b2, b3, b4, b5, b6, d⟩ 23)).alloc (sO ⟨a, b1, b2, b3, b4, !b5, b6, d⟩ 23)) = wx at *
          obtain ⟨U1, hU1⟩ : ∃ U1 : ByteArray, (⟨#[UInt8.ofNat ((k : Int) : Int).toNat]⟩ : ByteArray) = U1 := ⟨_, rfl⟩
          obtain ⟨U0, hU0⟩ : ∃ U0 : ByteArray, (⟨#[UInt8.ofNat ((k : Int) : Int).toNat, UInt8.ofNat (13 : Int).toNat]⟩ : ByteArray) = U0 := ⟨_, rfl⟩
          have GP : Hid (Good 3 #[sv ⟨a, b1, b2, b3, b4, b5, b6, d⟩]) := Lib.hid (goodP _ in1)
          have GI : Hid (Good 6 #[sv ⟨a, b1, b2, b3, b4, b5, b6, d⟩]) := Lib.hid (goodI _ in1)
          have GB1 : Hid (Good 5 #[sv ⟨a, b1, b2, b3, b4, b5, b6, d⟩, sv ⟨a, b1, b2, b3, b4, !b5, b6, d⟩, .string U1]) := Lib.hid (goodB _ _ _ in1 in2 (by rw [← hU1]; show 1 ≤ 1000; decide))
          have GB2 : Hid (Good 5 #[sv ⟨a, b1, b2, b3, b4, b5, b6, d⟩, sv ⟨a, b1, b2, b3, b4, b5, b6, d⟩, .string U0]) := Lib.hid (goodB _ _ _ in1 in1 (by rw [← hU0]; show 2 ≤ 1000; decide))
          have hc1 : ∀ W : World, (convert 40 9 (.slice (some ⟨W.heap.size, 0, none⟩) 1 1)).run Try.prog (W.alloc (.cells #[.int .u8 (k : Int)] 5)) = .ok (.string U1) (W.alloc (.cells #[.int .u8 (k : Int)] 5)) := fun W => by rw [← hU1]; exact conv_oneI W (k : Int)
          have hc0 : ∀ W : World, (convert 40 9 (.slice (some ⟨W.heap.size, 0, none⟩) 2 2)).run Try.prog (W.alloc (.cells #[.int .u8 (k : Int), .int .u8 13] 5)) = .ok (.string U0) (W.alloc (.cells #[.int .u8 (k : Int), .int .u8 13] 5)) := fun W => by rw [← hU0]; exact conv_twoI W (k : Int) 13
          clear hU1 hU0 in1 in2 ha2 hd2
          obtain ⟨g0, g1, g2, g3, g4, g5, g6, g7⟩ := cells_of FP0.out; dsimp only at g0 g1 g2 g3 g4 g5 g6 g7
          obtain ⟨x0, x1, x2, x3, x4, x5, x6, x7⟩ := cells_of FQ0.out; dsimp only at x0 x1 x2 x3 x4 x5 x6 x7
          go_wp2_with (first
            | (go_at_call 3; ((with_reducible refine (GP.out _).mono ?_); rintro e wc1 ⟨rfl, hb⟩; have HC1 := Lib.hid (below_on HC0.out hb); have FP1 := Lib.hid (stays FP0.out hb); have FQ1 := Lib.hid (stays FQ0.out hb); clear g0 g1 g2 g3 g4 g5 g6 g7 x0 x1 x2 x3 x4 x5 x6 x7; obtain ⟨g0, g1, g2, g3, g4, g5, g6, g7⟩ := cells_of FP1.out; dsimp only at g0 g1 g2 g3 g4 g5 g6 g7; obtain ⟨x0, x1, x2, x3, x4, x5, x6, x7⟩ := cells_of FQ1.out; dsimp only at x0 x1 x2 x3 x4 x5 x6 x7; clear hb))
            | (go_at_call 6; ((with_reducible refine (GI.out _).mono ?_); rintro e wc2 ⟨rfl, hb⟩; have HC2 := Lib.hid (below_on HC1.out hb); have FP2 := Lib.hid (stays FP1.out hb); have FQ2 := Lib.hid (stays FQ1.out hb); clear g0 g1 g2 g3 g4 g5 g6 g7 x0 x1 x2 x3 x4 x5 x6 x7; obtain ⟨g0, g1, g2, g3, g4, g5, g6, g7⟩ := cells_of FP2.out; dsimp only at g0 g1 g2 g3 g4 g5 g6 g7; obtain ⟨x0, x1, x2, x3, x4, x5, x6, x7⟩ := cells_of FQ2.out; dsimp only at x0 x1 x2 x3 x4 x5 x6 x7; clear hb))
            | (go_at_call 5; ((with_reducible refine (GB1.out _).mono ?_); rintro e wc3 ⟨rfl, hb⟩; have HC3 := Lib.hid (on_new HC2.out hb); have FP3 := Lib.hid (stays FP2.out (on_new (Below.refl _ _) hb)); have FQ3 := Lib.hid (stays FQ2.out (on_new (Below.refl _ _) hb)); clear g0 g1 g2 g3 g4 g5 g6 g7 x0 x1 x2 x3 x4 x5 x6 x7; obtain ⟨g0, g1, g2, g3, g4, g5, g6, g7⟩ := cells_of FP3.out; dsimp only at g0 g1 g2 g3 g4 g5 g6 g7; obtain ⟨x0, x1, x2, x3, x4, x5, x6, x7⟩ := cells_of FQ3.out; dsimp only at x0 x1 x2 x3 x4 x5 x6 x7; clear hb))
            | (go_at_call 5; ((with_reducible refine (GB2.out _).mono ?_); rintro e wc4 ⟨rfl, hb⟩; have HC4 := Lib.hid (on_new HC3.out hb); clear hb)))
          go_roundw
          case rel => exact ⟨k + 1, by omega, by go_num, HC4⟩
          case measure => simp [intOf]; omega
    · have hd : decide ((k : Int) < 256) = false := by simp; omega
      go_wp2_with (first
        | (go_at_call 4; ((with_reducible refine (GE0.out _).mono ?_); rintro e wx1 ⟨rfl, hb⟩; have HX1 := Lib.hid (below_on HB.out hb); clear hb))
        | (go_at_call 4; ((with_reducible refine (GE1.out _).mono ?_); rintro e wx2 ⟨rfl, hb⟩; have HX2 := Lib.hid (below_on HX1.out hb); clear hb))
        | (go_at_call 4; ((with_reducible refine (GE2.out _).mono ?_); rintro e wx3 ⟨rfl, hb⟩; have HX3 := Lib.hid (below_on HX2.out hb); clear hb))
        | (go_at_call 13; ((with_reducible refine (GW.out _).mono ?_); rintro e wx4 ⟨rfl, hb⟩; have HX4 := Lib.hid (below_on HX3.out hb); clear hb)))
      go_ret
      exact ⟨rfl, HX4.out⟩
end Go.Proofs.Ytecmnkdbimalgaa.mscKnown

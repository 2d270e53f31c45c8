/-
  FieldKnown answers true, and turns nothing that was there. Condition: the table of the kinds' octets lies where the program lays it.
-/
import Derived.Test.YtabbjfecnhedpaaDoorFieldBackLaw
namespace Go.Proofs.YtabbjfecnhedpaaDoor.fieldKnown
open Go.RowKit Go.Proofs.YtabbjfecnhedpaaDoor.Field Go.Proofs.YtabbjfecnhedpaaDoor.Base
/-- How many octets below k say something. -/
def cnt : Nat → Nat
  | 0 => 0
  | k + 1 => cnt k + (if gK k = 0 then 0 else 1)
theorem cnt_le (k : Nat) : cnt k ≤ k := by
  induction k with
  | zero => exact Nat.le_refl _
  | succ k ih => rw [cnt]; split <;> omega
theorem cnt_no {k : Nat} (h : gK k = 0) : cnt (k + 1) = cnt k := by simp [cnt, h]
theorem cnt_ok {k : Nat} (h : gK k ≠ 0) : cnt (k + 1) = cnt k + 1 := by simp [cnt, h]
theorem cnt_all : cnt 256 = 188 := by decide +kernel
theorem get256 (k : Nat) (hk : k < 256) (w : World) (ht : Tab w) :
    Calls Tryd.prog 11 #[.int .u8 (k : Int)] w fun x w' => x = .returned (.tuple #[.int .u8 (gK k : Int), .bool (gPF k), .int .u8 (gNS k : Int), .int .u8 (gNR k : Int), .int .i64 (gE k : Int)]) ∧ Below w.heap.size w w' := getAt hk rfl rfl rfl rfl rfl w ht
theorem back256 (k : Nat) (hk : k < 256) (w : World) (ht : Tab w) :
    Calls Tryd.prog 6 #[.int .u8 ((k : Int) % 12), .bool ((k : Int) % 2 == 0), .int .u8 ((k : Int) % 9), .int .u8 ((k : Int) / 16 % 9), .int .u8 (k : Int)] w fun e w' => e = .returned (.bool true) ∧ Below w.heap.size w w' := by
  rw [show ((k : Int) % 12) = ((k % 12 : Nat) : Int) by omega, show ((k : Int) % 9) = ((k % 9 : Nat) : Int) by omega, show ((k : Int) / 16 % 9) = ((k / 16 % 9 : Nat) : Int) by omega]
  exact fieldBack.law _ (by omega) _ _ (by omega) _ (by omega) _ hk w ht
theorem put9 (k n : Nat) (b : Bool) (hk : k < 256) (hn : n < 256) (w : World) (ht : Tab w) :
    Calls Tryd.prog 3 #[.int .u8 (k : Int), .bool b, .int .u8 (n : Int), .int .u8 0] w fun e w' => e = .returned (.bool true) ∧ Below w.heap.size w w' := fieldPut.law k hk b n hn 0 (by decide) w ht
theorem put9' (k n : Nat) (hk : k < 256) (hn : n < 256) (w : World) (ht : Tab w) :
    Calls Tryd.prog 3 #[.int .u8 (k : Int), .bool true, .int .u8 0, .int .u8 (n : Int)] w fun e w' => e = .returned (.bool true) ∧ Below w.heap.size w w' := fieldPut.law k hk true 0 (by decide) n hn w ht
theorem put9'' (k n : Nat) (hk : k < 256) (hn : n ≤ 8) (w : World) (ht : Tab w) :
    Calls Tryd.prog 3 #[.int .u8 (k : Int), .bool false, .int .u8 (n : Int), .int .u8 (8 - (n : Int))] w fun e w' => e = .returned (.bool true) ∧ Below w.heap.size w w' := by
  rw [show (8 - (n : Int)) = ((8 - n : Nat) : Int) by omega]
  exact fieldPut.law k hk false n (by omega) (8 - n) (by omega) w ht
set_option maxRecDepth 100000 in
set_option maxHeartbeats 2000000 in
theorem law (w : World) (ht : Tab w) :
    Calls Tryd.prog 7 #[] w fun e w' => e = .returned (.bool true) ∧ Below w.heap.size w w' := by
  have HT := Lib.hid ht
  clear ht
  go_enter Tryd.func7, Tryd.ntmps7
  go_wp2
  go_loopw [1, 2] (fun s i wr => ∃ k : Nat, k ≤ 256 ∧ i = .int .i64 (k : Int) ∧ s = .int .i64 (cnt k : Int) ∧ Hid (Below w.heap.size w wr)) (fun _ i _ => 256 - (intOf i).toNat)
  case atStart => exact ⟨0, by omega, rfl, rfl, Lib.hid (Below.refl _ _)⟩
  case round =>
    obtain ⟨k, hk, rfl, rfl, HB⟩ := hrel
    have hcl := cnt_le k
    by_cases hlt : k < 256
    · have HTa := Lib.hid (tab_below HT.out HB.out)
      have CB := Lib.hid (back256 k hlt)
      have CG := Lib.hid (get256 k hlt)
      by_cases hg : gK k = 0
      · have HS := Lib.hid (cnt_no hg)
        have q : ((gE k : Int) == 0) = false := by rw [gE_no hg]; rfl
        clear hg
        go_wp2_with (first
          | (go_at_call 11; ((with_reducible refine (CG.out _ HTa.out).mono ?_); rintro e w1 ⟨rfl, hb⟩; have HBb : Hid (Below w.heap.size w w1) := Lib.hid (below_on HB.out hb); clear hb; have HTb := Lib.hid (tab_below HT.out HBb.out)))
          | (go_at_call 4; ((with_reducible refine (fieldGet.law _ hlt _ HTb.out).mono ?_); rintro e w2 ⟨rfl, hb⟩; have HBc : Hid (Below w.heap.size w w2) := Lib.hid (below_on HBb.out hb); clear hb; have HTc := Lib.hid (tab_below HT.out HBc.out)))
          | (go_at_call 6; ((with_reducible refine (CB.out _ HTc.out).mono ?_); rintro e w3 ⟨rfl, hb⟩; have HBd : Hid (Below w.heap.size w w3) := Lib.hid (below_on HBc.out hb); clear hb; have HTd := Lib.hid (tab_below HT.out HBd.out)))
          | (go_at_call 5; ((with_reducible refine (fieldKinds.law _ hlt _ _ HTd.out).mono ?_); rintro e w4 ⟨rfl, hb⟩; have HBf : Hid (Below w.heap.size w w4) := Lib.hid (below_on HBd.out hb); clear hb)))
        go_roundw
        case rel => exact ⟨k + 1, by omega, by go_num, by rw [HS.out], HBf⟩
        case measure => simp [intOf]; omega
      · have HS := Lib.hid (cnt_ok hg)
        have q : ((gE k : Int) == 0) = true := by rw [gE_ok hg]; rfl
        clear hg
        go_wp2_with (first
          | (go_at_call 11; ((with_reducible refine (CG.out _ HTa.out).mono ?_); rintro e w1 ⟨rfl, hb⟩; have HBb : Hid (Below w.heap.size w w1) := Lib.hid (below_on HB.out hb); clear hb; have HTb := Lib.hid (tab_below HT.out HBb.out)))
          | (go_at_call 4; ((with_reducible refine (fieldGet.law _ hlt _ HTb.out).mono ?_); rintro e w2 ⟨rfl, hb⟩; have HBc : Hid (Below w.heap.size w w2) := Lib.hid (below_on HBb.out hb); clear hb; have HTc := Lib.hid (tab_below HT.out HBc.out)))
          | (go_at_call 6; ((with_reducible refine (CB.out _ HTc.out).mono ?_); rintro e w3 ⟨rfl, hb⟩; have HBd : Hid (Below w.heap.size w w3) := Lib.hid (below_on HBc.out hb); clear hb; have HTd := Lib.hid (tab_below HT.out HBd.out)))
          | (go_at_call 5; ((with_reducible refine (fieldKinds.law _ hlt _ _ HTd.out).mono ?_); rintro e w4 ⟨rfl, hb⟩; have HBf : Hid (Below w.heap.size w w4) := Lib.hid (below_on HBd.out hb); clear hb)))
        go_roundw
        case rel => exact ⟨k + 1, by omega, by go_num, by rw [HS.out]; go_num, HBf⟩
        case measure => simp [intOf]; omega
    · obtain rfl : k = 256 := by omega
      rw [show ((cnt 256 : Nat) : Int) = 188 by rw [cnt_all]; rfl, show ((256 : Nat) : Int) = 256 from rfl]
      clear hcl
      go_wp2
      obtain ⟨wo, rfl⟩ : ∃ wo : World, wo = wr := ⟨_, rfl⟩
      go_loopw [8] (fun i wr => ∃ k : Nat, k ≤ 13 ∧ i = .int .u8 (k : Int) ∧ Hid (Below w.heap.size w wr)) (fun i _ => 13 - (intOf i).toNat)
      case atStart => exact ⟨0, by omega, rfl, HB⟩
      case round =>
        obtain ⟨k, hk, rfl, HB1⟩ := hrel
        by_cases hk2 : k < 13
        · have hd : decide ((k : Int) < 13) = true := by simp; omega
          go_wp2
          obtain ⟨wp, rfl⟩ : ∃ wp : World, wp = wr := ⟨_, rfl⟩
          go_loopw [9] (fun i wr => ∃ n : Nat, n ≤ 9 ∧ i = .int .u8 (n : Int) ∧ Hid (Below w.heap.size w wr)) (fun i _ => 9 - (intOf i).toNat)
          case atStart => exact ⟨0, by omega, rfl, HB1⟩
          case round =>
            obtain ⟨n, hn, rfl, HB2⟩ := hrel
            by_cases hn2 : n < 9
            · have HTa := Lib.hid (tab_below HT.out HB2.out)
              go_wp2_with (first
                | (go_at_call 3; ((with_reducible refine (put9 _ _ _ (by omega) (by omega) _ HTa.out).mono ?_); rintro e w1 ⟨rfl, hb⟩; have HBb : Hid (Below w.heap.size w w1) := Lib.hid (below_on HB2.out hb); clear hb; have HTb := Lib.hid (tab_below HT.out HBb.out)))
                | (go_at_call 3; ((with_reducible refine (put9' _ _ (by omega) (by omega) _ HTb.out).mono ?_); rintro e w2 ⟨rfl, hb⟩; have HBc : Hid (Below w.heap.size w w2) := Lib.hid (below_on HBb.out hb); clear hb; have HTc := Lib.hid (tab_below HT.out HBc.out)))
                | (go_at_call 3; ((with_reducible refine (put9'' _ _ (by omega) (by omega) _ HTc.out).mono ?_); rintro e w3 ⟨rfl, hb⟩; have HBd : Hid (Below w.heap.size w w3) := Lib.hid (below_on HBc.out hb); clear hb)))
              go_roundw
              case rel => exact ⟨n + 1, by omega, by go_num, HBd⟩
              case measure => simp [intOf]; omega
            · go_wp2
              go_roundw
              case rel => exact ⟨k + 1, by omega, by go_num, HB2⟩
              case measure => simp [intOf]; omega
        · have HTa := Lib.hid (tab_below HT.out HB1.out)
          go_wp2_with (go_at_call 10; ((with_reducible refine (works _ HTa.out).mono ?_); rintro e w1 ⟨rfl, hb⟩; have HBb : Hid (Below w.heap.size w w1) := Lib.hid (below_on HB1.out hb); clear hb))
          go_ret
          exact ⟨rfl, HBb.out⟩
end Go.Proofs.YtabbjfecnhedpaaDoor.fieldKnown

/-
  TlvKnown answers true, and turns nothing that was there. No condition.
-/
import Derived.Test.YtlmfnjdbknfkjaaTlvLaws
import Derived.Test.YtlmfnjdbknfkjaaTlvRowsLaw
import Derived.Test.YtlmfnjdbknfkjaaZeros
namespace Go.Proofs.Ytlmfnjdbknfkjaa.tlvKnown
open Go.RowKit Go.Proofs.Ytlmfnjdbknfkjaa.Base Go.Proofs.Ytlmfnjdbknfkjaa.Tlv Go.Proofs.Ytlmfnjdbknfkjaa.Mem
/-- Two messages that were just laid. -/
abbrev twoO (v : ByteArray) : Obj := .cells #[.int .u8 5, .bool false, .string v, .int .u8 70, .bool true, .string ⟨#[97]⟩] 32
theorem rows_two (v : ByteArray) (hv : v.size ≤ 1000) (W : World) : Calls Try.prog 5 #[.slice (some ⟨W.heap.size, 0, none⟩) 2 2] (W.alloc (twoO v)) fun e w' => e = .returned (.bool true) ∧ Below W.heap.size W w' := by
  refine (tlvRows.law (some ⟨W.heap.size, 0, none⟩) 2 2 (fun k => if k = 0 then ⟨5, false, v⟩ else ⟨70, true, ⟨#[97]⟩⟩) (W.alloc (twoO v)) ⟨fun _ => ⟨_, rfl, by simp⟩, fun k hk => ?_, fun a ha k hk j hj => ?_⟩).mono fun _ _ ⟨he, hb⟩ => ⟨he, below_on ((Below.refl _ _).alloc (Nat.le_refl _) _) hb⟩
  · match k, hk with
    | 0, _ => exact ⟨(by decide : 5 < 256), by show v.size ≤ maxLen; unfold maxLen; omega⟩
    | 1, _ => exact ⟨(by decide : 70 < 256), (by decide : 1 ≤ maxLen)⟩
  · injection ha with ha
    subst ha
    rw [add_at, add_off, cell_new]
    match k, hk, j, hj with
    | 0, _, 0, _ => rfl
    | 0, _, 1, _ => rfl
    | 0, _, 2, _ => rfl
    | 1, _, 0, _ => rfl
    | 1, _, 1, _ => rfl
    | 1, _, 2, _ => rfl
abbrev sevenO : Obj := .cells #[.int .i64 0, .int .i64 1, .int .i64 126, .int .i64 127, .int .i64 128, .int .i64 129, .int .i64 400] 3
theorem seven_at {w : World} {b : Nat} (h : w.heap[b]? = some sevenO) (j : Nat) (hj : j < 7) : ∃ n : Nat, n ≤ 400 ∧ w.cell? ⟨b, j, none⟩ = some (.int .i64 (n : Int)) := by
  match j, hj with
  | 0, _ => exact ⟨0, by decide, cell_of h rfl⟩
  | 1, _ => exact ⟨1, by decide, cell_of h rfl⟩
  | 2, _ => exact ⟨126, by decide, cell_of h rfl⟩
  | 3, _ => exact ⟨127, by decide, cell_of h rfl⟩
  | 4, _ => exact ⟨128, by decide, cell_of h rfl⟩
  | 5, _ => exact ⟨129, by decide, cell_of h rfl⟩
  | 6, _ => exact ⟨400, by decide, cell_of h rfl⟩
abbrev Good (f : FuncId) (args : Array Value) : Prop := ∀ w, Calls Try.prog f args w fun e w' => e = .returned (.bool true) ∧ Below w.heap.size w w'
theorem goodG (s : ByteArray) (hs : s.size ≤ 1000) : Good 12 #[.string s] := fun w => tlvGet.law s (by unfold maxLen; omega) w
theorem goodA (s : ByteArray) (hs : s.size ≤ 1000) : Good 13 #[.string s] := fun w => tlvAll.law s (by unfold maxLen; omega) w
theorem goodP (k : Nat) (hk : k < 256) (c : Bool) (s : ByteArray) (hs : s.size ≤ 1000) : Good 3 #[.int .u8 (k : Int), .bool c, .string s] := fun w => tlvPut.law k hk c s (by unfold maxLen; omega) w
theorem goodB (k : Nat) (hk : k < 256) (c : Bool) (s : ByteArray) (hs : s.size ≤ 1000) (t : ByteArray) (ht : t.size ≤ 1000) : Good 4 #[.int .u8 (k : Int), .bool c, .string s, .string t] := fun w => tlvBack.law k hk c s (by unfold maxLen; omega) t (by unfold maxLen; omega) w
set_option maxRecDepth 100000 in
set_option maxHeartbeats 1000000 in
theorem law (w : World) :
    Calls Try.prog 6 #[] w fun e w' => e = .returned (.bool true) ∧ Below w.heap.size w w' := by
  go_enter Try.func6, Try.ntmps6
  go_wp2
  go_loopw [1] (fun i wr => ∃ k : Nat, k ≤ 256 ∧ i = .int .i64 k ∧ Hid (Below w.heap.size w wr)) (fun i _ => 256 - (intOf i).toNat)
  case atStart => exact ⟨0, by omega, rfl, Lib.hid (Below.refl _ _)⟩
  case round =>
    obtain ⟨k, hk, rfl, HB⟩ := hrel
    by_cases hlt : k < 256
    · have hd : decide ((k : Int) < 256) = true := by simp; omega
      obtain ⟨m, hm⟩ : ∃ m, 255 - k = m := ⟨_, rfl⟩
      have q1 : IntKind.u8.wrap (k : Int) = (k : Int) := wraps_u8 _ (by omega) (by omega)
      have q2 : IntKind.i64.wrap (m : Int) = (m : Int) := wraps_i64 _ (by omega) (by omega)
      have q3 : IntKind.u8.wrap (m : Int) = (m : Int) := wraps_u8 _ (by omega) (by omega)
      have q4 : 255 - (k : Int) = (m : Int) := by omega
      obtain ⟨A, hA⟩ : ∃ A, one k = A := ⟨_, rfl⟩
      obtain ⟨B, hB⟩ : ∃ B, two k m = B := ⟨_, rfl⟩
      have zA : A.size = 1 := by rw [← hA]; rfl
      have zB : B.size = 2 := by rw [← hB]; rfl
      have hcv1 : ∀ (W : World) (b : Nat), W.cell? ⟨b, 0, none⟩ = some (.int .u8 (k : Int)) → (convert 36 9 (.slice (some ⟨b, 0, none⟩) 1 1)).run Try.prog W = .ok (.string A) W := fun W b h0 => by rw [← hA]; exact conv_at1 W b _ h0
      have hcv2 : ∀ (W : World) (b : Nat), W.cell? ⟨b, 0, none⟩ = some (.int .u8 (k : Int)) → W.cell? ⟨b, 1, none⟩ = some (.int .u8 (m : Int)) → (convert 36 9 (.slice (some ⟨b, 0, none⟩) 2 2)).run Try.prog W = .ok (.string B) W := fun W b h0 h1 => by rw [← hB]; exact conv_at2 W b _ _ h0 h1
      clear hA hB hm
      go_wp2
      go_region_held (fun w' => Below wr.heap.size wr w')
        (first | exact (Below.refl _ _).drew | exact ((Below.refl _ _).alloc (Nat.le_refl _) _).drew | exact (((Below.refl _ _).alloc (Nat.le_refl _) _).alloc (by simp) _).drew)
        (fail)
      all_goals
        rename_i hX
        have HX := Lib.hid (below_on HB.out hX)
        clear hX hcv1 hcv2 q1 q2 q3 q4
        have za : ((⟨#[7]⟩ : ByteArray) ++ B).size = 3 := by rw [ByteArray.size_append, zB]; rfl
        have zb : ((⟨#[7]⟩ : ByteArray) ++ B ++ ⟨#[97, 98, 99, 100, 101, 102, 103, 104]⟩).size = 11 := by rw [ByteArray.size_append, za]; rfl
        have zc : ((⟨#[7, 3, 120]⟩ : ByteArray) ++ B).size = 5 := by rw [ByteArray.size_append, zB]; rfl
        have zd : (A ++ B).size = 3 := by rw [ByteArray.size_append, zA, zB]
        have G1 := Lib.hid (goodG A (by omega))
        have G2 := Lib.hid (goodG B (by omega))
        have G3 := Lib.hid (goodG _ (by rw [zb]; decide))
        have G4 := Lib.hid (goodA _ (by rw [zc]; decide))
        have G5 := Lib.hid (goodP k hlt true A (by omega))
        have G6 := Lib.hid (goodB k hlt false B (by omega) (A ++ B) (by omega))
        go_wp2_with (first
          | (go_at_call 12; (first | ((with_reducible refine (G1.out _).mono ?_); rintro e w1 ⟨rfl, hb⟩; have HX1 := Lib.hid (below_on HX.out hb); clear hb) | ((with_reducible refine (G2.out _).mono ?_); rintro e w2 ⟨rfl, hb⟩; have HX2 := Lib.hid (below_on HX1.out hb); clear hb) | ((with_reducible refine (G3.out _).mono ?_); rintro e w3 ⟨rfl, hb⟩; have HX3 := Lib.hid (below_on HX2.out hb); clear hb)))
          | (go_at_call 13; ((with_reducible refine (G4.out _).mono ?_); rintro e w4 ⟨rfl, hb⟩; have HX4 := Lib.hid (below_on HX3.out hb); clear hb))
          | (go_at_call 3; ((with_reducible refine (G5.out _).mono ?_); rintro e w5 ⟨rfl, hb⟩; have HX5 := Lib.hid (below_on HX4.out hb); clear hb))
          | (go_at_call 4; ((with_reducible refine (G6.out _).mono ?_); rintro e w6 ⟨rfl, hb⟩; have HX6 := Lib.hid (below_on HX5.out hb); clear hb)))
        go_roundw
        case rel => exact ⟨k + 1, by omega, by go_num, HX6⟩
        case measure => simp [intOf]; omega
    · go_wp2
      have HO : Hid ((wr.alloc sevenO).heap[wr.heap.size]? = some sevenO) := Lib.hid (nest wr [sevenO] 0 _ rfl)
      have HB0 := Lib.hid (HB.out.alloc HB.out.size sevenO)
      have HS : Hid (wr.heap.size < (wr.alloc sevenO).heap.size) := Lib.hid (by simp)
      generalize wr.alloc sevenO = w0 at HO HB0 HS ⊢
      generalize wr.heap.size = b at HO HS ⊢
      go_loopw [62] (fun i wr => ∃ j : Nat, j ≤ 7 ∧ i = .int .i64 (j : Int) ∧ Hid (Below w0.heap.size w0 wr)) (fun i _ => 7 - (intOf i).toNat)
      case atStart => exact ⟨0, by omega, rfl, Lib.hid (Below.refl _ _)⟩
      case round =>
        obtain ⟨j, hj, rfl, HB1⟩ := hrel
        have HBw : Hid (Below w.heap.size w wr) := Lib.hid (HB0.out.trans (HB1.out.mono HB0.out.size))
        by_cases hj2 : j < 7
        · obtain ⟨n, hn, hcell⟩ := seven_at (stays HO.out HB1.out) j hj2
          have hmk := make_zeros n (by omega) wr
          have hcv := conv_zeros n (wr.alloc (.cells (zeroV n) 5)) wr.heap.size (nest wr [_] 0 _ rfl)
          have zv := zeroS_size n
          generalize zeroS n = v at hcv zv
          have G5 : Hid (Good 3 #[.int .u8 3, .bool true, .string v]) := Lib.hid (goodP 3 (by decide) true v (by omega))
          have G6 : Hid (Good 4 #[.int .u8 3, .bool true, .string v, .string ⟨#[15, 3, 97]⟩]) := Lib.hid (goodB 3 (by decide) true v (by omega) ⟨#[15, 3, 97]⟩ (by decide))
          have G7 := Lib.hid (rows_two v (by omega))
          have j0 : (0 : Int) ≤ (j : Int) := by omega
          have j1 : (j : Int) < 7 := by omega
          go_wp2_with (first
            | (go_at_call 3; ((with_reducible refine (G5.out _).mono ?_); rintro e w5 ⟨rfl, hb⟩; have HX5 := Lib.hid (on_new HB1.out hb); clear hb))
            | (go_at_call 4; ((with_reducible refine (G6.out _).mono ?_); rintro e w6 ⟨rfl, hb⟩; have HX6 := Lib.hid (below_on HX5.out hb); clear hb))
            | (go_at_call 5; ((with_reducible refine (G7.out _).mono ?_); rintro e w7 ⟨rfl, hb⟩; have HX7 := Lib.hid (below_on HX6.out hb); clear hb)))
          go_roundw
          case rel => exact ⟨j + 1, by omega, by go_num, HX7⟩
          case measure => simp [intOf]; omega
        · have G4 := Lib.hid (goodA ⟨#[]⟩ (by decide))
          go_wp2_with (first
            | (go_at_call 13; ((with_reducible refine (G4.out _).mono ?_); rintro e w4 ⟨rfl, hb⟩; have HX4 := Lib.hid (below_on HBw.out hb); clear hb))
            | (go_at_call 7; ((with_reducible refine (works _).mono ?_); rintro e w5 ⟨rfl, hb⟩; have HX5 := Lib.hid (below_on HX4.out hb); clear hb)))
          go_ret
          exact ⟨rfl, HX5.out⟩
end Go.Proofs.Ytlmfnjdbknfkjaa.tlvKnown

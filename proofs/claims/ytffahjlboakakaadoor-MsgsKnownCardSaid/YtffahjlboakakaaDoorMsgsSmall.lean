/-
  What the small functions of layer 10, and of the document's own, answer: a type's Kind, a message's type, is a type unknown; none turns memory that was there. Condition: the table of the types lies where the program lays it.
-/
import Derived.Test.YtffahjlboakakaaDoorMsgsMem
import Derived.Test.YtffahjlboakakaaDoorOwnS
namespace Go.Proofs.YtffahjlboakakaaDoor.Msgs
open Go.RowKit Go.Proofs.YtffahjlboakakaaDoor.Base Go.Proofs.YtffahjlboakakaaDoor.Mem
/-- The table of the types lies where the program has it. -/
def Tab (w : World) : Prop := ∀ i : Nat, i < 8 → w.cell? ⟨0, i, none⟩ = some (.int .u8 (tyN i : Int))
theorem tab_pos {w : World} (h : Tab w) : 0 < w.heap.size := World.block_lt_of_cell? w ⟨0, 0, none⟩ (h 0 (by decide))
theorem tab_below {w w' : World} (h : Tab w) (hb : Below w.heap.size w w') : Tab w' := fun i hi => (hb.cell (p := ⟨0, i, none⟩) (tab_pos h)).trans (h i hi)
def tabL : List Int := [0, 32, 56, 40, 24, 8, 48, 4]
theorem tab_getD : ∀ i, i < 8 → tabL.getD i 0 = (tyN i : Int) := by decide
theorem fkindOf (t : Nat) (w : World) (ht : Tab w) :
    Calls Tryd.prog 48 #[.int .u8 (t : Int)] w fun e w' => e = .returned (.int .u8 (kOf t : Int)) ∧ w = w' := by
  have HT := Lib.hid ht
  clear ht
  go_enter Tryd.func48, Tryd.ntmps48
  go_wp2
  go_loopw [3] (fun v wr => ∃ k : Nat, 1 ≤ k ∧ k ≤ 8 ∧ v = .int .u8 (k : Int) ∧ Hid (kOf t = kFrom t (8 - k) k) ∧ w = wr) (fun v _ => 8 - (intOf v).toNat)
  case atStart => exact ⟨1, by omega, by omega, rfl, Lib.hid rfl, rfl⟩
  case round =>
    obtain ⟨k, h1, h2, rfl, HG, rfl⟩ := hrel
    by_cases hlt : k < 8
    · have hcell := HT.out k hlt
      have hb := tyN_lt k hlt
      by_cases hf : tyN k = t
      · have HS : Hid (kOf t = k) := Lib.hid (by rw [HG.out, show 8 - k = (7 - k) + 1 by omega]; exact kFrom_hit hf)
        have hq : ((tyN k : Int) == (t : Int)) = true := by rw [hf]; simp
        clear hf
        go_wp2
        go_ret
        exact ⟨ret_int (by rw [HS.out]), rfl⟩
      · have HS : Hid (kOf t = kFrom t (7 - k) (k + 1)) := Lib.hid (by rw [HG.out, show 8 - k = (7 - k) + 1 by omega]; exact kFrom_miss hf)
        have hq : ((tyN k : Int) == (t : Int)) = false := by rw [beq_eq_false_iff_ne]; omega
        clear hf
        go_wp2
        go_roundw
        case rel => exact ⟨k + 1, by omega, by omega, by go_num, Lib.hid (by rw [HS.out, show 8 - (k + 1) = 7 - k by omega]), trivial⟩
        case measure => simp [intOf]; omega
    · have HS : Hid (kOf t = 8) := Lib.hid (by rw [HG.out, show 8 - k = 0 by omega]; rfl)
      go_wp2
      go_ret
      exact ⟨ret_int (by rw [HS.out]; rfl), rfl⟩
theorem rtypes (w : World) :
    Calls Tryd.prog 39 #[] w fun e w' => e = .returned (.slice (some ⟨w.heap.size, 0, none⟩) 7 7) ∧ (∀ i : Nat, i < 7 → w'.cell? ⟨w.heap.size, i, none⟩ = some (.int .u8 (tyN (i + 1) : Int))) ∧ Below w.heap.size w w' := by
  go_enter Tryd.func39, Tryd.ntmps39
  go_wp2
  go_ret
  refine ⟨rfl, fun i hi => ?_, nest_below w [_]⟩
  have h := nest w [.cells #[.int .u8 32, .int .u8 56, .int .u8 40, .int .u8 24, .int .u8 8, .int .u8 48, .int .u8 4] 5 (0, 0)] 0 _ rfl
  match i, hi with
  | 0, _ => exact cell_of h rfl
  | 1, _ => exact cell_of h rfl
  | 2, _ => exact cell_of h rfl
  | 3, _ => exact cell_of h rfl
  | 4, _ => exact cell_of h rfl
  | 5, _ => exact cell_of h rfl
  | 6, _ => exact cell_of h rfl
theorem rkindOf (t : Nat) (w : World) :
    Calls Tryd.prog 27 #[.int .u8 (t : Int)] w fun e w' => e = .returned (.int .u8 (kOf t : Int)) ∧ Below w.heap.size w w' := by
  go_enter Tryd.func27, Tryd.ntmps27
  go_wp2_with (go_at_call 39; ((with_reducible refine (rtypes _).mono ?_); rintro e w1 ⟨rfl, hc, hb⟩; have HC := Lib.hid hc; have HB := Lib.hid hb; clear hc hb))
  go_loopw [4] (fun v wr => ∃ k : Nat, k ≤ 7 ∧ v = .int .i64 (k : Int) ∧ Hid (kOf t = kFrom t (7 - k) (k + 1)) ∧ w1 = wr) (fun v _ => 7 - (intOf v).toNat)
  case atStart => exact ⟨0, by omega, rfl, Lib.hid rfl, rfl⟩
  case round =>
    obtain ⟨k, h2, rfl, HG, rfl⟩ := hrel
    by_cases hlt : k < 7
    · have hcell := HC.out k hlt
      have hb := tyN_lt (k + 1) (by omega)
      by_cases hf : tyN (k + 1) = t
      · have HS : Hid (kOf t = k + 1) := Lib.hid (by rw [HG.out, show 7 - k = (6 - k) + 1 by omega]; exact kFrom_hit hf)
        have hq : ((tyN (k + 1) : Int) == (t : Int)) = true := by rw [hf]; simp
        generalize tyN (k + 1) = y at *
        clear hf
        go_wp2
        go_ret
        exact ⟨ret_int (by rw [HS.out]; first | rfl | omega | (simp; omega)), HB.out⟩
      · have HS : Hid (kOf t = kFrom t (6 - k) (k + 1 + 1)) := Lib.hid (by rw [HG.out, show 7 - k = (6 - k) + 1 by omega]; exact kFrom_miss hf)
        have hq : ((tyN (k + 1) : Int) == (t : Int)) = false := by rw [beq_eq_false_iff_ne]; omega
        generalize tyN (k + 1) = y at *
        clear hf
        go_wp2
        go_roundw
        case rel => exact ⟨k + 1, by omega, by go_num, Lib.hid (by rw [HS.out, show 7 - (k + 1) = 6 - k by omega]), trivial⟩
        case measure => simp [intOf]; omega
    · have HS : Hid (kOf t = 8) := Lib.hid (by rw [HG.out, show 7 - k = 0 by omega]; rfl)
      go_wp2
      go_ret
      exact ⟨ret_int (by rw [HS.out]; rfl), HB.out⟩
theorem isUnknown (t : Nat) (w : World) (ht : Tab w) :
    Calls Tryd.prog 35 #[.int .u8 (t : Int)] w fun e w' => e = .returned (.bool (decide (t ≤ 63) && (kOf t == 8))) ∧ w = w' := by
  have CK := Lib.hid (fkindOf t w ht)
  clear ht
  by_cases h : t ≤ 63
  · have h' : decide (t ≤ 63) = true := by simpa using h
    rw [h']
    generalize kOf t = k at *
    go_enter Tryd.func35, Tryd.ntmps35
    go_wp2_with (go_at_call 48; ((with_reducible refine CK.out.mono ?_); rintro e w1 ⟨rfl, rfl⟩))
    go_ret
    exact ⟨ret_bool (by rw [Bool.eq_iff_iff]; simp <;> omega), rfl⟩
  · have h' : decide (t ≤ 63) = false := by simpa using h
    rw [h', Bool.false_and]
    go_enter Tryd.func35, Tryd.ntmps35
    go_wp2
    go_ret
    exact ⟨rfl, rfl⟩
theorem ftypeOf (m : Ms) (hk : m.k ≤ 8) (w : World) (ht : Tab w) :
    Calls Tryd.prog 21 #[mv m] w fun e w' => e = .returned (.int .u8 (ty m : Int)) ∧ Below w.heap.size w w' := by
  have HF : (w.alloc (mO m 27)).heap[w.heap.size]? = some (mO m 27) := nest w [_] 0 _ rfl
  obtain ⟨c0, c1, c18, c19⟩ := flds HF
  have HB : Hid (Below w.heap.size w (w.alloc (mO m 27))) := Lib.hid (nest_below w [_])
  by_cases h8 : m.k = 8
  · have HY : Hid (ty m = m.t) := Lib.hid (if_pos h8)
    have hq : ((m.k : Int) == 8) = true := by rw [h8]; rfl
    clear HF h8 ht hk
    go_enter Tryd.func21, Tryd.ntmps21
    go_wp2
    go_ret
    exact ⟨ret_int (by rw [HY.out]), HB.out⟩
  · have HY : Hid (ty m = tyN m.k) := Lib.hid (if_neg h8)
    have hq : ((m.k : Int) == 8) = false := by rw [beq_eq_false_iff_ne]; omega
    have hcell := tab_below ht HB.out m.k (by omega)
    have hlt : m.k < 8 := by omega
    clear HF h8 ht hk
    go_enter Tryd.func21, Tryd.ntmps21
    go_wp2
    go_ret
    exact ⟨ret_int (by rw [HY.out]), HB.out⟩
end Go.Proofs.YtffahjlboakakaaDoor.Msgs

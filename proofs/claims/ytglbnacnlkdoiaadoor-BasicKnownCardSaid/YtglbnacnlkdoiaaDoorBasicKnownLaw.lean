/-
  BasicKnown answers true, and turns nothing that was there. Condition: the tables of layers 1 and 3 lie where the program lays them.
-/
import Derived.Test.YtglbnacnlkdoiaaDoorBasicTurnedLaw
import Derived.Test.YtglbnacnlkdoiaaDoorBasicDecodesLaw
import Derived.Test.YtglbnacnlkdoiaaDoorBasicEncodesLaw
import Derived.Test.YtglbnacnlkdoiaaDoorBasicBackLaw
import Derived.Deep.RegionHeld
import Derived.Laws.AppendOwn
namespace Go.Proofs.YtglbnacnlkdoiaaDoor.Basic
open Go.RowKit Go.Proofs.YtglbnacnlkdoiaaDoor.Base Go.Proofs.YtglbnacnlkdoiaaDoor.Ea Go.Proofs.YtglbnacnlkdoiaaDoor.Field
/-- The frame of a number. -/
def frm (n : Nat) (i : ByteArray) : Fr := ⟨n * 7 % 66, decide (n % 2 = 0), n % 12, decide (n % 3 = 0), n % 9, n / 9 % 9, i⟩
theorem frm_in (n : Nat) (i : ByteArray) : (frm n i).In := ⟨by show n * 7 % 66 < 256; omega, by show n % 12 < 256; omega, by show n % 9 < 256; omega, by show n / 9 % 9 < 256; omega⟩
set_option maxHeartbeats 1000000 in
theorem frame (n : Nat) (hn : n ≤ 1000) (i : ByteArray) (w : World) :
    Calls Tryd.prog 16 #[.int .i64 (n : Int), .string i] w fun e w' => e = .returned (fv (frm n i)) ∧ Below w.heap.size w w' := by
  have e1 : ((n : Int) % 2 == 0) = decide (n % 2 = 0) := by rw [Bool.eq_iff_iff, beq_iff_eq, decide_eq_true_iff]; omega
  have e2 : ((n : Int) % 3 == 0) = decide (n % 3 = 0) := by rw [Bool.eq_iff_iff, beq_iff_eq, decide_eq_true_iff]; omega
  go_enter Tryd.func16, Tryd.ntmps16
  go_wp2
  exact bodyPost_ret (v := fv (frm n i)) (by simp [results, Tryd.results16, go_sem, frm]) rfl ⟨rfl, (Below.refl _ _).alloc (Nat.le_refl _) _⟩
theorem row_take {w : World} {b : Nat} {l : List UInt8} (h : Row w b l) (k : Nat) : Row w b (l.take k) := by
  refine ⟨fun i hi => ?_, fun i hi => h.free i (by rw [List.length_take] at hi; omega)⟩
  have hi2 : i < l.length := by rw [List.length_take] at hi; omega
  have hi3 : i < k := by rw [List.length_take] at hi; omega
  rw [h.cell i hi2]
  simp [List.getD, hi3]
/-- The laws, for any arguments, from a world that keeps the tables. -/
abbrev LawE : Prop := ∀ (f : Fr) (ini : Bool) (n1 : Int) (w : World), f.In → f.info.size ≤ 1000 → Tabs w → Calls Tryd.prog 3 #[fv f, .bool ini, .int .i64 n1] w fun e w' => e = .returned (.bool true) ∧ Below w.heap.size w w'
abbrev LawB : Prop := ∀ (f : Fr) (s : ByteArray) (ini : Bool) (n1 : Int) (w : World), f.In → f.info.size ≤ 1000 → Tabs w → Calls Tryd.prog 5 #[fv f, .string s, .bool ini, .int .i64 n1] w fun e w' => e = .returned (.bool true) ∧ Below w.heap.size w w'
abbrev LawD : Prop := ∀ (s : ByteArray) (ini : Bool) (n1 : Int) (w : World), Tabs w → Calls Tryd.prog 4 #[.string s, .bool ini, .int .i64 n1] w fun e w' => e = .returned (.bool true) ∧ Below w.heap.size w w'
abbrev LawT : Prop := ∀ (f : Fr) (ini : Bool) (pl : Int) (bs fr cut : Nat) (w : World), f.In → f.info.size ≤ 1000 → bs < 256 → cut < 256 → Tabs w → Calls Tryd.prog 6 #[fv f, .bool ini, .int .i64 pl, .int .u8 (bs : Int), .int .u8 (fr : Int), .int .u8 (cut : Int)] w fun e w' => e = .returned (.bool true) ∧ Below w.heap.size w w'
theorem lawE : LawE := fun f ini n1 w hf hl ht => encodes f hf (by unfold maxLen; omega) ini n1 w ht
theorem lawB : LawB := fun f s ini n1 w hf hl ht => back f hf (by unfold maxLen; omega) s ini n1 w ht
theorem lawD : LawD := fun s ini n1 w ht => decodes s ini n1 w ht
theorem lawT : LawT := fun f ini pl bs fr cut w hf hl hb hc ht => turned f hf (by unfold maxLen; omega) ini pl bs fr cut hb hc w ht
/-- A frame of channel 1. -/
abbrev gv (kd : Nat) (S : ByteArray) : Value := .agg #[.int .u8 1, .bool true, .int .u8 (kd : Int), .bool false, .int .u8 0, .int .u8 0, .string S]
abbrev gO (kd : Nat) (S : ByteArray) : Obj := .cells #[.int .u8 1, .bool true, .int .u8 (kd : Int), .bool false, .int .u8 0, .int .u8 0, .string S] 23
def gf (kd : Nat) (S : ByteArray) : Fr := ⟨1, true, kd, false, 0, 0, S⟩
theorem gf_in (kd : Nat) (S : ByteArray) (h : kd < 256) : (gf kd S).In := ⟨by show 1 < 256; decide, h, by show 0 < 256; decide, by show 0 < 256; decide⟩
theorem gcells {w : World} {F kd : Nat} {S : ByteArray} (h : w.heap[F]? = some (gO kd S)) : w.cell? ⟨F, 0, none⟩ = some (.int .u8 1) ∧ w.cell? ⟨F, 1, none⟩ = some (.bool true) ∧ w.cell? ⟨F, 2, none⟩ = some (.int .u8 (kd : Int)) ∧ w.cell? ⟨F, 3, none⟩ = some (.bool false) ∧ w.cell? ⟨F, 4, none⟩ = some (.int .u8 0) ∧ w.cell? ⟨F, 5, none⟩ = some (.int .u8 0) ∧ w.cell? ⟨F, 6, none⟩ = some (.string S) :=
  ⟨cell_of h rfl, cell_of h rfl, cell_of h rfl, cell_of h rfl, cell_of h rfl, cell_of h rfl, cell_of h rfl⟩
theorem gE (kd : Nat) (S : ByteArray) (h : kd < 256) (hl : S.size ≤ 1000) (ini : Bool) (n1 : Int) (w : World) (ht : Tabs w) : Calls Tryd.prog 3 #[gv kd S, .bool ini, .int .i64 n1] w fun e w' => e = .returned (.bool true) ∧ Below w.heap.size w w' := lawE (gf kd S) ini n1 w (gf_in kd S h) hl ht
theorem gB (kd : Nat) (S : ByteArray) (h : kd < 256) (hl : S.size ≤ 1000) (s : ByteArray) (ini : Bool) (n1 : Int) (w : World) (ht : Tabs w) : Calls Tryd.prog 5 #[gv kd S, .string s, .bool ini, .int .i64 n1] w fun e w' => e = .returned (.bool true) ∧ Below w.heap.size w w' := lawB (gf kd S) s ini n1 w (gf_in kd S h) hl ht
theorem gBody (kd : Nat) (S : ByteArray) (h : kd < 256) (hl : S.size ≤ 1000) (w : World) : Calls Tryd.prog 17 #[gv kd S, .bool true] w fun e w' => e = .returned (.string ((gf kd S).body true)) ∧ Below w.heap.size w w' := rbody (gf kd S) (gf_in kd S h) true hl w
/-- Six lengths, one of which is picked. -/
abbrev lens : Obj := .cells #[.int .i64 0, .int .i64 1, .int .i64 126, .int .i64 127, .int .i64 128, .int .i64 129] 3
theorem picks (w : World) (j : Nat) (hj : j < 6) : ∃ n : Nat, n ≤ 129 ∧ (w.alloc lens).cell? ⟨w.heap.size, j, none⟩ = some (.int .i64 (n : Int)) := by
  rw [cell_new]
  match j, hj with
  | 0, _ => exact ⟨0, by decide, rfl⟩
  | 1, _ => exact ⟨1, by decide, rfl⟩
  | 2, _ => exact ⟨126, by decide, rfl⟩
  | 3, _ => exact ⟨127, by decide, rfl⟩
  | 4, _ => exact ⟨128, by decide, rfl⟩
  | 5, _ => exact ⟨129, by decide, rfl⟩
/-- A string becomes a row, as above; the row's room is not less. -/
theorem bytes_room (w : World) (s : ByteArray) (n : Nat) (hn : s.size = n) : ∃ W1 cap, n ≤ cap ∧ (convert 9 34 (.string s)).run Tryd.prog w = .ok (.slice (some ⟨w.heap.size, 0, none⟩) n cap) W1 ∧ Hid (Row W1 w.heap.size s.data.toList) ∧ Hid (Below w.heap.size w W1) := by
  subst hn
  exact ⟨_, _, grownCap_ge _ _ _ _, Lib.run_convert_string_bytes (P := Tryd.prog) w 9 34 5 s Tryd.underlying9 Tryd.underlying34 Tryd.underlying5,
    Lib.hid ⟨fun i hi => Lib.bytesWorld_cell w 5 s i (by simpa using hi), fun i hi => frozen_bytes w 5 s i (by simpa using hi)⟩, Lib.hid (below_bytes w 5 s)⟩
abbrev bits5 : Obj := .cells #[.int .u8 1, .int .u8 2, .int .u8 16, .int .u8 128, .int .u8 255] 5
theorem picks5 (w : World) (j : Nat) (hj : j < 5) : ∃ n : Nat, n < 256 ∧ (w.alloc bits5).cell? ⟨w.heap.size, j, none⟩ = some (.int .u8 (n : Int)) := by
  rw [cell_new]
  match j, hj with
  | 0, _ => exact ⟨1, by decide, rfl⟩
  | 1, _ => exact ⟨2, by decide, rfl⟩
  | 2, _ => exact ⟨16, by decide, rfl⟩
  | 3, _ => exact ⟨128, by decide, rfl⟩
  | 4, _ => exact ⟨255, by decide, rfl⟩
/-- The frame whose body is turned. -/
def f5 : Fr := ⟨5, true, 7, false, 3, 1, ⟨#[97, 98]⟩⟩
theorem body5 : ∃ T : ByteArray, T.size ≤ 100 ∧ ∀ w, Calls Tryd.prog 17 #[.agg #[.int .u8 5, .bool true, .int .u8 7, .bool false, .int .u8 3, .int .u8 1, .string ⟨#[97, 98]⟩], .bool true] w fun e w' => e = .returned (.string T) ∧ Below w.heap.size w w' := by
  refine ⟨f5.body true, by decide +kernel, fun w => rbody f5 ⟨by decide, by decide, by decide, by decide⟩ true (by decide) w⟩
theorem back0 (s : ByteArray) (ini : Bool) (n1 : Int) (w : World) (ht : Tabs w) : Calls Tryd.prog 5 #[noFr, .string s, .bool ini, .int .i64 n1] w fun e w' => e = .returned (.bool true) ∧ Below w.heap.size w w' := lawB fr0 s ini n1 w ⟨by decide, by decide, by decide, by decide⟩ (by decide) ht
theorem enc62 (ini : Bool) (n1 : Int) (w : World) (ht : Tabs w) : Calls Tryd.prog 3 #[.agg #[.int .u8 62, .bool true, .int .u8 1, .bool false, .int .u8 0, .int .u8 0, .string ⟨#[]⟩], .bool ini, .int .i64 n1] w fun e w' => e = .returned (.bool true) ∧ Below w.heap.size w w' := lawE ⟨62, true, 1, false, 0, 0, ⟨#[]⟩⟩ ini n1 w ⟨by decide, by decide, by decide, by decide⟩ (by decide) ht
def m129 : Array Value := (List.replicate 129 (Value.int .u8 0)).toArray
theorem make129 (w : World) : (Instr.makeSlice 34 (.int .i64 129) (.int .i64 129)).run Tryd.prog w = .ok (.slice (some ⟨w.heap.size, 0, none⟩) 129 129) (w.alloc (.cells m129 5)) := by kernel_rfl
theorem row129 (w : World) : Row (w.alloc (.cells m129 5)) w.heap.size (List.replicate 129 0) := by
  refine ⟨fun i hi => ?_, fun i hi => ?_⟩
  · have hi' : i < 129 := by simpa using hi
    rw [cell_new]
    simp only [m129, List.getElem?_toArray, List.getD_eq_getElem?_getD, List.getElem?_replicate, hi', if_true, Option.getD_some]
    rfl
  · exact free_of (nest w [.cells m129 5] 0 _ rfl)
/-- Three texts, one of which is picked. -/
theorem texts (w : World) (j : Nat) (hj : j < 3) : ∃ s : ByteArray, s.size ≤ 2 ∧ (w.alloc (.cells #[.string ⟨#[]⟩, .string ⟨#[97]⟩, .string ⟨#[249, 126]⟩] 9)).cell? ⟨w.heap.size, j, none⟩ = some (.string s) := by
  rw [cell_new]
  match j, hj with
  | 0, _ => exact ⟨_, by decide, rfl⟩
  | 1, _ => exact ⟨_, by decide, rfl⟩
  | 2, _ => exact ⟨_, by decide, rfl⟩
set_option maxHeartbeats 4000000 in
set_option maxRecDepth 100000 in
theorem known (w : World) (ht : Tabs w) :
    Calls Tryd.prog 7 #[] w fun e w' => e = .returned (.bool true) ∧ Below w.heap.size w w' := by
  have HT := Lib.hid ht
  have LE := Lib.hid lawE
  have LB := Lib.hid lawB
  have LD := Lib.hid lawD
  have LT := Lib.hid lawT
  have hmk := make129 w
  have R0 := Lib.hid (row129 w)
  have B0 : Hid (Below w.heap.size w (w.alloc (.cells m129 5))) := Lib.hid ((Below.refl _ _).alloc (Nat.le_refl _) _)
  clear ht
  go_enter Tryd.func7, Tryd.ntmps7
  go_wp2
  clear hmk
  generalize w.alloc (.cells m129 5) = wz at *
  obtain ⟨L, hL⟩ : ∃ L, w.heap.size = L := ⟨_, rfl⟩
  rw [hL] at R0
  rw [hL]
  go_loopw [2] (fun i wr => ∃ k : Nat, k ≤ 129 ∧ i = .int .i64 k ∧ Hid (Below w.heap.size w wr) ∧ Hid (∃ l : List UInt8, l.length = 129 ∧ Row wr L l)) (fun i _ => 129 - (intOf i).toNat)
  case atStart => exact ⟨0, by omega, rfl, B0, Lib.hid ⟨_, rfl, R0.out⟩⟩
  case round =>
    obtain ⟨k, hk, rfl, HB, HR⟩ := hrel
    by_cases hlt : k < 129
    · have hd : decide ((k : Int) < 129) = true := by simp; omega
      obtain ⟨l, hl, R⟩ := HR.out
      obtain ⟨v, hv⟩ : ∃ v : Nat, (k : Int) * 7 % 256 = (v : Int) := ⟨k * 7 % 256, by omega⟩
      have hv2 : v < 256 := by omega
      have HN : Hid (Hid (∃ l' : List UInt8, l'.length = 129 ∧ Row (wr.setCell ⟨L, k, none⟩ (.int .u8 (v : Int))) L l')) := Lib.hid (Lib.hid ⟨_, by rw [List.length_set]; exact hl, R.put k (by omega) v hv2⟩)
      have HM : Hid (Hid (Below w.heap.size w (wr.setCell ⟨L, k, none⟩ (.int .u8 (v : Int))))) := Lib.hid (Lib.hid (HB.out.setCell (Nat.le_of_eq hL) _))
      have hc := R.cell k (by omega)
      have hf := R.free k (by omega)
      clear R hl HR
      go_wp2
      go_roundw
      case rel => exact ⟨k + 1, by omega, by go_num, HM.out, HN.out⟩
      case measure => simp [intOf]; omega
    · go_wp2
      obtain ⟨l, hl, R⟩ := HR.out
      have HR1 := Lib.hid R
      have HB1 := HB
      clear HB HR R hk hlt
      obtain ⟨w1, rfl⟩ : ∃ w1 : World, w1 = wr := ⟨_, rfl⟩
      go_loopw [3] (fun i wr => ∃ k : Nat, k ≤ 400 ∧ i = .int .i64 k ∧ Hid (Below w1.heap.size w1 wr)) (fun i _ => 400 - (intOf i).toNat)
      case atStart => exact ⟨0, by omega, rfl, Lib.hid (Below.refl _ _)⟩
      case round =>
        obtain ⟨k, hk, rfl, HB⟩ := hrel
        have HT1 : Hid (Tabs w1) := Lib.hid (tabs_below HT.out HB1.out)
        by_cases hlt : k < 400
        · have hd : decide ((k : Int) < 400) = true := by simp; omega
          obtain ⟨s, hs, hcs⟩ := texts wr (k % 3) (by omega)
          obtain ⟨g, g1, g2, CF⟩ : ∃ g : Fr, Hid g.In ∧ Hid (g.info.size ≤ 1000) ∧ Hid (∀ w, Calls Tryd.prog 16 #[.int .i64 (k : Int), .string s] w fun e w' => e = .returned (fv g) ∧ Below w.heap.size w w') :=
            ⟨frm k s, Lib.hid (frm_in k s), Lib.hid (show s.size ≤ 1000 by omega), Lib.hid (fun w => frame k (by omega) s w)⟩
          have HBa : Hid (Below w1.heap.size w1 (wr.alloc (.cells #[.string ⟨#[]⟩, .string ⟨#[97]⟩, .string ⟨#[249, 126]⟩] 9))) := Lib.hid (HB.out.alloc HB.out.size _)
          obtain ⟨v, hv⟩ : ∃ v : Nat, (k : Int) % 256 = (v : Int) := ⟨k % 256, by omega⟩
          have hv2 : v < 256 := by omega
          obtain ⟨u, hu⟩ : ∃ u : Nat, (k : Int) / 3 = (u : Int) := ⟨k / 3, by omega⟩
          have hu2 : u < 256 := by omega
          have hv2' := Lib.hid hv2
          clear hs
          by_cases h4 : k % 4 = 0
          all_goals
            (first | (have e4 : ((k : Int) % 4 == 0) = true := by rw [beq_iff_eq]; omega) | (have e4 : ((k : Int) % 4 == 0) = false := by rw [beq_eq_false_iff_ne]; omega))
            clear h4
            go_wp2_with (first
              | (go_at_call 16; ((with_reducible refine (CF.out _).mono ?_); rintro e wf ⟨rfl, hb⟩; have BF := Lib.hid (below_on' HBa.out hb); clear hb))
              | (go_at_call 3; ((with_reducible refine (LE.out g _ _ _ g1.out g2.out ?_).mono ?_); (· exact tabs1 HT1.out BF.out); rintro e we ⟨rfl, hb⟩; have FE : Hid (FrAt we wf.heap.size g) := Lib.hid (fresh1 hb); have BE := Lib.hid (on1 BF.out hb); clear hb; obtain ⟨c0, c1, c2, c3, c4, c5, c6⟩ := FE.out.cells))
              | (go_at_call 5; ((with_reducible refine (LB.out g _ _ _ _ g1.out g2.out ?_).mono ?_); (· exact tabs_below HT1.out BE.out); rintro e wg ⟨rfl, hb⟩; have FG : Hid (FrAt wg wf.heap.size g) := Lib.hid (FE.out.below hb); have BG := Lib.hid (below_on' BE.out hb); clear hb c0 c1 c2 c3 c4 c5 c6; obtain ⟨c0, c1, c2, c3, c4, c5, c6⟩ := FG.out.cells))
              | (go_at_call 6; ((with_reducible refine (LT.out g _ _ v u v _ g1.out g2.out hv2'.out hv2'.out ?_).mono ?_); (· exact tabs_below HT1.out BG.out); rintro e wt ⟨rfl, hb⟩; have BT := Lib.hid (below_on' BG.out hb); clear hb)))
            go_roundw
            case rel => first | exact ⟨k + 1, by omega, by go_num, by first | exact BT | exact BG⟩ | ((repeat apply Exists.intro); exact ⟨⟨k + 1, by omega, by go_num, by first | exact BT | exact BG⟩, rfl⟩)
            case measure => simp [intOf]; omega
        · go_wp2
          have B0' : Hid (Below w1.heap.size w1 (wr.alloc lens)) := Lib.hid (HB.out.alloc HB.out.size _)
          have HP := Lib.hid (picks wr)
          have HZ : Hid (wr.heap.size < (wr.alloc lens).heap.size) := Lib.hid (by simp)
          generalize wr.alloc lens = w0 at *
          obtain ⟨blk, hblk⟩ : ∃ blk, wr.heap.size = blk := ⟨_, rfl⟩
          rw [hblk] at HP HZ
          rw [hblk]
          clear hblk HB hk hlt
          go_loopw [77] (fun i wr => ∃ j : Nat, j ≤ 6 ∧ i = .int .i64 j ∧ Hid (Below w0.heap.size w0 wr)) (fun i _ => 6 - (intOf i).toNat)
          case atStart => exact ⟨0, by omega, rfl, Lib.hid (Below.refl _ _)⟩
          case round =>
            obtain ⟨j, hj, rfl, HB⟩ := hrel
            by_cases hj6 : j < 6
            · have hd6 : decide ((j : Int) < 6) = true := by simp; omega
              obtain ⟨kk, hkk, hc0⟩ := HP.out j hj6
              have hc : wr.cell? ⟨blk, j, none⟩ = some (.int .i64 (kk : Int)) := (HB.out.cell (p := ⟨blk, j, none⟩) HZ.out).trans hc0
              clear hc0
              go_wp2
              go_loopw [7] (fun i wr => ∃ kd : Nat, 5 ≤ kd ∧ kd ≤ 8 ∧ i = .int .u8 kd ∧ Hid (Below w0.heap.size w0 wr)) (fun i _ => 8 - (intOf i).toNat)
              case atStart => exact ⟨5, by omega, by omega, rfl, HB⟩
              case round =>
                clear HB hc hj
                obtain ⟨kd, hkd5, hkd, rfl, HB⟩ := hrel
                by_cases hk8 : kd < 8
                · have KD := Lib.hid (show kd < 256 by omega)
                  have R1 : Row wr L l := (HR1.out.below (by omega) B0'.out).below (by omega) HB.out
                  have hcv := (row_take R1 kk).conv kk 129 (by rw [List.length_take]; omega)
                  obtain ⟨S, hS⟩ : ∃ S, (⟨(l.take kk).toArray⟩ : ByteArray) = S := ⟨_, rfl⟩
                  have SZ : Hid (S.size ≤ 1000) := Lib.hid (by rw [← hS]; show (l.take kk).toArray.size ≤ 1000; simp; omega)
                  rw [hS] at hcv
                  clear hS R1
                  go_wp2
                  have GX : Hid ((wr.alloc (gO kd S)).heap[wr.heap.size]? = some (gO kd S)) := Lib.hid (nest wr [gO kd S] 0 _ rfl)
                  have BX : Hid (Below w0.heap.size w0 (wr.alloc (gO kd S))) := Lib.hid (HB.out.alloc HB.out.size _)
                  have TX : Hid (Tabs (wr.alloc (gO kd S))) := Lib.hid (tabs_below (tabs_below HT1.out B0'.out) BX.out)
                  generalize wr.alloc (gO kd S) = wx at *
                  generalize wr.heap.size = F at *
                  clear hcv
                  refine wp_region_held_drew (S := fun w' => Below wx.heap.size wx w') (by kernel_rfl) (Below.refl _ _).drew (fun hHeld => ?_)
                  refine' wpAnyH_take (i := 0) (oi := { dst := some 91, op := Go.Op.load 23 (Go.Operand.tmp 8), type := 23, pos := "law.go:103", after := #[], guard := none }) (v := _) rfl (by kernel_rfl) (by kernel_rfl) (by kernel_rfl) (fun _ _ _ h => h) (Or.inl ⟨by rfl, ?hy1⟩) (by assumption) ?hr1
                  case hy1 => (intro _ hSw; (try dsimp only at hSw); obtain ⟨c0, c1, c2, c3, c4, c5, c6⟩ := gcells (stays GX.out hSw); go_simp <;> with_reducible rfl)
                  simp only [Act.put, List.setIfInBounds_toArray, List.set_cons_zero, List.set_cons_succ]
                  refine wpAnyH_ready (rs := [1]) (by kernel_rfl) (by simp) ?_
                  refine AllReadyH.cons (o := { dst := some 92, op := Go.Op.call { callee := Go.Callee.value (Go.Operand.func 3), args := #[Go.Operand.tmp 91, Go.Operand.const (Go.Value.bool true), Go.Operand.const (Go.Value.int Go.IntKind.i64 128)], argTypes := #[23, 4, 3] }, type := 4, pos := "law.go:103", after := #[{ on := 0, ground := Go.Ground.data }], guard := none }) rfl (fun K hK => ?_) AllReadyH.nil
                  go_simp
                  (with_reducible refine (gE kd S KD.out SZ.out _ _ _ (tabs_below TX.out hHeld)).mono ?_); rintro e wc ⟨rfl, hb⟩
                  go_wp2_with fail
                  refine hK.out _ _ (below_on' hHeld hb) (fun hNext => ?_)
                  clear hK K hHeld hb
                  have hHeld := hNext
                  clear hNext
                  refine' wpAnyH_take (i := 2) (oi := { dst := some 93, op := Go.Op.unOp Go.UnOp.not 4 (Go.Operand.tmp 92), type := 4, pos := "law.go:103", after := #[{ on := 1, ground := Go.Ground.data }], guard := none }) (v := _) rfl (by kernel_rfl) (by kernel_rfl) (by kernel_rfl) (fun _ _ _ h => h) (Or.inl ⟨by rfl, ?hy2⟩) (by assumption) ?hr2
                  case hy2 => (intro _ hSw; (try dsimp only at hSw); go_simp <;> with_reducible rfl)
                  simp only [Act.put, List.setIfInBounds_toArray, List.set_cons_zero, List.set_cons_succ]
                  refine' wpAnyH_take (i := 3) (oi := { dst := some 94, op := Go.Op.move (Go.Operand.tmp 93), type := 4, pos := "law.go:103", after := #[{ on := 2, ground := Go.Ground.data }, { on := 1, ground := Go.Ground.chain }], guard := none }) (v := _) rfl (by kernel_rfl) (by kernel_rfl) (by kernel_rfl) (fun _ _ _ h => h) (Or.inl ⟨by rfl, ?hy3⟩) (by assumption) ?hr3
                  case hy3 => (intro _ hSw; (try dsimp only at hSw); go_simp <;> with_reducible rfl)
                  simp only [Act.put, List.setIfInBounds_toArray, List.set_cons_zero, List.set_cons_succ]
                  refine' wpAnyH_take (i := 4) (oi := { dst := some 95, op := Go.Op.load 23 (Go.Operand.tmp 8), type := 23, pos := "law.go:103", after := #[{ on := 3, ground := Go.Ground.guard }], guard := some (3, false) }) (v := _) rfl (by kernel_rfl) (by kernel_rfl) (by kernel_rfl) (fun _ _ _ h => h) (Or.inl ⟨by rfl, ?hy4⟩) (by assumption) ?hr4
                  case hy4 => (intro _ hSw; (try dsimp only at hSw); obtain ⟨c0, c1, c2, c3, c4, c5, c6⟩ := gcells (stays GX.out hSw); go_simp <;> with_reducible rfl)
                  simp only [Act.put, List.setIfInBounds_toArray, List.set_cons_zero, List.set_cons_succ]
                  refine' wpAnyH_take (i := 5) (oi := { dst := some 96, op := Go.Op.move (Go.Operand.tmp 6), type := 3, pos := "law.go:103", after := #[{ on := 3, ground := Go.Ground.guard }], guard := some (3, false) }) (v := _) rfl (by kernel_rfl) (by kernel_rfl) (by kernel_rfl) (fun _ _ _ h => h) (Or.inl ⟨by rfl, ?hy5⟩) (by assumption) ?hr5
                  case hy5 => (intro _ hSw; (try dsimp only at hSw); go_simp <;> with_reducible rfl)
                  simp only [Act.put, List.setIfInBounds_toArray, List.set_cons_zero, List.set_cons_succ]
                  refine' wpAnyH_take (i := 6) (oi := { dst := some 97, op := Go.Op.binOp Go.BinOp.sub 3 (Go.Operand.tmp 96) (Go.Operand.const (Go.Value.int Go.IntKind.i64 1)) 3, type := 3, pos := "law.go:103", after := #[{ on := 5, ground := Go.Ground.data }, { on := 3, ground := Go.Ground.guard }], guard := some (3, false) }) (v := _) rfl (by kernel_rfl) (by kernel_rfl) (by kernel_rfl) (fun _ _ _ h => h) (Or.inl ⟨by rfl, ?hy6⟩) (by assumption) ?hr6
                  case hy6 => (intro _ hSw; (try dsimp only at hSw); go_simp <;> with_reducible rfl)
                  simp only [Act.put, List.setIfInBounds_toArray, List.set_cons_zero, List.set_cons_succ]
                  refine wpAnyH_ready (rs := [7]) (by kernel_rfl) (by simp) ?_
                  refine AllReadyH.cons (o := { dst := some 98, op := Go.Op.call { callee := Go.Callee.value (Go.Operand.func 3), args := #[Go.Operand.tmp 95, Go.Operand.const (Go.Value.bool true), Go.Operand.tmp 97], argTypes := #[23, 4, 3] }, type := 4, pos := "law.go:103", after := #[{ on := 4, ground := Go.Ground.data }, { on := 6, ground := Go.Ground.data }, { on := 3, ground := Go.Ground.chain }, { on := 3, ground := Go.Ground.guard }], guard := some (3, false) }) rfl (fun K hK => ?_) AllReadyH.nil
                  go_simp
                  (with_reducible refine (gE kd S KD.out SZ.out _ _ _ (tabs_below TX.out hHeld)).mono ?_); rintro e wc ⟨rfl, hb⟩
                  go_wp2_with fail
                  refine hK.out _ _ (below_on' hHeld hb) (fun hNext => ?_)
                  clear hK K hHeld hb
                  have hHeld := hNext
                  clear hNext
                  refine' wpAnyH_take (i := 8) (oi := { dst := some 99, op := Go.Op.unOp Go.UnOp.not 4 (Go.Operand.tmp 98), type := 4, pos := "law.go:103", after := #[{ on := 7, ground := Go.Ground.data }, { on := 3, ground := Go.Ground.guard }], guard := some (3, false) }) (v := _) rfl (by kernel_rfl) (by kernel_rfl) (by kernel_rfl) (fun _ _ _ h => h) (Or.inl ⟨by rfl, ?hy7⟩) (by assumption) ?hr7
                  case hy7 => (intro _ hSw; (try dsimp only at hSw); go_simp <;> with_reducible rfl)
                  simp only [Act.put, List.setIfInBounds_toArray, List.set_cons_zero, List.set_cons_succ]
                  refine' wpAnyH_take (i := 9) (oi := { dst := some 100, op := Go.Op.pick (Go.Operand.tmp 94) (Go.Operand.const (Go.Value.bool true)) (Go.Operand.tmp 99), type := 4, pos := "law.go:103", after := #[{ on := 3, ground := Go.Ground.data }, { on := 8, ground := Go.Ground.data }], guard := none }) (v := _) rfl (by kernel_rfl) (by kernel_rfl) (by kernel_rfl) (fun _ _ _ h => h) (Or.inl ⟨by rfl, ?hy8⟩) (by assumption) ?hr8
                  case hy8 => (intro _ hSw; (try dsimp only at hSw); go_simp <;> with_reducible rfl)
                  simp only [Act.put, List.setIfInBounds_toArray, List.set_cons_zero, List.set_cons_succ]
                  refine' wpAnyH_take (i := 10) (oi := { dst := some 101, op := Go.Op.move (Go.Operand.tmp 100), type := 4, pos := "law.go:103", after := #[{ on := 9, ground := Go.Ground.data }, { on := 7, ground := Go.Ground.chain }], guard := none }) (v := _) rfl (by kernel_rfl) (by kernel_rfl) (by kernel_rfl) (fun _ _ _ h => h) (Or.inl ⟨by rfl, ?hy9⟩) (by assumption) ?hr9
                  case hy9 => (intro _ hSw; (try dsimp only at hSw); go_simp <;> with_reducible rfl)
                  simp only [Act.put, List.setIfInBounds_toArray, List.set_cons_zero, List.set_cons_succ]
                  refine' wpAnyH_take (i := 11) (oi := { dst := some 102, op := Go.Op.load 23 (Go.Operand.tmp 8), type := 23, pos := "law.go:103", after := #[{ on := 10, ground := Go.Ground.guard }], guard := some (10, false) }) (v := _) rfl (by kernel_rfl) (by kernel_rfl) (by kernel_rfl) (fun _ _ _ h => h) (Or.inl ⟨by rfl, ?hy10⟩) (by assumption) ?hr10
                  case hy10 => (intro _ hSw; (try dsimp only at hSw); obtain ⟨c0, c1, c2, c3, c4, c5, c6⟩ := gcells (stays GX.out hSw); go_simp <;> with_reducible rfl)
                  simp only [Act.put, List.setIfInBounds_toArray, List.set_cons_zero, List.set_cons_succ]
                  refine wpAnyH_ready (rs := [12]) (by kernel_rfl) (by simp) ?_
                  refine AllReadyH.cons (o := { dst := some 103, op := Go.Op.call { callee := Go.Callee.value (Go.Operand.func 3), args := #[Go.Operand.tmp 102, Go.Operand.const (Go.Value.bool false), Go.Operand.const (Go.Value.int Go.IntKind.i64 4611686018427387904)], argTypes := #[23, 4, 3] }, type := 4, pos := "law.go:103", after := #[{ on := 11, ground := Go.Ground.data }, { on := 10, ground := Go.Ground.chain }, { on := 10, ground := Go.Ground.guard }], guard := some (10, false) }) rfl (fun K hK => ?_) AllReadyH.nil
                  go_simp
                  (with_reducible refine (gE kd S KD.out SZ.out _ _ _ (tabs_below TX.out hHeld)).mono ?_); rintro e wc ⟨rfl, hb⟩
                  go_wp2_with fail
                  refine hK.out _ _ (below_on' hHeld hb) (fun hNext => ?_)
                  clear hK K hHeld hb
                  have hHeld := hNext
                  clear hNext
                  refine' wpAnyH_take (i := 13) (oi := { dst := some 104, op := Go.Op.unOp Go.UnOp.not 4 (Go.Operand.tmp 103), type := 4, pos := "law.go:103", after := #[{ on := 12, ground := Go.Ground.data }, { on := 10, ground := Go.Ground.guard }], guard := some (10, false) }) (v := _) rfl (by kernel_rfl) (by kernel_rfl) (by kernel_rfl) (fun _ _ _ h => h) (Or.inl ⟨by rfl, ?hy11⟩) (by assumption) ?hr11
                  case hy11 => (intro _ hSw; (try dsimp only at hSw); go_simp <;> with_reducible rfl)
                  simp only [Act.put, List.setIfInBounds_toArray, List.set_cons_zero, List.set_cons_succ]
                  refine' wpAnyH_take (i := 14) (oi := { dst := some 105, op := Go.Op.pick (Go.Operand.tmp 101) (Go.Operand.const (Go.Value.bool true)) (Go.Operand.tmp 104), type := 4, pos := "law.go:103", after := #[{ on := 10, ground := Go.Ground.data }, { on := 13, ground := Go.Ground.data }], guard := none }) (v := _) rfl (by kernel_rfl) (by kernel_rfl) (by kernel_rfl) (fun _ _ _ h => h) (Or.inl ⟨by rfl, ?hy12⟩) (by assumption) ?hr12
                  case hy12 => (intro _ hSw; (try dsimp only at hSw); go_simp <;> with_reducible rfl)
                  simp only [Act.put, List.setIfInBounds_toArray, List.set_cons_zero, List.set_cons_succ]
                  refine' wpAnyH_take (i := 15) (oi := { dst := some 106, op := Go.Op.move (Go.Operand.tmp 105), type := 4, pos := "law.go:103", after := #[{ on := 14, ground := Go.Ground.data }, { on := 12, ground := Go.Ground.chain }], guard := none }) (v := _) rfl (by kernel_rfl) (by kernel_rfl) (by kernel_rfl) (fun _ _ _ h => h) (Or.inl ⟨by rfl, ?hy13⟩) (by assumption) ?hr13
                  case hy13 => (intro _ hSw; (try dsimp only at hSw); go_simp <;> with_reducible rfl)
                  simp only [Act.put, List.setIfInBounds_toArray, List.set_cons_zero, List.set_cons_succ]
                  refine' wpAnyH_take (i := 16) (oi := { dst := some 107, op := Go.Op.load 23 (Go.Operand.tmp 8), type := 23, pos := "law.go:103", after := #[{ on := 15, ground := Go.Ground.guard }], guard := some (15, false) }) (v := _) rfl (by kernel_rfl) (by kernel_rfl) (by kernel_rfl) (fun _ _ _ h => h) (Or.inl ⟨by rfl, ?hy14⟩) (by assumption) ?hr14
                  case hy14 => (intro _ hSw; (try dsimp only at hSw); obtain ⟨c0, c1, c2, c3, c4, c5, c6⟩ := gcells (stays GX.out hSw); go_simp <;> with_reducible rfl)
                  simp only [Act.put, List.setIfInBounds_toArray, List.set_cons_zero, List.set_cons_succ]
                  refine wpAnyH_ready (rs := [17]) (by kernel_rfl) (by simp) ?_
                  refine AllReadyH.cons (o := { dst := some 108, op := Go.Op.call { callee := Go.Callee.value (Go.Operand.func 3), args := #[Go.Operand.tmp 107, Go.Operand.const (Go.Value.bool true), Go.Operand.const (Go.Value.int Go.IntKind.i64 (-5))], argTypes := #[23, 4, 3] }, type := 4, pos := "law.go:103", after := #[{ on := 16, ground := Go.Ground.data }, { on := 15, ground := Go.Ground.chain }, { on := 15, ground := Go.Ground.guard }], guard := some (15, false) }) rfl (fun K hK => ?_) AllReadyH.nil
                  go_simp
                  (with_reducible refine (gE kd S KD.out SZ.out _ _ _ (tabs_below TX.out hHeld)).mono ?_); rintro e wc ⟨rfl, hb⟩
                  go_wp2_with fail
                  refine hK.out _ _ (below_on' hHeld hb) (fun hNext => ?_)
                  clear hK K hHeld hb
                  have hHeld := hNext
                  clear hNext
                  refine' wpAnyH_take (i := 18) (oi := { dst := some 109, op := Go.Op.unOp Go.UnOp.not 4 (Go.Operand.tmp 108), type := 4, pos := "law.go:103", after := #[{ on := 17, ground := Go.Ground.data }, { on := 15, ground := Go.Ground.guard }], guard := some (15, false) }) (v := _) rfl (by kernel_rfl) (by kernel_rfl) (by kernel_rfl) (fun _ _ _ h => h) (Or.inl ⟨by rfl, ?hy15⟩) (by assumption) ?hr15
                  case hy15 => (intro _ hSw; (try dsimp only at hSw); go_simp <;> with_reducible rfl)
                  simp only [Act.put, List.setIfInBounds_toArray, List.set_cons_zero, List.set_cons_succ]
                  refine' wpAnyH_take (i := 19) (oi := { dst := some 110, op := Go.Op.pick (Go.Operand.tmp 106) (Go.Operand.const (Go.Value.bool true)) (Go.Operand.tmp 109), type := 4, pos := "law.go:103", after := #[{ on := 15, ground := Go.Ground.data }, { on := 18, ground := Go.Ground.data }], guard := none }) (v := _) rfl (by kernel_rfl) (by kernel_rfl) (by kernel_rfl) (fun _ _ _ h => h) (Or.inl ⟨by rfl, ?hy16⟩) (by assumption) ?hr16
                  case hy16 => (intro _ hSw; (try dsimp only at hSw); go_simp <;> with_reducible rfl)
                  simp only [Act.put, List.setIfInBounds_toArray, List.set_cons_zero, List.set_cons_succ]
                  refine' wpAnyH_take (i := 20) (oi := { dst := some 111, op := Go.Op.move (Go.Operand.tmp 110), type := 4, pos := "law.go:103", after := #[{ on := 19, ground := Go.Ground.data }, { on := 17, ground := Go.Ground.chain }], guard := none }) (v := _) rfl (by kernel_rfl) (by kernel_rfl) (by kernel_rfl) (fun _ _ _ h => h) (Or.inl ⟨by rfl, ?hy17⟩) (by assumption) ?hr17
                  case hy17 => (intro _ hSw; (try dsimp only at hSw); go_simp <;> with_reducible rfl)
                  simp only [Act.put, List.setIfInBounds_toArray, List.set_cons_zero, List.set_cons_succ]
                  refine' wpAnyH_take (i := 21) (oi := { dst := some 112, op := Go.Op.load 23 (Go.Operand.tmp 8), type := 23, pos := "law.go:103", after := #[{ on := 20, ground := Go.Ground.guard }], guard := some (20, false) }) (v := _) rfl (by kernel_rfl) (by kernel_rfl) (by kernel_rfl) (fun _ _ _ h => h) (Or.inl ⟨by rfl, ?hy18⟩) (by assumption) ?hr18
                  case hy18 => (intro _ hSw; (try dsimp only at hSw); obtain ⟨c0, c1, c2, c3, c4, c5, c6⟩ := gcells (stays GX.out hSw); go_simp <;> with_reducible rfl)
                  simp only [Act.put, List.setIfInBounds_toArray, List.set_cons_zero, List.set_cons_succ]
                  refine' wpAnyH_take (i := 22) (oi := { dst := some 113, op := Go.Op.load 23 (Go.Operand.tmp 8), type := 23, pos := "law.go:103", after := #[{ on := 20, ground := Go.Ground.guard }], guard := some (20, false) }) (v := _) rfl (by kernel_rfl) (by kernel_rfl) (by kernel_rfl) (fun _ _ _ h => h) (Or.inl ⟨by rfl, ?hy19⟩) (by assumption) ?hr19
                  case hy19 => (intro _ hSw; (try dsimp only at hSw); obtain ⟨c0, c1, c2, c3, c4, c5, c6⟩ := gcells (stays GX.out hSw); go_simp <;> with_reducible rfl)
                  simp only [Act.put, List.setIfInBounds_toArray, List.set_cons_zero, List.set_cons_succ]
                  refine' wpAnyH_take (i := 24) (oi := { dst := some 115, op := Go.Op.move (Go.Operand.tmp 6), type := 3, pos := "law.go:103", after := #[{ on := 20, ground := Go.Ground.guard }], guard := some (20, false) }) (v := _) rfl (by kernel_rfl) (by kernel_rfl) (by kernel_rfl) (fun _ _ _ h => h) (Or.inl ⟨by rfl, ?hy20⟩) (by assumption) ?hr20
                  case hy20 => (intro _ hSw; (try dsimp only at hSw); go_simp <;> with_reducible rfl)
                  simp only [Act.put, List.setIfInBounds_toArray, List.set_cons_zero, List.set_cons_succ]
                  refine wpAnyH_ready (rs := [23]) (by kernel_rfl) (by simp) ?_
                  refine AllReadyH.cons (o := { dst := some 114, op := Go.Op.call { callee := Go.Callee.value (Go.Operand.func 17), args := #[Go.Operand.tmp 113, Go.Operand.const (Go.Value.bool true)], argTypes := #[23, 4] }, type := 9, pos := "law.go:103", after := #[{ on := 22, ground := Go.Ground.data }, { on := 20, ground := Go.Ground.chain }, { on := 20, ground := Go.Ground.guard }], guard := some (20, false) }) rfl (fun K hK => ?_) AllReadyH.nil
                  go_simp
                  (with_reducible refine (gBody kd S KD.out SZ.out _).mono ?_); rintro e wc ⟨rfl, hb⟩
                  go_wp2_with fail
                  refine hK.out _ _ (below_on' hHeld hb) (fun hNext => ?_)
                  clear hK K hHeld hb
                  have hHeld := hNext
                  clear hNext
                  refine wpAnyH_ready (rs := [25]) (by kernel_rfl) (by simp) ?_
                  refine AllReadyH.cons (o := { dst := some 116, op := Go.Op.call { callee := Go.Callee.value (Go.Operand.func 5), args := #[Go.Operand.tmp 112, Go.Operand.tmp 114, Go.Operand.const (Go.Value.bool true), Go.Operand.tmp 115], argTypes := #[23, 9, 4, 3] }, type := 4, pos := "law.go:103", after := #[{ on := 21, ground := Go.Ground.data }, { on := 23, ground := Go.Ground.data }, { on := 24, ground := Go.Ground.data }, { on := 23, ground := Go.Ground.chain }, { on := 20, ground := Go.Ground.guard }], guard := some (20, false) }) rfl (fun K hK => ?_) AllReadyH.nil
                  go_simp
                  (with_reducible refine (gB kd S KD.out SZ.out _ _ _ _ (tabs_below TX.out hHeld)).mono ?_); rintro e wc ⟨rfl, hb⟩
                  go_wp2_with fail
                  refine hK.out _ _ (below_on' hHeld hb) (fun hNext => ?_)
                  clear hK K hHeld hb
                  have hHeld := hNext
                  clear hNext
                  refine' wpAnyH_take (i := 26) (oi := { dst := some 117, op := Go.Op.unOp Go.UnOp.not 4 (Go.Operand.tmp 116), type := 4, pos := "law.go:103", after := #[{ on := 25, ground := Go.Ground.data }, { on := 20, ground := Go.Ground.guard }], guard := some (20, false) }) (v := _) rfl (by kernel_rfl) (by kernel_rfl) (by kernel_rfl) (fun _ _ _ h => h) (Or.inl ⟨by rfl, ?hy21⟩) (by assumption) ?hr21
                  case hy21 => (intro _ hSw; (try dsimp only at hSw); go_simp <;> with_reducible rfl)
                  simp only [Act.put, List.setIfInBounds_toArray, List.set_cons_zero, List.set_cons_succ]
                  refine' wpAnyH_take (i := 27) (oi := { dst := some 118, op := Go.Op.pick (Go.Operand.tmp 111) (Go.Operand.const (Go.Value.bool true)) (Go.Operand.tmp 117), type := 4, pos := "law.go:103", after := #[{ on := 20, ground := Go.Ground.data }, { on := 26, ground := Go.Ground.data }], guard := none }) (v := _) rfl (by kernel_rfl) (by kernel_rfl) (by kernel_rfl) (fun _ _ _ h => h) (Or.inl ⟨by rfl, ?hy22⟩) (by assumption) ?hr22
                  case hy22 => (intro _ hSw; (try dsimp only at hSw); go_simp <;> with_reducible rfl)
                  simp only [Act.put, List.setIfInBounds_toArray, List.set_cons_zero, List.set_cons_succ]
                  refine' wpAnyH_take (i := 28) (oi := { dst := some 119, op := Go.Op.move (Go.Operand.tmp 118), type := 4, pos := "law.go:103", after := #[{ on := 27, ground := Go.Ground.data }, { on := 25, ground := Go.Ground.chain }], guard := none }) (v := _) rfl (by kernel_rfl) (by kernel_rfl) (by kernel_rfl) (fun _ _ _ h => h) (Or.inl ⟨by rfl, ?hy23⟩) (by assumption) ?hr23
                  case hy23 => (intro _ hSw; (try dsimp only at hSw); go_simp <;> with_reducible rfl)
                  simp only [Act.put, List.setIfInBounds_toArray, List.set_cons_zero, List.set_cons_succ]
                  refine' wpAnyH_take (i := 29) (oi := { dst := some 120, op := Go.Op.load 23 (Go.Operand.tmp 8), type := 23, pos := "law.go:103", after := #[{ on := 28, ground := Go.Ground.guard }], guard := some (28, false) }) (v := _) rfl (by kernel_rfl) (by kernel_rfl) (by kernel_rfl) (fun _ _ _ h => h) (Or.inl ⟨by rfl, ?hy24⟩) (by assumption) ?hr24
                  case hy24 => (intro _ hSw; (try dsimp only at hSw); obtain ⟨c0, c1, c2, c3, c4, c5, c6⟩ := gcells (stays GX.out hSw); go_simp <;> with_reducible rfl)
                  simp only [Act.put, List.setIfInBounds_toArray, List.set_cons_zero, List.set_cons_succ]
                  refine' wpAnyH_take (i := 31) (oi := { dst := some 122, op := Go.Op.move (Go.Operand.tmp 6), type := 3, pos := "law.go:103", after := #[{ on := 28, ground := Go.Ground.guard }], guard := some (28, false) }) (v := _) rfl (by kernel_rfl) (by kernel_rfl) (by kernel_rfl) (fun _ _ _ h => h) (Or.inl ⟨by rfl, ?hy25⟩) (by assumption) ?hr25
                  case hy25 => (intro _ hSw; (try dsimp only at hSw); go_simp <;> with_reducible rfl)
                  simp only [Act.put, List.setIfInBounds_toArray, List.set_cons_zero, List.set_cons_succ]
                  refine' wpAnyH_take (i := 32) (oi := { dst := some 123, op := Go.Op.binOp Go.BinOp.sub 3 (Go.Operand.tmp 122) (Go.Operand.const (Go.Value.int Go.IntKind.i64 1)) 3, type := 3, pos := "law.go:103", after := #[{ on := 31, ground := Go.Ground.data }, { on := 28, ground := Go.Ground.guard }], guard := some (28, false) }) (v := _) rfl (by kernel_rfl) (by kernel_rfl) (by kernel_rfl) (fun _ _ _ h => h) (Or.inl ⟨by rfl, ?hy26⟩) (by assumption) ?hr26
                  case hy26 => (intro _ hSw; (try dsimp only at hSw); go_simp <;> with_reducible rfl)
                  simp only [Act.put, List.setIfInBounds_toArray, List.set_cons_zero, List.set_cons_succ]
                  refine wpAnyH_ready (rs := [30]) (by kernel_rfl) (by simp) ?_
                  refine AllReadyH.cons (o := { dst := some 121, op := Go.Op.call { callee := Go.Callee.value (Go.Operand.func 17), args := #[Go.Operand.tmp 120, Go.Operand.const (Go.Value.bool true)], argTypes := #[23, 4] }, type := 9, pos := "law.go:103", after := #[{ on := 29, ground := Go.Ground.data }, { on := 28, ground := Go.Ground.chain }, { on := 28, ground := Go.Ground.guard }], guard := some (28, false) }) rfl (fun K hK => ?_) AllReadyH.nil
                  go_simp
                  (with_reducible refine (gBody kd S KD.out SZ.out _).mono ?_); rintro e wc ⟨rfl, hb⟩
                  go_wp2_with fail
                  refine hK.out _ _ (below_on' hHeld hb) (fun hNext => ?_)
                  clear hK K hHeld hb
                  have hHeld := hNext
                  clear hNext
                  refine wpAnyH_ready (rs := [33]) (by kernel_rfl) (by simp) ?_
                  refine AllReadyH.cons (o := { dst := some 124, op := Go.Op.call { callee := Go.Callee.value (Go.Operand.func 4), args := #[Go.Operand.tmp 121, Go.Operand.const (Go.Value.bool true), Go.Operand.tmp 123], argTypes := #[9, 4, 3] }, type := 4, pos := "law.go:103", after := #[{ on := 30, ground := Go.Ground.data }, { on := 32, ground := Go.Ground.data }, { on := 30, ground := Go.Ground.chain }, { on := 28, ground := Go.Ground.guard }], guard := some (28, false) }) rfl (fun K hK => ?_) AllReadyH.nil
                  go_simp
                  (with_reducible refine (LD.out _ _ _ _ (tabs_below TX.out hHeld)).mono ?_); rintro e wc ⟨rfl, hb⟩
                  go_wp2_with fail
                  refine hK.out _ _ (below_on' hHeld hb) (fun hNext => ?_)
                  clear hK K hHeld hb
                  have hHeld := hNext
                  clear hNext
                  refine' wpAnyH_take (i := 34) (oi := { dst := some 125, op := Go.Op.unOp Go.UnOp.not 4 (Go.Operand.tmp 124), type := 4, pos := "law.go:103", after := #[{ on := 33, ground := Go.Ground.data }, { on := 28, ground := Go.Ground.guard }], guard := some (28, false) }) (v := _) rfl (by kernel_rfl) (by kernel_rfl) (by kernel_rfl) (fun _ _ _ h => h) (Or.inl ⟨by rfl, ?hy27⟩) (by assumption) ?hr27
                  case hy27 => (intro _ hSw; (try dsimp only at hSw); go_simp <;> with_reducible rfl)
                  simp only [Act.put, List.setIfInBounds_toArray, List.set_cons_zero, List.set_cons_succ]
                  refine' wpAnyH_take (i := 35) (oi := { dst := some 126, op := Go.Op.pick (Go.Operand.tmp 119) (Go.Operand.const (Go.Value.bool true)) (Go.Operand.tmp 125), type := 4, pos := "law.go:103", after := #[{ on := 28, ground := Go.Ground.data }, { on := 34, ground := Go.Ground.data }], guard := none }) (v := _) rfl (by kernel_rfl) (by kernel_rfl) (by kernel_rfl) (fun _ _ _ h => h) (Or.inl ⟨by rfl, ?hy28⟩) (by assumption) ?hr28
                  case hy28 => (intro _ hSw; (try dsimp only at hSw); go_simp <;> with_reducible rfl)
                  simp only [Act.put, List.setIfInBounds_toArray, List.set_cons_zero, List.set_cons_succ]
                  refine wpAnyH_done (by kernel_rfl) ?_ _
                  go_wp2
                  go_roundw
                  case rel => first | exact ⟨kd + 1, by omega, by omega, by go_num, Lib.hid (below_on' BX.out hHeld)⟩ | ((repeat apply Exists.intro); exact ⟨⟨kd + 1, by omega, by omega, by go_num, Lib.hid (below_on' BX.out hHeld)⟩, rfl⟩)
                  case measure => simp [intOf]; omega
                · go_wp2
                  go_roundw
                  case rel => first | exact ⟨j + 1, by omega, by go_num, HB⟩ | ((repeat apply Exists.intro); exact ⟨⟨j + 1, by omega, by go_num, HB⟩, rfl⟩)
                  case measure => simp [intOf]; omega
            · obtain ⟨T, hT, hbody⟩ := body5
              have CB := Lib.hid hbody
              clear hbody
              go_wp2_with (go_at_call 17; ((with_reducible refine (CB.out _).mono ?_); rintro e w2 ⟨rfl, hb⟩; have B2 : Hid (Below w.heap.size w w2) := Lib.hid (below_on' (below_on' (below_on' HB1.out B0'.out) HB.out) hb); clear hb))
              obtain ⟨n, hn⟩ : ∃ n, T.size = n := ⟨_, rfl⟩
              have HN := Lib.hid hn
              have hn9 : n ≤ 100 := by omega
              have HL : Hid (T.data.toList.length = n) := Lib.hid hn
              clear hT CB HB B0' HP HZ HR1 hj6 hj
              have T2 : Hid (Tabs w2) := Lib.hid (tabs_below HT.out B2.out)
              go_loopw [10] (fun i wr => ∃ i' : Nat, i' ≤ n ∧ i = .int .i64 i' ∧ Hid (Below w2.heap.size w2 wr)) (fun i _ => n - (intOf i).toNat)
              case atStart => exact ⟨0, by omega, rfl, Lib.hid (Below.refl _ _)⟩
              case round =>
                obtain ⟨i, hi, rfl, HB⟩ := hrel
                by_cases hin : i < n
                · have hd5 : decide ((i : Int) < n) = true := by simp; omega
                  go_wp2
                  have BA : Hid (Below w2.heap.size w2 (wr.alloc bits5)) := Lib.hid (HB.out.alloc HB.out.size _)
                  have HP := Lib.hid (picks5 wr)
                  have HZ : Hid (wr.heap.size < (wr.alloc bits5).heap.size) := Lib.hid (by simp)
                  generalize wr.alloc bits5 = w3 at *
                  obtain ⟨bk, hbk⟩ : ∃ bk, wr.heap.size = bk := ⟨_, rfl⟩
                  rw [hbk] at HP HZ
                  rw [hbk]
                  clear hbk HB
                  go_loopw [138] (fun i wr => ∃ j : Nat, j ≤ 5 ∧ i = .int .i64 j ∧ Hid (Below w3.heap.size w3 wr)) (fun i _ => 5 - (intOf i).toNat)
                  case atStart => exact ⟨0, by omega, rfl, Lib.hid (Below.refl _ _)⟩
                  case round =>
                    obtain ⟨j, hj, rfl, HB⟩ := hrel
                    by_cases hj5 : j < 5
                    · have hdj : decide ((j : Int) < 5) = true := by simp; omega
                      obtain ⟨by', hby, hc0⟩ := HP.out j hj5
                      have hc : wr.cell? ⟨bk, j, none⟩ = some (.int .u8 (by' : Int)) := (HB.out.cell (p := ⟨bk, j, none⟩) HZ.out).trans hc0
                      clear hc0
                      obtain ⟨W1, cap, hcap, hconv, RW, BW⟩ := bytes_room wr T n HN.out
                      obtain ⟨x, hx⟩ : ∃ x, (T.data.toList.getD i 0).toNat = x := ⟨_, rfl⟩
                      have hx2 : x < 256 := hx ▸ Fcs.u8_lt _
                      have C1 : W1.cell? ⟨wr.heap.size, i, none⟩ = some (.int .u8 (x : Int)) := by rw [← hx]; exact RW.out.cell i (by rw [HL.out]; exact hin)
                      have Z1 : W1.frozen? ⟨wr.heap.size, i, none⟩ = false := RW.out.free i (by rw [HL.out]; exact hin)
                      have C2 : W1.cell? ⟨bk, j, none⟩ = some (.int .u8 (by' : Int)) := (BW.out.cell (p := ⟨bk, j, none⟩) (World.block_lt_of_cell? wr ⟨bk, j, none⟩ hc)).trans hc
                      obtain ⟨o1, he1, ho1⟩ : ∃ o1 : Nat, bits .xor .u8 (x : Int) (by' : Int) = (o1 : Int) ∧ o1 < 256 := ⟨_, u8_xor_nat x by' hx2 hby, Fcs.xor_lt x by' hx2 hby⟩
                      have R2 : Hid (Row (W1.setCell ⟨wr.heap.size, i, none⟩ (.int .u8 (o1 : Int))) wr.heap.size (T.data.toList.set i (UInt8.ofNat o1))) := Lib.hid (RW.out.put i (by rw [HL.out]; exact hin) o1 ho1)
                      have L2 : Hid ((T.data.toList.set i (UInt8.ofNat o1)).length = n) := Lib.hid (by rw [List.length_set]; exact HL.out)
                      have P2 : Hid (0 < n) := Lib.hid (by omega)
                      have BY : Hid (Below w3.heap.size w3 (W1.setCell ⟨wr.heap.size, i, none⟩ (.int .u8 (o1 : Int)))) := Lib.hid ((below_on' HB.out BW.out).setCell HB.out.size _)
                      have T3 : Hid (Tabs w3) := Lib.hid (tabs_below T2.out BA.out)
                      have hcv := R2.out.conv n cap L2.out
                      obtain ⟨t, ht⟩ : ∃ t, (⟨(T.data.toList.set i (UInt8.ofNat o1)).toArray⟩ : ByteArray) = t := ⟨_, rfl⟩
                      have HTT := Lib.hid ht
                      obtain ⟨p, hp⟩ : ∃ p, (⟨((T.data.toList.set i (UInt8.ofNat o1)).take i).toArray⟩ : ByteArray) = p := ⟨_, rfl⟩
                      have HPP := Lib.hid hp
                      rw [ht] at hcv
                      clear ht hp hx hby hx2 ho1 RW BW
                      go_wp2_with (first
                        | (go_at_call 4; ((with_reducible refine (LD.out t _ _ _ ?_).mono ?_); (· exact tabs_below T3.out BY.out); rintro e wd ⟨rfl, hb⟩; have RD : Hid (Row wd wr.heap.size (T.data.toList.set i (UInt8.ofNat o1))) := Lib.hid (R2.out.below (by rw [L2.out]; exact P2.out) hb); have BD := Lib.hid (below_on' BY.out hb); clear hb; have hcw := (row_take RD.out i).conv i cap (by rw [List.length_take, L2.out]; omega); rw [HPP.out] at hcw))
                        | (go_at_call 4; ((with_reducible refine (LD.out p _ _ _ ?_).mono ?_); (· exact tabs_below T3.out BD.out); rintro e we ⟨rfl, hb⟩; have RE : Hid (Row we wr.heap.size (T.data.toList.set i (UInt8.ofNat o1))) := Lib.hid (RD.out.below (by rw [L2.out]; exact P2.out) hb); have BE := Lib.hid (below_on' BD.out hb); clear hb; have hcx := RE.out.conv n cap L2.out; rw [HTT.out] at hcx))
                        | (go_at_call 5; ((with_reducible refine (back0 t _ _ _ ?_).mono ?_); (· exact tabs_below T3.out BE.out); rintro e wf ⟨rfl, hb⟩; have BF := Lib.hid (below_on' BE.out hb); clear hb)))
                      go_roundw
                      case rel => first | exact ⟨j + 1, by omega, by go_num, BF⟩ | ((repeat apply Exists.intro); exact ⟨⟨j + 1, by omega, by go_num, BF⟩, rfl⟩)
                      case measure => simp [intOf]; omega
                    · go_wp2
                      go_roundw
                      case rel => first | exact ⟨i + 1, by omega, by go_num, Lib.hid (below_on' BA.out HB.out)⟩ | ((repeat apply Exists.intro); exact ⟨⟨i + 1, by omega, by go_num, Lib.hid (below_on' BA.out HB.out)⟩, rfl⟩)
                      case measure => simp [intOf]; omega
                · go_wp2_with (first
                    | (go_at_call 3; ((with_reducible refine (enc62 _ _ _ ?_).mono ?_); (· exact tabs_below T2.out HB.out); rintro e we ⟨rfl, hb⟩; have BE := Lib.hid (below_on' HB.out hb); clear hb))
                    | (go_at_call 4; ((with_reducible refine (LD.out ⟨#[249, 63, 1, 0]⟩ _ _ _ ?_).mono ?_); (· exact tabs_below T2.out BE.out); rintro e wf ⟨rfl, hb⟩; have BF := Lib.hid (below_on' BE.out hb); clear hb))
                    | (go_at_call 4; ((with_reducible refine (LD.out ⟨#[3, 239, 2, 0, 0]⟩ _ _ _ ?_).mono ?_); (· exact tabs_below T2.out BF.out); rintro e wg ⟨rfl, hb⟩; have BG := Lib.hid (below_on' BF.out hb); clear hb))
                    | (go_at_call 4; ((with_reducible refine (LD.out ⟨#[]⟩ _ _ _ ?_).mono ?_); (· exact tabs_below T2.out BG.out); rintro e wh ⟨rfl, hb⟩; have BH := Lib.hid (below_on' BG.out hb); clear hb))
                    | (go_at_call 8; ((with_reducible refine (works _ ?_).mono ?_); (· exact tabs_below T2.out BH.out); rintro e wi ⟨rfl, hb⟩; have BI := Lib.hid (below_on' BH.out hb); clear hb)))
                  go_ret
                  exact ⟨rfl, below_on' B2.out BI.out⟩
end Go.Proofs.YtglbnacnlkdoiaaDoor.Basic

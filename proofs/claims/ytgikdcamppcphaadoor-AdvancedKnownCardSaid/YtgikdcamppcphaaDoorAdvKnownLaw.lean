/-
  AdvancedKnown answers true, and turns nothing that was there. Condition: the tables of layers 1 and 3 lie where the program lays them.
-/
import Derived.Test.YtgikdcamppcphaaDoorAdvTurnedLaw
import Derived.Test.YtgikdcamppcphaaDoorAdvEncodeLaw
import Derived.Test.YtgikdcamppcphaaDoorAdvDecodeLaw
import Derived.Test.YtgikdcamppcphaaDoorAdvStuffLaw
namespace Go.Proofs.YtgikdcamppcphaaDoor.Adv
open Go.RowKit Go.Proofs.YtgikdcamppcphaaDoor.Base Go.Proofs.YtgikdcamppcphaaDoor.Ea Go.Proofs.YtgikdcamppcphaaDoor.Field Go.Proofs.YtgikdcamppcphaaDoor.Basic
/-- The laws, for any arguments, from a world that keeps the tables. -/
abbrev LawE : Prop := ∀ (f : Fr) (ini : Bool) (n1 : Int) (w : World), f.In → f.info.size ≤ 1000 → Tabs w → Calls Tryd.prog 3 #[fv f, .bool ini, .int .i64 n1] w fun e w' => e = .returned (.bool true) ∧ Below w.heap.size w w'
abbrev LawB : Prop := ∀ (f : Fr) (s : ByteArray) (ini : Bool) (n1 : Int) (w : World), f.In → f.info.size ≤ 1000 → Tabs w → Calls Tryd.prog 6 #[fv f, .string s, .bool ini, .int .i64 n1] w fun e w' => e = .returned (.bool true) ∧ Below w.heap.size w w'
abbrev LawD : Prop := ∀ (s : ByteArray) (ini : Bool) (n1 : Int) (w : World), Tabs w → Calls Tryd.prog 4 #[.string s, .bool ini, .int .i64 n1] w fun e w' => e = .returned (.bool true) ∧ Below w.heap.size w w'
abbrev LawS : Prop := ∀ (s : ByteArray) (w : World), Tabs w → Calls Tryd.prog 5 #[.string s] w fun e w' => e = .returned (.bool true) ∧ Below w.heap.size w w'
abbrev LawT : Prop := ∀ (f : Fr) (ini : Bool) (aa bb : Nat) (w : World), f.In → f.info.size ≤ 1000 → aa < 256 → bb < 256 → Tabs w → Calls Tryd.prog 7 #[fv f, .bool ini, .int .u8 (aa : Int), .int .u8 (bb : Int)] w fun e w' => e = .returned (.bool true) ∧ Below w.heap.size w w'
theorem lawE : LawE := fun f ini n1 w hf hl ht => encodes f hf (by unfold maxLen; omega) ini n1 w ht
theorem lawB : LawB := fun f s ini n1 w hf hl ht => back f hf (by unfold maxLen; omega) s ini n1 w ht
theorem lawD : LawD := fun s ini n1 w ht => decodes s ini n1 w ht
theorem lawS : LawS := fun s w ht => stuffs s w ht
theorem lawT : LawT := fun f ini aa bb w hf hl ha hb ht => turned f hf (by unfold maxLen; omega) ini aa ha bb hb w ht
def m129 : Array Value := (List.replicate 129 (Value.int .u8 0)).toArray
def z129 : ByteArray := ⟨(List.replicate 129 0).toArray⟩
theorem z129_size : z129.size = 129 := by decide +kernel
theorem make129 (w : World) : (Instr.makeSlice 37 (.int .i64 129) (.int .i64 129)).run Tryd.prog w = .ok (.slice (some ⟨w.heap.size, 0, none⟩) 129 129) (w.alloc (.cells m129 5)) := by kernel_rfl
theorem conv129 (w : World) : (convert 37 9 (.slice (some ⟨w.heap.size, 0, none⟩) 129 129)).run Tryd.prog (w.alloc (.cells m129 5)) = .ok (.string z129) (w.alloc (.cells m129 5)) := by
  have h := run_convert_bytes_arg (P := Tryd.prog) (w.alloc (.cells m129 5)) 37 5 Tryd.underlying37 Tryd.underlying5 w.heap.size 0 129 129 (List.replicate 129 0) (by simp) (fun i hi => by
    rw [Nat.zero_add, cell_new]
    have hi' : i < 129 := by simpa using hi
    simp only [m129, List.getElem?_toArray, List.getD_eq_getElem?_getD, List.getElem?_replicate, hi', if_true, Option.getD_some]) 9 Tryd.underlying9
  rw [h]
  rfl
/-- Six numbers, one of which is picked. -/
abbrev sixO : Obj := .cells #[.int .i64 (-9223372036854775808), .int .i64 0, .int .i64 127, .int .i64 128, .int .i64 129, .int .i64 9223372036854775807] 3
theorem fresh3 {a b : World} {o p q : Obj} (hb : Below (((a.alloc o).alloc p).alloc q).heap.size (((a.alloc o).alloc p).alloc q) b) : b.heap[a.heap.size + 1 + 1]? = some q := stays (nest a [o, p, q] 2 q rfl) hb
theorem on3 {w a b : World} {o p q : Obj} (h : Below w.heap.size w a) (hb : Below (((a.alloc o).alloc p).alloc q).heap.size (((a.alloc o).alloc p).alloc q) b) : Below w.heap.size w b := below_on' (below_on' h (nest_below a [o, p, q])) hb
theorem tabs3 {w a : World} {o p q : Obj} (ht : Tabs w) (h : Below w.heap.size w a) : Tabs (((a.alloc o).alloc p).alloc q) := tabs_below ht (below_on' h (nest_below a [o, p, q]))
/-- The frames of a number that may be, of three octets of information. -/
theorem i_ae (d ns nr : Nat) (c pf : Bool) (i : ByteArray) (hd : d < 64) (h1 : ns < 8) (h2 : nr < 8) (hi : i.size = 3) : Fr.ae ⟨d, c, 7, pf, ns, nr, i⟩ 31 = 0 := by
  refine ae_of (show d ≤ 63 by omega) ?_ ?_ (by show i.size ≤ room 31; rw [hi]; decide)
  · show okP 7 ns nr = true
    simp [okP, isK, mayH]; omega
  · show mayF 7 c i = true
    have : mayB 7 c = true ∧ carryB 7 = true := by cases c <;> decide
    simp [mayF, this.1, this.2]
/-- A frame of channel 5 of zeros. -/
abbrev lO (I : ByteArray) : Obj := .cells #[.int .u8 5, .bool false, .int .u8 5, .bool false, .int .u8 0, .int .u8 0, .string I] 23
theorem l_cells {w : World} {F : Nat} {I : ByteArray} (h : w.heap[F]? = some (lO I)) : (w.cell? ⟨F, 0, none⟩ = some (.int .u8 5) ∧ w.cell? ⟨F, 1, none⟩ = some (.bool false) ∧ w.cell? ⟨F, 2, none⟩ = some (.int .u8 5) ∧ w.cell? ⟨F, 3, none⟩ = some (.bool false) ∧ w.cell? ⟨F, 4, none⟩ = some (.int .u8 0) ∧ w.cell? ⟨F, 5, none⟩ = some (.int .u8 0) ∧ w.cell? ⟨F, 6, none⟩ = some (.string I)) ∧ (∀ i, w.frozen? ⟨F, i, none⟩ = false) :=
  ⟨⟨cell_of h rfl, cell_of h rfl, cell_of h rfl, cell_of h rfl, cell_of h rfl, cell_of h rfl, cell_of h rfl⟩, fun _ => free_of h⟩
theorem l_set {w : World} {F : Nat} {I : ByteArray} (h : w.heap[F]? = some (lO I)) (J : ByteArray) : (w.setCell ⟨F, 6, none⟩ (.string J)).heap[F]? = some (lO J) := block_set (i := 6) h (.string J)
theorem s_set {w : World} {F : Nat} (h : w.heap[F + 1]? = some sixO) (v : Value) : (w.setCell ⟨F, 6, none⟩ v).heap[F + 1]? = some sixO := (Below.heap_setCell w ⟨F, 6, none⟩ v (F + 1) (by show F + 1 ≠ F; omega)).trans h
theorem six_at {w : World} {b : Nat} (h : w.heap[b]? = some sixO) (j : Nat) (hj : j < 6) : ∃ n : Int, w.cell? ⟨b, j, none⟩ = some (.int .i64 n) := by
  match j, hj with
  | 0, _ => exact ⟨_, cell_of h rfl⟩
  | 1, _ => exact ⟨_, cell_of h rfl⟩
  | 2, _ => exact ⟨_, cell_of h rfl⟩
  | 3, _ => exact ⟨_, cell_of h rfl⟩
  | 4, _ => exact ⟨_, cell_of h rfl⟩
  | 5, _ => exact ⟨_, cell_of h rfl⟩
set_option maxHeartbeats 4000000 in
set_option maxRecDepth 100000 in
theorem known (w : World) (ht : Tabs w) :
    Calls Tryd.prog 8 #[] w fun e w' => e = .returned (.bool true) ∧ Below w.heap.size w w' := by
  have HT := Lib.hid ht
  have LE := Lib.hid lawE
  have LB := Lib.hid lawB
  have LD := Lib.hid lawD
  have LS := Lib.hid lawS
  have LT := Lib.hid lawT
  clear ht
  go_enter Tryd.func8, Tryd.ntmps8
  go_wp2
  go_loopw [1] (fun i wr => ∃ c : Nat, c ≤ 256 ∧ i = .int .i64 (c : Int) ∧ Hid (Below w.heap.size w wr)) (fun i _ => 256 - (intOf i).toNat)
  case atStart => exact ⟨0, by omega, rfl, Lib.hid (Below.refl _ _)⟩
  case round =>
    obtain ⟨c, hc, rfl, HB⟩ := hrel
    by_cases hlt : c < 256
    · have hcd : decide ((c : Int) < 256) = true := by simp; omega
      have hcv := conv_one wr c
      obtain ⟨o, ho⟩ : ∃ o : ByteArray, (⟨#[UInt8.ofNat c]⟩ : ByteArray) = o := ⟨_, rfl⟩
      have zo : o.size = 1 := by rw [← ho]; rfl
      rw [ho] at hcv
      obtain ⟨i4, hi4⟩ : ∃ i4 : ByteArray, (⟨#[97]⟩ : ByteArray) ++ o ++ ⟨#[125]⟩ = i4 := ⟨_, rfl⟩
      have zi : i4.size = 3 := by rw [← hi4, ByteArray.size_append, ByteArray.size_append, zo]; rfl
      have za : (⟨#[97]⟩ : ByteArray).size = 1 := rfl
      have zb : (⟨#[125]⟩ : ByteArray).size = 1 := rfl
      have zc : (⟨#[126]⟩ : ByteArray).size = 1 := rfl
      have zd : (⟨#[7]⟩ : ByteArray).size = 1 := rfl
      have ze : (⟨#[0]⟩ : ByteArray).size = 1 := rfl
      have zf : (⟨#[63]⟩ : ByteArray).size = 1 := rfl
      obtain ⟨d3, hd3⟩ : ∃ x : Nat, (c : Int) % 66 = (x : Int) := ⟨c % 66, by omega⟩
      obtain ⟨k3, hk3⟩ : ∃ x : Nat, (c : Int) % 12 = (x : Int) := ⟨c % 12, by omega⟩
      obtain ⟨n3, hn3⟩ : ∃ x : Nat, (c : Int) % 8 = (x : Int) := ⟨c % 8, by omega⟩
      obtain ⟨m3, hm3⟩ : ∃ x : Nat, (c : Int) / 8 % 8 = (x : Int) := ⟨c / 8 % 8, by omega⟩
      obtain ⟨d4, hd4⟩ : ∃ x : Nat, (c : Int) % 64 = (x : Int) := ⟨c % 64, by omega⟩
      obtain ⟨u3, hu3⟩ : ∃ x : Nat, (c : Int) / 3 = (x : Int) := ⟨c / 3, by omega⟩
      obtain ⟨b2, hb2⟩ : ∃ b : Bool, ((c : Int) % 2 == 0) = b := ⟨_, rfl⟩
      obtain ⟨b3, hb3⟩ : ∃ b : Bool, ((c : Int) % 3 == 0) = b := ⟨_, rfl⟩
      have l1 : d3 < 256 := by omega
      have l2 : k3 < 256 := by omega
      have l3 : n3 < 8 := by omega
      have l4 : m3 < 8 := by omega
      have l5 : d4 < 64 := by omega
      have l6 := Lib.hid (show u3 < 256 by omega)
      have l7 := Lib.hid hlt
      have F3 : Hid ((⟨d3, b2, k3, b3, n3, m3, o⟩ : Fr).In) := Lib.hid ⟨l1, l2, by show n3 < 256; omega, by show m3 < 256; omega⟩
      have F4 : Hid ((⟨d4, b2, 7, b3, n3, m3, i4⟩ : Fr).In) := Lib.hid ⟨by show d4 < 256; omega, by show 7 < 256; decide, by show n3 < 256; omega, by show m3 < 256; omega⟩
      have A4 := Lib.hid (i_ae d4 n3 m3 b2 b3 i4 l5 l3 l4 zi)
      obtain ⟨T, hT⟩ : ∃ T, Fr.adv (⟨d4, b2, 7, b3, n3, m3, i4⟩ : Fr) b2 = T := ⟨_, rfl⟩
      have tz : T.size ≤ 1000 ∧ 6 ≤ T.size := by
        have e1 := adv_size (⟨d4, b2, 7, b3, n3, m3, i4⟩ : Fr) b2
        have e2 := stB_size (Fr.inner (⟨d4, b2, 7, b3, n3, m3, i4⟩ : Fr) b2)
        have e3 : (Fr.inner (⟨d4, b2, 7, b3, n3, m3, i4⟩ : Fr) b2).size = i4.size + 3 := inn_size _ _ _ i4
        rw [hT] at e1
        omega
      obtain ⟨tl, t6⟩ := tz
      have E4 : Hid (∀ w, Tabs w → Calls Tryd.prog 10 #[.agg #[.int .u8 (d4 : Int), .bool b2, .int .u8 7, .bool b3, .int .u8 (n3 : Int), .int .u8 (m3 : Int), .string i4], .bool b2, .int .i64 31] w fun e w' => e = .returned (.tuple #[.string T, .int .i64 0]) ∧ Below w.heap.size w w') := Lib.hid (fun w ht => by rw [← hT]; exact fenc_yes _ F4.out b2 31 w ht A4.out)
      have L4 : Hid (i4.size ≤ 1000) := Lib.hid (by omega)
      have B4 : Hid (∀ s ini n1 w, Tabs w → Calls Tryd.prog 6 #[.agg #[.int .u8 (d4 : Int), .bool b2, .int .u8 7, .bool b3, .int .u8 (n3 : Int), .int .u8 (m3 : Int), .string i4], .string s, .bool ini, .int .i64 n1] w fun e w' => e = .returned (.bool true) ∧ Below w.heap.size w w') := Lib.hid (fun s ini n1 w ht => LB.out (⟨d4, b2, 7, b3, n3, m3, i4⟩ : Fr) s ini n1 w F4.out L4.out ht)
      have T4 : Hid (∀ ini w, Tabs w → Calls Tryd.prog 7 #[.agg #[.int .u8 (d4 : Int), .bool b2, .int .u8 7, .bool b3, .int .u8 (n3 : Int), .int .u8 (m3 : Int), .string i4], .bool ini, .int .u8 (c : Int), .int .u8 (u3 : Int)] w fun e w' => e = .returned (.bool true) ∧ Below w.heap.size w w') := Lib.hid (fun ini w ht => LT.out (⟨d4, b2, 7, b3, n3, m3, i4⟩ : Fr) ini c u3 w F4.out L4.out l7.out l6.out ht)
      have L3 : Hid (o.size ≤ 1000) := Lib.hid (by omega)
      have HT1 := HT
      clear hT ho
      have p0 : (0 : Int) ≤ (T.size : Int) - 1 := by omega
      have p1 : ((T.size : Int) - 1).toNat = T.size - 1 := by omega
      have p2 : ((T.size : Int) - 2).toNat = T.size - 2 := by omega
      have p3 : (1 : Int) ≤ (T.size : Int) - 1 := by omega
      have p4 : (T.size : Int) - 1 ≤ T.size := by omega
      have p5 : (1 : Int) ≤ (T.size : Int) - 2 := by omega
      have p6 : (T.size : Int) - 2 ≤ T.size := by omega
      go_wp2_with (first
        | (go_at_call 4; ((with_reducible refine (LD.out _ _ _ _ ?_).mono ?_); (· exact tabs_below HT.out BFK.out); rintro e wl ⟨rfl, hb⟩; have FL : Hid (FrAt wl (wr.heap.size + 1 + 1) ((⟨d4, b2, 7, b3, n3, m3, i4⟩ : Fr))) := Lib.hid (FK.out.below hb); have BFL := Lib.hid (below_on' BFK.out hb); clear hb; clear g0 g1 g2 g3 g4 g5 g6; obtain ⟨g0, g1, g2, g3, g4, g5, g6⟩ := FL.out.cells; dsimp only at g0 g1 g2 g3 g4 g5 g6))
        | (go_at_call 4; ((with_reducible refine (LD.out _ _ _ _ ?_).mono ?_); (· exact tabs_below HT.out BFJ.out); rintro e wk ⟨rfl, hb⟩; have FK : Hid (FrAt wk (wr.heap.size + 1 + 1) ((⟨d4, b2, 7, b3, n3, m3, i4⟩ : Fr))) := Lib.hid (FJ.out.below hb); have BFK := Lib.hid (below_on' BFJ.out hb); clear hb; clear g0 g1 g2 g3 g4 g5 g6; obtain ⟨g0, g1, g2, g3, g4, g5, g6⟩ := FK.out.cells; dsimp only at g0 g1 g2 g3 g4 g5 g6))
        | (go_at_call 4; ((with_reducible refine (LD.out _ _ _ _ ?_).mono ?_); (· exact tabs_below HT.out BFI.out); rintro e wj ⟨rfl, hb⟩; have FJ : Hid (FrAt wj (wr.heap.size + 1 + 1) ((⟨d4, b2, 7, b3, n3, m3, i4⟩ : Fr))) := Lib.hid (FI.out.below hb); have BFJ := Lib.hid (below_on' BFI.out hb); clear hb; clear g0 g1 g2 g3 g4 g5 g6; obtain ⟨g0, g1, g2, g3, g4, g5, g6⟩ := FJ.out.cells; dsimp only at g0 g1 g2 g3 g4 g5 g6))
        | (go_at_call 4; ((with_reducible refine (LD.out _ _ _ _ ?_).mono ?_); (· exact tabs_below HT.out BFG.out); rintro e wh ⟨rfl, hb⟩; have FH : Hid (FrAt wh (wr.heap.size + 1 + 1) ((⟨d4, b2, 7, b3, n3, m3, i4⟩ : Fr))) := Lib.hid (FG.out.below hb); have BFH := Lib.hid (below_on' BFG.out hb); clear hb; clear g0 g1 g2 g3 g4 g5 g6; obtain ⟨g0, g1, g2, g3, g4, g5, g6⟩ := FH.out.cells; dsimp only at g0 g1 g2 g3 g4 g5 g6))
        | (go_at_call 4; ((with_reducible refine (LD.out _ _ _ _ ?_).mono ?_); (· exact tabs_below HT.out BFE.out); rintro e wg ⟨rfl, hb⟩; have FG : Hid (FrAt wg (wr.heap.size + 1 + 1) ((⟨d4, b2, 7, b3, n3, m3, i4⟩ : Fr))) := Lib.hid (FE.out.below hb); have BFG := Lib.hid (below_on' BFE.out hb); clear hb; clear g0 g1 g2 g3 g4 g5 g6; obtain ⟨g0, g1, g2, g3, g4, g5, g6⟩ := FG.out.cells; dsimp only at g0 g1 g2 g3 g4 g5 g6))
        | (go_at_call 5; ((with_reducible refine (LS.out _ _ ?_).mono ?_); (· exact tabs_below HT.out BFC.out); rintro e wd ⟨rfl, hb⟩; have FD : Hid (FrAt wd (wr.heap.size + 1 + 1) ((⟨d4, b2, 7, b3, n3, m3, i4⟩ : Fr))) := Lib.hid (FC.out.below hb); have BFD := Lib.hid (below_on' BFC.out hb); clear hb; clear g0 g1 g2 g3 g4 g5 g6; obtain ⟨g0, g1, g2, g3, g4, g5, g6⟩ := FD.out.cells; dsimp only at g0 g1 g2 g3 g4 g5 g6))
        | (go_at_call 5; ((with_reducible refine (LS.out _ _ ?_).mono ?_); (· exact tabs_below HT.out BFB.out); rintro e wc ⟨rfl, hb⟩; have FC : Hid (FrAt wc (wr.heap.size + 1 + 1) ((⟨d4, b2, 7, b3, n3, m3, i4⟩ : Fr))) := Lib.hid (FB.out.below hb); have BFC := Lib.hid (below_on' BFB.out hb); clear hb; clear g0 g1 g2 g3 g4 g5 g6; obtain ⟨g0, g1, g2, g3, g4, g5, g6⟩ := FC.out.cells; dsimp only at g0 g1 g2 g3 g4 g5 g6))
        | (go_at_call 10; ((with_reducible refine (E4.out _ ?_).mono ?_); (· exact tabs_below HT.out BFH.out); rintro e wi ⟨rfl, hb⟩; have FI : Hid (FrAt wi (wr.heap.size + 1 + 1) ((⟨d4, b2, 7, b3, n3, m3, i4⟩ : Fr))) := Lib.hid (FH.out.below hb); have BFI := Lib.hid (below_on' BFH.out hb); clear hb; clear g0 g1 g2 g3 g4 g5 g6; obtain ⟨g0, g1, g2, g3, g4, g5, g6⟩ := FI.out.cells; dsimp only at g0 g1 g2 g3 g4 g5 g6))
        | (go_at_call 7; ((with_reducible refine (T4.out _ _ ?_).mono ?_); (· exact tabs_below HT.out BFD.out); rintro e we ⟨rfl, hb⟩; have FE : Hid (FrAt we (wr.heap.size + 1 + 1) ((⟨d4, b2, 7, b3, n3, m3, i4⟩ : Fr))) := Lib.hid (FD.out.below hb); have BFE := Lib.hid (below_on' BFD.out hb); clear hb; clear g0 g1 g2 g3 g4 g5 g6; obtain ⟨g0, g1, g2, g3, g4, g5, g6⟩ := FE.out.cells; dsimp only at g0 g1 g2 g3 g4 g5 g6))
        | (go_at_call 6; ((with_reducible refine (B4.out _ _ _ _ ?_).mono ?_); (· exact tabs_below HT.out BFA.out); rintro e wb ⟨rfl, hb⟩; have FB : Hid (FrAt wb (wr.heap.size + 1 + 1) ((⟨d4, b2, 7, b3, n3, m3, i4⟩ : Fr))) := Lib.hid (FA.out.below hb); have BFB := Lib.hid (below_on' BFA.out hb); clear hb; clear g0 g1 g2 g3 g4 g5 g6; obtain ⟨g0, g1, g2, g3, g4, g5, g6⟩ := FB.out.cells; dsimp only at g0 g1 g2 g3 g4 g5 g6))
        | (go_at_call 3; ((with_reducible refine (LE.out (⟨d3, b2, k3, b3, n3, m3, o⟩ : Fr) _ _ _ F3.out L3.out ?_).mono ?_); (· exact tabs3 HT.out HB.out); rintro e wa ⟨rfl, hb⟩; have FA : Hid (FrAt wa (wr.heap.size + 1 + 1) ((⟨d4, b2, 7, b3, n3, m3, i4⟩ : Fr))) := Lib.hid (fresh3 hb); have BFA := Lib.hid (on3 HB.out hb); clear hb; obtain ⟨g0, g1, g2, g3, g4, g5, g6⟩ := FA.out.cells; dsimp only at g0 g1 g2 g3 g4 g5 g6)))
      go_roundw
      case rel => exact ⟨c + 1, by omega, by go_num, BFL⟩
      case measure => simp [intOf]; omega
    · obtain ⟨w1, rfl⟩ : ∃ w1 : World, w1 = wr := ⟨_, rfl⟩
      have hmk := make129 w1
      have hcv := conv129 w1
      have zz := z129_size
      obtain ⟨Z, hZ⟩ : ∃ Z, z129 = Z := ⟨_, rfl⟩
      rw [hZ] at hcv zz
      clear hZ
      have LE7 : Hid (∀ (I : ByteArray), I.size ≤ 1000 → ∀ n1 w, Tabs w → Calls Tryd.prog 3 #[.agg #[.int .u8 5, .bool false, .int .u8 5, .bool false, .int .u8 0, .int .u8 0, .string I], .bool true, .int .i64 n1] w fun e w' => e = .returned (.bool true) ∧ Below w.heap.size w w') := Lib.hid (fun I hI n1 w ht => LE.out (⟨5, false, 5, false, 0, 0, I⟩ : Fr) true n1 w ⟨by show 5 < 256; decide, by show 5 < 256; decide, by show 0 < 256; decide, by show 0 < 256; decide⟩ hI ht)
      go_wp2
      have FZ : Hid ((((w1.alloc (.cells m129 5)).alloc (lO Z)).alloc sixO).heap[w1.heap.size + 1]? = some (lO Z)) := Lib.hid (nest w1 [_, _, _] 1 _ rfl)
      have SX : Hid ((((w1.alloc (.cells m129 5)).alloc (lO Z)).alloc sixO).heap[w1.heap.size + 1 + 1]? = some sixO) := Lib.hid (nest w1 [_, _, _] 2 _ rfl)
      have BZ : Hid (Below w.heap.size w (((w1.alloc (.cells m129 5)).alloc (lO Z)).alloc sixO)) := Lib.hid (below_on' HB.out (nest_below w1 [_, _, _]))
      have hF : w.heap.size ≤ w1.heap.size + 1 := by have := HB.out.size; omega
      clear hmk hcv
      generalize ((w1.alloc (.cells m129 5)).alloc (lO Z)).alloc sixO = w0 at *
      obtain ⟨F, hFe⟩ : ∃ F, w1.heap.size + 1 = F := ⟨_, rfl⟩
      rw [hFe] at FZ SX hF ⊢
      clear hFe
      go_loopw [173] (fun i wr => ∃ (j : Nat) (I : ByteArray), j ≤ 6 ∧ i = .int .i64 (j : Int) ∧ 128 ≤ I.size ∧ I.size ≤ 129 ∧ Hid (wr.heap[F]? = some (lO I)) ∧ Hid (wr.heap[F + 1]? = some sixO) ∧ Hid (Below w.heap.size w wr)) (fun i _ => 6 - (intOf i).toNat)
      case atStart => exact ⟨0, Z, by omega, rfl, by omega, by omega, FZ, SX, BZ⟩
      case round =>
        obtain ⟨j, I, hj, rfl, I1, I2, HF, HS, HB2⟩ := hrel
        by_cases hlt2 : j < 6
        · have hjd : decide ((j : Int) < 6) = true := by simp; omega
          obtain ⟨n1, hn1⟩ := six_at HS.out j hlt2
          obtain ⟨⟨c0, c1, c2, c3, c4, c5, c6⟩, cf⟩ := l_cells HF.out
          have HI : Hid (I.size ≤ 1000) := Lib.hid (by omega)
          go_wp2_with (go_at_call 3; ((with_reducible refine (LE7.out _ HI.out _ _ ?_).mono ?_); (· exact tabs_below HT.out HB2.out); rintro e w2 ⟨rfl, hb⟩; have HF3 := Lib.hid (stays HF.out hb); have HS3 := Lib.hid (stays HS.out hb); have HB3 := Lib.hid (below_on' HB2.out hb); clear hb c0 c1 c2 c3 c4 c5 c6 cf; obtain ⟨⟨c0, c1, c2, c3, c4, c5, c6⟩, cf⟩ := l_cells HF3.out))
          go_roundw
          case rel => exact ⟨j + 1, I.extract 0 128, by omega, by go_num, by rw [ByteArray.size_extract]; omega, by rw [ByteArray.size_extract]; omega, Lib.hid (l_set HF3.out _), Lib.hid (s_set HS3.out _), Lib.hid (HB3.out.setCell hF _)⟩
          case measure => simp [intOf]; omega
        · go_wp2_with (first
            | (go_at_call 4; ((with_reducible refine (LD.out _ _ _ _ ?_).mono ?_); (· exact tabs_below HT.out BX.out); rintro e wy ⟨rfl, hb⟩; have BY := Lib.hid (below_on' BX.out hb); clear hb))
            | (go_at_call 4; ((with_reducible refine (LD.out _ _ _ _ ?_).mono ?_); (· exact tabs_below HT.out HB2.out); rintro e wx ⟨rfl, hb⟩; have BX := Lib.hid (below_on' HB2.out hb); clear hb))
            | (go_at_call 9; ((with_reducible refine (works _ ?_).mono ?_); (· exact tabs_below HT.out BY.out); rintro e wq ⟨rfl, hb⟩; have BQ := Lib.hid (below_on' BY.out hb); clear hb)))
          go_ret
          exact ⟨rfl, BQ.out⟩
end Go.Proofs.YtgikdcamppcphaaDoor.Adv

/-
  What layer 4's frame of a body answers, and the closures by which Decode asks. Conditions: the tables of layers 1 and 3 lie where the program lays them; what was captured lies in memory.
-/
import Derived.Test.YtglbnacnlkdoiaaDoorBasicSplit
import Derived.Test.YtglbnacnlkdoiaaDoorShelf
namespace Go.Proofs.YtglbnacnlkdoiaaDoor.Basic
open Go.RowKit Go.Proofs.YtglbnacnlkdoiaaDoor.Base Go.Proofs.YtglbnacnlkdoiaaDoor.Ea Go.Proofs.YtglbnacnlkdoiaaDoor.Field
/-- No frame. -/
abbrev noFr : Value := .agg #[.int .u8 0, .bool false, .int .u8 0, .bool false, .int .u8 0, .int .u8 0, .string ⟨#[]⟩]
abbrev noObj : Obj := .cells #[.int .u8 0, .bool false, .int .u8 0, .bool false, .int .u8 0, .int .u8 0, .string ⟨#[]⟩] 23
theorem get_no (c : Nat) (hc : c < 256) (h : gK c = 0) (w : World) (ht : Field.Tab w) :
    Calls Tryd.prog 59 #[.int .u8 (c : Int)] w fun e w' => e = .returned (.tuple #[.int .u8 0, .bool false, .int .u8 0, .int .u8 0, .int .i64 30]) ∧ Below w.heap.size w w' := by
  have p := fget c hc w ht
  obtain ⟨h1, h2, h3, h4⟩ := get_none h
  unfold getV at p
  rw [h, h1, h2, h3, h4] at p
  exact p
theorem get_ok (c : Nat) (hc : c < 256) (h : gK c ≠ 0) (w : World) (ht : Field.Tab w) :
    Calls Tryd.prog 59 #[.int .u8 (c : Int)] w fun e w' => e = .returned (.tuple #[.int .u8 (gK c : Int), .bool (gPF c), .int .u8 (gNS c : Int), .int .u8 (gNR c : Int), .int .i64 0]) ∧ Below w.heap.size w w' := by
  have p := fget c hc w ht
  unfold getV at p
  rw [gE_ok h] at p
  exact p
/-- Cells of a block that holds no frame yet. -/
theorem no_cells {w : World} {b : Nat} (h : w.heap[b]? = some noObj) : (w.cell? ⟨b, 0, none⟩ = some (.int .u8 0) ∧ w.cell? ⟨b, 1, none⟩ = some (.bool false) ∧ w.cell? ⟨b, 2, none⟩ = some (.int .u8 0) ∧ w.cell? ⟨b, 3, none⟩ = some (.bool false) ∧ w.cell? ⟨b, 4, none⟩ = some (.int .u8 0) ∧ w.cell? ⟨b, 5, none⟩ = some (.int .u8 0) ∧ w.cell? ⟨b, 6, none⟩ = some (.string ⟨#[]⟩)) ∧ (∀ i, w.frozen? ⟨b, i, none⟩ = false) :=
  ⟨⟨cell_of h rfl, cell_of h rfl, cell_of h rfl, cell_of h rfl, cell_of h rfl, cell_of h rfl, cell_of h rfl⟩, fun _ => free_of h⟩
theorem set7 {B : Nat} {a w : World} (h : Below B a w) {b : Nat} (hb : B ≤ b) (v0 v1 v2 v3 v4 v5 v6 : Value) : Below B a (((((((w.setCell ⟨b, 0, none⟩ v0).setCell ⟨b, 1, none⟩ v1).setCell ⟨b, 2, none⟩ v2).setCell ⟨b, 3, none⟩ v3).setCell ⟨b, 4, none⟩ v4).setCell ⟨b, 5, none⟩ v5).setCell ⟨b, 6, none⟩ v6) :=
  ((((((h.setCell hb _).setCell hb _).setCell hb _).setCell hb _).setCell hb _).setCell hb _).setCell hb _
set_option maxHeartbeats 1000000 in
theorem bframe_no (hd i : ByteArray) (x : Nat) (ini : Bool) (h1 : 1 < hd.size) (hk : gK hd[1].toNat = 0) (w : World) (ht : Field.Tab w) :
    Calls Tryd.prog 36 #[.agg #[.string hd, .string i, .int .u8 (x : Int)], .bool ini] w fun e w' => e = .returned (.tuple #[noFr, .int .i64 30]) ∧ Below w.heap.size w w' := by
  have C := Lib.hid (get_no hd[1].toNat (oct_lt _) hk)
  have HT := Lib.hid ht
  clear hk ht
  go_enter Tryd.func36, Tryd.ntmps36
  go_wp2_with (go_at_call 59; ((with_reducible refine (C.out _ ?_).mono ?_); (· exact Field.tab_below HT.out (nest_below w [_, _])); rintro e w1 ⟨rfl, hb⟩; have hbk := (hb.block (w.heap.size + 1) (by simp)).trans (nest w [_, _] 1 _ rfl); obtain ⟨⟨k0, k1, k2, k3, k4, k5, k6⟩, kf⟩ := no_cells hbk; have HB := Lib.hid (below_on' (nest_below w [_, _]) hb); clear hb hbk))
  exact bodyPost_ret (v := .tuple #[noFr, .int .i64 30]) (by simp [results, Tryd.results36, go_sem, k0, k1, k2, k3, k4, k5, k6]) rfl ⟨rfl, set7 HB.out (by omega) _ _ _ _ _ _ _⟩
set_option maxHeartbeats 1000000 in
theorem bframe_ok (hd i : ByteArray) (x : Nat) (ini : Bool) (h1 : 1 < hd.size) (hk : gK hd[1].toNat ≠ 0) (w : World) (ht : Field.Tab w) :
    Calls Tryd.prog 36 #[.agg #[.string hd, .string i, .int .u8 (x : Int)], .bool ini] w fun e w' => e = .returned (.tuple #[fv (fr hd[0].toNat hd[1].toNat i ini), .int .i64 0]) ∧ Below w.heap.size w w' := by
  have C := Lib.hid (get_ok hd[1].toNat (oct_lt _) hk)
  have HT := Lib.hid ht
  have hb0 := oct_lt hd[0]
  clear hk ht
  go_enter Tryd.func36, Tryd.ntmps36
  go_wp2_with (first
    | (go_at_call 59; ((with_reducible refine (C.out _ ?_).mono ?_); (· exact Field.tab_below HT.out (nest_below w [_, _])); rintro e w1 ⟨rfl, hb⟩; have hbk := (hb.block (w.heap.size + 1) (by simp)).trans (nest w [_, _] 1 _ rfl); have hbj := (hb.block w.heap.size (by simp; omega)).trans (nest w [_, _] 0 _ rfl); have l0 := cell_of (i := 0) hbj rfl; have l1 := cell_of (i := 1) hbj rfl; obtain ⟨⟨k0, k1, k2, k3, k4, k5, k6⟩, kf⟩ := no_cells hbk; have HB := Lib.hid (below_on' (nest_below w [_, _]) hb); clear hb hbk hbj))
    | (go_at_call 50; ((with_reducible refine (Ea.split _ hb0 _).mono ?_); rintro e w' ⟨rfl, rfl⟩)))
  exact bodyPost_ret (v := .tuple #[fv (fr hd[0].toNat hd[1].toNat i ini), .int .i64 0]) (by simp [results, Tryd.results36, go_sem, k0, k1, k2, k3, k4, k5, k6, fr]) rfl ⟨rfl, set7 HB.out (by omega) _ _ _ _ _ _ _⟩
end Go.Proofs.YtglbnacnlkdoiaaDoor.Basic

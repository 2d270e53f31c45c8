/-
  What layer 4's frame of a body answers, and the closures by which Decode asks. Conditions: the tables of layers 1 and 3 lie where the program lays them; what was captured lies in memory.
-/
import Derived.Test.YthlciaomfpephaaDoorBasicSplit
import Derived.Test.YthlciaomfpephaaDoorShelf
namespace Go.Proofs.YthlciaomfpephaaDoor.Basic
open Go.RowKit Go.Proofs.YthlciaomfpephaaDoor.Base Go.Proofs.YthlciaomfpephaaDoor.Ea Go.Proofs.YthlciaomfpephaaDoor.Field
set_option maxHeartbeats 1000000 in
theorem bframe_no (hd i : ByteArray) (x : Nat) (ini : Bool) (h1 : 1 < hd.size) (hk : gK hd[1].toNat = 0) (w : World) (ht : Field.Tab w) :
    Calls Tryd.prog 68 #[.agg #[.string hd, .string i, .int .u8 (x : Int)], .bool ini] w fun e w' => e = .returned (.tuple #[noFr, .int .i64 30]) ∧ Below w.heap.size w w' := by
  have C := Lib.hid (get_no hd[1].toNat (oct_lt _) hk)
  have HT := Lib.hid ht
  clear hk ht
  go_enter Tryd.func68, Tryd.ntmps68
  go_wp2_with (go_at_call 56; ((with_reducible refine (C.out _ ?_).mono ?_); (· exact Field.tab_below HT.out (nest_below w [_, _])); rintro e w1 ⟨rfl, hb⟩; have hbk := (hb.block (w.heap.size + 1) (by simp)).trans (nest w [_, _] 1 _ rfl); obtain ⟨⟨k0, k1, k2, k3, k4, k5, k6⟩, kf⟩ := no_cells hbk; have HB := Lib.hid (below_on' (nest_below w [_, _]) hb); clear hb hbk))
  exact bodyPost_ret (v := .tuple #[noFr, .int .i64 30]) (by simp [results, Tryd.results68, go_sem, k0, k1, k2, k3, k4, k5, k6]) rfl ⟨rfl, set7 HB.out (by omega) _ _ _ _ _ _ _⟩
set_option maxHeartbeats 1000000 in
theorem bframe_ok (hd i : ByteArray) (x : Nat) (ini : Bool) (h1 : 1 < hd.size) (hk : gK hd[1].toNat ≠ 0) (w : World) (ht : Field.Tab w) :
    Calls Tryd.prog 68 #[.agg #[.string hd, .string i, .int .u8 (x : Int)], .bool ini] w fun e w' => e = .returned (.tuple #[fv (fr hd[0].toNat hd[1].toNat i ini), .int .i64 0]) ∧ Below w.heap.size w w' := by
  have C := Lib.hid (get_ok hd[1].toNat (oct_lt _) hk)
  have HT := Lib.hid ht
  have hb0 := oct_lt hd[0]
  clear hk ht
  go_enter Tryd.func68, Tryd.ntmps68
  go_wp2_with (first
    | (go_at_call 56; ((with_reducible refine (C.out _ ?_).mono ?_); (· exact Field.tab_below HT.out (nest_below w [_, _])); rintro e w1 ⟨rfl, hb⟩; have hbk := (hb.block (w.heap.size + 1) (by simp)).trans (nest w [_, _] 1 _ rfl); have hbj := (hb.block w.heap.size (by simp; omega)).trans (nest w [_, _] 0 _ rfl); have l0 := cell_of (i := 0) hbj rfl; have l1 := cell_of (i := 1) hbj rfl; obtain ⟨⟨k0, k1, k2, k3, k4, k5, k6⟩, kf⟩ := no_cells hbk; have HB := Lib.hid (below_on' (nest_below w [_, _]) hb); clear hb hbk hbj))
    | (go_at_call 44; ((with_reducible refine (Ea.split _ hb0 _).mono ?_); rintro e w' ⟨rfl, rfl⟩)))
  exact bodyPost_ret (v := .tuple #[fv (fr hd[0].toNat hd[1].toNat i ini), .int .i64 0]) (by simp [results, Tryd.results68, go_sem, k0, k1, k2, k3, k4, k5, k6, fr]) rfl ⟨rfl, set7 HB.out (by omega) _ _ _ _ _ _ _⟩
end Go.Proofs.YthlciaomfpephaaDoor.Basic

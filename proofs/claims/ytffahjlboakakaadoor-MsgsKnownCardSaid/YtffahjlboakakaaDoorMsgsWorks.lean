/-
  The chapter's examples of layer 10 hold. Condition: the table of the types lies where the program lays it.
-/
import Derived.Test.YtffahjlboakakaaDoorMsgsVal
import Derived.Test.YtffahjlboakakaaDoorMsgsRead
namespace Go.Proofs.YtffahjlboakakaaDoor.Msgs
open Go.RowKit Go.Proofs.YtffahjlboakakaaDoor.Base Go.Proofs.YtffahjlboakakaaDoor.Mem
set_option maxRecDepth 20000
theorem put_is {m : Ms} (S : ByteArray) (hv : vOk m = true) (hn : m = need m) (hz : (val m).size ≤ 127) (hS : Tlv.It.bytes ⟨ty m, m.c, val m⟩ = S) : putS m = S ∧ putE m = 0 := by
  have hm : may m = true := by unfold may; rw [Bool.and_eq_true, eqM_iff]; exact ⟨hv, hn⟩
  obtain ⟨e1, e2, _⟩ := bytes_of hm hz
  exact ⟨e2.trans hS, e1⟩
theorem p1 (w : World) (ht : Tab w) : Calls Tryd.prog 8 #[mv ⟨3, true, Pn.zero, Msc.zero, 0, no⟩] w fun e w' => e = .returned (.tuple #[.string ⟨#[163, 1]⟩, .int .i64 0]) ∧ Below w.heap.size w w' := by
  obtain ⟨e1, e2⟩ := put_is (m := ⟨3, true, Pn.zero, Msc.zero, 0, no⟩) ⟨#[163, 1]⟩ rfl rfl (by decide) (by rfl)
  have := fput ⟨3, true, Pn.zero, Msc.zero, 0, no⟩ ⟨by decide, Pn.zero_in, Msc.zero_in, by decide⟩ (by decide) w ht
  rw [e1, e2] at this
  exact this
theorem p2 (w : World) (ht : Tab w) : Calls Tryd.prog 8 #[mv ⟨5, false, Pn.zero, Msc.zero, 0, ⟨#[97, 98]⟩⟩] w fun e w' => e = .returned (.tuple #[.string ⟨#[33, 5, 97, 98]⟩, .int .i64 0]) ∧ Below w.heap.size w w' := by
  obtain ⟨e1, e2⟩ := put_is (m := ⟨5, false, Pn.zero, Msc.zero, 0, ⟨#[97, 98]⟩⟩) ⟨#[33, 5, 97, 98]⟩ rfl rfl (by decide) (by rfl)
  have := fput ⟨5, false, Pn.zero, Msc.zero, 0, ⟨#[97, 98]⟩⟩ ⟨by decide, Pn.zero_in, Msc.zero_in, by decide⟩ (by decide) w ht
  rw [e1, e2] at this
  exact this
theorem p3 (w : World) (ht : Tab w) : Calls Tryd.prog 8 #[mv ⟨7, false, Pn.zero, Msc.zero, 61, no⟩] w fun e w' => e = .returned (.tuple #[.string ⟨#[17, 3, 61]⟩, .int .i64 0]) ∧ Below w.heap.size w w' := by
  obtain ⟨e1, e2⟩ := put_is (m := ⟨7, false, Pn.zero, Msc.zero, 61, no⟩) ⟨#[17, 3, 61]⟩ rfl rfl (by decide) (by rfl)
  have := fput ⟨7, false, Pn.zero, Msc.zero, 61, no⟩ ⟨by decide, Pn.zero_in, Msc.zero_in, by decide⟩ (by decide) w ht
  rw [e1, e2] at this
  exact this
theorem g1 (w : World) (ht : Tab w) : Calls Tryd.prog 15 #[.string ⟨#[163, 1, 120]⟩] w fun e w' => e = .returned (.tuple #[mv ⟨3, true, Pn.zero, Msc.zero, 0, no⟩, .int .i64 2, .int .i64 0]) ∧ Below w.heap.size w w' := by
  have e : got ⟨#[163, 1, 120]⟩ = ⟨⟨3, true, Pn.zero, Msc.zero, 0, no⟩, 2, 0⟩ := by rfl
  have := fget ⟨#[163, 1, 120]⟩ (by decide) w ht
  rw [e] at this
  exact this
theorem g2 (w : World) (ht : Tab w) : Calls Tryd.prog 15 #[.string ⟨#[163, 3, 120]⟩] w fun e w' => e = .returned (.tuple #[mv zero, .int .i64 0, .int .i64 70]) ∧ Below w.heap.size w w' := by
  have e : got ⟨#[163, 3, 120]⟩ = ⟨zero, 0, 70⟩ := by rfl
  have := fget ⟨#[163, 3, 120]⟩ (by decide) w ht
  rw [e] at this
  exact this
theorem g3 (w : World) (ht : Tab w) : Calls Tryd.prog 15 #[.string ⟨#[15, 1]⟩] w fun e w' => e = .returned (.tuple #[mv ⟨8, true, Pn.zero, Msc.zero, 3, no⟩, .int .i64 2, .int .i64 0]) ∧ Below w.heap.size w w' := by
  have e : got ⟨#[15, 1]⟩ = ⟨⟨8, true, Pn.zero, Msc.zero, 3, no⟩, 2, 0⟩ := by rfl
  have := fget ⟨#[15, 1]⟩ (by decide) w ht
  rw [e] at this
  exact this
set_option maxHeartbeats 1000000 in
theorem works (w : World) (ht : Tab w) : Calls Tryd.prog 7 #[] w fun e w' => e = .returned (.bool true) ∧ Below w.heap.size w w' := by
  have HT := Lib.hid ht
  have HB := Lib.hid (Below.refl w.heap.size w)
  have E1 : ∀ w, (binOp .eql 27 (mv ⟨3, true, Pn.zero, Msc.zero, 0, no⟩) (mv ⟨3, true, Pn.zero, Msc.zero, 0, no⟩)).run Tryd.prog w = .ok (.bool true) w := fun w => by rw [run_eqM, eqM_self]
  have E4 : ∀ w, (binOp .eql 27 (mv ⟨8, true, Pn.zero, Msc.zero, 3, no⟩) (mv ⟨8, true, Pn.zero, Msc.zero, 3, no⟩)).run Tryd.prog w = .ok (.bool true) w := fun w => by rw [run_eqM, eqM_self]
  clear ht
  go_enter Tryd.func7, Tryd.ntmps7
  go_wp2_with (first
    | ((with_reducible refine bdm (T := 27) (parts := #[(0, .const (.int .u8 3)), (1, .const (.bool true))]) ⟨3, true, Pn.zero, Msc.zero, 0, no⟩ ?hb ?_); (case hb => kernel_rfl))
    | ((with_reducible refine bdm (T := 27) (parts := #[(0, .const (.int .u8 5)), (5, .const (.string ⟨#[97, 98]⟩))]) ⟨5, false, Pn.zero, Msc.zero, 0, ⟨#[97, 98]⟩⟩ ?hb ?_); (case hb => kernel_rfl))
    | ((with_reducible refine bdm (T := 27) (parts := #[(0, .const (.int .u8 7)), (4, .const (.int .u8 61))]) ⟨7, false, Pn.zero, Msc.zero, 61, no⟩ ?hb ?_); (case hb => kernel_rfl))
    | (go_at_call 8; ((with_reducible refine (p1 _ (tab_below HT.out HB.out)).mono ?_); rintro e wp1 ⟨rfl, hb⟩; replace HB := Lib.hid (below_on HB.out hb); clear hb))
    | (go_at_call 8; ((with_reducible refine (p2 _ (tab_below HT.out HB.out)).mono ?_); rintro e wp2 ⟨rfl, hb⟩; replace HB := Lib.hid (below_on HB.out hb); clear hb))
    | (go_at_call 8; ((with_reducible refine (p3 _ (tab_below HT.out HB.out)).mono ?_); rintro e wp3 ⟨rfl, hb⟩; replace HB := Lib.hid (below_on HB.out hb); clear hb))
    | (go_at_call 15; ((with_reducible refine (g1 _ (tab_below HT.out HB.out)).mono ?_); rintro e wg1 ⟨rfl, hb⟩; replace HB := Lib.hid (below_on HB.out hb); clear hb))
    | (go_at_call 15; ((with_reducible refine (g2 _ (tab_below HT.out HB.out)).mono ?_); rintro e wg2 ⟨rfl, hb⟩; replace H7 := Lib.hid (stays H7.out hb); replace HB := Lib.hid (below_on HB.out hb); clear hb))
    | (go_at_call 15; ((with_reducible refine (g3 _ (tab_below HT.out HB.out)).mono ?_); rintro e wg3 ⟨rfl, hb⟩; replace H7 := Lib.hid (stays H7.out hb); replace HB := Lib.hid (below_on HB.out hb); clear hb))
    | (have _ := H10; (with_reducible refine alm zeroM ?_); intro b13 wa h F; have N713 := Lib.hid (F.ne H7.out); replace H7 := Lib.hid (F.stays H7.out); have H13 := Lib.hid h; have L13 := Lib.hid (F.le HB.out); replace HB := Lib.hid (F.on HB.out); clear h F)
    | (have _ := H7; (with_reducible refine alm zeroM ?_); intro b10 wa h F; have N710 := Lib.hid (F.ne H7.out); replace H7 := Lib.hid (F.stays H7.out); have H10 := Lib.hid h; have L10 := Lib.hid (F.le HB.out); replace HB := Lib.hid (F.on HB.out); clear h F)
    | ((with_reducible refine alm zeroM ?_); intro b7 wa h F; have H7 := Lib.hid h; have L7 := Lib.hid (F.le HB.out); replace HB := Lib.hid (F.on HB.out); clear h F)
    | ((with_reducible refine stm (m := ⟨8, true, Pn.zero, Msc.zero, 3, no⟩) isM H13.out ?hx ?hy ?_); (case hx => rfl); (case hy => rfl); intro wb h M; replace H7 := Lib.hid (M.other N713.out H7.out); replace H13 := Lib.hid h; replace HB := Lib.hid (M.below HB.out L13.out); clear h M)
    | ((with_reducible refine stm (m := zero) isM H10.out ?hx ?hy ?_); (case hx => rfl); (case hy => rfl); intro wb h M; replace H7 := Lib.hid (M.other N710.out H7.out); replace HB := Lib.hid (M.below HB.out L10.out); clear h M)
    | ((with_reducible refine stm (m := ⟨3, true, Pn.zero, Msc.zero, 0, no⟩) isM H7.out ?hx ?hy ?_); (case hx => rfl); (case hy => rfl); intro wb h M; replace H7 := Lib.hid h; replace HB := Lib.hid (M.below HB.out L7.out); clear h M)
    | ((with_reducible refine ldmg isM H13.out ?hg ?hx ?_); (case hg => rfl); (case hx => rfl))
    | ((with_reducible refine ldmg isM H7.out ?hg ?hx ?_); (case hg => rfl); (case hx => rfl))
    | ((with_reducible refine bdmg (T := 27) (parts := #[(0, .const (.int .u8 3)), (1, .const (.bool true))]) ⟨3, true, Pn.zero, Msc.zero, 0, no⟩ ?hg ?hb ?_); (case hg => rfl); (case hb => kernel_rfl))
    | ((with_reducible refine bdmg (T := 27) (parts := #[(0, .const (.int .u8 8)), (1, .const (.bool true)), (4, .const (.int .u8 3))]) ⟨8, true, Pn.zero, Msc.zero, 3, no⟩ ?hg ?hb ?_); (case hg => rfl); (case hb => kernel_rfl)))
  go_ret
  exact ⟨rfl, HB.out⟩
end Go.Proofs.YtffahjlboakakaaDoor.Msgs

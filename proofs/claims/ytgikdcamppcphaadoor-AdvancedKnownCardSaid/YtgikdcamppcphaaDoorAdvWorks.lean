/-
  The chapter's examples of layer 5, as the laws ask them, hold. Condition: the tables of layers 1 and 3 lie where the program lays them.
-/
import Derived.Test.YtgikdcamppcphaaDoorAdvDecode
namespace Go.Proofs.YtgikdcamppcphaaDoor.Adv
open Go.RowKit Go.Proofs.YtgikdcamppcphaaDoor.Base Go.Proofs.YtgikdcamppcphaaDoor.Ea Go.Proofs.YtgikdcamppcphaaDoor.Field Go.Proofs.YtgikdcamppcphaaDoor.Basic
def w1 : Fr := ⟨1, true, 1, true, 0, 0, ⟨#[]⟩⟩
abbrev wv : Value := .agg #[.int .u8 1, .bool true, .int .u8 1, .bool true, .int .u8 0, .int .u8 0, .string ⟨#[]⟩]
abbrev wO : Obj := .cells #[.int .u8 1, .bool true, .int .u8 1, .bool true, .int .u8 0, .int .u8 0, .string ⟨#[]⟩] 23
theorem w_in : w1.In := ⟨by decide, by decide, by decide, by decide⟩
theorem w_ae : Fr.ae w1 31 = 0 := by decide +kernel
theorem w_bytes : Fr.adv w1 true = ⟨#[126, 7, 63, 137, 126]⟩ := bext (by decide +kernel)
theorem w_inner : IsI ⟨#[7, 63, 137]⟩ 7 63 137 ⟨#[]⟩ := ⟨by decide, by decide, by decide, by decide, bext (by decide +kernel)⟩
theorem w_enc (w : World) (ht : Tabs w) : Calls Tryd.prog 10 #[wv, .bool true, .int .i64 31] w fun e w' => e = .returned (.tuple #[.string ⟨#[126, 7, 63, 137, 126]⟩, .int .i64 0]) ∧ Below w.heap.size w w' := by
  rw [← w_bytes]
  exact fenc_yes w1 w_in true 31 w ht w_ae
theorem w_ans : Ans ⟨#[7, 63, 137]⟩ true 31 w1 0 := Or.inr (Or.inr ⟨⟨#[7, 63, 137]⟩, 7, 63, 137, ⟨#[]⟩, by decide +kernel, w_inner, Or.inl ⟨by decide +kernel, Fr.ext' (by decide +kernel) (by decide +kernel) (by decide +kernel) (by decide +kernel) (by decide +kernel) (by decide +kernel) rfl, rfl⟩⟩)
theorem w_dec (w : World) (ht : Tabs w) : Calls Tryd.prog 12 #[.string ⟨#[7, 63, 137]⟩, .bool true, .int .i64 31] w fun e w' => e = .returned (.tuple #[wv, .int .i64 0]) ∧ Below w.heap.size w w' := fdec w_ans (by decide) w ht
theorem w_un (w : World) : Calls Tryd.prog 15 #[.string ⟨#[125, 65]⟩] w fun e w' => e = .returned (.tuple #[.string ⟨#[]⟩, .bool false]) ∧ Below w.heap.size w w' := unstuff_no (by decide) (by decide +kernel) w
theorem w_st (w : World) : Calls Tryd.prog 14 #[.string ⟨#[126, 1, 125]⟩] w fun e w' => e = .returned (.string ⟨#[125, 94, 1, 125, 93]⟩) ∧ Below w.heap.size w w' := by
  have p := stuff ⟨#[126, 1, 125]⟩ (by decide) w
  rw [show stB ⟨#[126, 1, 125]⟩ = ⟨#[125, 94, 1, 125, 93]⟩ from bext (by decide +kernel)] at p
  exact p
theorem frO_cells {w : World} {b : Nat} (h : w.heap[b]? = some wO) : (w.cell? ⟨b, 0, none⟩ = some (.int .u8 1) ∧ w.cell? ⟨b, 1, none⟩ = some (.bool true) ∧ w.cell? ⟨b, 2, none⟩ = some (.int .u8 1) ∧ w.cell? ⟨b, 3, none⟩ = some (.bool true) ∧ w.cell? ⟨b, 4, none⟩ = some (.int .u8 0) ∧ w.cell? ⟨b, 5, none⟩ = some (.int .u8 0) ∧ w.cell? ⟨b, 6, none⟩ = some (.string ⟨#[]⟩)) ∧ (∀ i, w.frozen? ⟨b, i, none⟩ = false) :=
  ⟨⟨cell_of h rfl, cell_of h rfl, cell_of h rfl, cell_of h rfl, cell_of h rfl, cell_of h rfl, cell_of h rfl⟩, fun _ => free_of h⟩
set_option maxHeartbeats 1000000 in
theorem works (w : World) (ht : Tabs w) : Calls Tryd.prog 9 #[] w fun e w' => e = .returned (.bool true) ∧ Below w.heap.size w w' := by
  have HT := Lib.hid ht
  have hg : Tryd.prog.eqGuardType Tryd.prog.depth 23 = false := by kernel_rfl
  have he : ∀ w, (binOp .eql 23 wv wv).run Tryd.prog w = .ok (.bool true) w := fun w => by rw [show wv = fv w1 from rfl, run_eqF, eqF_self]
  have CE := Lib.hid w_enc
  have CD := Lib.hid w_dec
  have CS := Lib.hid w_st
  obtain ⟨T, hT⟩ : ∃ T : ByteArray, (⟨#[126, 7, 63, 137, 126]⟩ : ByteArray) = T := ⟨_, rfl⟩
  obtain ⟨U, hU⟩ : ∃ U : ByteArray, (⟨#[7, 63, 137]⟩ : ByteArray) = U := ⟨_, rfl⟩
  have hz : T.size = 5 := by rw [← hT]; rfl
  have e1 : T.extract 0 3 = ⟨#[126, 7, 63]⟩ := by rw [← hT]; exact bext (by decide +kernel)
  have e2 : T.extract 1 4 = U := by rw [← hT, ← hU]; exact bext (by decide +kernel)
  have h4 : 4 < T.size := by omega
  have e3 : (T[4]'h4).toNat = 126 := by subst hT; rfl
  rw [hT] at CE
  rw [hU] at CD
  clear ht hT hU
  go_enter Tryd.func9, Tryd.ntmps9
  go_wp2_with (first
    | (go_at_call 10; ((with_reducible refine (CE.out _ ?_).mono ?_); (· exact tabs1 HT.out (Below.refl _ _)); rintro e wa ⟨rfl, hb⟩; have FA : Hid (wa.heap[w.heap.size]? = some wO) := Lib.hid (fresh1 hb); have BA := Lib.hid (on1 (Below.refl w.heap.size w) hb); clear hb))
    | (go_at_call 12; ((with_reducible refine (CD.out _ ?_).mono ?_); (· exact tabs_below HT.out BA.out); rintro e wb ⟨rfl, hb⟩; have FB := Lib.hid (stays FA.out hb); have BB := Lib.hid (below_on' BA.out hb); clear hb))
    | (go_at_call 15; ((with_reducible refine (w_un _).mono ?_); rintro e wc ⟨rfl, hb⟩; have GC : Hid (wc.heap[wb.heap.size]? = some wO) := Lib.hid (fresh1 hb); have FC := Lib.hid (stays1 FB.out hb); have BC := Lib.hid (on1 BB.out hb); clear hb; obtain ⟨⟨g0, g1, g2, g3, g4, g5, g6⟩, gf⟩ := frO_cells GC.out; obtain ⟨⟨k0, k1, k2, k3, k4, k5, k6⟩, kf⟩ := frO_cells FC.out))
    | (go_at_call 14; ((with_reducible refine (CS.out _).mono ?_); rintro e wd ⟨rfl, hb⟩; have BD := Lib.hid (below_on' BC.out hb); clear hb)))
  go_ret
  exact ⟨rfl, BD.out⟩
end Go.Proofs.YtgikdcamppcphaaDoor.Adv

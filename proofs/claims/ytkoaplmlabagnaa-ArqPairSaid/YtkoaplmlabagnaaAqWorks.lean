/-
  The law's own 'works' answers true. No condition.
-/
import Derived.Test.YtkoaplmlabagnaaAqOne
namespace Go.Proofs.Ytkoaplmlabagnaa.Aq
open Go.RowKit Go.Proofs.Ytkoaplmlabagnaa.Base Go.Proofs.Ytkoaplmlabagnaa.Mem
def wa : ByteArray := ⟨#[97]⟩
def wb : ByteArray := ⟨#[98]⟩
def wc : ByteArray := ⟨#[99]⟩
def wd : ByteArray := ⟨#[100]⟩
abbrev st0 : Ps := ⟨0, 0, 0, 0, 0, false, false, false, false, false, false, 2, 1, 3, [], 0, false, false, false, false⟩
abbrev st1 : Ps := ⟨0, 0, 0, 0, 0, false, false, false, false, false, false, 2, 1, 3, [wa], 0, false, false, false, false⟩
abbrev st2 : Ps := ⟨0, 0, 0, 0, 0, false, false, false, false, false, false, 2, 1, 3, [wa, wb], 0, false, false, false, false⟩
abbrev st3 : Ps := ⟨0, 0, 1, 0, 3, false, false, false, false, false, false, 2, 1, 3, [wa, wb], 1, false, false, false, false⟩
abbrev st4 : Ps := ⟨0, 0, 2, 0, 3, false, false, false, false, false, false, 2, 1, 3, [wa, wb], 2, false, false, false, false⟩
abbrev st5 : Ps := ⟨1, 0, 1, 0, 3, false, false, false, false, false, false, 2, 1, 3, [wb], 1, false, false, false, false⟩
abbrev st6 : Ps := ⟨1, 0, 1, 0, 2, false, false, false, false, false, false, 2, 1, 3, [wb], 1, false, false, false, false⟩
abbrev st7 : Ps := ⟨1, 0, 1, 0, 1, false, false, false, false, false, false, 2, 1, 3, [wb], 1, false, false, false, false⟩
abbrev st8 : Ps := ⟨1, 0, 1, 1, 3, false, false, false, true, false, false, 2, 1, 3, [wb], 1, false, false, false, true⟩
abbrev st9 : Ps := ⟨1, 0, 1, 1, 3, false, false, false, true, false, false, 2, 1, 3, [wb], 1, false, false, false, false⟩
abbrev st10 : Ps := ⟨1, 0, 1, 1, 2, false, false, false, true, false, false, 2, 1, 3, [wb], 1, false, false, false, false⟩
abbrev st11 : Ps := ⟨1, 0, 1, 1, 1, false, false, false, true, false, false, 2, 1, 3, [wb], 1, false, false, false, false⟩
abbrev st12 : Ps := ⟨1, 0, 1, 2, 0, false, false, false, true, false, true, 2, 1, 3, [wb], 1, false, false, false, false⟩
theorem fits : PFit st0 ∧ PFit st1 ∧ PFit st2 ∧ PFit st3 ∧ PFit st4 ∧ PFit st5 ∧ PFit st6 ∧ PFit st7 ∧ PFit st8 ∧ PFit st9 ∧ PFit st10 ∧ PFit st11 ∧ PFit st12 := by
  refine ⟨?_, ?_, ?_, ?_, ?_, ?_, ?_, ?_, ?_, ?_, ?_, ?_, ?_⟩ <;> (constructor <;> decide)
theorem wk0 : ∀ (m : List (Nat × Obj)) (w0 w : World) (pb : Nat), One m w0 pb st0 w → Calls Try.prog 18 #[ptr pb, .string ⟨#[97]⟩] w fun e w' => e = .returned (.int .i64 0) ∧ One m w0 pb st1 w' := fun _ _ _ _ h => oPush h fits.1 wa
theorem wk1 : ∀ (m : List (Nat × Obj)) (w0 w : World) (pb : Nat), One m w0 pb st1 w → Calls Try.prog 18 #[ptr pb, .string ⟨#[98]⟩] w fun e w' => e = .returned (.int .i64 0) ∧ One m w0 pb st2 w' := fun _ _ _ _ h => oPush h fits.2.1 wb
theorem wk2 : ∀ (m : List (Nat × Obj)) (w0 w : World) (pb : Nat), One m w0 pb st2 w → Calls Try.prog 18 #[ptr pb, .string ⟨#[99]⟩] w fun e w' => e = .returned (.int .i64 3) ∧ One m w0 pb st2 w' := fun _ _ _ _ h => oPush h fits.2.2.1 wc
theorem wk3 : ∀ (m : List (Nat × Obj)) (w0 w : World) (pb : Nat), One m w0 pb st2 w → Calls Try.prog 19 #[ptr pb] w fun e w' => e = .returned (.tuple #[.agg #[.int .u8 0, .bool true, .int .u8 7, .bool false, .int .u8 0, .int .u8 0, .string ⟨#[97]⟩], .bool true]) ∧ One m w0 pb st3 w' := fun _ _ _ _ h => oNext h fits.2.2.1
theorem wk4 : ∀ (m : List (Nat × Obj)) (w0 w : World) (pb : Nat), One m w0 pb st3 w → Calls Try.prog 19 #[ptr pb] w fun e w' => e = .returned (.tuple #[.agg #[.int .u8 0, .bool true, .int .u8 7, .bool false, .int .u8 1, .int .u8 0, .string ⟨#[98]⟩], .bool true]) ∧ One m w0 pb st4 w' := fun _ _ _ _ h => oNext h fits.2.2.2.1
theorem wk5 : ∀ (m : List (Nat × Obj)) (w0 w : World) (pb : Nat), One m w0 pb st4 w → Calls Try.prog 19 #[ptr pb] w fun e w' => e = .returned (.tuple #[.agg #[.int .u8 0, .bool false, .int .u8 0, .bool false, .int .u8 0, .int .u8 0, .string ⟨#[]⟩], .bool false]) ∧ One m w0 pb st4 w' := fun _ _ _ _ h => oNext h fits.2.2.2.2.1
theorem wk6 : ∀ (m : List (Nat × Obj)) (w0 w : World) (pb : Nat), One m w0 pb st4 w → Calls Try.prog 24 #[ptr pb, .agg #[.int .u8 0, .bool false, .int .u8 8, .bool false, .int .u8 0, .int .u8 1, .string ⟨#[]⟩]] w fun e w' => e = .returned (.agg #[.string ⟨#[]⟩, .bool false, .int .i64 1, .bool false]) ∧ One m w0 pb st5 w' := fun _ _ _ _ h => oHear h fits.2.2.2.2.1 0 ⟨false, 8, false, 0, 1, bE⟩ (by decide) (by decide)
theorem wk7 : ∀ (m : List (Nat × Obj)) (w0 w : World) (pb : Nat), One m w0 pb st5 w → Calls Try.prog 12 #[ptr pb] w fun e w' => e = .returned (.agg #[.int .u8 1, .int .u8 2, .int .u8 0, .int .i64 1, .int .i64 1, .int .i64 0, .int .i64 3, .bool false, .bool false, .bool false, .bool false, .bool false, .bool false]) ∧ One m w0 pb st5 w' := fun _ _ _ _ h => oView h fits.2.2.2.2.2.1
theorem wk8 : ∀ (m : List (Nat × Obj)) (w0 w : World) (pb : Nat), One m w0 pb st5 w → Calls Try.prog 20 #[ptr pb] w fun e w' => e = .returned (.agg #[.string ⟨#[]⟩, .bool false, .int .i64 0, .bool false]) ∧ One m w0 pb st6 w' := fun _ _ _ _ h => oTick h fits.2.2.2.2.2.1
theorem wk9 : ∀ (m : List (Nat × Obj)) (w0 w : World) (pb : Nat), One m w0 pb st6 w → Calls Try.prog 20 #[ptr pb] w fun e w' => e = .returned (.agg #[.string ⟨#[]⟩, .bool false, .int .i64 0, .bool false]) ∧ One m w0 pb st7 w' := fun _ _ _ _ h => oTick h fits.2.2.2.2.2.2.1
theorem wk10 : ∀ (m : List (Nat × Obj)) (w0 w : World) (pb : Nat), One m w0 pb st7 w → Calls Try.prog 20 #[ptr pb] w fun e w' => e = .returned (.agg #[.string ⟨#[]⟩, .bool false, .int .i64 0, .bool false]) ∧ One m w0 pb st8 w' := fun _ _ _ _ h => oTick h fits.2.2.2.2.2.2.2.1
theorem wk11 : ∀ (m : List (Nat × Obj)) (w0 w : World) (pb : Nat), One m w0 pb st8 w → Calls Try.prog 19 #[ptr pb] w fun e w' => e = .returned (.tuple #[.agg #[.int .u8 0, .bool true, .int .u8 8, .bool true, .int .u8 0, .int .u8 0, .string ⟨#[]⟩], .bool true]) ∧ One m w0 pb st9 w' := fun _ _ _ _ h => oNext h fits.2.2.2.2.2.2.2.2.1
theorem wk12 : ∀ (m : List (Nat × Obj)) (w0 w : World) (pb : Nat), One m w0 pb st9 w → Calls Try.prog 20 #[ptr pb] w fun e w' => e = .returned (.agg #[.string ⟨#[]⟩, .bool false, .int .i64 0, .bool false]) ∧ One m w0 pb st10 w' := fun _ _ _ _ h => oTick h fits.2.2.2.2.2.2.2.2.2.1
theorem wk13 : ∀ (m : List (Nat × Obj)) (w0 w : World) (pb : Nat), One m w0 pb st10 w → Calls Try.prog 20 #[ptr pb] w fun e w' => e = .returned (.agg #[.string ⟨#[]⟩, .bool false, .int .i64 0, .bool false]) ∧ One m w0 pb st11 w' := fun _ _ _ _ h => oTick h fits.2.2.2.2.2.2.2.2.2.2.1
theorem wk14 : ∀ (m : List (Nat × Obj)) (w0 w : World) (pb : Nat), One m w0 pb st11 w → Calls Try.prog 20 #[ptr pb] w fun e w' => e = .returned (.agg #[.string ⟨#[]⟩, .bool false, .int .i64 0, .bool true]) ∧ One m w0 pb st12 w' := fun _ _ _ _ h => oTick h fits.2.2.2.2.2.2.2.2.2.2.2.1
theorem wk15 : ∀ (m : List (Nat × Obj)) (w0 w : World) (pb : Nat), One m w0 pb st12 w → Calls Try.prog 18 #[ptr pb, .string ⟨#[100]⟩] w fun e w' => e = .returned (.int .i64 4) ∧ One m w0 pb st12 w' := fun _ _ _ _ h => oPush h fits.2.2.2.2.2.2.2.2.2.2.2.2 wd
theorem wk_new (w : World) : Calls Try.prog 8 #[.int .i64 2, .int .i64 1, .int .i64 3] w fun e w' => e = .returned (ptr w.heap.size) ∧ One [] w w.heap.size st0 w' := oNew 2 1 3 (by unfold mayN; omega) w
set_option maxHeartbeats 8000000 in
set_option maxRecDepth 100000 in
theorem fworks (w : World) : Calls Try.prog 7 #[] w fun e w' => e = .returned (.bool true) ∧ Below w.heap.size w w' := by
  have fne := frm_ne
  have feq := frm_eq
  have ane := act_ne
  have aeq := act_eq
  go_enter Try.func7, Try.ntmps7
  go_wp2_with fail
  refine (wk_new w).mono ?_
  rintro _ w1 ⟨rfl, h1⟩
  have HP := Lib.hid (show One [] w w.heap.size st0 w1 from h1)
  clear h1
  generalize hpb : w.heap.size = pb at HP ⊢
  have HB := Lib.hid hpb
  clear hpb
  go_wp2_with fail
  refine (wk0 _ _ _ _ HP.out).mono ?_
  rintro _ w2 ⟨rfl, h⟩
  have HQ := Lib.hid h
  clear h HP
  have HP := HQ
  clear HQ
  go_wp2_with fail
  refine (wk1 _ _ _ _ HP.out).mono ?_
  rintro _ w3 ⟨rfl, h⟩
  have HQ := Lib.hid h
  clear h HP
  have HP := HQ
  clear HQ
  go_wp2_with fail
  refine (wk2 _ _ _ _ HP.out).mono ?_
  rintro _ w4 ⟨rfl, h⟩
  have HQ := Lib.hid h
  clear h HP
  have HP := HQ
  clear HQ
  go_wp2_with fail
  refine (wk3 _ _ _ _ HP.out).mono ?_
  rintro _ w5 ⟨rfl, h⟩
  have HQ := Lib.hid h
  clear h HP
  have HP := HQ
  clear HQ
  have HQ := Lib.hid (HP.out.alloc (.cells #[.int .u8 0, .bool true, .int .u8 7, .bool false, .int .u8 0, .int .u8 0, .string ⟨#[97]⟩] TF (0, 0)))
  clear HP
  have HP := HQ
  clear HQ
  go_wp2_with fail
  refine (wk4 _ _ _ _ HP.out).mono ?_
  rintro _ w6 ⟨rfl, h⟩
  have HQ := Lib.hid h
  clear h HP
  have HP := HQ
  clear HQ
  generalize w5.heap.size = bf at HP ⊢
  have HQ := Lib.hid (HP.out.alloc (.cells #[.int .u8 0, .bool true, .int .u8 7, .bool false, .int .u8 1, .int .u8 0, .string ⟨#[98]⟩] TF (0, 0)))
  clear HP
  have HP := HQ
  clear HQ
  go_wp2_with fail
  refine (wk5 _ _ _ _ HP.out).mono ?_
  rintro _ w7 ⟨rfl, h⟩
  have HQ := Lib.hid h
  clear h HP
  have HP := HQ
  clear HQ
  generalize w6.heap.size = bg at HP ⊢
  have HQ := Lib.hid (HP.out.alloc (.cells #[.int .u8 0, .bool false, .int .u8 0, .bool false, .int .u8 0, .int .u8 0, .string ⟨#[]⟩] TF (0, 0)))
  clear HP
  have HP := HQ
  clear HQ
  go_wp2_with fail
  refine (wk6 _ _ _ _ HP.out).mono ?_
  rintro _ w8 ⟨rfl, h⟩
  have HQ := Lib.hid h
  clear h HP
  have HP := HQ
  clear HQ
  generalize w7.heap.size = bn at HP ⊢
  have HQ := Lib.hid (HP.out.alloc (.cells #[.string ⟨#[]⟩, .bool false, .int .i64 1, .bool false] TA (0, 0)))
  clear HP
  have HP := HQ
  clear HQ
  go_wp2_with fail
  refine (wk7 _ _ _ _ HP.out).mono ?_
  rintro _ w9 ⟨rfl, h⟩
  have HQ := Lib.hid h
  clear h HP
  have HP := HQ
  clear HQ
  generalize w8.heap.size = bx at HP ⊢
  obtain ⟨⟨x0, x1, x2, x3⟩, -⟩ := cells4 HP.out.at0
  have ltx := lt_heap HP.out.at0
  obtain ⟨⟨g0, g1, g2, g3, g4, g5, g6⟩, -⟩ := cells7 HP.out.tail.tail.at0
  have ltg := lt_heap HP.out.tail.tail.at0
  obtain ⟨⟨f0, f1, f2, f3, f4, f5, f6⟩, -⟩ := cells7 HP.out.tail.tail.tail.at0
  have ltf := lt_heap HP.out.tail.tail.tail.at0
  have HQ := Lib.hid (HP.out.alloc (.cells #[.int .u8 1, .int .u8 2, .int .u8 0, .int .i64 1, .int .i64 1, .int .i64 0, .int .i64 3, .bool false, .bool false, .bool false, .bool false, .bool false, .bool false] TV (0, 0)))
  clear HP
  have HP := HQ
  clear HQ
  go_wp2_with fail
  refine (wk8 _ _ _ _ HP.out).mono ?_
  rintro _ w10 ⟨rfl, h⟩
  have HQ := Lib.hid h
  clear h HP
  have HP := HQ
  clear HQ
  clear x0 x1 x2 x3 g0 g1 g2 g3 g4 g5 g6 f0 f1 f2 f3 f4 f5 f6 ltx ltg ltf
  have HQ := Lib.hid HP.out.all
  clear HP
  have HP := HQ
  clear HQ
  go_wp2_with fail
  refine (wk9 _ _ _ _ HP.out).mono ?_
  rintro _ w11 ⟨rfl, h⟩
  have HQ := Lib.hid h
  clear h HP
  have HP := HQ
  clear HQ
  go_wp2_with fail
  refine (wk10 _ _ _ _ HP.out).mono ?_
  rintro _ w12 ⟨rfl, h⟩
  have HQ := Lib.hid h
  clear h HP
  have HP := HQ
  clear HQ
  go_wp2_with fail
  refine (wk11 _ _ _ _ HP.out).mono ?_
  rintro _ w13 ⟨rfl, h⟩
  have HQ := Lib.hid h
  clear h HP
  have HP := HQ
  clear HQ
  have HQ := Lib.hid (HP.out.alloc (.cells #[.int .u8 0, .bool true, .int .u8 8, .bool true, .int .u8 0, .int .u8 0, .string ⟨#[]⟩] TF (0, 0)))
  clear HP
  have HP := HQ
  clear HQ
  go_wp2_with fail
  refine (wk12 _ _ _ _ HP.out).mono ?_
  rintro _ w14 ⟨rfl, h⟩
  have HQ := Lib.hid h
  clear h HP
  have HP := HQ
  clear HQ
  generalize w13.heap.size = bp at HP ⊢
  go_wp2_with fail
  refine (wk13 _ _ _ _ HP.out).mono ?_
  rintro _ w15 ⟨rfl, h⟩
  have HQ := Lib.hid h
  clear h HP
  have HP := HQ
  clear HQ
  obtain ⟨⟨f0, f1, f2, f3, f4, f5, f6⟩, -⟩ := cells7 HP.out.at0
  go_wp2_with fail
  refine (wk14 _ _ _ _ HP.out).mono ?_
  rintro _ w16 ⟨rfl, h⟩
  have HQ := Lib.hid h
  clear h HP
  have HP := HQ
  clear HQ
  clear f0 f1 f2 f3 f4 f5 f6
  go_wp2_with fail
  refine (wk15 _ _ _ _ HP.out).mono ?_
  rintro _ w17 ⟨rfl, h⟩
  have HQ := Lib.hid h
  clear h HP
  have HP := HQ
  clear HQ
  go_wp2
  go_ret
  exact ⟨rfl, HP.out.below⟩
end Go.Proofs.Ytkoaplmlabagnaa.Aq

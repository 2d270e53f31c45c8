/-
  The chapter's examples hold: what 'works' answers. No condition.
-/
import Derived.Test.YtllojgmlngfibaaLnSend
namespace Go.Proofs.Ytllojgmlngfibaa.Ln
open Go.RowKit Go.Proofs.Ytllojgmlngfibaa.Base Go.Proofs.Ytllojgmlngfibaa.Mem
theorem arg_none (w : World) (F : Nat → Dm) : ArgS 4 dc DFits w none 0 F := ⟨fun h => absurd h (by decide), fun _ h => absurd h (by omega), fun _ h => by cases h⟩
/-- A line's text that is sent as it is. -/
theorem send_lit {w : World} {base pb : Nat} {ps : List (List UInt8)} (h : LnAt w base pb ps) (hb : base ≤ w.heap.size) (l : List UInt8) (hl : l.length ≤ 100) (hps : ps.length ≤ 1000) :
    Calls Try.prog 10 #[ptr pb, .string ⟨l.toArray⟩, .slice none 0 0] w fun e w' => e = .returned (.int .i64 (l.length : Int)) ∧ LnAt w' base pb (send l ps) ∧ Below base w w' :=
  fsend w base pb ps h hb l none 0 0 (fun _ => ⟨0, 0, 0, 0⟩) (arg_none w _) (by decide) (by omega) hps l rfl
theorem apply_lit (l r : List UInt8) (hl : l.length ≤ 100) (k : Nat) (i : Int) (b : Nat) (n : Int) (hk : k < 256) (hb : b < 256) (hr : dmg ⟨k, i, b, n⟩ l = r) (w : World) :
    Calls Try.prog 9 #[.string ⟨l.toArray⟩, .agg #[.int .u8 (k : Int), .int .i64 i, .int .u8 (b : Int), .int .i64 n]] w fun e w' => e = .returned (.string ⟨r.toArray⟩) ∧ Below w.heap.size w w' := by
  have := fapply l (by omega) ⟨k, i, b, n⟩ ⟨hk, hb⟩ w
  rw [hr] at this
  exact this
set_option maxHeartbeats 4000000 in
set_option maxRecDepth 100000 in
theorem fworks (w : World) : Calls Try.prog 6 #[] w fun e w' => e = .returned (.bool true) ∧ Below w.heap.size w w' := by
  have a1 : Hid (∀ W : World, Calls Try.prog 9 #[.string ⟨#[97, 98, 99, 100]⟩, .agg #[.int .u8 1, .int .i64 1, .int .u8 0, .int .i64 2]] W fun e w' => e = .returned (.string ⟨#[97, 100]⟩) ∧ Below W.heap.size W w') := fun W => apply_lit [97, 98, 99, 100] [97, 100] (by decide) 1 1 0 2 (by decide) (by decide) (by decide +kernel) W
  have a2 : Hid (∀ W : World, Calls Try.prog 9 #[.string ⟨#[97, 98, 99, 100]⟩, .agg #[.int .u8 1, .int .i64 3, .int .u8 0, .int .i64 9]] W fun e w' => e = .returned (.string ⟨#[97, 98, 99]⟩) ∧ Below W.heap.size W w') := fun W => apply_lit [97, 98, 99, 100] [97, 98, 99] (by decide) 1 3 0 9 (by decide) (by decide) (by decide +kernel) W
  have a3 : Hid (∀ W : World, Calls Try.prog 9 #[.string ⟨#[97, 98, 99, 100]⟩, .agg #[.int .u8 2, .int .i64 0, .int .u8 32, .int .i64 0]] W fun e w' => e = .returned (.string ⟨#[65, 98, 99, 100]⟩) ∧ Below W.heap.size W w') := fun W => apply_lit [97, 98, 99, 100] [65, 98, 99, 100] (by decide) 2 0 32 0 (by decide) (by decide) (by decide +kernel) W
  have a4 : Hid (∀ W : World, Calls Try.prog 9 #[.string ⟨#[97, 98]⟩, .agg #[.int .u8 3, .int .i64 2, .int .u8 120, .int .i64 2]] W fun e w' => e = .returned (.string ⟨#[97, 98, 120, 120]⟩) ∧ Below W.heap.size W w') := fun W => apply_lit [97, 98] [97, 98, 120, 120] (by decide) 3 2 120 2 (by decide) (by decide) (by decide +kernel) W
  have cn := Lib.hid (fnew w)
  go_enter Try.func6, Try.ntmps6
  go_wp2_with fail
  refine cn.out.mono ?_
  rintro _ w1 ⟨pb, rfl, h1, b1⟩
  have B1 := Lib.hid b1
  have c1 : Hid (Calls Try.prog 10 #[ptr pb, .string ⟨#[97, 98, 99]⟩, .slice none 0 0] w1 fun e w' => e = .returned (.int .i64 3) ∧ LnAt w' w.heap.size pb [[97, 98, 99]] ∧ Below w.heap.size w1 w') := send_lit h1 b1.size [97, 98, 99] (by decide) (by decide)
  clear cn h1 b1
  go_wp2_with fail
  refine c1.out.mono ?_
  rintro _ w2 ⟨rfl, h2, b2⟩
  have B2 := Lib.hid (B1.out.trans b2)
  have c2 : Hid (Calls Try.prog 10 #[ptr pb, .string ⟨#[100, 101]⟩, .slice none 0 0] w2 fun e w' => e = .returned (.int .i64 2) ∧ LnAt w' w.heap.size pb [[97, 98, 99], [100, 101]] ∧ Below w.heap.size w2 w') := send_lit h2 B2.out.size [100, 101] (by decide) (by decide)
  clear c1 h2 b2 B1
  go_wp2_with fail
  refine c2.out.mono ?_
  rintro _ w3 ⟨rfl, h3, b3⟩
  have B3 := Lib.hid (B2.out.trans b3)
  have c3 : Hid (Calls Try.prog 12 #[ptr pb, .int .i64 2] w3 fun e w' => e = .returned (.string ⟨#[97, 98]⟩) ∧ LnAt w' w.heap.size pb [[99], [100, 101]] ∧ Below w.heap.size w3 w') := fhand w3 w.heap.size pb _ h3 B3.out.size 2 (by decide +kernel)
  clear c2 h3 b3 B2
  go_wp2_with fail
  refine c3.out.mono ?_
  rintro _ w4 ⟨rfl, h4, b4⟩
  have B4 := Lib.hid (B3.out.trans b4)
  have c4 : Hid (Calls Try.prog 12 #[ptr pb, .int .i64 2] w4 fun e w' => e = .returned (.string ⟨#[99]⟩) ∧ LnAt w' w.heap.size pb [[100, 101]] ∧ Below w.heap.size w4 w') := fhand w4 w.heap.size pb _ h4 B4.out.size 2 (by decide +kernel)
  clear c3 h4 b4 B3
  go_wp2_with fail
  refine c4.out.mono ?_
  rintro _ w5 ⟨rfl, h5, b5⟩
  have B5 := Lib.hid (B4.out.trans b5)
  have c5 : Hid (Calls Try.prog 12 #[ptr pb, .int .i64 0] w5 fun e w' => e = .returned (.string ⟨#[100, 101]⟩) ∧ LnAt w' w.heap.size pb [] ∧ Below w.heap.size w5 w') := fhand w5 w.heap.size pb _ h5 B5.out.size 0 (by decide +kernel)
  clear c4 h5 b5 B4
  go_wp2_with fail
  refine c5.out.mono ?_
  rintro _ w6 ⟨rfl, h6, b6⟩
  have B6 := Lib.hid (B5.out.trans b6)
  have c6 : Hid (Calls Try.prog 13 #[ptr pb] w6 fun e w' => e = .returned (.int .i64 0) ∧ w' = w6) := fpieces w6 w.heap.size pb [] h6
  clear c5 h6 b6 B5
  go_wp2_with fail
  refine c6.out.mono ?_
  rintro _ w7 ⟨rfl, hw7⟩
  subst hw7
  clear c6
  go_wp2_with fail
  refine (a1.out _).mono ?_
  rintro _ w8 ⟨rfl, b8⟩
  have B8 := Lib.hid (below_on B6.out b8)
  clear b8 B6 a1
  go_wp2_with fail
  refine (a2.out _).mono ?_
  rintro _ w9 ⟨rfl, b9⟩
  have B9 := Lib.hid (below_on B8.out b9)
  clear b9 B8 a2
  go_wp2_with fail
  refine (a3.out _).mono ?_
  rintro _ wa ⟨rfl, ba⟩
  have BA := Lib.hid (below_on B9.out ba)
  clear ba B9 a3
  go_wp2_with fail
  refine (a4.out _).mono ?_
  rintro _ wb ⟨rfl, bb⟩
  have BB := Lib.hid (below_on BA.out bb)
  clear bb BA a4
  go_wp2_with fail
  go_ret
  exact ⟨rfl, BB.out⟩
end Go.Proofs.Ytllojgmlngfibaa.Ln

/-
  SeqAdd answers true for everything, and turns nothing that was there. No condition.
-/
import Derived.Test.YthdkohjpopjgmaaSqWorks
namespace Go.Proofs.Ythdkohjpopjgmaa.seqAdd
open Go.RowKit Go.Proofs.Ythdkohjpopjgmaa.Base Go.Proofs.Ythdkohjpopjgmaa.Mem Go.Proofs.Ythdkohjpopjgmaa.Sq
theorem law (a : Nat) (ha : a < 256) (b : Nat) (hb : b < 256) (n : Int) (_hn : -9223372036854775808 ≤ n ∧ n ≤ 9223372036854775807) (w : World) :
    Calls Try.prog 3 #[.int .u8 (a : Int), .int .u8 (b : Int), .int .i64 n] w fun e w' => e = .returned (.bool true) ∧ Below w.heap.size w w' := by
  obtain ⟨r, hr⟩ : ∃ r, ad a n = r := ⟨_, rfl⟩
  obtain ⟨k, hk⟩ : ∃ k, wy a b = k := ⟨_, rfl⟩
  have C1 := Lib.hid (fun w => fadd a n r ha hr w)
  have C2 := Lib.hid (fun w => radd a n r ha hr w)
  have C3 := Lib.hid (fun w => fWay a b k ha hb hk w)
  have C4 := Lib.hid (fun w => rway a b k ha hb hk w)
  have C5 := Lib.hid (fun w => fworks w)
  clear hr hk
  go_enter Try.func3, Try.ntmps3
  go_wp2_with (first
    | (go_at_call 8; ((with_reducible refine (C1.out _).mono ?_); rintro e w' ⟨rfl, rfl⟩))
    | (go_at_call 9; ((with_reducible refine (C2.out _).mono ?_); rintro e w' ⟨rfl, rfl⟩))
    | (go_at_call 10; ((with_reducible refine (C3.out _).mono ?_); rintro e w' ⟨rfl, rfl⟩))
    | (go_at_call 11; ((with_reducible refine (C4.out _).mono ?_); rintro e w' ⟨rfl, rfl⟩))
    | (go_at_call 12; ((with_reducible refine (C5.out _).mono ?_); rintro e w1 ⟨rfl, hb⟩; have HB1 := Lib.hid hb; clear hb)))
  go_ret
  exact ⟨rfl, HB1.out⟩
end Go.Proofs.Ythdkohjpopjgmaa.seqAdd

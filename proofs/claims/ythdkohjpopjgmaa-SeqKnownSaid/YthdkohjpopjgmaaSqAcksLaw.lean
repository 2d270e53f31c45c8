/-
  SeqAcks answers true for everything, and turns nothing that was there. No condition.
-/
import Derived.Test.YthdkohjpopjgmaaSqWorks
namespace Go.Proofs.Ythdkohjpopjgmaa.seqAcks
open Go.RowKit Go.Proofs.Ythdkohjpopjgmaa.Base Go.Proofs.Ythdkohjpopjgmaa.Mem Go.Proofs.Ythdkohjpopjgmaa.Sq
theorem law (va : Nat) (h1 : va < 256) (vs : Nat) (h2 : vs < 256) (nr : Nat) (h3 : nr < 256) (w : World) :
    Calls Try.prog 5 #[.int .u8 (va : Int), .int .u8 (vs : Int), .int .u8 (nr : Int)] w fun e w' => e = .returned (.bool true) ∧ Below w.heap.size w w' := by
  obtain ⟨y, hy⟩ : ∃ y, acN va vs nr = y := ⟨_, rfl⟩
  obtain ⟨b, hb⟩ : ∃ b, acB va vs nr = b := ⟨_, rfl⟩
  obtain ⟨k, hk⟩ : ∃ k, wy va vs = k := ⟨_, rfl⟩
  have C1 := Lib.hid (fun w => fAcks va vs nr y b h1 h2 h3 hy hb w)
  have C2 := Lib.hid (fun w => racks va vs nr y b h1 h2 h3 hy hb w)
  have C3 := Lib.hid (fun w => fWay va vs k h1 h2 hk w)
  have C5 := Lib.hid (fun w => fworks w)
  have hle : y ≤ k := by
    rw [← hy, ← hk]
    unfold acN
    split <;> omega
  have t1 : decide ((0 : Int) ≤ (y : Int)) = true := decide_eq_true (by omega)
  have t2 : decide ((y : Int) ≤ (k : Int)) = true := decide_eq_true (by omega)
  clear hy hb hk
  go_enter Try.func5, Try.ntmps5
  go_wp2_with (first
    | (go_at_call 18; ((with_reducible refine (C1.out _).mono ?_); rintro e w' ⟨rfl, rfl⟩))
    | (go_at_call 19; ((with_reducible refine (C2.out _).mono ?_); rintro e w' ⟨rfl, rfl⟩))
    | (go_at_call 10; ((with_reducible refine (C3.out _).mono ?_); rintro e w' ⟨rfl, rfl⟩))
    | (go_at_call 12; ((with_reducible refine (C5.out _).mono ?_); rintro e w1 ⟨rfl, hb⟩; have HB1 := Lib.hid hb; clear hb)))
  go_ret
  exact ⟨rfl, HB1.out⟩
end Go.Proofs.Ythdkohjpopjgmaa.seqAcks

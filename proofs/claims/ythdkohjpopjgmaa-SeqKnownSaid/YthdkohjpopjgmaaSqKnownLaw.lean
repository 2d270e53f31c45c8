/-
  SeqKnown answers true, and turns nothing that was there. No condition.
-/
import Derived.Test.YthdkohjpopjgmaaSqAddLaw
import Derived.Test.YthdkohjpopjgmaaSqWindowLaw
import Derived.Test.YthdkohjpopjgmaaSqAcksLaw
import Derived.Test.YthdkohjpopjgmaaSqWaysLaw
namespace Go.Proofs.Ythdkohjpopjgmaa.seqKnown
open Go.RowKit Go.Proofs.Ythdkohjpopjgmaa.Base Go.Proofs.Ythdkohjpopjgmaa.Mem Go.Proofs.Ythdkohjpopjgmaa.Sq
abbrev Good (f : FuncId) (args : Array Value) : Prop := ∀ w, Calls Try.prog f args w fun e w' => e = .returned (.bool true) ∧ Below w.heap.size w w'
theorem goodA (a b : Nat) (n : Int) (ha : a < 256) (hb : b < 256) (hn : -9223372036854775808 ≤ n ∧ n ≤ 9223372036854775807) : Good 3 #[oc a, oc b, .int .i64 n] := fun w => seqAdd.law a ha b hb n hn w
theorem goodW (a : Nat) (n : Int) (x : Nat) (ha : a < 256) (hx : x < 256) (hn : -9223372036854775808 ≤ n ∧ n ≤ 9223372036854775807) : Good 4 #[oc a, .int .i64 n, oc x] := fun w => seqWindow.law a ha n hn x hx w
theorem goodK (a b c : Nat) (ha : a < 256) (hb : b < 256) (hc : c < 256) : Good 5 #[oc a, oc b, oc c] := fun w => seqAcks.law a ha b hb c hc w
theorem goodY (a b c : Nat) (ha : a < 256) (hb : b < 256) (hc : c < 256) : Good 6 #[oc a, oc b, oc c] := fun w => seqWays.law a ha b hb c hc w
set_option maxHeartbeats 2000000 in
theorem law (w : World) :
    Calls Try.prog 7 #[] w fun e w' => e = .returned (.bool true) ∧ Below w.heap.size w w' := by
  have E1 : Hid (Good 3 #[.int .u8 255, .int .u8 254, .int .i64 (-9223372036854775808)]) := Lib.hid (goodA 255 254 _ (by omega) (by omega) (by omega))
  have E2 : Hid (Good 3 #[.int .u8 7, .int .u8 0, .int .i64 9223372036854775807]) := Lib.hid (goodA 7 0 _ (by omega) (by omega) (by omega))
  have E3 : Hid (Good 4 #[.int .u8 250, .int .i64 9223372036854775807, .int .u8 3]) := Lib.hid (goodW 250 _ 3 (by omega) (by omega) (by omega))
  have E4 : Hid (Good 4 #[.int .u8 1, .int .i64 (-9223372036854775808), .int .u8 1]) := Lib.hid (goodW 1 _ 1 (by omega) (by omega) (by omega))
  have E5 : Hid (Good 12 #[]) := Lib.hid (fun w => fworks w)
  go_enter Try.func7, Try.ntmps7
  go_wp2
  go_loopg [1] 10 (fun g i wr => ∃ a : Nat, i = oc a ∧ 10 - a ≤ g ∧ a ≤ 10 ∧ Hid (Below w.heap.size w wr))
  case atStart => exact ⟨0, rfl, by omega, by omega, Lib.hid (Below.refl _ _)⟩
  case round =>
    obtain ⟨a, rfl, hg, ha, HB⟩ := hrel
    by_cases hlt : a < 10
    · have t1 : decide ((a : Int) < 10) = true := decide_eq_true (by omega)
      have t2 : (a : Int) < 10 := by omega
      have v1 : IntKind.u8.wrap ((a : Int) + 1) = ((a + 1 : Nat) : Int) := by rw [IntKind.wrap_u8]; omega
      obtain ⟨wa, rfl⟩ : ∃ wo : World, wo = wr := ⟨_, rfl⟩
      go_wp2_with fail
      go_loopg [2] 10 (fun g i wr => ∃ b : Nat, i = oc b ∧ 10 - b ≤ g ∧ b ≤ 10 ∧ Hid (Below w.heap.size w wr))
      case atStart => exact ⟨0, rfl, by omega, by omega, HB⟩
      case round =>
        clear HB
        obtain ⟨b, rfl, hgb, hb, HB⟩ := hrel
        by_cases hlb : b < 10
        · have u1 : decide ((b : Int) < 10) = true := decide_eq_true (by omega)
          have u2 : (b : Int) < 10 := by omega
          have v2 : IntKind.u8.wrap ((b : Int) + 1) = ((b + 1 : Nat) : Int) := by rw [IntKind.wrap_u8]; omega
          obtain ⟨wb, rfl⟩ : ∃ wo : World, wo = wr := ⟨_, rfl⟩
          go_wp2_with fail
          go_loopg [3] 10 (fun g i wr => ∃ c : Nat, i = oc c ∧ 10 - c ≤ g ∧ c ≤ 10 ∧ Hid (Below w.heap.size w wr))
          case atStart => exact ⟨0, rfl, by omega, by omega, HB⟩
          case round =>
            clear HB
            obtain ⟨c, rfl, hgc, hc, HB⟩ := hrel
            by_cases hlc : c < 10
            · have s1 : decide ((c : Int) < 10) = true := decide_eq_true (by omega)
              have s2 : (c : Int) < 10 := by omega
              have v3 : IntKind.u8.wrap ((c : Int) + 1) = ((c + 1 : Nat) : Int) := by rw [IntKind.wrap_u8]; omega
              have p1 := wrap_nat c (by omega)
              have p2 : IntKind.i64.wrap ((c : Int) * 5) = (c : Int) * 5 := by rw [IntKind.wrap_i64]; omega
              have p3 : IntKind.i64.wrap ((c : Int) * 5 - 20) = (c : Int) * 5 - 20 := by rw [IntKind.wrap_i64]; omega
              have p4 := wrap_nat b (by omega)
              have p5 : IntKind.i64.wrap ((b : Int) - 1) = (b : Int) - 1 := by rw [IntKind.wrap_i64]; omega
              have GA := Lib.hid (goodA a b ((c : Int) * 5 - 20) (by omega) (by omega) (by omega))
              have GW := Lib.hid (goodW a ((b : Int) - 1) c (by omega) (by omega) (by omega))
              have GK := Lib.hid (goodK a b c (by omega) (by omega) (by omega))
              have GY := Lib.hid (goodY a b c (by omega) (by omega) (by omega))
              go_wp2_with (first
                | (go_at_call 3; ((with_reducible refine (GA.out _).mono ?_); rintro e w1 ⟨rfl, hb⟩; have H1 := Lib.hid (below_on HB.out hb); clear hb))
                | (go_at_call 4; ((with_reducible refine (GW.out _).mono ?_); rintro e w2 ⟨rfl, hb⟩; have H2 := Lib.hid (below_on H1.out hb); clear hb))
                | (go_at_call 5; ((with_reducible refine (GK.out _).mono ?_); rintro e w3 ⟨rfl, hb⟩; have H3 := Lib.hid (below_on H2.out hb); clear hb))
                | (go_at_call 6; ((with_reducible refine (GY.out _).mono ?_); rintro e w4 ⟨rfl, hb⟩; have H4 := Lib.hid (below_on H3.out hb); clear hb)))
              go_roundg (10 - (c + 1))
              case measure => omega
              case rel => exact ⟨c + 1, by first | rfl | go_num, Nat.le_refl _, by omega, H4⟩
            · have s1 : decide ((c : Int) < 10) = false := decide_eq_false (by omega)
              have s2 : ¬ (c : Int) < 10 := by omega
              go_wp2
              go_roundg (10 - (b + 1))
              case measure => omega
              case rel => exact ⟨b + 1, by first | rfl | go_num, Nat.le_refl _, by omega, HB⟩
        · have u1 : decide ((b : Int) < 10) = false := decide_eq_false (by omega)
          have u2 : ¬ (b : Int) < 10 := by omega
          go_wp2
          go_roundg (10 - (a + 1))
          case measure => omega
          case rel => exact ⟨a + 1, by first | rfl | go_num, Nat.le_refl _, by omega, HB⟩
    · have t1 : decide ((a : Int) < 10) = false := decide_eq_false (by omega)
      have t2 : ¬ (a : Int) < 10 := by omega
      go_wp2_with (first
        | (go_at_call 3; ((with_reducible refine (E1.out _).mono ?_); rintro e w1 ⟨rfl, hb⟩; have H1 := Lib.hid (below_on HB.out hb); clear hb))
        | (go_at_call 3; ((with_reducible refine (E2.out _).mono ?_); rintro e w2 ⟨rfl, hb⟩; have H2 := Lib.hid (below_on H1.out hb); clear hb))
        | (go_at_call 4; ((with_reducible refine (E3.out _).mono ?_); rintro e w3 ⟨rfl, hb⟩; have H3 := Lib.hid (below_on H2.out hb); clear hb))
        | (go_at_call 4; ((with_reducible refine (E4.out _).mono ?_); rintro e w4 ⟨rfl, hb⟩; have H4 := Lib.hid (below_on H3.out hb); clear hb))
        | (go_at_call 12; ((with_reducible refine (E5.out _).mono ?_); rintro e w5 ⟨rfl, hb⟩; have H5 := Lib.hid (below_on H4.out hb); clear hb)))
      go_ret
      exact ⟨rfl, H5.out⟩
end Go.Proofs.Ythdkohjpopjgmaa.seqKnown

/-
  SeqWays answers true for everything, and turns nothing that was there. No condition.
-/
import Derived.Test.YthdkohjpopjgmaaSqWorks
namespace Go.Proofs.Ythdkohjpopjgmaa.seqWays
open Go.RowKit Go.Proofs.Ythdkohjpopjgmaa.Base Go.Proofs.Ythdkohjpopjgmaa.Mem Go.Proofs.Ythdkohjpopjgmaa.Sq
theorem fin_ways : ∀ a b c : Fin 8, (wy a.val b.val + wy b.val c.val) % 8 = wy a.val c.val ∧ (wy a.val b.val + wy b.val a.val = 8 ∨ wy a.val b.val = 0 ∧ wy b.val a.val = 0) ∧ ad a.val (wy a.val b.val : Int) = b.val ∧ ad b.val (-(wy a.val b.val : Int)) = a.val := by decide +kernel
theorem ways (a b c : Nat) : (wy a b + wy b c) % 8 = wy a c ∧ (wy a b + wy b a = 8 ∨ wy a b = 0 ∧ wy b a = 0) ∧ ad a (wy a b : Int) = b % 8 ∧ ad b (-(wy a b : Int)) = a % 8 := by
  have h := fin_ways ⟨a % 8, Nat.mod_lt _ (by decide)⟩ ⟨b % 8, Nat.mod_lt _ (by decide)⟩ ⟨c % 8, Nat.mod_lt _ (by decide)⟩
  simp only [wy_mod, ad_mod] at h
  exact h
theorem law (a : Nat) (ha : a < 256) (b : Nat) (hb : b < 256) (c : Nat) (hc : c < 256) (w : World) :
    Calls Try.prog 6 #[.int .u8 (a : Int), .int .u8 (b : Int), .int .u8 (c : Int)] w fun e w' => e = .returned (.bool true) ∧ Below w.heap.size w w' := by
  obtain ⟨hsum, hback, had1, had2⟩ := ways a b c
  obtain ⟨x, hx⟩ : ∃ x, wy a b = x := ⟨_, rfl⟩
  obtain ⟨y, hy⟩ : ∃ y, wy b c = y := ⟨_, rfl⟩
  obtain ⟨z, hz⟩ : ∃ z, wy a c = z := ⟨_, rfl⟩
  obtain ⟨v, hv⟩ : ∃ v, wy b a = v := ⟨_, rfl⟩
  obtain ⟨p, hp⟩ : ∃ p : Nat, b % 8 = p := ⟨_, rfl⟩
  obtain ⟨q, hq⟩ : ∃ q : Nat, a % 8 = q := ⟨_, rfl⟩
  have C1 := Lib.hid (fun w => fWay a b x ha hb hx w)
  have C2 := Lib.hid (fun w => fWay b c y hb hc hy w)
  have C3 := Lib.hid (fun w => fWay a c z ha hc hz w)
  have C4 := Lib.hid (fun w => fWay b a v hb ha hv w)
  have D1 := Lib.hid (fun w => fadd a (x : Int) p ha (by rw [← hx, ← hp]; exact had1) w)
  have D2 := Lib.hid (fun w => fadd b (-(x : Int)) q hb (by rw [← hx, ← hq]; exact had2) w)
  have C5 := Lib.hid (fun w => fworks w)
  have x8 : x < 8 := hx ▸ wy_lt a b
  have y8 : y < 8 := hy ▸ wy_lt b c
  have v8 : v < 8 := hv ▸ wy_lt b a
  rw [hx, hy, hz] at hsum
  rw [hx, hv] at hback
  have qp : (b : Int) % 8 = (p : Int) := by omega
  have qq : (a : Int) % 8 = (q : Int) := by omega
  have t1 : decide ((0 : Int) ≤ (x : Int)) = true := decide_eq_true (by omega)
  have t2 : decide ((x : Int) ≤ 7) = true := decide_eq_true (by omega)
  obtain ⟨s, hs⟩ : ∃ s, x + y = s := ⟨_, rfl⟩
  have w1 : IntKind.i64.wrap ((x : Int) + (y : Int)) = (s : Int) := by rw [IntKind.wrap_i64]; omega
  have w1' : (x : Int) + (y : Int) = (s : Int) := by omega
  have s8 : (s : Int).tmod 8 = (z : Int) := by rw [Int.tmod_eq_emod_of_nonneg (by omega)]; omega
  have s8' : (s : Int) % 8 = (z : Int) := by omega
  have w2 : IntKind.i64.wrap (-(x : Int)) = -(x : Int) := by rw [IntKind.wrap_i64]; omega
  have w3 : IntKind.i64.wrap ((x : Int) + (v : Int)) = (x : Int) + (v : Int) := by rw [IntKind.wrap_i64]; omega
  clear hx hy hz hv hp hq hs hsum had1 had2
  rcases hback with hback | ⟨hback, hv0⟩
  · have t3 : ((x : Int) + (v : Int) == 8) = true := by rw [beq_iff_eq]; omega
    have t4 : (x : Int) + (v : Int) = 8 := by omega
    have t5 := wrap_nat 8 (by omega)
    clear hback w3
    go_enter Try.func6, Try.ntmps6
    go_wp2_with (first
      | (go_at_call 10; first
        | ((with_reducible refine (C1.out _).mono ?_); rintro e w' ⟨rfl, rfl⟩)
        | ((with_reducible refine (C2.out _).mono ?_); rintro e w' ⟨rfl, rfl⟩)
        | ((with_reducible refine (C3.out _).mono ?_); rintro e w' ⟨rfl, rfl⟩)
        | ((with_reducible refine (C4.out _).mono ?_); rintro e w' ⟨rfl, rfl⟩))
      | (go_at_call 8; first
        | ((with_reducible refine (D1.out _).mono ?_); rintro e w' ⟨rfl, rfl⟩)
        | ((with_reducible refine (D2.out _).mono ?_); rintro e w' ⟨rfl, rfl⟩))
      | (go_at_call 12; ((with_reducible refine (C5.out _).mono ?_); rintro e w1 ⟨rfl, hb⟩; have HB1 := Lib.hid hb; clear hb)))
    go_ret
    exact ⟨rfl, HB1.out⟩
  · have t3 : ((x : Int) + (v : Int) == 8) = false := by rw [beq_eq_false_iff_ne]; omega
    have t4 : ((x : Int) == 0) = true := by rw [beq_iff_eq]; omega
    have t5 : ((v : Int) == 0) = true := by rw [beq_iff_eq]; omega
    have HX := Lib.hid hback
    have HV := Lib.hid hv0
    clear hback hv0
    go_enter Try.func6, Try.ntmps6
    go_wp2_with (first
      | (go_at_call 10; first
        | ((with_reducible refine (C1.out _).mono ?_); rintro e w' ⟨rfl, rfl⟩)
        | ((with_reducible refine (C2.out _).mono ?_); rintro e w' ⟨rfl, rfl⟩)
        | ((with_reducible refine (C3.out _).mono ?_); rintro e w' ⟨rfl, rfl⟩)
        | ((with_reducible refine (C4.out _).mono ?_); rintro e w' ⟨rfl, rfl⟩))
      | (go_at_call 8; first
        | ((with_reducible refine (D1.out _).mono ?_); rintro e w' ⟨rfl, rfl⟩)
        | ((with_reducible refine (D2.out _).mono ?_); rintro e w' ⟨rfl, rfl⟩))
      | (go_at_call 12; ((with_reducible refine (C5.out _).mono ?_); rintro e w1 ⟨rfl, hb⟩; have HB1 := Lib.hid hb; clear hb)))
    go_ret
    exact ⟨rfl, HB1.out⟩
end Go.Proofs.Ythdkohjpopjgmaa.seqWays

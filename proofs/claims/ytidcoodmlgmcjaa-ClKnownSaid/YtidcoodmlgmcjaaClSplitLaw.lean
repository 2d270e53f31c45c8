/-
  ClSplit answers true for everything, and turns nothing that was there. No condition.
-/
import Derived.Test.YtidcoodmlgmcjaaClWorks
import Derived.Test.YtidcoodmlgmcjaaClRef
namespace Go.Proofs.Ytidcoodmlgmcjaa.clSplit
open Go.RowKit Go.Proofs.Ytidcoodmlgmcjaa.Base Go.Proofs.Ytidcoodmlgmcjaa.Mem Go.Proofs.Ytidcoodmlgmcjaa.Cl
/-- From its place j on the row ob (made since w0) is as it was made; all of it may be written. -/
structure From (w0 : World) (L : List ByteArray) (ob : Option Addr) (j : Nat) (w : World) : Prop where
  cell : ∀ g, ob = some ⟨g, 0, none⟩ → ∀ i x, j ≤ i → L[i]? = some x → w.cell? ⟨g, i, none⟩ = some (.string x)
  free : ∀ g, ob = some ⟨g, 0, none⟩ → ∀ i, w.frozen? ⟨g, i, none⟩ = false
  below : Below w0.heap.size w0 w
theorem from_row {w0 w : World} {L : List ByteArray} {n cap : Nat} {ob : Option Addr} (h : RowB w w0.heap.size (.slice ob n cap) L) (hb : Below w0.heap.size w0 w) (m : Nat) : From w0 L ob 0 (w.drewN m) := by
  refine ⟨fun g hg i x _ hi => ?_, fun g hg i => ?_, below_drewN hb m⟩
  · rw [hg] at h
    exact row_cell h hi
  · rw [hg] at h
    exact OwnS.free h i
theorem From.step {w0 w : World} {L : List ByteArray} {j g : Nat} {ob : Option Addr} (h : From w0 L ob j w) (hb : w0.heap.size ≤ g) (v : Value) : From w0 L ob (j + 1) (w.setCell ⟨g, j, none⟩ v) := by
  refine ⟨fun g' hg' i x hi hic => ?_, fun g' hg' i => ?_, h.below.setCell hb v⟩
  · rw [World.cell?_setCell_other _ _ _ _ (fun k => by injection k; omega)]
    exact h.cell g' hg' i x (by omega) hic
  · rw [World.frozen?_setCell]
    exact h.free g' hg' i
/-- What both answer, whatever the limit. -/
theorem both (s : ByteArray) (hs : s.size ≤ 1000) (n1 : Int) : ∃ (er : Nat) (L : List ByteArray), L.length ≤ 1001 ∧
    (∀ w, Calls Try.prog 10 #[.string s, .int .i64 n1] w fun e w' => ∃ v, e = .returned (.tuple #[v, .int .i64 (er : Int)]) ∧ RowB w' w.heap.size v L ∧ Below w.heap.size w w') ∧
    (∀ w, Calls Try.prog 9 #[.string s, .int .i64 n1] w fun e w' => ∃ v, e = .returned (.tuple #[v, .int .i64 (er : Int)]) ∧ RowB w' w.heap.size v L ∧ Below w.heap.size w w') := by
  by_cases hn : n1 < 2
  · refine ⟨2, [], by decide, fun w => ?_, fun w => ?_⟩
    · refine (fSplit_no s n1 hn w).mono ?_
      rintro e w' ⟨rfl, rfl⟩
      exact ⟨_, rfl, ownS_nil _ _, Below.refl _ _⟩
    · refine (rSplit_no s n1 hn w).mono ?_
      rintro e w' ⟨rfl, rfl⟩
      exact ⟨_, rfl, ownS_nil _ _, Below.refl _ _⟩
  · obtain ⟨m, hm⟩ : ∃ m : Nat, min n1 128 = (m : Int) + 1 := ⟨(min n1 128 - 1).toNat, by omega⟩
    refine ⟨0, pcs s m, ?_, fun w => fSplit s (by omega) n1 (by omega) m hm w, fun w => rSplit s (by omega) n1 (by omega) m hm w⟩
    rw [pcs_len]
    have := cnt_le s.size m (by omega)
    omega
set_option maxHeartbeats 4000000 in
theorem all (s : ByteArray) (n1 : Int) (w : World) :
    Calls Try.prog 3 #[.string s, .int .i64 n1] w fun e w' => e = .returned (.bool true) ∧ Below w.heap.size w w' := by
  have C5 := Lib.hid (fun w => fworks w)
  by_cases hs : 1000 < s.size
  · have t1 : decide ((1000 : Int) < (s.size : Int)) = true := decide_eq_true (by omega)
    have t2 : (1000 : Int) < (s.size : Int) := by omega
    go_enter Try.func3, Try.ntmps3
    go_wp2_with (go_at_call 8; ((with_reducible refine (C5.out _).mono ?_); rintro e w1 ⟨rfl, hb⟩; have HB := Lib.hid hb; clear hb))
    go_ret
    exact ⟨rfl, HB.out⟩
  · have t1 : decide ((1000 : Int) < (s.size : Int)) = false := decide_eq_false (by omega)
    have t2 : ¬ (1000 : Int) < (s.size : Int) := by omega
    obtain ⟨er, L, hL, c2, c1⟩ := both s (by omega) n1
    have C1 := Lib.hid c1
    have C2 := Lib.hid c2
    have t3 : ((er : Int) != (er : Int)) = false := bne_false rfl
    clear c1 c2
    go_enter Try.func3, Try.ntmps3
    go_wp2_with fail
    refine (C1.out _).mono ?_
    rintro _ w1 ⟨va, rfl, ra, ba⟩
    have RA := Lib.hid ra
    have BA := Lib.hid ba
    clear ra ba
    go_wp2_with fail
    go_loopg [7] 2 (fun g t wr => ∃ k : Nat, t = nm k ∧ 2 - k ≤ g ∧ k ≤ 2 ∧ Hid (Below w1.heap.size w1 wr))
    case atStart => exact ⟨0, rfl, by omega, by omega, Lib.hid (Below.refl _ _)⟩
    case round =>
      obtain ⟨k, rfl, hg, hk, HB⟩ := hrel
      by_cases hlt : k < 2
      · have t1 : decide ((k : Int) < 2) = true := decide_eq_true (by omega)
        have t2 : (k : Int) < 2 := by omega
        have v1 := wrap_nat (k + 1) (by omega)
        go_wp2_with fail
        refine (C2.out _).mono ?_
        rintro _ w2 ⟨vb, rfl, rb, bb⟩
        obtain ⟨ob, cb, rfl, hat⟩ := row_form rb
        obtain ⟨c, hc⟩ : ∃ c, L.length = c := ⟨_, rfl⟩
        rw [hc] at rb hat hL
        have HB2 : Hid (Below w1.heap.size w1 w2) := Lib.hid (below_on HB.out bb)
        have RB := Lib.hid rb
        have BB := Lib.hid bb
        have HC := Lib.hid hc
        have HAT : Hid (∀ i, i < c → ∃ g, ob = some ⟨g, 0, none⟩ ∧ wr.heap.size ≤ g) := Lib.hid (fun i hi => let ⟨g, h1, h2, _⟩ := hat i hi; ⟨g, h1, h2⟩)
        clear rb bb hat
        rw [hc]
        clear hc
        go_wp2_with fail
        refine (fsame' _ _ _ _ _ L L true (by simp) RB.out (RA.out.below HB2.out) (by rw [HC.out]; omega) (by rw [HC.out]; omega)).mono ?_
        rintro _ w3 ⟨rfl, m, hm⟩
        have HF0 : Hid (From wr L ob 0 w3) := Lib.hid (by rw [hm]; exact from_row RB.out BB.out m)
        clear hm RB HB2 BB
        obtain ⟨wo, rfl⟩ : ∃ wo : World, wo = wr := ⟨_, rfl⟩
        go_wp2_with fail
        go_loopg [10] c (fun g t wr => ∃ j : Nat, t = nm j ∧ c - j ≤ g ∧ j ≤ c ∧ Hid (From wo L ob j wr))
        case atStart => exact ⟨0, rfl, by omega, by omega, HF0⟩
        case round =>
          clear HF0
          obtain ⟨j, rfl, hgj, hj, HF⟩ := hrel
          by_cases hlj : j < c
          · have u1 : decide ((j : Int) < (c : Int)) = true := decide_eq_true (by omega)
            have u2 : (j : Int) < (c : Int) := by omega
            have u3 := wrap_nat (j + 1) (by omega)
            obtain ⟨g1, rfl, hge⟩ := HAT.out j hlj
            have c1 := HF.out.cell g1 rfl j _ (Nat.le_refl _) (List.getElem?_eq_getElem (by rw [HC.out]; exact hlj))
            have f1 := HF.out.free g1 rfl j
            have HF2 : Hid (From wo L (some ⟨g1, 0, none⟩) (j + 1) (wr.setCell ⟨g1, j, none⟩ (.string ⟨#[63]⟩))) := Lib.hid (HF.out.step hge _)
            clear hge
            go_wp2_with fail
            go_roundg (c - (j + 1))
            case measure => omega
            case rel => exact ⟨j + 1, by first | rfl | go_num, Nat.le_refl _, by omega, HF2⟩
          · have u1 : decide ((j : Int) < (c : Int)) = false := decide_eq_false (by omega)
            have u2 : ¬ (j : Int) < (c : Int) := by omega
            have HB3 : Hid (Below w1.heap.size w1 wr) := Lib.hid (below_on HB.out HF.out.below)
            go_wp2
            go_roundg (2 - (k + 1))
            case measure => omega
            case rel => exact ⟨k + 1, by first | rfl | go_num, Nat.le_refl _, by omega, HB3⟩
      · have t1 : decide ((k : Int) < 2) = false := decide_eq_false (by omega)
        have t2 : ¬ (k : Int) < 2 := by omega
        have HB0 : Hid (Below w.heap.size w wr) := Lib.hid (below_on BA.out HB.out)
        go_wp2_with (go_at_call 8; ((with_reducible refine (C5.out _).mono ?_); rintro e w6 ⟨rfl, hb⟩; have HB2 := Lib.hid (below_on HB0.out hb); clear hb))
        go_ret
        exact ⟨rfl, HB2.out⟩
theorem law (s : ByteArray) (_ : s.size ≤ maxLen) (n1 : Int) (_ : -9223372036854775808 ≤ n1 ∧ n1 ≤ 9223372036854775807) (w : World) :
    Calls Try.prog 3 #[.string s, .int .i64 n1] w fun e w' => e = .returned (.bool true) ∧ Below w.heap.size w w' := all s n1 w
end Go.Proofs.Ytidcoodmlgmcjaa.clSplit

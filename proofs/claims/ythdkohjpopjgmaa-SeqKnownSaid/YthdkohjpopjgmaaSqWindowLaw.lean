/-
  SeqWindow answers true for everything, and turns nothing that was there. No condition.
-/
import Derived.Test.YthdkohjpopjgmaaSqWorks
namespace Go.Proofs.Ythdkohjpopjgmaa.seqWindow
open Go.RowKit Go.Proofs.Ythdkohjpopjgmaa.Base Go.Proofs.Ythdkohjpopjgmaa.Mem Go.Proofs.Ythdkohjpopjgmaa.Sq
/-- From its place j on the row ob (made since w0) is as it was made; all of it may be written. -/
structure From (w0 : World) (a c : Nat) (ob : Option Addr) (j : Nat) (w : World) : Prop where
  cell : ∀ g, ob = some ⟨g, 0, none⟩ → ∀ i, j ≤ i → i < c → w.cell? ⟨g, i, none⟩ = some (oc ((a + i) % 8))
  free : ∀ g, ob = some ⟨g, 0, none⟩ → ∀ i, w.frozen? ⟨g, i, none⟩ = false
  below : Below w0.heap.size w0 w
theorem from_wd {w0 w : World} {a c cap : Nat} {ob : Option Addr} (h : Wd w0 w (win a c) c ob cap) (m : Nat) : From w0 a c ob 0 (w.drewN m) := by
  refine ⟨fun g hg i _ hi => ?_, fun g hg i => ?_, below_drewN h.below m⟩
  · have hr := h.row
    rw [hg] at hr
    exact row_cell hr (win_get a c i hi)
  · have hr := h.row
    rw [hg] at hr
    exact OwnS.free hr i
theorem From.step {w0 w : World} {a c j g : Nat} {ob : Option Addr} (h : From w0 a c ob j w) (_hg : ob = some ⟨g, 0, none⟩) (hb : w0.heap.size ≤ g) (v : Value) : From w0 a c ob (j + 1) (w.setCell ⟨g, j, none⟩ v) := by
  refine ⟨fun g' hg' i hi hic => ?_, fun g' hg' i => ?_, h.below.setCell hb v⟩
  · rw [World.cell?_setCell_other _ _ _ _ (fun k => by injection k; omega)]
    exact h.cell g' hg' i (by omega) hic
  · rw [World.frozen?_setCell]
    exact h.free g' hg' i
set_option maxHeartbeats 2000000 in
theorem law (a : Nat) (ha : a < 256) (n : Int) (_hn : -9223372036854775808 ≤ n ∧ n ≤ 9223372036854775807) (x : Nat) (hx : x < 256) (w : World) :
    Calls Try.prog 4 #[.int .u8 (a : Int), .int .i64 n, .int .u8 (x : Int)] w fun e w' => e = .returned (.bool true) ∧ Below w.heap.size w w' := by
  obtain ⟨c, hc⟩ : ∃ c, ct n = c := ⟨_, rfl⟩
  obtain ⟨b, hb⟩ : ∃ b, decide (wy a x < ct n) = b := ⟨_, rfl⟩
  have hc7 : c ≤ 7 := hc ▸ ct_le n
  have C1 := Lib.hid (fun w => rWindow a n c ha hc w)
  have C2 := Lib.hid (fun w => fWindow a n c ha hc w)
  have C3 := Lib.hid (fun w => fIn a n x b ha hx hb w)
  have C4 := Lib.hid (fun w => rIn a n x b ha hx hb w)
  have C5 := Lib.hid (fun w => fworks w)
  clear hc hb
  go_enter Try.func4, Try.ntmps4
  go_wp2_with fail
  refine (C1.out _).mono ?_
  rintro _ w1 ⟨oa, ca, rfl, hw⟩
  have HW := Lib.hid hw
  clear hw
  go_wp2_with fail
  go_loopg [8] 2 (fun g t wr => ∃ k : Nat, t = nm k ∧ 2 - k ≤ g ∧ k ≤ 2 ∧ Hid (Below w1.heap.size w1 wr))
  case atStart => exact ⟨0, rfl, by omega, by omega, Lib.hid (Below.refl _ _)⟩
  case round =>
    obtain ⟨k, rfl, hg, hk, HB⟩ := hrel
    by_cases hlt : k < 2
    · have t1 : decide ((k : Int) < 2) = true := decide_eq_true (by omega)
      have t2 : (k : Int) < 2 := by omega
      have v1 := wrap_nat (k + 1) (by omega)
      go_wp2_with fail
      refine (C2.out _).mono ?_
      rintro _ w2 ⟨ob, cb, rfl, hw⟩
      have HV := Lib.hid hw
      clear hw
      have HB2 : Hid (Below w1.heap.size w1 w2) := Lib.hid (below_on HB.out HV.out.below)
      have HL := Lib.hid (win_len a c)
      go_wp2_with fail
      refine (fsame' _ _ _ _ _ (win a c) (win a c) true (by simp) HV.out.row (HW.out.row.below HB2.out) (by rw [win_len]; omega) (by rw [win_len]; omega)).mono ?_
      rintro _ w3 ⟨rfl, m, hm⟩
      have HF0 : Hid (From wr a c ob 0 w3) := Lib.hid (by rw [hm]; exact from_wd HV.out m)
      have HAT : Hid (∀ i, i < c → ∃ g, ob = some ⟨g, 0, none⟩ ∧ wr.heap.size ≤ g) := Lib.hid (fun i hi => let ⟨g, h1, h2, _⟩ := HV.out.at' i hi; ⟨g, h1, h2⟩)
      clear hm HV HB2
      obtain ⟨wo, rfl⟩ : ∃ wo : World, wo = wr := ⟨_, rfl⟩
      go_wp2_with fail
      go_loopg [10] c (fun g t wr => ∃ j : Nat, t = nm j ∧ c - j ≤ g ∧ j ≤ c ∧ Hid (From wo a c ob j wr))
      case atStart => exact ⟨0, rfl, by omega, by omega, HF0⟩
      case round =>
        clear HF0
        obtain ⟨j, rfl, hgj, hj, HF⟩ := hrel
        by_cases hlj : j < c
        · have u1 : decide ((j : Int) < (c : Int)) = true := decide_eq_true (by omega)
          have u2 : (j : Int) < (c : Int) := by omega
          have u3 := wrap_nat (j + 1) (by omega)
          obtain ⟨g1, rfl, hge⟩ := HAT.out j hlj
          have c1 := HF.out.cell g1 rfl j (Nat.le_refl _) hlj
          have f1 := HF.out.free g1 rfl j
          have HF2 : Hid (From wo a c (some ⟨g1, 0, none⟩) (j + 1) (wr.setCell ⟨g1, j, none⟩ (.int .u8 9))) := Lib.hid (HF.out.step rfl hge _)
          clear hge
          go_wp2_with fail
          go_roundg (c - (j + 1))
          case measure => omega
          case rel => exact ⟨j + 1, by first | rfl | go_num, Nat.le_refl _, by omega, HF2⟩
        · have u1 : decide ((j : Int) < (c : Int)) = false := decide_eq_false (by omega)
          have u2 : ¬ (j : Int) < (c : Int) := by omega
          have HB3 : Hid (Below w1.heap.size w1 wr) := Lib.hid (below_on HB.out HF.out.below)
          go_wp2
          go_roundg (2 - (k + 1))
          case measure => omega
          case rel => exact ⟨k + 1, by first | rfl | go_num, Nat.le_refl _, by omega, HB3⟩
    · have t1 : decide ((k : Int) < 2) = false := decide_eq_false (by omega)
      have t2 : ¬ (k : Int) < 2 := by omega
      have HB0 : Hid (Below w.heap.size w wr) := Lib.hid (below_on HW.out.below HB.out)
      go_wp2_with (first
        | (go_at_call 16; ((with_reducible refine (C3.out _).mono ?_); rintro e w' ⟨rfl, rfl⟩))
        | (go_at_call 17; ((with_reducible refine (C4.out _).mono ?_); rintro e w5 ⟨rfl, hb⟩; have HB1 := Lib.hid (below_on HB0.out hb); clear hb))
        | (go_at_call 12; ((with_reducible refine (C5.out _).mono ?_); rintro e w6 ⟨rfl, hb⟩; have HB2 := Lib.hid (below_on HB1.out hb); clear hb)))
      go_ret
      exact ⟨rfl, HB2.out⟩
end Go.Proofs.Ythdkohjpopjgmaa.seqWindow

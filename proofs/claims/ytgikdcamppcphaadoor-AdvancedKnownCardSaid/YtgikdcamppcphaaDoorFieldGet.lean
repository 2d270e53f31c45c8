/-
  What Get answers, the program's and the document's own: the kind, the bit and the numbers whose control octet it is, or that there are none; memory that was there stays. Condition: the table of the kinds' octets lies where the program lays it.
-/
import Derived.Test.YtgikdcamppcphaaDoorFieldRef
import Derived.Deep.QuietTactic
import Derived.BigQuiet
namespace Go.Proofs.YtgikdcamppcphaaDoor.Field
open Go.RowKit Go.Proofs.YtgikdcamppcphaaDoor.Base
theorem below_drewN {B : Nat} {a w : World} (h : Below B a w) (n : Nat) : Below B a (w.drewN n) := h.trans ⟨rfl, rfl, rfl, Nat.le_refl _, fun _ _ => rfl⟩
theorem below_on {w a b : World} (h : Below w.heap.size w a) (h' : Below a.heap.size a b) : Below w.heap.size w b := h.trans (h'.mono h.size)
theorem looseN_lt (k : Nat) : looseN k < 256 := by unfold looseN; split <;> (try split) <;> omega
theorem loose (k : Nat) (hk : k < 256) (w : World) :
    Calls Tryd.prog 51 #[.int .u8 (k : Int)] w fun e w' => e = .returned (.int .u8 (looseN k : Int)) ∧ w' = w := by
  by_cases h : k = 7
  · subst h
    go_enter Tryd.func51, Tryd.ntmps51
    go_wp2
    go_ret
    exact ⟨rfl, rfl⟩
  · have q : ((k : Int) == 7) = false := by rw [beq_eq_false_iff_ne]; omega
    by_cases h2 : isN k = true
    · have HL : Hid (looseN k = 240) := Lib.hid (by simp [looseN, h, h2])
      go_enter Tryd.func51, Tryd.ntmps51
      go_wp2_with (go_at_call 52; ((with_reducible refine (isNumbered _ hk _).mono ?_); rintro e w' ⟨rfl, rfl⟩))
      go_ret
      exact ⟨ret_int (by rw [HL.out]; rfl), rfl⟩
    · have h3 : isN k = false := by simpa using h2
      have HL : Hid (looseN k = 16) := Lib.hid (by simp [looseN, h, h3])
      clear h2
      go_enter Tryd.func51, Tryd.ntmps51
      go_wp2_with (go_at_call 52; ((with_reducible refine (isNumbered _ hk _).mono ?_); rintro e w' ⟨rfl, rfl⟩))
      go_ret
      exact ⟨ret_int (by rw [HL.out]; rfl), rfl⟩
theorem kindOf (c : Nat) (w : World) (ht : Tab w) :
    Calls Tryd.prog 46 #[.int .u8 (c : Int)] w fun e w' => e = .returned (.int .u8 (gK c : Int)) ∧ Below w.heap.size w w' := by
  have HT := Lib.hid ht
  clear ht
  go_enter Tryd.func46, Tryd.ntmps46
  go_wp2
  go_loopw [3] (fun t wr => ∃ k : Nat, 1 ≤ k ∧ k ≤ 11 ∧ t = .int .u8 (k : Int) ∧ Hid (gK c = gFrom c (11 - k) k) ∧ Hid (Below w.heap.size w wr)) (fun t _ => 11 - (intOf t).toNat)
  case atStart => exact ⟨1, by omega, by omega, rfl, Lib.hid rfl, Lib.hid (Below.refl _ _)⟩
  case round =>
    obtain ⟨k, h1, h2, rfl, HG, HB⟩ := hrel
    by_cases hlt : k ≤ 10
    · have HT1 := Lib.hid (tab_below HT.out HB.out)
      have hcell := HT1.out k (by omega)
      have hl := looseN_lt k
      have hb := bareN_lt k (by omega)
      have HF : Hid (∀ b, fitsK c k = b → (bits .andNot .u8 (c : Int) (looseN k : Int) == (bareN k : Int)) = b) := Lib.hid (fun b h => h)
      by_cases hf : fitsK c k = true
      · have HS : Hid (gK c = k) := Lib.hid (by rw [HG.out, show 11 - k = (10 - k) + 1 by omega]; exact gFrom_hit hf)
        have ht := HF.out true hf
        clear hf
        go_wp2_with (fail)
        go_quiet ((go_at_call 51; exact Calls.quiet_of_same (loose _ (by omega) _)))
        go_wp2
        go_ret
        exact ⟨ret_int (by rw [HS.out]), below_drewN HB.out _⟩
      · have hf' : fitsK c k = false := by simpa using hf
        have HS : Hid (gK c = gFrom c (10 - k) (k + 1)) := Lib.hid (by rw [HG.out, show 11 - k = (10 - k) + 1 by omega]; exact gFrom_miss hf')
        have ht := HF.out false hf'
        clear hf hf'
        go_wp2_with (fail)
        go_quiet ((go_at_call 51; exact Calls.quiet_of_same (loose _ (by omega) _)))
        go_wp2
        go_roundw
        case rel => exact ⟨k + 1, by omega, by omega, by go_num, Lib.hid (by rw [HS.out, show 11 - (k + 1) = 10 - k by omega]), Lib.hid (below_drewN HB.out _)⟩
        case measure => simp [intOf]; omega
    · have HS : Hid (gK c = 0) := Lib.hid (by rw [HG.out, show 11 - k = 0 by omega]; rfl)
      go_wp2
      go_ret
      exact ⟨ret_int (by rw [HS.out]; rfl), HB.out⟩
theorem kindOf_at {c k : Nat} (h : gK c = k) (w : World) (ht : Tab w) :
    Calls Tryd.prog 46 #[.int .u8 (c : Int)] w fun e w' => e = .returned (.int .u8 (k : Int)) ∧ Below w.heap.size w w' := by
  subst h; exact kindOf c w ht
theorem res5 {fn : Func} {t u v x y : Tmp} (h : fn.results = #[.tmp t, .tmp u, .tmp v, .tmp x, .tmp y]) (tmps : Array Value) (P : Program) (w : World) :
    (results fn tmps).run P w = .ok (.tuple #[tmps.getD t undef, tmps.getD u undef, tmps.getD v undef, tmps.getD x undef, tmps.getD y undef]) w := by simp [results, h]
/-- What Get answers. -/
def getV (c : Nat) : Value := .tuple #[.int .u8 (gK c : Int), .bool (gPF c), .int .u8 (gNS c : Int), .int .u8 (gNR c : Int), .int .i64 (gE c : Int)]
theorem getV_eq {c : Nat} {a d g e : Int} {b : Bool} (h : (gK c : Int) = a) (h1 : gPF c = b) (h2 : (gNS c : Int) = d) (h3 : (gNR c : Int) = g) (h4 : (gE c : Int) = e) :
    Ending.returned (.tuple #[.int .u8 a, .bool b, .int .u8 d, .int .u8 g, .int .i64 e]) = .returned (getV c) := by rw [getV, h, h1, h2, h3, h4]
theorem fget (c : Nat) (hc : c < 256) (w : World) (ht : Tab w) :
    Calls Tryd.prog 31 #[.int .u8 (c : Int)] w fun e w' => e = .returned (getV c) ∧ Below w.heap.size w w' := by
  have HT := Lib.hid ht
  clear ht
  have hg := gK_le c hc
  have a14 := u8_and14 c hc
  have a224 := u8_and224 c hc
  have a16 := u8_and16 c hc
  have cases6 : gK c = 0 ∨ gK c = 7 ∨ gK c = 8 ∨ gK c = 9 ∨ gK c = 10 ∨ (gK c ≠ 0 ∧ gK c ≠ 7 ∧ gK c ≠ 8 ∧ gK c ≠ 9 ∧ gK c ≠ 10) := by omega
  rcases cases6 with h | h | h | h | h | ⟨n0, n7, n8, n9, n10⟩
  case inl =>
    have HK : Hid (gK c = 0) := Lib.hid h
    have HC : Hid (∀ w, Tab w → Calls Tryd.prog 46 #[.int .u8 (c : Int)] w fun e w' => e = .returned (.int .u8 0) ∧ Below w.heap.size w w') := Lib.hid (fun w ht => kindOf_at h w ht)
    clear h a14 a224 a16
    go_enter Tryd.func31, Tryd.ntmps31
    go_wp2_with (go_at_call 46; ((with_reducible refine (HC.out _ HT.out).mono ?_); rintro e w1 ⟨rfl, hb⟩; have HB := Lib.hid hb; clear hb))
    refine bodyPost_ret (res5 rfl _ _ _) rfl ?_
    obtain ⟨e1, e2, e3, e4⟩ := get_none HK.out
    exact ⟨getV_eq (by rw [HK.out]; rfl) e1 (by rw [e2]; rfl) (by rw [e3]; rfl) (by rw [e4]; rfl), HB.out⟩
  case inr.inl =>
    have HK : Hid (gK c = 7) := Lib.hid h
    have HC : Hid (∀ w, Tab w → Calls Tryd.prog 46 #[.int .u8 (c : Int)] w fun e w' => e = .returned (.int .u8 7) ∧ Below w.heap.size w w') := Lib.hid (fun w ht => kindOf_at h w ht)
    clear h
    go_enter Tryd.func31, Tryd.ntmps31
    go_wp2_with (go_at_call 46; ((with_reducible refine (HC.out _ HT.out).mono ?_); rintro e w1 ⟨rfl, hb⟩; have HB := Lib.hid hb; clear hb))
    refine bodyPost_ret (res5 rfl _ _ _) rfl ?_
    refine ⟨getV_eq (by rw [HK.out]; rfl) (by simp [gPF, HK.out]) ?_ ?_ (by simp [gE, HK.out]), HB.out⟩
    · rw [gNS, if_pos HK.out]; simp
    · rw [gNR, if_pos (by rw [HK.out]; rfl)]; simp
  case inr.inr.inl =>
    have HK : Hid (gK c = 8) := Lib.hid h
    have HC : Hid (∀ w, Tab w → Calls Tryd.prog 46 #[.int .u8 (c : Int)] w fun e w' => e = .returned (.int .u8 8) ∧ Below w.heap.size w w') := Lib.hid (fun w ht => kindOf_at h w ht)
    clear h
    go_enter Tryd.func31, Tryd.ntmps31
    go_wp2_with (go_at_call 46; ((with_reducible refine (HC.out _ HT.out).mono ?_); rintro e w1 ⟨rfl, hb⟩; have HB := Lib.hid hb; clear hb))
    refine bodyPost_ret (res5 rfl _ _ _) rfl ?_
    refine ⟨getV_eq (by rw [HK.out]; rfl) (by simp [gPF, HK.out]) ?_ ?_ (by simp [gE, HK.out]), HB.out⟩
    · rw [gNS, if_neg (by rw [HK.out]; decide)]; simp
    · rw [gNR, if_pos (by rw [HK.out]; rfl)]; simp
  case inr.inr.inr.inl =>
    have HK : Hid (gK c = 9) := Lib.hid h
    have HC : Hid (∀ w, Tab w → Calls Tryd.prog 46 #[.int .u8 (c : Int)] w fun e w' => e = .returned (.int .u8 9) ∧ Below w.heap.size w w') := Lib.hid (fun w ht => kindOf_at h w ht)
    clear h
    go_enter Tryd.func31, Tryd.ntmps31
    go_wp2_with (go_at_call 46; ((with_reducible refine (HC.out _ HT.out).mono ?_); rintro e w1 ⟨rfl, hb⟩; have HB := Lib.hid hb; clear hb))
    refine bodyPost_ret (res5 rfl _ _ _) rfl ?_
    refine ⟨getV_eq (by rw [HK.out]; rfl) (by simp [gPF, HK.out]) ?_ ?_ (by simp [gE, HK.out]), HB.out⟩
    · rw [gNS, if_neg (by rw [HK.out]; decide)]; simp
    · rw [gNR, if_pos (by rw [HK.out]; rfl)]; simp
  case inr.inr.inr.inr.inl =>
    have HK : Hid (gK c = 10) := Lib.hid h
    have HC : Hid (∀ w, Tab w → Calls Tryd.prog 46 #[.int .u8 (c : Int)] w fun e w' => e = .returned (.int .u8 10) ∧ Below w.heap.size w w') := Lib.hid (fun w ht => kindOf_at h w ht)
    clear h
    go_enter Tryd.func31, Tryd.ntmps31
    go_wp2_with (go_at_call 46; ((with_reducible refine (HC.out _ HT.out).mono ?_); rintro e w1 ⟨rfl, hb⟩; have HB := Lib.hid hb; clear hb))
    refine bodyPost_ret (res5 rfl _ _ _) rfl ?_
    refine ⟨getV_eq (by rw [HK.out]; rfl) (by simp [gPF, HK.out]) ?_ ?_ (by simp [gE, HK.out]), HB.out⟩
    · rw [gNS, if_neg (by rw [HK.out]; decide)]; simp
    · rw [gNR, if_pos (by rw [HK.out]; rfl)]; simp
  case inr.inr.inr.inr.inr =>
    have HK : Hid (gK c ≠ 0 ∧ gK c ≠ 7 ∧ isN (gK c) = false) := Lib.hid ⟨n0, n7, by rw [Bool.eq_false_iff]; simp [isN]; omega⟩
    have HC := Lib.hid (kindOf c)
    have HD : Hid (gPF c = decide (c / 16 % 2 = 1)) := Lib.hid (by simp [gPF, HK.out.1])
    have q0 : ((gK c : Int) == 0) = false := by rw [beq_eq_false_iff_ne]; omega
    have q7 : ((gK c : Int) == 7) = false := by rw [beq_eq_false_iff_ne]; omega
    have q8 : ((gK c : Int) == 8) = false := by rw [beq_eq_false_iff_ne]; omega
    have q9 : ((gK c : Int) == 9) = false := by rw [beq_eq_false_iff_ne]; omega
    have q10 : ((gK c : Int) == 10) = false := by rw [beq_eq_false_iff_ne]; omega
    clear n0 n7 n8 n9 n10
    go_enter Tryd.func31, Tryd.ntmps31
    go_wp2_with (go_at_call 46; ((with_reducible refine (HC.out _ HT.out).mono ?_); rintro e w1 ⟨rfl, hb⟩; have HB := Lib.hid hb; clear hb))
    refine bodyPost_ret (res5 rfl _ _ _) rfl ?_
    refine ⟨getV_eq rfl (by rw [HD.out]) ?_ ?_ (by simp [gE, HK.out.1]), HB.out⟩
    · rw [gNS, if_neg HK.out.2.1]; simp
    · rw [gNR, HK.out.2.2]; simp
set_option maxRecDepth 100000 in
theorem rget (c : Nat) (hc : c < 256) (w : World) :
    Calls Tryd.prog 33 #[.int .u8 (c : Int)] w fun e w' => e = .returned (getV c) ∧ w = w' := by
  go_enter Tryd.func33, Tryd.ntmps33
  go_wp2
  go_loop [7] (fun t => ∃ k : Nat, 1 ≤ k ∧ k ≤ 11 ∧ t = .int .u8 (k : Int) ∧ Hid (Missed c k)) (fun t => 11 - (intOf t).toNat)
  case atStart => exact ⟨1, by omega, by omega, rfl, Lib.hid (missed_one c)⟩
  case round =>
    obtain ⟨k, h1, h2, rfl, HM⟩ := hrel
    by_cases hlt : k ≤ 10
    · go_wp2
      go_loop [8] (fun t => ∃ n : Nat, n ≤ 128 ∧ t = .int .u8 (n : Int) ∧ Hid (MissedIn c k n)) (fun t => 128 - (intOf t).toNat)
      case atStart => exact ⟨0, by omega, rfl, Lib.hid (missedIn_zero c k)⟩
      case round =>
        obtain ⟨n, hn, rfl, HN⟩ := hrel
        by_cases hn2 : n < 128
        · have e2 : ((n : Int) / 2 % 8) = ((n / 2 % 8 : Nat) : Int) := by omega
          have e3 : ((n : Int) / 16) = ((n / 16 : Nat) : Int) := by omega
          have e1 : (((n : Int) % 2 == 1) : Bool) = decide (n % 2 = 1) := by rw [Bool.eq_iff_iff]; simp; omega
          have HE : Hid ((((n : Int) % 2 == 1) : Bool) = decide (n % 2 = 1)) := Lib.hid e1
          have P := rput k (n / 2 % 8) (n / 16) (decide (n % 2 = 1)) (by omega) (by omega) (by omega) w
          rw [← e1, ← e2, ← e3] at P
          clear e1 e2 e3
          by_cases hh : hit c k n = true
          · obtain ⟨o1, o2⟩ := hit_ok hh
            have HG := Lib.hid (hit_get hh)
            rw [HE.out, pC_ok _ o1, pE_ok o1, o2, ← HE.out] at P
            have HP := Lib.hid P
            clear P o1 o2 hh
            go_wp2_with (go_at_call 25; ((with_reducible refine (HP.out).mono ?_); rintro e w' ⟨rfl, rfl⟩))
            refine bodyPost_ret (res5 rfl _ _ _) rfl ?_
            obtain ⟨g1, g2, g3, g4, g5⟩ := HG.out
            exact ⟨getV_eq (by rw [g1]) (by rw [g2]; exact HE.out.symm) (by rw [g3]; omega) (by rw [g4]; omega) (by rw [g5]; rfl), rfl⟩
          · have hh' : hit c k n = false := by simpa using hh
            have HS := Lib.hid (missedIn_succ HN.out hh')
            by_cases o1 : okP k (n / 2 % 8) (n / 16) = true
            · have o2 : oct k (decide (n % 2 = 1)) (n / 2 % 8) (n / 16) ≠ c := fun h => hh (by simp [hit, pE_ok o1, pC_ok _ o1, h])
              have ol := oct_lt (decide (n % 2 = 1)) o1
              rw [HE.out, pC_ok _ o1, pE_ok o1, ← HE.out] at P
              rw [← HE.out] at o2 ol
              clear hh hh' o1
              generalize oct k ((n : Int) % 2 == 1) (n / 2 % 8) (n / 16) = x at *
              have HP := Lib.hid P
              clear P
              have q : ((x : Int) == (c : Int)) = false := by rw [beq_eq_false_iff_ne]; omega
              go_wp2_with (go_at_call 25; ((with_reducible refine (HP.out).mono ?_); rintro e w' ⟨rfl, rfl⟩))
              go_round
              case rel => exact ⟨n + 1, by omega, by go_num, HS⟩
              case measure => simp [intOf]; omega
            · have o2 : okP k (n / 2 % 8) (n / 16) = false := by simpa using o1
              rw [pC_no _ o2, pE_no o2] at P
              have HP := Lib.hid P
              clear P hh hh' o1 o2
              go_wp2_with (go_at_call 25; ((with_reducible refine (HP.out).mono ?_); rintro e w' ⟨rfl, rfl⟩))
              go_round
              case rel => exact ⟨n + 1, by omega, by go_num, HS⟩
              case measure => simp [intOf]; omega
        · obtain rfl : n = 128 := by omega
          have HS := Lib.hid (missed_succ HM.out HN.out)
          go_wp2
          go_round
          case rel => exact ⟨k + 1, by omega, by omega, by go_num, HS⟩
          case measure => simp [intOf]; omega
    · have HK := Lib.hid (missed_none hc (by rw [show (11 : Nat) = k by omega]; exact HM.out))
      go_wp2
      refine bodyPost_ret (res5 rfl _ _ _) rfl ?_
      obtain ⟨e1, e2, e3, e4⟩ := get_none HK.out
      exact ⟨getV_eq (by rw [HK.out]; rfl) e1 (by rw [e2]; rfl) (by rw [e3]; rfl) (by rw [e4]; rfl), rfl⟩
end Go.Proofs.YtgikdcamppcphaaDoor.Field

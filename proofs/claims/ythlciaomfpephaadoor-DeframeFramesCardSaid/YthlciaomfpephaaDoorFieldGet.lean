/-
  What Get answers, the program's and the document's own: the kind, the bit and the numbers whose control octet it is, or that there are none; memory that was there stays. Condition: the table of the kinds' octets lies where the program lays it.
-/
import Derived.Test.YthlciaomfpephaaDoorFieldRef
import Derived.Deep.QuietTactic
import Derived.BigQuiet
namespace Go.Proofs.YthlciaomfpephaaDoor.Field
open Go.RowKit Go.Proofs.YthlciaomfpephaaDoor.Base
theorem below_drewN {B : Nat} {a w : World} (h : Below B a w) (n : Nat) : Below B a (w.drewN n) := h.trans ⟨rfl, rfl, rfl, Nat.le_refl _, fun _ _ => rfl⟩
theorem below_on {w a b : World} (h : Below w.heap.size w a) (h' : Below a.heap.size a b) : Below w.heap.size w b := h.trans (h'.mono h.size)
theorem looseN_lt (k : Nat) : looseN k < 256 := by unfold looseN; split <;> (try split) <;> omega
theorem loose (k : Nat) (hk : k < 256) (w : World) :
    Calls Tryd.prog 63 #[.int .u8 (k : Int)] w fun e w' => e = .returned (.int .u8 (looseN k : Int)) ∧ w' = w := by
  by_cases h : k = 7
  · subst h
    go_enter Tryd.func63, Tryd.ntmps63
    go_wp2
    go_ret
    exact ⟨rfl, rfl⟩
  · have q : ((k : Int) == 7) = false := by rw [beq_eq_false_iff_ne]; omega
    by_cases h2 : isN k = true
    · have HL : Hid (looseN k = 240) := Lib.hid (by simp [looseN, h, h2])
      go_enter Tryd.func63, Tryd.ntmps63
      go_wp2_with (go_at_call 51; ((with_reducible refine (isNumbered _ hk _).mono ?_); rintro e w' ⟨rfl, rfl⟩))
      go_ret
      exact ⟨ret_int (by rw [HL.out]; rfl), rfl⟩
    · have h3 : isN k = false := by simpa using h2
      have HL : Hid (looseN k = 16) := Lib.hid (by simp [looseN, h, h3])
      clear h2
      go_enter Tryd.func63, Tryd.ntmps63
      go_wp2_with (go_at_call 51; ((with_reducible refine (isNumbered _ hk _).mono ?_); rintro e w' ⟨rfl, rfl⟩))
      go_ret
      exact ⟨ret_int (by rw [HL.out]; rfl), rfl⟩
theorem kindOf (c : Nat) (w : World) (ht : Tab w) :
    Calls Tryd.prog 61 #[.int .u8 (c : Int)] w fun e w' => e = .returned (.int .u8 (gK c : Int)) ∧ Below w.heap.size w w' := by
  have HT := Lib.hid ht
  clear ht
  go_enter Tryd.func61, Tryd.ntmps61
  go_wp2
  go_loopw [3] (fun t wr => ∃ k : Nat, 1 ≤ k ∧ k ≤ 11 ∧ t = .int .u8 (k : Int) ∧ Hid (gK c = gFrom c (11 - k) k) ∧ Hid (Below w.heap.size w wr)) (fun t _ => 11 - (intOf t).toNat)
  case atStart => exact ⟨1, by omega, by omega, rfl, Lib.hid rfl, Lib.hid (Below.refl _ _)⟩
  case round =>
    obtain ⟨k, h1, h2, rfl, HG, HB⟩ := hrel
    by_cases hlt : k ≤ 10
    · have HT1 := Lib.hid (tab_below HT.out HB.out)
      have hcell := HT1.out k (by omega)
      have hl := looseN_lt k
      have hb := bareN_lt k (by omega)
      have HF : Hid (∀ b, fitsK c k = b → (bits .andNot .u8 (c : Int) (looseN k : Int) == (bareN k : Int)) = b) := Lib.hid (fun b h => h)
      by_cases hf : fitsK c k = true
      · have HS : Hid (gK c = k) := Lib.hid (by rw [HG.out, show 11 - k = (10 - k) + 1 by omega]; exact gFrom_hit hf)
        have ht := HF.out true hf
        clear hf
        go_wp2_with (fail)
        go_quiet ((go_at_call 63; exact Calls.quiet_of_same (loose _ (by omega) _)))
        go_wp2
        go_ret
        exact ⟨ret_int (by rw [HS.out]), below_drewN HB.out _⟩
      · have hf' : fitsK c k = false := by simpa using hf
        have HS : Hid (gK c = gFrom c (10 - k) (k + 1)) := Lib.hid (by rw [HG.out, show 11 - k = (10 - k) + 1 by omega]; exact gFrom_miss hf')
        have ht := HF.out false hf'
        clear hf hf'
        go_wp2_with (fail)
        go_quiet ((go_at_call 63; exact Calls.quiet_of_same (loose _ (by omega) _)))
        go_wp2
        go_roundw
        case rel => exact ⟨k + 1, by omega, by omega, by go_num, Lib.hid (by rw [HS.out, show 11 - (k + 1) = 10 - k by omega]), Lib.hid (below_drewN HB.out _)⟩
        case measure => simp [intOf]; omega
    · have HS : Hid (gK c = 0) := Lib.hid (by rw [HG.out, show 11 - k = 0 by omega]; rfl)
      go_wp2
      go_ret
      exact ⟨ret_int (by rw [HS.out]; rfl), HB.out⟩
theorem kindOf_at {c k : Nat} (h : gK c = k) (w : World) (ht : Tab w) :
    Calls Tryd.prog 61 #[.int .u8 (c : Int)] w fun e w' => e = .returned (.int .u8 (k : Int)) ∧ Below w.heap.size w w' := by
  subst h; exact kindOf c w ht
theorem res5 {fn : Func} {t u v x y : Tmp} (h : fn.results = #[.tmp t, .tmp u, .tmp v, .tmp x, .tmp y]) (tmps : Array Value) (P : Program) (w : World) :
    (results fn tmps).run P w = .ok (.tuple #[tmps.getD t undef, tmps.getD u undef, tmps.getD v undef, tmps.getD x undef, tmps.getD y undef]) w := by simp [results, h]
/-- What Get answers. -/
def getV (c : Nat) : Value := .tuple #[.int .u8 (gK c : Int), .bool (gPF c), .int .u8 (gNS c : Int), .int .u8 (gNR c : Int), .int .i64 (gE c : Int)]
theorem getV_eq {c : Nat} {a d g e : Int} {b : Bool} (h : (gK c : Int) = a) (h1 : gPF c = b) (h2 : (gNS c : Int) = d) (h3 : (gNR c : Int) = g) (h4 : (gE c : Int) = e) :
    Ending.returned (.tuple #[.int .u8 a, .bool b, .int .u8 d, .int .u8 g, .int .i64 e]) = .returned (getV c) := by rw [getV, h, h1, h2, h3, h4]
theorem fget (c : Nat) (hc : c < 256) (w : World) (ht : Tab w) :
    Calls Tryd.prog 56 #[.int .u8 (c : Int)] w fun e w' => e = .returned (getV c) ∧ Below w.heap.size w w' := by
  have HT := Lib.hid ht
  clear ht
  have hg := gK_le c hc
  have a14 := u8_and14 c hc
  have a224 := u8_and224 c hc
  have a16 := u8_and16 c hc
  have cases6 : gK c = 0 ∨ gK c = 7 ∨ gK c = 8 ∨ gK c = 9 ∨ gK c = 10 ∨ (gK c ≠ 0 ∧ gK c ≠ 7 ∧ gK c ≠ 8 ∧ gK c ≠ 9 ∧ gK c ≠ 10) := by omega
  rcases cases6 with h | h | h | h | h | ⟨n0, n7, n8, n9, n10⟩
  case inl =>
    have HK : Hid (gK c = 0) := Lib.hid h
    have HC : Hid (∀ w, Tab w → Calls Tryd.prog 61 #[.int .u8 (c : Int)] w fun e w' => e = .returned (.int .u8 0) ∧ Below w.heap.size w w') := Lib.hid (fun w ht => kindOf_at h w ht)
    clear h a14 a224 a16
    go_enter Tryd.func56, Tryd.ntmps56
    go_wp2_with (go_at_call 61; ((with_reducible refine (HC.out _ HT.out).mono ?_); rintro e w1 ⟨rfl, hb⟩; have HB := Lib.hid hb; clear hb))
    refine bodyPost_ret (res5 rfl _ _ _) rfl ?_
    obtain ⟨e1, e2, e3, e4⟩ := get_none HK.out
    exact ⟨getV_eq (by rw [HK.out]; rfl) e1 (by rw [e2]; rfl) (by rw [e3]; rfl) (by rw [e4]; rfl), HB.out⟩
  case inr.inl =>
    have HK : Hid (gK c = 7) := Lib.hid h
    have HC : Hid (∀ w, Tab w → Calls Tryd.prog 61 #[.int .u8 (c : Int)] w fun e w' => e = .returned (.int .u8 7) ∧ Below w.heap.size w w') := Lib.hid (fun w ht => kindOf_at h w ht)
    clear h
    go_enter Tryd.func56, Tryd.ntmps56
    go_wp2_with (go_at_call 61; ((with_reducible refine (HC.out _ HT.out).mono ?_); rintro e w1 ⟨rfl, hb⟩; have HB := Lib.hid hb; clear hb))
    refine bodyPost_ret (res5 rfl _ _ _) rfl ?_
    refine ⟨getV_eq (by rw [HK.out]; rfl) (by simp [gPF, HK.out]) ?_ ?_ (by simp [gE, HK.out]), HB.out⟩
    · rw [gNS, if_pos HK.out]; simp
    · rw [gNR, if_pos (by rw [HK.out]; rfl)]; simp
  case inr.inr.inl =>
    have HK : Hid (gK c = 8) := Lib.hid h
    have HC : Hid (∀ w, Tab w → Calls Tryd.prog 61 #[.int .u8 (c : Int)] w fun e w' => e = .returned (.int .u8 8) ∧ Below w.heap.size w w') := Lib.hid (fun w ht => kindOf_at h w ht)
    clear h
    go_enter Tryd.func56, Tryd.ntmps56
    go_wp2_with (go_at_call 61; ((with_reducible refine (HC.out _ HT.out).mono ?_); rintro e w1 ⟨rfl, hb⟩; have HB := Lib.hid hb; clear hb))
    refine bodyPost_ret (res5 rfl _ _ _) rfl ?_
    refine ⟨getV_eq (by rw [HK.out]; rfl) (by simp [gPF, HK.out]) ?_ ?_ (by simp [gE, HK.out]), HB.out⟩
    · rw [gNS, if_neg (by rw [HK.out]; decide)]; simp
    · rw [gNR, if_pos (by rw [HK.out]; rfl)]; simp
  case inr.inr.inr.inl =>
    have HK : Hid (gK c = 9) := Lib.hid h
    have HC : Hid (∀ w, Tab w → Calls Tryd.prog 61 #[.int .u8 (c : Int)] w fun e w' => e = .returned (.int .u8 9) ∧ Below w.heap.size w w') := Lib.hid (fun w ht => kindOf_at h w ht)
    clear h
    go_enter Tryd.func56, Tryd.ntmps56
    go_wp2_with (go_at_call 61; ((with_reducible refine (HC.out _ HT.out).mono ?_); rintro e w1 ⟨rfl, hb⟩; have HB := Lib.hid hb; clear hb))
    refine bodyPost_ret (res5 rfl _ _ _) rfl ?_
    refine ⟨getV_eq (by rw [HK.out]; rfl) (by simp [gPF, HK.out]) ?_ ?_ (by simp [gE, HK.out]), HB.out⟩
    · rw [gNS, if_neg (by rw [HK.out]; decide)]; simp
    · rw [gNR, if_pos (by rw [HK.out]; rfl)]; simp
  case inr.inr.inr.inr.inl =>
    have HK : Hid (gK c = 10) := Lib.hid h
    have HC : Hid (∀ w, Tab w → Calls Tryd.prog 61 #[.int .u8 (c : Int)] w fun e w' => e = .returned (.int .u8 10) ∧ Below w.heap.size w w') := Lib.hid (fun w ht => kindOf_at h w ht)
    clear h
    go_enter Tryd.func56, Tryd.ntmps56
    go_wp2_with (go_at_call 61; ((with_reducible refine (HC.out _ HT.out).mono ?_); rintro e w1 ⟨rfl, hb⟩; have HB := Lib.hid hb; clear hb))
    refine bodyPost_ret (res5 rfl _ _ _) rfl ?_
    refine ⟨getV_eq (by rw [HK.out]; rfl) (by simp [gPF, HK.out]) ?_ ?_ (by simp [gE, HK.out]), HB.out⟩
    · rw [gNS, if_neg (by rw [HK.out]; decide)]; simp
    · rw [gNR, if_pos (by rw [HK.out]; rfl)]; simp
  case inr.inr.inr.inr.inr =>
    have HK : Hid (gK c ≠ 0 ∧ gK c ≠ 7 ∧ isN (gK c) = false) := Lib.hid ⟨n0, n7, by rw [Bool.eq_false_iff]; simp [isN]; omega⟩
    have HC := Lib.hid (kindOf c)
    have HD : Hid (gPF c = decide (c / 16 % 2 = 1)) := Lib.hid (by simp [gPF, HK.out.1])
    have q0 : ((gK c : Int) == 0) = false := by rw [beq_eq_false_iff_ne]; omega
    have q7 : ((gK c : Int) == 7) = false := by rw [beq_eq_false_iff_ne]; omega
    have q8 : ((gK c : Int) == 8) = false := by rw [beq_eq_false_iff_ne]; omega
    have q9 : ((gK c : Int) == 9) = false := by rw [beq_eq_false_iff_ne]; omega
    have q10 : ((gK c : Int) == 10) = false := by rw [beq_eq_false_iff_ne]; omega
    clear n0 n7 n8 n9 n10
    go_enter Tryd.func56, Tryd.ntmps56
    go_wp2_with (go_at_call 61; ((with_reducible refine (HC.out _ HT.out).mono ?_); rintro e w1 ⟨rfl, hb⟩; have HB := Lib.hid hb; clear hb))
    refine bodyPost_ret (res5 rfl _ _ _) rfl ?_
    refine ⟨getV_eq rfl (by rw [HD.out]) ?_ ?_ (by simp [gE, HK.out.1]), HB.out⟩
    · rw [gNS, if_neg HK.out.2.1]; simp
    · rw [gNR, HK.out.2.2]; simp
end Go.Proofs.YthlciaomfpephaaDoor.Field

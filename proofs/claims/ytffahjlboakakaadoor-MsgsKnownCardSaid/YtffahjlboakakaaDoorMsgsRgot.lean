/-
  The document's own Get of layer 10, of any octets. Condition: a string is no longer than a machine has room for.
-/
import Derived.Test.YtffahjlboakakaaDoorMsgsRget
namespace Go.Proofs.YtffahjlboakakaaDoor.Msgs
open Go.RowKit Go.Proofs.YtffahjlboakakaaDoor.Base Go.Proofs.YtffahjlboakakaaDoor.Mem
theorem rdOk_1 {t : Nat} (h : kOf t = 1) (v : ByteArray) : rdOk t v = decide (Pn.gotE v = 0) := by unfold rdOk; rw [if_pos h]
theorem rdOk_2 {t : Nat} (h : kOf t = 2) (v : ByteArray) : rdOk t v = decide (Msc.gotE v = 0) := by unfold rdOk; rw [if_neg (by omega), if_pos h]
theorem rdOk_5 {t : Nat} (h : kOf t = 5 ∨ kOf t = 8) (v : ByteArray) : rdOk t v = true := by unfold rdOk; rw [if_neg (by omega), if_neg (by omega), if_pos h]
theorem rdOk_7 {t : Nat} (h : kOf t = 7) (v : ByteArray) : rdOk t v = decide (v.size = 1) := by unfold rdOk; rw [if_neg (by omega), if_neg (by omega), if_neg (by omega), if_pos h]
theorem rdOk_3 {t : Nat} (h : kOf t = 3 ∨ kOf t = 4 ∨ kOf t = 6) (v : ByteArray) : rdOk t v = decide (v.size = 0) := by unfold rdOk; rw [if_neg (by omega), if_neg (by omega), if_neg (by omega), if_neg (by omega)]
theorem rdM_1 {t : Nat} (h : kOf t = 1) (v : ByteArray) : rdM t v = ⟨1, false, Pn.gotP v, Msc.zero, 0, no⟩ := by unfold rdM; rw [if_pos h]
theorem rdM_2 {t : Nat} (h : kOf t = 2) (v : ByteArray) : rdM t v = ⟨2, false, Pn.zero, Msc.gotS v, 0, no⟩ := by unfold rdM; rw [if_neg (by omega), if_pos h]
theorem rdM_5 {t : Nat} (h : kOf t = 5) (v : ByteArray) : rdM t v = ⟨5, false, Pn.zero, Msc.zero, 0, v⟩ := by unfold rdM; rw [if_neg (by omega), if_neg (by omega), if_pos h]
theorem rdM_7 {t : Nat} (h : kOf t = 7) (v : ByteArray) (hs : v.size = 1) : rdM t v = ⟨7, false, Pn.zero, Msc.zero, v[0].toNat, no⟩ := by unfold rdM; rw [if_neg (by omega), if_neg (by omega), if_neg (by omega), if_pos h, dif_pos hs]
theorem rdM_8 {t : Nat} (h : kOf t = 8) (v : ByteArray) : rdM t v = ⟨8, false, Pn.zero, Msc.zero, t, v⟩ := by unfold rdM; rw [if_neg (by omega), if_neg (by omega), if_neg (by omega), if_neg (by omega), if_pos h]
theorem rdM_3 {t : Nat} (h : kOf t = 3 ∨ kOf t = 4 ∨ kOf t = 6) (v : ByteArray) : rdM t v = ⟨kOf t, false, Pn.zero, Msc.zero, 0, no⟩ := by unfold rdM; rw [if_neg (by omega), if_neg (by omega), if_neg (by omega), if_neg (by omega), if_neg (by omega)]
theorem rget (s : ByteArray) (hs : s.size ≤ 281474976710656) (w : World) :
    Calls Tryd.prog 16 #[.string s] w fun e w' => e = .returned (.tuple #[mv (got s).m, .int .i64 ((got s).n : Int), .int .i64 ((got s).e : Int)]) ∧ Below w.heap.size w w' := by
  have CG := fun w => Tlv.rget s hs w
  unfold Tlv.rgotV at CG
  by_cases h0 : (Tlv.got s).e = 0
  · obtain ⟨q1, _⟩ := Tlv.putE_ok (Tlv.put_got h0).1
    rw [h0] at CG
    have G : got s = if rdOk (Tlv.got s).k (Tlv.got s).v = true then ⟨(rdM (Tlv.got s).k (Tlv.got s).v).cmd (Tlv.got s).c, (Tlv.got s).n, 0⟩ else bad 70 := if_pos h0
    rw [G]
    generalize (Tlv.got s).k = t at *
    generalize (Tlv.got s).c = c at *
    generalize (Tlv.got s).v = v at *
    generalize (Tlv.got s).n = n at *
    have CK := fun w => rkindOf t w
    obtain ⟨k1, k2, -⟩ := kOf_is t (by omega)
    have cases8 : kOf t = 1 ∨ kOf t = 2 ∨ kOf t = 5 ∨ kOf t = 7 ∨ kOf t = 8 ∨ kOf t = 3 ∨ kOf t = 4 ∨ kOf t = 6 := by omega
    clear G h0
    rcases cases8 with hk | hk | hk | hk | hk | hk | hk | hk
    · rw [hk] at CK
      rw [rdOk_1 hk, rdM_1 hk]
      by_cases hE : Pn.gotE v = 0
      · rw [if_pos (decide_eq_true hE)]
        exact rget_1_yes s v t n c _ _ (bne_false hE) (fun w => Pn.rget v w) CG CK w
      · rw [decide_eq_false hE]
        exact rget_1_no s v t n c _ _ (bne_true hE) (fun w => Pn.rget v w) CG CK w
    · rw [hk] at CK
      rw [rdOk_2 hk, rdM_2 hk]
      by_cases hE : Msc.gotE v = 0
      · rw [if_pos (decide_eq_true hE)]
        exact rget_2_yes s v t n c _ _ (bne_false hE) (fun w => Msc.rget v w) CG CK w
      · rw [decide_eq_false hE]
        exact rget_2_no s v t n c _ _ (bne_true hE) (fun w => Msc.rget v w) CG CK w
    · rw [hk] at CK
      rw [rdOk_5 (.inl hk), rdM_5 hk, if_pos rfl]
      exact rget_5 s v t n c CG CK w
    · rw [hk] at CK
      rw [rdOk_7 hk]
      by_cases hs : v.size = 1
      · rw [if_pos (decide_eq_true hs), rdM_7 hk v hs]
        exact rget_7 s v t n c v[0].toNat (fun W => Pn.at_string v 0 (by omega) _ rfl W) (beq_true (by omega)) CG CK w
      · rw [decide_eq_false hs]
        exact rget_7no s v t n c (beq_false (by omega)) CG CK w
    · rw [hk] at CK
      rw [rdOk_5 (.inr hk), rdM_8 hk, if_pos rfl]
      exact rget_8 s v t n c CG CK w
    · rw [hk] at CK
      rw [rdOk_3 (.inl hk), rdM_3 (.inl hk), hk]
      have he := empty_size v
      by_cases hs : v.size = 0
      · rw [decide_eq_true hs] at he
        rw [if_pos (decide_eq_true hs)]
        exact rget_3_yes s v t n c he CG CK w
      · rw [decide_eq_false hs] at he
        rw [decide_eq_false hs]
        exact rget_3_no s v t n c he CG CK w
    · rw [hk] at CK
      rw [rdOk_3 (.inr (.inl hk)), rdM_3 (.inr (.inl hk)), hk]
      have he := empty_size v
      by_cases hs : v.size = 0
      · rw [decide_eq_true hs] at he
        rw [if_pos (decide_eq_true hs)]
        exact rget_4_yes s v t n c he CG CK w
      · rw [decide_eq_false hs] at he
        rw [decide_eq_false hs]
        exact rget_4_no s v t n c he CG CK w
    · rw [hk] at CK
      rw [rdOk_3 (.inr (.inr hk)), rdM_3 (.inr (.inr hk)), hk]
      have he := empty_size v
      by_cases hs : v.size = 0
      · rw [decide_eq_true hs] at he
        rw [if_pos (decide_eq_true hs)]
        exact rget_6_yes s v t n c he CG CK w
      · rw [decide_eq_false hs] at he
        rw [decide_eq_false hs]
        exact rget_6_no s v t n c he CG CK w
  · rw [got_err h0]
    exact rget_err s _ _ _ _ _ (bne_true (by omega)) CG w
end Go.Proofs.YtffahjlboakakaaDoor.Msgs

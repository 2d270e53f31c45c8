/-
  Layer 22, put together: MsgsRgot, MsgsAll, CtlHear. Conditions: as each theorem names them.
-/
import Derived.Test.YtakkhdammmcjcaaGreatDoorK27
import Derived.Test.YtakkhdammmcjcaaGreatDoorK22
import Derived.Deep.Upon
namespace Go.Proofs.YtakkhdammmcjcaaGreatDoor.Msgs
open Go.RowKit Base Mem
theorem rdOk_1 {t : Nat} (h : kOf t = 1) (v : ByteArray) : rdOk t v = decide (Pn.gotE v = 0) := by unfold rdOk; rw [if_pos h]
theorem rdOk_2 {t : Nat} (h : kOf t = 2) (v : ByteArray) : rdOk t v = decide (Msc.gotE v = 0) := by unfold rdOk; rw [if_neg (by omega), if_pos h]
theorem rdOk_5 {t : Nat} (h : kOf t = 5 ∨ kOf t = 8) (v : ByteArray) : rdOk t v = true := by unfold rdOk; rw [if_neg (by omega), if_neg (by omega), if_pos h]
theorem rdOk_7 {t : Nat} (h : kOf t = 7) (v : ByteArray) : rdOk t v = decide (v.size = 1) := by unfold rdOk; rw [if_neg (by omega), if_neg (by omega), if_neg (by omega), if_pos h]
theorem rdOk_3 {t : Nat} (h : kOf t = 3 ∨ kOf t = 4 ∨ kOf t = 6) (v : ByteArray) : rdOk t v = decide (v.size = 0) := by unfold rdOk; rw [if_neg (by omega), if_neg (by omega), if_neg (by omega), if_neg (by omega)]
theorem rdM_1 {t : Nat} (h : kOf t = 1) (v : ByteArray) : rdM t v = ⟨1, false, Pn.gotP v, Msc.zero, 0, no⟩ := by unfold rdM; rw [if_pos h]
theorem rdM_2 {t : Nat} (h : kOf t = 2) (v : ByteArray) : rdM t v = ⟨2, false, Pn.zero, Msc.gotS v, 0, no⟩ := by unfold rdM; rw [if_neg (by omega), if_pos h]
theorem rdM_5 {t : Nat} (h : kOf t = 5) (v : ByteArray) : rdM t v = ⟨5, false, Pn.zero, Msc.zero, 0, v⟩ := by unfold rdM; rw [if_neg (by omega), if_neg (by omega), if_pos h]
theorem rdM_7 {t : Nat} (h : kOf t = 7) (v : ByteArray) (hs : v.size = 1) : rdM t v = ⟨7, false, Pn.zero, Msc.zero, v[0].toNat, no⟩ := by unfold rdM; rw [if_neg (by omega), if_neg (by omega), if_neg (by omega), if_pos h, dif_pos hs]
theorem rdM_8 {t : Nat} (h : kOf t = 8) (v : ByteArray) : rdM t v = ⟨8, false, Pn.zero, Msc.zero, t, v⟩ := by unfold rdM; rw [if_neg (by omega), if_neg (by omega), if_neg (by omega), if_neg (by omega), if_pos h]
theorem rdM_3 {t : Nat} (h : kOf t = 3 ∨ kOf t = 4 ∨ kOf t = 6) (v : ByteArray) : rdM t v = ⟨kOf t, false, Pn.zero, Msc.zero, 0, no⟩ := by unfold rdM; rw [if_neg (by omega), if_neg (by omega), if_neg (by omega), if_neg (by omega), if_neg (by omega)]
theorem rget (s : ByteArray) (hs : s.size ≤ 281474976710656) (w : World) :
 Calls Tryz.prog 79 #[.string s] w fun e w' => e = .returned (.tuple #[mv (got s).m, .int .i64 ((got s).n : Int), .int .i64 ((got s).e : Int)]) ∧ Below w.heap.size w w' := by
 have CG := fun w => Tlv.rget s hs w
 unfold Tlv.rgotV at CG
 by_cases h0 : (Tlv.got s).e = 0
 · obtain ⟨q1, _⟩ := Tlv.putE_ok (Tlv.put_got h0).1
   rw [h0] at CG
   have G : got s = if rdOk (Tlv.got s).k (Tlv.got s).v = true then ⟨(rdM (Tlv.got s).k (Tlv.got s).v).cmd (Tlv.got s).c, (Tlv.got s).n, 0⟩ else bad 70 := if_pos h0
   rw [G]
   generalize (Tlv.got s).k = t at *
   generalize (Tlv.got s).c = c at *
   generalize (Tlv.got s).v = v at *
   generalize (Tlv.got s).n = n at *
   have CK := fun w => rkindOf t w
   obtain ⟨k1, k2, -⟩ := kOf_is t (by omega)
   have cases8 : kOf t = 1 ∨ kOf t = 2 ∨ kOf t = 5 ∨ kOf t = 7 ∨ kOf t = 8 ∨ kOf t = 3 ∨ kOf t = 4 ∨ kOf t = 6 := by omega
   clear G h0
   rcases cases8 with hk | hk | hk | hk | hk | hk | hk | hk
   · rw [hk] at CK
     rw [rdOk_1 hk, rdM_1 hk]
     by_cases hE : Pn.gotE v = 0
     · rw [if_pos (decide_eq_true hE)]
       exact rget_1_yes s v t n c _ _ (bne_false hE) (fun w => Pn.rget v w) CG CK w
     · rw [decide_eq_false hE]
       exact rget_1_no s v t n c _ _ (bne_true hE) (fun w => Pn.rget v w) CG CK w
   · rw [hk] at CK
     rw [rdOk_2 hk, rdM_2 hk]
     by_cases hE : Msc.gotE v = 0
     · rw [if_pos (decide_eq_true hE)]
       exact rget_2_yes s v t n c _ _ (bne_false hE) (fun w => Msc.rget v w) CG CK w
     · rw [decide_eq_false hE]
       exact rget_2_no s v t n c _ _ (bne_true hE) (fun w => Msc.rget v w) CG CK w
   · rw [hk] at CK
     rw [rdOk_5 (.inl hk), rdM_5 hk, if_pos rfl]
     exact rget_5 s v t n c CG CK w
   · rw [hk] at CK
     rw [rdOk_7 hk]
     by_cases hs : v.size = 1
     · rw [if_pos (decide_eq_true hs), rdM_7 hk v hs]
       exact rget_7 s v t n c v[0].toNat (fun W => Pn.at_string v 0 (by omega) _ rfl W) (beq_true (by omega)) CG CK w
     · rw [decide_eq_false hs]
       exact rget_7no s v t n c (beq_false (by omega)) CG CK w
   · rw [hk] at CK
     rw [rdOk_5 (.inr hk), rdM_8 hk, if_pos rfl]
     exact rget_8 s v t n c CG CK w
   · rw [hk] at CK
     rw [rdOk_3 (.inl hk), rdM_3 (.inl hk), hk]
     have he := empty_size v
     by_cases hs : v.size = 0
     · rw [decide_eq_true hs] at he
       rw [if_pos (decide_eq_true hs)]
       exact rget_3_yes s v t n c he CG CK w
     · rw [decide_eq_false hs] at he
       rw [decide_eq_false hs]
       exact rget_3_no s v t n c he CG CK w
   · rw [hk] at CK
     rw [rdOk_3 (.inr (.inl hk)), rdM_3 (.inr (.inl hk)), hk]
     have he := empty_size v
     by_cases hs : v.size = 0
     · rw [decide_eq_true hs] at he
       rw [if_pos (decide_eq_true hs)]
       exact rget_4_yes s v t n c he CG CK w
     · rw [decide_eq_false hs] at he
       rw [decide_eq_false hs]
       exact rget_4_no s v t n c he CG CK w
   · rw [hk] at CK
     rw [rdOk_3 (.inr (.inr hk)), rdM_3 (.inr (.inr hk)), hk]
     have he := empty_size v
     by_cases hs : v.size = 0
     · rw [decide_eq_true hs] at he
       rw [if_pos (decide_eq_true hs)]
       exact rget_6_yes s v t n c he CG CK w
     · rw [decide_eq_false hs] at he
       rw [decide_eq_false hs]
       exact rget_6_no s v t n c he CG CK w
 · rw [got_err h0]
   exact rget_err s _ _ _ _ _ (bne_true (by omega)) CG w
end Go.Proofs.YtakkhdammmcjcaaGreatDoor.Msgs
namespace Go.Proofs.YtakkhdammmcjcaaGreatDoor.Msgs
open Go.RowKit Base Mem
set_option maxRecDepth 20000
/-- What a round of All's loop begins with. -/
structure AllAt (E : Nat) (s : ByteArray) (w : World) (v : Value) (at_ : Nat) (wr : World) (acc : List Ms) : Prop where
 left : Left s at_ acc
 own : OwnS E 20 ml wr w.heap.size v acc
 base : Below w.heap.size w wr
 few : acc.length ≤ at_
/-- What a call of All leaves. -/
def AllEnds (E : Nat) (s : ByteArray) (w : World) (e : Ending) (w' : World) : Prop :=
 ∃ v, e = .returned (.tuple #[v, .int .i64 ((all s).2 : Int)]) ∧ OwnS E 20 ml w' w.heap.size v (all s).1 ∧ Below w.heap.size w w'
theorem own_ne {E : Nat} {w w' : World} {base b : Nat} {v : Value} {l : List Ms} (h : OwnS E 20 ml w base v l) (F : Fresh b w w') : ∀ k, v.ownBlock = some k → k ≠ b := fun k hk => by
 have := (h.lt k hk).2
 have := F.eq
 omega
theorem own_mod {E : Nat} {w w' : World} {base b : Nat} {v : Value} {l : List Ms} (h : OwnS E 20 ml w base v l) (M : Mod b w w') (hn : ∀ k, v.ownBlock = some k → k ≠ b) : OwnS E 20 ml w' base v l := by
 refine h.grown (r := some b) ⟨M.os, M.tape, M.output, Nat.le_of_eq M.size.symm, fun k _ hk => M.rest k (fun e => hk (by rw [e]))⟩ ?_
 cases hv : v.ownBlock with
 | none => exact .inl rfl
 | some k => exact .inr (fun e => hn k hv (Option.some.inj e))
set_option maxHeartbeats 800000 in
theorem fall (s : ByteArray) (hs : s.size ≤ 5000) (w : World) (ht : Tab w) :
 Calls Tryz.prog 45 #[.string s] w (AllEnds 29 s w) := by
 have HT := Lib.hid ht
 clear ht
 go_enter Tryz.func45, Tryz.ntmps45
 go_wp2
 go_loopw [4, 5] (fun v i wr => ∃ (k : Nat) (acc : List Ms), k ≤ s.size ∧ i = .int .i64 (k : Int) ∧ Hid (AllAt 29 s w v k wr acc)) (fun _ i _ => s.size + 1 - (intOf i).toNat)
 case atStart => exact ⟨0, [], Nat.zero_le _, rfl, Lib.hid ⟨left_start s, ownS_nil _ _, Below.refl _ _, Nat.le_refl _⟩⟩
 case round =>
  obtain ⟨k, acc, hk, rfl, HR⟩ := hrel
  obtain ⟨t, ht'⟩ : ∃ t, s.extract k s.size = t := ⟨_, rfl⟩
  have hts : t.size ≤ 281474976710656 := by rw [← ht', ext_size]; omega
  · skip
    have CG := Lib.hid (fun w (h : Tab w) => fget t hts w h)
    have HL := Lib.hid (left_step HR.out.left (by omega))
    have HN := Lib.hid (left_bad HR.out.left (by omega))
    rw [ht'] at HL HN
    rcases hg : got t with ⟨gm, gn, ge⟩
    rw [hg] at CG HL HN
    dsimp only at CG HL HN
    clear hg
    by_cases he : ge = 0
    · skip
      subst he
      obtain ⟨hL, h2, h3, _⟩ := HL.out rfl
      have HL2 := Lib.hid hL
      clear hL
      go_wp2_with (first
       | (go_at_call 63; ((with_reducible refine (CG.out _ (tab_below HT.out HR.out.base)).mono ?_); rintro e w1 ⟨rfl, hb⟩; have HO := Lib.hid (HR.out.own.below hb); have HW := Lib.hid (below_on HR.out.base hb); clear hb))
       | ((with_reducible refine alm zeroM ?_); intro b2 w2 h2 F2; have N2 := Lib.hid (own_ne HO.out F2); replace HO := Lib.hid (HO.out.below F2.below); have L2 := Lib.hid (F2.le HW.out); replace HW := Lib.hid (F2.on HW.out); have HM := Lib.hid h2; clear h2 F2)
       | ((with_reducible refine stm (m := gm) isM HM.out ?hx ?hy ?_); (case hx => rfl); (case hy => rfl); intro w3 h3 M3; replace HO := Lib.hid (own_mod HO.out M3 N2.out); replace HW := Lib.hid (M3.below HW.out L2.out); replace HM := Lib.hid h3; clear h3 M3)
       | ((with_reducible refine ldm isM HM.out ?hx ?_); (case hx => rfl))
       | ((with_reducible refine bsl (mc gm) Tryz.underlying22 infoM ?hl ?hf ?_); (case hl => exact ⟨by decide, by decide⟩); (case hf => kernel_rfl); intro b4 w4 h4 F4; replace HO := Lib.hid (HO.out.below F4.below); replace HW := Lib.hid (F4.on HW.out); replace HM := Lib.hid h4; clear h4 F4)
       | (at_builtin; refine wpList_append_elt eltM _ rfl _ _ rfl w.heap.size _ rfl acc HO.out b4 _ rfl gm (row_of HM.out) (by have := HR.out.few; omega) HW.out.size ?_; intro v' w5 ho hg _; have HO2 := Lib.hid ho; have HW2 := Lib.hid (HW.out.grown hg HW.out.size (fun k hk => (HO.out.lt k hk).1)); clear ho hg))
      go_roundw
      case rel => exact ⟨k + gn, _, h3, by go_num, Lib.hid ⟨HL2.out, HO2.out, HW2.out, by have := HR.out.few; simp; omega⟩⟩
      case measure => simp [intOf]; omega
    · skip
      have hne : ((ge : Int) != 0) = true := bne_true (by omega)
      have HN2 := Lib.hid (HN.out he)
      clear he
      go_wp2_with (first
       | (go_at_call 63; ((with_reducible refine (CG.out _ (tab_below HT.out HR.out.base)).mono ?_); rintro e w1 ⟨rfl, hb⟩; have HO := Lib.hid (HR.out.own.below hb); have HW := Lib.hid (below_on HR.out.base hb); clear hb))
       | ((with_reducible refine alm zeroM ?_); intro b2 w2 h2 F2; have N2 := Lib.hid (own_ne HO.out F2); replace HO := Lib.hid (HO.out.below F2.below); have L2 := Lib.hid (F2.le HW.out); replace HW := Lib.hid (F2.on HW.out); have HM := Lib.hid h2; clear h2 F2)
       | ((with_reducible refine stm (m := gm) isM HM.out ?hx ?hy ?_); (case hx => rfl); (case hy => rfl); intro w3 h3 M3; replace HO := Lib.hid (own_mod HO.out M3 N2.out); replace HW := Lib.hid (M3.below HW.out L2.out); replace HM := Lib.hid h3; clear h3 M3))
      go_ret2
      exact ⟨_, by rw [HN2.out]; rfl, by rw [HN2.out]; exact HO.out, HW.out⟩
set_option maxHeartbeats 800000 in
theorem rall (s : ByteArray) (hs : s.size ≤ 5000) (w : World) :
 Calls Tryz.prog 57 #[.string s] w (AllEnds 79 s w) := by
 go_enter Tryz.func57, Tryz.ntmps57
 go_wp2
 go_loopw [4, 5] (fun v i wr => ∃ (k : Nat) (acc : List Ms), k ≤ s.size ∧ i = .int .i64 (k : Int) ∧ Hid (AllAt 79 s w v k wr acc)) (fun _ i _ => s.size + 1 - (intOf i).toNat)
 case atStart => exact ⟨0, [], Nat.zero_le _, rfl, Lib.hid ⟨left_start s, ownS_nil _ _, Below.refl _ _, Nat.le_refl _⟩⟩
 case round =>
  obtain ⟨k, acc, hk, rfl, HR⟩ := hrel
  obtain ⟨t, ht'⟩ : ∃ t, s.extract k s.size = t := ⟨_, rfl⟩
  have hts : t.size ≤ 281474976710656 := by rw [← ht', ext_size]; omega
  by_cases hlt : k < s.size
  · skip
    have CG := Lib.hid (fun w => rget t hts w)
    have HL := Lib.hid (left_step HR.out.left (by omega))
    have HN := Lib.hid (left_bad HR.out.left (by omega))
    rw [ht'] at HL HN
    rcases hg : got t with ⟨gm, gn, ge⟩
    rw [hg] at CG HL HN
    dsimp only at CG HL HN
    clear hg
    by_cases he : ge = 0
    · skip
      subst he
      obtain ⟨hL, h2, h3, _⟩ := HL.out rfl
      have HL2 := Lib.hid hL
      clear hL
      go_wp2_with (first
       | (go_at_call 79; ((with_reducible refine (CG.out _).mono ?_); rintro e w1 ⟨rfl, hb⟩; have HO := Lib.hid (HR.out.own.below hb); have HW := Lib.hid (below_on HR.out.base hb); clear hb))
       | ((with_reducible refine alm zeroR ?_); intro b2 w2 h2 F2; have N2 := Lib.hid (own_ne HO.out F2); replace HO := Lib.hid (HO.out.below F2.below); have L2 := Lib.hid (F2.le HW.out); replace HW := Lib.hid (F2.on HW.out); have HM := Lib.hid h2; clear h2 F2)
       | ((with_reducible refine stm (m := gm) isR HM.out ?hx ?hy ?_); (case hx => rfl); (case hy => rfl); intro w3 h3 M3; replace HO := Lib.hid (own_mod HO.out M3 N2.out); replace HW := Lib.hid (M3.below HW.out L2.out); replace HM := Lib.hid h3; clear h3 M3)
       | ((with_reducible refine ldm isR HM.out ?hx ?_); (case hx => rfl))
       | ((with_reducible refine bsl (mc gm) Tryz.underlying49 infoR ?hl ?hf ?_); (case hl => exact ⟨by decide, by decide⟩); (case hf => kernel_rfl); intro b4 w4 h4 F4; replace HO := Lib.hid (HO.out.below F4.below); replace HW := Lib.hid (F4.on HW.out); replace HM := Lib.hid h4; clear h4 F4)
       | (at_builtin; refine wpList_append_elt eltR _ rfl _ _ rfl w.heap.size _ rfl acc HO.out b4 _ rfl gm (row_of HM.out) (by have := HR.out.few; omega) HW.out.size ?_; intro v' w5 ho hg _; have HO2 := Lib.hid ho; have HW2 := Lib.hid (HW.out.grown hg HW.out.size (fun k hk => (HO.out.lt k hk).1)); clear ho hg))
      go_roundw
      case rel => exact ⟨k + gn, _, h3, by go_num, Lib.hid ⟨HL2.out, HO2.out, HW2.out, by have := HR.out.few; simp; omega⟩⟩
      case measure => simp [intOf]; omega
    · skip
      have hne : ((ge : Int) != 0) = true := bne_true (by omega)
      have HN2 := Lib.hid (HN.out he)
      clear he
      go_wp2_with (first
       | (go_at_call 79; ((with_reducible refine (CG.out _).mono ?_); rintro e w1 ⟨rfl, hb⟩; have HO := Lib.hid (HR.out.own.below hb); have HW := Lib.hid (below_on HR.out.base hb); clear hb))
       | ((with_reducible refine alm zeroR ?_); intro b2 w2 h2 F2; have N2 := Lib.hid (own_ne HO.out F2); replace HO := Lib.hid (HO.out.below F2.below); have L2 := Lib.hid (F2.le HW.out); replace HW := Lib.hid (F2.on HW.out); have HM := Lib.hid h2; clear h2 F2)
       | ((with_reducible refine stm (m := gm) isR HM.out ?hx ?hy ?_); (case hx => rfl); (case hy => rfl); intro w3 h3 M3; replace HO := Lib.hid (own_mod HO.out M3 N2.out); replace HW := Lib.hid (M3.below HW.out L2.out); replace HM := Lib.hid h3; clear h3 M3))
      go_ret2
      exact ⟨_, by rw [HN2.out]; rfl, by rw [HN2.out]; exact HO.out, HW.out⟩
  · have HD := Lib.hid (left_done HR.out.left (by omega))
    clear ht'
    go_wp2
    go_ret2
    exact ⟨_, by rw [HD.out]; rfl, by rw [HD.out]; exact HR.out.own, HR.out.base⟩
end Go.Proofs.YtakkhdammmcjcaaGreatDoor.Msgs
namespace Go.Proofs.YtakkhdammmcjcaaGreatDoor.Ctl
open Go.RowKit Base Mem Msgs Cr
set_option maxRecDepth 100000
theorem hears_app (m : Ms) : ∀ (l : List Ms) (x : Ct), x.hears (l ++ [m]) = (((x.hears l).1.hear1 m).1, (x.hears l).2 ++ ((x.hears l).1.hear1 m).2)
 | [], x => by
  show (((x.hear1 m).1), (x.hear1 m).2 ++ []) = ((x.hear1 m).1, [] ++ (x.hear1 m).2)
  rw [List.append_nil, List.nil_append]
 | y :: l, x => by
  have ih := hears_app m l (x.hear1 y).1
  show ((((x.hear1 y).1).hears (l ++ [m])).1, (x.hear1 y).2 ++ (((x.hear1 y).1).hears (l ++ [m])).2) = _
  rw [ih, ← List.append_assoc]
  rfl
theorem hears_next {x : Ct} {L : List Ms} {k : Nat} {y : Ms} (hy : L[k]? = some y) : x.hears (L.take (k + 1)) = (((x.hears (L.take k)).1.hear1 y).1, (x.hears (L.take k)).2 ++ ((x.hears (L.take k)).1.hear1 y).2) := by
 rw [List.take_add_one, hy]; exact hears_app y _ x
theorem resp_len (r : Ms) : ∀ l : List Wt, (resp r l).2.length ≤ 1
 | [] => Nat.zero_le _
 | v :: l => by
  unfold resp
  split
  · exact Nat.le_refl _
  · split
    · exact Nat.le_refl _
    · exact resp_len r l
theorem hear1_len (x : Ct) (m : Ms) : (x.hear1 m).2.length ≤ 1 := by
 unfold Ct.hear1
 split
 · unfold Ct.command
   split
   · exact Nat.zero_le _
   · split
     · exact Nat.zero_le _
     · exact Nat.le_refl _
 · exact resp_len m x.cs
theorem hears_len : ∀ (l : List Ms) (x : Ct), (x.hears l).2.length ≤ l.length
 | [], _ => Nat.le_refl _
 | m :: l, x => by
  have h1 := hear1_len x m
  have h2 := hears_len l (x.hear1 m).1
  show ((x.hear1 m).2 ++ ((x.hear1 m).1.hears l).2).length ≤ _
  rw [List.length_append, List.length_cons]; omega
/-- A row of facts is appended to a row of facts, be it empty. -/
theorem app_facts (w : World) (ty base b2 : Nat) (v u : Value) (L l2 : List Fa) (hq : Qz 21 fl w base v L) (hu : OwnS FT 21 fl w b2 u l2) (hl : L.length + l2.length ≤ 1000000) (hb : base ≤ w.heap.size) :
 ∃ v' w', (Builtin.append_ #[83, 83] ty #[v, u]).run Tryz.prog w = .ok v' w' ∧ Qz 21 fl w' base v' (L ++ l2) ∧ w.grownBy w' v.ownBlock ∧ (v'.ownBlock = v.ownBlock ∨ v'.ownBlock = some w.heap.size) := by
 by_cases h0 : l2 = []
 · subst h0
   obtain ⟨zero, bytes, hinfo, _, _⟩ := eltF.info
   obtain ⟨i, hi, _, hz1, _⟩ := info_parts hinfo
   have hs : Src Tryz.prog i.size 83 u 0 [] w := by
    rcases hu.shape with ⟨e, _⟩ | ⟨g, cap, e, _⟩
    · rw [e]; exact Src.ofNil w eltF.under 0
    · rw [e]; exact Src.ofSlice w eltF.under ⟨g, 0, none⟩ 0 cap [] (by simp) (fun j u h => by simp at h) fun u h => by cases h
   obtain ⟨oa, cap, e⟩ := hq.form
   have hle : L.length ≤ cap := by
    rcases hq with ⟨h1, h2⟩ | ⟨g, off, cap', h1, _, h3⟩
    · rw [h2]; exact Nat.zero_le _
    · rw [e] at h1
      injection h1 with _ _ h1
      have := h3.len
      omega
   subst e
   refine ⟨_, w, run_append_nothing w _ _ ty FT i eltF.under hi oa L.length cap hle u hs, by rw [List.append_nil]; exact hq, World.grownBy.refl w _, .inl rfl⟩
 · have hpos : 0 < l2.length := List.length_pos_iff.2 h0
   rcases hu.shape with ⟨_, e⟩ | ⟨g, cap, e, _⟩
   · exact absurd e h0
   · subst e
     have hs := srcz_at eltF w g 0 l2.length cap l2 rfl fun i y hy j hj => by
      rw [Nat.zero_add]; exact OwnS.cell fl_len hu i y hy j hj
     exact run_append_q eltF w ty base v L hq _ l2.length l2 rfl hs hpos hl hb
section
variable {w u u' : World} {c base : Nat} {va vc vl v : Value} {x x' : Ct} {L : List Ms} {F : List Fa}
/-- Within Hear: its own, the messages that were read, the facts so far. -/
structure Hk (w : World) (c base : Nat) (va vc : Value) (x' : Ct) (vl : Value) (L : List Ms) (v : Value) (F : List Fa) (va' vc' : Value) (u : World) : Prop where
 d : D u c base va' vc' x'
 sub : ∀ k, DS c va' vc' k → DS c va vc k ∨ w.heap.size ≤ k
 nl : ∀ k, vl.ownBlock = some k → ¬ DS c va' vc' k
 nf : ∀ k, v.ownBlock = some k → ¬ DS c va' vc' k
 chg : Chg (DS c va vc) w u
 l : OwnS RT 20 ml u w.heap.size vl L
 f : Qz 21 fl u w.heap.size v F
 ne : ∀ k, vl.ownBlock = some k → v.ownBlock ≠ some k
/-- A call of its own came and went. -/
theorem Hk.step {va' vc' : Value} {y : Ct} (h : Hk w c base va vc x' vl L v F va' vc' u) (hn : Nx u c base va' vc' y u') : ∃ va2 vc2, Hk w c base va vc y vl L v F va2 vc2 u' := by
 obtain ⟨va2, vc2, hd, hs⟩ := hn.d
 have keep : ∀ k, k < u.heap.size → ¬ DS c va' vc' k → ¬ DS c va2 vc2 k := fun k hk h1 h2 => by
  rcases hs k h2 with h3 | h3
  · exact h1 h3
  · omega
 refine ⟨va2, vc2, hd, fun k hk => ?_, fun k hk => keep k (h.l.lt k hk).2 (h.nl k hk), fun k hk => keep k (h.f.lt k hk).2 (h.nf k hk), h.chg.trans hn.chg fun k hk hs => ?_, ?_, ?_, h.ne⟩
 · rcases hs k hk with h3 | h3
   · exact h.sub k h3
   · exact .inr (Nat.le_trans h.chg.size h3)
 · rcases h.sub k hs with h3 | h3
   · exact h3
   · omega
 · have h1 := h.l
   refine ⟨h1.1, ?_⟩
   rcases h1.2 with h2 | ⟨g, cap, cur, h2, h3, h4, h5⟩
   · exact .inl h2
   · exact .inr ⟨g, cap, cur, h2, h3, by rw [hn.chg.block g (lt_heap h4) (h.nl g (by rw [h2]; rfl))]; exact h4, h5⟩
 · exact h.f.eqv fun g hg => hn.chg.block g (h.f.lt g hg).2 (h.nf g hg)
/-- Facts were appended. -/
theorem Hk.more {va' vc' v' : Value} {F' : List Fa} (h : Hk w c base va vc x' vl L v F va' vc' u) (hq : Qz 21 fl u' w.heap.size v' F') (hg : u.grownBy u' v.ownBlock) (ho : v'.ownBlock = v.ownBlock ∨ v'.ownBlock = some u.heap.size) : Hk w c base va vc x' vl L v' F' va' vc' u' := by
 have hcg := Chg.of_grown (S := fun k => v.ownBlock = some k) hg fun _ e => e
 refine ⟨h.d.eqv fun k hk => hcg.block k (h.d.own_lt k hk).2 fun e => h.nf k e hk, h.sub, h.nl, fun k hk hs => ?_, h.chg.trans hcg fun k hk e => ?_, ?_, hq, fun k hk e => ?_⟩
 · rcases ho with e | e
   · exact h.nf k (e ▸ hk) hs
   · rw [e] at hk; cases hk
     have := (h.d.own_lt _ hs).2; omega
 · have := (h.f.lt k e).1; omega
 · have h1 := h.l
   refine ⟨h1.1, ?_⟩
   rcases h1.2 with h2 | ⟨g, cap, cur, h2, h3, h4, h5⟩
   · exact .inl h2
   · exact .inr ⟨g, cap, cur, h2, h3, by rw [hcg.block g (lt_heap h4) (h.ne g (by rw [h2]; rfl))]; exact h4, h5⟩
 · rcases ho with e' | e'
   · exact h.ne k hk (e' ▸ e)
   · rw [e'] at e; cases e
     have := (h.l.lt _ hk).2; omega
theorem rresponse2 (h : D w c base va vc x) (hx : x.Ok) (r : Ms) (hr : r.In) : Calls Tryz.prog 59 #[ptr c, mv r] w fun e w' => ∃ v, e = .returned v ∧ OwnS FT 21 fl w' w.heap.size v (x.response r).2 ∧ Nx w c base va vc (x.response r).1 w' := rresponse h hx r hr
/-- An append whose run is known. -/
theorem wpList_append_known {P : Program} (w : World) {ops : Array Oper} {rest : List Oper} {o : Oper} {a : Act} {Q : Exit → Act → World → Prop} (hgd : o.guard = none) (d s : Operand) (t t' : TypeId)
 (ho : o.op = .call { callee := .builtin .append, args := #[d, s], argTypes := #[t, t'] }) {v u : Value} (hd : a.eval d = v) (hs : a.eval s = u) {v' : Value} {w' : World}
 (hr : (Builtin.append_ #[t, t'] o.type #[v, u]).run P w = .ok v' w') (h : wpList P ops Q rest (a.put o.dst v') w') : wpList P ops Q (o :: rest) a w :=
 wpList_plain hgd fun _ hQ => by
  unfold Oper.wp execOp
  simp only [ho, resolve, invoke, builtin, Sem.run_bind, Sem.run_pure, Result.andThen_ok, List.map_toArray, List.map_cons, List.map_nil, hd, hs, hr]
  exact hQ _ _ h
set_option maxHeartbeats 16000000 in
theorem rhear (h : D w c base va vc x) (hx : x.Ok) (s : ByteArray) (hs : s.size ≤ 5000) : Calls Tryz.prog 32 #[ptr c, .string s] w fun e w' => ∃ v, e = .returned v ∧ Qz 21 fl w' w.heap.size v (x.hear s).2 ∧ Nx w c base va vc (x.hear s).1 w' := by
 have CA := Lib.hid (rall s hs w)
 have hall := all_ok s
 have hal := all_len s
 obtain ⟨L, hL⟩ : ∃ L, (all s).1 = L := ⟨_, rfl⟩
 have HH : Hid (x.hear s = x.hears L) := Lib.hid (by unfold Ct.hear; rw [hL])
 rw [hL] at hall hal
 have HAL := Lib.hid hall
 have HLS := Lib.hid hL
 have HD := Lib.hid h
 have HX := Lib.hid hx
 rw [HH.out]
 clear hall hL h hx
 go_enter Tryz.func32, Tryz.ntmps32
 go_wp2_with fail
 refine CA.out.mono ?_
 rintro _ w1 ⟨vl, rfl, ho, hb⟩
 rw [HLS.out] at ho
 obtain ⟨oa, cap, rfl, ga⟩ := own_form ho
 obtain ⟨n, hn⟩ : ∃ n, L.length = n := ⟨_, rfl⟩
 rw [hn] at ho hal ga
 have HN := Lib.hid hn
 have GA := Lib.hid ga
 have HK0 : Hid (Hk w c base va vc (x.hears (L.take 0)).1 (.slice oa n cap) L (.slice none 0 0) (x.hears (L.take 0)).2 va vc w1) := Lib.hid ⟨HD.out.below hb, fun k hk => .inl hk, fun k hk hs => by
  have h1 := (HD.out.own_lt k hs).2
  have h2 := (ho.lt k hk).1
  omega, fun k hk => (by cases hk), Chg.of_below hb, ho, qz_nil _ _, fun k hk e => (by cases e)⟩
 rw [hn]
 clear ho hb CA hn ga
 go_wp2_with fail
 go_loopg [5, 8] n (fun gm s5 s8 wr => ∃ k : Nat, s8 = nm k ∧ n - k ≤ gm ∧ k ≤ n ∧ Hid (∃ va' vc', Hk w c base va vc (x.hears (L.take k)).1 (.slice oa n cap) L s5 (x.hears (L.take k)).2 va' vc' wr) ∧ Hid (x.hears (L.take k)).1.Ok)
 case atStart => exact ⟨0, rfl, by omega, by omega, Lib.hid ⟨_, _, HK0.out⟩, Lib.hid HX.out⟩
 case round =>
  clear HK0
  obtain ⟨k, rfl, hgm, hkn, HKE, HOK⟩ := hrel
  obtain ⟨va1, vc1, hk⟩ := HKE.out
  clear HKE
  by_cases hlt : k < n
  · have t1 : decide ((k : Int) < (n : Int)) = true := decide_eq_true (by omega)
    have t2 : (k : Int) < (n : Int) := by omega
    have j0 : (0 : Int) ≤ (k : Int) := by omega
    have vk := wrap_nat (k + 1) (by omega)
    obtain ⟨g, rfl⟩ := GA.out k hlt
    obtain ⟨y, hy⟩ : ∃ y, L[k]? = some y := ⟨_, List.getElem?_eq_getElem (by rw [HN.out]; exact hlt)⟩
    have HYO := Lib.hid (HAL.out y (List.mem_of_getElem? hy))
    have HNX := Lib.hid (hears_next (x := x) hy)
    have hfl := hears_len (L.take k) x
    rw [List.length_take] at hfl
    generalize (x.hears (L.take k)).2 = F0 at hk HNX hfl
    generalize (x.hears (L.take k)).1 = x' at hk HNX HOK
    have c1 : wr.cell? ⟨g, k * 20 + 1, none⟩ = some (.bool y.c) := by
     have := hk.l.cell ml_len k y hy 1 (by decide)
     rw [Nat.mul_comm] at this
     exact this
    cases hc : y.c with
    | true =>
     rw [hc] at c1
     have CQ := Lib.hid (rcommand hk.d HOK.out y HYO.out)
     have HE1 : Hid (x'.hear1 y = x'.command y) := Lib.hid (by unfold Ct.hear1; rw [hc]; rfl)
     have HOK2 : Hid (x'.hear1 y).1.Ok := Lib.hid (HOK.out.hear1 HYO.out)
     rw [HE1.out] at HOK2
     have HN2 : Hid (x.hears (L.take (k + 1)) = ((x'.command y).1, F0 ++ (x'.command y).2)) := Lib.hid (by rw [HNX.out, HE1.out])
     have HL1 : Hid (F0.length + (x'.command y).2.length ≤ 1000000) := Lib.hid (by
      have h1 := hear1_len x' y
      rw [HE1.out] at h1
      omega)
     generalize x'.command y = r2 at CQ HOK2 HN2 HL1
     have HK := Lib.hid hk
     have HR := Lib.hid (own_rangez ml_len hk.l k y hy)
     clear hy hc HE1 HNX hk hfl
     go_wp2_with (first
      | ((with_reducible refine ldr (m := y) isR HR.out ?hx ?_); (case hx => rfl))
      | (go_at_call 58; ((with_reducible refine CQ.out.mono ?_); rintro e w3 ⟨v2, rfl, ho, hn⟩; obtain ⟨va2, vc2, hk2⟩ := HK.out.step hn; have HK2 := Lib.hid hk2; have HF2 := Lib.hid ho; clear ho hn hk2))
      | (at_builtin; obtain ⟨v', w8, hr8, hq8, hg8, ho8⟩ := app_facts w3 _ w.heap.size _ _ _ _ _ HK2.out.f HF2.out HL1.out HK2.out.chg.size; refine wpList_append_known _ rfl _ _ _ _ rfl rfl rfl hr8 ?_; have HK3 := Lib.hid (HK2.out.more hq8 hg8 ho8); clear hr8 hq8 hg8 ho8))
     have HK4 := HK3.out
     have HO4 := HOK2.out
     have e1 : (x.hears (L.take (k + 1))).1 = r2.1 := by rw [HN2.out]
     have e2 : (x.hears (L.take (k + 1))).2 = F0 ++ r2.2 := by rw [HN2.out]
     rw [← e1] at HO4
     rw [← e1, ← e2] at HK4
     go_roundg (n - (k + 1))
     case measure => omega
     case rel => exact ⟨k + 1, by first | rfl | go_num, Nat.le_refl _, by omega, Lib.hid ⟨_, _, HK4⟩, Lib.hid HO4⟩
    | false =>
     rw [hc] at c1
     have CQ := Lib.hid (rresponse2 hk.d HOK.out y HYO.out.in_)
     have HE1 : Hid (x'.hear1 y = x'.response y) := Lib.hid (by unfold Ct.hear1; rw [hc]; rfl)
     have HOK2 : Hid (x'.hear1 y).1.Ok := Lib.hid (HOK.out.hear1 HYO.out)
     rw [HE1.out] at HOK2
     have HN2 : Hid (x.hears (L.take (k + 1)) = ((x'.response y).1, F0 ++ (x'.response y).2)) := Lib.hid (by rw [HNX.out, HE1.out])
     have HL1 : Hid (F0.length + (x'.response y).2.length ≤ 1000000) := Lib.hid (by
      have h1 := hear1_len x' y
      rw [HE1.out] at h1
      omega)
     generalize x'.response y = r2 at CQ HOK2 HN2 HL1
     have HK := Lib.hid hk
     have HR := Lib.hid (own_rangez ml_len hk.l k y hy)
     clear hy hc HE1 HNX hk hfl
     go_wp2_with (first
      | ((with_reducible refine ldr (m := y) isR HR.out ?hx ?_); (case hx => rfl))
      | (go_at_call 59; ((with_reducible refine CQ.out.mono ?_); rintro e w3 ⟨v2, rfl, ho, hn⟩; obtain ⟨va2, vc2, hk2⟩ := HK.out.step hn; have HK2 := Lib.hid hk2; have HF2 := Lib.hid ho; clear ho hn hk2))
      | (at_builtin; obtain ⟨v', w8, hr8, hq8, hg8, ho8⟩ := app_facts w3 _ w.heap.size _ _ _ _ _ HK2.out.f HF2.out HL1.out HK2.out.chg.size; refine wpList_append_known _ rfl _ _ _ _ rfl rfl rfl hr8 ?_; have HK3 := Lib.hid (HK2.out.more hq8 hg8 ho8); clear hr8 hq8 hg8 ho8))
     have HK4 := HK3.out
     have HO4 := HOK2.out
     have e1 : (x.hears (L.take (k + 1))).1 = r2.1 := by rw [HN2.out]
     have e2 : (x.hears (L.take (k + 1))).2 = F0 ++ r2.2 := by rw [HN2.out]
     rw [← e1] at HO4
     rw [← e1, ← e2] at HK4
     go_roundg (n - (k + 1))
     case measure => omega
     case rel => exact ⟨k + 1, by first | rfl | go_num, Nat.le_refl _, by omega, Lib.hid ⟨_, _, HK4⟩, Lib.hid HO4⟩
  · obtain rfl : k = n := by omega
    have t1 : decide ((k : Int) < (k : Int)) = false := decide_eq_false (by omega)
    have t2 : ¬ (k : Int) < (k : Int) := by omega
    have HT : Hid (L.take k = L) := Lib.hid (List.take_of_length_le (by rw [HN.out]; exact Nat.le_refl _))
    rw [HT.out] at hk
    have HK := Lib.hid hk
    clear hk
    go_wp2
    go_ret
    exact ⟨_, rfl, HK.out.f, ⟨⟨_, _, HK.out.d, HK.out.sub⟩, HK.out.chg⟩⟩
end
end Go.Proofs.YtakkhdammmcjcaaGreatDoor.Ctl

/-
  What All of layer 10, and the document's own, answer: all messages that octets begin with, in new memory. Condition: at most 5000 octets.
-/
import Derived.Test.YtffahjlboakakaaDoorMsgsRgot
namespace Go.Proofs.YtffahjlboakakaaDoor.Msgs
open Go.RowKit Go.Proofs.YtffahjlboakakaaDoor.Base Go.Proofs.YtffahjlboakakaaDoor.Mem
set_option maxRecDepth 20000
/-- What a round of All's loop begins with. -/
structure AllAt (E : Nat) (s : ByteArray) (w : World) (v : Value) (at_ : Nat) (wr : World) (acc : List Ms) : Prop where
  left : Left s at_ acc
  own : OwnS E 20 ml wr w.heap.size v acc
  base : Below w.heap.size w wr
  few : acc.length ≤ at_
/-- What a call of All leaves. -/
def AllEnds (E : Nat) (s : ByteArray) (w : World) (e : Ending) (w' : World) : Prop :=
  ∃ v, e = .returned (.tuple #[v, .int .i64 ((all s).2 : Int)]) ∧ OwnS E 20 ml w' w.heap.size v (all s).1 ∧ Below w.heap.size w w'
theorem own_ne {E : Nat} {w w' : World} {base b : Nat} {v : Value} {l : List Ms} (h : OwnS E 20 ml w base v l) (F : Fresh b w w') : ∀ k, v.ownBlock = some k → k ≠ b := fun k hk => by
  have := (h.lt k hk).2
  have := F.eq
  omega
theorem own_mod {E : Nat} {w w' : World} {base b : Nat} {v : Value} {l : List Ms} (h : OwnS E 20 ml w base v l) (M : Mod b w w') (hn : ∀ k, v.ownBlock = some k → k ≠ b) : OwnS E 20 ml w' base v l := by
  refine h.grown (r := some b) ⟨M.os, M.tape, M.output, Nat.le_of_eq M.size.symm, fun k _ hk => M.rest k (fun e => hk (by rw [e]))⟩ ?_
  cases hv : v.ownBlock with
  | none => exact .inl rfl
  | some k => exact .inr (fun e => hn k hv (Option.some.inj e))
set_option maxHeartbeats 800000 in
theorem fall (s : ByteArray) (hs : s.size ≤ 5000) (w : World) (ht : Tab w) :
    Calls Tryd.prog 18 #[.string s] w (AllEnds 27 s w) := by
  have HT := Lib.hid ht
  clear ht
  go_enter Tryd.func18, Tryd.ntmps18
  go_wp2
  go_loopw [4, 5] (fun v i wr => ∃ (k : Nat) (acc : List Ms), k ≤ s.size ∧ i = .int .i64 (k : Int) ∧ Hid (AllAt 27 s w v k wr acc)) (fun _ i _ => s.size + 1 - (intOf i).toNat)
  case atStart => exact ⟨0, [], Nat.zero_le _, rfl, Lib.hid ⟨left_start s, ownS_nil _ _, Below.refl _ _, Nat.le_refl _⟩⟩
  case round =>
    obtain ⟨k, acc, hk, rfl, HR⟩ := hrel
    obtain ⟨t, ht'⟩ : ∃ t, s.extract k s.size = t := ⟨_, rfl⟩
    have hts : t.size ≤ 281474976710656 := by rw [← ht', ext_size]; omega
    · skip
      have CG := Lib.hid (fun w (h : Tab w) => fget t hts w h)
      have HL := Lib.hid (left_step HR.out.left (by omega))
      have HN := Lib.hid (left_bad HR.out.left (by omega))
      rw [ht'] at HL HN
      rcases hg : got t with ⟨gm, gn, ge⟩
      rw [hg] at CG HL HN
      dsimp only at CG HL HN
      clear hg
      by_cases he : ge = 0
      · skip
        subst he
        obtain ⟨hL, h2, h3, _⟩ := HL.out rfl
        have HL2 := Lib.hid hL
        clear hL
        go_wp2_with (first
          | (go_at_call 15; ((with_reducible refine (CG.out _ (tab_below HT.out HR.out.base)).mono ?_); rintro e w1 ⟨rfl, hb⟩; have HO := Lib.hid (HR.out.own.below hb); have HW := Lib.hid (below_on HR.out.base hb); clear hb))
          | ((with_reducible refine alm zeroM ?_); intro b2 w2 h2 F2; have N2 := Lib.hid (own_ne HO.out F2); replace HO := Lib.hid (HO.out.below F2.below); have L2 := Lib.hid (F2.le HW.out); replace HW := Lib.hid (F2.on HW.out); have HM := Lib.hid h2; clear h2 F2)
          | ((with_reducible refine stm (m := gm) isM HM.out ?hx ?hy ?_); (case hx => rfl); (case hy => rfl); intro w3 h3 M3; replace HO := Lib.hid (own_mod HO.out M3 N2.out); replace HW := Lib.hid (M3.below HW.out L2.out); replace HM := Lib.hid h3; clear h3 M3)
          | ((with_reducible refine ldm isM HM.out ?hx ?_); (case hx => rfl))
          | ((with_reducible refine bsl (mc gm) Tryd.underlying49 infoM ?hl ?hf ?_); (case hl => exact ⟨by decide, by decide⟩); (case hf => kernel_rfl); intro b4 w4 h4 F4; replace HO := Lib.hid (HO.out.below F4.below); replace HW := Lib.hid (F4.on HW.out); replace HM := Lib.hid h4; clear h4 F4)
          | (at_builtin; refine wpList_append_elt eltM _ rfl _ _ rfl w.heap.size _ rfl acc HO.out b4 _ rfl gm (row_of HM.out) (by have := HR.out.few; omega) HW.out.size ?_; intro v' w5 ho hg _; have HO2 := Lib.hid ho; have HW2 := Lib.hid (HW.out.grown hg HW.out.size (fun k hk => (HO.out.lt k hk).1)); clear ho hg))
        go_roundw
        case rel => exact ⟨k + gn, _, h3, by go_num, Lib.hid ⟨HL2.out, HO2.out, HW2.out, by have := HR.out.few; simp; omega⟩⟩
        case measure => simp [intOf]; omega
      · skip
        have hne : ((ge : Int) != 0) = true := bne_true (by omega)
        have HN2 := Lib.hid (HN.out he)
        clear he
        go_wp2_with (first
          | (go_at_call 15; ((with_reducible refine (CG.out _ (tab_below HT.out HR.out.base)).mono ?_); rintro e w1 ⟨rfl, hb⟩; have HO := Lib.hid (HR.out.own.below hb); have HW := Lib.hid (below_on HR.out.base hb); clear hb))
          | ((with_reducible refine alm zeroM ?_); intro b2 w2 h2 F2; have N2 := Lib.hid (own_ne HO.out F2); replace HO := Lib.hid (HO.out.below F2.below); have L2 := Lib.hid (F2.le HW.out); replace HW := Lib.hid (F2.on HW.out); have HM := Lib.hid h2; clear h2 F2)
          | ((with_reducible refine stm (m := gm) isM HM.out ?hx ?hy ?_); (case hx => rfl); (case hy => rfl); intro w3 h3 M3; replace HO := Lib.hid (own_mod HO.out M3 N2.out); replace HW := Lib.hid (M3.below HW.out L2.out); replace HM := Lib.hid h3; clear h3 M3))
        go_ret2
        exact ⟨_, by rw [HN2.out]; rfl, by rw [HN2.out]; exact HO.out, HW.out⟩
set_option maxHeartbeats 800000 in
theorem rall (s : ByteArray) (hs : s.size ≤ 5000) (w : World) :
    Calls Tryd.prog 17 #[.string s] w (AllEnds 36 s w) := by
  go_enter Tryd.func17, Tryd.ntmps17
  go_wp2
  go_loopw [4, 5] (fun v i wr => ∃ (k : Nat) (acc : List Ms), k ≤ s.size ∧ i = .int .i64 (k : Int) ∧ Hid (AllAt 36 s w v k wr acc)) (fun _ i _ => s.size + 1 - (intOf i).toNat)
  case atStart => exact ⟨0, [], Nat.zero_le _, rfl, Lib.hid ⟨left_start s, ownS_nil _ _, Below.refl _ _, Nat.le_refl _⟩⟩
  case round =>
    obtain ⟨k, acc, hk, rfl, HR⟩ := hrel
    obtain ⟨t, ht'⟩ : ∃ t, s.extract k s.size = t := ⟨_, rfl⟩
    have hts : t.size ≤ 281474976710656 := by rw [← ht', ext_size]; omega
    by_cases hlt : k < s.size
    · skip
      have CG := Lib.hid (fun w => rget t hts w)
      have HL := Lib.hid (left_step HR.out.left (by omega))
      have HN := Lib.hid (left_bad HR.out.left (by omega))
      rw [ht'] at HL HN
      rcases hg : got t with ⟨gm, gn, ge⟩
      rw [hg] at CG HL HN
      dsimp only at CG HL HN
      clear hg
      by_cases he : ge = 0
      · skip
        subst he
        obtain ⟨hL, h2, h3, _⟩ := HL.out rfl
        have HL2 := Lib.hid hL
        clear hL
        go_wp2_with (first
          | (go_at_call 16; ((with_reducible refine (CG.out _).mono ?_); rintro e w1 ⟨rfl, hb⟩; have HO := Lib.hid (HR.out.own.below hb); have HW := Lib.hid (below_on HR.out.base hb); clear hb))
          | ((with_reducible refine alm zeroR ?_); intro b2 w2 h2 F2; have N2 := Lib.hid (own_ne HO.out F2); replace HO := Lib.hid (HO.out.below F2.below); have L2 := Lib.hid (F2.le HW.out); replace HW := Lib.hid (F2.on HW.out); have HM := Lib.hid h2; clear h2 F2)
          | ((with_reducible refine stm (m := gm) isR HM.out ?hx ?hy ?_); (case hx => rfl); (case hy => rfl); intro w3 h3 M3; replace HO := Lib.hid (own_mod HO.out M3 N2.out); replace HW := Lib.hid (M3.below HW.out L2.out); replace HM := Lib.hid h3; clear h3 M3)
          | ((with_reducible refine ldm isR HM.out ?hx ?_); (case hx => rfl))
          | ((with_reducible refine bsl (mc gm) Tryd.underlying46 infoR ?hl ?hf ?_); (case hl => exact ⟨by decide, by decide⟩); (case hf => kernel_rfl); intro b4 w4 h4 F4; replace HO := Lib.hid (HO.out.below F4.below); replace HW := Lib.hid (F4.on HW.out); replace HM := Lib.hid h4; clear h4 F4)
          | (at_builtin; refine wpList_append_elt eltR _ rfl _ _ rfl w.heap.size _ rfl acc HO.out b4 _ rfl gm (row_of HM.out) (by have := HR.out.few; omega) HW.out.size ?_; intro v' w5 ho hg _; have HO2 := Lib.hid ho; have HW2 := Lib.hid (HW.out.grown hg HW.out.size (fun k hk => (HO.out.lt k hk).1)); clear ho hg))
        go_roundw
        case rel => exact ⟨k + gn, _, h3, by go_num, Lib.hid ⟨HL2.out, HO2.out, HW2.out, by have := HR.out.few; simp; omega⟩⟩
        case measure => simp [intOf]; omega
      · skip
        have hne : ((ge : Int) != 0) = true := bne_true (by omega)
        have HN2 := Lib.hid (HN.out he)
        clear he
        go_wp2_with (first
          | (go_at_call 16; ((with_reducible refine (CG.out _).mono ?_); rintro e w1 ⟨rfl, hb⟩; have HO := Lib.hid (HR.out.own.below hb); have HW := Lib.hid (below_on HR.out.base hb); clear hb))
          | ((with_reducible refine alm zeroR ?_); intro b2 w2 h2 F2; have N2 := Lib.hid (own_ne HO.out F2); replace HO := Lib.hid (HO.out.below F2.below); have L2 := Lib.hid (F2.le HW.out); replace HW := Lib.hid (F2.on HW.out); have HM := Lib.hid h2; clear h2 F2)
          | ((with_reducible refine stm (m := gm) isR HM.out ?hx ?hy ?_); (case hx => rfl); (case hy => rfl); intro w3 h3 M3; replace HO := Lib.hid (own_mod HO.out M3 N2.out); replace HW := Lib.hid (M3.below HW.out L2.out); replace HM := Lib.hid h3; clear h3 M3))
        go_ret2
        exact ⟨_, by rw [HN2.out]; rfl, by rw [HN2.out]; exact HO.out, HW.out⟩
    · have HD := Lib.hid (left_done HR.out.left (by omega))
      clear ht'
      go_wp2
      go_ret2
      exact ⟨_, by rw [HD.out]; rfl, by rw [HD.out]; exact HR.out.own, HR.out.base⟩
end Go.Proofs.YtffahjlboakakaaDoor.Msgs

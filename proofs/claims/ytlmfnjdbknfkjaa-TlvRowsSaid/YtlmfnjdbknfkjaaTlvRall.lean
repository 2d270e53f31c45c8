/-
  What the document's own All of layer 7 answers. Condition: at most 5000 octets.
-/
import Derived.Test.YtlmfnjdbknfkjaaTlvRef
import Derived.Test.YtlmfnjdbknfkjaaTlvAll
namespace Go.Proofs.Ytlmfnjdbknfkjaa.Tlv
open Go.RowKit Go.Proofs.Ytlmfnjdbknfkjaa.Base Go.Proofs.Ytlmfnjdbknfkjaa.Ea Go.Proofs.Ytlmfnjdbknfkjaa.Mem
theorem eltR : Elt 46 49 3 ic where
  under := Try.underlying49
  info := ⟨.agg #[.int .u8 0, .bool false, .string ⟨#[]⟩], 24, by kernel_rfl, rfl, by decide⟩
  len := fun _ => rfl
  one := fun x u hu => by
    simp only [ic, List.mem_cons, List.not_mem_nil, or_false] at hu
    rcases hu with rfl | rfl | rfl <;> rfl
  pos := by decide
set_option maxHeartbeats 400000 in
theorem rall (s : ByteArray) (hs : s.size ≤ 5000) (w : World) :
    Calls Try.prog 22 #[.string s] w (AllEnds 46 s w) := by
  go_enter Try.func22, Try.ntmps22
  go_wp2
  go_loopw [5, 6] (fun v i wr => ∃ (k : Nat) (acc : List It), k ≤ s.size ∧ i = .int .i64 (k : Int) ∧ Hid (AllAt 46 s w v k wr acc)) (fun _ i _ => s.size - (intOf i).toNat)
  case atStart => exact ⟨0, [], Nat.zero_le _, rfl, Lib.hid ⟨left_start s, ownS_nil _ _, Below.refl _ _, Nat.le_refl _⟩⟩
  case round =>
    obtain ⟨k, acc, hk, rfl, HR⟩ := hrel
    by_cases hlt : k < s.size
    · obtain ⟨t, ht⟩ : ∃ t, s.extract k s.size = t := ⟨_, rfl⟩
      have hts : t.size ≤ 281474976710656 := by rw [← ht, ext_size]; omega
      have CG := Lib.hid (fun w => rget t hts w)
      have HL := Lib.hid (left_step HR.out.left hlt)
      have HN := Lib.hid (left_bad HR.out.left hlt)
      rw [ht] at HL HN
      rcases hg : got t with ⟨gk, gc, gv, gn, ge⟩
      rw [hg] at CG HL HN
      simp only [rgotV] at CG HL HN
      clear hg
      by_cases he : ge = 0
      · subst he
        obtain ⟨hL, h2, h3⟩ := HL.out rfl
        have HL2 := Lib.hid hL
        clear hL
        go_wp2_with (first
          | (go_at_call 21; ((with_reducible refine (CG.out _).mono ?_); rintro e w1 ⟨rfl, hb⟩; have HO := Lib.hid (HR.out.own.below hb); have HW := Lib.hid (below_on HR.out.base hb); clear hb))
          | (at_builtin; refine wpList_append_elt eltR _ rfl _ _ rfl w.heap.size _ rfl acc ((HO.out.alloc _).alloc _) _ _ rfl ⟨gk, gc, gv⟩ (row3n (w1.alloc _) ⟨gk, gc, gv⟩ 46 _ (by simp)) (by have := HR.out.few; omega) (by have := HW.out.size; simp; omega) ?_; intro v' w2 ho hg _; have HO2 := Lib.hid ho; have HW2 := Lib.hid (((HW.out.alloc HW.out.size (.cells #[.int .u8 (gk : Int), .bool gc, .string gv] 46)).alloc (by have := HW.out.size; simp; omega) (.cells #[.int .u8 (gk : Int), .bool gc, .string gv] 46)).grown hg (by have := HW.out.size; simp; omega) (fun k hk => (HO.out.lt k hk).1)); clear ho hg))
        go_roundw
        case rel => exact ⟨k + gn, _, h3, by go_num, Lib.hid ⟨HL2.out, HO2.out, HW2.out, by have := HR.out.few; simp; omega⟩⟩
        case measure => simp [intOf]; omega
      · have hne : ((ge : Int) != 0) = true := bne_true (by omega)
        have HN2 := Lib.hid (HN.out he)
        clear he
        go_wp2_with (go_at_call 21; ((with_reducible refine (CG.out _).mono ?_); rintro e w1 ⟨rfl, hb⟩; have HW := Lib.hid (below_on HR.out.base hb); clear hb))
        go_ret3
        exact ⟨_, by rw [HN2.out]; rfl, by rw [HN2.out]; exact ownS_nil _ _, HW.out.alloc HW.out.size _⟩
    · have HD := Lib.hid (left_done HR.out.left hlt)
      go_wp2
      go_ret3
      exact ⟨_, by rw [HD.out]; rfl, by rw [HD.out]; exact HR.out.own, HR.out.base⟩
end Go.Proofs.Ytlmfnjdbknfkjaa.Tlv

/-
  What Decode tells a deframer, of either option: that there is an answer, that a frame is told where it stands encoded, and that a frame that is encoded is told. Conditions: at most 300 octets.
-/
import Derived.Test.YthlciaomfpephaaDoorDfFeed
import Derived.Test.YthlciaomfpephaaDoorDfEnc
import Derived.Test.YthlciaomfpephaaDoorBasicDecode
import Derived.Test.YthlciaomfpephaaDoorAdvDecode
namespace Go.Proofs.YthlciaomfpephaaDoor.Df
open Go.RowKit Go.Proofs.YthlciaomfpephaaDoor.Base Go.Proofs.YthlciaomfpephaaDoor.Ea Go.Proofs.YthlciaomfpephaaDoor.Field Go.Proofs.YthlciaomfpephaaDoor.Basic Go.Proofs.YthlciaomfpephaaDoor.Adv
theorem room_room (n : Int) : room ((room n : Nat) : Int) = room n := by
  have := room_le n
  generalize room n = k at *
  unfold room
  split <;> (try split) <;> omega
/-- What is wrong with a frame hangs on the room alone. -/
theorem encX_room (adv : Bool) (f : Fr) (ini : Bool) (n1 : Int) : encX adv f ini ((room n1 : Nat) : Int) = encX adv f ini n1 := by
  unfold encX Fr.ae Fr.e
  rw [room_room]
/-- What stands between a frame's flags. -/
def innX (adv : Bool) (f : Fr) (ini : Bool) : List UInt8 := if adv then st (Fr.inner f ini).data.toList else (f.body ini).data.toList
theorem bytesX_list (c : Cf) (f : Fr) : (bytesX c.adv f c.ini).data.toList = flagB c :: (innX c.adv f c.ini ++ [flagB c]) := by
  unfold bytesX innX flagB
  cases c.adv
  · show (Fr.bytes f c.ini).data.toList = 249 :: ((f.body c.ini).data.toList ++ [249])
    unfold Fr.bytes
    rw [app_list, app_list]
    show [UInt8.ofNat 249] ++ _ ++ [UInt8.ofNat 249] = _
    simp
  · exact adv_list f c.ini
/-- An answer that is a frame: it stands encoded there. -/
def Told (c : Cf) (l : List UInt8) (a : Fr × Nat) : Prop := a.2 = 0 → a.1.In ∧ encX c.adv a.1 c.ini c.room = 0 ∧ innX c.adv a.1 c.ini = l
theorem ans_told {s : ByteArray} {ini : Bool} {n1 : Int} {g : Fr} {r : Nat} (h : Ans s ini n1 g r) (hr : r = 0) : g.In ∧ Fr.ae g n1 = 0 ∧ st (Fr.inner g ini).data.toList = s.data.toList := by
  rcases h with ⟨_, rfl, rfl⟩ | ⟨_, _, _, rfl, rfl⟩ | ⟨t, a, c, x, i, hu, h, ⟨he, rfl, rfl⟩ | ⟨he, rfl, rfl⟩⟩
  · exact absurd hr (by decide)
  · exact absurd hr (by decide)
  · obtain ⟨h1, h2⟩ := idec_enc h he
    exact ⟨fr_in h.ha h.hc i ini, h1, by rw [h2, st_un hu]⟩
  · exact absurd hr he
theorem decX_ex (c : Cf) (l : List UInt8) (hl : l.length ≤ 300) : ∃ a, DecX c l a ∧ Told c l a := by
  have hz : (⟨l.toArray⟩ : ByteArray).size = l.length := by rw [← size_toList]
  unfold DecX Told encX innX
  cases ha : c.adv
  · by_cases h : ∃ a k x i, IsB (⟨l.toArray⟩ : ByteArray) a k x i
    · obtain ⟨a, k, x, i, h⟩ := h
      by_cases he : dE a k x i c.ini c.room = 0
      · obtain ⟨h1, h2⟩ := dec_enc h he
        refine ⟨(fr a k i c.ini, 0), fun w ht => Basic.fdec_ok h (by rw [hz]; unfold maxLen; omega) c.ini c.room w ht he _ rfl, fun _ => ⟨fr_in h.ha h.hc i c.ini, h1, ?_⟩⟩
        show (Fr.body (fr a k i c.ini) c.ini).data.toList = l
        rw [h2]
      · exact ⟨(fr0, dE a k x i c.ini c.room), fun w ht => Basic.fdec_bad h (by rw [hz]; unfold maxLen; omega) c.ini c.room w ht he, fun k => absurd k he⟩
    · exact ⟨(fr0, 40), fun w _ => Basic.fdec_no _ (by rw [hz]; unfold maxLen; omega) (fun a k x i hi => h ⟨a, k, x, i, hi⟩) c.ini c.room w, fun k => absurd k (by decide)⟩
  · obtain ⟨g, r, h⟩ := Adv.ans (⟨l.toArray⟩ : ByteArray) c.ini c.room
    exact ⟨(g, r), fun w ht => Adv.fdec h (by rw [hz]; omega) w ht, fun k => by
      obtain ⟨h1, h2, h3⟩ := ans_told h k
      exact ⟨h1, h2, h3⟩⟩
/-- A frame that is encoded is told. -/
theorem decX_enc (c : Cf) (f : Fr) (h : encX c.adv f c.ini c.room = 0) (hl : (innX c.adv f c.ini).length ≤ 300) : DecX c (innX c.adv f c.ini) (f, 0) := by
  unfold DecX encX innX at *
  cases ha : c.adv
  · rw [ha] at h hl
    obtain ⟨h1, h2, h3⟩ := enc_dec (show f.e c.ini c.room = 0 from h)
    have e : (⟨(f.body c.ini).data.toList.toArray⟩ : ByteArray) = f.body c.ini := bext (by simp)
    intro w ht
    show Calls Tryd.prog 64 #[.string ⟨(f.body c.ini).data.toList.toArray⟩, .bool c.ini, .int .i64 c.room] w _
    rw [e]
    have hb : (f.body c.ini).size ≤ 300 := by rw [← size_toList]; exact hl
    exact Basic.fdec_ok h1 (by unfold maxLen; omega) c.ini c.room w ht h2 f h3
  · rw [ha] at h hl
    obtain ⟨h1, h2, h3⟩ := ienc_dec (show Fr.ae f c.room = 0 from h) c.ini
    have e : (⟨(st (Fr.inner f c.ini).data.toList).toArray⟩ : ByteArray) = stB (Fr.inner f c.ini) := rfl
    have hA : Ans (stB (Fr.inner f c.ini)) c.ini c.room f 0 := Or.inr (Or.inr ⟨Fr.inner f c.ini, _, _, _, _, by rw [stB_list, un_st], h1, Or.inl ⟨h2, h3.symm, rfl⟩⟩)
    have hb : (stB (Fr.inner f c.ini)).size ≤ 300 := by rw [← size_toList, stB_list]; exact hl
    intro w ht
    exact Adv.fdec hA (by omega) w ht
/-- What answers Decode gives, and that a frame that is told stands encoded there. -/
def Decs (c : Cf) (dec : List UInt8 → Fr × Nat) : Prop := ∀ l, l.length ≤ 300 → DecX c l (dec l) ∧ Told c l (dec l)
theorem decs_ex (c : Cf) : ∃ dec, Decs c dec := by
  have h : ∀ l : List UInt8, ∃ a : Fr × Nat, l.length ≤ 300 → DecX c l a ∧ Told c l a := fun l => by
    by_cases hl : l.length ≤ 300
    · obtain ⟨a, h⟩ := decX_ex c l hl
      exact ⟨a, fun _ => h⟩
    · exact ⟨(fr0, 1), fun k => absurd k hl⟩
  exact ⟨fun l => Classical.choose (h l), fun l hl => Classical.choose_spec (h l) hl⟩
/-- Answers of which one is named. -/
theorem decs_of (c : Cf) (f : Fr) (hf : f.In) (h : encX c.adv f c.ini c.room = 0) (hl : (innX c.adv f c.ini).length ≤ 300) : ∃ dec, Decs c dec ∧ dec (innX c.adv f c.ini) = (f, 0) := by
  obtain ⟨d, hd⟩ := decs_ex c
  refine ⟨fun l => if l = innX c.adv f c.ini then (f, 0) else d l, fun l hl' => ?_, if_pos rfl⟩
  by_cases e : l = innX c.adv f c.ini
  · subst e
    simp only [if_true]
    exact ⟨decX_enc c f h hl, fun _ => ⟨hf, h, rfl⟩⟩
  · simp only [if_neg e]
    exact hd l hl'
end Go.Proofs.YthlciaomfpephaaDoor.Df

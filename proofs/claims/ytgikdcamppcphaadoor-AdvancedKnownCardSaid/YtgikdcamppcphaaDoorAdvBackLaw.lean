/-
  AdvancedBack answers true for every frame and all bytes, and turns nothing that was there. Condition: the tables of layers 1 and 3 lie where the program lays them.
-/
import Derived.Test.YtgikdcamppcphaaDoorAdvWorks
namespace Go.Proofs.YtgikdcamppcphaaDoor.Adv
open Go.RowKit Go.Proofs.YtgikdcamppcphaaDoor.Base Go.Proofs.YtgikdcamppcphaaDoor.Ea Go.Proofs.YtgikdcamppcphaaDoor.Field Go.Proofs.YtgikdcamppcphaaDoor.Basic
theorem fr_dlc {g : Fr} {n1 : Int} (h : Fr.ae g n1 = 0) : g.info.size ≤ 128 := by have := (ae_ok h).2.2.2; have := room_le n1; omega
/-- What is encoded is read as it was. -/
theorem enc_ans {f : Fr} {n1 : Int} (h : Fr.ae f n1 = 0) (ini : Bool) : Ans (stB (Fr.inner f ini)) ini n1 f 0 := by
  obtain ⟨h1, h2, h3⟩ := ienc_dec h ini
  exact Or.inr (Or.inr ⟨Fr.inner f ini, _, _, _, _, by rw [stB_list, un_st], h1, Or.inl ⟨h2, h3.symm, rfl⟩⟩)
/-- What is read is encoded as it was. -/
theorem ans_enc {s : ByteArray} {ini : Bool} {n1 : Int} {g : Fr} {r : Nat} (h : Ans s ini n1 g r) : (r ≠ 0 ∧ g = fr0) ∨ (r = 0 ∧ g.In ∧ Fr.ae g n1 = 0 ∧ Fr.adv g ini = (⟨#[126]⟩ : ByteArray) ++ s ++ (⟨#[126]⟩ : ByteArray)) := by
  rcases h with ⟨_, rfl, rfl⟩ | ⟨_, _, _, rfl, rfl⟩ | ⟨t, a, c, x, i, hu, h, ⟨he, rfl, rfl⟩ | ⟨he, rfl, rfl⟩⟩
  · exact Or.inl ⟨by decide, rfl⟩
  · exact Or.inl ⟨by decide, rfl⟩
  · obtain ⟨h1, h2⟩ := idec_enc h he
    refine Or.inr ⟨rfl, fr_in h.ha h.hc i ini, h1, ?_⟩
    unfold Fr.adv
    rw [h2, show stB t = s from bext (by rw [stB_list, st_un hu])]; rfl
  · exact Or.inl ⟨he, rfl⟩
theorem adv_size (f : Fr) (ini : Bool) : (Fr.adv f ini).size = (stB (Fr.inner f ini)).size + 2 := by
  unfold Fr.adv
  rw [ByteArray.size_append, ByteArray.size_append]
  show 1 + _ + 1 = _
  omega
theorem adv_in (f : Fr) (ini : Bool) : (Fr.adv f ini).extract 1 ((Fr.adv f ini).size - 1) = stB (Fr.inner f ini) := by
  apply bext
  rw [ext_list, adv_list, adv_size, stB_list, show (stB (Fr.inner f ini)).size + 2 - 1 = (st (Fr.inner f ini).data.toList).length + 1 by rw [← stB_list, size_toList]; omega]
  simp
def DecNo (s : ByteArray) (ini : Bool) (n1 r : Int) : Prop := ∀ w, Tabs w → Calls Tryd.prog 12 #[.string s, .bool ini, .int .i64 n1] w fun e w' => e = .returned (.tuple #[noFr, .int .i64 r]) ∧ Below w.heap.size w w'
def DecOk (s : ByteArray) (ini : Bool) (n1 : Int) (g : Fr) : Prop := ∀ w, Tabs w → Calls Tryd.prog 12 #[.string s, .bool ini, .int .i64 n1] w fun e w' => e = .returned (.tuple #[fv g, .int .i64 0]) ∧ Below w.heap.size w w'
def EncNo (f : Fr) (ini : Bool) (n1 r : Int) : Prop := ∀ w, Tabs w → Calls Tryd.prog 10 #[fv f, .bool ini, .int .i64 n1] w fun e w' => e = .returned (.tuple #[.string ⟨#[]⟩, .int .i64 r]) ∧ Below w.heap.size w w'
def EncOk (f : Fr) (ini : Bool) (n1 : Int) (t : ByteArray) : Prop := ∀ w, Tabs w → Calls Tryd.prog 10 #[fv f, .bool ini, .int .i64 n1] w fun e w' => e = .returned (.tuple #[.string t, .int .i64 0]) ∧ Below w.heap.size w w'
theorem at_DecNo {s : ByteArray} {ini : Bool} {n1 r : Int} (h : DecNo s ini n1 r) (w : World) (ht : Tabs w) : Calls Tryd.prog 12 #[.string s, .bool ini, .int .i64 n1] w fun e w' => e = .returned (.tuple #[noFr, .int .i64 r]) ∧ Below w.heap.size w w' := h w ht
theorem at_DecOk {s : ByteArray} {ini : Bool} {n1 : Int} {g : Fr} (h : DecOk s ini n1 g) (w : World) (ht : Tabs w) : Calls Tryd.prog 12 #[.string s, .bool ini, .int .i64 n1] w fun e w' => e = .returned (.tuple #[fv g, .int .i64 0]) ∧ Below w.heap.size w w' := h w ht
theorem at_EncNo {f : Fr} {ini : Bool} {n1 r : Int} (h : EncNo f ini n1 r) (w : World) (ht : Tabs w) : Calls Tryd.prog 10 #[fv f, .bool ini, .int .i64 n1] w fun e w' => e = .returned (.tuple #[.string ⟨#[]⟩, .int .i64 r]) ∧ Below w.heap.size w w' := h w ht
theorem at_EncOk {f : Fr} {ini : Bool} {n1 : Int} {t : ByteArray} (h : EncOk f ini n1 t) (w : World) (ht : Tabs w) : Calls Tryd.prog 10 #[fv f, .bool ini, .int .i64 n1] w fun e w' => e = .returned (.tuple #[.string t, .int .i64 0]) ∧ Below w.heap.size w w' := h w ht
set_option maxHeartbeats 1000000 in
set_option maxRecDepth 100000 in
theorem back_long (f : Fr) (s : ByteArray) (ini : Bool) (n1 : Int) (w : World) (ht : Tabs w) (h : 300 < f.info.size ∨ 600 < s.size) :
    Calls Tryd.prog 6 #[fv f, .string s, .bool ini, .int .i64 n1] w fun e w' => e = .returned (.bool true) ∧ Below w.heap.size w w' := by
  have HT := Lib.hid ht
  clear ht
  by_cases h1 : 300 < f.info.size
  all_goals
    (first | (have d1 : decide ((f.info.size : Int) > 300) = true := by simp; omega) | skip)
    (first | (have d2 : ¬ 300 < (f.info.size : Int) := by omega) | skip)
    (first | (have d3 : 600 < (s.size : Int) := by omega) | skip)
    clear h
    go_enter Tryd.func6, Tryd.ntmps6
    go_wp2_with (go_at_call 9; ((with_reducible refine (works _ ?_).mono ?_); (· exact tabs1 HT.out (Below.refl _ _)); rintro e w1 ⟨rfl, hb⟩; have BA := Lib.hid (on1 (Below.refl w.heap.size w) hb); clear hb))
    go_ret
    exact ⟨rfl, BA.out⟩
set_option maxHeartbeats 1000000 in
set_option maxRecDepth 100000 in
theorem back_no_no (f : Fr) (s : ByteArray) (ini : Bool) (n1 : Int) (w : World) (ht : Tabs w) (h1 : f.info.size ≤ 300) (h2 : s.size ≤ 600) (r : Int) (hr : r ≠ 0) (e1 : EncNo f ini n1 r) (q : Int) (hq : q ≠ 0) (d2 : DecNo s ini n1 q) :
    Calls Tryd.prog 6 #[fv f, .string s, .bool ini, .int .i64 n1] w fun e w' => e = .returned (.bool true) ∧ Below w.heap.size w w' := by
  have HT := Lib.hid ht
  have E1 := Lib.hid e1
  have D2 := Lib.hid d2
  clear ht e1 d2
  have hg : Tryd.prog.eqGuardType Tryd.prog.depth 23 = false := by kernel_rfl
  have n0 : (r == 0) = false := by rw [beq_eq_false_iff_ne]; exact hr
  clear hr
  have m0 : (q == 0) = false := by rw [beq_eq_false_iff_ne]; exact hq
  have m1 : (q != 0) = true := by rw [bne_iff_ne]; exact hq
  have he := eql_none
  clear hq
  go_enter Tryd.func6, Tryd.ntmps6
  go_wp2_with (first
    | (go_at_call 10; ((with_reducible refine (at_EncNo E1.out _ ?_).mono ?_); (· exact tabs1 HT.out (Below.refl _ _)); rintro e wa ⟨rfl, hb⟩; have BA := Lib.hid (on1 (Below.refl w.heap.size w) hb); clear hb))
    | (go_at_call 12; ((with_reducible refine (at_DecNo D2.out _ ?_).mono ?_); (· exact tabs_below HT.out BA.out); rintro e wc ⟨rfl, hb⟩; have BC := Lib.hid (below_on' BA.out hb); clear hb))
    | (go_at_call 9; ((with_reducible refine (works _ ?_).mono ?_); (· exact tabs1 HT.out BC.out); rintro e we ⟨rfl, hb⟩; have BE := Lib.hid (on1 BC.out hb); clear hb)))
  go_ret
  exact ⟨rfl, BE.out⟩
set_option maxHeartbeats 1000000 in
set_option maxRecDepth 100000 in
theorem back_no_ok (f : Fr) (s : ByteArray) (ini : Bool) (n1 : Int) (w : World) (ht : Tabs w) (h1 : f.info.size ≤ 300) (h2 : s.size ≤ 600) (r : Int) (hr : r ≠ 0) (e1 : EncNo f ini n1 r) (g : Fr) (d2 : DecOk s ini n1 g) (e2 : EncOk g ini n1 (⟨#[126]⟩ ++ s ++ ⟨#[126]⟩)) :
    Calls Tryd.prog 6 #[fv f, .string s, .bool ini, .int .i64 n1] w fun e w' => e = .returned (.bool true) ∧ Below w.heap.size w w' := by
  have HT := Lib.hid ht
  have E1 := Lib.hid e1
  have D2 := Lib.hid d2
  have E2 := Lib.hid e2
  clear ht e1 d2 e2
  have hg : Tryd.prog.eqGuardType Tryd.prog.depth 23 = false := by kernel_rfl
  have n0 : (r == 0) = false := by rw [beq_eq_false_iff_ne]; exact hr
  clear hr
  go_enter Tryd.func6, Tryd.ntmps6
  go_wp2_with (first
    | (go_at_call 10; ((with_reducible refine (at_EncNo E1.out _ ?_).mono ?_); (· exact tabs1 HT.out (Below.refl _ _)); rintro e wa ⟨rfl, hb⟩; have BA := Lib.hid (on1 (Below.refl w.heap.size w) hb); clear hb))
    | (go_at_call 12; ((with_reducible refine (at_DecOk D2.out _ ?_).mono ?_); (· exact tabs_below HT.out BA.out); rintro e wc ⟨rfl, hb⟩; have BC := Lib.hid (below_on' BA.out hb); clear hb))
    | (go_at_call 10; ((with_reducible refine (at_EncOk E2.out _ ?_).mono ?_); (· exact tabs1 HT.out BC.out); rintro e wd ⟨rfl, hb⟩; have BD := Lib.hid (on1 BC.out hb); clear hb))
    | (go_at_call 9; ((with_reducible refine (works _ ?_).mono ?_); (· exact tabs_below HT.out BD.out); rintro e we ⟨rfl, hb⟩; have BE := Lib.hid (below_on' BD.out hb); clear hb)))
  go_ret
  exact ⟨rfl, BE.out⟩
set_option maxHeartbeats 1000000 in
set_option maxRecDepth 100000 in
theorem back_ok_no (f : Fr) (s : ByteArray) (ini : Bool) (n1 : Int) (w : World) (ht : Tabs w) (h1 : f.info.size ≤ 300) (h2 : s.size ≤ 600) (T : ByteArray) (e1 : EncOk f ini n1 T) (t6 : 5 ≤ T.size) (tl : T.size ≤ 1000) (d1 : DecOk (T.extract 1 (T.size - 1)) ini n1 f) (q : Int) (hq : q ≠ 0) (d2 : DecNo s ini n1 q) :
    Calls Tryd.prog 6 #[fv f, .string s, .bool ini, .int .i64 n1] w fun e w' => e = .returned (.bool true) ∧ Below w.heap.size w w' := by
  have HT := Lib.hid ht
  have E1 := Lib.hid e1
  have D2 := Lib.hid d2
  have D1 := Lib.hid d1
  clear ht e1 d2 d1
  have hg : Tryd.prog.eqGuardType Tryd.prog.depth 23 = false := by kernel_rfl
  have hn := neq_same f
  have p0 : (0 : Int) ≤ (T.size : Int) - 1 := by omega
  have p1 : ((T.size : Int) - 1).toNat = T.size - 1 := by omega
  have p2 : (T.size : Int) - 1 < T.size := by omega
  have p3 : (1 : Int) ≤ (T.size : Int) - 1 := by omega
  have p4 : (T.size : Int) - 1 ≤ T.size := by omega
  have m0 : (q == 0) = false := by rw [beq_eq_false_iff_ne]; exact hq
  have m1 : (q != 0) = true := by rw [bne_iff_ne]; exact hq
  have he := eql_none
  clear hq
  go_enter Tryd.func6, Tryd.ntmps6
  go_wp2_with (first
    | (go_at_call 10; ((with_reducible refine (at_EncOk E1.out _ ?_).mono ?_); (· exact tabs1 HT.out (Below.refl _ _)); rintro e wa ⟨rfl, hb⟩; have FA : Hid (FrAt wa w.heap.size f) := Lib.hid (fresh1 hb); have BA := Lib.hid (on1 (Below.refl w.heap.size w) hb); clear hb))
    | (go_at_call 12; ((with_reducible refine (at_DecOk D1.out _ ?_).mono ?_); (· exact tabs_below HT.out BA.out); rintro e wb ⟨rfl, hb⟩; have FB : Hid (FrAt wb w.heap.size f) := Lib.hid (FA.out.below hb); have BB := Lib.hid (below_on' BA.out hb); clear hb; obtain ⟨k0, k1, k2, k3, k4, k5, k6⟩ := FB.out.cells; have hlt : w.heap.size < wb.heap.size := lt_heap FB.out))
    | (go_at_call 12; ((with_reducible refine (at_DecNo D2.out _ ?_).mono ?_); (· exact tabs1 HT.out BB.out); rintro e wc ⟨rfl, hb⟩; have BC := Lib.hid (on1 BB.out hb); clear hb))
    | (go_at_call 9; ((with_reducible refine (works _ ?_).mono ?_); (· exact tabs1 HT.out BC.out); rintro e we ⟨rfl, hb⟩; have BE := Lib.hid (on1 BC.out hb); clear hb)))
  go_ret
  exact ⟨rfl, BE.out⟩
set_option maxHeartbeats 1000000 in
set_option maxRecDepth 100000 in
theorem back_ok_ok (f : Fr) (s : ByteArray) (ini : Bool) (n1 : Int) (w : World) (ht : Tabs w) (h1 : f.info.size ≤ 300) (h2 : s.size ≤ 600) (T : ByteArray) (e1 : EncOk f ini n1 T) (t6 : 5 ≤ T.size) (tl : T.size ≤ 1000) (d1 : DecOk (T.extract 1 (T.size - 1)) ini n1 f) (g : Fr) (d2 : DecOk s ini n1 g) (e2 : EncOk g ini n1 (⟨#[126]⟩ ++ s ++ ⟨#[126]⟩)) :
    Calls Tryd.prog 6 #[fv f, .string s, .bool ini, .int .i64 n1] w fun e w' => e = .returned (.bool true) ∧ Below w.heap.size w w' := by
  have HT := Lib.hid ht
  have E1 := Lib.hid e1
  have D2 := Lib.hid d2
  have D1 := Lib.hid d1
  have E2 := Lib.hid e2
  clear ht e1 d2 d1 e2
  have hg : Tryd.prog.eqGuardType Tryd.prog.depth 23 = false := by kernel_rfl
  have hn := neq_same f
  have p0 : (0 : Int) ≤ (T.size : Int) - 1 := by omega
  have p1 : ((T.size : Int) - 1).toNat = T.size - 1 := by omega
  have p2 : (T.size : Int) - 1 < T.size := by omega
  have p3 : (1 : Int) ≤ (T.size : Int) - 1 := by omega
  have p4 : (T.size : Int) - 1 ≤ T.size := by omega
  go_enter Tryd.func6, Tryd.ntmps6
  go_wp2_with (first
    | (go_at_call 10; ((with_reducible refine (at_EncOk E1.out _ ?_).mono ?_); (· exact tabs1 HT.out (Below.refl _ _)); rintro e wa ⟨rfl, hb⟩; have FA : Hid (FrAt wa w.heap.size f) := Lib.hid (fresh1 hb); have BA := Lib.hid (on1 (Below.refl w.heap.size w) hb); clear hb))
    | (go_at_call 12; ((with_reducible refine (at_DecOk D1.out _ ?_).mono ?_); (· exact tabs_below HT.out BA.out); rintro e wb ⟨rfl, hb⟩; have FB : Hid (FrAt wb w.heap.size f) := Lib.hid (FA.out.below hb); have BB := Lib.hid (below_on' BA.out hb); clear hb; obtain ⟨k0, k1, k2, k3, k4, k5, k6⟩ := FB.out.cells; have hlt : w.heap.size < wb.heap.size := lt_heap FB.out))
    | (go_at_call 12; ((with_reducible refine (at_DecOk D2.out _ ?_).mono ?_); (· exact tabs1 HT.out BB.out); rintro e wc ⟨rfl, hb⟩; have BC := Lib.hid (on1 BB.out hb); clear hb))
    | (go_at_call 10; ((with_reducible refine (at_EncOk E2.out _ ?_).mono ?_); (· exact tabs1 HT.out BC.out); rintro e wd ⟨rfl, hb⟩; have BD := Lib.hid (on1 BC.out hb); clear hb))
    | (go_at_call 9; ((with_reducible refine (works _ ?_).mono ?_); (· exact tabs_below HT.out BD.out); rintro e we ⟨rfl, hb⟩; have BE := Lib.hid (below_on' BD.out hb); clear hb)))
  go_ret
  exact ⟨rfl, BE.out⟩
theorem back (f : Fr) (hf : f.In) (_hl : f.info.size ≤ maxLen) (s : ByteArray) (ini : Bool) (n1 : Int) (w : World) (ht : Tabs w) :
    Calls Tryd.prog 6 #[fv f, .string s, .bool ini, .int .i64 n1] w fun e w' => e = .returned (.bool true) ∧ Below w.heap.size w w' := by
  by_cases h : 300 < f.info.size ∨ 600 < s.size
  · exact back_long f s ini n1 w ht h
  have h1 : f.info.size ≤ 300 := by omega
  have h2 : s.size ≤ 600 := by omega
  obtain ⟨g, r, ha⟩ := ans s ini n1
  have d2 : ∀ w, Tabs w → Calls Tryd.prog 12 #[.string s, .bool ini, .int .i64 n1] w fun e w' => e = .returned (.tuple #[fv g, .int .i64 (r : Int)]) ∧ Below w.heap.size w w' := fun w ht => fdec ha (by omega) w ht
  by_cases he : Fr.ae f n1 = 0
  · have e1 : EncOk f ini n1 (Fr.adv f ini) := fun w ht => fenc_yes f hf ini n1 w ht he
    have hz := adv_size f ini
    have hi := inn_size (f.a ini) f.o (Fr.y f ini) f.info
    have hb := stB_size (Fr.inner f ini)
    have hi' : (Fr.inner f ini).size = f.info.size + 3 := hi
    have tl : (Fr.adv f ini).size ≤ 1000 := by omega
    have d1 : DecOk ((Fr.adv f ini).extract 1 ((Fr.adv f ini).size - 1)) ini n1 f := fun w ht => by
      rw [adv_in]; exact fdec (enc_ans he ini) (by omega) w ht
    rcases ans_enc ha with ⟨hr, rfl⟩ | ⟨rfl, g1, g2, g3⟩
    · exact back_ok_no f s ini n1 w ht h1 h2 _ e1 (by omega) tl d1 r (by omega) d2
    · exact back_ok_ok f s ini n1 w ht h1 h2 _ e1 (by omega) tl d1 g d2 (fun w ht => by rw [← g3]; exact fenc_yes g g1 ini n1 w ht g2)
  · have e1 : EncNo f ini n1 (Fr.ae f n1 : Int) := fun w ht => fenc_no f hf ini n1 w ht he
    rcases ans_enc ha with ⟨hr, rfl⟩ | ⟨rfl, g1, g2, g3⟩
    · exact back_no_no f s ini n1 w ht h1 h2 _ (by omega) e1 r (by omega) d2
    · exact back_no_ok f s ini n1 w ht h1 h2 _ (by omega) e1 g d2 (fun w ht => by rw [← g3]; exact fenc_yes g g1 ini n1 w ht g2)
end Go.Proofs.YtgikdcamppcphaaDoor.Adv

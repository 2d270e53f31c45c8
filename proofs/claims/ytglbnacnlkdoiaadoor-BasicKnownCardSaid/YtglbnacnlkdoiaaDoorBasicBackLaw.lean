/-
  BasicBack answers true for every frame and all bytes, and turns nothing that was there. Condition: the tables of layers 1 and 3 lie where the program lays them.
-/
import Derived.Test.YtglbnacnlkdoiaaDoorBasicCases
namespace Go.Proofs.YtglbnacnlkdoiaaDoor.Basic
open Go.RowKit Go.Proofs.YtglbnacnlkdoiaaDoor.Base Go.Proofs.YtglbnacnlkdoiaaDoor.Ea Go.Proofs.YtglbnacnlkdoiaaDoor.Field
set_option maxHeartbeats 1000000 in
set_option maxRecDepth 100000 in
theorem back_long (f : Fr) (s : ByteArray) (ini : Bool) (n1 : Int) (w : World) (ht : Tabs w) (h : 300 < f.info.size ∨ 400 < s.size) :
    Calls Tryd.prog 5 #[fv f, .string s, .bool ini, .int .i64 n1] w fun e w' => e = .returned (.bool true) ∧ Below w.heap.size w w' := by
  have HT := Lib.hid ht
  clear ht
  by_cases h1 : 300 < f.info.size
  all_goals
    (first | (have d1 : decide ((f.info.size : Int) > 300) = true := by simp; omega) | skip)
    (first | (have d2 : ¬ 300 < (f.info.size : Int) := by omega) | skip)
    (first | (have d3 : 400 < (s.size : Int) := by omega) | skip)
    clear h
    go_enter Tryd.func5, Tryd.ntmps5
    go_wp2_with (go_at_call 8; ((with_reducible refine (works _ ?_).mono ?_); (· exact tabs1 HT.out (Below.refl _ _)); rintro e w1 ⟨rfl, hb⟩; have BA := Lib.hid (on1 (Below.refl w.heap.size w) hb); clear hb))
    go_ret
    exact ⟨rfl, BA.out⟩
set_option maxHeartbeats 1000000 in
set_option maxRecDepth 100000 in
theorem back_no_no (f : Fr) (s : ByteArray) (ini : Bool) (n1 : Int) (w : World) (ht : Tabs w) (h1 : f.info.size ≤ 300) (h2 : s.size ≤ 400) (r : Int) (hr : r ≠ 0) (e1 : EncNo f ini n1 r) (q : Int) (hq : q ≠ 0) (d2 : DecNo s ini n1 q) :
    Calls Tryd.prog 5 #[fv f, .string s, .bool ini, .int .i64 n1] w fun e w' => e = .returned (.bool true) ∧ Below w.heap.size w w' := by
  have HT := Lib.hid ht
  have E1 := Lib.hid e1
  have D2 := Lib.hid d2
  clear ht e1 d2
  have hg : Tryd.prog.eqGuardType Tryd.prog.depth 23 = false := by kernel_rfl
  have n0 : (r == 0) = false := by rw [beq_eq_false_iff_ne]; exact hr
  clear hr
  have m0 : (q == 0) = false := by rw [beq_eq_false_iff_ne]; exact hq
  have m1 : (q != 0) = true := by rw [bne_iff_ne]; exact hq
  have he := eql_none
  clear hq
  go_enter Tryd.func5, Tryd.ntmps5
  go_wp2_with (first
    | (go_at_call 9; ((with_reducible refine (E1.out.at _ ?_).mono ?_); (· exact tabs1 HT.out (Below.refl _ _)); rintro e wa ⟨rfl, hb⟩; have BA := Lib.hid (on1 (Below.refl w.heap.size w) hb); clear hb))
    | (go_at_call 13; ((with_reducible refine (D2.out.at _ ?_).mono ?_); (· exact tabs_below HT.out BA.out); rintro e wc ⟨rfl, hb⟩; have BC := Lib.hid (below_on' BA.out hb); clear hb))
    | (go_at_call 8; ((with_reducible refine (works _ ?_).mono ?_); (· exact tabs1 HT.out BC.out); rintro e we ⟨rfl, hb⟩; have BE := Lib.hid (on1 BC.out hb); clear hb)))
  go_ret
  exact ⟨rfl, BE.out⟩
set_option maxHeartbeats 1000000 in
set_option maxRecDepth 100000 in
theorem back_no_ok (f : Fr) (s : ByteArray) (ini : Bool) (n1 : Int) (w : World) (ht : Tabs w) (h1 : f.info.size ≤ 300) (h2 : s.size ≤ 400) (r : Int) (hr : r ≠ 0) (e1 : EncNo f ini n1 r) (g : Fr) (d2 : DecOk s ini n1 g) (e2 : EncOk g ini n1 (⟨#[249]⟩ ++ s ++ ⟨#[249]⟩)) :
    Calls Tryd.prog 5 #[fv f, .string s, .bool ini, .int .i64 n1] w fun e w' => e = .returned (.bool true) ∧ Below w.heap.size w w' := by
  have HT := Lib.hid ht
  have E1 := Lib.hid e1
  have D2 := Lib.hid d2
  have E2 := Lib.hid e2
  clear ht e1 d2 e2
  have hg : Tryd.prog.eqGuardType Tryd.prog.depth 23 = false := by kernel_rfl
  have n0 : (r == 0) = false := by rw [beq_eq_false_iff_ne]; exact hr
  clear hr
  go_enter Tryd.func5, Tryd.ntmps5
  go_wp2_with (first
    | (go_at_call 9; ((with_reducible refine (E1.out.at _ ?_).mono ?_); (· exact tabs1 HT.out (Below.refl _ _)); rintro e wa ⟨rfl, hb⟩; have BA := Lib.hid (on1 (Below.refl w.heap.size w) hb); clear hb))
    | (go_at_call 13; ((with_reducible refine (D2.out.at _ ?_).mono ?_); (· exact tabs_below HT.out BA.out); rintro e wc ⟨rfl, hb⟩; have BC := Lib.hid (below_on' BA.out hb); clear hb))
    | (go_at_call 9; ((with_reducible refine (E2.out.at _ ?_).mono ?_); (· exact tabs1 HT.out BC.out); rintro e wd ⟨rfl, hb⟩; have BD := Lib.hid (on1 BC.out hb); clear hb))
    | (go_at_call 8; ((with_reducible refine (works _ ?_).mono ?_); (· exact tabs_below HT.out BD.out); rintro e we ⟨rfl, hb⟩; have BE := Lib.hid (below_on' BD.out hb); clear hb)))
  go_ret
  exact ⟨rfl, BE.out⟩
set_option maxHeartbeats 1000000 in
set_option maxRecDepth 100000 in
theorem back_ok_no (f : Fr) (s : ByteArray) (ini : Bool) (n1 : Int) (w : World) (ht : Tabs w) (h1 : f.info.size ≤ 300) (h2 : s.size ≤ 400) (T : ByteArray) (e1 : EncOk f ini n1 T) (t6 : 6 ≤ T.size) (tl : T.size ≤ 1000) (t0 : T[0].toNat = 249) (tz : (T[T.size - 1]).toNat = 249) (d1 : DecOk (T.extract 1 (T.size - 1)) ini n1 f) (q : Int) (hq : q ≠ 0) (d2 : DecNo s ini n1 q) :
    Calls Tryd.prog 5 #[fv f, .string s, .bool ini, .int .i64 n1] w fun e w' => e = .returned (.bool true) ∧ Below w.heap.size w w' := by
  have HT := Lib.hid ht
  have E1 := Lib.hid e1
  have D2 := Lib.hid d2
  have D1 := Lib.hid d1
  clear ht e1 d2 d1
  have hg : Tryd.prog.eqGuardType Tryd.prog.depth 23 = false := by kernel_rfl
  have hn := neq_same f
  have p0 : (0 : Int) ≤ (T.size : Int) - 1 := by omega
  have p1 : ((T.size : Int) - 1).toNat = T.size - 1 := by omega
  have p2 : (T.size : Int) - 1 < T.size := by omega
  have p3 : (1 : Int) ≤ (T.size : Int) - 1 := by omega
  have p4 : (T.size : Int) - 1 ≤ T.size := by omega
  have m0 : (q == 0) = false := by rw [beq_eq_false_iff_ne]; exact hq
  have m1 : (q != 0) = true := by rw [bne_iff_ne]; exact hq
  have he := eql_none
  clear hq
  go_enter Tryd.func5, Tryd.ntmps5
  go_wp2_with (first
    | (go_at_call 9; ((with_reducible refine (E1.out.at _ ?_).mono ?_); (· exact tabs1 HT.out (Below.refl _ _)); rintro e wa ⟨rfl, hb⟩; have FA : Hid (FrAt wa w.heap.size f) := Lib.hid (fresh1 hb); have BA := Lib.hid (on1 (Below.refl w.heap.size w) hb); clear hb))
    | (go_at_call 13; ((with_reducible refine (D1.out.at _ ?_).mono ?_); (· exact tabs_below HT.out BA.out); rintro e wb ⟨rfl, hb⟩; have FB : Hid (FrAt wb w.heap.size f) := Lib.hid (FA.out.below hb); have BB := Lib.hid (below_on' BA.out hb); clear hb; obtain ⟨k0, k1, k2, k3, k4, k5, k6⟩ := FB.out.cells; have hlt : w.heap.size < wb.heap.size := lt_heap FB.out))
    | (go_at_call 13; ((with_reducible refine (D2.out.at _ ?_).mono ?_); (· exact tabs1 HT.out BB.out); rintro e wc ⟨rfl, hb⟩; have BC := Lib.hid (on1 BB.out hb); clear hb))
    | (go_at_call 8; ((with_reducible refine (works _ ?_).mono ?_); (· exact tabs1 HT.out BC.out); rintro e we ⟨rfl, hb⟩; have BE := Lib.hid (on1 BC.out hb); clear hb)))
  go_ret
  exact ⟨rfl, BE.out⟩
set_option maxHeartbeats 1000000 in
set_option maxRecDepth 100000 in
theorem back_ok_ok (f : Fr) (s : ByteArray) (ini : Bool) (n1 : Int) (w : World) (ht : Tabs w) (h1 : f.info.size ≤ 300) (h2 : s.size ≤ 400) (T : ByteArray) (e1 : EncOk f ini n1 T) (t6 : 6 ≤ T.size) (tl : T.size ≤ 1000) (t0 : T[0].toNat = 249) (tz : (T[T.size - 1]).toNat = 249) (d1 : DecOk (T.extract 1 (T.size - 1)) ini n1 f) (g : Fr) (d2 : DecOk s ini n1 g) (e2 : EncOk g ini n1 (⟨#[249]⟩ ++ s ++ ⟨#[249]⟩)) :
    Calls Tryd.prog 5 #[fv f, .string s, .bool ini, .int .i64 n1] w fun e w' => e = .returned (.bool true) ∧ Below w.heap.size w w' := by
  have HT := Lib.hid ht
  have E1 := Lib.hid e1
  have D2 := Lib.hid d2
  have D1 := Lib.hid d1
  have E2 := Lib.hid e2
  clear ht e1 d2 d1 e2
  have hg : Tryd.prog.eqGuardType Tryd.prog.depth 23 = false := by kernel_rfl
  have hn := neq_same f
  have p0 : (0 : Int) ≤ (T.size : Int) - 1 := by omega
  have p1 : ((T.size : Int) - 1).toNat = T.size - 1 := by omega
  have p2 : (T.size : Int) - 1 < T.size := by omega
  have p3 : (1 : Int) ≤ (T.size : Int) - 1 := by omega
  have p4 : (T.size : Int) - 1 ≤ T.size := by omega
  go_enter Tryd.func5, Tryd.ntmps5
  go_wp2_with (first
    | (go_at_call 9; ((with_reducible refine (E1.out.at _ ?_).mono ?_); (· exact tabs1 HT.out (Below.refl _ _)); rintro e wa ⟨rfl, hb⟩; have FA : Hid (FrAt wa w.heap.size f) := Lib.hid (fresh1 hb); have BA := Lib.hid (on1 (Below.refl w.heap.size w) hb); clear hb))
    | (go_at_call 13; ((with_reducible refine (D1.out.at _ ?_).mono ?_); (· exact tabs_below HT.out BA.out); rintro e wb ⟨rfl, hb⟩; have FB : Hid (FrAt wb w.heap.size f) := Lib.hid (FA.out.below hb); have BB := Lib.hid (below_on' BA.out hb); clear hb; obtain ⟨k0, k1, k2, k3, k4, k5, k6⟩ := FB.out.cells; have hlt : w.heap.size < wb.heap.size := lt_heap FB.out))
    | (go_at_call 13; ((with_reducible refine (D2.out.at _ ?_).mono ?_); (· exact tabs1 HT.out BB.out); rintro e wc ⟨rfl, hb⟩; have BC := Lib.hid (on1 BB.out hb); clear hb))
    | (go_at_call 9; ((with_reducible refine (E2.out.at _ ?_).mono ?_); (· exact tabs1 HT.out BC.out); rintro e wd ⟨rfl, hb⟩; have BD := Lib.hid (on1 BC.out hb); clear hb))
    | (go_at_call 8; ((with_reducible refine (works _ ?_).mono ?_); (· exact tabs_below HT.out BD.out); rintro e we ⟨rfl, hb⟩; have BE := Lib.hid (below_on' BD.out hb); clear hb)))
  go_ret
  exact ⟨rfl, BE.out⟩
theorem back (f : Fr) (hf : f.In) (hl : f.info.size ≤ maxLen) (s : ByteArray) (ini : Bool) (n1 : Int) (w : World) (ht : Tabs w) :
    Calls Tryd.prog 5 #[fv f, .string s, .bool ini, .int .i64 n1] w fun e w' => e = .returned (.bool true) ∧ Below w.heap.size w w' := by
  by_cases h : 300 < f.info.size ∨ 400 < s.size
  · exact back_long f s ini n1 w ht h
  have h1 : f.info.size ≤ 300 := by omega
  have h2 : s.size ≤ 400 := by omega
  have hs : s.size ≤ maxLen := by unfold maxLen; omega
  have hg : ∀ g : Fr, g.In → g.info.size ≤ 32767 → g.e ini n1 = 0 → g.body ini = s → EncOk g ini n1 (⟨#[249]⟩ ++ s ++ ⟨#[249]⟩) := fun g g1 g2 g3 g4 => by
    have r : EncOk g ini n1 (g.bytes ini) := fun w ht => fenc_ok g g1 ini n1 w ht.1 ht.2 (by unfold maxLen; omega) g3
    unfold Fr.bytes at r
    rw [g4] at r
    exact r
  rcases enc_cases f hf hl ini n1 with ⟨r, hr, e1⟩ | ⟨he, e1⟩
  · rcases dec_cases s hs ini n1 with ⟨q, hq, d2⟩ | ⟨g, g1, g2, g3, g4, d2⟩
    · exact back_no_no f s ini n1 w ht h1 h2 r hr e1 q hq d2
    · exact back_no_ok f s ini n1 w ht h1 h2 r hr e1 g d2 (hg g g1 g2 g3 g4)
  · have d1 := dec_body he
    rw [← body_in f ini] at d1
    have hz := bytes_size f ini
    have hb := long4 (enc_dec he).1
    have hc := (enc_dec he).1.size
    have hd := len_sz f.info.size (by omega)
    have tl : (f.bytes ini).size ≤ 1000 := by split at hd <;> omega
    rcases dec_cases s hs ini n1 with ⟨q, hq, d2⟩ | ⟨g, g1, g2, g3, g4, d2⟩
    · exact back_ok_no f s ini n1 w ht h1 h2 _ e1 (by omega) tl (first_flag f ini (by omega)) (last_flag f ini (by omega)) d1 q hq d2
    · exact back_ok_ok f s ini n1 w ht h1 h2 _ e1 (by omega) tl (first_flag f ini (by omega)) (last_flag f ini (by omega)) d1 g d2 (hg g g1 g2 g3 g4)
end Go.Proofs.YtglbnacnlkdoiaaDoor.Basic

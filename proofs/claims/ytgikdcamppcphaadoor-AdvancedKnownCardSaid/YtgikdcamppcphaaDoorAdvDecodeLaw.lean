/-
  AdvancedDecode answers true for all bytes, and turns nothing that was there. Condition: the tables of layers 1 and 3 lie where the program lays them.
-/
import Derived.Test.YtgikdcamppcphaaDoorAdvWorks
namespace Go.Proofs.YtgikdcamppcphaaDoor.Adv
open Go.RowKit Go.Proofs.YtgikdcamppcphaaDoor.Base Go.Proofs.YtgikdcamppcphaaDoor.Ea Go.Proofs.YtgikdcamppcphaaDoor.Field Go.Proofs.YtgikdcamppcphaaDoor.Basic
set_option maxHeartbeats 1000000 in
theorem decodes_long (s : ByteArray) (ini : Bool) (n1 : Int) (w : World) (ht : Tabs w) (h : 600 < s.size) :
    Calls Tryd.prog 4 #[.string s, .bool ini, .int .i64 n1] w fun e w' => e = .returned (.bool true) ∧ Below w.heap.size w w' := by
  have HT := Lib.hid ht
  clear ht
  have d3 : 600 < (s.size : Int) := by omega
  go_enter Tryd.func4, Tryd.ntmps4
  go_wp2_with (go_at_call 9; ((with_reducible refine (works _ ?_).mono ?_); (· exact HT.out); rintro e w1 ⟨rfl, hb⟩; have BA := Lib.hid hb; clear hb))
  go_ret
  exact ⟨rfl, BA.out⟩
set_option maxHeartbeats 1000000 in
theorem decodes_any (s : ByteArray) (ini : Bool) (n1 : Int) (w : World) (ht : Tabs w) (h : s.size ≤ 600) (g : Fr) (r : Int)
    (e1 : ∀ w, Tabs w → Calls Tryd.prog 12 #[.string s, .bool ini, .int .i64 n1] w fun e w' => e = .returned (.tuple #[fv g, .int .i64 r]) ∧ Below w.heap.size w w')
    (e2 : ∀ w, Calls Tryd.prog 13 #[.string s, .bool ini, .int .i64 n1] w fun e w' => e = .returned (.tuple #[fv g, .int .i64 r]) ∧ Below w.heap.size w w') :
    Calls Tryd.prog 4 #[.string s, .bool ini, .int .i64 n1] w fun e w' => e = .returned (.bool true) ∧ Below w.heap.size w w' := by
  have HT := Lib.hid ht
  have E1 := Lib.hid e1
  have E2 := Lib.hid e2
  clear ht e1 e2
  have d3 : ¬ 600 < (s.size : Int) := by omega
  have hg : Tryd.prog.eqGuardType Tryd.prog.depth 23 = false := by kernel_rfl
  have he := eql_same g
  go_enter Tryd.func4, Tryd.ntmps4
  go_wp2_with (first
    | (go_at_call 12; ((with_reducible refine (E1.out _ ?_).mono ?_); (· exact HT.out); rintro e wa ⟨rfl, hb⟩; have BA := Lib.hid hb; clear hb))
    | (go_at_call 13; ((with_reducible refine (E2.out _).mono ?_); rintro e wb ⟨rfl, hb⟩; have FB : FrAt wb wa.heap.size g := fresh1 hb; obtain ⟨g0, g1, g2, g3, g4, g5, g6⟩ := FB.cells; have hlt : wa.heap.size < wb.heap.size := lt_heap FB; have BB := Lib.hid (on1 BA.out hb); clear hb FB))
    | (go_at_call 9; ((with_reducible refine (works _ ?_).mono ?_); (· exact tabs1 HT.out BB.out); rintro e wc ⟨rfl, hb⟩; have BC := Lib.hid (on1 BB.out hb); clear hb)))
  go_ret
  exact ⟨rfl, BC.out⟩
theorem decodes (s : ByteArray) (ini : Bool) (n1 : Int) (w : World) (ht : Tabs w) :
    Calls Tryd.prog 4 #[.string s, .bool ini, .int .i64 n1] w fun e w' => e = .returned (.bool true) ∧ Below w.heap.size w w' := by
  by_cases h : 600 < s.size
  · exact decodes_long s ini n1 w ht h
  obtain ⟨g, r, ha⟩ := ans s ini n1
  exact decodes_any s ini n1 w ht (by omega) g r (fun w ht => fdec ha (by omega) w ht) (fun w => rdec ha (by omega) w)
end Go.Proofs.YtgikdcamppcphaaDoor.Adv

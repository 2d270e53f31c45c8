/-
  AdvancedEncode answers true for every frame, and turns nothing that was there. Condition: the tables of layers 1 and 3 lie where the program lays them.
-/
import Derived.Test.YtgikdcamppcphaaDoorAdvWorks
namespace Go.Proofs.YtgikdcamppcphaaDoor.Adv
open Go.RowKit Go.Proofs.YtgikdcamppcphaaDoor.Base Go.Proofs.YtgikdcamppcphaaDoor.Ea Go.Proofs.YtgikdcamppcphaaDoor.Field Go.Proofs.YtgikdcamppcphaaDoor.Basic
set_option maxHeartbeats 1000000 in
theorem encodes_long (f : Fr) (ini : Bool) (n1 : Int) (w : World) (ht : Tabs w) (h : 300 < f.info.size) :
    Calls Tryd.prog 3 #[fv f, .bool ini, .int .i64 n1] w fun e w' => e = .returned (.bool true) ∧ Below w.heap.size w w' := by
  have HT := Lib.hid ht
  clear ht
  go_enter Tryd.func3, Tryd.ntmps3
  go_wp2_with (go_at_call 9; ((with_reducible refine (works _ ?_).mono ?_); (· exact tabs1 HT.out (Below.refl _ _)); rintro e w1 ⟨rfl, hb⟩; have BA := Lib.hid (on1 (Below.refl w.heap.size w) hb); clear hb))
  go_ret
  exact ⟨rfl, BA.out⟩
set_option maxHeartbeats 1000000 in
theorem encodes_any (f : Fr) (ini : Bool) (n1 : Int) (w : World) (ht : Tabs w) (h : f.info.size ≤ 300) (t : ByteArray) (r : Int)
    (e1 : ∀ w, Tabs w → Calls Tryd.prog 10 #[fv f, .bool ini, .int .i64 n1] w fun e w' => e = .returned (.tuple #[.string t, .int .i64 r]) ∧ Below w.heap.size w w')
    (e2 : ∀ w, Calls Tryd.prog 11 #[fv f, .bool ini, .int .i64 n1] w fun e w' => e = .returned (.tuple #[.string t, .int .i64 r]) ∧ Below w.heap.size w w') :
    Calls Tryd.prog 3 #[fv f, .bool ini, .int .i64 n1] w fun e w' => e = .returned (.bool true) ∧ Below w.heap.size w w' := by
  have HT := Lib.hid ht
  have E1 := Lib.hid e1
  have E2 := Lib.hid e2
  clear ht e1 e2
  go_enter Tryd.func3, Tryd.ntmps3
  go_wp2_with (first
    | (go_at_call 10; ((with_reducible refine (E1.out _ ?_).mono ?_); (· exact tabs1 HT.out (Below.refl _ _)); rintro e wa ⟨rfl, hb⟩; have hF1 : FrAt wa w.heap.size f := fresh0 hb; obtain ⟨g0, g1, g2, g3, g4, g5, g6⟩ := hF1.cells; have BA := Lib.hid (on1 (Below.refl w.heap.size w) hb); clear hb hF1))
    | (go_at_call 11; ((with_reducible refine (E2.out _).mono ?_); rintro e wb ⟨rfl, hb⟩; have BB := Lib.hid (below_on' BA.out hb); clear hb))
    | (go_at_call 9; ((with_reducible refine (works _ ?_).mono ?_); (· exact tabs_below HT.out BB.out); rintro e wc ⟨rfl, hb⟩; have BC := Lib.hid (below_on' BB.out hb); clear hb)))
  go_ret
  exact ⟨rfl, BC.out⟩
theorem encodes (f : Fr) (hf : f.In) (_hl : f.info.size ≤ maxLen) (ini : Bool) (n1 : Int) (w : World) (ht : Tabs w) :
    Calls Tryd.prog 3 #[fv f, .bool ini, .int .i64 n1] w fun e w' => e = .returned (.bool true) ∧ Below w.heap.size w w' := by
  by_cases h : 300 < f.info.size
  · exact encodes_long f ini n1 w ht h
  by_cases he : Fr.ae f n1 = 0
  · exact encodes_any f ini n1 w ht (by omega) _ _ (fun w ht => fenc_yes f hf ini n1 w ht he) (fun w => renc_yes f hf ini n1 w he)
  · exact encodes_any f ini n1 w ht (by omega) _ _ (fun w ht => fenc_no f hf ini n1 w ht he) (fun w => renc_no f hf ini n1 w he)
end Go.Proofs.YtgikdcamppcphaaDoor.Adv

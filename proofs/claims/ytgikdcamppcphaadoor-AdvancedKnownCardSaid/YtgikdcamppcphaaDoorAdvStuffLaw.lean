/-
  AdvancedStuff answers true for all octets, and turns nothing that was there. Condition: the tables of layers 1 and 3 lie where the program lays them.
-/
import Derived.Test.YtgikdcamppcphaaDoorAdvWorks
namespace Go.Proofs.YtgikdcamppcphaaDoor.Adv
open Go.RowKit Go.Proofs.YtgikdcamppcphaaDoor.Base Go.Proofs.YtgikdcamppcphaaDoor.Ea Go.Proofs.YtgikdcamppcphaaDoor.Field Go.Proofs.YtgikdcamppcphaaDoor.Basic
theorem stuff_long (s : ByteArray) (w : World) (ht : Tabs w) (h : 600 < s.size) :
    Calls Tryd.prog 5 #[.string s] w fun e w' => e = .returned (.bool true) ∧ Below w.heap.size w w' := by
  have HT := Lib.hid ht
  clear ht
  have d3 : 600 < (s.size : Int) := by omega
  go_enter Tryd.func5, Tryd.ntmps5
  go_wp2_with (go_at_call 9; ((with_reducible refine (works _ ?_).mono ?_); (· exact HT.out); rintro e w1 ⟨rfl, hb⟩; have BA := Lib.hid hb; clear hb))
  go_ret
  exact ⟨rfl, BA.out⟩
set_option maxHeartbeats 1000000 in
theorem stuff_any (s t u : ByteArray) (b : Bool) (w : World) (ht : Tabs w) (h : s.size ≤ 600) (htz : t.size ≤ 1200) (hf : ∀ k (h : k < t.size), t[k] ≠ 126)
    (e1 : ∀ w, Calls Tryd.prog 14 #[.string s] w fun e w' => e = .returned (.string t) ∧ Below w.heap.size w w')
    (e2 : ∀ w, Calls Tryd.prog 15 #[.string s] w fun e w' => e = .returned (.tuple #[.string u, .bool b]) ∧ Below w.heap.size w w')
    (e3 : ∀ w, Calls Tryd.prog 16 #[.string s] w fun e w' => e = .returned (.tuple #[.string u, .bool b]) ∧ Below w.heap.size w w')
    (e4 : ∀ w, Calls Tryd.prog 15 #[.string t] w fun e w' => e = .returned (.tuple #[.string s, .bool true]) ∧ Below w.heap.size w w')
    (e5 : ∀ w, Calls Tryd.prog 17 #[.string s] w fun e w' => e = .returned (.string t) ∧ Below w.heap.size w w')
    (e6 : b = true → ∀ w, Calls Tryd.prog 14 #[.string u] w fun e w' => e = .returned (.string s) ∧ Below w.heap.size w w') :
    Calls Tryd.prog 5 #[.string s] w fun e w' => e = .returned (.bool true) ∧ Below w.heap.size w w' := by
  have HT := Lib.hid ht
  have HF := Lib.hid hf
  have E1 := Lib.hid e1
  have E2 := Lib.hid e2
  have E3 := Lib.hid e3
  have E4 := Lib.hid e4
  have E5 := Lib.hid e5
  have E6 := Lib.hid e6
  clear ht hf e1 e2 e3 e4 e5 e6
  have d3 : ¬ 600 < (s.size : Int) := by omega
  cases b
  all_goals
    (try have E7 := Lib.hid (fun w => E6.out rfl w))
    clear E6
    go_enter Tryd.func5, Tryd.ntmps5
    go_wp2_with (first
      | (go_at_call 16; ((with_reducible refine (E3.out _).mono ?_); rintro e wc ⟨rfl, hb⟩; have BC := Lib.hid (below_on' BB.out hb); clear hb))
      | (go_at_call 17; ((with_reducible refine (E5.out _).mono ?_); rintro e we ⟨rfl, hb⟩; have BE := Lib.hid (below_on' BD.out hb); clear hb))
      | (go_at_call 15; ((with_reducible refine (E4.out _).mono ?_); rintro e wd ⟨rfl, hb⟩; have BD := Lib.hid (below_on' BC.out hb); clear hb))
      | (go_at_call 15; ((with_reducible refine (E2.out _).mono ?_); rintro e wb ⟨rfl, hb⟩; have BB := Lib.hid (below_on' BA.out hb); clear hb))
      | (go_at_call 14; ((with_reducible refine (E1.out _).mono ?_); rintro e wa ⟨rfl, hb⟩; have BA := Lib.hid hb; clear hb)))
    go_loop [10] (fun i => ∃ k : Nat, k ≤ t.size ∧ i = .int .i64 (k : Int)) (fun i => t.size - (intOf i).toNat)
    case atStart => exact ⟨0, by omega, rfl⟩
    case round =>
      obtain ⟨k, hk, rfl⟩ := hrel
      by_cases hlt : k < t.size
      · have hb := oct_lt t[k]
        have q : ((t[k].toNat : Int) == 126) = false := by rw [beq_eq_false_iff_ne]; exact fun e => HF.out k hlt (UInt8.toNat_inj.1 (by show t[k].toNat = 126; omega))
        go_wp2
        go_round
        case rel => exact ⟨k + 1, by omega, by go_num⟩
        case measure => simp [intOf]; omega
      · go_wp2_with (first
          | (go_at_call 14; ((with_reducible refine (E7.out _).mono ?_); rintro e wf ⟨rfl, hb⟩; have BF := Lib.hid (below_on' BE.out hb); clear hb))
          | (go_at_call 9; ((with_reducible refine (works _ ?_).mono ?_); (· first | exact tabs_below HT.out BF.out | exact tabs_below HT.out BE.out); rintro e wg ⟨rfl, hb⟩; first | have BG := Lib.hid (below_on' BF.out hb) | have BG := Lib.hid (below_on' BE.out hb); clear hb)))
        go_ret
        exact ⟨rfl, BG.out⟩
theorem stuffs (s : ByteArray) (w : World) (ht : Tabs w) :
    Calls Tryd.prog 5 #[.string s] w fun e w' => e = .returned (.bool true) ∧ Below w.heap.size w w' := by
  by_cases h : 600 < s.size
  · exact stuff_long s w ht h
  have hz := stB_size s
  have hf : ∀ k (h : k < (stB s).size), (stB s)[k] ≠ 126 := fun k hk => by
    have h1 := get_list (stB s) k hk
    rw [stB_list] at h1
    exact st_no s.data.toList _ (List.mem_of_getElem? h1.symm)
  have e5 := fun w => as_below (rstuff s (by omega) w)
  have e4 := fun w => unstuff_yes (s := stB s) (t := s) (by omega) (by rw [stB_list, un_st]) w
  cases hu : un s.data.toList with
  | none =>
    exact stuff_any s (stB s) ⟨#[]⟩ false w ht (by omega) (by omega) hf (fun w => stuff s (by omega) w) (fun w => unstuff_no (s := s) (by omega) hu w) (fun w => runstuff_no (s := s) (by omega) hu w) e4 e5 (fun h => by cases h)
  | some l =>
    have hl : un s.data.toList = some (⟨l.toArray⟩ : ByteArray).data.toList := by rw [hu]
    have hlz : (⟨l.toArray⟩ : ByteArray).size ≤ s.size := by have := un_len hl; rw [size_toList, size_toList] at this; exact this
    have es : stB ⟨l.toArray⟩ = s := bext (by rw [stB_list, st_un hl])
    exact stuff_any s (stB s) ⟨l.toArray⟩ true w ht (by omega) (by omega) hf (fun w => stuff s (by omega) w) (fun w => unstuff_yes (s := s) (by omega) hl w) (fun w => runstuff_yes (s := s) (by omega) hl w) e4 e5 (fun _ w => by have p := stuff ⟨l.toArray⟩ (by omega) w; rw [es] at p; exact p)
end Go.Proofs.YtgikdcamppcphaaDoor.Adv

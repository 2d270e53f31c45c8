/-
  What the document's own Stuff and Unstuff of layer 5 answer. Condition: at most 100000 octets.
-/
import Derived.Test.YtgikdcamppcphaaDoorAdvUn
namespace Go.Proofs.YtgikdcamppcphaaDoor.Adv
open Go.RowKit Go.Proofs.YtgikdcamppcphaaDoor.Base Go.Proofs.YtgikdcamppcphaaDoor.Ea Go.Proofs.YtgikdcamppcphaaDoor.Field Go.Proofs.YtgikdcamppcphaaDoor.Basic
theorem ext_one (s : ByteArray) (k : Nat) (h : k < s.size) : (s.extract k (k + 1)).data.toList = [s[k]] ∧ (s.extract k (k + 1)).size = 1 := by
  have e : (s.extract k (k + 1)).data.toList = [s[k]] := by
    rw [ext_list, List.drop_take, drop_at s k h, show k + 1 - k = 1 by omega]; rfl
  refine ⟨e, ?_⟩
  rw [← size_toList, e]; rfl
theorem getD_at (s : ByteArray) (k : Nat) (h : k < s.size) : s.data.toList.getD k 0 = s[k] := by
  have := get_list s k h
  simp [List.getD, ← this]
theorem st_bytes (s : ByteArray) (k : Nat) (h : k < s.size) : st (s.data.toList.take (k + 1)) = st (s.data.toList.take k) ++ st1 s[k] := by
  rw [st_take s.data.toList k (by rw [size_toList]; exact h), getD_at s k h]
theorem ret_stB {s o : ByteArray} (h : o.data.toList = st s.data.toList) : Ending.returned (.string o) = .returned (.string (stB s)) := ret_str (bext (by rw [h, stB_list]))
set_option maxHeartbeats 1000000 in
theorem rstuff (s : ByteArray) (hs : s.size ≤ 100000) (w : World) :
    Calls Tryd.prog 17 #[.string s] w fun e w' => e = .returned (.string (stB s)) ∧ w = w' := by
  go_enter Tryd.func17, Tryd.ntmps17
  go_wp2
  go_loop [3, 4] (fun t i => ∃ (k : Nat) (o : ByteArray), k ≤ s.size ∧ i = .int .i64 (k : Int) ∧ t = .string o ∧ o.size ≤ 200000 ∧ Hid (o.data.toList = st (s.data.toList.take k))) (fun _ i => s.size - (intOf i).toNat)
  case atStart => exact ⟨0, ⟨#[]⟩, by omega, rfl, rfl, by decide, Lib.hid (by simp [st])⟩
  case round =>
    obtain ⟨k, o, hk, rfl, rfl, hoz, HO⟩ := hrel
    by_cases hlt : k < s.size
    · have hb := oct_lt s[k]
      have HS := Lib.hid (st_bytes s k hlt)
      have HZ : Hid ((st (s.data.toList.take (k + 1))).length ≤ 200000) := Lib.hid (by have := st_take_len s.data.toList (k + 1); rw [size_toList] at this; omega)
      by_cases h6 : s[k] = 126
      · have q : ((s[k].toNat : Int) == 126) = true := by rw [h6]; rfl
        have HN : Hid ((o ++ (⟨#[125, 94]⟩ : ByteArray)).data.toList = st (s.data.toList.take (k + 1))) := Lib.hid (by rw [app_list, HO.out, HS.out, h6]; rfl)
        have z2 : (⟨#[125, 94]⟩ : ByteArray).size = 2 := rfl
        clear h6
        go_wp2
        go_round
        case rel => exact ⟨k + 1, _, by omega, by go_num, rfl, by rw [← size_toList, HN.out]; exact HZ.out, HN⟩
        case measure => simp [intOf]; omega
      have q : ((s[k].toNat : Int) == 126) = false := by rw [beq_eq_false_iff_ne]; exact fun e => h6 (UInt8.toNat_inj.1 (by show s[k].toNat = 126; omega))
      by_cases h5 : s[k] = 125
      · have q1 : ((s[k].toNat : Int) == 125) = true := by rw [h5]; rfl
        have HN : Hid ((o ++ (⟨#[125, 93]⟩ : ByteArray)).data.toList = st (s.data.toList.take (k + 1))) := Lib.hid (by rw [app_list, HO.out, HS.out, h5]; rfl)
        have z2 : (⟨#[125, 93]⟩ : ByteArray).size = 2 := rfl
        clear h5 h6
        go_wp2
        go_round
        case rel => exact ⟨k + 1, _, by omega, by go_num, rfl, by rw [← size_toList, HN.out]; exact HZ.out, HN⟩
        case measure => simp [intOf]; omega
      · have q1 : ((s[k].toNat : Int) == 125) = false := by rw [beq_eq_false_iff_ne]; exact fun e => h5 (UInt8.toNat_inj.1 (by show s[k].toNat = 125; omega))
        obtain ⟨e1, e2⟩ := ext_one s k hlt
        obtain ⟨x, hx⟩ : ∃ x, s.extract k (k + 1) = x := ⟨_, rfl⟩
        rw [hx] at e1 e2
        have HN : Hid ((o ++ x).data.toList = st (s.data.toList.take (k + 1))) := Lib.hid (by rw [app_list, HO.out, HS.out, e1, st1_plain h6 h5])
        clear h5 h6 e1
        go_wp2
        go_round
        case rel => exact ⟨k + 1, _, by omega, by go_num, rfl, by rw [← size_toList, HN.out]; exact HZ.out, HN⟩
        case measure => simp [intOf]; omega
    · have HN : Hid (o.data.toList = st s.data.toList) := Lib.hid (by rw [HO.out, List.take_of_length_le (by rw [size_toList]; omega)])
      go_wp2
      go_ret
      exact ⟨ret_stB HN.out, rfl⟩
set_option maxHeartbeats 1000000 in
theorem runstuff (s : ByteArray) (hs : s.size ≤ 100000) (w : World) :
    Calls Tryd.prog 16 #[.string s] w fun e w' => e = .returned (unV s) ∧ w = w' := by
  go_enter Tryd.func16, Tryd.ntmps16
  go_wp2
  go_loop [4, 5] (fun t i => ∃ (k : Nat) (o : ByteArray), k ≤ s.size ∧ i = .int .i64 (k : Int) ∧ t = .string o ∧ o.size ≤ k ∧ Hid (un s.data.toList = (un (s.data.toList.drop k)).map (o.data.toList ++ ·))) (fun _ i => s.size - (intOf i).toNat)
  case atStart => exact ⟨0, ⟨#[]⟩, by omega, rfl, rfl, by decide, Lib.hid (by simp)⟩
  case round =>
    obtain ⟨k, o, hk, rfl, rfl, hoz, HU⟩ := hrel
    by_cases hlt : k < s.size
    · have hb := oct_lt s[k]
      have HD : Hid (s.data.toList.drop k = s[k] :: s.data.toList.drop (k + 1)) := Lib.hid (drop_at s k hlt)
      by_cases h6 : s[k] = 126
      · have q : ((s[k].toNat : Int) == 126) = true := by rw [h6]; rfl
        have HN : Hid (un s.data.toList = none) := Lib.hid (by rw [HU.out, HD.out, h6, un_flag]; rfl)
        clear h6
        go_wp2
        go_ret2
        exact ⟨by rw [unV_none HN.out]; rfl, rfl⟩
      have q : ((s[k].toNat : Int) == 126) = false := by rw [beq_eq_false_iff_ne]; exact fun e => h6 (UInt8.toNat_inj.1 (by show s[k].toNat = 126; omega))
      by_cases h5 : s[k] = 125
      · have q1 : ((s[k].toNat : Int) == 125) = true := by rw [h5]; rfl
        have q1' : ((s[k].toNat : Int) != 125) = false := by rw [h5]; rfl
        by_cases hend : k + 1 = s.size
        · have HN : Hid (un s.data.toList = none) := Lib.hid (by rw [HU.out, HD.out, h5, drop_end s (k + 1) (by omega), un_end]; rfl)
          have qe : decide (((k : Int) + 1) < (s.size : Int)) = false := by simp; omega
          clear h5
          go_wp2
          go_ret2
          exact ⟨by rw [unV_none HN.out]; rfl, rfl⟩
        · have hlt1 : k + 1 < s.size := by omega
          have qe : decide (((k : Int) + 1) < (s.size : Int)) = true := by simp; omega
          have HD1 : Hid (s.data.toList.drop (k + 1) = s[k + 1] :: s.data.toList.drop (k + 2)) := Lib.hid (drop_at s (k + 1) hlt1)
          have hb1 := oct_lt s[k + 1]
          clear hend
          by_cases hd : s[k + 1] = 94
          · have x1 : ((s[k + 1].toNat : Int) == 94) = true := by rw [hd]; rfl
            have HS : Hid (un s.data.toList = (un (s.data.toList.drop (k + 2))).map ((o ++ (⟨#[126]⟩ : ByteArray)).data.toList ++ ·)) := Lib.hid (by rw [HU.out, HD.out, h5, HD1.out, hd, un_e, app_list, ← map_app]; rfl)
            have z2 : (⟨#[126]⟩ : ByteArray).size = 1 := rfl
            clear h5 hd
            go_wp2
            go_round
            case rel => exact ⟨k + 2, _, by omega, by go_num, rfl, by rw [ByteArray.size_append]; omega, HS⟩
            case measure => simp [intOf]; omega
          have x1 : ((s[k + 1].toNat : Int) == 94) = false := by rw [beq_eq_false_iff_ne]; exact fun e => hd (UInt8.toNat_inj.1 (by show s[k + 1].toNat = 94; omega))
          by_cases hd3 : s[k + 1] = 93
          · have x2 : ((s[k + 1].toNat : Int) == 93) = true := by rw [hd3]; rfl
            have HS : Hid (un s.data.toList = (un (s.data.toList.drop (k + 2))).map ((o ++ (⟨#[125]⟩ : ByteArray)).data.toList ++ ·)) := Lib.hid (by rw [HU.out, HD.out, h5, HD1.out, hd3, un_d, app_list, ← map_app]; rfl)
            have z2 : (⟨#[125]⟩ : ByteArray).size = 1 := rfl
            clear h5 hd hd3
            go_wp2
            go_round
            case rel => exact ⟨k + 2, _, by omega, by go_num, rfl, by rw [ByteArray.size_append]; omega, HS⟩
            case measure => simp [intOf]; omega
          · have x2 : ((s[k + 1].toNat : Int) == 93) = false := by rw [beq_eq_false_iff_ne]; exact fun e => hd3 (UInt8.toNat_inj.1 (by show s[k + 1].toNat = 93; omega))
            have HN : Hid (un s.data.toList = none) := Lib.hid (by rw [HU.out, HD.out, h5, HD1.out, un_esc hd hd3]; rfl)
            clear h5 hd hd3
            go_wp2
            go_ret2
            exact ⟨by rw [unV_none HN.out]; rfl, rfl⟩
      · have q1 : ((s[k].toNat : Int) == 125) = false := by rw [beq_eq_false_iff_ne]; exact fun e => h5 (UInt8.toNat_inj.1 (by show s[k].toNat = 125; omega))
        have q1' : ((s[k].toNat : Int) != 125) = true := by rw [bne, q1]; rfl
        obtain ⟨e1, e2⟩ := ext_one s k hlt
        obtain ⟨x, hx⟩ : ∃ x, s.extract k (k + 1) = x := ⟨_, rfl⟩
        rw [hx] at e1 e2
        have HS : Hid (un s.data.toList = (un (s.data.toList.drop (k + 1))).map ((o ++ x).data.toList ++ ·)) := Lib.hid (by rw [HU.out, HD.out, un_plain h6 h5, app_list, e1, ← map_app]; rfl)
        clear h5 h6 e1
        go_wp2
        go_round
        case rel => exact ⟨k + 1, _, by omega, by go_num, rfl, by rw [ByteArray.size_append]; omega, HS⟩
        case measure => simp [intOf]; omega
    · have HN : Hid (un s.data.toList = some o.data.toList) := Lib.hid (by rw [HU.out, drop_end s k (by omega)]; simp [un])
      go_wp2
      go_ret2
      exact ⟨by rw [unV_some HN.out]; rfl, rfl⟩
end Go.Proofs.YtgikdcamppcphaaDoor.Adv

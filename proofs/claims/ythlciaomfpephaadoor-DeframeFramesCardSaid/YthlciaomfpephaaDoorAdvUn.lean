/-
  What layer 5's Stuff and Unstuff answer. Condition: at most 100000 octets.
-/
import Derived.Test.YthlciaomfpephaaDoorAdvPut
import Derived.Deep.LoopGhost
namespace Go.Proofs.YthlciaomfpephaaDoor.Adv
open Go.RowKit Go.Proofs.YthlciaomfpephaaDoor.Base Go.Proofs.YthlciaomfpephaaDoor.Ea Go.Proofs.YthlciaomfpephaaDoor.Field Go.Proofs.YthlciaomfpephaaDoor.Basic
theorem row_cells {w : World} {b : Nat} {l : List UInt8} (h : Row w b l) : Cells w b l := fun i hi => h.cell i hi
/-- A string becomes a row, in a new block. -/
theorem bytes_new (w : World) (s : ByteArray) (n : Nat) (hn : s.size = n) : ∃ W1 cap, (convert 9 42 (.string s)).run Tryd.prog w = .ok (.slice (some ⟨w.heap.size, 0, none⟩) n cap) W1 ∧ Hid (Cells W1 w.heap.size s.data.toList) ∧ Hid (Below w.heap.size w W1) ∧ Hid (w.heap.size < W1.heap.size) := by
  subst hn
  exact ⟨_, _, Lib.run_convert_string_bytes (P := Tryd.prog) w 9 42 5 s Tryd.underlying9 Tryd.underlying42 Tryd.underlying5,
    Lib.hid (fun i hi => Lib.bytesWorld_cell w 5 s i (by simpa using hi)), Lib.hid (below_bytes w 5 s), Lib.hid (by rw [Lib.bytesWorld_size]; omega)⟩
/-- What Unstuff answers. -/
def unV (s : ByteArray) : Value := match un s.data.toList with
  | some m => .tuple #[.string ⟨m.toArray⟩, .bool true]
  | none => .tuple #[.string ⟨#[]⟩, .bool false]
theorem unV_some {s : ByteArray} {m : List UInt8} (h : un s.data.toList = some m) : unV s = .tuple #[.string ⟨m.toArray⟩, .bool true] := by simp [unV, h]
theorem unV_none {s : ByteArray} (h : un s.data.toList = none) : unV s = .tuple #[.string ⟨#[]⟩, .bool false] := by simp [unV, h]
theorem drop_at (s : ByteArray) (k : Nat) (h : k < s.size) : s.data.toList.drop k = s[k] :: s.data.toList.drop (k + 1) := List.drop_eq_getElem_cons (by simpa using h)
theorem drop_end (s : ByteArray) (k : Nat) (h : s.size ≤ k) : s.data.toList.drop k = [] := List.drop_eq_nil_of_le (by rw [size_toList]; exact h)
theorem not_sp {d : UInt8} (h : d ≠ 94) (h1 : d ≠ 93) : isSp (d.toNat ^^^ 32) = false := by
  have : ∀ j : Fin 256, j.val ≠ 94 → j.val ≠ 93 → isSp (j.val ^^^ 32) = false := by decide +kernel
  exact this ⟨d.toNat, oct_lt d⟩ (fun k => h (UInt8.toNat_inj.1 k)) (fun k => h1 (UInt8.toNat_inj.1 k))
theorem special_not {d : UInt8} (h : d ≠ 94) (h1 : d ≠ 93) (w : World) : Calls Tryd.prog 40 #[.int .u8 ((d.toNat ^^^ 32 : Nat) : Int)] w fun e w' => e = .returned (.bool false) ∧ w = w' := by
  have p := isSpecial (d.toNat ^^^ 32) w
  rw [not_sp h h1] at p
  exact p
theorem map_app (o : Option (List UInt8)) (a b : List UInt8) : (o.map (b ++ ·)).map (a ++ ·) = o.map ((a ++ b) ++ ·) := by cases o <;> simp
set_option maxHeartbeats 1000000 in
theorem unstuff (s : ByteArray) (hs : s.size ≤ 100000) (w : World) :
    Calls Tryd.prog 55 #[.string s] w fun e w' => e = .returned (unV s) ∧ Below w.heap.size w w' := by
  obtain ⟨i0, hi, hz0, hz1, hz2⟩ := info_parts infoU
  go_enter Tryd.func55, Tryd.ntmps55
  go_wp2
  go_step3
  go_wp2_with (at_make; refine wpList_make_own _ rfl _ _ 42 rfl w.heap.size 5 i0 (.int .u8 0) 1 Tryd.underlying42 hi hz0 hz1 .i64 .i64 _ s.size rfl rfl rfl (by rw [hz2]; omega) (by unfold maxLen; omega) (Nat.le_refl _) ?_; intro w0 hown0 hgrow0; have HO := Lib.hid (own_made hown0); have HB := Lib.hid ((Below.refl w.heap.size w).grown hgrow0 (Nat.le_refl _) (by simp)); clear hown0 hgrow0)
  clear hi hz0 hz1 hz2 i0
  go_step3
  go_wp2
  go_loopw [4, 5] (fun t i wr => ∃ (k : Nat) (out : List UInt8), k ≤ s.size ∧ i = .int .i64 (k : Int) ∧ out.length ≤ k ∧ Hid (Own wr w.heap.size t out) ∧ Hid (un s.data.toList = (un (s.data.toList.drop k)).map (out ++ ·)) ∧ Hid (Below w.heap.size w wr)) (fun _ i _ => s.size - (intOf i).toNat)
  case atStart => exact ⟨0, [], by omega, rfl, by simp, HO, Lib.hid (by simp), HB⟩
  case round =>
    obtain ⟨k, out, hk, rfl, hol, HO, HU, HB⟩ := hrel
    by_cases hlt : k < s.size
    · have hb := oct_lt s[k]
      have HD : Hid (s.data.toList.drop k = s[k] :: s.data.toList.drop (k + 1)) := Lib.hid (drop_at s k hlt)
      by_cases h6 : s[k] = 126
      · have HN : Hid (un s.data.toList = none) := Lib.hid (by rw [HU.out, HD.out, h6, un_flag]; rfl)
        have q : ((s[k].toNat : Int) == 126) = true := by rw [h6]; rfl
        clear h6
        go_wp2
        rw [Exit.noGoto_ret]
        go_ret2
        exact ⟨by rw [unV_none HN.out]; rfl, HB.out⟩
      have q : ((s[k].toNat : Int) == 126) = false := by rw [beq_eq_false_iff_ne]; exact fun e => h6 (UInt8.toNat_inj.1 (by show s[k].toNat = 126; omega))
      by_cases h5 : s[k] = 125
      · have q1 : ((s[k].toNat : Int) == 125) = true := by rw [h5]; rfl
        by_cases hend : k + 1 = s.size
        · have HN : Hid (un s.data.toList = none) := Lib.hid (by rw [HU.out, HD.out, h5, drop_end s (k + 1) (by omega), un_end]; rfl)
          have qe : (((k : Int) + 1) == (s.size : Int)) = true := by rw [beq_iff_eq]; omega
          clear h5
          go_wp2
          rw [Exit.noGoto_ret]
          go_ret2
          exact ⟨by rw [unV_none HN.out]; rfl, HB.out⟩
        · have hlt1 : k + 1 < s.size := by omega
          have qe : (((k : Int) + 1) == (s.size : Int)) = false := by rw [beq_eq_false_iff_ne]; omega
          have HD1 : Hid (s.data.toList.drop (k + 1) = s[k + 1] :: s.data.toList.drop (k + 2)) := Lib.hid (drop_at s (k + 1) hlt1)
          have hb1 := oct_lt s[k + 1]
          clear hend
          by_cases hd : s[k + 1] = 94
          · have hx : bits .xor .u8 (s[k + 1].toNat : Int) 32 = 126 := by rw [hd]; decide
            have HS : Hid (un s.data.toList = (un (s.data.toList.drop (k + 2))).map ((out ++ [126]) ++ ·)) := Lib.hid (by rw [HU.out, HD.out, h5, HD1.out, hd, un_e, ← map_app]; rfl)
            clear h5 hd
            go_wp2_with (first
              | (go_at_call 40; ((with_reducible refine (special126 _).mono ?_); rintro e w' ⟨rfl, rfl⟩))
              | (at_builtin; refine wpList_append_bytes _ rfl _ _ rfl w.heap.size _ rfl _ (HO.out.alloc _) _ _ _ rfl [126] rfl (fun i hi => by match i, hi with | 0, _ => exact cell_new _ _ _ 0) (by simp; omega) (by have := HB.out.size; simp; omega) ?_; intro v2 w2 ho hg hv; have HO2 := Lib.hid ho; have HB2 := Lib.hid ((HB.out.alloc HB.out.size _).grown hg (by have := HB.out.size; simp; omega) (fun k hk => (HO.out.lt k hk).1)); clear ho hg hv))
            go_roundw
            case rel => exact ⟨k + 2, out ++ [126], by omega, by go_num, by simp; omega, HO2, HS, HB2⟩
            case measure => simp [intOf]; omega
          by_cases hd3 : s[k + 1] = 93
          · have hd := hd3
            clear hd3
            have hx : bits .xor .u8 (s[k + 1].toNat : Int) 32 = 125 := by rw [hd]; decide
            have HS : Hid (un s.data.toList = (un (s.data.toList.drop (k + 2))).map ((out ++ [125]) ++ ·)) := Lib.hid (by rw [HU.out, HD.out, h5, HD1.out, hd, un_d, ← map_app]; rfl)
            clear h5 hd
            go_wp2_with (first
              | (go_at_call 40; ((with_reducible refine (special125 _).mono ?_); rintro e w' ⟨rfl, rfl⟩))
              | (at_builtin; refine wpList_append_bytes _ rfl _ _ rfl w.heap.size _ rfl _ (HO.out.alloc _) _ _ _ rfl [125] rfl (fun i hi => by match i, hi with | 0, _ => exact cell_new _ _ _ 0) (by simp; omega) (by have := HB.out.size; simp; omega) ?_; intro v2 w2 ho hg hv; have HO2 := Lib.hid ho; have HB2 := Lib.hid ((HB.out.alloc HB.out.size _).grown hg (by have := HB.out.size; simp; omega) (fun k hk => (HO.out.lt k hk).1)); clear ho hg hv))
            go_roundw
            case rel => exact ⟨k + 2, out ++ [125], by omega, by go_num, by simp; omega, HO2, HS, HB2⟩
            case measure => simp [intOf]; omega
          · have HN : Hid (un s.data.toList = none) := Lib.hid (by rw [HU.out, HD.out, h5, HD1.out, un_esc hd hd3]; rfl)
            have HC := Lib.hid (special_not hd hd3)
            have hx : bits .xor .u8 (s[k + 1].toNat : Int) 32 = ((s[k + 1].toNat ^^^ 32 : Nat) : Int) := u8_xor_nat _ _ hb1 (by decide)
            clear h5 hd hd3
            go_wp2_with (go_at_call 40; ((with_reducible refine (HC.out _).mono ?_); rintro e w' ⟨rfl, rfl⟩))
            rw [Exit.noGoto_ret]
            go_ret2
            exact ⟨by rw [unV_none HN.out]; rfl, HB.out⟩
      · have q1 : ((s[k].toNat : Int) == 125) = false := by rw [beq_eq_false_iff_ne]; exact fun e => h5 (UInt8.toNat_inj.1 (by show s[k].toNat = 125; omega))
        have HS : Hid (un s.data.toList = (un (s.data.toList.drop (k + 1))).map ((out ++ [s[k]]) ++ ·)) := Lib.hid (by rw [HU.out, HD.out, un_plain h6 h5, ← map_app]; rfl)
        clear h5 h6
        go_wp2_with (at_builtin; refine wpList_append_bytes _ rfl _ _ rfl w.heap.size _ rfl _ (HO.out.alloc _) _ _ _ rfl [s[k]] rfl (fun i hi => by match i, hi with | 0, _ => exact cell_new _ _ _ 0) (by simp; omega) (by have := HB.out.size; simp; omega) ?_; intro v2 w2 ho hg hv; have HO2 := Lib.hid ho; have HB2 := Lib.hid ((HB.out.alloc HB.out.size _).grown hg (by have := HB.out.size; simp; omega) (fun k hk => (HO.out.lt k hk).1)); clear ho hg hv)
        go_roundw
        case rel => exact ⟨k + 1, out ++ [s[k]], by omega, by go_num, by simp; omega, HO2, HS, HB2⟩
        case measure => simp [intOf]; omega
    · have HN : Hid (un s.data.toList = some out) := Lib.hid (by rw [HU.out, drop_end s k (by omega)]; simp [un])
      have hcv := HO.out.conv
      go_wp2
      rw [Exit.noGoto_ret]
      go_ret2
      exact ⟨by rw [unV_some HN.out]; rfl, HB.out⟩
end Go.Proofs.YthlciaomfpephaaDoor.Adv

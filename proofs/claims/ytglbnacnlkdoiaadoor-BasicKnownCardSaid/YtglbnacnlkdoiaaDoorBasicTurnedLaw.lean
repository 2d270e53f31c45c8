/-
  BasicTurned answers true for every frame, every place, bits and cut, and turns nothing that was there. Condition: the tables of layers 1 and 3 lie where the program lays them.
-/
import Derived.Test.YtglbnacnlkdoiaaDoorBasicTurned1
import Derived.Test.YtglbnacnlkdoiaaDoorBasicTurned2
namespace Go.Proofs.YtglbnacnlkdoiaaDoor.Basic
open Go.RowKit Go.Proofs.YtglbnacnlkdoiaaDoor.Base Go.Proofs.YtglbnacnlkdoiaaDoor.Ea Go.Proofs.YtglbnacnlkdoiaaDoor.Field
theorem shifted_lt (b f : Nat) (hb : b < 256) (hf : f < 8) : b * 2 ^ f < 65536 := by
  have : ∀ (j : Fin 8), 2 ^ j.val ≤ 128 := by decide
  have h := this ⟨f, hf⟩
  exact Nat.lt_of_le_of_lt (Nat.mul_le_mul (show b ≤ 255 by omega) h) (by decide)
theorem wrap16 (b f : Nat) (hb : b < 256) : IntKind.u16.wrap ((b : Int) * 2 ^ (f % 8)) = ((b * 2 ^ (f % 8) : Nat) : Int) := by
  have hl := shifted_lt b (f % 8) hb (Nat.mod_lt _ (by decide))
  rw [IntKind.wrap_u16]
  have e : (b : Int) * 2 ^ (f % 8) = ((b * 2 ^ (f % 8) : Nat) : Int) := by simp
  rw [e]
  omega
set_option maxHeartbeats 1000000 in
set_option maxRecDepth 100000 in
theorem turned_no (f : Fr) (ini : Bool) (pl : Int) (bs fr cut : Nat) (w : World) (ht : Tabs w) (r : Int) (hr : r ≠ 0) (e1 : EncNo f ini 128 r) :
    Calls Tryd.prog 6 #[fv f, .bool ini, .int .i64 pl, .int .u8 (bs : Int), .int .u8 (fr : Int), .int .u8 (cut : Int)] w fun e w' => e = .returned (.bool true) ∧ Below w.heap.size w w' := by
  have HT := Lib.hid ht
  have E1 := Lib.hid e1
  clear ht e1
  have r0 : (r == 0) = false := by rw [beq_eq_false_iff_ne]; exact hr
  have r1 : (r != 0) = true := by rw [bne_iff_ne]; exact hr
  clear hr
  go_enter Tryd.func6, Tryd.ntmps6
  go_wp2_with (first
    | (go_at_call 9; ((with_reducible refine (E1.out.at _ ?_).mono ?_); (· exact tabs1 HT.out (Below.refl _ _)); rintro e wa ⟨rfl, hb⟩; have BA := Lib.hid (on1 (Below.refl w.heap.size w) hb); clear hb))
    | (go_at_call 8; ((with_reducible refine (works _ ?_).mono ?_); (· exact tabs_below HT.out BA.out); rintro e we ⟨rfl, hb⟩; have BE := Lib.hid (below_on' BA.out hb); clear hb)))
  go_ret
  exact ⟨rfl, BE.out⟩
set_option maxHeartbeats 1000000 in
set_option maxRecDepth 100000 in
theorem turned_none (f : Fr) (ini : Bool) (pl : Int) (fr cut : Nat) (w : World) (ht : Tabs w) (T : ByteArray) (e1 : EncOk f ini 128 T) :
    Calls Tryd.prog 6 #[fv f, .bool ini, .int .i64 pl, .int .u8 ((0 : Nat) : Int), .int .u8 (fr : Int), .int .u8 (cut : Int)] w fun e w' => e = .returned (.bool true) ∧ Below w.heap.size w w' := by
  have HT := Lib.hid ht
  have E1 := Lib.hid e1
  clear ht e1
  go_enter Tryd.func6, Tryd.ntmps6
  go_wp2_with (first
    | (go_at_call 9; ((with_reducible refine (E1.out.at _ ?_).mono ?_); (· exact tabs1 HT.out (Below.refl _ _)); rintro e wa ⟨rfl, hb⟩; have BA := Lib.hid (on1 (Below.refl w.heap.size w) hb); clear hb))
    | (go_at_call 8; ((with_reducible refine (works _ ?_).mono ?_); (· exact tabs_below HT.out BA.out); rintro e we ⟨rfl, hb⟩; have BE := Lib.hid (below_on' BA.out hb); clear hb)))
  go_ret
  exact ⟨rfl, BE.out⟩
set_option maxHeartbeats 1000000 in
theorem turned (f : Fr) (hf : f.In) (hl : f.info.size ≤ maxLen) (ini : Bool) (pl : Int) (bs fr cut : Nat) (hb2 : bs < 256) (hcut : cut < 256) (w : World) (ht : Tabs w) :
    Calls Tryd.prog 6 #[fv f, .bool ini, .int .i64 pl, .int .u8 (bs : Int), .int .u8 (fr : Int), .int .u8 (cut : Int)] w fun e w' => e = .returned (.bool true) ∧ Below w.heap.size w w' := by
  rcases enc_cases f hf hl ini 128 with ⟨r, hr, e1⟩ | ⟨he, e1⟩
  · exact turned_no f ini pl bs fr cut w ht r hr e1
  by_cases hb : bs = 0
  · subst hb
    exact turned_none f ini pl fr cut w ht _ e1
  obtain ⟨hbd, _, _⟩ := enc_dec he
  have h128 : f.info.size ≤ 128 := by
    have := (e_ok he).2.2.2
    have := room_le 128
    omega
  have hsz := hbd.size
  have hls := len_sz f.info.size (by omega)
  have hT := bytes_size f ini
  have P : ∀ q : Nat, 1 ≤ q → q < (f.bytes ini).size - 1 → DecNo ((f.bytes ini).extract 1 q) ini 128 40 := fun q h1 h2 => piece_dec f ini he q h1 h2
  have M := more_dec f ini he
  have hS := body_in f ini
  have key : ∀ row : List UInt8, row.length = (f.body ini).size → row ≠ (f.body ini).data.toList → (∃ r, r ≠ 0 ∧ DecNo ⟨row.toArray⟩ ini 128 r) ∨ (∃ g : Fr, eqF g f = false ∧ DecOk ⟨row.toArray⟩ ini 128 g) := fun row hlen hne =>
    turned_dec f ini ⟨row.toArray⟩ (fun e => hne (by have := congrArg (fun b : ByteArray => b.data.toList) e; simpa using this)) (by show row.toArray.size ≤ _; unfold maxLen; simp; split at hls <;> omega)
  generalize f.bytes ini = T at *
  generalize f.body ini = S at *
  clear hbd he hf hl
  obtain ⟨n, hn⟩ : ∃ n, S.size = n := ⟨_, rfl⟩
  obtain ⟨z, hz'⟩ : ∃ z, n - 1 = z := ⟨_, rfl⟩
  obtain ⟨hd, hhd⟩ : ∃ hd, 3 + f.info.size / 128 = hd := ⟨_, rfl⟩
  rw [hn] at hT hsz
  have hn2 : 4 ≤ n ∧ n ≤ 140 ∧ hd ≤ n - 1 := by split at hls <;> omega
  clear hsz hls
  have hz : (n : Int) - 1 = z := by omega
  have hh : 3 + (f.info.size : Int) / 128 = (hd : Int) := by omega
  obtain ⟨tt, htt⟩ : ∃ tt, bs * 2 ^ (fr % 8) = tt := ⟨_, rfl⟩
  have hw := wrap16 bs fr hb2
  have hlt := shifted_lt bs (fr % 8) hb2 (Nat.mod_lt _ (by decide))
  have ht0 : tt ≠ 0 := by
    rw [← htt]
    exact Nat.mul_ne_zero hb (Nat.pos_iff_ne_zero.1 (Nat.two_pow_pos _))
  rw [htt] at hw hlt
  clear htt
  obtain ⟨c, hc'⟩ : ∃ c, cut % (T.size - 3) = c := ⟨_, rfl⟩
  have hcl : c < T.size - 3 := by rw [← hc']; exact Nat.mod_lt _ (by omega)
  have hc : (cut : Int) % ((T.size : Int) - 3) = (c : Int) := by
    rw [show (T.size : Int) - 3 = ((T.size - 3 : Nat) : Int) by omega, ← hc']; rfl
  obtain ⟨q, hq'⟩ : ∃ q, T.size - 2 - c = q := ⟨_, rfl⟩
  have hq : (T.size : Int) - 1 - 1 - (c : Int) = (q : Int) := by omega
  have P := P q (by omega) (by omega)
  clear hc'
  have u8l : ∀ j : Nat, (S.data.toList.getD j 0).toNat < 256 := fun j => Fcs.u8_lt _
  have hlen : S.data.toList.length = n := hn
  have htq : tt / 256 < 256 := by omega
  by_cases k : f.k = 5
  · have k5 : ((f.k : Int) == 5) = true := by rw [beq_iff_eq]; omega
    have hp : (0 : Int) < (hd : Int) := by omega
    obtain ⟨i, hi'⟩ : ∃ i, place pl hd = i := ⟨_, rfl⟩
    have hil := place_lt pl hd hp
    have pk : ∀ w, Calls Tryd.prog 15 #[.int .i64 pl, .int .i64 (hd : Int)] w fun e w' => e = .returned (.int .i64 (i : Int)) ∧ w = w' := fun w => by
      have r := pick pl hd hp (by omega) w
      rw [hi'] at r
      exact r
    rw [hi'] at hil
    clear hi'
    have hi : i < hd := by omega
    obtain ⟨x, hx⟩ : ∃ x, (S.data.toList.getD i 0).toNat = x := ⟨_, rfl⟩
    have hxl : x < 256 := hx ▸ u8l _
    have he1 : bits .xor .u8 (x : Int) ((tt : Int) % 256) = ((x ^^^ tt % 256 : Nat) : Int) := u8_xor_nat x _ hxl (Nat.mod_lt _ (by decide))
    have ho1 := Fcs.xor_lt x (tt % 256) hxl (Nat.mod_lt _ (by decide))
    by_cases hlt1 : i + 1 < hd
    · obtain ⟨y, hy⟩ : ∃ y, (S.data.toList.getD (i + 1) 0).toNat = y := ⟨_, rfl⟩
      have hyl : y < 256 := hy ▸ u8l _
      have he2 : bits .xor .u8 (y : Int) ((tt : Int) / 256) = ((y ^^^ tt / 256 : Nat) : Int) := u8_xor_nat y _ hyl htq
      have ho2 := Fcs.xor_lt y (tt / 256) hyl htq
      have hne : ((S.data.toList.set i (UInt8.ofNat (x ^^^ tt % 256))).set (i + 1) (UInt8.ofNat (y ^^^ tt / 256))) ≠ S.data.toList := set_ne2 _ i (i + 1) _ x _ y (by omega) (by omega) (by omega) hx hy ho1 ho2 (by by_cases h : tt % 256 = 0; exact .inr (xor_ne _ _ (by omega)); exact .inl (xor_ne _ _ h))
      rcases key _ (by rw [List.length_set, List.length_set, hlen]; exact hn.symm) hne with ⟨r, hr, D⟩ | ⟨g, hg, D⟩
      · exact turn_Xun f ini pl bs fr cut w ht T S n z hd i x _ tt c q e1 (by omega) (by omega) hS hn (by omega) (by omega) hz hi (by omega) h128 hb hb2 hcut pk hw hlt hx he1 ho1 hc hq (by omega) (by omega) P M k5 hh hlt1 y _ hy he2 ho2 _ rfl r hr D
      · exact turn_Xuo f ini pl bs fr cut w ht T S n z hd i x _ tt c q e1 (by omega) (by omega) hS hn (by omega) (by omega) hz hi (by omega) h128 hb hb2 hcut pk hw hlt hx he1 ho1 hc hq (by omega) (by omega) P M k5 hh hlt1 y _ hy he2 ho2 _ rfl g hg D
    · by_cases h0 : tt % 256 = 0
      · obtain ⟨y, hy⟩ : ∃ y, (S.data.toList.getD z 0).toNat = y := ⟨_, rfl⟩
        have hyl : y < 256 := hy ▸ u8l _
        have he2 : bits .xor .u8 (y : Int) ((tt : Int) / 256) = ((y ^^^ tt / 256 : Nat) : Int) := u8_xor_nat y _ hyl htq
        have ho2 := Fcs.xor_lt y (tt / 256) hyl htq
        have l0 : (tt : Int) % 256 = 0 := by omega
        have he0 := he1
        rw [l0] at he0
        have hne : ((S.data.toList.set i (UInt8.ofNat (x ^^^ tt % 256))).set z (UInt8.ofNat (y ^^^ tt / 256))) ≠ S.data.toList := set_ne2 _ i z _ x _ y (by omega) (by omega) (by omega) hx hy ho1 ho2 (.inr (xor_ne _ _ (by omega)))
        rcases key _ (by rw [List.length_set, List.length_set, hlen]; exact hn.symm) hne with ⟨r, hr, D⟩ | ⟨g, hg, D⟩
        · exact turn_Yun f ini pl bs fr cut w ht T S n z hd i x _ tt c q e1 (by omega) (by omega) hS hn (by omega) (by omega) hz hi (by omega) h128 hb hb2 hcut pk hw hlt hx he0 ho1 hc hq (by omega) (by omega) P M k5 hh hlt1 l0 y _ hy he2 ho2 _ rfl r hr D
        · exact turn_Yuo f ini pl bs fr cut w ht T S n z hd i x _ tt c q e1 (by omega) (by omega) hS hn (by omega) (by omega) hz hi (by omega) h128 hb hb2 hcut pk hw hlt hx he0 ho1 hc hq (by omega) (by omega) P M k5 hh hlt1 l0 y _ hy he2 ho2 _ rfl g hg D
      · have l0 : ((tt : Int) % 256 == 0) = false := by rw [beq_eq_false_iff_ne]; omega
        have hne : (S.data.toList.set i (UInt8.ofNat (x ^^^ tt % 256))) ≠ S.data.toList := set_ne _ i _ x (by omega) hx ho1 (xor_ne _ _ h0)
        rcases key _ (by rw [List.length_set, hlen]; exact hn.symm) hne with ⟨r, hr, D⟩ | ⟨g, hg, D⟩
        · exact turn_Zun f ini pl bs fr cut w ht T S n z hd i x _ tt c q e1 (by omega) (by omega) hS hn (by omega) (by omega) hz hi (by omega) h128 hb hb2 hcut pk hw hlt hx he1 ho1 hc hq (by omega) (by omega) P M k5 hh hlt1 l0 _ rfl r hr D
        · exact turn_Zuo f ini pl bs fr cut w ht T S n z hd i x _ tt c q e1 (by omega) (by omega) hS hn (by omega) (by omega) hz hi (by omega) h128 hb hb2 hcut pk hw hlt hx he1 ho1 hc hq (by omega) (by omega) P M k5 hh hlt1 l0 _ rfl g hg D
  · have k5 : ((f.k : Int) == 5) = false := by rw [beq_eq_false_iff_ne]; omega
    have hp : (0 : Int) < (z : Int) := by omega
    obtain ⟨i, hi'⟩ : ∃ i, place pl z = i := ⟨_, rfl⟩
    have hil := place_lt pl z hp
    have pk : ∀ w, Calls Tryd.prog 15 #[.int .i64 pl, .int .i64 (z : Int)] w fun e w' => e = .returned (.int .i64 (i : Int)) ∧ w = w' := fun w => by
      have r := pick pl z hp (by omega) w
      rw [hi'] at r
      exact r
    rw [hi'] at hil
    clear hi'
    have hi : i < z := by omega
    obtain ⟨x, hx⟩ : ∃ x, (S.data.toList.getD i 0).toNat = x := ⟨_, rfl⟩
    have hxl : x < 256 := hx ▸ u8l _
    have he1 : bits .xor .u8 (x : Int) ((tt : Int) % 256) = ((x ^^^ tt % 256 : Nat) : Int) := u8_xor_nat x _ hxl (Nat.mod_lt _ (by decide))
    have ho1 := Fcs.xor_lt x (tt % 256) hxl (Nat.mod_lt _ (by decide))
    by_cases hlt1 : i + 1 < z
    · obtain ⟨y, hy⟩ : ∃ y, (S.data.toList.getD (i + 1) 0).toNat = y := ⟨_, rfl⟩
      have hyl : y < 256 := hy ▸ u8l _
      have he2 : bits .xor .u8 (y : Int) ((tt : Int) / 256) = ((y ^^^ tt / 256 : Nat) : Int) := u8_xor_nat y _ hyl htq
      have ho2 := Fcs.xor_lt y (tt / 256) hyl htq
      have hne : ((S.data.toList.set i (UInt8.ofNat (x ^^^ tt % 256))).set (i + 1) (UInt8.ofNat (y ^^^ tt / 256))) ≠ S.data.toList := set_ne2 _ i (i + 1) _ x _ y (by omega) (by omega) (by omega) hx hy ho1 ho2 (by by_cases h : tt % 256 = 0; exact .inr (xor_ne _ _ (by omega)); exact .inl (xor_ne _ _ h))
      rcases key _ (by rw [List.length_set, List.length_set, hlen]; exact hn.symm) hne with ⟨r, hr, D⟩ | ⟨g, hg, D⟩
      · exact turn_Xin f ini pl bs fr cut w ht T S n z i x _ tt c q e1 (by omega) (by omega) hS hn (by omega) (by omega) hz hi h128 hb hb2 hcut pk hw hlt hx he1 ho1 hc hq (by omega) (by omega) P M k5 hd hh hlt1 y _ hy he2 ho2 _ rfl r hr D
      · exact turn_Xio f ini pl bs fr cut w ht T S n z i x _ tt c q e1 (by omega) (by omega) hS hn (by omega) (by omega) hz hi h128 hb hb2 hcut pk hw hlt hx he1 ho1 hc hq (by omega) (by omega) P M k5 hd hh hlt1 y _ hy he2 ho2 _ rfl g hg D
    · by_cases h0 : tt % 256 = 0
      · obtain ⟨y, hy⟩ : ∃ y, (S.data.toList.getD z 0).toNat = y := ⟨_, rfl⟩
        have hyl : y < 256 := hy ▸ u8l _
        have he2 : bits .xor .u8 (y : Int) ((tt : Int) / 256) = ((y ^^^ tt / 256 : Nat) : Int) := u8_xor_nat y _ hyl htq
        have ho2 := Fcs.xor_lt y (tt / 256) hyl htq
        have l0 : (tt : Int) % 256 = 0 := by omega
        have he0 := he1
        rw [l0] at he0
        have hne : ((S.data.toList.set i (UInt8.ofNat (x ^^^ tt % 256))).set z (UInt8.ofNat (y ^^^ tt / 256))) ≠ S.data.toList := set_ne2 _ i z _ x _ y (by omega) (by omega) (by omega) hx hy ho1 ho2 (.inr (xor_ne _ _ (by omega)))
        rcases key _ (by rw [List.length_set, List.length_set, hlen]; exact hn.symm) hne with ⟨r, hr, D⟩ | ⟨g, hg, D⟩
        · exact turn_Yin f ini pl bs fr cut w ht T S n z i x _ tt c q e1 (by omega) (by omega) hS hn (by omega) (by omega) hz hi h128 hb hb2 hcut pk hw hlt hx he0 ho1 hc hq (by omega) (by omega) P M k5 hd hh hlt1 l0 y _ hy he2 ho2 _ rfl r hr D
        · exact turn_Yio f ini pl bs fr cut w ht T S n z i x _ tt c q e1 (by omega) (by omega) hS hn (by omega) (by omega) hz hi h128 hb hb2 hcut pk hw hlt hx he0 ho1 hc hq (by omega) (by omega) P M k5 hd hh hlt1 l0 y _ hy he2 ho2 _ rfl g hg D
      · have l0 : ((tt : Int) % 256 == 0) = false := by rw [beq_eq_false_iff_ne]; omega
        have hne : (S.data.toList.set i (UInt8.ofNat (x ^^^ tt % 256))) ≠ S.data.toList := set_ne _ i _ x (by omega) hx ho1 (xor_ne _ _ h0)
        rcases key _ (by rw [List.length_set, hlen]; exact hn.symm) hne with ⟨r, hr, D⟩ | ⟨g, hg, D⟩
        · exact turn_Zin f ini pl bs fr cut w ht T S n z i x _ tt c q e1 (by omega) (by omega) hS hn (by omega) (by omega) hz hi h128 hb hb2 hcut pk hw hlt hx he1 ho1 hc hq (by omega) (by omega) P M k5 hd hh hlt1 l0 _ rfl r hr D
        · exact turn_Zio f ini pl bs fr cut w ht T S n z i x _ tt c q e1 (by omega) (by omega) hS hn (by omega) (by omega) hz hi h128 hb hb2 hcut pk hw hlt hx he1 ho1 hc hq (by omega) (by omega) P M k5 hd hh hlt1 l0 _ rfl g hg D
end Go.Proofs.YtglbnacnlkdoiaaDoor.Basic

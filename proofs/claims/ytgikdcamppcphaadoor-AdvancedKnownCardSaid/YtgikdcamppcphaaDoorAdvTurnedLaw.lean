/-
  AdvancedTurned answers true for every frame, and turns nothing that was there. Condition: the tables of layers 1 and 3 lie where the program lays them.
-/
import Derived.Test.YtgikdcamppcphaaDoorAdvTurnMath
namespace Go.Proofs.YtgikdcamppcphaaDoor.Adv
open Go.RowKit Go.Proofs.YtgikdcamppcphaaDoor.Base Go.Proofs.YtgikdcamppcphaaDoor.Ea Go.Proofs.YtgikdcamppcphaaDoor.Field Go.Proofs.YtgikdcamppcphaaDoor.Basic
set_option maxHeartbeats 1000000 in
theorem turn_early (f : Fr) (ini : Bool) (aa bb : Nat) (w : World) (ht : Tabs w) (h : f.info.size = 0 ∨ 128 < f.info.size ∨ f.k = 5) :
    Calls Tryd.prog 7 #[fv f, .bool ini, .int .u8 (aa : Int), .int .u8 (bb : Int)] w fun e w' => e = .returned (.bool true) ∧ Below w.heap.size w w' := by
  have HT := Lib.hid ht
  clear ht
  by_cases h0 : f.info.size = 0
  · have c0 : ((f.info.size : Int) == 0) = true := by rw [beq_iff_eq]; omega
    clear h h0
    go_enter Tryd.func7, Tryd.ntmps7
    go_wp2_with (go_at_call 9; ((with_reducible refine (works _ ?_).mono ?_); (· exact tabs1 HT.out (Below.refl _ _)); rintro e w1 ⟨rfl, hb⟩; have BA := Lib.hid (on1 (Below.refl w.heap.size w) hb); clear hb))
    go_ret
    exact ⟨rfl, BA.out⟩
  have c0 : ((f.info.size : Int) == 0) = false := by rw [beq_eq_false_iff_ne]; omega
  by_cases h1 : 128 < f.info.size
  · have c1 : decide ((128 : Int) < (f.info.size : Int)) = true := by simp; omega
    clear h h0
    go_enter Tryd.func7, Tryd.ntmps7
    go_wp2_with (go_at_call 9; ((with_reducible refine (works _ ?_).mono ?_); (· exact tabs1 HT.out (Below.refl _ _)); rintro e w1 ⟨rfl, hb⟩; have BA := Lib.hid (on1 (Below.refl w.heap.size w) hb); clear hb))
    go_ret
    exact ⟨rfl, BA.out⟩
  · have c1 : decide ((128 : Int) < (f.info.size : Int)) = false := by simp; omega
    have c2 : ((f.k : Int) == 5) = true := by rw [beq_iff_eq]; omega
    clear h h0
    go_enter Tryd.func7, Tryd.ntmps7
    go_wp2_with (go_at_call 9; ((with_reducible refine (works _ ?_).mono ?_); (· exact tabs1 HT.out (Below.refl _ _)); rintro e w1 ⟨rfl, hb⟩; have BA := Lib.hid (on1 (Below.refl w.heap.size w) hb); clear hb))
    go_ret
    exact ⟨rfl, BA.out⟩
set_option maxHeartbeats 1000000 in
theorem turn_special (f : Fr) (ini : Bool) (aa bb : Nat) (ha : aa < 256) (hb : bb < 256) (w : World) (ht : Tabs w) (h0 : 0 < f.info.size) (h1 : f.info.size ≤ 128) (h2 : f.k ≠ 5) (k ov nv : Nat) (hk : (aa : Int) % (f.info.size : Int) = (k : Int)) (hkl : k < f.info.size) (hov : (f.info[k]'hkl).toNat = ov) (hx : bits .xor .u8 (ov : Int) ((2 : Int) ^ (bb % 8) % 256) = (nv : Int)) (hs : ov = 126 ∨ ov = 125 ∨ nv = 126 ∨ nv = 125) :
    Calls Tryd.prog 7 #[fv f, .bool ini, .int .u8 (aa : Int), .int .u8 (bb : Int)] w fun e w' => e = .returned (.bool true) ∧ Below w.heap.size w w' := by
  have HT := Lib.hid ht
  clear ht
  have c0 : ((f.info.size : Int) == 0) = false := by rw [beq_eq_false_iff_ne]; omega
  have c1 : decide ((128 : Int) < (f.info.size : Int)) = false := by simp; omega
  have c2 : ((f.k : Int) == 5) = false := by rw [beq_eq_false_iff_ne]; omega
  by_cases h3 : ov = 126
  · have c3 : ((ov : Int) == 126) = true := by rw [beq_iff_eq]; omega
    clear hs h3
    go_enter Tryd.func7, Tryd.ntmps7
    go_wp2_with (go_at_call 9; ((with_reducible refine (works _ ?_).mono ?_); (· exact tabs1 HT.out (Below.refl _ _)); rintro e w1 ⟨rfl, hb⟩; have BA := Lib.hid (on1 (Below.refl w.heap.size w) hb); clear hb))
    go_ret
    exact ⟨rfl, BA.out⟩
  have c3 : ((ov : Int) == 126) = false := by rw [beq_eq_false_iff_ne]; omega
  by_cases h4 : ov = 125
  · have c4 : ((ov : Int) == 125) = true := by rw [beq_iff_eq]; omega
    clear hs h3 h4
    go_enter Tryd.func7, Tryd.ntmps7
    go_wp2_with (go_at_call 9; ((with_reducible refine (works _ ?_).mono ?_); (· exact tabs1 HT.out (Below.refl _ _)); rintro e w1 ⟨rfl, hb⟩; have BA := Lib.hid (on1 (Below.refl w.heap.size w) hb); clear hb))
    go_ret
    exact ⟨rfl, BA.out⟩
  have c4 : ((ov : Int) == 125) = false := by rw [beq_eq_false_iff_ne]; omega
  by_cases h5 : nv = 126
  · have c5 : ((nv : Int) == 126) = true := by rw [beq_iff_eq]; omega
    clear hs h3 h4 h5
    go_enter Tryd.func7, Tryd.ntmps7
    go_wp2_with (go_at_call 9; ((with_reducible refine (works _ ?_).mono ?_); (· exact tabs1 HT.out (Below.refl _ _)); rintro e w1 ⟨rfl, hb⟩; have BA := Lib.hid (on1 (Below.refl w.heap.size w) hb); clear hb))
    go_ret
    exact ⟨rfl, BA.out⟩
  have c5 : ((nv : Int) == 126) = false := by rw [beq_eq_false_iff_ne]; omega
  · have c6 : ((nv : Int) == 125) = true := by rw [beq_iff_eq]; omega
    clear hs h3 h4 h5
    go_enter Tryd.func7, Tryd.ntmps7
    go_wp2_with (go_at_call 9; ((with_reducible refine (works _ ?_).mono ?_); (· exact tabs1 HT.out (Below.refl _ _)); rintro e w1 ⟨rfl, hb⟩; have BA := Lib.hid (on1 (Below.refl w.heap.size w) hb); clear hb))
    go_ret
    exact ⟨rfl, BA.out⟩
set_option maxHeartbeats 1000000 in
theorem turn_no (f : Fr) (ini : Bool) (aa bb : Nat) (ha : aa < 256) (hb : bb < 256) (w : World) (ht : Tabs w) (h0 : 0 < f.info.size) (h1 : f.info.size ≤ 128) (h2 : f.k ≠ 5) (k ov nv : Nat) (hk : (aa : Int) % (f.info.size : Int) = (k : Int)) (hkl : k < f.info.size) (hov : (f.info[k]'hkl).toNat = ov) (hx : bits .xor .u8 (ov : Int) ((2 : Int) ^ (bb % 8) % 256) = (nv : Int)) (o6 : ov ≠ 126) (o5 : ov ≠ 125) (v6 : nv ≠ 126) (v5 : nv ≠ 125) (e1 : EncNo f ini 128 2) :
    Calls Tryd.prog 7 #[fv f, .bool ini, .int .u8 (aa : Int), .int .u8 (bb : Int)] w fun e w' => e = .returned (.bool true) ∧ Below w.heap.size w w' := by
  have HT := Lib.hid ht
  have E1 := Lib.hid e1
  clear ht e1
  have c0 : ((f.info.size : Int) == 0) = false := by rw [beq_eq_false_iff_ne]; omega
  have c1 : decide ((128 : Int) < (f.info.size : Int)) = false := by simp; omega
  have c2 : ((f.k : Int) == 5) = false := by rw [beq_eq_false_iff_ne]; omega
  have c3 : ((ov : Int) == 126) = false := by rw [beq_eq_false_iff_ne]; omega
  have c4 : ((ov : Int) == 125) = false := by rw [beq_eq_false_iff_ne]; omega
  have c5 : ((nv : Int) == 126) = false := by rw [beq_eq_false_iff_ne]; omega
  have c6 : ((nv : Int) == 125) = false := by rw [beq_eq_false_iff_ne]; omega
  clear o6 o5 v6 v5 h2
  go_enter Tryd.func7, Tryd.ntmps7
  go_wp2_with (first
    | (go_at_call 10; ((with_reducible refine (at_EncNo E1.out _ ?_).mono ?_); (· exact tabs1 HT.out (Below.refl _ _)); rintro e wa ⟨rfl, hb⟩; have BA := Lib.hid (on1 (Below.refl w.heap.size w) hb); clear hb))
    | (go_at_call 9; ((with_reducible refine (works _ ?_).mono ?_); (· exact tabs_below HT.out BA.out); rintro e we ⟨rfl, hb⟩; have BE := Lib.hid (below_on' BA.out hb); clear hb)))
  go_ret
  exact ⟨rfl, BE.out⟩
set_option maxHeartbeats 2000000 in
theorem turn_ok (f : Fr) (ini : Bool) (aa bb : Nat) (ha : aa < 256) (hb : bb < 256) (w : World) (ht : Tabs w) (h0 : 0 < f.info.size) (h1 : f.info.size ≤ 128) (h2 : f.k ≠ 5) (k ov nv : Nat) (hk : (aa : Int) % (f.info.size : Int) = (k : Int)) (hkl : k < f.info.size) (hov : (f.info[k]'hkl).toNat = ov) (hx : bits .xor .u8 (ov : Int) ((2 : Int) ^ (bb % 8) % 256) = (nv : Int)) (o6 : ov ≠ 126) (o5 : ov ≠ 125) (v6 : nv ≠ 126) (v5 : nv ≠ 125) (T V : ByteArray) (n Q P : Nat) (e1 : EncOk f ini 128 T) (tl : T.size ≤ 1000) (t5 : 5 ≤ T.size) (hV : T.extract 1 (T.size - 1) = V) (hn : V.size = n) (hQ : Q < n) (hPQ : (P : Int) - 1 = (Q : Int)) (hPT : P < T.size) (hTP : (T[P]'hPT).toNat = ov) (hVQ : (V.data.toList.getD Q 0).toNat = ov) (hnv : nv < 256)
    (L : List UInt8) (pT : ∀ j, plN L j < T.size) (pP : plN L (2 + k) = P)
    (pS : ∀ j, j < 2 + k → ∀ h : plN L j < T.size, ((T[plN L j]'h).toNat = 125 ∧ plN L (j + 1) = plN L j + 2) ∨ ((T[plN L j]'h).toNat ≠ 125 ∧ plN L (j + 1) = plN L j + 1))
    (t : ByteArray) (htt : (⟨(V.data.toList.set Q (UInt8.ofNat nv)).toArray⟩ : ByteArray) = t) (D : DecNo t ini 128 41) :
    Calls Tryd.prog 7 #[fv f, .bool ini, .int .u8 (aa : Int), .int .u8 (bb : Int)] w fun e w' => e = .returned (.bool true) ∧ Below w.heap.size w w' := by
  have HT := Lib.hid ht
  have E1 := Lib.hid e1
  have DD := Lib.hid D
  have HN := Lib.hid hn
  have HX := Lib.hid hVQ
  have HL : Hid (V.data.toList.length = n) := Lib.hid hn
  have IL : Hid (Q < V.data.toList.length) := Lib.hid (by rw [HL.out]; exact hQ)
  have HR := Lib.hid htt
  have PT := Lib.hid pT
  have PP := Lib.hid pP
  have PS := Lib.hid pS
  clear ht e1 D hn hVQ htt pT pP pS
  have c0 : ((f.info.size : Int) == 0) = false := by rw [beq_eq_false_iff_ne]; omega
  have c1 : decide ((128 : Int) < (f.info.size : Int)) = false := by simp; omega
  have c2 : ((f.k : Int) == 5) = false := by rw [beq_eq_false_iff_ne]; omega
  have c3 : ((ov : Int) == 126) = false := by rw [beq_eq_false_iff_ne]; omega
  have c4 : ((ov : Int) == 125) = false := by rw [beq_eq_false_iff_ne]; omega
  have c5 : ((nv : Int) == 126) = false := by rw [beq_eq_false_iff_ne]; omega
  have c6 : ((nv : Int) == 125) = false := by rw [beq_eq_false_iff_ne]; omega
  clear o6 o5 v6 v5 h2
  have p0 : (0 : Int) ≤ (T.size : Int) - 1 := by omega
  have p1 : ((T.size : Int) - 1).toNat = T.size - 1 := by omega
  have p2 : (T.size : Int) - 1 < T.size := by omega
  have p3 : (1 : Int) ≤ (T.size : Int) - 1 := by omega
  have p4 : (T.size : Int) - 1 ≤ T.size := by omega
  go_enter Tryd.func7, Tryd.ntmps7
  go_wp2_with (go_at_call 10; ((with_reducible refine (at_EncOk E1.out _ ?_).mono ?_); (· exact tabs1 HT.out (Below.refl _ _)); rintro e wa ⟨rfl, hb⟩; have FA : Hid (FrAt wa w.heap.size f) := Lib.hid (fresh1 hb); have BA := Lib.hid (on1 (Below.refl w.heap.size w) hb); clear hb))
  go_loop [14, 15] (fun p i => ∃ j : Nat, j ≤ 2 + k ∧ i = .int .i64 (j : Int) ∧ ∃ q : Nat, p = .int .i64 (q : Int) ∧ Hid (plN L j = q)) (fun _ i => 2 + k - (intOf i).toNat)
  case atStart => exact ⟨0, by omega, rfl, 1, rfl, Lib.hid (pl_zero L)⟩
  case round =>
    obtain ⟨j, hj, rfl, q, rfl, HP⟩ := hrel
    by_cases hlt : j < 2 + k
    · have hq : q < T.size := by have := PT.out j; rw [HP.out] at this; exact this
      have hS := PS.out j hlt (by rw [HP.out]; exact hq)
      have hqz := oct_lt T[q]
      rcases hS with ⟨h1', h2'⟩ | ⟨h1', h2'⟩
      · have y : ((T[q].toNat : Int) == 125) = true := by simp only [HP.out] at h1'; rw [h1']; rfl
        have HQ : Hid (plN L (j + 1) = q + 1 + 1) := Lib.hid (by rw [h2', HP.out])
        clear h1' h2'
        go_wp2
        go_round
        case rel => exact ⟨j + 1, by omega, by go_num, q + 1 + 1, by go_num, HQ⟩
        case measure => simp [intOf]; omega
      · have y : ((T[q].toNat : Int) == 125) = false := by simp only [HP.out] at h1'; rw [beq_eq_false_iff_ne]; omega
        have HQ : Hid (plN L (j + 1) = q + 1) := Lib.hid (by rw [h2', HP.out])
        clear h1' h2'
        go_wp2
        go_round
        case rel => exact ⟨j + 1, by omega, by go_num, q + 1, by go_num, HQ⟩
        case measure => simp [intOf]; omega
    · obtain rfl : j = 2 + k := by omega
      obtain rfl : q = P := by rw [← HP.out, PP.out]
      obtain ⟨W1, cap, hconv, RW, B1⟩ := bytes_of wa V n HN.out
      have C1 : W1.cell? ⟨wa.heap.size, Q, none⟩ = some (.int .u8 (ov : Int)) := by rw [← HX.out]; exact RW.out.cell Q IL.out
      have Z1 : W1.frozen? ⟨wa.heap.size, Q, none⟩ = false := RW.out.free Q IL.out
      have hcv := (RW.out.put Q IL.out nv hnv).conv n cap (by rw [List.length_set]; exact HL.out)
      rw [HR.out] at hcv
      have BW : Hid (Below w.heap.size w (W1.setCell ⟨wa.heap.size, Q, none⟩ (.int .u8 (nv : Int)))) := Lib.hid (below_on' BA.out (B1.out.setCell (Nat.le_refl _) _))
      go_wp2_with (first
        | (go_at_call 12; ((with_reducible refine (at_DecNo DD.out _ ?_).mono ?_); (· exact tabs_below HT.out BW.out); rintro e wd ⟨rfl, hb⟩; have BD := Lib.hid (below_on' BW.out hb); clear hb))
        | (go_at_call 9; ((with_reducible refine (works _ ?_).mono ?_); (· exact tabs1 HT.out BD.out); rintro e we ⟨rfl, hb⟩; have BE := Lib.hid (on1 BD.out hb); clear hb)))
      go_ret
      exact ⟨rfl, BE.out⟩
theorem pow8 (b : Nat) : (2 : Int) ^ (b % 8) % 256 = ((2 ^ (b % 8) : Nat) : Int) ∧ 2 ^ (b % 8) < 256 ∧ 2 ^ (b % 8) ≠ 0 := by
  have : ∀ j : Fin 8, (2 : Int) ^ j.val % 256 = ((2 ^ j.val : Nat) : Int) ∧ 2 ^ j.val < 256 ∧ 2 ^ j.val ≠ 0 := by decide
  exact this ⟨b % 8, Nat.mod_lt _ (by decide)⟩
theorem u8_ne {c : UInt8} {n : Nat} (hn : n < 256) (h : c.toNat ≠ n) : c ≠ UInt8.ofNat n := fun e => h (by rw [e, nat_oct _ hn])
theorem turned (f : Fr) (hf : f.In) (_hl : f.info.size ≤ maxLen) (ini : Bool) (aa : Nat) (ha : aa < 256) (bb : Nat) (hb : bb < 256) (w : World) (ht : Tabs w) :
    Calls Tryd.prog 7 #[fv f, .bool ini, .int .u8 (aa : Int), .int .u8 (bb : Int)] w fun e w' => e = .returned (.bool true) ∧ Below w.heap.size w w' := by
  by_cases h : f.info.size = 0 ∨ 128 < f.info.size ∨ f.k = 5
  · exact turn_early f ini aa bb w ht h
  have h0 : 0 < f.info.size := by omega
  have h1 : f.info.size ≤ 128 := by omega
  have h2 : f.k ≠ 5 := by omega
  obtain ⟨k, hk⟩ : ∃ k, aa % f.info.size = k := ⟨_, rfl⟩
  have hkl : k < f.info.size := by rw [← hk]; exact Nat.mod_lt _ h0
  have hki : (aa : Int) % (f.info.size : Int) = (k : Int) := by rw [← hk]; simp
  obtain ⟨m1, m2, m3⟩ := pow8 bb
  have ol := oct_lt f.info[k]
  have hx : bits .xor .u8 ((f.info[k].toNat : Nat) : Int) ((2 : Int) ^ (bb % 8) % 256) = ((f.info[k].toNat ^^^ 2 ^ (bb % 8) : Nat) : Int) := by
    rw [m1]; exact u8_xor_nat _ _ ol m2
  have nl : f.info[k].toNat ^^^ 2 ^ (bb % 8) < 256 := Fcs.xor_lt _ _ ol m2
  have hne : f.info[k].toNat ^^^ 2 ^ (bb % 8) ≠ f.info[k].toNat := fun e => by
    have := Fcs.xor_self_left f.info[k].toNat (2 ^ (bb % 8))
    rw [e, Nat.xor_self] at this
    exact m3 this.symm
  generalize hnv : f.info[k].toNat ^^^ 2 ^ (bb % 8) = nv at *
  by_cases hs : f.info[k].toNat = 126 ∨ f.info[k].toNat = 125 ∨ nv = 126 ∨ nv = 125
  · exact turn_special f ini aa bb ha hb w ht h0 h1 h2 k _ nv hki hkl rfl hx hs
  rw [not_or, not_or, not_or] at hs
  obtain ⟨o6, o5, v6, v5⟩ := hs
  have hr : room 128 = 128 := by decide
  by_cases he : Fr.ae f 128 = 0
  · have o6' : f.info[k] ≠ 126 := u8_ne (by decide) o6
    have o5' : f.info[k] ≠ 125 := u8_ne (by decide) o5
    have v6' : UInt8.ofNat nv ≠ 126 := u8_ne (n := 126) (by decide) (by rw [nat_oct _ nl]; exact v6)
    have v5' : UInt8.ofNat nv ≠ 125 := u8_ne (n := 125) (by decide) (by rw [nat_oct _ nl]; exact v5)
    have hv' : f.info[k] ≠ UInt8.ofNat nv := fun e => hne (by rw [e, nat_oct _ nl])
    have ha' := turned_ans f ini he h2 k hkl (UInt8.ofNat nv) hv' o6' o5' v6' v5'
    have hl : (Fr.inner f ini).data.toList.length = f.info.size + 3 := inn_size (f.a ini) f.o (Fr.y f ini) f.info
    have hj : 2 + k < (Fr.inner f ini).data.toList.length := by omega
    have hi := inner_at f ini k hkl
    have hPT := pl_lt f ini (2 + k)
    have hTP := at_plain hj hPT (by rw [hi]; exact o6') (by rw [hi]; exact o5')
    rw [hi] at hTP
    have hz := adv_size f ini
    have hb2 := stB_size (Fr.inner f ini)
    have hl' : (Fr.inner f ini).size = f.info.size + 3 := hl
    have P1 : 1 ≤ plN (Fr.inner f ini).data.toList (2 + k) := by unfold plN; omega
    have hs1 := st_split (Fr.inner f ini).data.toList (2 + k) hj
    rw [hi, st1_plain o6' o5'] at hs1
    have hlen : (stB (Fr.inner f ini)).size = (st ((Fr.inner f ini).data.toList.take (2 + k))).length + (1 + (st ((Fr.inner f ini).data.toList.drop (2 + k + 1))).length) := by
      rw [← size_toList, stB_list, hs1, List.length_append, List.length_append]; rfl
    have hQ : plN (Fr.inner f ini).data.toList (2 + k) - 1 = (st ((Fr.inner f ini).data.toList.take (2 + k))).length := by unfold plN; omega
    exact turn_ok f ini aa bb ha hb w ht h0 h1 h2 k _ nv hki hkl rfl hx o6 o5 v6 v5 (Fr.adv f ini) (stB (Fr.inner f ini)) (stB (Fr.inner f ini)).size (plN (Fr.inner f ini).data.toList (2 + k) - 1) (plN (Fr.inner f ini).data.toList (2 + k))
      (fun w ht => fenc_yes f hf ini 128 w ht he) (by omega) (by omega) (adv_in f ini) rfl (by omega) (by omega) hPT (by rw [hTP])
      (by rw [hQ, stB_list, hs1]; simp [List.getD]) nl (Fr.inner f ini).data.toList (pl_lt f ini) rfl
      (fun j hj2 hp => by
        have hj3 : j < (Fr.inner f ini).data.toList.length := by omega
        by_cases q6 : (Fr.inner f ini).data.toList.getD j 0 = 126
        · obtain ⟨e1, e2⟩ := at_esc hj3 hp (Or.inl q6)
          exact Or.inl ⟨by rw [e1]; rfl, e2⟩
        by_cases q5 : (Fr.inner f ini).data.toList.getD j 0 = 125
        · obtain ⟨e1, e2⟩ := at_esc hj3 hp (Or.inr q5)
          exact Or.inl ⟨by rw [e1]; rfl, e2⟩
        · have e1 := at_plain hj3 hp q6 q5
          exact Or.inr ⟨by rw [e1]; exact fun e => q5 (UInt8.toNat_inj.1 (by rw [e]; rfl)), pl_plain hj3 q6 q5⟩)
      _ rfl (fun w ht => fdec ha' (by rw [← size_toList]; simp; omega) w ht)
  · have e2 : Fr.ae f 128 = 2 := by
      unfold Fr.ae at he ⊢
      rw [hr] at he ⊢
      split
      · rename_i hm
        rw [if_pos hm, if_neg (by omega)] at he
        exact absurd rfl he
      · rfl
    exact turn_no f ini aa bb ha hb w ht h0 h1 h2 k _ nv hki hkl rfl hx o6 o5 v6 v5 (fun w ht => by have p := fenc_no f hf ini 128 w ht he; rw [e2] at p; exact p)
end Go.Proofs.YtgikdcamppcphaaDoor.Adv

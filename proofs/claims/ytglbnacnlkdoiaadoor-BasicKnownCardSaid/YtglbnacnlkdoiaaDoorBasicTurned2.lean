/-
  BasicTurned, way by way. Conditions: as each names them.
-/
import Derived.Test.YtglbnacnlkdoiaaDoorBasicTurnMath
import Derived.RegionTactic
namespace Go.Proofs.YtglbnacnlkdoiaaDoor.Basic
open Go.RowKit Go.Proofs.YtglbnacnlkdoiaaDoor.Base Go.Proofs.YtglbnacnlkdoiaaDoor.Ea Go.Proofs.YtglbnacnlkdoiaaDoor.Field
set_option maxHeartbeats 4000000 in
set_option maxRecDepth 100000 in
theorem turn_Yio (f : Fr) (ini : Bool) (pl : Int) (bs fr cut : Nat) (w : World) (ht : Tabs w) (T S : ByteArray) (n z i x o1 tt c q : Nat) (e1 : EncOk f ini 128 T) (tl : T.size ≤ 1000) (t6 : 6 ≤ T.size) (hS : T.extract 1 (T.size - 1) = S) (hn : S.size = n) (_n4 : 4 ≤ n) (_n5 : n ≤ 1000) (hz : (n : Int) - 1 = z) (_hi : i < z) (h128 : f.info.size ≤ 128) (hb : bs ≠ 0) (hb2 : bs < 256) (hcut : cut < 256) (pk : ∀ w, Calls Tryd.prog 15 #[.int .i64 pl, .int .i64 (z : Int)] w fun e w' => e = .returned (.int .i64 (i : Int)) ∧ w = w') (hw : IntKind.u16.wrap ((bs : Int) * 2 ^ (fr % 8)) = (tt : Int)) (_htt : tt < 65536) (hx : (S.data.toList.getD i 0).toNat = x) (he1 : bits .xor .u8 (x : Int) 0 = (o1 : Int)) (ho1 : o1 < 256) (hc : (cut : Int) % ((T.size : Int) - 3) = (c : Int)) (hq : (T.size : Int) - 1 - 1 - (c : Int) = (q : Int)) (q1 : 1 ≤ q) (q2 : q ≤ T.size) (P : DecNo (T.extract 1 q) ini 128 40) (M : DecNo (T.extract 1 T.size) ini 128 40) (k5 : ((f.k : Int) == 5) = false) (hd : Nat) (hh : 3 + (f.info.size : Int) / 128 = (hd : Int)) (hlt : ¬ i + 1 < z) (l0 : (tt : Int) % 256 = 0) (y o2 : Nat) (hy : (S.data.toList.getD z 0).toNat = y) (he2 : bits .xor .u8 (y : Int) ((tt : Int) / 256) = (o2 : Int)) (ho2 : o2 < 256) (t : ByteArray) (htt' : (⟨((S.data.toList.set i (UInt8.ofNat o1)).set z (UInt8.ofNat o2)).toArray⟩ : ByteArray) = t) (g : Fr) (hg : eqF g f = false) (D : DecOk t ini 128 g) :
    Calls Tryd.prog 6 #[fv f, .bool ini, .int .i64 pl, .int .u8 (bs : Int), .int .u8 (fr : Int), .int .u8 (cut : Int)] w fun e w' => e = .returned (.bool true) ∧ Below w.heap.size w w' := by
  have HT := Lib.hid ht
  have E1 := Lib.hid e1
  have PP := Lib.hid P
  have MM := Lib.hid M
  have DD := Lib.hid D
  have PK := Lib.hid pk
  have HN := Lib.hid hn
  have HX := Lib.hid hx
  have b0 : ((bs : Int) == 0) = false := by rw [beq_eq_false_iff_ne]; omega
  have d1 : decide ((f.info.size : Int) > 128) = false := by simp; omega
  have p0 : (0 : Int) ≤ (T.size : Int) - 1 := by omega
  have p1 : ((T.size : Int) - 1).toNat = T.size - 1 := by omega
  have p2 : (T.size : Int) - 1 < T.size := by omega
  have p3 : (1 : Int) ≤ (T.size : Int) - 1 := by omega
  have p4 : (T.size : Int) - 1 ≤ T.size := by omega
  have HL : Hid (S.data.toList.length = n) := Lib.hid hn
  have IL : Hid (i < S.data.toList.length) := Lib.hid (by rw [HL.out]; omega)
  have JL : Hid (z < S.data.toList.length) := Lib.hid (by rw [HL.out]; omega)
  have HY := Lib.hid hy
  clear hy
  have HR := Lib.hid htt'
  clear htt'
  have hne : i ≠ z := by omega
  have hgd : Tryd.prog.eqGuardType Tryd.prog.depth 23 = false := by kernel_rfl
  have he := neq_of hg
  clear hg
  clear ht e1 P M D pk hn hx hb
  go_enter Tryd.func6, Tryd.ntmps6
  go_wp2_with (first
    | (go_at_call 9; ((with_reducible refine (E1.out.at _ ?_).mono ?_); (· exact tabs1 HT.out (Below.refl _ _)); rintro e wa ⟨rfl, hb⟩; have FA : Hid (FrAt wa w.heap.size f) := Lib.hid (fresh1 hb); have BA := Lib.hid (on1 (Below.refl w.heap.size w) hb); clear hb; obtain ⟨k0, k1, k2, k3, k4, k5', k6⟩ := FA.out.cells; obtain ⟨W1, cap, hconv, RW, B1⟩ := bytes_of wa S n HN.out; go_must ( have F1 : Hid (FrAt W1 w.heap.size f) := Lib.hid (FA.out.below B1.out); obtain ⟨g0, g1, g2, g3, g4, g5, g6⟩ := F1.out.cells; have C1 : W1.cell? ⟨wa.heap.size, i, none⟩ = some (.int .u8 (x : Int)) := (by rw [← HX.out]; exact RW.out.cell i IL.out); have Z1 : W1.frozen? ⟨wa.heap.size, i, none⟩ = false := RW.out.free i IL.out; have C2 : W1.cell? ⟨wa.heap.size, z, none⟩ = some (.int .u8 (y : Int)) := (by rw [← HY.out]; exact RW.out.cell z JL.out); have Z2 : W1.frozen? ⟨wa.heap.size, z, none⟩ = false := RW.out.free z JL.out; have hcv := ((RW.out.put i IL.out o1 ho1).put z (by rw [List.length_set]; exact JL.out) o2 ho2).conv n cap (by rw [List.length_set, List.length_set]; exact HL.out); rw [HR.out] at hcv; have BW : Hid (Below w.heap.size w ((W1.setCell ⟨wa.heap.size, i, none⟩ (.int .u8 (o1 : Int))).setCell ⟨wa.heap.size, z, none⟩ (.int .u8 (o2 : Int)))) := Lib.hid (below_on' BA.out ((B1.out.setCell (Nat.le_refl _) _).setCell (Nat.le_refl _) _)); have FW : Hid (FrAt ((W1.setCell ⟨wa.heap.size, i, none⟩ (.int .u8 (o1 : Int))).setCell ⟨wa.heap.size, z, none⟩ (.int .u8 (o2 : Int))) w.heap.size f) := Lib.hid (FA.out.below ((B1.out.setCell (Nat.le_refl _) _).setCell (Nat.le_refl _) _)))))
    | (go_at_call 15; ((with_reducible refine (PK.out _).mono ?_); rintro e w' ⟨rfl, rfl⟩))
    | (go_at_call 13; ((with_reducible refine (DD.out.at _ ?_).mono ?_); (· exact tabs_below HT.out BW.out); rintro e wd ⟨rfl, hb⟩; have FD : Hid (FrAt wd w.heap.size f) := Lib.hid (stays FW.out hb); have BD := Lib.hid (below_on' BW.out hb); clear hb))
    | (go_at_call 13; ((with_reducible refine (PP.out.at _ ?_).mono ?_); (· exact tabs1 HT.out BD.out); rintro e wp ⟨rfl, hb⟩; have FP : Hid (FrAt wp w.heap.size f) := Lib.hid (stays1 FD.out hb); have GP : Hid (FrAt wp wd.heap.size g) := Lib.hid (fresh1 hb); have BP := Lib.hid (on1 BD.out hb); clear hb))
    | (go_at_call 13; ((with_reducible refine (MM.out.at _ ?_).mono ?_); (· exact tabs1 HT.out BP.out); rintro e wm ⟨rfl, hb⟩; have FM : Hid (FrAt wm w.heap.size f) := Lib.hid (stays1 FP.out hb); have GM : Hid (FrAt wm wd.heap.size g) := Lib.hid (stays1 GP.out hb); have hlt1 : wd.heap.size < wm.heap.size := lt_heap GM.out; have hlt2 : w.heap.size < wm.heap.size := lt_heap FM.out; obtain ⟨m0, m1, m2, m3, m4, m5, m6⟩ := GM.out.cells; obtain ⟨n0, n1, n2, n3, n4', n5, n6⟩ := FM.out.cells; have BM := Lib.hid (on1 BP.out hb); clear hb))
    | (go_at_call 8; ((with_reducible refine (works _ ?_).mono ?_); (· exact tabs1 HT.out BM.out); rintro e we ⟨rfl, hb⟩; have BE := Lib.hid (on1 BM.out hb); clear hb)))
  go_ret
  exact ⟨rfl, BE.out⟩
set_option maxHeartbeats 4000000 in
set_option maxRecDepth 100000 in
theorem turn_Yin (f : Fr) (ini : Bool) (pl : Int) (bs fr cut : Nat) (w : World) (ht : Tabs w) (T S : ByteArray) (n z i x o1 tt c q : Nat) (e1 : EncOk f ini 128 T) (tl : T.size ≤ 1000) (t6 : 6 ≤ T.size) (hS : T.extract 1 (T.size - 1) = S) (hn : S.size = n) (_n4 : 4 ≤ n) (_n5 : n ≤ 1000) (hz : (n : Int) - 1 = z) (_hi : i < z) (h128 : f.info.size ≤ 128) (hb : bs ≠ 0) (hb2 : bs < 256) (hcut : cut < 256) (pk : ∀ w, Calls Tryd.prog 15 #[.int .i64 pl, .int .i64 (z : Int)] w fun e w' => e = .returned (.int .i64 (i : Int)) ∧ w = w') (hw : IntKind.u16.wrap ((bs : Int) * 2 ^ (fr % 8)) = (tt : Int)) (_htt : tt < 65536) (hx : (S.data.toList.getD i 0).toNat = x) (he1 : bits .xor .u8 (x : Int) 0 = (o1 : Int)) (ho1 : o1 < 256) (hc : (cut : Int) % ((T.size : Int) - 3) = (c : Int)) (hq : (T.size : Int) - 1 - 1 - (c : Int) = (q : Int)) (q1 : 1 ≤ q) (q2 : q ≤ T.size) (P : DecNo (T.extract 1 q) ini 128 40) (M : DecNo (T.extract 1 T.size) ini 128 40) (k5 : ((f.k : Int) == 5) = false) (hd : Nat) (hh : 3 + (f.info.size : Int) / 128 = (hd : Int)) (hlt : ¬ i + 1 < z) (l0 : (tt : Int) % 256 = 0) (y o2 : Nat) (hy : (S.data.toList.getD z 0).toNat = y) (he2 : bits .xor .u8 (y : Int) ((tt : Int) / 256) = (o2 : Int)) (ho2 : o2 < 256) (t : ByteArray) (htt' : (⟨((S.data.toList.set i (UInt8.ofNat o1)).set z (UInt8.ofNat o2)).toArray⟩ : ByteArray) = t) (r : Int) (hr : r ≠ 0) (D : DecNo t ini 128 r) :
    Calls Tryd.prog 6 #[fv f, .bool ini, .int .i64 pl, .int .u8 (bs : Int), .int .u8 (fr : Int), .int .u8 (cut : Int)] w fun e w' => e = .returned (.bool true) ∧ Below w.heap.size w w' := by
  have HT := Lib.hid ht
  have E1 := Lib.hid e1
  have PP := Lib.hid P
  have MM := Lib.hid M
  have DD := Lib.hid D
  have PK := Lib.hid pk
  have HN := Lib.hid hn
  have HX := Lib.hid hx
  have b0 : ((bs : Int) == 0) = false := by rw [beq_eq_false_iff_ne]; omega
  have d1 : decide ((f.info.size : Int) > 128) = false := by simp; omega
  have p0 : (0 : Int) ≤ (T.size : Int) - 1 := by omega
  have p1 : ((T.size : Int) - 1).toNat = T.size - 1 := by omega
  have p2 : (T.size : Int) - 1 < T.size := by omega
  have p3 : (1 : Int) ≤ (T.size : Int) - 1 := by omega
  have p4 : (T.size : Int) - 1 ≤ T.size := by omega
  have HL : Hid (S.data.toList.length = n) := Lib.hid hn
  have IL : Hid (i < S.data.toList.length) := Lib.hid (by rw [HL.out]; omega)
  have JL : Hid (z < S.data.toList.length) := Lib.hid (by rw [HL.out]; omega)
  have HY := Lib.hid hy
  clear hy
  have HR := Lib.hid htt'
  clear htt'
  have hne : i ≠ z := by omega
  have r0 : (r == 0) = false := by rw [beq_eq_false_iff_ne]; exact hr
  have r1 : (r != 0) = true := by rw [bne_iff_ne]; exact hr
  clear hr
  clear ht e1 P M D pk hn hx hb
  go_enter Tryd.func6, Tryd.ntmps6
  go_wp2_with (first
    | (go_at_call 9; ((with_reducible refine (E1.out.at _ ?_).mono ?_); (· exact tabs1 HT.out (Below.refl _ _)); rintro e wa ⟨rfl, hb⟩; have FA : Hid (FrAt wa w.heap.size f) := Lib.hid (fresh1 hb); have BA := Lib.hid (on1 (Below.refl w.heap.size w) hb); clear hb; obtain ⟨k0, k1, k2, k3, k4, k5', k6⟩ := FA.out.cells; obtain ⟨W1, cap, hconv, RW, B1⟩ := bytes_of wa S n HN.out; go_must ( have F1 : Hid (FrAt W1 w.heap.size f) := Lib.hid (FA.out.below B1.out); obtain ⟨g0, g1, g2, g3, g4, g5, g6⟩ := F1.out.cells; have C1 : W1.cell? ⟨wa.heap.size, i, none⟩ = some (.int .u8 (x : Int)) := (by rw [← HX.out]; exact RW.out.cell i IL.out); have Z1 : W1.frozen? ⟨wa.heap.size, i, none⟩ = false := RW.out.free i IL.out; have C2 : W1.cell? ⟨wa.heap.size, z, none⟩ = some (.int .u8 (y : Int)) := (by rw [← HY.out]; exact RW.out.cell z JL.out); have Z2 : W1.frozen? ⟨wa.heap.size, z, none⟩ = false := RW.out.free z JL.out; have hcv := ((RW.out.put i IL.out o1 ho1).put z (by rw [List.length_set]; exact JL.out) o2 ho2).conv n cap (by rw [List.length_set, List.length_set]; exact HL.out); rw [HR.out] at hcv; have BW : Hid (Below w.heap.size w ((W1.setCell ⟨wa.heap.size, i, none⟩ (.int .u8 (o1 : Int))).setCell ⟨wa.heap.size, z, none⟩ (.int .u8 (o2 : Int)))) := Lib.hid (below_on' BA.out ((B1.out.setCell (Nat.le_refl _) _).setCell (Nat.le_refl _) _)); have FW : Hid (FrAt ((W1.setCell ⟨wa.heap.size, i, none⟩ (.int .u8 (o1 : Int))).setCell ⟨wa.heap.size, z, none⟩ (.int .u8 (o2 : Int))) w.heap.size f) := Lib.hid (FA.out.below ((B1.out.setCell (Nat.le_refl _) _).setCell (Nat.le_refl _) _)))))
    | (go_at_call 15; ((with_reducible refine (PK.out _).mono ?_); rintro e w' ⟨rfl, rfl⟩))
    | (go_at_call 13; ((with_reducible refine (DD.out.at _ ?_).mono ?_); (· exact tabs_below HT.out BW.out); rintro e wd ⟨rfl, hb⟩; have FD : Hid (FrAt wd w.heap.size f) := Lib.hid (stays FW.out hb); have BD := Lib.hid (below_on' BW.out hb); clear hb))
    | (go_at_call 13; ((with_reducible refine (PP.out.at _ ?_).mono ?_); (· exact tabs1 HT.out BD.out); rintro e wp ⟨rfl, hb⟩; have FP : Hid (FrAt wp w.heap.size f) := Lib.hid (stays1 FD.out hb); have BP := Lib.hid (on1 BD.out hb); clear hb))
    | (go_at_call 13; ((with_reducible refine (MM.out.at _ ?_).mono ?_); (· exact tabs1 HT.out BP.out); rintro e wm ⟨rfl, hb⟩; have FM : Hid (FrAt wm w.heap.size f) := Lib.hid (stays1 FP.out hb); have BM := Lib.hid (on1 BP.out hb); clear hb))
    | (go_at_call 8; ((with_reducible refine (works _ ?_).mono ?_); (· exact tabs1 HT.out BM.out); rintro e we ⟨rfl, hb⟩; have BE := Lib.hid (on1 BM.out hb); clear hb)))
  go_ret
  exact ⟨rfl, BE.out⟩
set_option maxHeartbeats 4000000 in
set_option maxRecDepth 100000 in
theorem turn_Zuo (f : Fr) (ini : Bool) (pl : Int) (bs fr cut : Nat) (w : World) (ht : Tabs w) (T S : ByteArray) (n z ov i x o1 tt c q : Nat) (e1 : EncOk f ini 128 T) (tl : T.size ≤ 1000) (t6 : 6 ≤ T.size) (hS : T.extract 1 (T.size - 1) = S) (hn : S.size = n) (_n4 : 4 ≤ n) (_n5 : n ≤ 1000) (hz : (n : Int) - 1 = z) (_hi : i < ov) (hov : ov ≤ z) (h128 : f.info.size ≤ 128) (hb : bs ≠ 0) (hb2 : bs < 256) (hcut : cut < 256) (pk : ∀ w, Calls Tryd.prog 15 #[.int .i64 pl, .int .i64 (ov : Int)] w fun e w' => e = .returned (.int .i64 (i : Int)) ∧ w = w') (hw : IntKind.u16.wrap ((bs : Int) * 2 ^ (fr % 8)) = (tt : Int)) (_htt : tt < 65536) (hx : (S.data.toList.getD i 0).toNat = x) (he1 : bits .xor .u8 (x : Int) ((tt : Int) % 256) = (o1 : Int)) (ho1 : o1 < 256) (hc : (cut : Int) % ((T.size : Int) - 3) = (c : Int)) (hq : (T.size : Int) - 1 - 1 - (c : Int) = (q : Int)) (q1 : 1 ≤ q) (q2 : q ≤ T.size) (P : DecNo (T.extract 1 q) ini 128 40) (M : DecNo (T.extract 1 T.size) ini 128 40) (k5 : ((f.k : Int) == 5) = true) (hh : 3 + (f.info.size : Int) / 128 = (ov : Int)) (hlt : ¬ i + 1 < ov) (l0 : ((tt : Int) % 256 == 0) = false) (t : ByteArray) (htt' : (⟨(S.data.toList.set i (UInt8.ofNat o1)).toArray⟩ : ByteArray) = t) (g : Fr) (hg : eqF g f = false) (D : DecOk t ini 128 g) :
    Calls Tryd.prog 6 #[fv f, .bool ini, .int .i64 pl, .int .u8 (bs : Int), .int .u8 (fr : Int), .int .u8 (cut : Int)] w fun e w' => e = .returned (.bool true) ∧ Below w.heap.size w w' := by
  have HT := Lib.hid ht
  have E1 := Lib.hid e1
  have PP := Lib.hid P
  have MM := Lib.hid M
  have DD := Lib.hid D
  have PK := Lib.hid pk
  have HN := Lib.hid hn
  have HX := Lib.hid hx
  have b0 : ((bs : Int) == 0) = false := by rw [beq_eq_false_iff_ne]; omega
  have d1 : decide ((f.info.size : Int) > 128) = false := by simp; omega
  have p0 : (0 : Int) ≤ (T.size : Int) - 1 := by omega
  have p1 : ((T.size : Int) - 1).toNat = T.size - 1 := by omega
  have p2 : (T.size : Int) - 1 < T.size := by omega
  have p3 : (1 : Int) ≤ (T.size : Int) - 1 := by omega
  have p4 : (T.size : Int) - 1 ≤ T.size := by omega
  have HL : Hid (S.data.toList.length = n) := Lib.hid hn
  have IL : Hid (i < S.data.toList.length) := Lib.hid (by rw [HL.out]; omega)
  have HR := Lib.hid htt'
  clear htt'
  have hgd : Tryd.prog.eqGuardType Tryd.prog.depth 23 = false := by kernel_rfl
  have he := neq_of hg
  clear hg
  clear ht e1 P M D pk hn hx hb
  go_enter Tryd.func6, Tryd.ntmps6
  go_wp2_with (first
    | (go_at_call 9; ((with_reducible refine (E1.out.at _ ?_).mono ?_); (· exact tabs1 HT.out (Below.refl _ _)); rintro e wa ⟨rfl, hb⟩; have FA : Hid (FrAt wa w.heap.size f) := Lib.hid (fresh1 hb); have BA := Lib.hid (on1 (Below.refl w.heap.size w) hb); clear hb; obtain ⟨k0, k1, k2, k3, k4, k5', k6⟩ := FA.out.cells; obtain ⟨W1, cap, hconv, RW, B1⟩ := bytes_of wa S n HN.out; go_must ( have F1 : Hid (FrAt W1 w.heap.size f) := Lib.hid (FA.out.below B1.out); obtain ⟨g0, g1, g2, g3, g4, g5, g6⟩ := F1.out.cells; have C1 : W1.cell? ⟨wa.heap.size, i, none⟩ = some (.int .u8 (x : Int)) := (by rw [← HX.out]; exact RW.out.cell i IL.out); have Z1 : W1.frozen? ⟨wa.heap.size, i, none⟩ = false := RW.out.free i IL.out; have hcv := (RW.out.put i IL.out o1 ho1).conv n cap (by rw [List.length_set]; exact HL.out); rw [HR.out] at hcv; have BW : Hid (Below w.heap.size w (W1.setCell ⟨wa.heap.size, i, none⟩ (.int .u8 (o1 : Int)))) := Lib.hid (below_on' BA.out (B1.out.setCell (Nat.le_refl _) _)); have FW : Hid (FrAt (W1.setCell ⟨wa.heap.size, i, none⟩ (.int .u8 (o1 : Int))) w.heap.size f) := Lib.hid (FA.out.below (B1.out.setCell (Nat.le_refl _) _)))))
    | (go_at_call 15; ((with_reducible refine (PK.out _).mono ?_); rintro e w' ⟨rfl, rfl⟩))
    | (go_at_call 13; ((with_reducible refine (DD.out.at _ ?_).mono ?_); (· exact tabs_below HT.out BW.out); rintro e wd ⟨rfl, hb⟩; have FD : Hid (FrAt wd w.heap.size f) := Lib.hid (stays FW.out hb); have BD := Lib.hid (below_on' BW.out hb); clear hb))
    | (go_at_call 13; ((with_reducible refine (PP.out.at _ ?_).mono ?_); (· exact tabs1 HT.out BD.out); rintro e wp ⟨rfl, hb⟩; have FP : Hid (FrAt wp w.heap.size f) := Lib.hid (stays1 FD.out hb); have GP : Hid (FrAt wp wd.heap.size g) := Lib.hid (fresh1 hb); have BP := Lib.hid (on1 BD.out hb); clear hb))
    | (go_at_call 13; ((with_reducible refine (MM.out.at _ ?_).mono ?_); (· exact tabs1 HT.out BP.out); rintro e wm ⟨rfl, hb⟩; have FM : Hid (FrAt wm w.heap.size f) := Lib.hid (stays1 FP.out hb); have GM : Hid (FrAt wm wd.heap.size g) := Lib.hid (stays1 GP.out hb); have hlt1 : wd.heap.size < wm.heap.size := lt_heap GM.out; have hlt2 : w.heap.size < wm.heap.size := lt_heap FM.out; obtain ⟨m0, m1, m2, m3, m4, m5, m6⟩ := GM.out.cells; obtain ⟨n0, n1, n2, n3, n4', n5, n6⟩ := FM.out.cells; have BM := Lib.hid (on1 BP.out hb); clear hb))
    | (go_at_call 8; ((with_reducible refine (works _ ?_).mono ?_); (· exact tabs1 HT.out BM.out); rintro e we ⟨rfl, hb⟩; have BE := Lib.hid (on1 BM.out hb); clear hb)))
  go_ret
  exact ⟨rfl, BE.out⟩
set_option maxHeartbeats 4000000 in
set_option maxRecDepth 100000 in
theorem turn_Zun (f : Fr) (ini : Bool) (pl : Int) (bs fr cut : Nat) (w : World) (ht : Tabs w) (T S : ByteArray) (n z ov i x o1 tt c q : Nat) (e1 : EncOk f ini 128 T) (tl : T.size ≤ 1000) (t6 : 6 ≤ T.size) (hS : T.extract 1 (T.size - 1) = S) (hn : S.size = n) (_n4 : 4 ≤ n) (_n5 : n ≤ 1000) (hz : (n : Int) - 1 = z) (_hi : i < ov) (hov : ov ≤ z) (h128 : f.info.size ≤ 128) (hb : bs ≠ 0) (hb2 : bs < 256) (hcut : cut < 256) (pk : ∀ w, Calls Tryd.prog 15 #[.int .i64 pl, .int .i64 (ov : Int)] w fun e w' => e = .returned (.int .i64 (i : Int)) ∧ w = w') (hw : IntKind.u16.wrap ((bs : Int) * 2 ^ (fr % 8)) = (tt : Int)) (_htt : tt < 65536) (hx : (S.data.toList.getD i 0).toNat = x) (he1 : bits .xor .u8 (x : Int) ((tt : Int) % 256) = (o1 : Int)) (ho1 : o1 < 256) (hc : (cut : Int) % ((T.size : Int) - 3) = (c : Int)) (hq : (T.size : Int) - 1 - 1 - (c : Int) = (q : Int)) (q1 : 1 ≤ q) (q2 : q ≤ T.size) (P : DecNo (T.extract 1 q) ini 128 40) (M : DecNo (T.extract 1 T.size) ini 128 40) (k5 : ((f.k : Int) == 5) = true) (hh : 3 + (f.info.size : Int) / 128 = (ov : Int)) (hlt : ¬ i + 1 < ov) (l0 : ((tt : Int) % 256 == 0) = false) (t : ByteArray) (htt' : (⟨(S.data.toList.set i (UInt8.ofNat o1)).toArray⟩ : ByteArray) = t) (r : Int) (hr : r ≠ 0) (D : DecNo t ini 128 r) :
    Calls Tryd.prog 6 #[fv f, .bool ini, .int .i64 pl, .int .u8 (bs : Int), .int .u8 (fr : Int), .int .u8 (cut : Int)] w fun e w' => e = .returned (.bool true) ∧ Below w.heap.size w w' := by
  have HT := Lib.hid ht
  have E1 := Lib.hid e1
  have PP := Lib.hid P
  have MM := Lib.hid M
  have DD := Lib.hid D
  have PK := Lib.hid pk
  have HN := Lib.hid hn
  have HX := Lib.hid hx
  have b0 : ((bs : Int) == 0) = false := by rw [beq_eq_false_iff_ne]; omega
  have d1 : decide ((f.info.size : Int) > 128) = false := by simp; omega
  have p0 : (0 : Int) ≤ (T.size : Int) - 1 := by omega
  have p1 : ((T.size : Int) - 1).toNat = T.size - 1 := by omega
  have p2 : (T.size : Int) - 1 < T.size := by omega
  have p3 : (1 : Int) ≤ (T.size : Int) - 1 := by omega
  have p4 : (T.size : Int) - 1 ≤ T.size := by omega
  have HL : Hid (S.data.toList.length = n) := Lib.hid hn
  have IL : Hid (i < S.data.toList.length) := Lib.hid (by rw [HL.out]; omega)
  have HR := Lib.hid htt'
  clear htt'
  have r0 : (r == 0) = false := by rw [beq_eq_false_iff_ne]; exact hr
  have r1 : (r != 0) = true := by rw [bne_iff_ne]; exact hr
  clear hr
  clear ht e1 P M D pk hn hx hb
  go_enter Tryd.func6, Tryd.ntmps6
  go_wp2_with (first
    | (go_at_call 9; ((with_reducible refine (E1.out.at _ ?_).mono ?_); (· exact tabs1 HT.out (Below.refl _ _)); rintro e wa ⟨rfl, hb⟩; have FA : Hid (FrAt wa w.heap.size f) := Lib.hid (fresh1 hb); have BA := Lib.hid (on1 (Below.refl w.heap.size w) hb); clear hb; obtain ⟨k0, k1, k2, k3, k4, k5', k6⟩ := FA.out.cells; obtain ⟨W1, cap, hconv, RW, B1⟩ := bytes_of wa S n HN.out; go_must ( have F1 : Hid (FrAt W1 w.heap.size f) := Lib.hid (FA.out.below B1.out); obtain ⟨g0, g1, g2, g3, g4, g5, g6⟩ := F1.out.cells; have C1 : W1.cell? ⟨wa.heap.size, i, none⟩ = some (.int .u8 (x : Int)) := (by rw [← HX.out]; exact RW.out.cell i IL.out); have Z1 : W1.frozen? ⟨wa.heap.size, i, none⟩ = false := RW.out.free i IL.out; have hcv := (RW.out.put i IL.out o1 ho1).conv n cap (by rw [List.length_set]; exact HL.out); rw [HR.out] at hcv; have BW : Hid (Below w.heap.size w (W1.setCell ⟨wa.heap.size, i, none⟩ (.int .u8 (o1 : Int)))) := Lib.hid (below_on' BA.out (B1.out.setCell (Nat.le_refl _) _)); have FW : Hid (FrAt (W1.setCell ⟨wa.heap.size, i, none⟩ (.int .u8 (o1 : Int))) w.heap.size f) := Lib.hid (FA.out.below (B1.out.setCell (Nat.le_refl _) _)))))
    | (go_at_call 15; ((with_reducible refine (PK.out _).mono ?_); rintro e w' ⟨rfl, rfl⟩))
    | (go_at_call 13; ((with_reducible refine (DD.out.at _ ?_).mono ?_); (· exact tabs_below HT.out BW.out); rintro e wd ⟨rfl, hb⟩; have FD : Hid (FrAt wd w.heap.size f) := Lib.hid (stays FW.out hb); have BD := Lib.hid (below_on' BW.out hb); clear hb))
    | (go_at_call 13; ((with_reducible refine (PP.out.at _ ?_).mono ?_); (· exact tabs1 HT.out BD.out); rintro e wp ⟨rfl, hb⟩; have FP : Hid (FrAt wp w.heap.size f) := Lib.hid (stays1 FD.out hb); have BP := Lib.hid (on1 BD.out hb); clear hb))
    | (go_at_call 13; ((with_reducible refine (MM.out.at _ ?_).mono ?_); (· exact tabs1 HT.out BP.out); rintro e wm ⟨rfl, hb⟩; have FM : Hid (FrAt wm w.heap.size f) := Lib.hid (stays1 FP.out hb); have BM := Lib.hid (on1 BP.out hb); clear hb))
    | (go_at_call 8; ((with_reducible refine (works _ ?_).mono ?_); (· exact tabs1 HT.out BM.out); rintro e we ⟨rfl, hb⟩; have BE := Lib.hid (on1 BM.out hb); clear hb)))
  go_ret
  exact ⟨rfl, BE.out⟩
set_option maxHeartbeats 4000000 in
set_option maxRecDepth 100000 in
theorem turn_Zio (f : Fr) (ini : Bool) (pl : Int) (bs fr cut : Nat) (w : World) (ht : Tabs w) (T S : ByteArray) (n z i x o1 tt c q : Nat) (e1 : EncOk f ini 128 T) (tl : T.size ≤ 1000) (t6 : 6 ≤ T.size) (hS : T.extract 1 (T.size - 1) = S) (hn : S.size = n) (_n4 : 4 ≤ n) (_n5 : n ≤ 1000) (hz : (n : Int) - 1 = z) (_hi : i < z) (h128 : f.info.size ≤ 128) (hb : bs ≠ 0) (hb2 : bs < 256) (hcut : cut < 256) (pk : ∀ w, Calls Tryd.prog 15 #[.int .i64 pl, .int .i64 (z : Int)] w fun e w' => e = .returned (.int .i64 (i : Int)) ∧ w = w') (hw : IntKind.u16.wrap ((bs : Int) * 2 ^ (fr % 8)) = (tt : Int)) (_htt : tt < 65536) (hx : (S.data.toList.getD i 0).toNat = x) (he1 : bits .xor .u8 (x : Int) ((tt : Int) % 256) = (o1 : Int)) (ho1 : o1 < 256) (hc : (cut : Int) % ((T.size : Int) - 3) = (c : Int)) (hq : (T.size : Int) - 1 - 1 - (c : Int) = (q : Int)) (q1 : 1 ≤ q) (q2 : q ≤ T.size) (P : DecNo (T.extract 1 q) ini 128 40) (M : DecNo (T.extract 1 T.size) ini 128 40) (k5 : ((f.k : Int) == 5) = false) (hd : Nat) (hh : 3 + (f.info.size : Int) / 128 = (hd : Int)) (hlt : ¬ i + 1 < z) (l0 : ((tt : Int) % 256 == 0) = false) (t : ByteArray) (htt' : (⟨(S.data.toList.set i (UInt8.ofNat o1)).toArray⟩ : ByteArray) = t) (g : Fr) (hg : eqF g f = false) (D : DecOk t ini 128 g) :
    Calls Tryd.prog 6 #[fv f, .bool ini, .int .i64 pl, .int .u8 (bs : Int), .int .u8 (fr : Int), .int .u8 (cut : Int)] w fun e w' => e = .returned (.bool true) ∧ Below w.heap.size w w' := by
  have HT := Lib.hid ht
  have E1 := Lib.hid e1
  have PP := Lib.hid P
  have MM := Lib.hid M
  have DD := Lib.hid D
  have PK := Lib.hid pk
  have HN := Lib.hid hn
  have HX := Lib.hid hx
  have b0 : ((bs : Int) == 0) = false := by rw [beq_eq_false_iff_ne]; omega
  have d1 : decide ((f.info.size : Int) > 128) = false := by simp; omega
  have p0 : (0 : Int) ≤ (T.size : Int) - 1 := by omega
  have p1 : ((T.size : Int) - 1).toNat = T.size - 1 := by omega
  have p2 : (T.size : Int) - 1 < T.size := by omega
  have p3 : (1 : Int) ≤ (T.size : Int) - 1 := by omega
  have p4 : (T.size : Int) - 1 ≤ T.size := by omega
  have HL : Hid (S.data.toList.length = n) := Lib.hid hn
  have IL : Hid (i < S.data.toList.length) := Lib.hid (by rw [HL.out]; omega)
  have HR := Lib.hid htt'
  clear htt'
  have hgd : Tryd.prog.eqGuardType Tryd.prog.depth 23 = false := by kernel_rfl
  have he := neq_of hg
  clear hg
  clear ht e1 P M D pk hn hx hb
  go_enter Tryd.func6, Tryd.ntmps6
  go_wp2_with (first
    | (go_at_call 9; ((with_reducible refine (E1.out.at _ ?_).mono ?_); (· exact tabs1 HT.out (Below.refl _ _)); rintro e wa ⟨rfl, hb⟩; have FA : Hid (FrAt wa w.heap.size f) := Lib.hid (fresh1 hb); have BA := Lib.hid (on1 (Below.refl w.heap.size w) hb); clear hb; obtain ⟨k0, k1, k2, k3, k4, k5', k6⟩ := FA.out.cells; obtain ⟨W1, cap, hconv, RW, B1⟩ := bytes_of wa S n HN.out; go_must ( have F1 : Hid (FrAt W1 w.heap.size f) := Lib.hid (FA.out.below B1.out); obtain ⟨g0, g1, g2, g3, g4, g5, g6⟩ := F1.out.cells; have C1 : W1.cell? ⟨wa.heap.size, i, none⟩ = some (.int .u8 (x : Int)) := (by rw [← HX.out]; exact RW.out.cell i IL.out); have Z1 : W1.frozen? ⟨wa.heap.size, i, none⟩ = false := RW.out.free i IL.out; have hcv := (RW.out.put i IL.out o1 ho1).conv n cap (by rw [List.length_set]; exact HL.out); rw [HR.out] at hcv; have BW : Hid (Below w.heap.size w (W1.setCell ⟨wa.heap.size, i, none⟩ (.int .u8 (o1 : Int)))) := Lib.hid (below_on' BA.out (B1.out.setCell (Nat.le_refl _) _)); have FW : Hid (FrAt (W1.setCell ⟨wa.heap.size, i, none⟩ (.int .u8 (o1 : Int))) w.heap.size f) := Lib.hid (FA.out.below (B1.out.setCell (Nat.le_refl _) _)))))
    | (go_at_call 15; ((with_reducible refine (PK.out _).mono ?_); rintro e w' ⟨rfl, rfl⟩))
    | (go_at_call 13; ((with_reducible refine (DD.out.at _ ?_).mono ?_); (· exact tabs_below HT.out BW.out); rintro e wd ⟨rfl, hb⟩; have FD : Hid (FrAt wd w.heap.size f) := Lib.hid (stays FW.out hb); have BD := Lib.hid (below_on' BW.out hb); clear hb))
    | (go_at_call 13; ((with_reducible refine (PP.out.at _ ?_).mono ?_); (· exact tabs1 HT.out BD.out); rintro e wp ⟨rfl, hb⟩; have FP : Hid (FrAt wp w.heap.size f) := Lib.hid (stays1 FD.out hb); have GP : Hid (FrAt wp wd.heap.size g) := Lib.hid (fresh1 hb); have BP := Lib.hid (on1 BD.out hb); clear hb))
    | (go_at_call 13; ((with_reducible refine (MM.out.at _ ?_).mono ?_); (· exact tabs1 HT.out BP.out); rintro e wm ⟨rfl, hb⟩; have FM : Hid (FrAt wm w.heap.size f) := Lib.hid (stays1 FP.out hb); have GM : Hid (FrAt wm wd.heap.size g) := Lib.hid (stays1 GP.out hb); have hlt1 : wd.heap.size < wm.heap.size := lt_heap GM.out; have hlt2 : w.heap.size < wm.heap.size := lt_heap FM.out; obtain ⟨m0, m1, m2, m3, m4, m5, m6⟩ := GM.out.cells; obtain ⟨n0, n1, n2, n3, n4', n5, n6⟩ := FM.out.cells; have BM := Lib.hid (on1 BP.out hb); clear hb))
    | (go_at_call 8; ((with_reducible refine (works _ ?_).mono ?_); (· exact tabs1 HT.out BM.out); rintro e we ⟨rfl, hb⟩; have BE := Lib.hid (on1 BM.out hb); clear hb)))
  go_ret
  exact ⟨rfl, BE.out⟩
set_option maxHeartbeats 4000000 in
set_option maxRecDepth 100000 in
theorem turn_Zin (f : Fr) (ini : Bool) (pl : Int) (bs fr cut : Nat) (w : World) (ht : Tabs w) (T S : ByteArray) (n z i x o1 tt c q : Nat) (e1 : EncOk f ini 128 T) (tl : T.size ≤ 1000) (t6 : 6 ≤ T.size) (hS : T.extract 1 (T.size - 1) = S) (hn : S.size = n) (_n4 : 4 ≤ n) (_n5 : n ≤ 1000) (hz : (n : Int) - 1 = z) (_hi : i < z) (h128 : f.info.size ≤ 128) (hb : bs ≠ 0) (hb2 : bs < 256) (hcut : cut < 256) (pk : ∀ w, Calls Tryd.prog 15 #[.int .i64 pl, .int .i64 (z : Int)] w fun e w' => e = .returned (.int .i64 (i : Int)) ∧ w = w') (hw : IntKind.u16.wrap ((bs : Int) * 2 ^ (fr % 8)) = (tt : Int)) (_htt : tt < 65536) (hx : (S.data.toList.getD i 0).toNat = x) (he1 : bits .xor .u8 (x : Int) ((tt : Int) % 256) = (o1 : Int)) (ho1 : o1 < 256) (hc : (cut : Int) % ((T.size : Int) - 3) = (c : Int)) (hq : (T.size : Int) - 1 - 1 - (c : Int) = (q : Int)) (q1 : 1 ≤ q) (q2 : q ≤ T.size) (P : DecNo (T.extract 1 q) ini 128 40) (M : DecNo (T.extract 1 T.size) ini 128 40) (k5 : ((f.k : Int) == 5) = false) (hd : Nat) (hh : 3 + (f.info.size : Int) / 128 = (hd : Int)) (hlt : ¬ i + 1 < z) (l0 : ((tt : Int) % 256 == 0) = false) (t : ByteArray) (htt' : (⟨(S.data.toList.set i (UInt8.ofNat o1)).toArray⟩ : ByteArray) = t) (r : Int) (hr : r ≠ 0) (D : DecNo t ini 128 r) :
    Calls Tryd.prog 6 #[fv f, .bool ini, .int .i64 pl, .int .u8 (bs : Int), .int .u8 (fr : Int), .int .u8 (cut : Int)] w fun e w' => e = .returned (.bool true) ∧ Below w.heap.size w w' := by
  have HT := Lib.hid ht
  have E1 := Lib.hid e1
  have PP := Lib.hid P
  have MM := Lib.hid M
  have DD := Lib.hid D
  have PK := Lib.hid pk
  have HN := Lib.hid hn
  have HX := Lib.hid hx
  have b0 : ((bs : Int) == 0) = false := by rw [beq_eq_false_iff_ne]; omega
  have d1 : decide ((f.info.size : Int) > 128) = false := by simp; omega
  have p0 : (0 : Int) ≤ (T.size : Int) - 1 := by omega
  have p1 : ((T.size : Int) - 1).toNat = T.size - 1 := by omega
  have p2 : (T.size : Int) - 1 < T.size := by omega
  have p3 : (1 : Int) ≤ (T.size : Int) - 1 := by omega
  have p4 : (T.size : Int) - 1 ≤ T.size := by omega
  have HL : Hid (S.data.toList.length = n) := Lib.hid hn
  have IL : Hid (i < S.data.toList.length) := Lib.hid (by rw [HL.out]; omega)
  have HR := Lib.hid htt'
  clear htt'
  have r0 : (r == 0) = false := by rw [beq_eq_false_iff_ne]; exact hr
  have r1 : (r != 0) = true := by rw [bne_iff_ne]; exact hr
  clear hr
  clear ht e1 P M D pk hn hx hb
  go_enter Tryd.func6, Tryd.ntmps6
  go_wp2_with (first
    | (go_at_call 9; ((with_reducible refine (E1.out.at _ ?_).mono ?_); (· exact tabs1 HT.out (Below.refl _ _)); rintro e wa ⟨rfl, hb⟩; have FA : Hid (FrAt wa w.heap.size f) := Lib.hid (fresh1 hb); have BA := Lib.hid (on1 (Below.refl w.heap.size w) hb); clear hb; obtain ⟨k0, k1, k2, k3, k4, k5', k6⟩ := FA.out.cells; obtain ⟨W1, cap, hconv, RW, B1⟩ := bytes_of wa S n HN.out; go_must ( have F1 : Hid (FrAt W1 w.heap.size f) := Lib.hid (FA.out.below B1.out); obtain ⟨g0, g1, g2, g3, g4, g5, g6⟩ := F1.out.cells; have C1 : W1.cell? ⟨wa.heap.size, i, none⟩ = some (.int .u8 (x : Int)) := (by rw [← HX.out]; exact RW.out.cell i IL.out); have Z1 : W1.frozen? ⟨wa.heap.size, i, none⟩ = false := RW.out.free i IL.out; have hcv := (RW.out.put i IL.out o1 ho1).conv n cap (by rw [List.length_set]; exact HL.out); rw [HR.out] at hcv; have BW : Hid (Below w.heap.size w (W1.setCell ⟨wa.heap.size, i, none⟩ (.int .u8 (o1 : Int)))) := Lib.hid (below_on' BA.out (B1.out.setCell (Nat.le_refl _) _)); have FW : Hid (FrAt (W1.setCell ⟨wa.heap.size, i, none⟩ (.int .u8 (o1 : Int))) w.heap.size f) := Lib.hid (FA.out.below (B1.out.setCell (Nat.le_refl _) _)))))
    | (go_at_call 15; ((with_reducible refine (PK.out _).mono ?_); rintro e w' ⟨rfl, rfl⟩))
    | (go_at_call 13; ((with_reducible refine (DD.out.at _ ?_).mono ?_); (· exact tabs_below HT.out BW.out); rintro e wd ⟨rfl, hb⟩; have FD : Hid (FrAt wd w.heap.size f) := Lib.hid (stays FW.out hb); have BD := Lib.hid (below_on' BW.out hb); clear hb))
    | (go_at_call 13; ((with_reducible refine (PP.out.at _ ?_).mono ?_); (· exact tabs1 HT.out BD.out); rintro e wp ⟨rfl, hb⟩; have FP : Hid (FrAt wp w.heap.size f) := Lib.hid (stays1 FD.out hb); have BP := Lib.hid (on1 BD.out hb); clear hb))
    | (go_at_call 13; ((with_reducible refine (MM.out.at _ ?_).mono ?_); (· exact tabs1 HT.out BP.out); rintro e wm ⟨rfl, hb⟩; have FM : Hid (FrAt wm w.heap.size f) := Lib.hid (stays1 FP.out hb); have BM := Lib.hid (on1 BP.out hb); clear hb))
    | (go_at_call 8; ((with_reducible refine (works _ ?_).mono ?_); (· exact tabs1 HT.out BM.out); rintro e we ⟨rfl, hb⟩; have BE := Lib.hid (on1 BM.out hb); clear hb)))
  go_ret
  exact ⟨rfl, BE.out⟩
end Go.Proofs.YtglbnacnlkdoiaaDoor.Basic

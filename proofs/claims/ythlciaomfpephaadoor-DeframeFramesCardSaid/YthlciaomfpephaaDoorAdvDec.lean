/-
  What layer 5's Decode answers. Conditions: the tables of layers 1 and 3 lie where the program lays them; at most 1000 octets.
-/
import Derived.Test.YthlciaomfpephaaDoorAdvEnc
namespace Go.Proofs.YthlciaomfpephaaDoor.Adv
open Go.RowKit Go.Proofs.YthlciaomfpephaaDoor.Base Go.Proofs.YthlciaomfpephaaDoor.Ea Go.Proofs.YthlciaomfpephaaDoor.Field Go.Proofs.YthlciaomfpephaaDoor.Basic
theorem unstuff_no {s : ByteArray} (hs : s.size ≤ 100000) (h : un s.data.toList = none) (w : World) :
    Calls Tryd.prog 55 #[.string s] w fun e w' => e = .returned (.tuple #[.string ⟨#[]⟩, .bool false]) ∧ Below w.heap.size w w' := by
  have p := unstuff s hs w
  rw [unV_none h] at p
  exact p
theorem unstuff_yes {s t : ByteArray} (hs : s.size ≤ 100000) (h : un s.data.toList = some t.data.toList) (w : World) :
    Calls Tryd.prog 55 #[.string s] w fun e w' => e = .returned (.tuple #[.string t, .bool true]) ∧ Below w.heap.size w w' := by
  have p := unstuff s hs w
  rw [unV_some h] at p
  exact p
theorem tab_drewN {w : World} (h : Tabs w) (n : Nat) : Tabs (w.drewN n) := tabs_below h (below_drewN (Below.refl _ _) n)
/-- What comes in at a frame's place. -/
abbrev gv (d : Nat) (c : Bool) (k : Nat) (pf : Bool) (ns nr : Nat) (i : ByteArray) : Value := .agg #[.int .u8 (d : Int), .bool c, .int .u8 (k : Int), .bool pf, .int .u8 (ns : Int), .int .u8 (nr : Int), .string i]
set_option maxHeartbeats 2000000 in
theorem d_no (s : ByteArray) (ini : Bool) (n1 : Int) (CU : ∀ w, Calls Tryd.prog 55 #[.string s] w fun e w' => e = .returned (.tuple #[.string ⟨#[]⟩, .bool false]) ∧ Below w.heap.size w w') (w : World) :
    Calls Tryd.prog 50 #[.string s, .bool ini, .int .i64 n1] w fun e w' => e = .returned (.tuple #[noFr, .int .i64 40]) ∧ Below w.heap.size w w' := by
  have HCU := Lib.hid CU
  clear CU
  go_enter Tryd.func50, Tryd.ntmps50
  go_wp2_with (go_at_call 55; ((with_reducible refine (HCU.out _).mono ?_); rintro e w1 ⟨rfl, hb⟩; have RA := Lib.hid (fresh0 hb); obtain ⟨⟨k0, k1, k2, k3, k4, k5, k6⟩, kf⟩ := no_cells RA.out; have hlt : w.heap.size < w1.heap.size := lt_heap RA.out; have BA := Lib.hid (on0 hb); clear hb))
  exact bodyPost_ret (v := .tuple #[noFr, .int .i64 40]) (by simp [results, Tryd.results50, go_sem, k0, k1, k2, k3, k4, k5, k6]) rfl ⟨rfl, set7 BA.out (by omega) _ _ _ _ _ _ _⟩
set_option maxHeartbeats 2000000 in
theorem d_short (s t : ByteArray) (h : t.size < 3) (ini : Bool) (n1 : Int) (CU : ∀ w, Calls Tryd.prog 55 #[.string s] w fun e w' => e = .returned (.tuple #[.string t, .bool true]) ∧ Below w.heap.size w w') (w : World) :
    Calls Tryd.prog 50 #[.string s, .bool ini, .int .i64 n1] w fun e w' => e = .returned (.tuple #[noFr, .int .i64 40]) ∧ Below w.heap.size w w' := by
  have HCU := Lib.hid CU
  have qs : decide ((t.size : Int) < 3) = true := by simp; omega
  clear CU
  go_enter Tryd.func50, Tryd.ntmps50
  go_wp2_with (go_at_call 55; ((with_reducible refine (HCU.out _).mono ?_); rintro e w1 ⟨rfl, hb⟩; have RA := Lib.hid (fresh0 hb); obtain ⟨⟨k0, k1, k2, k3, k4, k5, k6⟩, kf⟩ := no_cells RA.out; have hlt : w.heap.size < w1.heap.size := lt_heap RA.out; have BA := Lib.hid (on0 hb); clear hb))
  exact bodyPost_ret (v := .tuple #[noFr, .int .i64 40]) (by simp [results, Tryd.results50, go_sem, k0, k1, k2, k3, k4, k5, k6]) rfl ⟨rfl, set7 BA.out (by omega) _ _ _ _ _ _ _⟩
set_option maxHeartbeats 2000000 in
theorem d_addr (s : ByteArray) (t : ByteArray) (ht3 : 3 ≤ t.size) (htz : t.size ≤ 1000) (q0 : 0 < t.size) (ini : Bool) (n1 : Int) (d : Nat) (c : Bool) (CU : ∀ w, Calls Tryd.prog 55 #[.string s] w fun e w' => e = .returned (.tuple #[.string t, .bool true]) ∧ Below w.heap.size w w') (CS : ∀ w, Calls Tryd.prog 44 #[.int .u8 (t[0].toNat : Int)] w fun e w' => e = .returned (.tuple #[.int .u8 (d : Int), .bool c, .bool false]) ∧ w = w') (w : World) :
    Calls Tryd.prog 50 #[.string s, .bool ini, .int .i64 n1] w fun e w' => e = .returned (.tuple #[noFr, .int .i64 40]) ∧ Below w.heap.size w w' := by
  have HCU := Lib.hid CU
  have HCS := Lib.hid CS
  have qs : decide ((t.size : Int) < 3) = false := by simp; omega
  clear CU CS
  go_enter Tryd.func50, Tryd.ntmps50
  go_wp2_with (first | (go_at_call 55; ((with_reducible refine (HCU.out _).mono ?_); rintro e w1 ⟨rfl, hb⟩; have RA := Lib.hid (fresh0 hb); obtain ⟨⟨k0, k1, k2, k3, k4, k5, k6⟩, kf⟩ := no_cells RA.out; have hlt : w.heap.size < w1.heap.size := lt_heap RA.out; have BA := Lib.hid (on0 hb); clear hb)) | (go_at_call 44; ((with_reducible refine (HCS.out _).mono ?_); rintro e w' ⟨rfl, rfl⟩)))
  exact bodyPost_ret (v := .tuple #[noFr, .int .i64 40]) (by simp [results, Tryd.results50, go_sem, k0, k1, k2, k3, k4, k5, k6]) rfl ⟨rfl, set7 BA.out (by omega) _ _ _ _ _ _ _⟩
set_option maxHeartbeats 2000000 in
theorem d_field (s : ByteArray) (t : ByteArray) (ht3 : 3 ≤ t.size) (htz : t.size ≤ 1000) (q0 : 0 < t.size) (q1 : 1 < t.size) (ini : Bool) (n1 : Int) (d k ns nr : Nat) (c pf : Bool) (CU : ∀ w, Calls Tryd.prog 55 #[.string s] w fun e w' => e = .returned (.tuple #[.string t, .bool true]) ∧ Below w.heap.size w w') (CS : ∀ w, Calls Tryd.prog 44 #[.int .u8 (t[0].toNat : Int)] w fun e w' => e = .returned (.tuple #[.int .u8 (d : Int), .bool c, .bool true]) ∧ w = w') (CG : ∀ w, Tabs w → Calls Tryd.prog 56 #[.int .u8 (t[1].toNat : Int)] w fun e w' => e = .returned (.tuple #[.int .u8 (k : Int), .bool pf, .int .u8 (ns : Int), .int .u8 (nr : Int), .int .i64 30]) ∧ Below w.heap.size w w') (w : World) (ht : Tabs w) :
    Calls Tryd.prog 50 #[.string s, .bool ini, .int .i64 n1] w fun e w' => e = .returned (.tuple #[noFr, .int .i64 30]) ∧ Below w.heap.size w w' := by
  have qs : decide ((t.size : Int) < 3) = false := by simp; omega
  have HCU := Lib.hid CU
  have HCS := Lib.hid CS
  have HCG := Lib.hid CG
  have HT := Lib.hid ht
  clear CU CS CG ht
  go_enter Tryd.func50, Tryd.ntmps50
  go_wp2_with (first | (go_at_call 55; ((with_reducible refine (HCU.out _).mono ?_); rintro e w1 ⟨rfl, hb⟩; have RA := Lib.hid (fresh0 hb); obtain ⟨⟨k0, k1, k2, k3, k4, k5, k6⟩, kf⟩ := no_cells RA.out; have hlt : w.heap.size < w1.heap.size := lt_heap RA.out; have BA := Lib.hid (on0 hb); clear hb)) | (go_at_call 44; ((with_reducible refine (HCS.out _).mono ?_); rintro e w' ⟨rfl, rfl⟩)) | (go_at_call 56; ((with_reducible refine (HCG.out _ ?_).mono ?_); (· exact tabs_below HT.out BA.out); rintro e w2 ⟨rfl, hb⟩; clear k0 k1 k2 k3 k4 k5 k6 kf; have RB := Lib.hid (stays RA.out hb); obtain ⟨⟨k0, k1, k2, k3, k4, k5, k6⟩, kf⟩ := no_cells RB.out; have hlt2 : w.heap.size < w2.heap.size := lt_heap RB.out; have BB := Lib.hid (below_on' BA.out hb); clear hb)))
  exact bodyPost_ret (v := .tuple #[noFr, .int .i64 30]) (by simp [results, Tryd.results50, go_sem, k0, k1, k2, k3, k4, k5, k6]) rfl ⟨rfl, set7 BB.out (by omega) _ _ _ _ _ _ _⟩
set_option maxHeartbeats 2000000 in
theorem d_fcs (s : ByteArray) (t : ByteArray) (ht3 : 3 ≤ t.size) (htz : t.size ≤ 1000) (q0 : 0 < t.size) (q1 : 1 < t.size) (q2 : t.size - 1 < t.size) (ini : Bool) (n1 : Int) (d k ns nr m : Nat) (c pf : Bool) (q : ByteArray) (hq : t.extract 0 (t.size - 1) = q) (CU : ∀ w, Calls Tryd.prog 55 #[.string s] w fun e w' => e = .returned (.tuple #[.string t, .bool true]) ∧ Below w.heap.size w w') (CS : ∀ w, Calls Tryd.prog 44 #[.int .u8 (t[0].toNat : Int)] w fun e w' => e = .returned (.tuple #[.int .u8 (d : Int), .bool c, .bool true]) ∧ w = w') (CG : ∀ w, Tabs w → Calls Tryd.prog 56 #[.int .u8 (t[1].toNat : Int)] w fun e w' => e = .returned (.tuple #[.int .u8 (k : Int), .bool pf, .int .u8 (ns : Int), .int .u8 (nr : Int), .int .i64 0]) ∧ Below w.heap.size w w') (CC : ∀ w, Tabs w → Calls Tryd.prog 23 #[.int .u8 (k : Int), .string q] w fun e w' => e = .returned (.int .u8 (m : Int)) ∧ w = w') (hm : (m : Int) ≠ ((t[t.size - 1]'q2).toNat : Int)) (w : World) (ht : Tabs w) :
    Calls Tryd.prog 50 #[.string s, .bool ini, .int .i64 n1] w fun e w' => e = .returned (.tuple #[noFr, .int .i64 41]) ∧ Below w.heap.size w w' := by
  have qs : decide ((t.size : Int) < 3) = false := by simp; omega
  have p0 : (0 : Int) ≤ (t.size : Int) - 1 := by omega
  have p1 : ((t.size : Int) - 1).toNat = t.size - 1 := by omega
  have p2 : (t.size : Int) - 1 < t.size := by omega
  have p4 : (t.size : Int) - 1 ≤ t.size := by omega
  have p3 : (2 : Int) ≤ (t.size : Int) - 1 := by omega
  have p6 : IntKind.i64.wrap ((t.size : Int) - 1) = (t.size : Int) - 1 := wraps_i64 _ (by omega) (by omega)
  have p7 : (1 : Int) ≤ t.size := by omega
  have x1 : ((m : Int) == ((t[t.size - 1]'q2).toNat : Int)) = false := by rw [beq_eq_false_iff_ne]; exact hm
  have x2 : ((m : Int) != ((t[t.size - 1]'q2).toNat : Int)) = true := by rw [bne_iff_ne]; exact hm
  clear hm
  have HCU := Lib.hid CU
  have HCS := Lib.hid CS
  have HCG := Lib.hid CG
  have HCC := Lib.hid CC
  have HT := Lib.hid ht
  clear CU CS CG CC ht
  go_enter Tryd.func50, Tryd.ntmps50
  go_wp2_with (first | (go_at_call 55; ((with_reducible refine (HCU.out _).mono ?_); rintro e w1 ⟨rfl, hb⟩; have RA := Lib.hid (fresh0 hb); obtain ⟨⟨k0, k1, k2, k3, k4, k5, k6⟩, kf⟩ := no_cells RA.out; have hlt : w.heap.size < w1.heap.size := lt_heap RA.out; have BA := Lib.hid (on0 hb); clear hb)) | (go_at_call 44; ((with_reducible refine (HCS.out _).mono ?_); rintro e w' ⟨rfl, rfl⟩)) | (go_at_call 56; ((with_reducible refine (HCG.out _ ?_).mono ?_); (· exact tabs_below HT.out BA.out); rintro e w2 ⟨rfl, hb⟩; clear k0 k1 k2 k3 k4 k5 k6 kf; have RB := Lib.hid (stays RA.out hb); obtain ⟨⟨k0, k1, k2, k3, k4, k5, k6⟩, kf⟩ := no_cells RB.out; have hlt2 : w.heap.size < w2.heap.size := lt_heap RB.out; have BB := Lib.hid (below_on' BA.out hb); clear hb)))
  go_quiet ((go_at_call 23; exact quiet_left (HCC.out _ (tab_drewN (tabs_below HT.out BB.out) _))))
  clear k0 k1 k2 k3 k4 k5 k6 kf
  generalize hv : World.drewN _ nq = v
  have RN : Hid (v.heap[w.heap.size]? = some noObj) := Lib.hid (by rw [← hv]; exact RB.out)
  have BN : Hid (Below w.heap.size w v) := Lib.hid (by rw [← hv]; exact below_drewN BB.out _)
  have hlt3 : w.heap.size < v.heap.size := lt_heap RN.out
  obtain ⟨⟨k0, k1, k2, k3, k4, k5, k6⟩, kf⟩ := no_cells RN.out
  clear hv nq
  go_wp2
  exact bodyPost_ret (v := .tuple #[noFr, .int .i64 41]) (by simp [results, Tryd.results50, go_sem, k0, k1, k2, k3, k4, k5, k6]) rfl ⟨rfl, set7 BN.out (by omega) _ _ _ _ _ _ _⟩
set_option maxHeartbeats 2000000 in
theorem d_may (s : ByteArray) (t : ByteArray) (ht3 : 3 ≤ t.size) (htz : t.size ≤ 1000) (q0 : 0 < t.size) (q1 : 1 < t.size) (q2 : t.size - 1 < t.size) (ini : Bool) (n1 : Int) (d k ns nr m o : Nat) (c pf : Bool) (i q : ByteArray) (hi : t.extract 2 (t.size - 1) = i) (hq : t.extract 0 (t.size - 1) = q) (CU : ∀ w, Calls Tryd.prog 55 #[.string s] w fun e w' => e = .returned (.tuple #[.string t, .bool true]) ∧ Below w.heap.size w w') (CS : ∀ w, Calls Tryd.prog 44 #[.int .u8 (t[0].toNat : Int)] w fun e w' => e = .returned (.tuple #[.int .u8 (d : Int), .bool c, .bool true]) ∧ w = w') (CG : ∀ w, Tabs w → Calls Tryd.prog 56 #[.int .u8 (t[1].toNat : Int)] w fun e w' => e = .returned (.tuple #[.int .u8 (k : Int), .bool pf, .int .u8 (ns : Int), .int .u8 (nr : Int), .int .i64 0]) ∧ Below w.heap.size w w') (CC : ∀ w, Tabs w → Calls Tryd.prog 23 #[.int .u8 (k : Int), .string q] w fun e w' => e = .returned (.int .u8 (m : Int)) ∧ w = w') (CM : ∀ w, Tabs w → Calls Tryd.prog 19 #[gv d (c == ini) k pf ns nr i] w fun e w' => e = .returned (.tuple #[.int .u8 (o : Int), .bool false]) ∧ Below w.heap.size w w') (hm : (m : Int) = ((t[t.size - 1]'q2).toNat : Int)) (w : World) (ht : Tabs w) :
    Calls Tryd.prog 50 #[.string s, .bool ini, .int .i64 n1] w fun e w' => e = .returned (.tuple #[noFr, .int .i64 40]) ∧ Below w.heap.size w w' := by
  have qs : decide ((t.size : Int) < 3) = false := by simp; omega
  have p0 : (0 : Int) ≤ (t.size : Int) - 1 := by omega
  have p1 : ((t.size : Int) - 1).toNat = t.size - 1 := by omega
  have p2 : (t.size : Int) - 1 < t.size := by omega
  have p4 : (t.size : Int) - 1 ≤ t.size := by omega
  have p3 : (2 : Int) ≤ (t.size : Int) - 1 := by omega
  have p6 : IntKind.i64.wrap ((t.size : Int) - 1) = (t.size : Int) - 1 := wraps_i64 _ (by omega) (by omega)
  have p7 : (1 : Int) ≤ t.size := by omega
  have x1 : ((m : Int) == ((t[t.size - 1]'q2).toNat : Int)) = true := by rw [beq_iff_eq]; exact hm
  have x2 : ((m : Int) != ((t[t.size - 1]'q2).toNat : Int)) = false := by rw [bne, x1]; rfl
  clear hm
  have HCU := Lib.hid CU
  have HCS := Lib.hid CS
  have HCG := Lib.hid CG
  have HCC := Lib.hid CC
  have HCM := Lib.hid CM
  have HT := Lib.hid ht
  clear CU CS CG CC CM ht
  go_enter Tryd.func50, Tryd.ntmps50
  go_wp2_with (first | (go_at_call 55; ((with_reducible refine (HCU.out _).mono ?_); rintro e w1 ⟨rfl, hb⟩; have RA := Lib.hid (fresh0 hb); obtain ⟨⟨k0, k1, k2, k3, k4, k5, k6⟩, kf⟩ := no_cells RA.out; have hlt : w.heap.size < w1.heap.size := lt_heap RA.out; have BA := Lib.hid (on0 hb); clear hb)) | (go_at_call 44; ((with_reducible refine (HCS.out _).mono ?_); rintro e w' ⟨rfl, rfl⟩)) | (go_at_call 56; ((with_reducible refine (HCG.out _ ?_).mono ?_); (· exact tabs_below HT.out BA.out); rintro e w2 ⟨rfl, hb⟩; clear k0 k1 k2 k3 k4 k5 k6 kf; have RB := Lib.hid (stays RA.out hb); obtain ⟨⟨k0, k1, k2, k3, k4, k5, k6⟩, kf⟩ := no_cells RB.out; have hlt2 : w.heap.size < w2.heap.size := lt_heap RB.out; have BB := Lib.hid (below_on' BA.out hb); clear hb)))
  go_quiet ((go_at_call 23; exact quiet_left (HCC.out _ (tab_drewN (tabs_below HT.out BB.out) _))))
  clear k0 k1 k2 k3 k4 k5 k6 kf
  generalize hv : World.drewN _ nq = v
  have RN : Hid (v.heap[w.heap.size]? = some noObj) := Lib.hid (by rw [← hv]; exact RB.out)
  have BN : Hid (Below w.heap.size w v) := Lib.hid (by rw [← hv]; exact below_drewN BB.out _)
  have hlt3 : w.heap.size < v.heap.size := lt_heap RN.out
  obtain ⟨⟨k0, k1, k2, k3, k4, k5, k6⟩, kf⟩ := no_cells RN.out
  clear hv nq
  go_wp2_with (go_at_call 19; ((with_reducible refine (HCM.out _ ?_).mono ?_); (· exact tabs1 HT.out BN.out); rintro e w3 ⟨rfl, hb⟩; clear k0 k1 k2 k3 k4 k5 k6 kf; have RC := Lib.hid (stays1 RN.out hb); have FC : Hid (FrAt w3 v.heap.size (⟨d, c == ini, k, pf, ns, nr, i⟩ : Fr)) := Lib.hid (fresh1 hb); obtain ⟨⟨k0, k1, k2, k3, k4, k5, k6⟩, kf⟩ := no_cells RC.out; obtain ⟨g0, g1, g2, g3, g4, g5, g6⟩ := FC.out.cells; dsimp only at g0 g1 g2 g3 g4 g5 g6; have BC := Lib.hid (on1 BN.out hb); clear hb))
  exact bodyPost_ret (v := .tuple #[noFr, .int .i64 40]) (by simp [results, Tryd.results50, go_sem, k0, k1, k2, k3, k4, k5, k6]) rfl ⟨rfl, set7 BC.out (by omega) _ _ _ _ _ _ _⟩
set_option maxHeartbeats 2000000 in
theorem d_limit (s : ByteArray) (t : ByteArray) (ht3 : 3 ≤ t.size) (htz : t.size ≤ 1000) (q0 : 0 < t.size) (q1 : 1 < t.size) (q2 : t.size - 1 < t.size) (ini : Bool) (n1 : Int) (d k ns nr m o : Nat) (c pf : Bool) (i q : ByteArray) (hi : t.extract 2 (t.size - 1) = i) (hq : t.extract 0 (t.size - 1) = q) (CU : ∀ w, Calls Tryd.prog 55 #[.string s] w fun e w' => e = .returned (.tuple #[.string t, .bool true]) ∧ Below w.heap.size w w') (CS : ∀ w, Calls Tryd.prog 44 #[.int .u8 (t[0].toNat : Int)] w fun e w' => e = .returned (.tuple #[.int .u8 (d : Int), .bool c, .bool true]) ∧ w = w') (CG : ∀ w, Tabs w → Calls Tryd.prog 56 #[.int .u8 (t[1].toNat : Int)] w fun e w' => e = .returned (.tuple #[.int .u8 (k : Int), .bool pf, .int .u8 (ns : Int), .int .u8 (nr : Int), .int .i64 0]) ∧ Below w.heap.size w w') (CC : ∀ w, Tabs w → Calls Tryd.prog 23 #[.int .u8 (k : Int), .string q] w fun e w' => e = .returned (.int .u8 (m : Int)) ∧ w = w') (CM : ∀ w, Tabs w → Calls Tryd.prog 19 #[gv d (c == ini) k pf ns nr i] w fun e w' => e = .returned (.tuple #[.int .u8 (o : Int), .bool true]) ∧ Below w.heap.size w w') (hm : (m : Int) = ((t[t.size - 1]'q2).toNat : Int)) (hr : room n1 < i.size) (w : World) (ht : Tabs w) :
    Calls Tryd.prog 50 #[.string s, .bool ini, .int .i64 n1] w fun e w' => e = .returned (.tuple #[noFr, .int .i64 3]) ∧ Below w.heap.size w w' := by
  have qs : decide ((t.size : Int) < 3) = false := by simp; omega
  have p0 : (0 : Int) ≤ (t.size : Int) - 1 := by omega
  have p1 : ((t.size : Int) - 1).toNat = t.size - 1 := by omega
  have p2 : (t.size : Int) - 1 < t.size := by omega
  have p4 : (t.size : Int) - 1 ≤ t.size := by omega
  have p3 : (2 : Int) ≤ (t.size : Int) - 1 := by omega
  have p6 : IntKind.i64.wrap ((t.size : Int) - 1) = (t.size : Int) - 1 := wraps_i64 _ (by omega) (by omega)
  have p7 : (1 : Int) ≤ t.size := by omega
  have x1 : ((m : Int) == ((t[t.size - 1]'q2).toNat : Int)) = true := by rw [beq_iff_eq]; exact hm
  have x2 : ((m : Int) != ((t[t.size - 1]'q2).toNat : Int)) = false := by rw [bne, x1]; rfl
  clear hm
  have r1 : decide ((room n1 : Int) < i.size) = true := by simp; omega
  have HCU := Lib.hid CU
  have HCS := Lib.hid CS
  have HCG := Lib.hid CG
  have HCC := Lib.hid CC
  have HCM := Lib.hid CM
  have HT := Lib.hid ht
  clear CU CS CG CC CM ht
  go_enter Tryd.func50, Tryd.ntmps50
  go_wp2_with (first | (go_at_call 55; ((with_reducible refine (HCU.out _).mono ?_); rintro e w1 ⟨rfl, hb⟩; have RA := Lib.hid (fresh0 hb); obtain ⟨⟨k0, k1, k2, k3, k4, k5, k6⟩, kf⟩ := no_cells RA.out; have hlt : w.heap.size < w1.heap.size := lt_heap RA.out; have BA := Lib.hid (on0 hb); clear hb)) | (go_at_call 44; ((with_reducible refine (HCS.out _).mono ?_); rintro e w' ⟨rfl, rfl⟩)) | (go_at_call 56; ((with_reducible refine (HCG.out _ ?_).mono ?_); (· exact tabs_below HT.out BA.out); rintro e w2 ⟨rfl, hb⟩; clear k0 k1 k2 k3 k4 k5 k6 kf; have RB := Lib.hid (stays RA.out hb); obtain ⟨⟨k0, k1, k2, k3, k4, k5, k6⟩, kf⟩ := no_cells RB.out; have hlt2 : w.heap.size < w2.heap.size := lt_heap RB.out; have BB := Lib.hid (below_on' BA.out hb); clear hb)))
  go_quiet ((go_at_call 23; exact quiet_left (HCC.out _ (tab_drewN (tabs_below HT.out BB.out) _))))
  clear k0 k1 k2 k3 k4 k5 k6 kf
  generalize hv : World.drewN _ nq = v
  have RN : Hid (v.heap[w.heap.size]? = some noObj) := Lib.hid (by rw [← hv]; exact RB.out)
  have BN : Hid (Below w.heap.size w v) := Lib.hid (by rw [← hv]; exact below_drewN BB.out _)
  have hlt3 : w.heap.size < v.heap.size := lt_heap RN.out
  obtain ⟨⟨k0, k1, k2, k3, k4, k5, k6⟩, kf⟩ := no_cells RN.out
  clear hv nq
  go_wp2_with (go_at_call 19; ((with_reducible refine (HCM.out _ ?_).mono ?_); (· exact tabs1 HT.out BN.out); rintro e w3 ⟨rfl, hb⟩; clear k0 k1 k2 k3 k4 k5 k6 kf; have RC := Lib.hid (stays1 RN.out hb); have FC : Hid (FrAt w3 v.heap.size (⟨d, c == ini, k, pf, ns, nr, i⟩ : Fr)) := Lib.hid (fresh1 hb); obtain ⟨⟨k0, k1, k2, k3, k4, k5, k6⟩, kf⟩ := no_cells RC.out; obtain ⟨g0, g1, g2, g3, g4, g5, g6⟩ := FC.out.cells; dsimp only at g0 g1 g2 g3 g4 g5 g6; have BC := Lib.hid (on1 BN.out hb); clear hb))
  go_quiet ((go_at_call 20; exact quiet_left (flimit _ _)))
  clear g0 g1 g2 g3 g4 g5 g6 k0 k1 k2 k3 k4 k5 k6 kf
  generalize hv : World.drewN _ nq = v2
  have RD : Hid (v2.heap[w.heap.size]? = some noObj) := Lib.hid (by rw [← hv]; exact RC.out)
  have FD : Hid (FrAt v2 v.heap.size (⟨d, c == ini, k, pf, ns, nr, i⟩ : Fr)) := Lib.hid (by rw [← hv]; exact FC.out)
  have BD : Hid (Below w.heap.size w v2) := Lib.hid (by rw [← hv]; exact below_drewN BC.out _)
  clear hv nq
  obtain ⟨⟨k0, k1, k2, k3, k4, k5, k6⟩, kf⟩ := no_cells RD.out
  obtain ⟨g0, g1, g2, g3, g4, g5, g6⟩ := FD.out.cells
  dsimp only at g0 g1 g2 g3 g4 g5 g6
  go_wp2
  exact bodyPost_ret (v := .tuple #[noFr, .int .i64 3]) (by simp [results, Tryd.results50, go_sem, k0, k1, k2, k3, k4, k5, k6]) rfl ⟨rfl, set7 BD.out (by omega) _ _ _ _ _ _ _⟩
set_option maxHeartbeats 2000000 in
theorem d_ok (s : ByteArray) (t : ByteArray) (ht3 : 3 ≤ t.size) (htz : t.size ≤ 1000) (q0 : 0 < t.size) (q1 : 1 < t.size) (q2 : t.size - 1 < t.size) (ini : Bool) (n1 : Int) (d k ns nr m o : Nat) (c pf : Bool) (i q : ByteArray) (hi : t.extract 2 (t.size - 1) = i) (hq : t.extract 0 (t.size - 1) = q) (CU : ∀ w, Calls Tryd.prog 55 #[.string s] w fun e w' => e = .returned (.tuple #[.string t, .bool true]) ∧ Below w.heap.size w w') (CS : ∀ w, Calls Tryd.prog 44 #[.int .u8 (t[0].toNat : Int)] w fun e w' => e = .returned (.tuple #[.int .u8 (d : Int), .bool c, .bool true]) ∧ w = w') (CG : ∀ w, Tabs w → Calls Tryd.prog 56 #[.int .u8 (t[1].toNat : Int)] w fun e w' => e = .returned (.tuple #[.int .u8 (k : Int), .bool pf, .int .u8 (ns : Int), .int .u8 (nr : Int), .int .i64 0]) ∧ Below w.heap.size w w') (CC : ∀ w, Tabs w → Calls Tryd.prog 23 #[.int .u8 (k : Int), .string q] w fun e w' => e = .returned (.int .u8 (m : Int)) ∧ w = w') (CM : ∀ w, Tabs w → Calls Tryd.prog 19 #[gv d (c == ini) k pf ns nr i] w fun e w' => e = .returned (.tuple #[.int .u8 (o : Int), .bool true]) ∧ Below w.heap.size w w') (hm : (m : Int) = ((t[t.size - 1]'q2).toNat : Int)) (hr : i.size ≤ room n1) (w : World) (ht : Tabs w) :
    Calls Tryd.prog 50 #[.string s, .bool ini, .int .i64 n1] w fun e w' => e = .returned (.tuple #[fv (⟨d, c == ini, k, pf, ns, nr, i⟩ : Fr), .int .i64 0]) ∧ Below w.heap.size w w' := by
  have qs : decide ((t.size : Int) < 3) = false := by simp; omega
  have p0 : (0 : Int) ≤ (t.size : Int) - 1 := by omega
  have p1 : ((t.size : Int) - 1).toNat = t.size - 1 := by omega
  have p2 : (t.size : Int) - 1 < t.size := by omega
  have p4 : (t.size : Int) - 1 ≤ t.size := by omega
  have p3 : (2 : Int) ≤ (t.size : Int) - 1 := by omega
  have p6 : IntKind.i64.wrap ((t.size : Int) - 1) = (t.size : Int) - 1 := wraps_i64 _ (by omega) (by omega)
  have p7 : (1 : Int) ≤ t.size := by omega
  have x1 : ((m : Int) == ((t[t.size - 1]'q2).toNat : Int)) = true := by rw [beq_iff_eq]; exact hm
  have x2 : ((m : Int) != ((t[t.size - 1]'q2).toNat : Int)) = false := by rw [bne, x1]; rfl
  clear hm
  have r1 : decide ((room n1 : Int) < i.size) = false := by simp; omega
  have HCU := Lib.hid CU
  have HCS := Lib.hid CS
  have HCG := Lib.hid CG
  have HCC := Lib.hid CC
  have HCM := Lib.hid CM
  have HT := Lib.hid ht
  clear CU CS CG CC CM ht
  go_enter Tryd.func50, Tryd.ntmps50
  go_wp2_with (first | (go_at_call 55; ((with_reducible refine (HCU.out _).mono ?_); rintro e w1 ⟨rfl, hb⟩; have RA := Lib.hid (fresh0 hb); obtain ⟨⟨k0, k1, k2, k3, k4, k5, k6⟩, kf⟩ := no_cells RA.out; have hlt : w.heap.size < w1.heap.size := lt_heap RA.out; have BA := Lib.hid (on0 hb); clear hb)) | (go_at_call 44; ((with_reducible refine (HCS.out _).mono ?_); rintro e w' ⟨rfl, rfl⟩)) | (go_at_call 56; ((with_reducible refine (HCG.out _ ?_).mono ?_); (· exact tabs_below HT.out BA.out); rintro e w2 ⟨rfl, hb⟩; clear k0 k1 k2 k3 k4 k5 k6 kf; have RB := Lib.hid (stays RA.out hb); obtain ⟨⟨k0, k1, k2, k3, k4, k5, k6⟩, kf⟩ := no_cells RB.out; have hlt2 : w.heap.size < w2.heap.size := lt_heap RB.out; have BB := Lib.hid (below_on' BA.out hb); clear hb)))
  go_quiet ((go_at_call 23; exact quiet_left (HCC.out _ (tab_drewN (tabs_below HT.out BB.out) _))))
  clear k0 k1 k2 k3 k4 k5 k6 kf
  generalize hv : World.drewN _ nq = v
  have RN : Hid (v.heap[w.heap.size]? = some noObj) := Lib.hid (by rw [← hv]; exact RB.out)
  have BN : Hid (Below w.heap.size w v) := Lib.hid (by rw [← hv]; exact below_drewN BB.out _)
  have hlt3 : w.heap.size < v.heap.size := lt_heap RN.out
  obtain ⟨⟨k0, k1, k2, k3, k4, k5, k6⟩, kf⟩ := no_cells RN.out
  clear hv nq
  go_wp2_with (go_at_call 19; ((with_reducible refine (HCM.out _ ?_).mono ?_); (· exact tabs1 HT.out BN.out); rintro e w3 ⟨rfl, hb⟩; clear k0 k1 k2 k3 k4 k5 k6 kf; have RC := Lib.hid (stays1 RN.out hb); have FC : Hid (FrAt w3 v.heap.size (⟨d, c == ini, k, pf, ns, nr, i⟩ : Fr)) := Lib.hid (fresh1 hb); obtain ⟨⟨k0, k1, k2, k3, k4, k5, k6⟩, kf⟩ := no_cells RC.out; obtain ⟨g0, g1, g2, g3, g4, g5, g6⟩ := FC.out.cells; dsimp only at g0 g1 g2 g3 g4 g5 g6; have BC := Lib.hid (on1 BN.out hb); clear hb))
  go_quiet ((go_at_call 20; exact quiet_left (flimit _ _)))
  clear g0 g1 g2 g3 g4 g5 g6 k0 k1 k2 k3 k4 k5 k6 kf
  generalize hv : World.drewN _ nq = v2
  have RD : Hid (v2.heap[w.heap.size]? = some noObj) := Lib.hid (by rw [← hv]; exact RC.out)
  have FD : Hid (FrAt v2 v.heap.size (⟨d, c == ini, k, pf, ns, nr, i⟩ : Fr)) := Lib.hid (by rw [← hv]; exact FC.out)
  have BD : Hid (Below w.heap.size w v2) := Lib.hid (by rw [← hv]; exact below_drewN BC.out _)
  clear hv nq
  obtain ⟨⟨k0, k1, k2, k3, k4, k5, k6⟩, kf⟩ := no_cells RD.out
  obtain ⟨g0, g1, g2, g3, g4, g5, g6⟩ := FD.out.cells
  dsimp only at g0 g1 g2 g3 g4 g5 g6
  go_wp2
  exact bodyPost_ret (v := .tuple #[fv (⟨d, c == ini, k, pf, ns, nr, i⟩ : Fr), .int .i64 0]) (by simp [results, Tryd.results50, go_sem, k0, k1, k2, k3, k4, k5, k6]) rfl ⟨rfl, set7 BD.out (by omega) _ _ _ _ _ _ _⟩
end Go.Proofs.YthlciaomfpephaaDoor.Adv

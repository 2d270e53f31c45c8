/-
  What the document's own Decode of layer 5 answers. Condition: at most 1000 octets.
-/
import Derived.Test.YtgikdcamppcphaaDoorAdvDec
import Derived.Deep.RegionHeld
namespace Go.Proofs.YtgikdcamppcphaaDoor.Adv
open Go.RowKit Go.Proofs.YtgikdcamppcphaaDoor.Base Go.Proofs.YtgikdcamppcphaaDoor.Ea Go.Proofs.YtgikdcamppcphaaDoor.Field Go.Proofs.YtgikdcamppcphaaDoor.Basic
theorem as_below {P : Program} {f : FuncId} {args : Array Value} {w : World} {v : Value} (h : Calls P f args w fun e w' => e = .returned v ∧ w = w') : Calls P f args w fun e w' => e = .returned v ∧ Below w.heap.size w w' :=
  h.mono fun _ _ ⟨he, hw⟩ => ⟨he, by rw [← hw]; exact Below.refl _ _⟩
theorem runstuff_no {s : ByteArray} (hs : s.size ≤ 100000) (h : un s.data.toList = none) (w : World) :
    Calls Tryd.prog 16 #[.string s] w fun e w' => e = .returned (.tuple #[.string ⟨#[]⟩, .bool false]) ∧ Below w.heap.size w w' := by
  have p := as_below (runstuff s hs w)
  rw [unV_none h] at p
  exact p
theorem runstuff_yes {s t : ByteArray} (hs : s.size ≤ 100000) (h : un s.data.toList = some t.data.toList) (w : World) :
    Calls Tryd.prog 16 #[.string s] w fun e w' => e = .returned (.tuple #[.string t, .bool true]) ∧ Below w.heap.size w w' := by
  have p := as_below (runstuff s hs w)
  rw [unV_some h] at p
  exact p
theorem bit_true (i : Bool) (w : World) : Calls Tryd.prog 28 #[.bool true, .bool i] w fun e w' => e = .returned (.bool i) ∧ w' = w := by
  have p := rbit5 true i w
  rw [show (true == i) = i by cases i <;> rfl] at p
  exact p.mono fun _ _ ⟨he, hw⟩ => ⟨he, hw.symm⟩
set_option maxHeartbeats 2000000 in
theorem rd_no (s : ByteArray) (ini : Bool) (n1 : Int) (CU : ∀ w, Calls Tryd.prog 16 #[.string s] w fun e w' => e = .returned (.tuple #[.string ⟨#[]⟩, .bool false]) ∧ Below w.heap.size w w') (w : World) :
    Calls Tryd.prog 13 #[.string s, .bool ini, .int .i64 n1] w fun e w' => e = .returned (.tuple #[noFr, .int .i64 40]) ∧ Below w.heap.size w w' := by
  have HCU := Lib.hid CU
  clear CU
  go_enter Tryd.func13, Tryd.ntmps13
  go_wp2_with (go_at_call 16; ((with_reducible refine (HCU.out _).mono ?_); rintro e w1 ⟨rfl, hb⟩; have RA := Lib.hid (fresh0 hb); obtain ⟨⟨k0, k1, k2, k3, k4, k5, k6⟩, kf⟩ := no_cells RA.out; have hlt : w.heap.size < w1.heap.size := lt_heap RA.out; have BA := Lib.hid (on0 hb); clear hb))
  exact bodyPost_ret (v := .tuple #[noFr, .int .i64 40]) (by simp [results, Tryd.results13, go_sem, k0, k1, k2, k3, k4, k5, k6]) rfl ⟨rfl, set7 BA.out (by omega) _ _ _ _ _ _ _⟩
set_option maxHeartbeats 2000000 in
theorem rd_short (s t : ByteArray) (h : t.size < 3) (ini : Bool) (n1 : Int) (CU : ∀ w, Calls Tryd.prog 16 #[.string s] w fun e w' => e = .returned (.tuple #[.string t, .bool true]) ∧ Below w.heap.size w w') (w : World) :
    Calls Tryd.prog 13 #[.string s, .bool ini, .int .i64 n1] w fun e w' => e = .returned (.tuple #[noFr, .int .i64 40]) ∧ Below w.heap.size w w' := by
  have HCU := Lib.hid CU
  have qs : decide ((t.size : Int) < 3) = true := by simp; omega
  clear CU
  go_enter Tryd.func13, Tryd.ntmps13
  go_wp2_with (go_at_call 16; ((with_reducible refine (HCU.out _).mono ?_); rintro e w1 ⟨rfl, hb⟩; have RA := Lib.hid (fresh0 hb); obtain ⟨⟨k0, k1, k2, k3, k4, k5, k6⟩, kf⟩ := no_cells RA.out; have hlt : w.heap.size < w1.heap.size := lt_heap RA.out; have BA := Lib.hid (on0 hb); clear hb))
  exact bodyPost_ret (v := .tuple #[noFr, .int .i64 40]) (by simp [results, Tryd.results13, go_sem, k0, k1, k2, k3, k4, k5, k6]) rfl ⟨rfl, set7 BA.out (by omega) _ _ _ _ _ _ _⟩
set_option maxHeartbeats 2000000 in
theorem rd_addr (s : ByteArray) (t : ByteArray) (ht3 : 3 ≤ t.size) (htz : t.size ≤ 1000) (q0 : 0 < t.size) (ini : Bool) (n1 : Int) (d : Nat) (c : Bool) (CU : ∀ w, Calls Tryd.prog 16 #[.string s] w fun e w' => e = .returned (.tuple #[.string t, .bool true]) ∧ Below w.heap.size w w') (CS : ∀ w, Calls Tryd.prog 32 #[.int .u8 (t[0].toNat : Int)] w fun e w' => e = .returned (.tuple #[.int .u8 (d : Int), .bool c, .bool false]) ∧ w = w') (w : World) :
    Calls Tryd.prog 13 #[.string s, .bool ini, .int .i64 n1] w fun e w' => e = .returned (.tuple #[noFr, .int .i64 40]) ∧ Below w.heap.size w w' := by
  have HCU := Lib.hid CU
  have HCS := Lib.hid CS
  have qs : decide ((t.size : Int) < 3) = false := by simp; omega
  clear CU CS
  go_enter Tryd.func13, Tryd.ntmps13
  go_wp2_with (first | (go_at_call 16; ((with_reducible refine (HCU.out _).mono ?_); rintro e w1 ⟨rfl, hb⟩; have RA := Lib.hid (fresh0 hb); obtain ⟨⟨k0, k1, k2, k3, k4, k5, k6⟩, kf⟩ := no_cells RA.out; have hlt : w.heap.size < w1.heap.size := lt_heap RA.out; have BA := Lib.hid (on0 hb); clear hb)) | (go_at_call 32; ((with_reducible refine (HCS.out _).mono ?_); rintro e w' ⟨rfl, rfl⟩)))
  exact bodyPost_ret (v := .tuple #[noFr, .int .i64 40]) (by simp [results, Tryd.results13, go_sem, k0, k1, k2, k3, k4, k5, k6]) rfl ⟨rfl, set7 BA.out (by omega) _ _ _ _ _ _ _⟩
set_option maxHeartbeats 2000000 in
theorem rd_field (s : ByteArray) (t : ByteArray) (ht3 : 3 ≤ t.size) (htz : t.size ≤ 1000) (q0 : 0 < t.size) (q1 : 1 < t.size) (ini : Bool) (n1 : Int) (d k ns nr : Nat) (c pf : Bool) (CU : ∀ w, Calls Tryd.prog 16 #[.string s] w fun e w' => e = .returned (.tuple #[.string t, .bool true]) ∧ Below w.heap.size w w') (CS : ∀ w, Calls Tryd.prog 32 #[.int .u8 (t[0].toNat : Int)] w fun e w' => e = .returned (.tuple #[.int .u8 (d : Int), .bool c, .bool true]) ∧ w = w') (CG : ∀ w, Calls Tryd.prog 33 #[.int .u8 (t[1].toNat : Int)] w fun e w' => e = .returned (.tuple #[.int .u8 (k : Int), .bool pf, .int .u8 (ns : Int), .int .u8 (nr : Int), .int .i64 30]) ∧ Below w.heap.size w w') (w : World) :
    Calls Tryd.prog 13 #[.string s, .bool ini, .int .i64 n1] w fun e w' => e = .returned (.tuple #[noFr, .int .i64 30]) ∧ Below w.heap.size w w' := by
  have qs : decide ((t.size : Int) < 3) = false := by simp; omega
  have HCU := Lib.hid CU
  have HCS := Lib.hid CS
  have HCG := Lib.hid CG
  clear CU CS CG
  go_enter Tryd.func13, Tryd.ntmps13
  go_wp2_with (first | (go_at_call 16; ((with_reducible refine (HCU.out _).mono ?_); rintro e w1 ⟨rfl, hb⟩; have RA := Lib.hid (fresh0 hb); obtain ⟨⟨k0, k1, k2, k3, k4, k5, k6⟩, kf⟩ := no_cells RA.out; have hlt : w.heap.size < w1.heap.size := lt_heap RA.out; have BA := Lib.hid (on0 hb); clear hb)) | (go_at_call 32; ((with_reducible refine (HCS.out _).mono ?_); rintro e w' ⟨rfl, rfl⟩)) | (go_at_call 33; ((with_reducible refine (HCG.out _).mono ?_); rintro e w2 ⟨rfl, hb⟩; clear k0 k1 k2 k3 k4 k5 k6 kf; have RB := Lib.hid (stays RA.out hb); obtain ⟨⟨k0, k1, k2, k3, k4, k5, k6⟩, kf⟩ := no_cells RB.out; have hlt2 : w.heap.size < w2.heap.size := lt_heap RB.out; have BB := Lib.hid (below_on' BA.out hb); clear hb)))
  exact bodyPost_ret (v := .tuple #[noFr, .int .i64 30]) (by simp [results, Tryd.results13, go_sem, k0, k1, k2, k3, k4, k5, k6]) rfl ⟨rfl, set7 BB.out (by omega) _ _ _ _ _ _ _⟩
set_option maxHeartbeats 2000000 in
theorem rd_fcs (s : ByteArray) (t : ByteArray) (ht3 : 3 ≤ t.size) (htz : t.size ≤ 1000) (q0 : 0 < t.size) (q1 : 1 < t.size) (q2 : t.size - 1 < t.size) (ini : Bool) (n1 : Int) (d k ns nr m : Nat) (c pf : Bool) (i q : ByteArray) (hi : t.extract 2 (t.size - 1) = i) (hq : t.extract 0 2 = q) (CU : ∀ w, Calls Tryd.prog 16 #[.string s] w fun e w' => e = .returned (.tuple #[.string t, .bool true]) ∧ Below w.heap.size w w') (CS : ∀ w, Calls Tryd.prog 32 #[.int .u8 (t[0].toNat : Int)] w fun e w' => e = .returned (.tuple #[.int .u8 (d : Int), .bool c, .bool true]) ∧ w = w') (CG : ∀ w, Calls Tryd.prog 33 #[.int .u8 (t[1].toNat : Int)] w fun e w' => e = .returned (.tuple #[.int .u8 (k : Int), .bool pf, .int .u8 (ns : Int), .int .u8 (nr : Int), .int .i64 0]) ∧ Below w.heap.size w w') (CC : ∀ w, Calls Tryd.prog 29 #[.int .u8 (k : Int), .string q, .string i] w fun e w' => e = .returned (.int .u8 (m : Int)) ∧ w = w') (hm : (m : Int) ≠ ((t[t.size - 1]'q2).toNat : Int)) (w : World) :
    Calls Tryd.prog 13 #[.string s, .bool ini, .int .i64 n1] w fun e w' => e = .returned (.tuple #[noFr, .int .i64 41]) ∧ Below w.heap.size w w' := by
  have qs : decide ((t.size : Int) < 3) = false := by simp; omega
  have p0 : (0 : Int) ≤ (t.size : Int) - 1 := by omega
  have p1 : ((t.size : Int) - 1).toNat = t.size - 1 := by omega
  have p2 : (t.size : Int) - 1 < t.size := by omega
  have p4 : (t.size : Int) - 1 ≤ t.size := by omega
  have p3 : (2 : Int) ≤ (t.size : Int) - 1 := by omega
  have p6 : IntKind.i64.wrap ((t.size : Int) - 1) = (t.size : Int) - 1 := wraps_i64 _ (by omega) (by omega)
  have p7 : (1 : Int) ≤ t.size := by omega
  have x1 : ((m : Int) == ((t[t.size - 1]'q2).toNat : Int)) = false := by rw [beq_eq_false_iff_ne]; exact hm
  have x2 : ((m : Int) != ((t[t.size - 1]'q2).toNat : Int)) = true := by rw [bne_iff_ne]; exact hm
  clear hm
  have HCU := Lib.hid CU
  have HCS := Lib.hid CS
  have HCG := Lib.hid CG
  have HCC := Lib.hid CC
  clear CU CS CG CC
  go_enter Tryd.func13, Tryd.ntmps13
  go_wp2_with (first | (go_at_call 16; ((with_reducible refine (HCU.out _).mono ?_); rintro e w1 ⟨rfl, hb⟩; have RA := Lib.hid (fresh0 hb); obtain ⟨⟨k0, k1, k2, k3, k4, k5, k6⟩, kf⟩ := no_cells RA.out; have hlt : w.heap.size < w1.heap.size := lt_heap RA.out; have BA := Lib.hid (on0 hb); clear hb)) | (go_at_call 32; ((with_reducible refine (HCS.out _).mono ?_); rintro e w' ⟨rfl, rfl⟩)) | (go_at_call 33; ((with_reducible refine (HCG.out _).mono ?_); rintro e w2 ⟨rfl, hb⟩; clear k0 k1 k2 k3 k4 k5 k6 kf; have RB := Lib.hid (stays RA.out hb); obtain ⟨⟨k0, k1, k2, k3, k4, k5, k6⟩, kf⟩ := no_cells RB.out; have hlt2 : w.heap.size < w2.heap.size := lt_heap RB.out; have BB := Lib.hid (below_on' BA.out hb); clear hb)))
  clear k0 k1 k2 k3 k4 k5 k6 kf
  go_region_held (fun w' => Below w2.heap.size w2 w')
    (first | exact (Below.refl _ _).drew | exact ((Below.refl _ _).alloc (Nat.le_refl _) _).drew | exact (set7 ((Below.refl _ _).alloc (Nat.le_refl _) _) (Nat.le_refl _) _ _ _ _ _ _ _).drew)
    (first | (go_at_call 28; ((with_reducible refine (bit_true _ _).mono ?_); rintro e w' ⟨rfl, rfl⟩)))
  all_goals
    generalize hv : World.drew _ = v
    have RN : Hid (v.heap[w.heap.size]? = some noObj) := Lib.hid (by rw [← hv]; exact stays RB.out ((Below.refl _ _).alloc (Nat.le_refl _) _).drew)
    have FN : Hid (FrAt v w2.heap.size (⟨d, ini == c, k, pf, ns, nr, i⟩ : Fr)) := Lib.hid (by rw [← hv]; exact nest w2 [_] 0 _ rfl)
    have BN : Hid (Below w.heap.size w v) := Lib.hid (by rw [← hv]; exact (below_on' BB.out ((Below.refl _ _).alloc (Nat.le_refl _) _)).drew)
    clear hv
    obtain ⟨g0, g1, g2, g3, g4, g5, g6⟩ := FN.out.cells
    dsimp only at g0 g1 g2 g3 g4 g5 g6
    go_wp2
    go_quiet ((go_at_call 29; exact quiet_left (HCC.out _)))
    clear g0 g1 g2 g3 g4 g5 g6
    generalize hv : World.drewN _ nq = v1
    have RM : Hid (v1.heap[w.heap.size]? = some noObj) := Lib.hid (by rw [← hv]; exact RN.out)
    have FM : Hid (FrAt v1 w2.heap.size (⟨d, ini == c, k, pf, ns, nr, i⟩ : Fr)) := Lib.hid (by rw [← hv]; exact FN.out)
    have BM : Hid (Below w.heap.size w v1) := Lib.hid (by rw [← hv]; exact below_drewN BN.out _)
    have hlt3 : w.heap.size < v1.heap.size := lt_heap RM.out
    obtain ⟨⟨k0, k1, k2, k3, k4, k5, k6⟩, kf⟩ := no_cells RM.out
    obtain ⟨g0, g1, g2, g3, g4, g5, g6⟩ := FM.out.cells
    dsimp only at g0 g1 g2 g3 g4 g5 g6
    clear hv nq
    go_wp2
    exact bodyPost_ret (v := .tuple #[noFr, .int .i64 41]) (by simp [results, Tryd.results13, go_sem, k0, k1, k2, k3, k4, k5, k6]) rfl ⟨rfl, set7 BM.out (by omega) _ _ _ _ _ _ _⟩
set_option maxHeartbeats 2000000 in
theorem rd_may (s : ByteArray) (t : ByteArray) (ht3 : 3 ≤ t.size) (htz : t.size ≤ 1000) (q0 : 0 < t.size) (q1 : 1 < t.size) (q2 : t.size - 1 < t.size) (ini : Bool) (n1 : Int) (d k ns nr m : Nat) (c pf : Bool) (i q : ByteArray) (hi : t.extract 2 (t.size - 1) = i) (hq : t.extract 0 2 = q) (CU : ∀ w, Calls Tryd.prog 16 #[.string s] w fun e w' => e = .returned (.tuple #[.string t, .bool true]) ∧ Below w.heap.size w w') (CS : ∀ w, Calls Tryd.prog 32 #[.int .u8 (t[0].toNat : Int)] w fun e w' => e = .returned (.tuple #[.int .u8 (d : Int), .bool c, .bool true]) ∧ w = w') (CG : ∀ w, Calls Tryd.prog 33 #[.int .u8 (t[1].toNat : Int)] w fun e w' => e = .returned (.tuple #[.int .u8 (k : Int), .bool pf, .int .u8 (ns : Int), .int .u8 (nr : Int), .int .i64 0]) ∧ Below w.heap.size w w') (CC : ∀ w, Calls Tryd.prog 29 #[.int .u8 (k : Int), .string q, .string i] w fun e w' => e = .returned (.int .u8 (m : Int)) ∧ w = w') (CM : ∀ w, Calls Tryd.prog 23 #[gv d (ini == c) k pf ns nr i] w fun e w' => e = .returned (.bool false) ∧ Below w.heap.size w w') (hm : (m : Int) = ((t[t.size - 1]'q2).toNat : Int)) (w : World) :
    Calls Tryd.prog 13 #[.string s, .bool ini, .int .i64 n1] w fun e w' => e = .returned (.tuple #[noFr, .int .i64 40]) ∧ Below w.heap.size w w' := by
  have qs : decide ((t.size : Int) < 3) = false := by simp; omega
  have p0 : (0 : Int) ≤ (t.size : Int) - 1 := by omega
  have p1 : ((t.size : Int) - 1).toNat = t.size - 1 := by omega
  have p2 : (t.size : Int) - 1 < t.size := by omega
  have p4 : (t.size : Int) - 1 ≤ t.size := by omega
  have p3 : (2 : Int) ≤ (t.size : Int) - 1 := by omega
  have p6 : IntKind.i64.wrap ((t.size : Int) - 1) = (t.size : Int) - 1 := wraps_i64 _ (by omega) (by omega)
  have p7 : (1 : Int) ≤ t.size := by omega
  have x1 : ((m : Int) == ((t[t.size - 1]'q2).toNat : Int)) = true := by rw [beq_iff_eq]; exact hm
  have x2 : ((m : Int) != ((t[t.size - 1]'q2).toNat : Int)) = false := by rw [bne, x1]; rfl
  clear hm
  have HCU := Lib.hid CU
  have HCS := Lib.hid CS
  have HCG := Lib.hid CG
  have HCC := Lib.hid CC
  have HCM := Lib.hid CM
  clear CU CS CG CC CM
  go_enter Tryd.func13, Tryd.ntmps13
  go_wp2_with (first | (go_at_call 16; ((with_reducible refine (HCU.out _).mono ?_); rintro e w1 ⟨rfl, hb⟩; have RA := Lib.hid (fresh0 hb); obtain ⟨⟨k0, k1, k2, k3, k4, k5, k6⟩, kf⟩ := no_cells RA.out; have hlt : w.heap.size < w1.heap.size := lt_heap RA.out; have BA := Lib.hid (on0 hb); clear hb)) | (go_at_call 32; ((with_reducible refine (HCS.out _).mono ?_); rintro e w' ⟨rfl, rfl⟩)) | (go_at_call 33; ((with_reducible refine (HCG.out _).mono ?_); rintro e w2 ⟨rfl, hb⟩; clear k0 k1 k2 k3 k4 k5 k6 kf; have RB := Lib.hid (stays RA.out hb); obtain ⟨⟨k0, k1, k2, k3, k4, k5, k6⟩, kf⟩ := no_cells RB.out; have hlt2 : w.heap.size < w2.heap.size := lt_heap RB.out; have BB := Lib.hid (below_on' BA.out hb); clear hb)))
  clear k0 k1 k2 k3 k4 k5 k6 kf
  go_region_held (fun w' => Below w2.heap.size w2 w')
    (first | exact (Below.refl _ _).drew | exact ((Below.refl _ _).alloc (Nat.le_refl _) _).drew | exact (set7 ((Below.refl _ _).alloc (Nat.le_refl _) _) (Nat.le_refl _) _ _ _ _ _ _ _).drew)
    (first | (go_at_call 28; ((with_reducible refine (bit_true _ _).mono ?_); rintro e w' ⟨rfl, rfl⟩)))
  all_goals
    generalize hv : World.drew _ = v
    have RN : Hid (v.heap[w.heap.size]? = some noObj) := Lib.hid (by rw [← hv]; exact stays RB.out ((Below.refl _ _).alloc (Nat.le_refl _) _).drew)
    have FN : Hid (FrAt v w2.heap.size (⟨d, ini == c, k, pf, ns, nr, i⟩ : Fr)) := Lib.hid (by rw [← hv]; exact nest w2 [_] 0 _ rfl)
    have BN : Hid (Below w.heap.size w v) := Lib.hid (by rw [← hv]; exact (below_on' BB.out ((Below.refl _ _).alloc (Nat.le_refl _) _)).drew)
    clear hv
    obtain ⟨g0, g1, g2, g3, g4, g5, g6⟩ := FN.out.cells
    dsimp only at g0 g1 g2 g3 g4 g5 g6
    go_wp2
    go_quiet ((go_at_call 29; exact quiet_left (HCC.out _)))
    clear g0 g1 g2 g3 g4 g5 g6
    generalize hv : World.drewN _ nq = v1
    have RM : Hid (v1.heap[w.heap.size]? = some noObj) := Lib.hid (by rw [← hv]; exact RN.out)
    have FM : Hid (FrAt v1 w2.heap.size (⟨d, ini == c, k, pf, ns, nr, i⟩ : Fr)) := Lib.hid (by rw [← hv]; exact FN.out)
    have BM : Hid (Below w.heap.size w v1) := Lib.hid (by rw [← hv]; exact below_drewN BN.out _)
    have hlt3 : w.heap.size < v1.heap.size := lt_heap RM.out
    obtain ⟨⟨k0, k1, k2, k3, k4, k5, k6⟩, kf⟩ := no_cells RM.out
    obtain ⟨g0, g1, g2, g3, g4, g5, g6⟩ := FM.out.cells
    dsimp only at g0 g1 g2 g3 g4 g5 g6
    clear hv nq
    go_wp2_with (go_at_call 23; ((with_reducible refine (HCM.out _).mono ?_); rintro e w3 ⟨rfl, hb⟩; clear k0 k1 k2 k3 k4 k5 k6 kf g0 g1 g2 g3 g4 g5 g6; have RC := Lib.hid (stays RM.out hb); have FC := Lib.hid (FM.out.below hb); obtain ⟨⟨k0, k1, k2, k3, k4, k5, k6⟩, kf⟩ := no_cells RC.out; obtain ⟨g0, g1, g2, g3, g4, g5, g6⟩ := FC.out.cells; dsimp only at g0 g1 g2 g3 g4 g5 g6; have BC := Lib.hid (below_on' BM.out hb); clear hb))
    exact bodyPost_ret (v := .tuple #[noFr, .int .i64 40]) (by simp [results, Tryd.results13, go_sem, k0, k1, k2, k3, k4, k5, k6]) rfl ⟨rfl, set7 BC.out (by omega) _ _ _ _ _ _ _⟩
set_option maxHeartbeats 2000000 in
theorem rd_limit (s : ByteArray) (t : ByteArray) (ht3 : 3 ≤ t.size) (htz : t.size ≤ 1000) (q0 : 0 < t.size) (q1 : 1 < t.size) (q2 : t.size - 1 < t.size) (ini : Bool) (n1 : Int) (d k ns nr m : Nat) (c pf : Bool) (i q : ByteArray) (hi : t.extract 2 (t.size - 1) = i) (hq : t.extract 0 2 = q) (CU : ∀ w, Calls Tryd.prog 16 #[.string s] w fun e w' => e = .returned (.tuple #[.string t, .bool true]) ∧ Below w.heap.size w w') (CS : ∀ w, Calls Tryd.prog 32 #[.int .u8 (t[0].toNat : Int)] w fun e w' => e = .returned (.tuple #[.int .u8 (d : Int), .bool c, .bool true]) ∧ w = w') (CG : ∀ w, Calls Tryd.prog 33 #[.int .u8 (t[1].toNat : Int)] w fun e w' => e = .returned (.tuple #[.int .u8 (k : Int), .bool pf, .int .u8 (ns : Int), .int .u8 (nr : Int), .int .i64 0]) ∧ Below w.heap.size w w') (CC : ∀ w, Calls Tryd.prog 29 #[.int .u8 (k : Int), .string q, .string i] w fun e w' => e = .returned (.int .u8 (m : Int)) ∧ w = w') (CM : ∀ w, Calls Tryd.prog 23 #[gv d (ini == c) k pf ns nr i] w fun e w' => e = .returned (.bool true) ∧ Below w.heap.size w w') (hm : (m : Int) = ((t[t.size - 1]'q2).toNat : Int)) (hr : room n1 < i.size) (w : World) :
    Calls Tryd.prog 13 #[.string s, .bool ini, .int .i64 n1] w fun e w' => e = .returned (.tuple #[noFr, .int .i64 3]) ∧ Below w.heap.size w w' := by
  have qs : decide ((t.size : Int) < 3) = false := by simp; omega
  have p0 : (0 : Int) ≤ (t.size : Int) - 1 := by omega
  have p1 : ((t.size : Int) - 1).toNat = t.size - 1 := by omega
  have p2 : (t.size : Int) - 1 < t.size := by omega
  have p4 : (t.size : Int) - 1 ≤ t.size := by omega
  have p3 : (2 : Int) ≤ (t.size : Int) - 1 := by omega
  have p6 : IntKind.i64.wrap ((t.size : Int) - 1) = (t.size : Int) - 1 := wraps_i64 _ (by omega) (by omega)
  have p7 : (1 : Int) ≤ t.size := by omega
  have x1 : ((m : Int) == ((t[t.size - 1]'q2).toNat : Int)) = true := by rw [beq_iff_eq]; exact hm
  have x2 : ((m : Int) != ((t[t.size - 1]'q2).toNat : Int)) = false := by rw [bne, x1]; rfl
  clear hm
  have r1 : decide ((room n1 : Int) < i.size) = true := by simp; omega
  have HCU := Lib.hid CU
  have HCS := Lib.hid CS
  have HCG := Lib.hid CG
  have HCC := Lib.hid CC
  have HCM := Lib.hid CM
  clear CU CS CG CC CM
  go_enter Tryd.func13, Tryd.ntmps13
  go_wp2_with (first | (go_at_call 16; ((with_reducible refine (HCU.out _).mono ?_); rintro e w1 ⟨rfl, hb⟩; have RA := Lib.hid (fresh0 hb); obtain ⟨⟨k0, k1, k2, k3, k4, k5, k6⟩, kf⟩ := no_cells RA.out; have hlt : w.heap.size < w1.heap.size := lt_heap RA.out; have BA := Lib.hid (on0 hb); clear hb)) | (go_at_call 32; ((with_reducible refine (HCS.out _).mono ?_); rintro e w' ⟨rfl, rfl⟩)) | (go_at_call 33; ((with_reducible refine (HCG.out _).mono ?_); rintro e w2 ⟨rfl, hb⟩; clear k0 k1 k2 k3 k4 k5 k6 kf; have RB := Lib.hid (stays RA.out hb); obtain ⟨⟨k0, k1, k2, k3, k4, k5, k6⟩, kf⟩ := no_cells RB.out; have hlt2 : w.heap.size < w2.heap.size := lt_heap RB.out; have BB := Lib.hid (below_on' BA.out hb); clear hb)))
  clear k0 k1 k2 k3 k4 k5 k6 kf
  go_region_held (fun w' => Below w2.heap.size w2 w')
    (first | exact (Below.refl _ _).drew | exact ((Below.refl _ _).alloc (Nat.le_refl _) _).drew | exact (set7 ((Below.refl _ _).alloc (Nat.le_refl _) _) (Nat.le_refl _) _ _ _ _ _ _ _).drew)
    (first | (go_at_call 28; ((with_reducible refine (bit_true _ _).mono ?_); rintro e w' ⟨rfl, rfl⟩)))
  all_goals
    generalize hv : World.drew _ = v
    have RN : Hid (v.heap[w.heap.size]? = some noObj) := Lib.hid (by rw [← hv]; exact stays RB.out ((Below.refl _ _).alloc (Nat.le_refl _) _).drew)
    have FN : Hid (FrAt v w2.heap.size (⟨d, ini == c, k, pf, ns, nr, i⟩ : Fr)) := Lib.hid (by rw [← hv]; exact nest w2 [_] 0 _ rfl)
    have BN : Hid (Below w.heap.size w v) := Lib.hid (by rw [← hv]; exact (below_on' BB.out ((Below.refl _ _).alloc (Nat.le_refl _) _)).drew)
    clear hv
    obtain ⟨g0, g1, g2, g3, g4, g5, g6⟩ := FN.out.cells
    dsimp only at g0 g1 g2 g3 g4 g5 g6
    go_wp2
    go_quiet ((go_at_call 29; exact quiet_left (HCC.out _)))
    clear g0 g1 g2 g3 g4 g5 g6
    generalize hv : World.drewN _ nq = v1
    have RM : Hid (v1.heap[w.heap.size]? = some noObj) := Lib.hid (by rw [← hv]; exact RN.out)
    have FM : Hid (FrAt v1 w2.heap.size (⟨d, ini == c, k, pf, ns, nr, i⟩ : Fr)) := Lib.hid (by rw [← hv]; exact FN.out)
    have BM : Hid (Below w.heap.size w v1) := Lib.hid (by rw [← hv]; exact below_drewN BN.out _)
    have hlt3 : w.heap.size < v1.heap.size := lt_heap RM.out
    obtain ⟨⟨k0, k1, k2, k3, k4, k5, k6⟩, kf⟩ := no_cells RM.out
    obtain ⟨g0, g1, g2, g3, g4, g5, g6⟩ := FM.out.cells
    dsimp only at g0 g1 g2 g3 g4 g5 g6
    clear hv nq
    go_wp2_with (go_at_call 23; ((with_reducible refine (HCM.out _).mono ?_); rintro e w3 ⟨rfl, hb⟩; clear k0 k1 k2 k3 k4 k5 k6 kf g0 g1 g2 g3 g4 g5 g6; have RC := Lib.hid (stays RM.out hb); have FC := Lib.hid (FM.out.below hb); obtain ⟨⟨k0, k1, k2, k3, k4, k5, k6⟩, kf⟩ := no_cells RC.out; obtain ⟨g0, g1, g2, g3, g4, g5, g6⟩ := FC.out.cells; dsimp only at g0 g1 g2 g3 g4 g5 g6; have BC := Lib.hid (below_on' BM.out hb); clear hb))
    go_quiet ((go_at_call 24; exact quiet_left (rlimit _ _)))
    clear g0 g1 g2 g3 g4 g5 g6 k0 k1 k2 k3 k4 k5 k6 kf
    generalize hv : World.drewN _ nq = v2
    have RD : Hid (v2.heap[w.heap.size]? = some noObj) := Lib.hid (by rw [← hv]; exact RC.out)
    have FD : Hid (FrAt v2 w2.heap.size (⟨d, ini == c, k, pf, ns, nr, i⟩ : Fr)) := Lib.hid (by rw [← hv]; exact FC.out)
    have BD : Hid (Below w.heap.size w v2) := Lib.hid (by rw [← hv]; exact below_drewN BC.out _)
    clear hv nq
    obtain ⟨⟨k0, k1, k2, k3, k4, k5, k6⟩, kf⟩ := no_cells RD.out
    obtain ⟨g0, g1, g2, g3, g4, g5, g6⟩ := FD.out.cells
    dsimp only at g0 g1 g2 g3 g4 g5 g6
    go_wp2
    exact bodyPost_ret (v := .tuple #[noFr, .int .i64 3]) (by simp [results, Tryd.results13, go_sem, k0, k1, k2, k3, k4, k5, k6]) rfl ⟨rfl, set7 BD.out (by omega) _ _ _ _ _ _ _⟩
set_option maxHeartbeats 2000000 in
theorem rd_ok (s : ByteArray) (t : ByteArray) (ht3 : 3 ≤ t.size) (htz : t.size ≤ 1000) (q0 : 0 < t.size) (q1 : 1 < t.size) (q2 : t.size - 1 < t.size) (ini : Bool) (n1 : Int) (d k ns nr m : Nat) (c pf : Bool) (i q : ByteArray) (hi : t.extract 2 (t.size - 1) = i) (hq : t.extract 0 2 = q) (CU : ∀ w, Calls Tryd.prog 16 #[.string s] w fun e w' => e = .returned (.tuple #[.string t, .bool true]) ∧ Below w.heap.size w w') (CS : ∀ w, Calls Tryd.prog 32 #[.int .u8 (t[0].toNat : Int)] w fun e w' => e = .returned (.tuple #[.int .u8 (d : Int), .bool c, .bool true]) ∧ w = w') (CG : ∀ w, Calls Tryd.prog 33 #[.int .u8 (t[1].toNat : Int)] w fun e w' => e = .returned (.tuple #[.int .u8 (k : Int), .bool pf, .int .u8 (ns : Int), .int .u8 (nr : Int), .int .i64 0]) ∧ Below w.heap.size w w') (CC : ∀ w, Calls Tryd.prog 29 #[.int .u8 (k : Int), .string q, .string i] w fun e w' => e = .returned (.int .u8 (m : Int)) ∧ w = w') (CM : ∀ w, Calls Tryd.prog 23 #[gv d (ini == c) k pf ns nr i] w fun e w' => e = .returned (.bool true) ∧ Below w.heap.size w w') (hm : (m : Int) = ((t[t.size - 1]'q2).toNat : Int)) (hr : i.size ≤ room n1) (w : World) :
    Calls Tryd.prog 13 #[.string s, .bool ini, .int .i64 n1] w fun e w' => e = .returned (.tuple #[fv (⟨d, ini == c, k, pf, ns, nr, i⟩ : Fr), .int .i64 0]) ∧ Below w.heap.size w w' := by
  have qs : decide ((t.size : Int) < 3) = false := by simp; omega
  have p0 : (0 : Int) ≤ (t.size : Int) - 1 := by omega
  have p1 : ((t.size : Int) - 1).toNat = t.size - 1 := by omega
  have p2 : (t.size : Int) - 1 < t.size := by omega
  have p4 : (t.size : Int) - 1 ≤ t.size := by omega
  have p3 : (2 : Int) ≤ (t.size : Int) - 1 := by omega
  have p6 : IntKind.i64.wrap ((t.size : Int) - 1) = (t.size : Int) - 1 := wraps_i64 _ (by omega) (by omega)
  have p7 : (1 : Int) ≤ t.size := by omega
  have x1 : ((m : Int) == ((t[t.size - 1]'q2).toNat : Int)) = true := by rw [beq_iff_eq]; exact hm
  have x2 : ((m : Int) != ((t[t.size - 1]'q2).toNat : Int)) = false := by rw [bne, x1]; rfl
  clear hm
  have r1 : decide ((room n1 : Int) < i.size) = false := by simp; omega
  have HCU := Lib.hid CU
  have HCS := Lib.hid CS
  have HCG := Lib.hid CG
  have HCC := Lib.hid CC
  have HCM := Lib.hid CM
  clear CU CS CG CC CM
  go_enter Tryd.func13, Tryd.ntmps13
  go_wp2_with (first | (go_at_call 16; ((with_reducible refine (HCU.out _).mono ?_); rintro e w1 ⟨rfl, hb⟩; have RA := Lib.hid (fresh0 hb); obtain ⟨⟨k0, k1, k2, k3, k4, k5, k6⟩, kf⟩ := no_cells RA.out; have hlt : w.heap.size < w1.heap.size := lt_heap RA.out; have BA := Lib.hid (on0 hb); clear hb)) | (go_at_call 32; ((with_reducible refine (HCS.out _).mono ?_); rintro e w' ⟨rfl, rfl⟩)) | (go_at_call 33; ((with_reducible refine (HCG.out _).mono ?_); rintro e w2 ⟨rfl, hb⟩; clear k0 k1 k2 k3 k4 k5 k6 kf; have RB := Lib.hid (stays RA.out hb); obtain ⟨⟨k0, k1, k2, k3, k4, k5, k6⟩, kf⟩ := no_cells RB.out; have hlt2 : w.heap.size < w2.heap.size := lt_heap RB.out; have BB := Lib.hid (below_on' BA.out hb); clear hb)))
  clear k0 k1 k2 k3 k4 k5 k6 kf
  go_region_held (fun w' => Below w2.heap.size w2 w')
    (first | exact (Below.refl _ _).drew | exact ((Below.refl _ _).alloc (Nat.le_refl _) _).drew | exact (set7 ((Below.refl _ _).alloc (Nat.le_refl _) _) (Nat.le_refl _) _ _ _ _ _ _ _).drew)
    (first | (go_at_call 28; ((with_reducible refine (bit_true _ _).mono ?_); rintro e w' ⟨rfl, rfl⟩)))
  all_goals
    generalize hv : World.drew _ = v
    have RN : Hid (v.heap[w.heap.size]? = some noObj) := Lib.hid (by rw [← hv]; exact stays RB.out ((Below.refl _ _).alloc (Nat.le_refl _) _).drew)
    have FN : Hid (FrAt v w2.heap.size (⟨d, ini == c, k, pf, ns, nr, i⟩ : Fr)) := Lib.hid (by rw [← hv]; exact nest w2 [_] 0 _ rfl)
    have BN : Hid (Below w.heap.size w v) := Lib.hid (by rw [← hv]; exact (below_on' BB.out ((Below.refl _ _).alloc (Nat.le_refl _) _)).drew)
    clear hv
    obtain ⟨g0, g1, g2, g3, g4, g5, g6⟩ := FN.out.cells
    dsimp only at g0 g1 g2 g3 g4 g5 g6
    go_wp2
    go_quiet ((go_at_call 29; exact quiet_left (HCC.out _)))
    clear g0 g1 g2 g3 g4 g5 g6
    generalize hv : World.drewN _ nq = v1
    have RM : Hid (v1.heap[w.heap.size]? = some noObj) := Lib.hid (by rw [← hv]; exact RN.out)
    have FM : Hid (FrAt v1 w2.heap.size (⟨d, ini == c, k, pf, ns, nr, i⟩ : Fr)) := Lib.hid (by rw [← hv]; exact FN.out)
    have BM : Hid (Below w.heap.size w v1) := Lib.hid (by rw [← hv]; exact below_drewN BN.out _)
    have hlt3 : w.heap.size < v1.heap.size := lt_heap RM.out
    obtain ⟨⟨k0, k1, k2, k3, k4, k5, k6⟩, kf⟩ := no_cells RM.out
    obtain ⟨g0, g1, g2, g3, g4, g5, g6⟩ := FM.out.cells
    dsimp only at g0 g1 g2 g3 g4 g5 g6
    clear hv nq
    go_wp2_with (go_at_call 23; ((with_reducible refine (HCM.out _).mono ?_); rintro e w3 ⟨rfl, hb⟩; clear k0 k1 k2 k3 k4 k5 k6 kf g0 g1 g2 g3 g4 g5 g6; have RC := Lib.hid (stays RM.out hb); have FC := Lib.hid (FM.out.below hb); obtain ⟨⟨k0, k1, k2, k3, k4, k5, k6⟩, kf⟩ := no_cells RC.out; obtain ⟨g0, g1, g2, g3, g4, g5, g6⟩ := FC.out.cells; dsimp only at g0 g1 g2 g3 g4 g5 g6; have BC := Lib.hid (below_on' BM.out hb); clear hb))
    go_quiet ((go_at_call 24; exact quiet_left (rlimit _ _)))
    clear g0 g1 g2 g3 g4 g5 g6 k0 k1 k2 k3 k4 k5 k6 kf
    generalize hv : World.drewN _ nq = v2
    have RD : Hid (v2.heap[w.heap.size]? = some noObj) := Lib.hid (by rw [← hv]; exact RC.out)
    have FD : Hid (FrAt v2 w2.heap.size (⟨d, ini == c, k, pf, ns, nr, i⟩ : Fr)) := Lib.hid (by rw [← hv]; exact FC.out)
    have BD : Hid (Below w.heap.size w v2) := Lib.hid (by rw [← hv]; exact below_drewN BC.out _)
    clear hv nq
    obtain ⟨⟨k0, k1, k2, k3, k4, k5, k6⟩, kf⟩ := no_cells RD.out
    obtain ⟨g0, g1, g2, g3, g4, g5, g6⟩ := FD.out.cells
    dsimp only at g0 g1 g2 g3 g4 g5 g6
    go_wp2
    exact bodyPost_ret (v := .tuple #[fv (⟨d, ini == c, k, pf, ns, nr, i⟩ : Fr), .int .i64 0]) (by simp [results, Tryd.results13, go_sem, k0, k1, k2, k3, k4, k5, k6]) rfl ⟨rfl, set7 BD.out (by omega) _ _ _ _ _ _ _⟩
end Go.Proofs.YtgikdcamppcphaaDoor.Adv

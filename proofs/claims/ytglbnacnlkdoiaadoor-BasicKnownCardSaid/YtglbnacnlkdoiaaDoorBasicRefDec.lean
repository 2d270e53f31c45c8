/-
  What the document's own Decode of layer 4 answers. Conditions: the bytes' length.
-/
import Derived.Test.YtglbnacnlkdoiaaDoorBasicParts
namespace Go.Proofs.YtglbnacnlkdoiaaDoor.Basic
open Go.RowKit Go.Proofs.YtglbnacnlkdoiaaDoor.Base Go.Proofs.YtglbnacnlkdoiaaDoor.Ea Go.Proofs.YtglbnacnlkdoiaaDoor.Field
theorem rget_no (c : Nat) (hc : c < 256) (h : gK c = 0) (w : World) :
    Calls Tryd.prog 42 #[.int .u8 (c : Int)] w fun e w' => e = .returned (.tuple #[.int .u8 0, .bool false, .int .u8 0, .int .u8 0, .int .i64 30]) ∧ w = w' := by
  have p := rget c hc w
  obtain ⟨h1, h2, h3, h4⟩ := get_none h
  unfold getV at p
  rw [h, h1, h2, h3, h4] at p
  exact p
theorem rget_ok (c : Nat) (hc : c < 256) (h : gK c ≠ 0) (w : World) :
    Calls Tryd.prog 42 #[.int .u8 (c : Int)] w fun e w' => e = .returned (.tuple #[.int .u8 (gK c : Int), .bool (gPF c), .int .u8 (gNS c : Int), .int .u8 (gNR c : Int), .int .i64 0]) ∧ w = w' := by
  have p := rget c hc w
  unfold getV at p
  rw [gE_ok h] at p
  exact p
theorem fr_mayR {a c : Nat} (ha : a < 256) (hc : c < 256) (h : gK c ≠ 0) (i : ByteArray) (ini : Bool) : (fr a c i ini).mayR = mayF (gK c) (spC a == ini) i := by
  have h1 := spD_lt a ha
  have h2 := (get_put hc h).1
  show (decide (spD a ≤ 63) && (okP (gK c) (gNS c) (gNR c) && mayF (gK c) (spC a == ini) i)) = _
  rw [h2]
  simp; omega
set_option maxHeartbeats 1000000 in
theorem rdec_no (s : ByteArray) (hs : s.size ≤ maxLen) (h : ∀ a c x i, ¬ IsB s a c x i) (ini : Bool) (n1 : Int) (w : World) :
    Calls Tryd.prog 14 #[.string s, .bool ini, .int .i64 n1] w fun e w' => e = .returned (.tuple #[noFr, .int .i64 40]) ∧ Below w.heap.size w w' := by
  have CP := Lib.hid (parts_no h hs)
  clear h
  go_enter Tryd.func14, Tryd.ntmps14
  go_wp2_with (go_at_call 41; ((with_reducible refine (CP.out _).mono ?_); rintro e w1 ⟨rfl, hb⟩; have RA := Lib.hid (fresh0 hb); obtain ⟨⟨k0, k1, k2, k3, k4, k5, k6⟩, kf⟩ := no_cells RA.out; have hlt : w.heap.size < w1.heap.size := lt_heap RA.out; have BA := Lib.hid (on0 hb); clear hb))
  exact bodyPost_ret (v := .tuple #[noFr, .int .i64 40]) (by simp [results, Tryd.results14, go_sem, k0, k1, k2, k3, k4, k5, k6]) rfl ⟨rfl, set7 BA.out (by omega) _ _ _ _ _ _ _⟩
set_option maxHeartbeats 1000000 in
theorem rdec_30 (s : ByteArray) (q0 : 0 < s.size) (q1 : 1 < s.size) (h : Nat) (ini : Bool) (n1 : Int) (cp : ∀ w, Calls Tryd.prog 41 #[.string s] w fun e w' => e = .returned (.tuple #[.int .i64 (h : Int), .bool true]) ∧ Below w.heap.size w w') (w : World) (hk : gK s[1].toNat = 0) :
    Calls Tryd.prog 14 #[.string s, .bool ini, .int .i64 n1] w fun e w' => e = .returned (.tuple #[noFr, .int .i64 30]) ∧ Below w.heap.size w w' := by
  have CP := Lib.hid cp
  have b0 := oct_lt s[0]
  have b1 := oct_lt s[1]
  clear cp
  have CG := Lib.hid (rget_no s[1].toNat b1 hk)
  clear hk
  go_enter Tryd.func14, Tryd.ntmps14
  go_wp2_with (first | (go_at_call 41; ((with_reducible refine (CP.out _).mono ?_); rintro e w1 ⟨rfl, hb⟩; have RA := Lib.hid (fresh0 hb); obtain ⟨⟨k0, k1, k2, k3, k4, k5, k6⟩, kf⟩ := no_cells RA.out; have hlt : w.heap.size < w1.heap.size := lt_heap RA.out; have BA := Lib.hid (on0 hb); clear hb)) | (go_at_call 42; ((with_reducible refine (CG.out _).mono ?_); rintro e w' ⟨rfl, rfl⟩)))
  exact bodyPost_ret (v := .tuple #[noFr, .int .i64 30]) (by simp [results, Tryd.results14, go_sem, k0, k1, k2, k3, k4, k5, k6]) rfl ⟨rfl, set7 BA.out (by omega) _ _ _ _ _ _ _⟩
set_option maxHeartbeats 2000000 in
theorem rdec_41 (s : ByteArray) (hs : s.size ≤ 1000) (h4 : 4 ≤ s.size) (q0 : 0 < s.size) (q1 : 1 < s.size) (q2 : s.size - 1 < s.size) (h : Nat) (hh : h ≤ s.size - 1) (ini : Bool) (n1 : Int) (i : ByteArray) (hi : s.extract h (s.size - 1) = i) (cp : ∀ w, Calls Tryd.prog 41 #[.string s] w fun e w' => e = .returned (.tuple #[.int .i64 (h : Int), .bool true]) ∧ Below w.heap.size w w') (w : World) (hk : gK s[1].toNat ≠ 0) (ov : ByteArray) (hov : ov = if gK s[1].toNat = 5 then s.extract 0 h else s.extract 0 (s.size - 1)) (hx : Fcs.sum ov.data.toList ≠ (s[s.size - 1]).toNat) :
    Calls Tryd.prog 14 #[.string s, .bool ini, .int .i64 n1] w fun e w' => e = .returned (.tuple #[noFr, .int .i64 41]) ∧ Below w.heap.size w w' := by
  have CP := Lib.hid cp
  have b0 := oct_lt s[0]
  have b1 := oct_lt s[1]
  clear cp
  have CG := Lib.hid (rget_ok s[1].toNat b1 hk)
  have p0 : (0 : Int) ≤ (s.size : Int) - 1 := by omega
  have p1 : ((s.size : Int) - 1).toNat = s.size - 1 := by omega
  have p2 : (s.size : Int) - 1 < s.size := by omega
  have p3 : (h : Int) ≤ (s.size : Int) - 1 := by omega
  have p4 : (s.size : Int) - 1 ≤ s.size := by omega
  have p5 : (h : Int) ≤ s.size := by omega
  have p6 : IntKind.i64.wrap ((s.size : Int) - 1) = (s.size : Int) - 1 := wraps_i64 _ (by omega) (by omega)
  have p7 : (1 : Int) ≤ s.size := by omega
  have hz : (s.extract 0 h).size ≤ maxLen := by simp; unfold maxLen; omega
  have hy : (s.extract 0 (s.size - 1)).size ≤ maxLen := by simp; unfold maxLen; omega
  have HC : Hid (ov.size ≤ maxLen) := Lib.hid (by rw [hov]; split; exact hz; exact hy)
  clear hz hy
  obtain ⟨m, hsm⟩ : ∃ m, Fcs.sum ov.data.toList = m := ⟨_, rfl⟩
  have CS0 : Hid (∀ w, Calls Tryd.prog 44 #[.string ov] w fun e w' => e = .returned (.int .u8 (m : Int)) ∧ w = w') := Lib.hid (fun w => by have r := Fcs.rsum ov HC.out w; rw [hsm] at r; exact r)
  rw [hsm] at hx
  clear hsm
  have x1 : ((m : Int) == ((s[s.size - 1]).toNat : Int)) = false := by rw [beq_eq_false_iff_ne]; omega
  have x2 : ((m : Int) != ((s[s.size - 1]).toNat : Int)) = true := by rw [bne_iff_ne]; omega
  clear hx
  by_cases h5 : gK s[1].toNat = 5
  all_goals
    have c5 := h5
    (first | rw [if_pos h5] at hov | rw [if_neg h5] at hov)
    have HO := Lib.hid hov
    (first | (have q5 : (((gK s[1].toNat : Nat) : Int) == 5) = true := by rw [beq_iff_eq]; omega) | (have q5 : (((gK s[1].toNat : Nat) : Int) == 5) = false := by rw [beq_eq_false_iff_ne]; omega))
    clear h5 c5 hov
    have CS := CS0
    rw [HO.out] at CS
    clear hk CS0
    go_enter Tryd.func14, Tryd.ntmps14
    go_wp2_with (first | (go_at_call 41; ((with_reducible refine (CP.out _).mono ?_); rintro e w1 ⟨rfl, hb⟩; have RA := Lib.hid (fresh0 hb); obtain ⟨⟨k0, k1, k2, k3, k4, k5, k6⟩, kf⟩ := no_cells RA.out; have hlt : w.heap.size < w1.heap.size := lt_heap RA.out; have BA := Lib.hid (on0 hb); clear hb)) | (go_at_call 42; ((with_reducible refine (CG.out _).mono ?_); rintro e w' ⟨rfl, rfl⟩)) | (go_at_call 43; ((with_reducible refine (rsplit _ b0 _).mono ?_); rintro e w' ⟨rfl, rfl⟩)))
    go_quiet ((go_at_call 44; exact quiet_left (CS.out _)))
    clear k0 k1 k2 k3 k4 k5 k6 kf
    generalize hv : World.drewN _ nq = v
    have RN : Hid (v.heap[w.heap.size]? = some noObj) := Lib.hid (by rw [← hv]; exact (Below.heap_alloc _ _ _ hlt).trans RA.out)
    have FN : Hid (FrAt v w1.heap.size (⟨spD s[0].toNat, spC s[0].toNat == ini, gK s[1].toNat, gPF s[1].toNat, gNS s[1].toNat, gNR s[1].toNat, i⟩ : Fr)) := Lib.hid (by rw [← hv]; exact nest w1 [_] 0 _ rfl)
    have BN : Hid (Below w.heap.size w v) := Lib.hid (by rw [← hv]; exact below_drewN (below_on' BA.out ((Below.refl _ _).alloc (Nat.le_refl _) _)) _)
    clear hv nq
    obtain ⟨⟨k0, k1, k2, k3, k4, k5, k6⟩, kf⟩ := no_cells RN.out
    go_wp2
    exact bodyPost_ret (v := .tuple #[noFr, .int .i64 41]) (by simp [results, Tryd.results14, go_sem, k0, k1, k2, k3, k4, k5, k6]) rfl ⟨rfl, set7 BN.out (by omega) _ _ _ _ _ _ _⟩
set_option maxHeartbeats 2000000 in
theorem rdec_40 (s : ByteArray) (hs : s.size ≤ 1000) (h4 : 4 ≤ s.size) (q0 : 0 < s.size) (q1 : 1 < s.size) (q2 : s.size - 1 < s.size) (h : Nat) (hh : h ≤ s.size - 1) (ini : Bool) (n1 : Int) (i : ByteArray) (hi : s.extract h (s.size - 1) = i) (cp : ∀ w, Calls Tryd.prog 41 #[.string s] w fun e w' => e = .returned (.tuple #[.int .i64 (h : Int), .bool true]) ∧ Below w.heap.size w w') (w : World) (hk : gK s[1].toNat ≠ 0) (ov : ByteArray) (hov : ov = if gK s[1].toNat = 5 then s.extract 0 h else s.extract 0 (s.size - 1)) (hx : Fcs.sum ov.data.toList = (s[s.size - 1]).toNat) (hm : Fr.mayR (⟨spD s[0].toNat, spC s[0].toNat == ini, gK s[1].toNat, gPF s[1].toNat, gNS s[1].toNat, gNR s[1].toNat, i⟩ : Fr) = false) (hf : Fr.In (⟨spD s[0].toNat, spC s[0].toNat == ini, gK s[1].toNat, gPF s[1].toNat, gNS s[1].toNat, gNR s[1].toNat, i⟩ : Fr)) :
    Calls Tryd.prog 14 #[.string s, .bool ini, .int .i64 n1] w fun e w' => e = .returned (.tuple #[noFr, .int .i64 40]) ∧ Below w.heap.size w w' := by
  have CP := Lib.hid cp
  have b0 := oct_lt s[0]
  have b1 := oct_lt s[1]
  clear cp
  have CG := Lib.hid (rget_ok s[1].toNat b1 hk)
  have p0 : (0 : Int) ≤ (s.size : Int) - 1 := by omega
  have p1 : ((s.size : Int) - 1).toNat = s.size - 1 := by omega
  have p2 : (s.size : Int) - 1 < s.size := by omega
  have p3 : (h : Int) ≤ (s.size : Int) - 1 := by omega
  have p4 : (s.size : Int) - 1 ≤ s.size := by omega
  have p5 : (h : Int) ≤ s.size := by omega
  have p6 : IntKind.i64.wrap ((s.size : Int) - 1) = (s.size : Int) - 1 := wraps_i64 _ (by omega) (by omega)
  have p7 : (1 : Int) ≤ s.size := by omega
  have hz : (s.extract 0 h).size ≤ maxLen := by simp; unfold maxLen; omega
  have hy : (s.extract 0 (s.size - 1)).size ≤ maxLen := by simp; unfold maxLen; omega
  have HC : Hid (ov.size ≤ maxLen) := Lib.hid (by rw [hov]; split; exact hz; exact hy)
  clear hz hy
  obtain ⟨m, hsm⟩ : ∃ m, Fcs.sum ov.data.toList = m := ⟨_, rfl⟩
  have CS0 : Hid (∀ w, Calls Tryd.prog 44 #[.string ov] w fun e w' => e = .returned (.int .u8 (m : Int)) ∧ w = w') := Lib.hid (fun w => by have r := Fcs.rsum ov HC.out w; rw [hsm] at r; exact r)
  rw [hsm] at hx
  clear hsm
  have x1 : ((m : Int) == ((s[s.size - 1]).toNat : Int)) = true := by rw [beq_iff_eq]; omega
  have x2 : ((m : Int) != ((s[s.size - 1]).toNat : Int)) = false := by rw [← Bool.not_eq_true, bne_iff_ne]; omega
  have CM : Hid (∀ w, Calls Tryd.prog 31 #[.agg #[.int .u8 ((spD s[0].toNat : Nat) : Int), .bool (spC s[0].toNat == ini), .int .u8 ((gK s[1].toNat : Nat) : Int), .bool (gPF s[1].toNat), .int .u8 ((gNS s[1].toNat : Nat) : Int), .int .u8 ((gNR s[1].toNat : Nat) : Int), .string i]] w fun e w' => e = .returned (.bool false) ∧ Below w.heap.size w w') := Lib.hid (fun w => by have r := rmayF (⟨spD s[0].toNat, spC s[0].toNat == ini, gK s[1].toNat, gPF s[1].toNat, gNS s[1].toNat, gNR s[1].toNat, i⟩ : Fr) hf w; rw [hm] at r; exact r)
  clear hm hf
  clear hx
  by_cases h5 : gK s[1].toNat = 5
  all_goals
    have c5 := h5
    (first | rw [if_pos h5] at hov | rw [if_neg h5] at hov)
    have HO := Lib.hid hov
    (first | (have q5 : (((gK s[1].toNat : Nat) : Int) == 5) = true := by rw [beq_iff_eq]; omega) | (have q5 : (((gK s[1].toNat : Nat) : Int) == 5) = false := by rw [beq_eq_false_iff_ne]; omega))
    clear h5 c5 hov
    have CS := CS0
    rw [HO.out] at CS
    clear hk CS0
    go_enter Tryd.func14, Tryd.ntmps14
    go_wp2_with (first | (go_at_call 41; ((with_reducible refine (CP.out _).mono ?_); rintro e w1 ⟨rfl, hb⟩; have RA := Lib.hid (fresh0 hb); obtain ⟨⟨k0, k1, k2, k3, k4, k5, k6⟩, kf⟩ := no_cells RA.out; have hlt : w.heap.size < w1.heap.size := lt_heap RA.out; have BA := Lib.hid (on0 hb); clear hb)) | (go_at_call 42; ((with_reducible refine (CG.out _).mono ?_); rintro e w' ⟨rfl, rfl⟩)) | (go_at_call 43; ((with_reducible refine (rsplit _ b0 _).mono ?_); rintro e w' ⟨rfl, rfl⟩)))
    go_quiet ((go_at_call 44; exact quiet_left (CS.out _)))
    clear k0 k1 k2 k3 k4 k5 k6 kf
    generalize hv : World.drewN _ nq = v
    have RN : Hid (v.heap[w.heap.size]? = some noObj) := Lib.hid (by rw [← hv]; exact (Below.heap_alloc _ _ _ hlt).trans RA.out)
    have FN : Hid (FrAt v w1.heap.size (⟨spD s[0].toNat, spC s[0].toNat == ini, gK s[1].toNat, gPF s[1].toNat, gNS s[1].toNat, gNR s[1].toNat, i⟩ : Fr)) := Lib.hid (by rw [← hv]; exact nest w1 [_] 0 _ rfl)
    have BN : Hid (Below w.heap.size w v) := Lib.hid (by rw [← hv]; exact below_drewN (below_on' BA.out ((Below.refl _ _).alloc (Nat.le_refl _) _)) _)
    clear hv nq
    obtain ⟨g0, g1, g2, g3, g4, g5, g6⟩ := FN.out.cells
    dsimp only at g0 g1 g2 g3 g4 g5 g6
    go_wp2_with (go_at_call 31; ((with_reducible refine (CM.out _).mono ?_); rintro e w2 ⟨rfl, hb⟩; clear g0 g1 g2 g3 g4 g5 g6; have RB : Hid (w2.heap[w.heap.size]? = some noObj) := Lib.hid ((hb.block _ (lt_heap RN.out)).trans RN.out); have FB : Hid (FrAt w2 w1.heap.size (⟨spD s[0].toNat, spC s[0].toNat == ini, gK s[1].toNat, gPF s[1].toNat, gNS s[1].toNat, gNR s[1].toNat, i⟩ : Fr)) := Lib.hid (FN.out.below hb); obtain ⟨g0, g1, g2, g3, g4, g5, g6⟩ := FB.out.cells; obtain ⟨⟨k0, k1, k2, k3, k4, k5, k6⟩, kf⟩ := no_cells RB.out; dsimp only at g0 g1 g2 g3 g4 g5 g6; have BB := Lib.hid (below_on' BN.out hb); clear hb))
    exact bodyPost_ret (v := .tuple #[noFr, .int .i64 40]) (by simp [results, Tryd.results14, go_sem, k0, k1, k2, k3, k4, k5, k6]) rfl ⟨rfl, set7 BB.out (by omega) _ _ _ _ _ _ _⟩
set_option maxHeartbeats 2000000 in
theorem rdec_3 (s : ByteArray) (hs : s.size ≤ 1000) (h4 : 4 ≤ s.size) (q0 : 0 < s.size) (q1 : 1 < s.size) (q2 : s.size - 1 < s.size) (h : Nat) (hh : h ≤ s.size - 1) (ini : Bool) (n1 : Int) (i : ByteArray) (hi : s.extract h (s.size - 1) = i) (cp : ∀ w, Calls Tryd.prog 41 #[.string s] w fun e w' => e = .returned (.tuple #[.int .i64 (h : Int), .bool true]) ∧ Below w.heap.size w w') (w : World) (hk : gK s[1].toNat ≠ 0) (ov : ByteArray) (hov : ov = if gK s[1].toNat = 5 then s.extract 0 h else s.extract 0 (s.size - 1)) (hx : Fcs.sum ov.data.toList = (s[s.size - 1]).toNat) (hm : Fr.mayR (⟨spD s[0].toNat, spC s[0].toNat == ini, gK s[1].toNat, gPF s[1].toNat, gNS s[1].toNat, gNR s[1].toNat, i⟩ : Fr) = true) (hf : Fr.In (⟨spD s[0].toNat, spC s[0].toNat == ini, gK s[1].toNat, gPF s[1].toNat, gNS s[1].toNat, gNR s[1].toNat, i⟩ : Fr)) (hr : room n1 < i.size) :
    Calls Tryd.prog 14 #[.string s, .bool ini, .int .i64 n1] w fun e w' => e = .returned (.tuple #[noFr, .int .i64 3]) ∧ Below w.heap.size w w' := by
  have CP := Lib.hid cp
  have b0 := oct_lt s[0]
  have b1 := oct_lt s[1]
  clear cp
  have CG := Lib.hid (rget_ok s[1].toNat b1 hk)
  have p0 : (0 : Int) ≤ (s.size : Int) - 1 := by omega
  have p1 : ((s.size : Int) - 1).toNat = s.size - 1 := by omega
  have p2 : (s.size : Int) - 1 < s.size := by omega
  have p3 : (h : Int) ≤ (s.size : Int) - 1 := by omega
  have p4 : (s.size : Int) - 1 ≤ s.size := by omega
  have p5 : (h : Int) ≤ s.size := by omega
  have p6 : IntKind.i64.wrap ((s.size : Int) - 1) = (s.size : Int) - 1 := wraps_i64 _ (by omega) (by omega)
  have p7 : (1 : Int) ≤ s.size := by omega
  have hz : (s.extract 0 h).size ≤ maxLen := by simp; unfold maxLen; omega
  have hy : (s.extract 0 (s.size - 1)).size ≤ maxLen := by simp; unfold maxLen; omega
  have HC : Hid (ov.size ≤ maxLen) := Lib.hid (by rw [hov]; split; exact hz; exact hy)
  clear hz hy
  obtain ⟨m, hsm⟩ : ∃ m, Fcs.sum ov.data.toList = m := ⟨_, rfl⟩
  have CS0 : Hid (∀ w, Calls Tryd.prog 44 #[.string ov] w fun e w' => e = .returned (.int .u8 (m : Int)) ∧ w = w') := Lib.hid (fun w => by have r := Fcs.rsum ov HC.out w; rw [hsm] at r; exact r)
  rw [hsm] at hx
  clear hsm
  have x1 : ((m : Int) == ((s[s.size - 1]).toNat : Int)) = true := by rw [beq_iff_eq]; omega
  have x2 : ((m : Int) != ((s[s.size - 1]).toNat : Int)) = false := by rw [← Bool.not_eq_true, bne_iff_ne]; omega
  have CM : Hid (∀ w, Calls Tryd.prog 31 #[.agg #[.int .u8 ((spD s[0].toNat : Nat) : Int), .bool (spC s[0].toNat == ini), .int .u8 ((gK s[1].toNat : Nat) : Int), .bool (gPF s[1].toNat), .int .u8 ((gNS s[1].toNat : Nat) : Int), .int .u8 ((gNR s[1].toNat : Nat) : Int), .string i]] w fun e w' => e = .returned (.bool true) ∧ Below w.heap.size w w') := Lib.hid (fun w => by have r := rmayF (⟨spD s[0].toNat, spC s[0].toNat == ini, gK s[1].toNat, gPF s[1].toNat, gNS s[1].toNat, gNR s[1].toNat, i⟩ : Fr) hf w; rw [hm] at r; exact r)
  clear hm hf
  have r1 : decide (room n1 < i.size) = true := by simp; omega
  clear hx
  by_cases h5 : gK s[1].toNat = 5
  all_goals
    have c5 := h5
    (first | rw [if_pos h5] at hov | rw [if_neg h5] at hov)
    have HO := Lib.hid hov
    (first | (have q5 : (((gK s[1].toNat : Nat) : Int) == 5) = true := by rw [beq_iff_eq]; omega) | (have q5 : (((gK s[1].toNat : Nat) : Int) == 5) = false := by rw [beq_eq_false_iff_ne]; omega))
    clear h5 c5 hov
    have CS := CS0
    rw [HO.out] at CS
    clear hk CS0
    go_enter Tryd.func14, Tryd.ntmps14
    go_wp2_with (first | (go_at_call 41; ((with_reducible refine (CP.out _).mono ?_); rintro e w1 ⟨rfl, hb⟩; have RA := Lib.hid (fresh0 hb); obtain ⟨⟨k0, k1, k2, k3, k4, k5, k6⟩, kf⟩ := no_cells RA.out; have hlt : w.heap.size < w1.heap.size := lt_heap RA.out; have BA := Lib.hid (on0 hb); clear hb)) | (go_at_call 42; ((with_reducible refine (CG.out _).mono ?_); rintro e w' ⟨rfl, rfl⟩)) | (go_at_call 43; ((with_reducible refine (rsplit _ b0 _).mono ?_); rintro e w' ⟨rfl, rfl⟩)))
    go_quiet ((go_at_call 44; exact quiet_left (CS.out _)))
    clear k0 k1 k2 k3 k4 k5 k6 kf
    generalize hv : World.drewN _ nq = v
    have RN : Hid (v.heap[w.heap.size]? = some noObj) := Lib.hid (by rw [← hv]; exact (Below.heap_alloc _ _ _ hlt).trans RA.out)
    have FN : Hid (FrAt v w1.heap.size (⟨spD s[0].toNat, spC s[0].toNat == ini, gK s[1].toNat, gPF s[1].toNat, gNS s[1].toNat, gNR s[1].toNat, i⟩ : Fr)) := Lib.hid (by rw [← hv]; exact nest w1 [_] 0 _ rfl)
    have BN : Hid (Below w.heap.size w v) := Lib.hid (by rw [← hv]; exact below_drewN (below_on' BA.out ((Below.refl _ _).alloc (Nat.le_refl _) _)) _)
    clear hv nq
    obtain ⟨g0, g1, g2, g3, g4, g5, g6⟩ := FN.out.cells
    dsimp only at g0 g1 g2 g3 g4 g5 g6
    go_wp2_with (go_at_call 31; ((with_reducible refine (CM.out _).mono ?_); rintro e w2 ⟨rfl, hb⟩; clear g0 g1 g2 g3 g4 g5 g6; have RB : Hid (w2.heap[w.heap.size]? = some noObj) := Lib.hid ((hb.block _ (lt_heap RN.out)).trans RN.out); have FB : Hid (FrAt w2 w1.heap.size (⟨spD s[0].toNat, spC s[0].toNat == ini, gK s[1].toNat, gPF s[1].toNat, gNS s[1].toNat, gNR s[1].toNat, i⟩ : Fr)) := Lib.hid (FN.out.below hb); obtain ⟨g0, g1, g2, g3, g4, g5, g6⟩ := FB.out.cells; obtain ⟨⟨k0, k1, k2, k3, k4, k5, k6⟩, kf⟩ := no_cells RB.out; dsimp only at g0 g1 g2 g3 g4 g5 g6; have BB := Lib.hid (below_on' BN.out hb); clear hb))
    clear k0 k1 k2 k3 k4 k5 k6 kf
    go_quiet ((go_at_call 12; exact quiet_left (rroom _ _)))
    clear g0 g1 g2 g3 g4 g5 g6
    generalize hv : World.drewN _ nq = v2
    have RC : Hid (v2.heap[w.heap.size]? = some noObj) := Lib.hid (by rw [← hv]; exact RB.out)
    have FC : Hid (FrAt v2 w1.heap.size (⟨spD s[0].toNat, spC s[0].toNat == ini, gK s[1].toNat, gPF s[1].toNat, gNS s[1].toNat, gNR s[1].toNat, i⟩ : Fr)) := Lib.hid (by rw [← hv]; exact FB.out)
    have BC : Hid (Below w.heap.size w v2) := Lib.hid (by rw [← hv]; exact below_drewN BB.out _)
    clear hv nq
    obtain ⟨⟨k0, k1, k2, k3, k4, k5, k6⟩, kf⟩ := no_cells RC.out
    obtain ⟨g0, g1, g2, g3, g4, g5, g6⟩ := FC.out.cells
    dsimp only at g0 g1 g2 g3 g4 g5 g6
    go_wp2
    exact bodyPost_ret (v := .tuple #[noFr, .int .i64 3]) (by simp [results, Tryd.results14, go_sem, k0, k1, k2, k3, k4, k5, k6]) rfl ⟨rfl, set7 BC.out (by omega) _ _ _ _ _ _ _⟩
set_option maxHeartbeats 2000000 in
theorem rdec_0 (s : ByteArray) (hs : s.size ≤ 1000) (h4 : 4 ≤ s.size) (q0 : 0 < s.size) (q1 : 1 < s.size) (q2 : s.size - 1 < s.size) (h : Nat) (hh : h ≤ s.size - 1) (ini : Bool) (n1 : Int) (i : ByteArray) (hi : s.extract h (s.size - 1) = i) (cp : ∀ w, Calls Tryd.prog 41 #[.string s] w fun e w' => e = .returned (.tuple #[.int .i64 (h : Int), .bool true]) ∧ Below w.heap.size w w') (w : World) (hk : gK s[1].toNat ≠ 0) (ov : ByteArray) (hov : ov = if gK s[1].toNat = 5 then s.extract 0 h else s.extract 0 (s.size - 1)) (hx : Fcs.sum ov.data.toList = (s[s.size - 1]).toNat) (hm : Fr.mayR (⟨spD s[0].toNat, spC s[0].toNat == ini, gK s[1].toNat, gPF s[1].toNat, gNS s[1].toNat, gNR s[1].toNat, i⟩ : Fr) = true) (hf : Fr.In (⟨spD s[0].toNat, spC s[0].toNat == ini, gK s[1].toNat, gPF s[1].toNat, gNS s[1].toNat, gNR s[1].toNat, i⟩ : Fr)) (hr : i.size ≤ room n1) :
    Calls Tryd.prog 14 #[.string s, .bool ini, .int .i64 n1] w fun e w' => e = .returned (.tuple #[fv (⟨spD s[0].toNat, spC s[0].toNat == ini, gK s[1].toNat, gPF s[1].toNat, gNS s[1].toNat, gNR s[1].toNat, i⟩ : Fr), .int .i64 0]) ∧ Below w.heap.size w w' := by
  have CP := Lib.hid cp
  have b0 := oct_lt s[0]
  have b1 := oct_lt s[1]
  clear cp
  have CG := Lib.hid (rget_ok s[1].toNat b1 hk)
  have p0 : (0 : Int) ≤ (s.size : Int) - 1 := by omega
  have p1 : ((s.size : Int) - 1).toNat = s.size - 1 := by omega
  have p2 : (s.size : Int) - 1 < s.size := by omega
  have p3 : (h : Int) ≤ (s.size : Int) - 1 := by omega
  have p4 : (s.size : Int) - 1 ≤ s.size := by omega
  have p5 : (h : Int) ≤ s.size := by omega
  have p6 : IntKind.i64.wrap ((s.size : Int) - 1) = (s.size : Int) - 1 := wraps_i64 _ (by omega) (by omega)
  have p7 : (1 : Int) ≤ s.size := by omega
  have hz : (s.extract 0 h).size ≤ maxLen := by simp; unfold maxLen; omega
  have hy : (s.extract 0 (s.size - 1)).size ≤ maxLen := by simp; unfold maxLen; omega
  have HC : Hid (ov.size ≤ maxLen) := Lib.hid (by rw [hov]; split; exact hz; exact hy)
  clear hz hy
  obtain ⟨m, hsm⟩ : ∃ m, Fcs.sum ov.data.toList = m := ⟨_, rfl⟩
  have CS0 : Hid (∀ w, Calls Tryd.prog 44 #[.string ov] w fun e w' => e = .returned (.int .u8 (m : Int)) ∧ w = w') := Lib.hid (fun w => by have r := Fcs.rsum ov HC.out w; rw [hsm] at r; exact r)
  rw [hsm] at hx
  clear hsm
  have x1 : ((m : Int) == ((s[s.size - 1]).toNat : Int)) = true := by rw [beq_iff_eq]; omega
  have x2 : ((m : Int) != ((s[s.size - 1]).toNat : Int)) = false := by rw [← Bool.not_eq_true, bne_iff_ne]; omega
  have CM : Hid (∀ w, Calls Tryd.prog 31 #[.agg #[.int .u8 ((spD s[0].toNat : Nat) : Int), .bool (spC s[0].toNat == ini), .int .u8 ((gK s[1].toNat : Nat) : Int), .bool (gPF s[1].toNat), .int .u8 ((gNS s[1].toNat : Nat) : Int), .int .u8 ((gNR s[1].toNat : Nat) : Int), .string i]] w fun e w' => e = .returned (.bool true) ∧ Below w.heap.size w w') := Lib.hid (fun w => by have r := rmayF (⟨spD s[0].toNat, spC s[0].toNat == ini, gK s[1].toNat, gPF s[1].toNat, gNS s[1].toNat, gNR s[1].toNat, i⟩ : Fr) hf w; rw [hm] at r; exact r)
  clear hm hf
  have r1 : decide (room n1 < i.size) = false := by simp; omega
  clear hx
  by_cases h5 : gK s[1].toNat = 5
  all_goals
    have c5 := h5
    (first | rw [if_pos h5] at hov | rw [if_neg h5] at hov)
    have HO := Lib.hid hov
    (first | (have q5 : (((gK s[1].toNat : Nat) : Int) == 5) = true := by rw [beq_iff_eq]; omega) | (have q5 : (((gK s[1].toNat : Nat) : Int) == 5) = false := by rw [beq_eq_false_iff_ne]; omega))
    clear h5 c5 hov
    have CS := CS0
    rw [HO.out] at CS
    clear hk CS0
    go_enter Tryd.func14, Tryd.ntmps14
    go_wp2_with (first | (go_at_call 41; ((with_reducible refine (CP.out _).mono ?_); rintro e w1 ⟨rfl, hb⟩; have RA := Lib.hid (fresh0 hb); obtain ⟨⟨k0, k1, k2, k3, k4, k5, k6⟩, kf⟩ := no_cells RA.out; have hlt : w.heap.size < w1.heap.size := lt_heap RA.out; have BA := Lib.hid (on0 hb); clear hb)) | (go_at_call 42; ((with_reducible refine (CG.out _).mono ?_); rintro e w' ⟨rfl, rfl⟩)) | (go_at_call 43; ((with_reducible refine (rsplit _ b0 _).mono ?_); rintro e w' ⟨rfl, rfl⟩)))
    go_quiet ((go_at_call 44; exact quiet_left (CS.out _)))
    clear k0 k1 k2 k3 k4 k5 k6 kf
    generalize hv : World.drewN _ nq = v
    have RN : Hid (v.heap[w.heap.size]? = some noObj) := Lib.hid (by rw [← hv]; exact (Below.heap_alloc _ _ _ hlt).trans RA.out)
    have FN : Hid (FrAt v w1.heap.size (⟨spD s[0].toNat, spC s[0].toNat == ini, gK s[1].toNat, gPF s[1].toNat, gNS s[1].toNat, gNR s[1].toNat, i⟩ : Fr)) := Lib.hid (by rw [← hv]; exact nest w1 [_] 0 _ rfl)
    have BN : Hid (Below w.heap.size w v) := Lib.hid (by rw [← hv]; exact below_drewN (below_on' BA.out ((Below.refl _ _).alloc (Nat.le_refl _) _)) _)
    clear hv nq
    obtain ⟨g0, g1, g2, g3, g4, g5, g6⟩ := FN.out.cells
    dsimp only at g0 g1 g2 g3 g4 g5 g6
    go_wp2_with (go_at_call 31; ((with_reducible refine (CM.out _).mono ?_); rintro e w2 ⟨rfl, hb⟩; clear g0 g1 g2 g3 g4 g5 g6; have RB : Hid (w2.heap[w.heap.size]? = some noObj) := Lib.hid ((hb.block _ (lt_heap RN.out)).trans RN.out); have FB : Hid (FrAt w2 w1.heap.size (⟨spD s[0].toNat, spC s[0].toNat == ini, gK s[1].toNat, gPF s[1].toNat, gNS s[1].toNat, gNR s[1].toNat, i⟩ : Fr)) := Lib.hid (FN.out.below hb); obtain ⟨g0, g1, g2, g3, g4, g5, g6⟩ := FB.out.cells; obtain ⟨⟨k0, k1, k2, k3, k4, k5, k6⟩, kf⟩ := no_cells RB.out; dsimp only at g0 g1 g2 g3 g4 g5 g6; have BB := Lib.hid (below_on' BN.out hb); clear hb))
    clear k0 k1 k2 k3 k4 k5 k6 kf
    go_quiet ((go_at_call 12; exact quiet_left (rroom _ _)))
    clear g0 g1 g2 g3 g4 g5 g6
    generalize hv : World.drewN _ nq = v2
    have RC : Hid (v2.heap[w.heap.size]? = some noObj) := Lib.hid (by rw [← hv]; exact RB.out)
    have FC : Hid (FrAt v2 w1.heap.size (⟨spD s[0].toNat, spC s[0].toNat == ini, gK s[1].toNat, gPF s[1].toNat, gNS s[1].toNat, gNR s[1].toNat, i⟩ : Fr)) := Lib.hid (by rw [← hv]; exact FB.out)
    have BC : Hid (Below w.heap.size w v2) := Lib.hid (by rw [← hv]; exact below_drewN BB.out _)
    clear hv nq
    obtain ⟨⟨k0, k1, k2, k3, k4, k5, k6⟩, kf⟩ := no_cells RC.out
    obtain ⟨g0, g1, g2, g3, g4, g5, g6⟩ := FC.out.cells
    dsimp only at g0 g1 g2 g3 g4 g5 g6
    go_wp2
    exact bodyPost_ret (v := .tuple #[fv (⟨spD s[0].toNat, spC s[0].toNat == ini, gK s[1].toNat, gPF s[1].toNat, gNS s[1].toNat, gNR s[1].toNat, i⟩ : Fr), .int .i64 0]) (by simp [results, Tryd.results14, go_sem, k0, k1, k2, k3, k4, k5, k6]) rfl ⟨rfl, set7 BC.out (by omega) _ _ _ _ _ _ _⟩
/-- What the document's own Decode answers of a body. -/
theorem rdec_body {s : ByteArray} {a c x : Nat} {i : ByteArray} (h : IsB s a c x i) (hs : s.size ≤ 1000) (ini : Bool) (n1 : Int) (w : World) :
    (dE a c x i ini n1 = 0 → Calls Tryd.prog 14 #[.string s, .bool ini, .int .i64 n1] w fun e w' => e = .returned (.tuple #[fv (fr a c i ini), .int .i64 0]) ∧ Below w.heap.size w w') ∧
    (dE a c x i ini n1 ≠ 0 → Calls Tryd.prog 14 #[.string s, .bool ini, .int .i64 n1] w fun e w' => e = .returned (.tuple #[noFr, .int .i64 (dE a c x i ini n1 : Int)]) ∧ Below w.heap.size w w') := by
  have h4 := long4 h
  have hz := h.size
  have q0 : 0 < s.size := by omega
  have q1 : 1 < s.size := by omega
  have q2 : s.size - 1 < s.size := by omega
  have e0 := h.at0 q0
  have e1 := h.at1 q1
  obtain ⟨g1, g2, g3⟩ := h.parts
  have q3 : 2 + (Ea.len i.size).size + i.size < s.size := by omega
  have ex := h.atx q3
  have e2 : (s[s.size - 1]'q2).toNat = x := by
    have : s.size - 1 = 2 + (Ea.len i.size).size + i.size := by omega
    simp only [this]
    exact ex
  have hh : 2 + (Ea.len i.size).size ≤ s.size - 1 := by omega
  have hi : s.extract (2 + (Ea.len i.size).size) (s.size - 1) = i := by
    rw [show s.size - 1 = 2 + (Ea.len i.size).size + i.size by omega]; exact g3
  have hb : s.extract 0 (s.size - 1) = hdB a c i.size ++ i := by
    have e3 : s.extract 0 (2 + (Ea.len i.size).size) ++ s.extract (2 + (Ea.len i.size).size) (2 + (Ea.len i.size).size + i.size) = s.extract 0 (2 + (Ea.len i.size).size + i.size) := by
      apply bext
      rw [app_list, ext_list, ext_list, ext_list, List.drop_zero, List.drop_zero, List.drop_take, show 2 + (Ea.len i.size).size + i.size - (2 + (Ea.len i.size).size) = i.size by omega, ← List.take_add]
    rw [g2, g3] at e3
    rw [show s.size - 1 = 2 + (Ea.len i.size).size + i.size by omega]
    exact e3.symm
  have cp : ∀ w, Calls Tryd.prog 41 #[.string s] w fun e w' => e = .returned (.tuple #[.int .i64 ((2 + (Ea.len i.size).size : Nat) : Int), .bool true]) ∧ Below w.heap.size w w' := fun w => parts_ok h (by unfold maxLen; omega) w
  have hov : ckB (gK c) (hdB a c i.size) i = if gK s[1].toNat = 5 then s.extract 0 (2 + (Ea.len i.size).size) else s.extract 0 (s.size - 1) := by
    rw [e1, g2, hb]; rfl
  have hf : Fr.In (⟨spD s[0].toNat, spC s[0].toNat == ini, gK s[1].toNat, gPF s[1].toNat, gNS s[1].toNat, gNR s[1].toNat, i⟩ : Fr) := by
    rw [e0, e1]; exact fr_in h.ha h.hc i ini
  by_cases k1 : gK c = 0
  · refine ⟨fun k => absurd k (by unfold dE; rw [if_pos k1]; decide), fun _ => ?_⟩
    rw [show dE a c x i ini n1 = 30 by unfold dE; rw [if_pos k1]]
    exact rdec_30 s q0 q1 _ ini n1 cp w (by rw [e1]; exact k1)
  have k1' : gK s[1].toNat ≠ 0 := by rw [e1]; exact k1
  by_cases k2 : Fcs.sum (ckB (gK c) (hdB a c i.size) i).data.toList = x
  · have hx : Fcs.sum (ckB (gK c) (hdB a c i.size) i).data.toList = (s[s.size - 1]).toNat := by rw [e2]; exact k2
    have em : Fr.mayR (⟨spD s[0].toNat, spC s[0].toNat == ini, gK s[1].toNat, gPF s[1].toNat, gNS s[1].toNat, gNR s[1].toNat, i⟩ : Fr) = mayF (gK c) (spC a == ini) i := by
      rw [e0, e1]; exact fr_mayR h.ha h.hc k1 i ini
    have ef : (⟨spD s[0].toNat, spC s[0].toNat == ini, gK s[1].toNat, gPF s[1].toNat, gNS s[1].toNat, gNR s[1].toNat, i⟩ : Fr) = fr a c i ini := by rw [e0, e1]; rfl
    by_cases k3 : mayF (gK c) (spC a == ini) i = false
    · have e : dE a c x i ini n1 = 40 := by unfold dE; rw [if_neg k1, if_neg (fun k => k k2), if_pos k3]
      rw [e]
      exact ⟨fun k => absurd k (by decide), fun _ => rdec_40 s hs h4 q0 q1 q2 _ hh ini n1 i hi cp w k1' _ hov hx (em.trans k3) hf⟩
    · have k3' : mayF (gK c) (spC a == ini) i = true := by simpa using k3
      by_cases k4 : room n1 < i.size
      · have e : dE a c x i ini n1 = 3 := by unfold dE; rw [if_neg k1, if_neg (fun k => k k2), if_neg k3, if_pos k4]
        rw [e]
        exact ⟨fun k => absurd k (by decide), fun _ => rdec_3 s hs h4 q0 q1 q2 _ hh ini n1 i hi cp w k1' _ hov hx (em.trans k3') hf k4⟩
      · have e : dE a c x i ini n1 = 0 := by unfold dE; rw [if_neg k1, if_neg (fun k => k k2), if_neg k3, if_neg k4]
        refine ⟨fun _ => ?_, fun k => absurd e k⟩
        have r := rdec_0 s hs h4 q0 q1 q2 _ hh ini n1 i hi cp w k1' _ hov hx (em.trans k3') hf (by omega)
        rw [ef] at r
        exact r
  · have hx : Fcs.sum (ckB (gK c) (hdB a c i.size) i).data.toList ≠ (s[s.size - 1]).toNat := by rw [e2]; exact k2
    have e : dE a c x i ini n1 = 41 := by unfold dE; rw [if_neg k1, if_pos k2]
    rw [e]
    exact ⟨fun k => absurd k (by decide), fun _ => rdec_41 s hs h4 q0 q1 q2 _ hh ini n1 i hi cp w k1' _ hov hx⟩
end Go.Proofs.YtglbnacnlkdoiaaDoor.Basic

/-
  Layer 22, put together: TlvGet. Conditions: as each theorem names them.
-/
import Derived.Test.YtakkhdammmcjcaaGreatDoorK02
import Derived.Test.YtakkhdammmcjcaaGreatDoorK08
import Derived.Test.YtakkhdammmcjcaaGreatDoorK18
import Derived.Deep.RegionHeld
import Derived.Defers
import Derived.Laws.EntriesVeiled
namespace Go.Proofs.YtakkhdammmcjcaaGreatDoor.Tlv
open Go.RowKit Base Ea Mem
/-- What Get answers. -/
def gotV (g : Got) : Value := .tuple #[.int .u8 (g.k : Int), .bool g.c, .string g.v, .int .i64 (g.n : Int), .int .i64 (g.e : Int)]
theorem u8_and2' (a : Nat) (h : a < 256) : bits .and .u8 (a : Int) 2 = ((2 * (a / 2 % 2) : Nat) : Int) := u8_and2 a h
theorem getType_no (s : ByteArray) (hs : s.size ≤ 4611686018427387904) (e : Nat) (he : (s.size = 0 ∧ e = 20) ∨ (∃ h : 0 < s.size, s[0].toNat % 2 = 0 ∧ e = 70)) (w : World) :
 Calls Tryz.prog 105 #[.string s] w fun x w' => x = .returned (.tuple #[.int .u8 0, .bool false, .int .i64 (e : Int)]) ∧ w = w' := by
 rcases he with ⟨h0, rfl⟩ | ⟨h0, ho, rfl⟩
 · obtain rfl := nil_of_size h0
   go_enter Tryz.func105, Tryz.ntmps105
   go_wp2
   go_ret3
   exact ⟨rfl, rfl⟩
 · have hz : ((s.size : Int) == 0) = false := by rw [beq_eq_false_iff_ne]; omega
   have b0 := oct_lt s[0]
   have e1 : bits .and .u8 (s[0].toNat : Int) 1 = 0 := by rw [u8_and1 _ b0, ho]; rfl
   clear ho
   go_enter Tryz.func105, Tryz.ntmps105
   go_wp2
   go_ret3
   exact ⟨rfl, rfl⟩
theorem getType_ok (s : ByteArray) (hs : s.size ≤ 4611686018427387904) (h0 : 0 < s.size) (ho : s[0].toNat % 2 = 1) (w : World) :
 Calls Tryz.prog 105 #[.string s] w fun x w' => x = .returned (.tuple #[.int .u8 ((s[0].toNat / 4 : Nat) : Int), .bool (decide (s[0].toNat / 2 % 2 = 1)), .int .i64 0]) ∧ Below w.heap.size w w' := by
 have hz : ((s.size : Int) == 0) = false := by rw [beq_eq_false_iff_ne]; omega
 have b0 := oct_lt s[0]
 have e1 : bits .and .u8 (s[0].toNat : Int) 1 = 1 := by rw [u8_and1 _ b0, ho]; rfl
 have e2 : bits .and .u8 (s[0].toNat : Int) 2 = ((2 * (s[0].toNat / 2 % 2) : Nat) : Int) := u8_and2 _ b0
 have HB : Hid ((((2 * (s[0].toNat / 2 % 2) : Nat) : Int) != 0) = decide (s[0].toNat / 2 % 2 = 1)) := Lib.hid (by rw [Bool.eq_iff_iff]; simp; omega)
 generalize hX : 2 * (s[0].toNat / 2 % 2) = X at e2 HB
 clear ho hX
 have h1 : (0 : Int) < s.size := by omega
 go_enter Tryz.func105, Tryz.ntmps105
 go_wp2
 go_quiet (fail)
 go_wp2
 go_ret3
 exact ⟨ret_ibi (by simp) HB.out rfl, below_drewN (Below.refl _ _) _⟩
theorem getLength_short (t : ByteArray) (hs : t.size ≤ maxLen) (h : tk t.data.toList = (0, 0, 20)) (w : World) :
 Calls Tryz.prog 106 #[.string t] w fun x w' => x = .returned (.tuple #[.int .i64 0, .int .i64 0, .int .i64 20]) ∧ w = w' := by
 have CT : Hid (∀ w, Calls Tryz.prog 117 #[.string t] w fun e w' => e = .returned (.tuple #[.int .i64 0, .int .i64 0, .int .i64 20]) ∧ w = w') := Lib.hid (fun w => by
  have := take t w hs
  unfold tkN tkZ tkE at this
  rw [h] at this
  exact this)
 clear h hs
 go_enter Tryz.func106, Tryz.ntmps106
 go_wp2_with (go_at_call 117; ((with_reducible refine (CT.out _).mono ?_); rintro e w' ⟨rfl, rfl⟩))
 go_ret3
 exact ⟨rfl, rfl⟩
theorem getLength_far (t : ByteArray) (hs : t.size ≤ maxLen) (m : Nat) (h1 : 128 ≤ m) (h2 : m ≤ 32767) (h : tk t.data.toList = (m, 2, 0)) (w : World) :
 Calls Tryz.prog 106 #[.string t] w fun x w' => x = .returned (.tuple #[.int .i64 0, .int .i64 0, .int .i64 70]) ∧ Below w.heap.size w w' := by
 have CT : Hid (∀ w, Calls Tryz.prog 117 #[.string t] w fun e w' => e = .returned (.tuple #[.int .i64 (m : Int), .int .i64 2, .int .i64 0]) ∧ w = w') := Lib.hid (fun w => by
  have := take t w hs
  unfold tkN tkZ tkE at this
  rw [h] at this
  exact this)
 clear h hs
 have hd : decide ((127 : Int) < (m : Int)) = true := by simp; omega
 go_enter Tryz.func106, Tryz.ntmps106
 go_wp2_with (go_at_call 117; ((with_reducible refine (CT.out _).mono ?_); rintro e w' ⟨rfl, rfl⟩))
 go_quiet (fail)
 go_wp2
 go_ret3
 exact ⟨rfl, below_drewN (Below.refl _ _) _⟩
set_option maxHeartbeats 400000 in
theorem getLength_near (t : ByteArray) (hs : t.size ≤ maxLen) (m z : Nat) (h1 : m < 128) (hz : z ≤ 2) (hzt : z ≤ t.size) (h : tk t.data.toList = (m, z, 0)) (r : ByteArray) (hr : t.extract 0 z = r) (e : Nat) (he : (r = len m ∧ e = 0) ∨ (r ≠ len m ∧ e = 70)) (w : World) :
 Calls Tryz.prog 106 #[.string t] w fun x w' => x = .returned (.tuple #[.int .i64 (if e = 0 then (m : Int) else 0), .int .i64 (if e = 0 then (z : Int) else 0), .int .i64 (e : Int)]) ∧ Below w.heap.size w w' := by
 have CT : Hid (∀ w, Calls Tryz.prog 117 #[.string t] w fun e w' => e = .returned (.tuple #[.int .i64 (m : Int), .int .i64 (z : Int), .int .i64 0]) ∧ w = w') := Lib.hid (fun w => by
  have := take t w hs
  unfold tkN tkZ tkE at this
  rw [h] at this
  exact this)
 generalize hL : len (m : Int) = L at he
 have CL : Hid (∀ w, Calls Tryz.prog 72 #[.int .i64 (m : Int)] w fun e w' => e = .returned (.string L) ∧ Below w.heap.size w w') := Lib.hid (fun w => by rw [← hL]; exact length _ (by omega) w)
 have hd : decide ((127 : Int) < (m : Int)) = false := by simp; omega
 unfold maxLen at hs
 have z0 : (0 : Int) ≤ z := by omega
 have z1 : (z : Int) ≤ t.size := by omega
 clear hL h
 rcases he with ⟨hx, rfl⟩ | ⟨hx, rfl⟩
 · have hq : (r.toList == L.toList) = true := eq_list hx
   clear hx
   rw [if_pos rfl, if_pos rfl]
   go_enter Tryz.func106, Tryz.ntmps106
   go_wp2_with (go_at_call 117; ((with_reducible refine (CT.out _).mono ?_); rintro e w' ⟨rfl, rfl⟩))
   go_region_held (fun w' => Below w.heap.size w w')
    (first | exact (Below.refl _ _).drew | exact HB2.out)
    ((go_at_call 72; ((with_reducible refine (CL.out _).mono ?_); rintro e w2 ⟨rfl, hb⟩; have HB2 := Lib.hid (below_on ((Below.refl w.heap.size w).drew) hb); clear hb)))
   all_goals
    rename_i hX
    go_wp2
    go_ret3
    exact ⟨rfl, hX⟩
 · have hq : (r.toList == L.toList) = false := ne_list hx
   clear hx
   rw [if_neg (by decide), if_neg (by decide)]
   go_enter Tryz.func106, Tryz.ntmps106
   go_wp2_with (go_at_call 117; ((with_reducible refine (CT.out _).mono ?_); rintro e w' ⟨rfl, rfl⟩))
   go_region_held (fun w' => Below w.heap.size w w')
    (first | exact (Below.refl _ _).drew | exact HB2.out)
    ((go_at_call 72; ((with_reducible refine (CL.out _).mono ?_); rintro e w2 ⟨rfl, hb⟩; have HB2 := Lib.hid (below_on ((Below.refl w.heap.size w).drew) hb); clear hb)))
   all_goals
    rename_i hX
    go_wp2
    go_ret3
    exact ⟨rfl, hX⟩
/-- Get's results in memory, one block each. -/
structure Five (W : World) (B : Nat) (k : Int) (c : Bool) (v : ByteArray) (n e : Int) : Prop where
 b0 : W.heap[B]? = some (.cells #[.int .u8 k] 5 (0, 0))
 b1 : W.heap[B + 1]? = some (.cells #[.bool c] 4 (0, 0))
 b2 : W.heap[B + 2]? = some (.cells #[.string v] 9 (0, 0))
 b3 : W.heap[B + 3]? = some (.cells #[.int .i64 n] 3 (0, 0))
 b4 : W.heap[B + 4]? = some (.cells #[.int .i64 e] 57 (0, 0))
theorem Five.below {W W' : World} {B : Nat} {k : Int} {c : Bool} {v : ByteArray} {n e : Int} (h : Five W B k c v n e) (hb : Below W.heap.size W W') : Five W' B k c v n e :=
 ⟨stays h.b0 hb, stays h.b1 hb, stays h.b2 hb, stays h.b3 hb, stays h.b4 hb⟩
theorem Five.cells {W : World} {B : Nat} {k : Int} {c : Bool} {v : ByteArray} {n e : Int} (h : Five W B k c v n e) : W.cell? ⟨B, 0, none⟩ = some (.int .u8 k) ∧ W.cell? ⟨B + 1, 0, none⟩ = some (.bool c) ∧ W.cell? ⟨B + 2, 0, none⟩ = some (.string v) ∧ W.cell? ⟨B + 3, 0, none⟩ = some (.int .i64 n) ∧ W.cell? ⟨B + 4, 0, none⟩ = some (.int .i64 e) :=
 ⟨cell_of h.b0 rfl, cell_of h.b1 rfl, cell_of h.b2 rfl, cell_of h.b3 rfl, cell_of h.b4 rfl⟩
theorem Five.frees {W : World} {B : Nat} {k : Int} {c : Bool} {v : ByteArray} {n e : Int} (h : Five W B k c v n e) : W.frozen? ⟨B, 0, none⟩ = false ∧ W.frozen? ⟨B + 1, 0, none⟩ = false ∧ W.frozen? ⟨B + 2, 0, none⟩ = false ∧ W.frozen? ⟨B + 3, 0, none⟩ = false ∧ W.frozen? ⟨B + 4, 0, none⟩ = false :=
 ⟨free_of h.b0, free_of h.b1, free_of h.b2, free_of h.b3, free_of h.b4⟩
theorem set_other {W : World} {a b i : Nat} {o : Obj} (h : W.heap[a]? = some o) (hne : a ≠ b) (v : Value) : (W.setCell ⟨b, i, none⟩ v).heap[a]? = some o := (Below.heap_setCell _ _ _ _ hne).trans h
theorem Five.set0 {W : World} {B : Nat} {k : Int} {c : Bool} {v : ByteArray} {n e : Int} (h : Five W B k c v n e) (k' : Int) : Five (W.setCell ⟨B, 0, none⟩ (.int .u8 k')) B k' c v n e :=
 ⟨block_set (i := 0) h.b0 _, set_other h.b1 (by omega) _, set_other h.b2 (by omega) _, set_other h.b3 (by omega) _, set_other h.b4 (by omega) _⟩
theorem Five.set1 {W : World} {B : Nat} {k : Int} {c : Bool} {v : ByteArray} {n e : Int} (h : Five W B k c v n e) (c' : Bool) : Five (W.setCell ⟨B + 1, 0, none⟩ (.bool c')) B k c' v n e :=
 ⟨set_other h.b0 (by omega) _, block_set (i := 0) h.b1 _, set_other h.b2 (by omega) _, set_other h.b3 (by omega) _, set_other h.b4 (by omega) _⟩
theorem Five.set2 {W : World} {B : Nat} {k : Int} {c : Bool} {v : ByteArray} {n e : Int} (h : Five W B k c v n e) (v' : ByteArray) : Five (W.setCell ⟨B + 2, 0, none⟩ (.string v')) B k c v' n e :=
 ⟨set_other h.b0 (by omega) _, set_other h.b1 (by omega) _, block_set (i := 0) h.b2 _, set_other h.b3 (by omega) _, set_other h.b4 (by omega) _⟩
theorem Five.set3 {W : World} {B : Nat} {k : Int} {c : Bool} {v : ByteArray} {n e : Int} (h : Five W B k c v n e) (n' : Int) : Five (W.setCell ⟨B + 3, 0, none⟩ (.int .i64 n')) B k c v n' e :=
 ⟨set_other h.b0 (by omega) _, set_other h.b1 (by omega) _, set_other h.b2 (by omega) _, block_set (i := 0) h.b3 _, set_other h.b4 (by omega) _⟩
theorem Five.set4 {W : World} {B : Nat} {k : Int} {c : Bool} {v : ByteArray} {n e : Int} (h : Five W B k c v n e) (e' : Int) : Five (W.setCell ⟨B + 4, 0, none⟩ (.int .i64 e')) B k c v n e' :=
 ⟨set_other h.b0 (by omega) _, set_other h.b1 (by omega) _, set_other h.b2 (by omega) _, set_other h.b3 (by omega) _, block_set (i := 0) h.b4 _⟩
/-- The deferred function where all is well: it leaves all as it is. -/
theorem back_ok (B : Nat) (k : Int) (c : Bool) (v : ByteArray) (n : Int) (u : FrameMode) (W : World) (h : Five W B k c v n 0) :
 CallsD Tryz.prog 104 #[ptr (B + 4), ptr B, ptr (B + 1), ptr (B + 2), ptr (B + 3)] u W fun x u' w' => u' = u ∧ (x = .returned (.tuple #[]) ∧ w' = W) := by
 obtain ⟨g0, g1, g2, g3, g4⟩ := h.cells
 clear h
 go_enter_d Tryz.func104, Tryz.ntmps104
 go_wp2
 go_end0
 exact ⟨rfl, rfl⟩
/-- Where there is an error: it takes all other answers back. -/
theorem back_no (B : Nat) (k : Int) (c : Bool) (v : ByteArray) (n e : Int) (he : e ≠ 0) (u : FrameMode) (W : World) (h : Five W B k c v n e) :
 CallsD Tryz.prog 104 #[ptr (B + 4), ptr B, ptr (B + 1), ptr (B + 2), ptr (B + 3)] u W fun x u' w' => u' = u ∧ (x = .returned (.tuple #[]) ∧ w' = (((W.setCell ⟨B, 0, none⟩ (.int .u8 0)).setCell ⟨B + 1, 0, none⟩ (.bool false)).setCell ⟨B + 2, 0, none⟩ (.string ⟨#[]⟩)).setCell ⟨B + 3, 0, none⟩ (.int .i64 0)) := by
 obtain ⟨g0, g1, g2, g3, g4⟩ := h.cells
 obtain ⟨f0, f1, f2, f3, f4⟩ := h.frees
 have hne : (e != 0) = true := by simpa using he
 clear h he
 go_enter_d Tryz.func104, Tryz.ntmps104
 go_wp2
 go_end0
 exact ⟨rfl, rfl⟩
theorem five_results (tmps : Array Value) (W : World) (B : Nat) (k : Int) (c : Bool) (v : ByteArray) (n e : Int) (h : Five W B k c v n e)
 (p2 : tmps[2]?.getD undef = ptr B) (p3 : tmps[3]?.getD undef = ptr (B + 1)) (p4 : tmps[4]?.getD undef = ptr (B + 2)) (p5 : tmps[5]?.getD undef = ptr (B + 3)) (p6 : tmps[6]?.getD undef = ptr (B + 4)) :
 (results Tryz.f83 tmps).run Tryz.prog W = .ok (.tuple #[.int .u8 k, .bool c, .string v, .int .i64 n, .int .i64 e]) W := by
 obtain ⟨g0, g1, g2, g3, g4⟩ := h.cells
 simp [results, Tryz.results83, go_sem, p2, p3, p4, p5, p6, g0, g1, g2, g3, g4]
/-- The door where all is well. -/
theorem door_ok {tmps : Array Value} {W w : World} {B : Nat} {k : Int} {c : Bool} {v : ByteArray} {n : Int} (h : Five W B k c v n 0) (hb : Below w.heap.size w W)
 (p2 : tmps[2]?.getD undef = ptr B) (p3 : tmps[3]?.getD undef = ptr (B + 1)) (p4 : tmps[4]?.getD undef = ptr (B + 2)) (p5 : tmps[5]?.getD undef = ptr (B + 3)) (p6 : tmps[6]?.getD undef = ptr (B + 4)) :
 bodyPostD Tryz.prog Tryz.f83 (fun x w' => x = .returned (.tuple #[.int .u8 k, .bool c, .string v, .int .i64 n, .int .i64 0]) ∧ Below w.heap.size w w') Exit.ret
  { tmps := tmps, defers := [{ target := .fn (.func 104) #[ptr (B + 4), ptr B, ptr (B + 1), ptr (B + 2), ptr (B + 3)], args := #[] }] } W := by
 refine leaves_cons (f := 104) (args := #[ptr (B + 4), ptr B, ptr (B + 1), ptr (B + 2), ptr (B + 3)]) (by simp) (by simp [go_sem]) ?_
 refine (back_ok B k c v n .returning W h).mono ?_
 rintro e u' w'' ⟨rfl, rfl, rfl⟩
 exact ⟨_, five_results tmps _ B k c v n 0 h p2 p3 p4 p5 p6, rfl, hb⟩
/-- The door where there is an error. -/
theorem door_no {tmps : Array Value} {W w : World} {B : Nat} {k : Int} {c : Bool} {v : ByteArray} {n : Int} {e : Nat} (he : (e : Int) ≠ 0) (h : Five W B k c v n e) (hb : Below w.heap.size w W) (hB : w.heap.size ≤ B)
 (p2 : tmps[2]?.getD undef = ptr B) (p3 : tmps[3]?.getD undef = ptr (B + 1)) (p4 : tmps[4]?.getD undef = ptr (B + 2)) (p5 : tmps[5]?.getD undef = ptr (B + 3)) (p6 : tmps[6]?.getD undef = ptr (B + 4)) :
 bodyPostD Tryz.prog Tryz.f83 (fun x w' => x = .returned (gotV (bad e)) ∧ Below w.heap.size w w') Exit.ret
  { tmps := tmps, defers := [{ target := .fn (.func 104) #[ptr (B + 4), ptr B, ptr (B + 1), ptr (B + 2), ptr (B + 3)], args := #[] }] } W := by
 refine leaves_cons (f := 104) (args := #[ptr (B + 4), ptr B, ptr (B + 1), ptr (B + 2), ptr (B + 3)]) (by simp) (by simp [go_sem]) ?_
 refine (back_no B k c v n e he .returning W h).mono ?_
 rintro x u' w'' ⟨rfl, rfl, rfl⟩
 exact ⟨_, five_results tmps _ B 0 false ⟨#[]⟩ 0 e ((((h.set0 0).set1 false).set2 ⟨#[]⟩).set3 0) p2 p3 p4 p5 p6, rfl, ((((hb.setCell hB _).setCell (by simp; omega) _).setCell (by simp; omega) _).setCell (by simp; omega) _)⟩
theorem five_new (w : World) (k : Int) (c : Bool) (v : ByteArray) (n e : Int) : Five (((((w.alloc (.cells #[.int .u8 k] 5)).alloc (.cells #[.bool c] 4)).alloc (.cells #[.string v] 9)).alloc (.cells #[.int .i64 n] 3)).alloc (.cells #[.int .i64 e] 57)) w.heap.size k c v n e :=
 ⟨nest w [_, _, _, _, _] 0 _ rfl, nest w [_, _, _, _, _] 1 _ rfl, nest w [_, _, _, _, _] 2 _ rfl, nest w [_, _, _, _, _] 3 _ rfl, nest w [_, _, _, _, _] 4 _ rfl⟩
theorem fget_empty (s : ByteArray) (hs : s.size ≤ 281474976710656) (e : Nat) (h : (s.size = 0 ∧ e = 20) ∨ (∃ h : 0 < s.size, s[0].toNat % 2 = 0 ∧ e = 70)) (w : World) :
 Calls Tryz.prog 83 #[.string s] w fun x w' => x = .returned (gotV (bad e)) ∧ Below w.heap.size w w' := by
 have CT := Lib.hid (fun w => getType_no s (by omega) e h w)
 have hne : ((e : Int) != 0) = true := by rcases h with ⟨_, rfl⟩ | ⟨_, _, rfl⟩ <;> decide
 have HE : Hid ((e : Int) ≠ 0) := Lib.hid (by rcases h with ⟨_, rfl⟩ | ⟨_, _, rfl⟩ <;> decide)
 have hmf : ∀ (fn : Fn) (first cap : Array Value) (w : World), (Instr.makeFunc fn first cap).run Tryz.prog w = .ok (.func fn first cap) w := fun _ _ _ _ => rfl
 clear h
 go_enter_defers Tryz.func83, Tryz.ntmps83
 go_wp2_with (go_at_call 105; ((with_reducible refine (CT.out _).mono ?_); rintro e w' ⟨rfl, rfl⟩))
 exact door_no HE.out (five_new w 0 false ⟨#[]⟩ 0 e) (nest_below w [_, _, _, _, _]) (Nat.le_refl _) rfl rfl rfl rfl rfl
/-- The ways behind a whole type octet. -/
theorem fget_len (s : ByteArray) (hs : s.size ≤ 281474976710656) (h0 : 0 < s.size) (ho : s[0].toNat % 2 = 1) (t : ByteArray) (ht : s.extract 1 s.size = t) (e : Nat) (he : e ≠ 0)
 (CL : ∀ w, Calls Tryz.prog 106 #[.string t] w fun x w' => x = .returned (.tuple #[.int .i64 0, .int .i64 0, .int .i64 (e : Int)]) ∧ Below w.heap.size w w') (w : World) :
 Calls Tryz.prog 83 #[.string s] w fun x w' => x = .returned (gotV (bad e)) ∧ Below w.heap.size w w' := by
 have CT := Lib.hid (fun w => getType_ok s (by omega) h0 ho w)
 have hne : ((e : Int) != 0) = true := by simpa using he
 have HE : Hid ((e : Int) ≠ 0) := Lib.hid (by omega)
 have HL := Lib.hid CL
 have hmf : ∀ (fn : Fn) (first cap : Array Value) (w : World), (Instr.makeFunc fn first cap).run Tryz.prog w = .ok (.func fn first cap) w := fun _ _ _ _ => rfl
 generalize s[0].toNat / 4 = k at CT
 generalize decide (s[0].toNat / 2 % 2 = 1) = c at CT
 have h1 : ¬ s.size = 1 → 1 ≤ s.size := fun _ => h0
 clear he CL ho
 go_enter_defers Tryz.func83, Tryz.ntmps83
 go_wp2_with (first
  | (go_at_call 105; ((with_reducible refine (CT.out _).mono ?_); rintro e w1 ⟨rfl, hb⟩; have HF := Lib.hid ((five_new w 0 false ⟨#[]⟩ 0 0).below hb); have HB := Lib.hid (below_on (nest_below w [_, _, _, _, _]) hb); obtain ⟨g0, g1, g2, g3, g4⟩ := HF.out.cells; obtain ⟨f0, f1, f2, f3, f4⟩ := HF.out.frees; clear hb))
  | (go_at_call 106; ((with_reducible refine (HL.out _).mono ?_); rintro e w2 ⟨rfl, hb⟩; have HF2 := Lib.hid ((((HF.out.set0 k).set1 c).set4 0).below hb); have HB2 := Lib.hid (below_on (((HB.out.setCell (Nat.le_refl _) _).setCell (by simp) _).setCell (by simp; omega) _) hb); clear hb g0 g1 g2 g3 g4 f0 f1 f2 f3 f4; obtain ⟨g0, g1, g2, g3, g4⟩ := HF2.out.cells; obtain ⟨f0, f1, f2, f3, f4⟩ := HF2.out.frees)))
 exact door_no HE.out (HF2.out.set4 e) (HB2.out.setCell (by simp; omega) _) (Nat.le_refl _) rfl rfl rfl rfl rfl
theorem clone (s : ByteArray) (w : World) (hlim : s.size ≤ 281474976710656) :
 Calls Tryz.prog 37 #[.string s] w fun e w' => e = .returned (.string s) ∧ Below w.heap.size w w' := by
 have HC := Lib.hid (fun w => Tryz.stringslite_Clone s w hlim)
 go_enter Tryz.func37, Tryz.ntmps37
 go_wp2_with (go_at_call 61; ((with_reducible refine (HC.out _).mono ?_); rintro e w1 ⟨rfl, hb⟩; have HB := Lib.hid hb; clear hb))
 go_ret
 exact ⟨rfl, HB.out⟩
/-- The value's octets are not all there. -/
theorem fget_cut (s : ByteArray) (hs : s.size ≤ 281474976710656) (h0 : 0 < s.size) (ho : s[0].toNat % 2 = 1) (t : ByteArray) (ht : s.extract 1 s.size = t) (m : Nat) (hm : m < 128) (hz : s.size < 2 + m)
 (CL : ∀ w, Calls Tryz.prog 106 #[.string t] w fun x w' => x = .returned (.tuple #[.int .i64 (m : Int), .int .i64 1, .int .i64 0]) ∧ Below w.heap.size w w') (w : World) :
 Calls Tryz.prog 83 #[.string s] w fun x w' => x = .returned (gotV (bad 20)) ∧ Below w.heap.size w w' := by
 have CT := Lib.hid (fun w => getType_ok s (by omega) h0 ho w)
 have HL := Lib.hid CL
 have hmf : ∀ (fn : Fn) (first cap : Array Value) (w : World), (Instr.makeFunc fn first cap).run Tryz.prog w = .ok (.func fn first cap) w := fun _ _ _ _ => rfl
 generalize s[0].toNat / 4 = k at CT
 generalize decide (s[0].toNat / 2 % 2 = 1) = c at CT
 have hd : (s.size : Int) < 1 + 1 + m := by omega
 have hd2 : (s.size : Int) < 2 + m := by omega
 have h1 : ¬ s.size = 1 → 1 ≤ s.size := fun _ => h0
 clear CL ho hz
 go_enter_defers Tryz.func83, Tryz.ntmps83
 go_wp2_with (first
  | (go_at_call 105; ((with_reducible refine (CT.out _).mono ?_); rintro e w1 ⟨rfl, hb⟩; have HF := Lib.hid ((five_new w 0 false ⟨#[]⟩ 0 0).below hb); have HB := Lib.hid (below_on (nest_below w [_, _, _, _, _]) hb); obtain ⟨g0, g1, g2, g3, g4⟩ := HF.out.cells; obtain ⟨f0, f1, f2, f3, f4⟩ := HF.out.frees; clear hb))
  | (go_at_call 106; ((with_reducible refine (HL.out _).mono ?_); rintro e w2 ⟨rfl, hb⟩; have HF2 := Lib.hid ((((HF.out.set0 k).set1 c).set4 0).below hb); have HB2 := Lib.hid (below_on (((HB.out.setCell (Nat.le_refl _) _).setCell (by simp) _).setCell (by simp; omega) _) hb); clear hb g0 g1 g2 g3 g4 f0 f1 f2 f3 f4; obtain ⟨g0, g1, g2, g3, g4⟩ := HF2.out.cells; obtain ⟨f0, f1, f2, f3, f4⟩ := HF2.out.frees)))
 exact door_no (e := 20) (by decide) (((HF2.out.set4 0).set3 (2 + m)).set4 20) (((HB2.out.setCell (by simp; omega) _).setCell (by simp; omega) _).setCell (by simp; omega) _) (Nat.le_refl _) rfl rfl rfl rfl rfl
/-- A whole message. -/
theorem fget_ok (s : ByteArray) (hs : s.size ≤ 281474976710656) (h0 : 0 < s.size) (ho : s[0].toNat % 2 = 1) (t : ByteArray) (ht : s.extract 1 s.size = t) (m : Nat) (hm : m < 128) (hz : 2 + m ≤ s.size) (r : ByteArray) (hr : s.extract 2 (2 + m) = r)
 (CL : ∀ w, Calls Tryz.prog 106 #[.string t] w fun x w' => x = .returned (.tuple #[.int .i64 (m : Int), .int .i64 1, .int .i64 0]) ∧ Below w.heap.size w w') (w : World) :
 Calls Tryz.prog 83 #[.string s] w fun x w' => x = .returned (gotV ⟨s[0].toNat / 4, decide (s[0].toNat / 2 % 2 = 1), r, 2 + m, 0⟩) ∧ Below w.heap.size w w' := by
 have CT := Lib.hid (fun w => getType_ok s (by omega) h0 ho w)
 have HL := Lib.hid CL
 have hrs : r.size ≤ 281474976710656 := by rw [← hr, ByteArray.size_extract]; omega
 have CC := Lib.hid (fun w => clone r w hrs)
 have hmf : ∀ (fn : Fn) (first cap : Array Value) (w : World), (Instr.makeFunc fn first cap).run Tryz.prog w = .ok (.func fn first cap) w := fun _ _ _ _ => rfl
 generalize s[0].toNat / 4 = k at CT ⊢
 generalize decide (s[0].toNat / 2 % 2 = 1) = c at CT ⊢
 have hd : ¬ (s.size : Int) < 1 + 1 + m := by omega
 have hd2 : ¬ (s.size : Int) < 2 + m := by omega
 have hd3 : (2 + (m : Int)).toNat = 2 + m := by omega
 have HN : Hid (((2 + m : Nat) : Int) = 2 + (m : Int)) := Lib.hid (by omega)
 have h1 : ¬ s.size = 1 → 1 ≤ s.size := fun _ => h0
 have h2 : (2 : Int) ≤ 2 + m := by omega
 have h3 : (2 + m : Int) ≤ s.size := by omega
 clear CL ho hrs
 go_enter_defers Tryz.func83, Tryz.ntmps83
 go_wp2_with (first
  | (go_at_call 105; ((with_reducible refine (CT.out _).mono ?_); rintro e w1 ⟨rfl, hb⟩; have HF := Lib.hid ((five_new w 0 false ⟨#[]⟩ 0 0).below hb); have HB := Lib.hid (below_on (nest_below w [_, _, _, _, _]) hb); obtain ⟨g0, g1, g2, g3, g4⟩ := HF.out.cells; obtain ⟨f0, f1, f2, f3, f4⟩ := HF.out.frees; clear hb))
  | (go_at_call 106; ((with_reducible refine (HL.out _).mono ?_); rintro e w2 ⟨rfl, hb⟩; have HF2 := Lib.hid ((((HF.out.set0 k).set1 c).set4 0).below hb); have HB2 := Lib.hid (below_on (((HB.out.setCell (Nat.le_refl _) _).setCell (by simp) _).setCell (by simp; omega) _) hb); clear hb g0 g1 g2 g3 g4 f0 f1 f2 f3 f4; obtain ⟨g0, g1, g2, g3, g4⟩ := HF2.out.cells; obtain ⟨f0, f1, f2, f3, f4⟩ := HF2.out.frees))
  | (go_at_call 37; ((with_reducible refine (CC.out _).mono ?_); rintro e w3 ⟨rfl, hb⟩; have HF3 := Lib.hid (((HF2.out.set4 0).set3 (2 + m)).below hb); have HB3 := Lib.hid (below_on ((HB2.out.setCell (by simp; omega) _).setCell (by simp; omega) _) hb); clear hb g0 g1 g2 g3 g4 f0 f1 f2 f3 f4; obtain ⟨g0, g1, g2, g3, g4⟩ := HF3.out.cells; obtain ⟨f0, f1, f2, f3, f4⟩ := HF3.out.frees)))
 unfold gotV
 rw [HN.out]
 exact door_ok (HF3.out.set2 r) (HB3.out.setCell (by simp; omega) _) rfl rfl rfl rfl rfl
/-- What Get answers, of any octets. -/
theorem fget (s : ByteArray) (hs : s.size ≤ 281474976710656) (w : World) :
 Calls Tryz.prog 83 #[.string s] w fun x w' => x = .returned (gotV (got s)) ∧ Below w.heap.size w w' := by
 by_cases h0 : s.size = 0
 · rw [got_nil h0]; exact fget_empty s hs 20 (.inl ⟨h0, rfl⟩) w
 have h1 : 0 < s.size := by omega
 rcases Nat.mod_two_eq_zero_or_one s[0].toNat with he | ho
 · rw [got_even h1 he]; exact fget_empty s hs 70 (.inr ⟨h1, he, rfl⟩) w
 have hts : (s.extract 1 s.size).size ≤ maxLen := by rw [ext_size]; unfold maxLen; omega
 rcases got_ways h1 ho _ rfl with ⟨ht, hg⟩ | ⟨m, h2, h3, ht, hl, hz, hg⟩ | ⟨m, h2, h3, ht, hl, hz, hg⟩ | ⟨m, h2, h3, ht, hg⟩ | ⟨m, h2, h3, ht, hg⟩
 · rw [hg]
   exact fget_len s hs h1 ho _ rfl 20 (by decide) (fun w => (getLength_short _ hts ht w).mono fun _ _ ⟨he, hw⟩ => ⟨he, hw ▸ Below.refl _ _⟩) w
 · rw [hg]
   exact fget_cut s hs h1 ho _ rfl m h2 hz (fun w => getLength_near _ hts m 1 h2 (by decide) h3 ht _ rfl 0 (.inl ⟨hl.symm, rfl⟩) w) w
 · rw [hg]
   exact fget_ok s hs h1 ho _ rfl m h2 hz _ rfl (fun w => getLength_near _ hts m 1 h2 (by decide) h3 ht _ rfl 0 (.inl ⟨hl.symm, rfl⟩) w) w
 · rw [hg]
   refine fget_len s hs h1 ho _ rfl 70 (by decide) (fun w => getLength_near _ hts m 2 h2 (by decide) h3 ht _ rfl 70 (.inr ⟨?_, rfl⟩) w) w
   intro e
   have := congrArg ByteArray.size e
   rw [len_one (by omega) (by omega), ByteArray.size_extract] at this
   have h4 : (⟨#[UInt8.ofNat (2 * (m : Int).toNat + 1)]⟩ : ByteArray).size = 1 := rfl
   rw [h4] at this
   omega
 · rw [hg]
   exact fget_len s hs h1 ho _ rfl 70 (by decide) (fun w => getLength_far _ hts m h2 h3 ht w) w
end Go.Proofs.YtakkhdammmcjcaaGreatDoor.Tlv

/-
  Layer 22, put together: PnSmall, PnRef, PnPut, MscOctet, MscBits, MscSmall, MscPut. Conditions: as each theorem names them.
-/
import Derived.Test.YtakkhdammmcjcaaGreatDoorK04
import Derived.Test.YtakkhdammmcjcaaGreatDoorK08
import Derived.Test.YtakkhdammmcjcaaGreatDoorK01
import Derived.Deep.RegionHeld
namespace Go.Proofs.YtakkhdammmcjcaaGreatDoor.Pn
open Go.RowKit Base Mem
theorem bounded_results (tmps : Array Value) (W : World) (b : Nat) (p : Pr) (h : Cells W b p) (p2 : tmps[2]?.getD undef = ptr b) :
 (results Tryz.f112 tmps).run Tryz.prog W = .ok (pv p) W := by
 obtain ⟨g0, g1, g2, g3, g4, g5, g6, g7⟩ := h
 simp [results, Tryz.results112, go_sem, p2, g0, g1, g2, g3, g4, g5, g6, g7]
theorem fbounded (p : Pr) (w : World) :
 Calls Tryz.prog 112 #[pv p] w fun x w' => x = .returned (pv (bounded p)) ∧ Below w.heap.size w w' := by
 go_enter Tryz.func112, Tryz.ntmps112
 go_wp2
 exact bodyPost_ret (bounded_results _ _ (w.heap.size + 1) (bounded p) (cells_of (nest w [_, _] 1 _ rfl)) rfl) rfl ⟨rfl, nest_below w [_, _]⟩
theorem fwithin' (n a b : Int) (x : Bool) (hx : x = decide (a ≤ n ∧ n ≤ b)) (w : World) :
 Calls Tryz.prog 97 #[.int .i64 n, .int .i64 a, .int .i64 b] w fun e w' => e = .returned (.bool x) ∧ w = w' := by
 have HX := Lib.hid hx
 clear hx
 go_enter Tryz.func97, Tryz.ntmps97
 go_wp2
 all_goals go_ret
 all_goals exact ⟨ret_bool (by rw [HX.out, Bool.eq_iff_iff]; simp; omega), rfl⟩
theorem fwithin (n a b : Int) (w : World) :
 Calls Tryz.prog 97 #[.int .i64 n, .int .i64 a, .int .i64 b] w fun x w' => x = .returned (.bool (decide (a ≤ n ∧ n ≤ b))) ∧ w = w' := fwithin' n a b _ rfl w
theorem agree_results (tmps : Array Value) (W : World) (b : Nat) (p : Pr) (h : Cells W b p) (p4 : tmps[4]?.getD undef = ptr b) :
 (results Tryz.f89 tmps).run Tryz.prog W = .ok (pv p) W := by
 obtain ⟨g0, g1, g2, g3, g4, g5, g6, g7⟩ := h
 simp [results, Tryz.results89, go_sem, p4, g0, g1, g2, g3, g4, g5, g6, g7]
theorem fagree (o a : Pr) (w : World) :
 Calls Tryz.prog 89 #[pv o, pv a] w fun x w' => x = .returned (pv (agree o a)) ∧ Below w.heap.size w w' := by
 go_enter Tryz.func89, Tryz.ntmps89
 go_wp2
 exact bodyPost_ret (agree_results _ _ (w.heap.size + 2) (agree o a) (cells_of (nest w [_, _, _] 2 _ rfl)) rfl) rfl ⟨rfl, nest_below w [_, _, _]⟩
theorem ragree_results (tmps : Array Value) (W : World) (b : Nat) (p : Pr) (h : Cells W b p) (p4 : tmps[4]?.getD undef = ptr b) :
 (results Tryz.f81 tmps).run Tryz.prog W = .ok (pv p) W := by
 obtain ⟨g0, g1, g2, g3, g4, g5, g6, g7⟩ := h
 simp [results, Tryz.results81, go_sem, p4, g0, g1, g2, g3, g4, g5, g6, g7]
theorem ragree (o a : Pr) (w : World) :
 Calls Tryz.prog 81 #[pv o, pv a] w fun x w' => x = .returned (pv (agree o a)) ∧ Below w.heap.size w w' := by
 go_enter Tryz.func81, Tryz.ntmps81
 go_wp2
 exact bodyPost_ret (ragree_results _ _ (w.heap.size + 2) (agree o a) (cells_of (nest w [_, _, _] 2 _ rfl)) rfl) rfl ⟨rfl, nest_below w [_, _, _]⟩
end Go.Proofs.YtakkhdammmcjcaaGreatDoor.Pn
namespace Go.Proofs.YtakkhdammmcjcaaGreatDoor.Pn
open Go.RowKit Base Mem
theorem rmay (p : Pr) (hp : p.In) (w : World) :
 Calls Tryz.prog 73 #[pv p] w fun x w' => x = .returned (.bool (may p)) ∧ Below w.heap.size w w' := by
 obtain ⟨b1, h1⟩ : ∃ b, b = decide (1 ≤ p.d ∧ p.d ≤ 63) := ⟨_, rfl⟩
 obtain ⟨b5, h5⟩ : ∃ b, b = decide (1 ≤ p.t ∧ p.t ≤ 255) := ⟨_, rfl⟩
 obtain ⟨b6, h6⟩ : ∃ b, b = decide (1 ≤ p.n ∧ p.n ≤ 65535) := ⟨_, rfl⟩
 obtain ⟨b7, h7⟩ : ∃ b, b = decide (0 ≤ p.z ∧ p.z ≤ 255) := ⟨_, rfl⟩
 obtain ⟨b8, h8⟩ : ∃ b, b = decide (1 ≤ p.k ∧ p.k ≤ 7) := ⟨_, rfl⟩
 have HM : Hid (may p = (b1 && decide (p.f ≤ 2) && decide (p.c ≤ 3) && decide (p.r ≤ 63) && b5 && b6 && b7 && b8)) := Lib.hid (by unfold may; rw [h1, h5, h6, h7, h8])
 have C1 := Lib.hid (fun w => fwithin' _ _ _ _ h1 w)
 have C5 := Lib.hid (fun w => fwithin' _ _ _ _ h5 w)
 have C6 := Lib.hid (fun w => fwithin' _ _ _ _ h6 w)
 have C7 := Lib.hid (fun w => fwithin' _ _ _ _ h7 w)
 have C8 := Lib.hid (fun w => fwithin' _ _ _ _ h8 w)
 clear h1 h5 h6 h7 h8
 obtain ⟨d0, d1⟩ := hp.d
 clear hp
 rw [HM.out]
 go_enter Tryz.func73, Tryz.ntmps73
 go_wp2_with (go_at_call 97; first
  | ((with_reducible refine (C1.out _).mono ?_); rintro e w' ⟨rfl, rfl⟩)
  | ((with_reducible refine (C5.out _).mono ?_); rintro e w' ⟨rfl, rfl⟩)
  | ((with_reducible refine (C6.out _).mono ?_); rintro e w' ⟨rfl, rfl⟩)
  | ((with_reducible refine (C7.out _).mono ?_); rintro e w' ⟨rfl, rfl⟩)
  | ((with_reducible refine (C8.out _).mono ?_); rintro e w' ⟨rfl, rfl⟩))
 all_goals go_ret
 all_goals exact ⟨ret_bool (by first | (simp_all; done) | (simp_all; intros; omega)), nest_below w [_]⟩
theorem rlowers (a b : Pr) (w : World) :
 Calls Tryz.prog 103 #[pv a, pv b] w fun x w' => x = .returned (.bool (lowers a b)) ∧ Below w.heap.size w w' := by
 obtain ⟨x, hx⟩ : ∃ x, lowers a b = x := ⟨_, rfl⟩
 have HX := Lib.hid hx
 rw [hx]
 clear hx
 go_enter Tryz.func103, Tryz.ntmps103
 go_wp2
 all_goals go_ret
 all_goals exact ⟨ret_bool (by rw [← HX.out]; unfold lowers; first | (simp_all; done) | (simp_all; intros; omega)), nest_below w [_, _]⟩
end Go.Proofs.YtakkhdammmcjcaaGreatDoor.Pn
namespace Go.Proofs.YtakkhdammmcjcaaGreatDoor.Pn
open Go.RowKit Base Mem
theorem fmay (p : Pr) (w : World) :
 Calls Tryz.prog 91 #[pv p] w fun x w' => x = .returned (.bool (may p)) ∧ Below w.heap.size w w' := by
 have CB := Lib.hid (fun w => fbounded p w)
 have HE : ∀ w, (binOp .eql 25 (pv p) (pv (bounded p))).run Tryz.prog w = .ok (.bool (may p)) w := fun w => by rw [run_eqP, may_bounded]
 generalize bounded p = q at CB HE
 generalize may p = b at HE
 go_enter Tryz.func91, Tryz.ntmps91
 go_wp2
 have HB0 : Hid (Below w.heap.size w (w.alloc (pO p 25))) := Lib.hid (nest_below w [pO p 25])
 have GS : Cells (w.alloc (pO p 25)) w.heap.size p := cells_of (nest w [_] 0 _ rfl)
 generalize w.alloc (pO p 25) = W at *
 obtain ⟨g0, g1, g2, g3, g4, g5, g6, g7⟩ := GS
 go_region_held3 (fun w' => w'.cell? ⟨w.heap.size, 0, none⟩ = some (.int .u8 p.d) ∧ w'.cell? ⟨w.heap.size, 1, none⟩ = some (.int .u8 p.f) ∧ w'.cell? ⟨w.heap.size, 2, none⟩ = some (.int .u8 p.c) ∧ w'.cell? ⟨w.heap.size, 3, none⟩ = some (.int .u8 p.r) ∧ w'.cell? ⟨w.heap.size, 4, none⟩ = some (.int .i64 p.t) ∧ w'.cell? ⟨w.heap.size, 5, none⟩ = some (.int .i64 p.n) ∧ w'.cell? ⟨w.heap.size, 6, none⟩ = some (.int .i64 p.z) ∧ w'.cell? ⟨w.heap.size, 7, none⟩ = some (.int .i64 p.k) ∧ Below W.heap.size W w')
  (first | exact ⟨g0, g1, g2, g3, g4, g5, g6, g7, (Below.refl _ _).drew⟩ | exact ⟨cell_below g0 HB1.out, cell_below g1 HB1.out, cell_below g2 HB1.out, cell_below g3 HB1.out, cell_below g4 HB1.out, cell_below g5 HB1.out, cell_below g6 HB1.out, cell_below g7 HB1.out, HB1.out⟩)
  ((go_at_call 112; ((with_reducible refine (CB.out _).mono ?_); rintro e w1 ⟨rfl, hb⟩; have HB1 := Lib.hid (below_on ((Below.refl W.heap.size W).drew) hb); clear hb)))
 rename_i hX
 go_wp2
 go_ret
 exact ⟨rfl, below_on HB0.out hX.2.2.2.2.2.2.2.2⟩
theorem fput_ok (p : Pr) (hp : p.In) (hm : p.May) (CM : ∀ w, Calls Tryz.prog 91 #[pv p] w fun x w' => x = .returned (.bool true) ∧ Below w.heap.size w w') (w : World) :
 Calls Tryz.prog 68 #[pv p] w fun x w' => x = .returned (.tuple #[.string (octets p), .int .i64 0]) ∧ Below w.heap.size w w' := by
 obtain ⟨S, hS⟩ : ∃ S, octets p = S := ⟨_, rfl⟩
 have hcv : ∀ (W : World) (b : Nat), W.cell? ⟨b, 0, none⟩ = some (.int .u8 p.d) → W.cell? ⟨b, 1, none⟩ = some (.int .u8 (p.f + 16 * p.c)) → W.cell? ⟨b, 2, none⟩ = some (.int .u8 p.r) → W.cell? ⟨b, 3, none⟩ = some (.int .u8 p.t) → W.cell? ⟨b, 4, none⟩ = some (.int .u8 (p.n % 256)) → W.cell? ⟨b, 5, none⟩ = some (.int .u8 (p.n / 256)) → W.cell? ⟨b, 6, none⟩ = some (.int .u8 p.z) → W.cell? ⟨b, 7, none⟩ = some (.int .u8 p.k) → (convert 126 9 (.slice (some ⟨b, 0, none⟩) 8 8)).run Tryz.prog W = .ok (.string S) W := fun W b h0 h1 h2 h3 h4 h5 h6 h7 => by rw [← hS]; exact conv_at8 W b _ _ _ _ _ _ _ _ h0 h1 h2 h3 h4 h5 h6 h7
 rw [hS]
 have CMh := Lib.hid CM
 obtain ⟨⟨m1, n1⟩, m2, m3, m4, ⟨m5, n5⟩, ⟨m6, n6⟩, ⟨m7, n7⟩, ⟨m8, n8⟩⟩ := hm
 obtain ⟨⟨i1, j1⟩, ⟨i2, j2⟩, ⟨i3, j3⟩, ⟨i4, j4⟩⟩ := hp
 clear CM hS
 go_enter Tryz.func68, Tryz.ntmps68
 go_wp2_with (go_at_call 91; ((with_reducible refine (CMh.out _).mono ?_); rintro e w1 ⟨rfl, hb⟩; obtain ⟨g0, g1, g2, g3, g4, g5, g6, g7⟩ := cells_of (p := p) (fresh hb); have HB := Lib.hid (on_new (Below.refl _ _) hb); clear hb))
 go_ret2
 exact ⟨rfl, HB.out.alloc HB.out.size _⟩
theorem fput_no (p : Pr) (CM : ∀ w, Calls Tryz.prog 91 #[pv p] w fun x w' => x = .returned (.bool false) ∧ Below w.heap.size w w') (w : World) :
 Calls Tryz.prog 68 #[pv p] w fun x w' => x = .returned (.tuple #[.string ⟨#[]⟩, .int .i64 2]) ∧ Below w.heap.size w w' := by
 have CMh := Lib.hid CM
 clear CM
 go_enter Tryz.func68, Tryz.ntmps68
 go_wp2_with (go_at_call 91; ((with_reducible refine (CMh.out _).mono ?_); rintro e w1 ⟨rfl, hb⟩; have HB := Lib.hid (on_new (Below.refl _ _) hb); clear hb))
 go_ret2
 exact ⟨rfl, HB.out⟩
theorem fput (p : Pr) (hp : p.In) (w : World) :
 Calls Tryz.prog 68 #[pv p] w fun x w' => x = .returned (.tuple #[.string (putS p), .int .i64 (putE p)]) ∧ Below w.heap.size w w' := by
 unfold putS putE
 cases hm : may p
 · exact fput_no p (fun w => by have := fmay p w; rw [hm] at this; exact this) w
 · exact fput_ok p hp ((may_iff p).1 hm) (fun w => by have := fmay p w; rw [hm] at this; exact this) w
theorem rput_ok (p : Pr) (hp : p.In) (hm : p.May) (CM : ∀ w, Calls Tryz.prog 73 #[pv p] w fun x w' => x = .returned (.bool true) ∧ Below w.heap.size w w') (w : World) :
 Calls Tryz.prog 76 #[pv p] w fun x w' => x = .returned (.tuple #[.string (octets p), .int .i64 0]) ∧ Below w.heap.size w w' := by
 obtain ⟨S, hS⟩ : ∃ S, octets p = S := ⟨_, rfl⟩
 have hcv : ∀ (W : World) (b : Nat), W.cell? ⟨b, 0, none⟩ = some (.int .u8 p.d) → W.cell? ⟨b, 1, none⟩ = some (.int .u8 (p.f + 16 * p.c)) → W.cell? ⟨b, 2, none⟩ = some (.int .u8 p.r) → W.cell? ⟨b, 3, none⟩ = some (.int .u8 p.t) → W.cell? ⟨b, 4, none⟩ = some (.int .u8 (p.n % 256)) → W.cell? ⟨b, 5, none⟩ = some (.int .u8 (p.n / 256)) → W.cell? ⟨b, 6, none⟩ = some (.int .u8 p.z) → W.cell? ⟨b, 7, none⟩ = some (.int .u8 p.k) → (convert 126 9 (.slice (some ⟨b, 0, none⟩) 8 8)).run Tryz.prog W = .ok (.string S) W := fun W b h0 h1 h2 h3 h4 h5 h6 h7 => by rw [← hS]; exact conv_at8 W b _ _ _ _ _ _ _ _ h0 h1 h2 h3 h4 h5 h6 h7
 rw [hS]
 have CMh := Lib.hid CM
 obtain ⟨⟨m1, n1⟩, m2, m3, m4, ⟨m5, n5⟩, ⟨m6, n6⟩, ⟨m7, n7⟩, ⟨m8, n8⟩⟩ := hm
 obtain ⟨⟨i1, j1⟩, ⟨i2, j2⟩, ⟨i3, j3⟩, ⟨i4, j4⟩⟩ := hp
 clear CM hS
 go_enter Tryz.func76, Tryz.ntmps76
 go_wp2_with (go_at_call 73; ((with_reducible refine (CMh.out _).mono ?_); rintro e w1 ⟨rfl, hb⟩; obtain ⟨g0, g1, g2, g3, g4, g5, g6, g7⟩ := cells_of (p := p) (fresh hb); have HB := Lib.hid (on_new (Below.refl _ _) hb); clear hb))
 go_ret2
 exact ⟨rfl, HB.out.alloc HB.out.size _⟩
theorem rput_no (p : Pr) (CM : ∀ w, Calls Tryz.prog 73 #[pv p] w fun x w' => x = .returned (.bool false) ∧ Below w.heap.size w w') (w : World) :
 Calls Tryz.prog 76 #[pv p] w fun x w' => x = .returned (.tuple #[.string ⟨#[]⟩, .int .i64 2]) ∧ Below w.heap.size w w' := by
 have CMh := Lib.hid CM
 clear CM
 go_enter Tryz.func76, Tryz.ntmps76
 go_wp2_with (go_at_call 73; ((with_reducible refine (CMh.out _).mono ?_); rintro e w1 ⟨rfl, hb⟩; have HB := Lib.hid (on_new (Below.refl _ _) hb); clear hb))
 go_ret2
 exact ⟨rfl, HB.out⟩
theorem rput (p : Pr) (hp : p.In) (w : World) :
 Calls Tryz.prog 76 #[pv p] w fun x w' => x = .returned (.tuple #[.string (putS p), .int .i64 (putE p)]) ∧ Below w.heap.size w w' := by
 unfold putS putE
 cases hm : may p
 · exact rput_no p (fun w => by have := rmay p hp w; rw [hm] at this; exact this) w
 · exact rput_ok p hp ((may_iff p).1 hm) (fun w => by have := rmay p hp w; rw [hm] at this; exact this) w
end Go.Proofs.YtakkhdammmcjcaaGreatDoor.Pn
namespace Go.Proofs.YtakkhdammmcjcaaGreatDoor.Msc
open Go.RowKit Base Mem
def acc (B : Nat → Bool) : Nat → Nat
 | 0 => 0
 | k + 1 => acc B k + 2 ^ k * (B k).toNat
theorem acc_lt (B : Nat → Bool) (k : Nat) : acc B k < 2 ^ k := by
 induction k with
 | zero => exact Nat.one_pos
 | succ k ih =>
  show acc B k + 2 ^ k * (B k).toNat < 2 ^ (k + 1)
  have := Bool.toNat_le (B k)
  have h2 : 2 ^ k * (B k).toNat ≤ 2 ^ k * 1 := Nat.mul_le_mul_left _ this
  rw [Nat.pow_succ]
  omega
theorem or_bit (k : Nat) (hk : k < 8) (a : Nat) (ha : a < 2 ^ k) : bits .or .u8 (a : Int) (2 ^ k % 256) = ((a + 2 ^ k : Nat) : Int) := by
 have : ∀ (k : Fin 8) (a : Fin (2 ^ k.val)), bits .or .u8 (a.val : Int) (2 ^ k.val % 256) = ((a.val + 2 ^ k.val : Nat) : Int) := by decide +kernel
 exact this ⟨k, hk⟩ ⟨a, ha⟩
theorem foctet (b : Nat) (B : Nat → Bool) (w : World) (h : ∀ k, k < 8 → w.cell? ⟨b, k, none⟩ = some (.bool (B k))) :
 Calls Tryz.prog 113 #[.slice (some ⟨b, 0, none⟩) 8 8] w fun x w' => x = .returned (.int .u8 (acc B 8 : Int)) ∧ w = w' := by
 have H := Lib.hid h
 clear h
 go_enter Tryz.func113, Tryz.ntmps113
 go_wp2
 go_loopw [3, 8] (fun o i wr => ∃ k : Nat, k ≤ 8 ∧ i = .int .i64 (k : Int) ∧ o = .int .u8 (acc B k : Int) ∧ w = wr) (fun _ i _ => 8 - (intOf i).toNat)
 case atStart => exact ⟨0, by omega, rfl, rfl, rfl⟩
 case round =>
  obtain ⟨k, hk, rfl, rfl, rfl⟩ := hrel
  by_cases hlt : k < 8
  · have hc := H.out k hlt
    obtain ⟨m, hm⟩ : ∃ m, acc B k = m := ⟨_, rfl⟩
    have hml : m < 2 ^ k := hm ▸ acc_lt B k
    have HS : Hid (acc B (k + 1) = m + 2 ^ k * (B k).toNat) := Lib.hid (by rw [← hm]; rfl)
    have ho := or_bit k hlt m hml
    rw [hm]
    clear hm
    cases hB : B k
    · rw [hB] at hc
      go_wp2
      go_roundw
      case rel => exact ⟨k + 1, by omega, by go_num, by rw [HS.out, hB]; simp, trivial⟩
      case measure => simp [intOf]; omega
    · rw [hB] at hc
      go_wp2
      go_roundw
      case rel => exact ⟨k + 1, by omega, by go_num, by rw [HS.out, hB]; simp, trivial⟩
      case measure => simp [intOf]; omega
  · obtain rfl : k = 8 := by omega
    go_wp2
    go_ret
    exact ⟨rfl, rfl⟩
end Go.Proofs.YtakkhdammmcjcaaGreatDoor.Msc
namespace Go.Proofs.YtakkhdammmcjcaaGreatDoor.Msc
open Go.RowKit Base Mem
/-- The row of the bits. -/
def rowB (s : St) : Nat → Bool
 | 0 => true
 | 1 => s.f
 | 2 => s.c
 | 3 => s.r
 | 6 => s.i
 | 7 => s.v
 | _ => false
theorem acc_row (s : St) : acc (rowB s) 8 = bt s := by
 show 0 + 2 ^ 0 * true.toNat + 2 ^ 1 * s.f.toNat + 2 ^ 2 * s.c.toNat + 2 ^ 3 * s.r.toNat + 2 ^ 4 * false.toNat + 2 ^ 5 * false.toNat + 2 ^ 6 * s.i.toNat + 2 ^ 7 * s.v.toNat = _
 unfold bt sig
 simp
theorem fbits (s : St) (w : World) :
 Calls Tryz.prog 94 #[sv s] w fun x w' => x = .returned (.int .u8 (bt s : Int)) ∧ Below w.heap.size w w' := by
 have CO : Hid (∀ w' : World, (∀ k, k < 8 → w'.cell? ⟨w.heap.size + 1, k, none⟩ = some (.bool (rowB s k))) → Calls Tryz.prog 113 #[.slice (some ⟨w.heap.size + 1, 0, none⟩) 8 8] w' fun x w'' => x = .returned (.int .u8 (bt s : Int)) ∧ w' = w'') :=
  Lib.hid (fun w' h => by have := foctet (w.heap.size + 1) (rowB s) w' h; rw [acc_row] at this; exact this)
 have HR : Hid (∀ (os : Obj) (w' : World) (t : TypeId), w' = (w.alloc os).alloc (.cells #[.bool true, .bool s.f, .bool s.c, .bool s.r, .bool false, .bool false, .bool s.i, .bool s.v] t) → ∀ k, k < 8 → w'.cell? ⟨w.heap.size + 1, k, none⟩ = some (.bool (rowB s k))) :=
  Lib.hid (fun os w' t e k hk => by
   subst e
   have h1 := nest w [os, .cells #[.bool true, .bool s.f, .bool s.c, .bool s.r, .bool false, .bool false, .bool s.i, .bool s.v] t] 1 _ rfl
   match k, hk with
   | 0, _ => exact cell_of h1 rfl
   | 1, _ => exact cell_of h1 rfl
   | 2, _ => exact cell_of h1 rfl
   | 3, _ => exact cell_of h1 rfl
   | 4, _ => exact cell_of h1 rfl
   | 5, _ => exact cell_of h1 rfl
   | 6, _ => exact cell_of h1 rfl
   | 7, _ => exact cell_of h1 rfl)
 go_enter Tryz.func94, Tryz.ntmps94
 go_wp2_with (go_at_call 113; ((with_reducible refine (CO.out _ (HR.out _ _ _ rfl)).mono ?_); rintro e w1 ⟨rfl, rfl⟩))
 go_ret
 exact ⟨rfl, nest_below w [_, _]⟩
set_option maxHeartbeats 4000000 in
theorem rbits (s : St) (w : World) :
 Calls Tryz.prog 99 #[sv s] w fun x w' => x = .returned (.int .u8 (bt s : Int)) ∧ Below w.heap.size w w' := by
 obtain ⟨d, f, c, r, i, v, b, k⟩ := s
 obtain ⟨n, hn⟩ : ∃ n : Int, (bt ⟨d, f, c, r, i, v, b, k⟩ : Int) = n := ⟨_, rfl⟩
 rw [hn]
 have HN := Lib.hid hn
 clear hn
 go_enter Tryz.func99, Tryz.ntmps99
 go_wp2
 all_goals go_ret
 all_goals exact ⟨ret_int (by rw [← HN.out]; simp_all [bt, sig]), nest_below w [_]⟩
end Go.Proofs.YtakkhdammmcjcaaGreatDoor.Msc
namespace Go.Proofs.YtakkhdammmcjcaaGreatDoor.Msc
open Go.RowKit Base Mem
theorem fhas (n : Nat) (hn : n < 256) (w : World) :
 Calls Tryz.prog 123 #[.int .u8 (n : Int)] w fun x w' => x = .returned (.bool (decide (n % 2 = 0))) ∧ w = w' := by
 have h1 := u8_and1 n hn
 go_enter Tryz.func123, Tryz.ntmps123
 go_wp2
 go_ret
 exact ⟨ret_bool (by rw [Bool.eq_iff_iff]; simp <;> omega), rfl⟩
theorem fmay (p : St) (w : World) :
 Calls Tryz.prog 92 #[sv p] w fun x w' => x = .returned (.bool (may p)) ∧ Below w.heap.size w w' := by
 obtain ⟨x, hx⟩ : ∃ x, may p = x := ⟨_, rfl⟩
 have HX := Lib.hid hx
 rw [hx]
 clear hx
 obtain ⟨d, f, c, r, i, v, b, k⟩ := p
 cases b
 · go_enter Tryz.func92, Tryz.ntmps92
   go_wp2
   all_goals go_ret
   all_goals exact ⟨ret_bool (by rw [← HX.out, Bool.eq_iff_iff]; clear HX; first | (simp_all [may]; done) | (simp_all [may]; omega)), nest_below w [_]⟩
 · go_enter Tryz.func92, Tryz.ntmps92
   go_wp2
   all_goals go_ret
   all_goals exact ⟨ret_bool (by rw [← HX.out, Bool.eq_iff_iff]; clear HX; first | (simp_all [may]; done) | (simp_all [may]; omega)), nest_below w [_]⟩
end Go.Proofs.YtakkhdammmcjcaaGreatDoor.Msc
namespace Go.Proofs.YtakkhdammmcjcaaGreatDoor.Msc
open Go.RowKit Base Mem Ea
theorem fput_no (p : St) (CM : ∀ w, Calls Tryz.prog 92 #[sv p] w fun x w' => x = .returned (.bool false) ∧ Below w.heap.size w w') (w : World) :
 Calls Tryz.prog 69 #[sv p] w fun x w' => x = .returned (.tuple #[.string ⟨#[]⟩, .int .i64 2]) ∧ Below w.heap.size w w' := by
 have CMh := Lib.hid CM
 clear CM
 go_enter Tryz.func69, Tryz.ntmps69
 go_wp2_with (go_at_call 92; ((with_reducible refine (CMh.out _).mono ?_); rintro e w1 ⟨rfl, hb⟩; have HB := Lib.hid (on_new (Below.refl _ _) hb); clear hb))
 go_ret2
 exact ⟨rfl, HB.out⟩
theorem fput_two (d : Nat) (f c r i v : Bool) (k : Nat) (n a : Nat) (hd : d < 256) (ha : addr d true = a) (hn : bt ⟨d, f, c, r, i, v, false, k⟩ = n) (CM : ∀ w, Calls Tryz.prog 92 #[sv ⟨d, f, c, r, i, v, false, k⟩] w fun x w' => x = .returned (.bool true) ∧ Below w.heap.size w w') (w : World) :
 Calls Tryz.prog 69 #[sv ⟨d, f, c, r, i, v, false, k⟩] w fun x w' => x = .returned (.tuple #[.string (two a n), .int .i64 0]) ∧ Below w.heap.size w w' := by
 have CMh := Lib.hid CM
 have CA := Lib.hid (fun w => address d hd true w)
 have CB := Lib.hid (fun w => fbits ⟨d, f, c, r, i, v, false, k⟩ w)
 rw [ha] at CA
 rw [hn] at CB
 have hcv := fun W => conv_two W a n
 obtain ⟨S, hS⟩ : ∃ S, two a n = S := ⟨_, rfl⟩
 have hcv2 : ∀ (W : World), (convert 126 9 (.slice (some ⟨W.heap.size, 0, none⟩) 2 2)).run Tryz.prog (W.alloc (.cells #[.int .u8 (a : Int), .int .u8 (n : Int)] 5)) = .ok (.string S) (W.alloc (.cells #[.int .u8 (a : Int), .int .u8 (n : Int)] 5)) := fun W => by rw [← hS]; exact hcv W
 rw [hS]
 clear CM hd ha hn hcv hS
 go_enter Tryz.func69, Tryz.ntmps69
 go_wp2_with (first
  | (go_at_call 92; ((with_reducible refine (CMh.out _).mono ?_); rintro e w1 ⟨rfl, hb⟩; have HF : Hid (w1.heap[w.heap.size]? = some (sO ⟨d, f, c, r, i, v, false, k⟩ 27)) := Lib.hid (fresh hb); obtain ⟨g0, g1, g2, g3, g4, g5, g6, g7⟩ := cells_of HF.out; dsimp only at g0 g1 g2 g3 g4 g5 g6 g7; have HB := Lib.hid (on_new (Below.refl _ _) hb); clear hb))
  | (go_at_call 93; ((with_reducible refine (CA.out _).mono ?_); rintro e w2 ⟨rfl, rfl⟩))
  | (go_at_call 94; ((with_reducible refine (CB.out _).mono ?_); rintro e w2 ⟨rfl, hb⟩; have HB2 := Lib.hid (below_on HB.out hb); clear hb)))
 go_ret2
 exact ⟨rfl, HB2.out.alloc HB2.out.size _⟩
theorem conv_three (w : World) (a b c : Nat) :
 (convert 126 9 (.slice (some ⟨w.heap.size, 0, none⟩) 3 3)).run Tryz.prog (w.alloc (.cells #[.int .u8 (a : Int), .int .u8 (b : Int), .int .u8 (c : Int)] 5))
  = .ok (.string (three a b c)) (w.alloc (.cells #[.int .u8 (a : Int), .int .u8 (b : Int), .int .u8 (c : Int)] 5)) :=
 conv_at3 (w.alloc (.cells #[.int .u8 (a : Int), .int .u8 (b : Int), .int .u8 (c : Int)] 5)) w.heap.size (a : Int) (b : Int) (c : Int) (cell_new w _ _ 0) (cell_new w _ _ 1) (cell_new w _ _ 2)
theorem not_mark (n : Nat) (h : n < 256) (h' : n % 2 = 1) : bits .andNot .u8 (n : Int) 1 = ((n - 1 : Nat) : Int) := by
 have : ∀ j : Fin 256, j.val % 2 = 1 → bits .andNot .u8 (j.val : Int) 1 = ((j.val - 1 : Nat) : Int) := by decide +kernel
 exact this ⟨n, h⟩ h'
theorem break_octet (k : Nat) (h : k ≤ 15) : bits .or .u8 (IntKind.u8.wrap ((k : Int) * 16)) 3 = ((16 * k + 3 : Nat) : Int) := by
 have : ∀ j : Fin 16, bits .or .u8 (IntKind.u8.wrap ((j.val : Int) * 16)) 3 = ((16 * j.val + 3 : Nat) : Int) := by decide +kernel
 exact this ⟨k, by omega⟩
theorem fput_three (d : Nat) (f c r i v : Bool) (k : Nat) (n m a : Nat) (hd : d < 256) (hk : k ≤ 15) (ha : addr d true = a) (hn : bt ⟨d, f, c, r, i, v, true, k⟩ = n) (hm : bits .andNot .u8 (n : Int) 1 = (m : Int)) (CM : ∀ w, Calls Tryz.prog 92 #[sv ⟨d, f, c, r, i, v, true, k⟩] w fun x w' => x = .returned (.bool true) ∧ Below w.heap.size w w') (w : World) :
 Calls Tryz.prog 69 #[sv ⟨d, f, c, r, i, v, true, k⟩] w fun x w' => x = .returned (.tuple #[.string (three a m (16 * k + 3)), .int .i64 0]) ∧ Below w.heap.size w w' := by
 have CMh := Lib.hid CM
 have CA := Lib.hid (fun w => address d hd true w)
 have CB := Lib.hid (fun w => fbits ⟨d, f, c, r, i, v, true, k⟩ w)
 rw [ha] at CA
 rw [hn] at CB
 obtain ⟨S, hS⟩ : ∃ S, three a m (16 * k + 3) = S := ⟨_, rfl⟩
 obtain ⟨x, hx⟩ : ∃ x, 16 * k + 3 = x := ⟨_, rfl⟩
 have hcv : ∀ (W : World), (convert 126 9 (.slice (some ⟨W.heap.size, 0, none⟩) 3 3)).run Tryz.prog (W.alloc (.cells #[.int .u8 (a : Int), .int .u8 (m : Int), .int .u8 (x : Int)] 5)) = .ok (.string S) (W.alloc (.cells #[.int .u8 (a : Int), .int .u8 (m : Int), .int .u8 (x : Int)] 5)) := fun W => by rw [← hS, ← hx]; exact conv_three W a m _
 have hkk : bits .or .u8 (IntKind.u8.wrap ((k : Int) * 16)) 3 = (x : Int) := by rw [← hx]; exact break_octet k hk
 rw [hS]
 clear CM hd ha hn hS hx
 go_enter Tryz.func69, Tryz.ntmps69
 go_wp2_with (first
  | (go_at_call 92; ((with_reducible refine (CMh.out _).mono ?_); rintro e w1 ⟨rfl, hb⟩; have HF0 : Hid (w1.heap[w.heap.size]? = some (sO ⟨d, f, c, r, i, v, true, k⟩ 27)) := Lib.hid (fresh hb); obtain ⟨g0, g1, g2, g3, g4, g5, g6, g7⟩ := cells_of HF0.out; dsimp only at g0 g1 g2 g3 g4 g5 g6 g7; have HB := Lib.hid (on_new (Below.refl _ _) hb); clear hb))
  | (go_at_call 93; ((with_reducible refine (CA.out _).mono ?_); rintro e w2 ⟨rfl, rfl⟩)))
 clear g0 g1 g2 g3 g4 g5 g6 g7
 obtain ⟨wx, rfl⟩ : ∃ wx : World, wx = w1 := ⟨_, rfl⟩
 have HF := HF0
 refine wp_region_held_drew (S := fun w' => Below wx.heap.size wx w') (by kernel_rfl) (Below.refl _ _).drew (fun hHeld => ?_)
 refine' tk9 0 rfl ?_
 refine' tv9 1 rfl (by intro _ hSw; (try dsimp only at hSw); obtain ⟨c0, c1, c2, c3, c4, c5, c6, c7⟩ := cells_of (stays HF.out hSw); dsimp only at c0 c1 c2 c3 c4 c5 c6 c7; go_simp <;> with_reducible rfl) ?_
 refine' tk9 4 rfl ?_
 refine' tv9 5 rfl (by intro _ hSw; (try dsimp only at hSw); obtain ⟨c0, c1, c2, c3, c4, c5, c6, c7⟩ := cells_of (stays HF.out hSw); dsimp only at c0 c1 c2 c3 c4 c5 c6 c7; go_simp <;> with_reducible rfl) ?_
 refine' tk9 6 rfl ?_
 refine' tk9 7 rfl ?_
 refine ry [2] (.cons rfl (fun K hK => ?_) .nil)
 go_simp
 (with_reducible refine (CB.out _).mono ?_)
 rintro e wc ⟨rfl, hb⟩
 go_wp2_with fail
 refine hK.out _ _ (below_on hHeld hb) (fun hNext => ?_)
 clear hK K hHeld hb
 have hHeld := hNext; clear hNext
 (try simp only [Act.put, z1', z2', z3'])
 refine' tk9 3 rfl ?_
 refine ry [8] (.cons rfl (fun K hK => ?_) .nil)
 go_simp
 refine hK.out _ _ (hHeld.alloc hHeld.size _) (fun hNext => ?_)
 clear hK K hHeld
 have hHeld := hNext; clear hNext
 (try simp only [Act.put, z1', z2', z3'])
 refine ry [9] (.cons rfl (fun K hK => ?_) .nil)
 go_simp
 refine hK.out _ _ hHeld (fun hNext => ?_)
 clear hK K hHeld
 have hHeld := hNext; clear hNext
 (try simp only [Act.put, z1', z2', z3'])
 refine' tk9 10 rfl ?_
 refine' tk9 11 rfl ?_
 refine wpAnyH_done (by kernel_rfl) ?_ _
 go_wp2
 go_ret2
 exact ⟨rfl, below_on HB.out hHeld⟩
theorem fput (p : St) (hp : p.In) (w : World) :
 Calls Tryz.prog 69 #[sv p] w fun x w' => x = .returned (.tuple #[.string (putS p), .int .i64 (putE p)]) ∧ Below w.heap.size w w' := by
 unfold putS putE
 cases hm : may p
 · exact fput_no p (fun w => by have := fmay p w; rw [hm] at this; exact this) w
 · have CM := fun w => fmay p w
   rw [hm] at CM
   have hM := (may_iff p).1 hm
   obtain ⟨d, f, c, r, i, v, b, k⟩ := p
   cases b
   · rw [if_pos rfl, if_pos rfl, octets_two rfl]
     exact fput_two d f c r i v k _ _ hp.d rfl rfl CM w
   · rw [if_pos rfl, if_pos rfl, octets_three rfl]
     exact fput_three d f c r i v k _ _ _ hp.d hM.k rfl rfl (not_mark _ (bt_lt _) (bt_odd _)) CM w
theorem rput_no1 (p : St) (hd : 63 < (p.d : Int)) (w : World) :
 Calls Tryz.prog 74 #[sv p] w fun x w' => x = .returned (.tuple #[.string ⟨#[]⟩, .int .i64 2]) ∧ Below w.heap.size w w' := by
 go_enter Tryz.func74, Tryz.ntmps74
 go_wp2
 go_ret2
 exact ⟨rfl, nest_below w [_]⟩
theorem rput_no2 (p : St) (hd : ¬ 63 < (p.d : Int)) (hk : 15 < (p.k : Int)) (w : World) :
 Calls Tryz.prog 74 #[sv p] w fun x w' => x = .returned (.tuple #[.string ⟨#[]⟩, .int .i64 2]) ∧ Below w.heap.size w w' := by
 go_enter Tryz.func74, Tryz.ntmps74
 go_wp2
 go_ret2
 exact ⟨rfl, nest_below w [_]⟩
theorem rput_no3 (p : St) (hd : ¬ 63 < (p.d : Int)) (hk : ¬ 15 < (p.k : Int)) (hb : p.b = false) (hn : ((p.k : Int) != 0) = true) (w : World) :
 Calls Tryz.prog 74 #[sv p] w fun x w' => x = .returned (.tuple #[.string ⟨#[]⟩, .int .i64 2]) ∧ Below w.heap.size w w' := by
 go_enter Tryz.func74, Tryz.ntmps74
 go_wp2
 go_ret2
 exact ⟨rfl, nest_below w [_]⟩
theorem rput_two (d : Nat) (f c r i v : Bool) (k : Nat) (n a : Nat) (hd : d ≤ 63) (hk1 : ¬ 15 < (k : Int)) (hk2 : ((k : Int) != 0) = false) (ha : addr d true = a) (hn : bt ⟨d, f, c, r, i, v, false, k⟩ = n) (w : World) :
 Calls Tryz.prog 74 #[sv ⟨d, f, c, r, i, v, false, k⟩] w fun x w' => x = .returned (.tuple #[.string (two a n), .int .i64 0]) ∧ Below w.heap.size w w' := by
 have CA := Lib.hid (fun w => raddress d (by omega) true w)
 have CB := Lib.hid (fun w => rbits ⟨d, f, c, r, i, v, false, k⟩ w)
 rw [ha] at CA
 rw [hn] at CB
 have hcv := fun W => conv_two W a n
 obtain ⟨S, hS⟩ : ∃ S, two a n = S := ⟨_, rfl⟩
 have hcv2 : ∀ (W : World), (convert 126 9 (.slice (some ⟨W.heap.size, 0, none⟩) 2 2)).run Tryz.prog (W.alloc (.cells #[.int .u8 (a : Int), .int .u8 (n : Int)] 5)) = .ok (.string S) (W.alloc (.cells #[.int .u8 (a : Int), .int .u8 (n : Int)] 5)) := fun W => by rw [← hS]; exact hcv W
 rw [hS]
 have hd2 : ¬ 63 < (d : Int) := by omega
 clear hd ha hn hcv hS
 go_enter Tryz.func74, Tryz.ntmps74
 go_wp2_with (first
  | (go_at_call 98; ((with_reducible refine (CA.out _).mono ?_); rintro e w2 ⟨rfl, rfl⟩))
  | (go_at_call 99; ((with_reducible refine (CB.out _).mono ?_); rintro e w2 ⟨rfl, hb⟩; have HB2 := Lib.hid (on_new (Below.refl w.heap.size w) hb); clear hb)))
 go_ret2
 exact ⟨rfl, HB2.out.alloc HB2.out.size _⟩
theorem rput_three (d : Nat) (f c r i v : Bool) (k : Nat) (n m a : Nat) (hd : d ≤ 63) (hk : k ≤ 15) (ha : addr d true = a) (hn : bt ⟨d, f, c, r, i, v, true, k⟩ = n) (hm : IntKind.u8.wrap ((n : Int) - 1) = (m : Int)) (w : World) :
 Calls Tryz.prog 74 #[sv ⟨d, f, c, r, i, v, true, k⟩] w fun x w' => x = .returned (.tuple #[.string (three a m (16 * k + 3)), .int .i64 0]) ∧ Below w.heap.size w w' := by
 have CA := Lib.hid (fun w => raddress d (by omega) true w)
 have CB := Lib.hid (fun w => rbits ⟨d, f, c, r, i, v, true, k⟩ w)
 rw [ha] at CA
 rw [hn] at CB
 obtain ⟨S, hS⟩ : ∃ S, three a m (16 * k + 3) = S := ⟨_, rfl⟩
 obtain ⟨x, hx⟩ : ∃ x, 16 * k + 3 = x := ⟨_, rfl⟩
 have hcv : ∀ (W : World), (convert 126 9 (.slice (some ⟨W.heap.size, 0, none⟩) 3 3)).run Tryz.prog (W.alloc (.cells #[.int .u8 (a : Int), .int .u8 (m : Int), .int .u8 (x : Int)] 5)) = .ok (.string S) (W.alloc (.cells #[.int .u8 (a : Int), .int .u8 (m : Int), .int .u8 (x : Int)] 5)) := fun W => by rw [← hS, ← hx]; exact conv_three W a m _
 have hk1 : IntKind.u8.wrap (16 * (k : Int)) = 16 * (k : Int) := by rw [IntKind.wrap_u8]; omega
 have hk2 : IntKind.u8.wrap (3 + 16 * (k : Int)) = (x : Int) := by rw [IntKind.wrap_u8]; omega
 rw [hS]
 have hd2 : ¬ 63 < (d : Int) := by omega
 have hk3 : ¬ 15 < (k : Int) := by omega
 clear hd ha hn hS hx hk
 go_enter Tryz.func74, Tryz.ntmps74
 go_wp2_with (go_at_call 98; ((with_reducible refine (CA.out _).mono ?_); rintro e w2 ⟨rfl, rfl⟩))
 have HB0 : Hid (Below w.heap.size w (w.alloc (sO ⟨d, f, c, r, i, v, true, k⟩ 77))) := Lib.hid (nest_below w [_])
 have HF : Hid ((w.alloc (sO ⟨d, f, c, r, i, v, true, k⟩ 77)).heap[w.heap.size]? = some (sO ⟨d, f, c, r, i, v, true, k⟩ 77)) := Lib.hid (nest w [_] 0 _ rfl)
 generalize w.alloc (sO ⟨d, f, c, r, i, v, true, k⟩ 77) = wx at *
 refine wp_region_held_drew (S := fun w' => Below wx.heap.size wx w') (by kernel_rfl) (Below.refl _ _).drew (fun hHeld => ?_)
 refine' tk9 0 rfl ?_
 refine' tv9 1 rfl (by intro _ hSw; (try dsimp only at hSw); obtain ⟨c0, c1, c2, c3, c4, c5, c6, c7⟩ := cells_of (stays HF.out hSw); dsimp only at c0 c1 c2 c3 c4 c5 c6 c7; go_simp <;> with_reducible rfl) ?_
 refine' tk9 4 rfl ?_
 refine' tv9 5 rfl (by intro _ hSw; (try dsimp only at hSw); obtain ⟨c0, c1, c2, c3, c4, c5, c6, c7⟩ := cells_of (stays HF.out hSw); dsimp only at c0 c1 c2 c3 c4 c5 c6 c7; go_simp <;> with_reducible rfl) ?_
 refine' tk9 6 rfl ?_
 refine' tk9 7 rfl ?_
 refine ry [2] (.cons rfl (fun K hK => ?_) .nil)
 go_simp
 (with_reducible refine (CB.out _).mono ?_)
 rintro e wc ⟨rfl, hb⟩
 go_wp2_with fail
 refine hK.out _ _ (below_on hHeld hb) (fun hNext => ?_)
 clear hK K hHeld hb
 have hHeld := hNext; clear hNext
 (try simp only [Act.put, z1', z2', z3'])
 refine' tk9 3 rfl ?_
 refine ry [8] (.cons rfl (fun K hK => ?_) .nil)
 go_simp
 refine hK.out _ _ (hHeld.alloc hHeld.size _) (fun hNext => ?_)
 clear hK K hHeld
 have hHeld := hNext; clear hNext
 (try simp only [Act.put, z1', z2', z3'])
 refine ry [9] (.cons rfl (fun K hK => ?_) .nil)
 go_simp
 refine hK.out _ _ hHeld (fun hNext => ?_)
 clear hK K hHeld
 have hHeld := hNext; clear hNext
 (try simp only [Act.put, z1', z2', z3'])
 refine' tk9 10 rfl ?_
 refine' tk9 11 rfl ?_
 refine wpAnyH_done (by kernel_rfl) ?_ _
 go_wp2
 go_ret2
 exact ⟨rfl, below_on HB0.out hHeld⟩
theorem rput (p : St) (hp : p.In) (w : World) :
 Calls Tryz.prog 74 #[sv p] w fun x w' => x = .returned (.tuple #[.string (putS p), .int .i64 (putE p)]) ∧ Below w.heap.size w w' := by
 unfold putS putE
 cases hm : may p
 · show Calls _ _ _ _ fun x w' => x = .returned (.tuple #[.string ⟨#[]⟩, .int .i64 2]) ∧ Below w.heap.size w w'
   have hM : ¬ p.May := fun h => by rw [(may_iff p).2 h] at hm; cases hm
   rcases Nat.lt_or_ge 63 p.d with h1 | h1
   · exact rput_no1 p (by omega) w
   rcases Nat.lt_or_ge 15 p.k with h2 | h2
   · exact rput_no2 p (by omega) (by omega) w
   cases hb : p.b
   · by_cases h3 : p.k = 0
     · exact absurd ⟨h1, h2, fun _ => h3⟩ hM
     · exact rput_no3 p (by omega) (by omega) hb (bne_true (by omega)) w
   · exact absurd ⟨h1, h2, fun h => by rw [hb] at h; cases h⟩ hM
 · have hM := (may_iff p).1 hm
   rw [if_pos rfl, if_pos rfl]
   obtain ⟨d, f, c, r, i, v, b, k⟩ := p
   cases b
   · have hk : k = 0 := hM.b rfl
     rw [octets_two rfl]
     exact rput_two d f c r i v k _ _ hM.d (by omega) (bne_false (by omega)) rfl rfl w
   · rw [octets_three rfl]
     have h1 := bt_lt ⟨d, f, c, r, i, v, true, k⟩
     have h2 := bt_odd ⟨d, f, c, r, i, v, true, k⟩
     exact rput_three d f c r i v k _ _ _ hM.d hM.k rfl rfl (by rw [IntKind.wrap_u8]; omega) w
end Go.Proofs.YtakkhdammmcjcaaGreatDoor.Msc

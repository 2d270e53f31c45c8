/-
  The library's shuffle of three places, over octets: it permutes the part. Conditions: at most a million elements, at least eight in the part.
-/
import Derived.Test.YtcadeoolacoidaaSrtRand
import Derived.Deep.DeepCutAuto
namespace Go.Proofs.Ytcadeoolacoidaa.Srt
open Go.RowKit Go.Proofs.Ytcadeoolacoidaa.Base Go.Proofs.Ytcadeoolacoidaa.Mem
open Go.Sort (PermIn swp size_swp swp_permIn permIn_refl permIn_trans)
/-- Beside the row a number of 64 bits in a block of its own; the part permuted. -/
structure Rn (w0 : World) (blk e : Nat) (rest : Array Value) (n a b : Nat) (d dk : Array Nat) (rb : Nat) (W : World) : Prop where
  row : Sx w0 blk e rest n dk W
  perm : PermIn a b d dk
  cnt : ∃ t X, X < 18446744073709551616 ∧ W.heap[rb]? = some (.cells #[.int .u64 ((X : Nat) : Int)] t)
  ne : blk ≠ rb
  new : w0.heap.size ≤ rb
section
variable {w0 W : World} {blk e : Nat} {rest : Array Value} {n a b : Nat} {d dk : Array Nat} {rb : Nat}
theorem Rn.cell (h : Rn w0 blk e rest n a b d dk rb W) : ∃ X : Nat, X < 18446744073709551616 ∧ W.cell? ⟨rb, 0, none⟩ = some (.int .u64 (X : Int)) ∧ W.frozen? ⟨rb, 0, none⟩ = false := by
  obtain ⟨t, X, hX, ht⟩ := h.cnt
  exact ⟨X, hX, cell_of ht rfl, free_of ht⟩
theorem Rn.next (h : Rn w0 blk e rest n a b d dk rb W) (C m : Nat) (hC : C < 18446744073709551616) : Rn w0 blk e rest n a b d dk rb ((W.setCell ⟨rb, 0, none⟩ (.int .u64 (C : Int))).drewN m) := by
  obtain ⟨t, X, hX, ht⟩ := h.cnt
  refine ⟨⟨h.row.size, ?_, (h.row.oth.setCell rb 0 _ fun hb => absurd hb (by have := h.new; omega)).drewN m⟩, h.perm, ⟨t, C, hC, ?_⟩, h.ne, h.new⟩
  · rw [← h.row.row]
    exact set_other h.ne _
  · show (W.setCell ⟨rb, 0, none⟩ (.int .u64 (C : Int))).heap[rb]? = _
    rw [block_set ht]; rfl
theorem Rn.swap (h : Rn w0 blk e rest n a b d dk rb W) {i j x y : Nat} (hi : a ≤ i) (hi2 : i < b) (hj : a ≤ j) (hj2 : j < b) (hb : b ≤ n) (hx : x = dk[j]!) (hy : y = dk[i]!) :
    Rn w0 blk e rest n a b d (swp dk i j) rb ((W.setCell ⟨blk, i, none⟩ (num x)).setCell ⟨blk, j, none⟩ (num y)).drew := by
  refine ⟨(h.row.swap (by omega) (by omega) hx hy).drew, permIn_trans _ _ _ _ _ h.perm (swp_permIn dk a b i j hi hi2 hj hj2 (by rw [h.row.size]; exact hb)), ?_, h.ne, h.new⟩
  obtain ⟨t, X, hX, ht⟩ := h.cnt
  refine ⟨t, X, hX, ?_⟩
  rw [← ht]
  exact (set_other (Ne.symm h.ne) _).trans (set_other (Ne.symm h.ne) _)
theorem Rn.start (h : Sx w0 blk e rest n d W) (X : Nat) (hX : X < 18446744073709551616) (t : Nat) : Rn w0 blk e rest n a b d d W.heap.size (W.alloc (Obj.cells #[.int .u64 (X : Int)] t)) :=
  ⟨h.alloc _, permIn_refl _ _ _, ⟨t, X, hX, nest W [_] 0 _ rfl⟩, by have := h.lt; omega, h.oth.size⟩
end
set_option maxHeartbeats 4000000 in
set_option maxRecDepth 200000 in
theorem fbreak (w0 : World) (blk e : Nat) (rest : Array Value) (n cap a b : Nat) (d : Array Nat) (w : World) (hn : n ≤ 1000000) (S : Hid (Sx w0 blk e rest n d w)) (hab : a + 8 ≤ b) (hb : b ≤ n) :
    Calls Try.prog 30 #[.slice (some ⟨blk, 0, none⟩) n cap, .int .i64 (a : Int), .int .i64 (b : Int)] w fun r w' =>
      r = .returned (.tuple #[]) ∧ ∃ dk, Sx w0 blk e rest n dk w' ∧ PermIn a b d dk := by
  obtain ⟨l, hl⟩ : ∃ l, l = b - a := ⟨_, rfl⟩
  have l1 : (b : Int) - (a : Int) = (l : Int) := by omega
  have vl := wrap_nat l (by omega)
  have ul : IntKind.u64.wrap (l : Int) = (l : Int) := by rw [IntKind.wrap_u64]; omega
  obtain ⟨q, hq⟩ : ∃ q, q = l / 4 := ⟨_, rfl⟩
  have q1 : (l : Int) / 4 = (q : Int) := by omega
  have q2 : (l : Int).tdiv 4 = (q : Int) := by rw [Int.tdiv_eq_ediv_of_nonneg (by omega)]; omega
  have vq := wrap_nat q (by omega)
  have vq2 := wrap_nat (q * 2) (by omega)
  have vi := wrap_nat (a + q * 2) (by omega)
  obtain ⟨z, hz⟩ : ∃ z, z = a + q * 2 - 1 := ⟨_, rfl⟩
  have z1 : (a : Int) + (q : Int) * 2 - 1 = (z : Int) := by omega
  have vz := wrap_nat z (by omega)
  have vi1 := wrap_nat (a + q * 2 + 1) (by omega)
  have g8 : decide ((8 : Int) ≤ (l : Int)) = true := decide_eq_true (by omega)
  have g8n : (8 : Int) ≤ (l : Int) := by omega
  have q4 : q * 2 + 2 ≤ l := by omega
  have q3 : 2 ≤ q := by omega
  have hzq : z + 1 = a + q * 2 := by omega
  obtain ⟨rb, hsb⟩ : ∃ rb, rb = w.heap.size := ⟨_, rfl⟩
  have I0 : ∀ t, Hid (Rn w0 blk e rest n a b d d rb (w.alloc (Obj.cells #[.int .u64 (l : Int)] t))) := fun t => by rw [hsb]; exact Rn.start S.out l (by omega) t
  have I0 := Lib.hid I0
  have HB : Hid (rb = w.heap.size) := hsb
  have hlb : a + l = b := by omega
  have cp := Lib.hid (fpow2 l (by omega) (by omega))
  clear S hq hsb hz hl
  go_enter Try.func30, Try.ntmps30
  go_wp2_with fail
  rw [← HB.out]
  have I1 := I0.out 74
  generalize w.alloc (Obj.cells #[.int .u64 (l : Int)] 74) = w1 at I1 ⊢
  refine (cp.out w1).mono ?_
  rintro _ w2 ⟨m, rfl, rfl, hm1, hm2⟩
  obtain ⟨m, rfl⟩ : ∃ k, m = k + 1 := ⟨m - 1, by omega⟩
  clear I0 cp
  have um : IntKind.u64.wrap (m : Int) = (m : Int) := by rw [IntKind.wrap_u64]; omega
  go_wp2_with fail
  go_loopg [9, 10] (a + q * 2 + 2 - z) (fun g s t wr => ∃ (ix : Nat) (dk : Array Nat), s = .int .i64 (ix : Int) ∧ z ≤ ix ∧ ix ≤ a + q * 2 + 2 ∧ a + q * 2 + 2 - ix ≤ g ∧ Hid (Rn w0 blk e rest n a b d dk rb wr))
  case atStart => exact ⟨z, d, by first | rfl | go_num, Nat.le_refl _, by omega, Nat.le_refl _, I1⟩
  case round =>
    clear I1
    obtain ⟨ix, dk, rfl, hz1, hz2, hg, I1⟩ := hrel
    by_cases hij : ix ≤ a + q * 2 + 1
    · have t1 : decide ((ix : Int) ≤ (a : Int) + (q : Int) * 2 + 1) = true := decide_eq_true (by omega)
      have t2 : (ix : Int) ≤ (a : Int) + (q : Int) * 2 + 1 := by omega
      obtain ⟨X, hX, cX, fX⟩ := I1.out.cell
      have cc := Lib.hid (fxor rb X hX wr cX fX)
      clear cX fX
      go_wp2_with fail
      refine cc.out.mono ?_
      rintro _ w3 ⟨C, rfl, hC, hw⟩
      have R2 : Hid (Rn w0 blk e rest n a b d dk rb w3) := by rw [hw]; exact I1.out.next C 3 hC
      clear hw I1 cc
      obtain ⟨o, ho⟩ : ∃ o, o = C &&& m := ⟨_, rfl⟩
      have hom : o ≤ m := by rw [ho]; exact Nat.and_le_right
      have e1 : bits .and .u64 (C : Int) (m : Int) = (o : Int) := by rw [u64_and_nat _ _ hC (by omega), ho]
      have vo := wrap_nat o (by omega)
      clear ho
      by_cases hol : l ≤ o
      · have t3 : decide ((l : Int) ≤ (o : Int)) = true := decide_eq_true (by omega)
        have t4 : (l : Int) ≤ (o : Int) := by omega
        obtain ⟨p, hp⟩ : ∃ p, p = o - l := ⟨_, rfl⟩
        have p1 : (o : Int) - (l : Int) = (p : Int) := by omega
        have vp := wrap_nat p (by omega)
        have vap := wrap_nat (a + p) (by omega)
        have hpl : p < l := by omega
        have i1 : (ix : Int) < (n : Int) := by omega
        have i2 : (a : Int) + (p : Int) < (n : Int) := by omega
        clear hp
        obtain ⟨x, hx⟩ : ∃ x, x = dk[ix]! := ⟨_, rfl⟩
        obtain ⟨y, hy⟩ : ∃ y, y = dk[a + p]! := ⟨_, rfl⟩
        have c1 : w3.cell? ⟨blk, ix, none⟩ = some (num x) := by rw [hx]; exact R2.out.row.cell (by omega)
        have c2 : w3.cell? ⟨blk, a + p, none⟩ = some (num y) := by rw [hy]; exact R2.out.row.cell (by omega)
        have f1 := R2.out.row.free ix
        have f2 := R2.out.row.free (a + p)
        obtain ⟨u, c3⟩ := R2.out.row.cell2 ix y (j := a + p) (by omega) (by omega)
        have R3 : Hid (Rn w0 blk e rest n a b d (swp dk ix (a + p)) rb ((w3.setCell ⟨blk, ix, none⟩ (num y)).setCell ⟨blk, a + p, none⟩ (num x)).drew) := R2.out.swap (by omega) (by omega) (by omega) (by omega) hb hy hx
        clear hx hy R2
        go_wp2_with fail
        go_big_region
        clear c1 c2 c3 f1 f2
        generalize ((w3.setCell ⟨blk, ix, none⟩ (num y)).setCell ⟨blk, a + p, none⟩ (num x)).drew = w4 at R3 ⊢
        have v5 := wrap_nat (ix + 1) (by omega)
        go_wp2
        go_roundg (a + q * 2 + 2 - (ix + 1))
        case measure => omega
        case rel => exact ⟨ix + 1, swp dk ix (a + p), by first | rfl | go_num | (congr 1; omega), by omega, by omega, by omega, R3⟩
      · have t3 : decide ((l : Int) ≤ (o : Int)) = false := decide_eq_false (by omega)
        have t4 : ¬ (l : Int) ≤ (o : Int) := by omega
        have vap := wrap_nat (a + o) (by omega)
        have i1 : (ix : Int) < (n : Int) := by omega
        have i2 : (a : Int) + (o : Int) < (n : Int) := by omega
        obtain ⟨x, hx⟩ : ∃ x, x = dk[ix]! := ⟨_, rfl⟩
        obtain ⟨y, hy⟩ : ∃ y, y = dk[a + o]! := ⟨_, rfl⟩
        have c1 : w3.cell? ⟨blk, ix, none⟩ = some (num x) := by rw [hx]; exact R2.out.row.cell (by omega)
        have c2 : w3.cell? ⟨blk, a + o, none⟩ = some (num y) := by rw [hy]; exact R2.out.row.cell (by omega)
        have f1 := R2.out.row.free ix
        have f2 := R2.out.row.free (a + o)
        obtain ⟨u, c3⟩ := R2.out.row.cell2 ix y (j := a + o) (by omega) (by omega)
        have R3 : Hid (Rn w0 blk e rest n a b d (swp dk ix (a + o)) rb ((w3.setCell ⟨blk, ix, none⟩ (num y)).setCell ⟨blk, a + o, none⟩ (num x)).drew) := R2.out.swap (by omega) (by omega) (by omega) (by omega) hb hy hx
        clear hx hy R2
        go_wp2_with fail
        go_big_region
        clear c1 c2 c3 f1 f2
        generalize ((w3.setCell ⟨blk, ix, none⟩ (num y)).setCell ⟨blk, a + o, none⟩ (num x)).drew = w4 at R3 ⊢
        have v5 := wrap_nat (ix + 1) (by omega)
        go_wp2
        go_roundg (a + q * 2 + 2 - (ix + 1))
        case measure => omega
        case rel => exact ⟨ix + 1, swp dk ix (a + o), by first | rfl | go_num | (congr 1; omega), by omega, by omega, by omega, R3⟩
    · have t1 : decide ((ix : Int) ≤ (a : Int) + (q : Int) * 2 + 1) = false := decide_eq_false (by omega)
      have t2 : ¬ (ix : Int) ≤ (a : Int) + (q : Int) * 2 + 1 := by omega
      go_wp2
      go_end0
      exact ⟨rfl, dk, I1.out.row, I1.out.perm⟩
end Go.Proofs.Ytcadeoolacoidaa.Srt

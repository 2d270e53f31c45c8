/-
  ClBack answers true for everything, and turns nothing that was there. No condition.
-/
import Derived.Test.YtidcoodmlgmcjaaClWorks
import Derived.Test.YtidcoodmlgmcjaaClArgs
import Derived.Test.YtidcoodmlgmcjaaClBackMath
namespace Go.Proofs.Ytidcoodmlgmcjaa.clBack
open Go.RowKit Go.Proofs.Ytidcoodmlgmcjaa.Base Go.Proofs.Ytidcoodmlgmcjaa.Mem Go.Proofs.Ytidcoodmlgmcjaa.Cl
/-- A joiner that was made since w. -/
structure One (w : World) (jb : Nat) (i : Bool) (wr : World) : Prop where
  j : JAt 45 wr jb i
  lj : w.heap.size ≤ jb
  below : Below w.heap.size w wr
theorem One.on {w wr wt : World} {jb : Nat} {i : Bool} (h : One w jb i wr) (hb : Below wr.heap.size wr wt) : One w jb i wt := ⟨stays h.j hb, h.lj, below_on h.below hb⟩
theorem One.put {w wr wt : World} {jb : Nat} {i k : Bool} (h : One w jb i wr) (hj : JAt 45 wt jb k) (hc : Only jb wr wt) : One w jb k wt := ⟨hj, h.lj, hc.below h.below h.below.size fun k e => by rw [e]; exact h.lj⟩
theorem row_keeps {jb base : Nat} {w w' : World} {v : Value} {l : List ByteArray} (h : RowB w base v l) (hc : Only jb w w') (hn : jb < base) : RowB w' base v l :=
  h.grown (only_grown hc) (Or.inr fun e => by have := (h.lt jb e).1; omega)
set_option maxHeartbeats 4000000 in
set_option maxRecDepth 100000 in
theorem all (oa : Option Addr) (n cap : Nat) (F : Nat → ByteArray) (ob : Option Addr) (nb cb : Nat) (G : Nat → Nat) (hnb : nb ≤ maxLen) (w : World) (hA : ArgT w oa n F) (hB : ArgO w ob nb G) :
    Calls Try.prog 5 #[.slice oa n cap, .slice ob nb cb] w fun e w' => e = .returned (.bool true) ∧ Below w.heap.size w w' := by
  have HA := Lib.hid hA
  have HG := Lib.hid hB
  have C5 := Lib.hid (fun w => fworks w)
  unfold maxLen at hnb
  clear hA hB
  by_cases h : 12 < n
  · have h1 : (12 : Int) < (n : Int) := by omega
    have h2 : decide ((12 : Int) < (n : Int)) = true := decide_eq_true h1
    go_enter Try.func5, Try.ntmps5
    go_wp2_with (go_at_call 8; ((with_reducible refine (C5.out _).mono ?_); rintro e w1 ⟨rfl, hb⟩; have HB := Lib.hid hb; clear hb))
    go_ret
    exact ⟨rfl, HB.out⟩
  have h1 : ¬ (12 : Int) < (n : Int) := by omega
  have h2 : decide ((12 : Int) < (n : Int)) = false := decide_eq_false h1
  by_cases h0 : nb = 0
  · have h3 : ((nb : Int) == 0) = true := by rw [beq_iff_eq]; omega
    clear h0
    go_enter Try.func5, Try.ntmps5
    go_wp2_with (go_at_call 8; ((with_reducible refine (C5.out _).mono ?_); rintro e w1 ⟨rfl, hb⟩; have HB := Lib.hid hb; clear hb))
    go_ret
    exact ⟨rfl, HB.out⟩
  have h3 : ((nb : Int) == 0) = false := by rw [beq_eq_false_iff_ne]; omega
  have h4 : ¬ (nb : Int) = 0 := by omega
  go_enter Try.func5, Try.ntmps5
  go_wp2_with fail
  refine (fNew2 _).mono ?_
  rintro _ w1 ⟨jb, rfl, hj, j1, b1⟩
  have HT : Hid (One w jb false w1) := Lib.hid ⟨j1, hj, b1⟩
  clear hj j1 b1
  go_wp2_with fail
  go_loopg [6] n (fun g i wr => ∃ k : Nat, i = nm k ∧ n - k ≤ g ∧ k ≤ n ∧ Hid (One w jb false wr))
  case atStart => exact ⟨0, rfl, by omega, by omega, HT⟩
  case round =>
    clear HT
    obtain ⟨k, rfl, hg, hk, HT⟩ := hrel
    by_cases hlt : k < n
    · have u1 : decide ((k : Int) < (n : Int)) = true := decide_eq_true (by omega)
      have j0 : (0 : Int) ≤ (k : Int) := by omega
      have j1 : (k : Int) < (n : Int) := by omega
      have v0 := wrap_n (k + 1) (by omega)
      obtain ⟨a, rfl, gb, go, ha, hgb, c0⟩ := HA.out.at1 HT.out.below hlt
      obtain ⟨x, hx⟩ : ∃ x, F k = x := ⟨_, rfl⟩
      have hsx := HA.out.inb k hlt
      have C0 : Hid (∀ wt, Below w.heap.size w wt → wt.cell? ⟨gb, go, none⟩ = some (.string x)) := Lib.hid fun wt hb => by
        rw [← hx, ← c0]
        exact (hb.cell (p := ⟨gb, go, none⟩) hgb).trans (HT.out.below.cell (p := ⟨gb, go, none⟩) hgb).symm
      rw [hx] at c0 hsx
      clear hx
      by_cases hs : 300 < x.size
      · have u2 : decide ((300 : Int) < (x.size : Int)) = true := decide_eq_true (by omega)
        have u3 : (300 : Int) < (x.size : Int) := by omega
        go_wp2_with (go_at_call 8; ((with_reducible refine (C5.out _).mono ?_); rintro e w6 ⟨rfl, hb⟩; have HB2 := Lib.hid (below_on HT.out.below hb); clear hb))
        go_ret
        exact ⟨rfl, HB2.out⟩
      · have u2 : decide ((300 : Int) < (x.size : Int)) = false := decide_eq_false (by omega)
        have u3 : ¬ (300 : Int) < (x.size : Int) := by omega
        obtain ⟨y, hy⟩ : ∃ y, k % nb = y := ⟨_, rfl⟩
        have hyn : y < nb := hy ▸ Nat.mod_lt k (by omega)
        have HY : Hid ((k : Int) % (nb : Int) = (y : Int)) := Lib.hid (by rw [← Int.natCast_emod, hy])
        clear hy
        obtain ⟨b, rfl, gc, gd, hb2, hgc, c2⟩ := HG.out.at1 HT.out.below hyn
        have hz := HG.out.inb y hyn
        obtain ⟨z, hzz⟩ : ∃ z, G y = z := ⟨_, rfl⟩
        rw [hzz] at c2 hz
        clear hzz
        obtain ⟨m, hm⟩ : ∃ m : Nat, min (2 + (z : Int)) 128 = (m : Int) + 1 := ⟨min (2 + z) 128 - 1, by omega⟩
        have hm0 : 0 < m := by omega
        have hm2 : m ≤ 127 := by omega
        have hm3 : m + 1 ≤ 2 + z := by omega
        have CS := Lib.hid (fun w => fSplit x (by omega) (2 + (z : Int)) (by omega) m hm w)
        obtain ⟨c, hc⟩ : ∃ c, cnt x.size m = c := ⟨_, rfl⟩
        have hcp : 0 < c := hc ▸ cnt_pos x.size m hm0
        have hcl : c ≤ x.size + 1 := hc ▸ cnt_le x.size m hm0
        obtain ⟨c1, hc1⟩ : ∃ c1, c1 + 1 = c := ⟨c - 1, by omega⟩
        have q3 : IntKind.i64.wrap ((c : Int) - 1) = (c1 : Int) := by rw [IntKind.wrap_i64]; omega
        have t1 : ((c : Int) == 0) = false := by rw [beq_eq_false_iff_ne]; omega
        have t2 : ¬ (c : Int) = 0 := by omega
        have HC := Lib.hid hc
        have HE : Hid (x.size ≤ c * m) := Lib.hid (by
          have h8 : ¬ (c1 + 1) * m < x.size := fun e => by have := (cnt_lt x.size m c1 hm0).2 e; omega
          rw [hc1] at h8
          omega)
        clear hc hm
        have qy := HY.out
        go_wp2_with fail
        clear qy
        refine (CS.out _).mono ?_
        rintro _ w3 ⟨va, rfl, ra, b3⟩
        obtain ⟨og, cg, rfl, hat⟩ := row_form ra
        rw [pcs_len, HC.out] at ra hat
        obtain ⟨g1, rfl, _⟩ := hat 0 hcp
        have RA3 := Lib.hid ra
        have HO3 := Lib.hid (HT.out.on b3)
        have HJW : Hid (jb < wr.heap.size) := Lib.hid (lt_heap HT.out.j)
        obtain ⟨wo, hwo⟩ : ∃ wo : Nat, wr.heap.size = wo := ⟨_, rfl⟩
        rw [hwo] at RA3 HJW
        rw [pcs_len, HC.out]
        clear hat ra b3 CS HT hwo c0 c2
        go_wp2_with fail
        have G0 := got_zero x m
        go_loopg [10, 11] c (fun g sv i wr => ∃ (t : Nat) (bb : Bool), sv = .string (got x m t) ∧ i = nm t ∧ c - t ≤ g ∧ t ≤ c ∧ Hid (decide (0 < t ∧ t < c) = bb) ∧ Hid (One w jb bb wr) ∧ Hid (RowB wr wo (.slice (some ⟨g1, 0, none⟩) c cg) (pcs x m)))
        case atStart => exact ⟨0, false, by rw [G0], rfl, by omega, by omega, Lib.hid (decide_eq_false (by omega)), HO3, RA3⟩
        case round =>
          clear HO3 RA3 G0
          obtain ⟨t, bb, rfl, rfl, hg2, ht, HBB, HO, RA⟩ := hrel
          by_cases hlt2 : t < c
          · have w1 : decide ((t : Int) < (c : Int)) = true := decide_eq_true (by omega)
            have w2 : (t : Int) < (c : Int) := by omega
            have w3 : (0 : Int) ≤ (t : Int) := by omega
            have vt := wrap_n (t + 1) (by omega)
            obtain ⟨fa, hfa⟩ : ∃ fa, t * m = fa := ⟨_, rfl⟩
            have hfa2 : fa ≤ x.size := by
              rw [← hfa]
              cases t with
              | zero => rw [Nat.zero_mul]; exact Nat.zero_le _
              | succ i => exact Nat.le_of_lt ((cnt_lt x.size m i hm0).1 (by rw [HC.out]; exact hlt2))
            have HFA := Lib.hid hfa
            obtain ⟨px, hpx⟩ : ∃ px, pc x m c t = px := ⟨_, rfl⟩
            have hps : px.size ≤ m + 1 := by
              rw [← hpx, pc_size, succ_mul']
              omega
            have HPX : Hid ((pcs x m)[t]? = some px) := Lib.hid (by rw [pcs_get x m t (by rw [HC.out]; exact hlt2), HC.out, hpx])
            have r1 : wr.cell? ⟨g1, t, none⟩ = some (.string px) := row_cell RA.out HPX.out
            have s1 : decide ((2 : Int) + (z : Int) < (px.size : Int)) = false := decide_eq_false (by omega)
            have s2 : ¬ (2 : Int) + (z : Int) < (px.size : Int) := by omega
            have s3 : decide ((128 : Int) < (px.size : Int)) = false := decide_eq_false (by omega)
            have s4 : ¬ (128 : Int) < (px.size : Int) := by omega
            have hgs := got_size x m t
            have hbs := bit_size x m t
            have hcat : ¬ 9223372036854775807 < (got x m t).size + (bit x m t).size := by omega
            have hbb := HBB.out
            clear hfa
            have HGS : Hid (got x m (t + 1) = got x m t ++ bit x m t) := Lib.hid (got_succ x m t (by rw [HFA.out]; exact hfa2))
            by_cases hen : t + 1 = c
            · have e0 : decide (t + 1 = c) = true := decide_eq_true hen
              have e1 : ((t : Int) == (c1 : Int)) = true := by rw [beq_iff_eq]; omega
              have PP : put bb px = ⟨bit x m t, true, 0, false⟩ := by rw [← hpx]; exact put_piece x m c t hlt2 bb hbb true e0
              have CP := Lib.hid (fun w hj => fPut px (by omega) bb _ PP w jb hj)
              have HNX : Hid (decide (0 < t + 1 ∧ t + 1 < c) = false) := Lib.hid (decide_eq_false (by omega))
              clear e0 hen PP hpx hbb HBB hps hgs hbs hfa2
              go_wp2_with fail
              refine (CP.out _ HO.out.j).mono ?_
              rintro _ w4 ⟨rfl, j4, d4⟩
              have HO4 := Lib.hid (HO.out.put j4 d4)
              have RA4 := Lib.hid (row_keeps RA.out d4 HJW.out)
              have r4 : w4.cell? ⟨g1, t, none⟩ = some (.string px) := row_cell RA4.out HPX.out
              have CW := Lib.hid (fWithin w4 jb false HO4.out.j)
              clear j4 d4 HO RA r1 CP
              go_wp2_with (go_at_call 15; ((with_reducible refine CW.out.mono ?_); rintro e w5 ⟨rfl, rfl⟩))
              go_roundg (c - (t + 1))
              case measure => omega
              case rel => exact ⟨t + 1, false, by rw [HGS.out], by first | rfl | go_num, Nat.le_refl _, hlt2, HNX, HO4, RA4⟩
            · have e0 : decide (t + 1 = c) = false := decide_eq_false hen
              have e1 : ((t : Int) == (c1 : Int)) = false := by rw [beq_eq_false_iff_ne]; omega
              have e2 : ¬ (t : Int) = (c1 : Int) := by omega
              have PP : put bb px = ⟨bit x m t, false, 0, true⟩ := by rw [← hpx]; exact put_piece x m c t hlt2 bb hbb false e0
              have CP := Lib.hid (fun w hj => fPut px (by omega) bb _ PP w jb hj)
              have HNX : Hid (decide (0 < t + 1 ∧ t + 1 < c) = true) := Lib.hid (decide_eq_true (by omega))
              clear e0 hen PP hpx hbb HBB hps hgs hbs hfa2
              go_wp2_with fail
              refine (CP.out _ HO.out.j).mono ?_
              rintro _ w4 ⟨rfl, j4, d4⟩
              have HO4 := Lib.hid (HO.out.put j4 d4)
              have RA4 := Lib.hid (row_keeps RA.out d4 HJW.out)
              have r4 : w4.cell? ⟨g1, t, none⟩ = some (.string px) := row_cell RA4.out HPX.out
              have CW := Lib.hid (fWithin w4 jb true HO4.out.j)
              clear j4 d4 HO RA r1 CP
              go_wp2_with (go_at_call 15; ((with_reducible refine CW.out.mono ?_); rintro e w5 ⟨rfl, rfl⟩))
              go_roundg (c - (t + 1))
              case measure => omega
              case rel => exact ⟨t + 1, true, by rw [HGS.out], by first | rfl | go_num, Nat.le_refl _, hlt2, HNX, HO4, RA4⟩
          · obtain rfl : t = c := by omega
            have w1 : decide ((t : Int) < (t : Int)) = false := decide_eq_false (by omega)
            have hg9 := got_all x m t HE.out
            rw [hg9]
            have c9 := C0.out _ HO.out.below
            have HO9 : Hid (One w jb false wr) := Lib.hid (by
              have hb9 : bb = false := by rw [← HBB.out]; exact decide_eq_false (by omega)
              rw [← hb9]; exact HO.out)
            have e1 : (x.toList == x.toList) = true := beq_self_eq_true _
            clear hg9 HBB HO RA
            go_wp2_with fail
            go_roundg (n - (k + 1))
            case measure => omega
            case rel => exact ⟨k + 1, by first | rfl | go_num, Nat.le_refl _, by omega, HO9⟩
    · have u1 : decide ((k : Int) < (n : Int)) = false := decide_eq_false (by omega)
      have u2 : ¬ (k : Int) < (n : Int) := by omega
      go_wp2_with (go_at_call 8; ((with_reducible refine (C5.out _).mono ?_); rintro e w6 ⟨rfl, hb⟩; have HB2 := Lib.hid (below_on HT.out.below hb); clear hb))
      go_ret
      exact ⟨rfl, HB2.out⟩
theorem law (oa : Option Addr) (n cap : Nat) (F : Nat → ByteArray) (_ : n ≤ maxLen) (ob : Option Addr) (nb cb : Nat) (G : Nat → Nat) (hnb : nb ≤ maxLen) (w : World) (hA : ArgT w oa n F) (hB : ArgO w ob nb G) :
    Calls Try.prog 5 #[.slice oa n cap, .slice ob nb cb] w fun e w' => e = .returned (.bool true) ∧ Below w.heap.size w w' := all oa n cap F ob nb cb G hnb w hA hB
end Go.Proofs.Ytidcoodmlgmcjaa.clBack

/-
  The library's pattern-defeating quicksort over octets, and slices.Sort above it. Condition: at most a million elements.
-/
import Derived.Test.YtcadeoolacoidaaSrtHeap
import Derived.Test.YtcadeoolacoidaaSrtIns
import Derived.Test.YtcadeoolacoidaaSrtPart
import Derived.Test.YtcadeoolacoidaaSrtPartEq
import Derived.Test.YtcadeoolacoidaaSrtPins
import Derived.Test.YtcadeoolacoidaaSrtRev
import Derived.Test.YtcadeoolacoidaaSrtPiv
import Derived.Test.YtcadeoolacoidaaSrtBreak
import Derived.Test.YtcadeoolacoidaaSrtPlain
namespace Go.Proofs.Ytcadeoolacoidaa.Srt
open Go.RowKit Go.Proofs.Ytcadeoolacoidaa.Base Go.Proofs.Ytcadeoolacoidaa.Mem
open Go.Sort (PermIn SortedIn permIn_refl permIn_trans permIn_mono insertionSort_holds heapSort_holds partialInsertionSort_holds)
/-- Within the sort: what is still to be sorted lies between a and b, and once it is, the whole is. -/
structure Pq (w0 : World) (blk e : Nat) (rest : Array Value) (n a0 b0 : Nat) (d : Array Nat) (a b : Nat) (dk : Array Nat) (W : World) : Prop where
  row : Sx w0 blk e rest n dk W
  low : Low a b dk
  all : ∀ R, Srtd a b dk R → Srtd a0 b0 d R
theorem Srtd.of_perm {a b : Nat} {d d' R : Array Nat} (hp : PermIn a b d d') (h : Srtd a b d' R) : Srtd a b d R := ⟨permIn_trans _ _ _ _ _ hp h.1, h.2⟩
section
variable {w0 W W' : World} {blk e : Nat} {rest : Array Value} {n a0 b0 a b : Nat} {d dk dl : Array Nat}
theorem Pq.perm (h : Pq w0 blk e rest n a0 b0 d a b dk W) (hb : b ≤ n) (hS : Sx w0 blk e rest n dl W') (hp : PermIn a b dk dl) : Pq w0 blk e rest n a0 b0 d a b dl W' :=
  ⟨hS, h.low.perm (by rw [h.row.size]; exact hb) hp, fun R hR => h.all R (Srtd.of_perm hp hR)⟩
theorem Pq.same (h : Pq w0 blk e rest n a0 b0 d a b dk W) (hS : Sx w0 blk e rest n dk W') : Pq w0 blk e rest n a0 b0 d a b dk W' := ⟨hS, h.low, h.all⟩
theorem Pq.ins (h : Pq w0 blk e rest n a0 b0 d a b dk W) (hab : a ≤ b) (hb : b ≤ n) : Srtd a0 b0 d (Sort.insertionSort lt8 dk a b) :=
  h.all _ (insertionSort_holds swo8 dk a b hab (by rw [h.row.size]; exact hb))
theorem Pq.heap (h : Pq w0 blk e rest n a0 b0 d a b dk W) (hab : a ≤ b) (hb : b ≤ n) : Srtd a0 b0 d (Sort.heapSort lt8 dk a b) :=
  h.all _ (heapSort_holds swo8 dk a b hab (by rw [h.row.size]; exact hb))
theorem Pq.pins (h : Pq w0 blk e rest n a0 b0 d a b dk W) (hab : a < b) (hb : b ≤ n) : PermIn a b dk (Sort.partialInsertionSort lt8 dk a b).1 ∧ ((Sort.partialInsertionSort lt8 dk a b).2 = true → Srtd a0 b0 d (Sort.partialInsertionSort lt8 dk a b).1) := by
  have hp := partialInsertionSort_holds swo8 dk a b hab (by rw [h.row.size]; exact hb) h.low
  exact ⟨hp.1, fun ht => h.all _ ⟨hp.1, hp.2 ht⟩⟩
theorem Pq.eqs {mid p : Nat} (h : Pq w0 blk e rest n a0 b0 d a b dk W) (hb : b ≤ n) (ha : 0 < a) (hl : lt8 dk[a - 1]! dk[p]! = false) (hS : Sx w0 blk e rest n dl W') (hp : PartedEq a b dk dk[p]! dl mid) : Pq w0 blk e rest n a0 b0 d mid b dl W' := by
  have hlow : ∀ k, a ≤ k → k < b → lt8 dk[k]! dk[a - 1]! = false := h.low.resolve_left (by omega)
  have hv : ∀ k, a ≤ k → k < b → lt8 dk[k]! dk[p]! = false := fun k h1 h2 => by
    have := hlow k h1 h2
    simp only [lt8, decide_eq_false_iff_not] at this hl ⊢
    omega
  have hr := hp.rest (by rw [h.row.size]; exact hb) hv
  exact ⟨hS, hr.1, fun R hR => h.all R (hr.2 R hR)⟩
theorem Pq.left {mid : Nat} {dm : Array Nat} (h : Pq w0 blk e rest n a0 b0 d a b dk W) (hb : b ≤ n) (hp : Parted a b dk dl mid) (hL : Srtd a mid dl dm) (hS : Sx w0 blk e rest n dm W') : Pq w0 blk e rest n a0 b0 d (mid + 1) b dm W' := by
  have hr := hp.left (by rw [h.row.size]; exact hb) hL
  exact ⟨hS, hr.1, fun R hR => h.all R (hr.2 R hR)⟩
theorem Pq.right {mid : Nat} {dm : Array Nat} (h : Pq w0 blk e rest n a0 b0 d a b dk W) (hb : b ≤ n) (hp : Parted a b dk dl mid) (hL : Srtd (mid + 1) b dl dm) (hS : Sx w0 blk e rest n dm W') : Pq w0 blk e rest n a0 b0 d a mid dm W' := by
  have hr := hp.right (by rw [h.row.size]; exact hb) h.low hL
  exact ⟨hS, hr.1, fun R hR => h.all R (hr.2 R hR)⟩
end
set_option maxHeartbeats 16000000 in
set_option maxRecDepth 200000 in
theorem fpdq (w0 : World) (blk e : Nat) (rest : Array Value) (n cap : Nat) (hn : n ≤ 1000000) : ∀ (m a0 b0 lim : Nat) (d : Array Nat) (w : World), Low a0 b0 d → Hid (Sx w0 blk e rest n d w) → a0 ≤ b0 → b0 ≤ n → b0 - a0 = m → lim ≤ 64 →
    Calls Try.prog 26 #[.slice (some ⟨blk, 0, none⟩) n cap, .int .i64 (a0 : Int), .int .i64 (b0 : Int), .int .i64 (lim : Int)] w fun r w' =>
      r = .returned (.tuple #[]) ∧ ∃ R, Srtd a0 b0 d R ∧ Sx w0 blk e rest n R w' := by
  intro m
  induction m using Nat.strongRecOn with
  | _ m ih =>
  intro a0 b0 lim0 d w hlow S hab0 hbn0 hm hlim0
  have hind : ∀ (k : Nat), k < m → ∀ (a b lim : Nat) (dk : Array Nat) (W : World), Low a b dk → Hid (Sx w0 blk e rest n dk W) → a ≤ b → b ≤ n → b - a = k → lim ≤ 64 → Calls Try.prog 26 #[.slice (some ⟨blk, 0, none⟩) n cap, .int .i64 (a : Int), .int .i64 (b : Int), .int .i64 (lim : Int)] W fun r w' => r = .returned (.tuple #[]) ∧ ∃ R, Srtd a b dk R ∧ Sx w0 blk e rest n R w' := ih
  have hind' : ∀ (k : Nat), k < m → ∀ (a b lim : Nat) (dk : Array Nat) (W : World) (A : Int), A = (a : Int) → Low a b dk → Hid (Sx w0 blk e rest n dk W) → a ≤ b → b ≤ n → b - a = k → lim ≤ 64 → Calls Try.prog 26 #[.slice (some ⟨blk, 0, none⟩) n cap, .int .i64 A, .int .i64 (b : Int), .int .i64 (lim : Int)] W fun r w' => r = .returned (.tuple #[]) ∧ ∃ R, Srtd a b dk R ∧ Sx w0 blk e rest n R w' :=
    fun k hk a b lim dk W A hA h1 h2 h3 h4 h5 h6 => by rw [hA]; exact ih k hk a b lim dk W h1 h2 h3 h4 h5 h6
  have hind := Lib.hid hind
  have hind' := Lib.hid hind'
  have I0 : Hid (Pq w0 blk e rest n a0 b0 d a0 b0 d w) := ⟨S.out, hlow, fun _ h => h⟩
  clear S hlow ih
  go_enter Try.func26, Try.ntmps26
  go_wp2_with fail
  go_loopg [1, 2, 3, 8, 9, 10, 11, 12, 13, 14, 15, 16, 17, 18] (b0 - a0) (fun g s1 s2 s3 s8 s9 t10 t11 t12 t13 t14 t15 t16 t17 t18 wr => ∃ (a b lim : Nat) (wb wp : Bool) (dk : Array Nat), s1 = .int .i64 (a : Int) ∧ s2 = .int .i64 (b : Int) ∧ s3 = .int .i64 (lim : Int) ∧ s8 = .bool wb ∧ s9 = .bool wp ∧ a0 ≤ a ∧ a ≤ b ∧ b ≤ b0 ∧ b - a ≤ g ∧ lim ≤ 64 ∧ Hid (Pq w0 blk e rest n a0 b0 d a b dk wr))
  case atStart => exact ⟨a0, b0, lim0, true, true, d, rfl, rfl, rfl, rfl, rfl, Nat.le_refl _, hab0, Nat.le_refl _, Nat.le_refl _, hlim0, I0⟩
  case round =>
    clear I0
    obtain ⟨a, b, lim, wb, wp, dk, rfl, rfl, rfl, rfl, rfl, hai, hab, hb0, hg, hlim, I1⟩ := hrel
    have hbn : b ≤ n := by omega
    obtain ⟨l, hl⟩ : ∃ l, l = b - a := ⟨_, rfl⟩
    have l1 : (b : Int) - (a : Int) = (l : Int) := by omega
    have vl := wrap_nat l (by omega)
    by_cases h12 : l ≤ 12
    · have t1 : decide ((l : Int) ≤ 12) = true := decide_eq_true (by omega)
      have t2 : (l : Int) ≤ 12 := by omega
      have HL : Hid (l = b - a) := hl
      clear hl
      go_wp2_with fail
      refine (fins w0 blk e rest n cap a b dk wr hn (Lib.hid I1.out.row) hab hbn).mono ?_
      rintro _ w2 ⟨rfl, S2⟩
      go_wp2
      first | (rw [Exit.noGoto_ret]; refine bodyPost_ret (results_none rfl _ _ _) rfl ?_) | refine bodyPost_ret (results_none rfl _ _ _) rfl ?_
      exact ⟨rfl, _, I1.out.ins hab hbn, S2⟩
    · have t1 : decide ((l : Int) ≤ 12) = false := decide_eq_false (by omega)
      have t2 : ¬ (l : Int) ≤ 12 := by omega
      have hab2 : a + 12 < b := by omega
      have hll : a + l = b := by omega
      have HL : Hid (l = b - a) := hl
      clear hl
      by_cases hl0 : lim = 0
      · subst hl0
        go_wp2_with fail
        refine (fheap w0 blk e rest n cap a b dk wr hn (Lib.hid I1.out.row) (by omega) hbn).mono ?_
        rintro _ w2 ⟨rfl, S2⟩
        go_wp2
        first | (rw [Exit.noGoto_ret]; refine bodyPost_ret (results_none rfl _ _ _) rfl ?_) | refine bodyPost_ret (results_none rfl _ _ _) rfl ?_
        exact ⟨rfl, _, I1.out.heap hab hbn, S2⟩
      · have t3 : ((lim : Int) == 0) = false := by rw [beq_eq_false_iff_ne]; omega
        have t4 : ¬ (lim : Int) = 0 := by omega
        go_upto_if 35 with fail
        go_cut [3] (fun s wx => ∃ (lim2 : Nat) (dk2 : Array Nat), s = .int .i64 (lim2 : Int) ∧ lim2 ≤ 64 ∧ Hid (Pq w0 blk e rest n a0 b0 d a b dk2 wx))
        case first =>
          cases wb with
          | true =>
            go_wp2_with fail
            go_meet
            exact ⟨lim, dk, rfl, hlim, I1⟩
          | false =>
            obtain ⟨k, rfl⟩ : ∃ k, lim = k + 1 := ⟨lim - 1, by omega⟩
            have vk := wrap_nat k (by omega)
            go_wp2_with fail
            refine (fbreak w0 blk e rest n cap a b dk wr hn (Lib.hid I1.out.row) (by omega) hbn).mono ?_
            rintro _ w2 ⟨rfl, dk2, S2, hp⟩
            have I2 : Hid (Pq w0 blk e rest n a0 b0 d a b dk2 w2) := I1.out.perm hbn S2 hp
            clear I1 S2 hp
            go_wp2_with fail
            go_meet
            exact ⟨k, dk2, rfl, by omega, I2⟩
        case rest =>
          clear I1
          obtain ⟨lim2, dk2, rfl, hl2, I2⟩ := hcut
          clear t3 t4
          go_wp2_with fail
          refine (fchoose w0 blk e rest n cap a b dk2 wc hn (Lib.hid I2.out.row) hab2 hbn).mono ?_
          rintro _ w2 ⟨x, h, rfl, hxa, hxb, hh, S2⟩
          have I3 : Hid (Pq w0 blk e rest n a0 b0 d a b dk2 w2) := I2.out.same S2
          clear I2 S2
          obtain ⟨qh, hqh⟩ : ∃ qh, ((h : Int) == 2) = qh := ⟨_, rfl⟩
          go_upto_if 50 with fail
          go_cut [11, 12] (fun s t wx => ∃ (x h : Nat) (dk : Array Nat), s = .int .i64 (x : Int) ∧ t = .int .i64 (h : Int) ∧ a ≤ x ∧ x < b ∧ h ≤ 2 ∧ Hid (Pq w0 blk e rest n a0 b0 d a b dk wx))
          case first =>
            cases qh with
            | false =>
              go_wp2_with fail
              go_meet
              exact ⟨x, h, dk2, rfl, rfl, hxa, hxb, hh, I3⟩
            | true =>
              go_wp2_with fail
              refine (frev w0 blk e rest n cap a b dk2 w2 hn (Lib.hid I3.out.row) (by omega) hbn).mono ?_
              rintro _ w3 ⟨rfl, dk3, S3, hp⟩
              have I4 : Hid (Pq w0 blk e rest n a0 b0 d a b dk3 w3) := I3.out.perm hbn S3 hp
              clear I3 S3 hp
              obtain ⟨u, hu⟩ : ∃ u, u = b - 1 := ⟨_, rfl⟩
              have u1 : (b : Int) - 1 = (u : Int) := by omega
              have vu := wrap_nat u (by omega)
              obtain ⟨v, hv⟩ : ∃ v, v = x - a := ⟨_, rfl⟩
              have v1 : (x : Int) - (a : Int) = (v : Int) := by omega
              have vv := wrap_nat v (by omega)
              obtain ⟨y, hy⟩ : ∃ y, y = u - v := ⟨_, rfl⟩
              have y1 : (u : Int) - (v : Int) = (y : Int) := by omega
              have vy := wrap_nat y (by omega)
              have y2 : a ≤ y ∧ y < b := by omega
              clear hu hv hy
              go_wp2_with fail
              go_meet
              exact ⟨y, 1, dk3, rfl, rfl, y2.1, y2.2, by decide, I4⟩
          case rest =>
            clear I3 hqh hxa hxb hh
            obtain ⟨xp, h, dk, rfl, rfl, hx1, hx2, hh, I4⟩ := hcut
            go_upto_region 15 with fail
            go_cut [68] (fun s wx => ∃ q, s = .bool q ∧ Hid (Pq w0 blk e rest n a0 b0 d a b dk wx))
            case first =>
              have e2 : ((h : Int) == 1) = decide (h = 1) := by
                by_cases hh1 : h = 1
                · rw [decide_eq_true hh1, beq_iff_eq]; omega
                · rw [decide_eq_false hh1, beq_eq_false_iff_ne]; omega
              obtain ⟨qh, hqh⟩ : ∃ qh, ((h : Int) == 1) = qh := ⟨_, rfl⟩
              clear e2
              cases wb with
              | false =>
                go_wp2_with fail
                go_meet
                exact ⟨_, rfl, I4⟩
              | true =>
                cases wp with
                | false =>
                  go_wp2_with fail
                  go_meet
                  exact ⟨_, rfl, I4⟩
                | true =>
                  go_wp2_with fail
                  go_meet
                  exact ⟨_, rfl, I4⟩
            case rest =>
              clear I4
              obtain ⟨q5, rfl, J1⟩ := hcut
              cases q5 with
              | true =>
                go_wp2_with fail
                refine (fpins w0 blk e rest n cap a b dk wc hn (Lib.hid J1.out.row) (by omega) hbn).mono ?_
                rintro _ w6 ⟨rfl, S6⟩
                have HP := J1.out.pins (by omega) hbn
                obtain ⟨E, hE⟩ : ∃ E, E = Sort.partialInsertionSort lt8 dk a b := ⟨_, rfl⟩
                rw [← hE] at S6 HP ⊢
                clear hE
                obtain ⟨dn, q6⟩ := E
                cases q6 with
                | true =>
                  go_wp2
                  first | (rw [Exit.noGoto_ret]; refine bodyPost_ret (results_none rfl _ _ _) rfl ?_) | refine bodyPost_ret (results_none rfl _ _ _) rfl ?_
                  exact ⟨rfl, dn, HP.2 (by first | rfl | trivial), S6⟩
                | false =>
                  have J0 : Hid (Pq w0 blk e rest n a0 b0 d a b dn w6) := J1.out.perm hbn S6 HP.1
                  clear J1 S6 HP
                  have J1 := J0
                  clear J0
                  by_cases ha0 : a = 0
                  · have g1 : decide ((0 : Int) < (a : Int)) = false := decide_eq_false (by omega)
                    have g1n : ¬ (0 : Int) < (a : Int) := by omega
                    have g2 : decide (0 < a) = false := decide_eq_false (by omega)
                    have g2n : ¬ 0 < a := by omega
                    clear ha0
                    have S6 : Hid (Sx w0 blk e rest n dn w6) := J1.out.row
                    go_wp2_with fail
                    go_quiet (fail)
                    have J0 : Hid (Pq w0 blk e rest n a0 b0 d a b dn (w6.drewN nq)) := J1.out.same (S6.out.drewN nq)
                    clear J1 S6
                    have J1 := J0
                    clear J0
                    generalize w6.drewN nq = w7 at J1 ⊢
                    clear g1 g1n g2 g2n
                    go_wp2_with fail
                    refine (fpart w0 blk e rest n cap a b xp dn w7 hn (Lib.hid J1.out.row) hx1 hx2 hbn).mono ?_
                    rintro _ w8 ⟨mid, dl, ap, rfl, S8, HP⟩
                    have HP := Lib.hid HP
                    have S8 := Lib.hid S8
                    have m1 : a ≤ mid := HP.out.ge
                    have m2 : mid < b := HP.out.lt
                    obtain ⟨ll, hll⟩ : ∃ ll, ll = mid - a := ⟨_, rfl⟩
                    have ll1 : (mid : Int) - (a : Int) = (ll : Int) := by omega
                    have vll := wrap_nat ll (by omega)
                    obtain ⟨rl, hrl⟩ : ∃ rl, rl = b - mid := ⟨_, rfl⟩
                    have rl1 : (b : Int) - (mid : Int) = (rl : Int) := by omega
                    have vrl := wrap_nat rl (by omega)
                    obtain ⟨l8, hl8⟩ : ∃ l8, l8 = l / 8 := ⟨_, rfl⟩
                    have l81 : (l : Int) / 8 = (l8 : Int) := by omega
                    have l82 : (l : Int).tdiv 8 = (l8 : Int) := by rw [Int.tdiv_eq_ediv_of_nonneg (by omega)]; omega
                    have vl8 := wrap_nat l8 (by omega)
                    have vmid := wrap_nat (mid + 1) (by omega)
                    have HLL : Hid (ll = mid - a ∧ rl = b - mid ∧ l8 = l / 8) := ⟨hll, hrl, hl8⟩
                    clear hll hrl hl8
                    by_cases hlr : ll < rl
                    · have t1 : decide ((ll : Int) < (rl : Int)) = true := decide_eq_true (by omega)
                      have t2 : (ll : Int) < (rl : Int) := by omega
                      go_wp2_with fail
                      refine (hind (mid - a) (by omega) a mid lim2 dl w8 (HP.out.low (by rw [J1.out.row.size]; exact hbn) J1.out.low).1 S8 m1 (by omega) rfl hl2).mono ?_
                      rintro _ w9 ⟨rfl, dm, HL, S9⟩
                      have J2 : Hid (Pq w0 blk e rest n a0 b0 d (mid + 1) b dm w9) := J1.out.left hbn HP.out HL S9
                      clear J1 S8 S9 HL HP
                      go_wp2
                      go_roundg (b - (mid + 1))
                      case measure => omega
                      case rel => exact ⟨mid + 1, b, lim2, _, ap, dm, by first | rfl | go_num | (congr 1; omega), rfl, rfl, rfl, rfl, by omega, by omega, hb0, Nat.le_refl _, hl2, J2⟩
                    · have t1 : decide ((ll : Int) < (rl : Int)) = false := decide_eq_false (by omega)
                      have t2 : ¬ (ll : Int) < (rl : Int) := by omega
                      go_wp2_with fail
                      refine (hind' (b - (mid + 1)) (by omega) (mid + 1) b lim2 dl w8 _ (by omega) (HP.out.low (by rw [J1.out.row.size]; exact hbn) J1.out.low).2 S8 (by omega) hbn rfl hl2).mono ?_
                      rintro _ w9 ⟨rfl, dm, HL, S9⟩
                      have J2 : Hid (Pq w0 blk e rest n a0 b0 d a mid dm w9) := J1.out.right hbn HP.out HL S9
                      clear J1 S8 S9 HL HP
                      go_wp2
                      go_roundg (mid - a)
                      case measure => omega
                      case rel => exact ⟨a, mid, lim2, _, ap, dm, rfl, rfl, rfl, rfl, rfl, hai, by omega, by omega, Nat.le_refl _, hl2, J2⟩
                  · obtain ⟨a1, ha1⟩ : ∃ a1, a1 = a - 1 := ⟨_, rfl⟩
                    have a11 : (a : Int) - 1 = (a1 : Int) := by omega
                    have va1 := wrap_nat a1 (by omega)
                    have g1 : decide ((0 : Int) < (a : Int)) = true := decide_eq_true (by omega)
                    have g1n : (0 : Int) < (a : Int) := by omega
                    have g2 : decide (0 < a) = true := decide_eq_true (by omega)
                    have g2n : 0 < a := by omega
                    have z1 : (a1 : Int) < (n : Int) := by omega
                    have z2 : (xp : Int) < (n : Int) := by omega
                    have HA : Hid (a1 = a - 1) := ha1
                    have z3 : a1 < n := by omega
                    have z4 : xp < n := by omega
                    clear ha1
                    have R1 : Hid (Sx w0 blk e rest n dn w6) := J1.out.row
                    obtain ⟨x, hx⟩ : ∃ x, x = dn[a1]! := ⟨_, rfl⟩
                    obtain ⟨y, hy⟩ : ∃ y, y = dn[xp]! := ⟨_, rfl⟩
                    have c1 : w6.cell? ⟨blk, a1, none⟩ = some (num x) := by rw [hx]; exact R1.out.cell (by assumption)
                    have c2 : w6.cell? ⟨blk, xp, none⟩ = some (num y) := by rw [hy]; exact R1.out.cell (by assumption)
                    have hX : Hid (x = dn[a1]!) := hx
                    have hY : Hid (y = dn[xp]!) := hy
                    clear hx hy
                    obtain ⟨q, hq⟩ : ∃ q, decide (x < y) = q := ⟨_, rfl⟩
                    have cc : ∀ m, Calls Try.prog 34 #[.int .u8 (x : Int), .int .u8 (y : Int)] (w6.drewN m) fun e w' => e = .returned (.bool q) ∧ w' = w6.drewN m := fun m => by rw [← hq]; exact fless x y _
                    have HQ : Hid (decide (x < y) = q) := hq
                    clear hq
                    go_wp2_with fail
                    go_quiet ((go_at_call 34; exact Calls.quiet_of_same (cc _)))
                    have R2 : Hid (Sx w0 blk e rest n dn (w6.drewN nq)) := R1.out.drewN nq
                    clear c1 c2 cc 
                    generalize w6.drewN nq = w7 at R2 ⊢
                    have J0 : Hid (Pq w0 blk e rest n a0 b0 d a b dn w7) := J1.out.same R2.out
                    clear J1 R1 R2 g1 g1n g2
                    have J1 := J0
                    clear J0
                    cases q with
                    | true =>
                      clear hX hY HQ
                      go_wp2_with fail
                      refine (fpart w0 blk e rest n cap a b xp dn w7 hn (Lib.hid J1.out.row) hx1 hx2 hbn).mono ?_
                      rintro _ w8 ⟨mid, dl, ap, rfl, S8, HP⟩
                      have HP := Lib.hid HP
                      have S8 := Lib.hid S8
                      have m1 : a ≤ mid := HP.out.ge
                      have m2 : mid < b := HP.out.lt
                      obtain ⟨ll, hll⟩ : ∃ ll, ll = mid - a := ⟨_, rfl⟩
                      have ll1 : (mid : Int) - (a : Int) = (ll : Int) := by omega
                      have vll := wrap_nat ll (by omega)
                      obtain ⟨rl, hrl⟩ : ∃ rl, rl = b - mid := ⟨_, rfl⟩
                      have rl1 : (b : Int) - (mid : Int) = (rl : Int) := by omega
                      have vrl := wrap_nat rl (by omega)
                      obtain ⟨l8, hl8⟩ : ∃ l8, l8 = l / 8 := ⟨_, rfl⟩
                      have l81 : (l : Int) / 8 = (l8 : Int) := by omega
                      have l82 : (l : Int).tdiv 8 = (l8 : Int) := by rw [Int.tdiv_eq_ediv_of_nonneg (by omega)]; omega
                      have vl8 := wrap_nat l8 (by omega)
                      have vmid := wrap_nat (mid + 1) (by omega)
                      have HLL : Hid (ll = mid - a ∧ rl = b - mid ∧ l8 = l / 8) := ⟨hll, hrl, hl8⟩
                      clear hll hrl hl8
                      by_cases hlr : ll < rl
                      · have t1 : decide ((ll : Int) < (rl : Int)) = true := decide_eq_true (by omega)
                        have t2 : (ll : Int) < (rl : Int) := by omega
                        go_wp2_with fail
                        refine (hind (mid - a) (by omega) a mid lim2 dl w8 (HP.out.low (by rw [J1.out.row.size]; exact hbn) J1.out.low).1 S8 m1 (by omega) rfl hl2).mono ?_
                        rintro _ w9 ⟨rfl, dm, HL, S9⟩
                        have J2 : Hid (Pq w0 blk e rest n a0 b0 d (mid + 1) b dm w9) := J1.out.left hbn HP.out HL S9
                        clear J1 S8 S9 HL HP
                        go_wp2
                        go_roundg (b - (mid + 1))
                        case measure => omega
                        case rel => exact ⟨mid + 1, b, lim2, _, ap, dm, by first | rfl | go_num | (congr 1; omega), rfl, rfl, rfl, rfl, by omega, by omega, hb0, Nat.le_refl _, hl2, J2⟩
                      · have t1 : decide ((ll : Int) < (rl : Int)) = false := decide_eq_false (by omega)
                        have t2 : ¬ (ll : Int) < (rl : Int) := by omega
                        go_wp2_with fail
                        refine (hind' (b - (mid + 1)) (by omega) (mid + 1) b lim2 dl w8 _ (by omega) (HP.out.low (by rw [J1.out.row.size]; exact hbn) J1.out.low).2 S8 (by omega) hbn rfl hl2).mono ?_
                        rintro _ w9 ⟨rfl, dm, HL, S9⟩
                        have J2 : Hid (Pq w0 blk e rest n a0 b0 d a mid dm w9) := J1.out.right hbn HP.out HL S9
                        clear J1 S8 S9 HL HP
                        go_wp2
                        go_roundg (mid - a)
                        case measure => omega
                        case rel => exact ⟨a, mid, lim2, _, ap, dm, rfl, rfl, rfl, rfl, rfl, hai, by omega, by omega, Nat.le_refl _, hl2, J2⟩
                    | false =>
                      have hl : lt8 dn[a - 1]! dn[xp]! = false := by rw [← HA.out, ← hX.out, ← hY.out]; exact HQ.out
                      have hl := Lib.hid hl
                      clear hX hY HQ
                      go_wp2_with fail
                      refine (fparteq w0 blk e rest n cap a b xp dn w7 hn (Lib.hid J1.out.row) hx1 hx2 hbn).mono ?_
                      rintro _ w8 ⟨mid, dl, rfl, S8, HP⟩
                      have m1 : a < mid := HP.gt
                      have m2 : mid ≤ b := HP.le
                      have J2 : Hid (Pq w0 blk e rest n a0 b0 d mid b dl w8) := J1.out.eqs hbn (by omega) hl.out S8 HP
                      clear J1 S8 HP hl
                      go_wp2
                      go_roundg (b - mid)
                      case measure => omega
                      case rel => exact ⟨mid, b, lim2, wb, wp, dl, rfl, rfl, rfl, rfl, rfl, by omega, by omega, hb0, Nat.le_refl _, hl2, J2⟩
              | false =>
                by_cases ha0 : a = 0
                · have g1 : decide ((0 : Int) < (a : Int)) = false := decide_eq_false (by omega)
                  have g1n : ¬ (0 : Int) < (a : Int) := by omega
                  have g2 : decide (0 < a) = false := decide_eq_false (by omega)
                  have g2n : ¬ 0 < a := by omega
                  clear ha0
                  have S6 : Hid (Sx w0 blk e rest n dk wc) := J1.out.row
                  go_wp2_with fail
                  go_quiet (fail)
                  have J0 : Hid (Pq w0 blk e rest n a0 b0 d a b dk (wc.drewN nq)) := J1.out.same (S6.out.drewN nq)
                  clear J1 S6
                  have J1 := J0
                  clear J0
                  generalize wc.drewN nq = w7 at J1 ⊢
                  clear g1 g1n g2 g2n
                  go_wp2_with fail
                  refine (fpart w0 blk e rest n cap a b xp dk w7 hn (Lib.hid J1.out.row) hx1 hx2 hbn).mono ?_
                  rintro _ w8 ⟨mid, dl, ap, rfl, S8, HP⟩
                  have HP := Lib.hid HP
                  have S8 := Lib.hid S8
                  have m1 : a ≤ mid := HP.out.ge
                  have m2 : mid < b := HP.out.lt
                  obtain ⟨ll, hll⟩ : ∃ ll, ll = mid - a := ⟨_, rfl⟩
                  have ll1 : (mid : Int) - (a : Int) = (ll : Int) := by omega
                  have vll := wrap_nat ll (by omega)
                  obtain ⟨rl, hrl⟩ : ∃ rl, rl = b - mid := ⟨_, rfl⟩
                  have rl1 : (b : Int) - (mid : Int) = (rl : Int) := by omega
                  have vrl := wrap_nat rl (by omega)
                  obtain ⟨l8, hl8⟩ : ∃ l8, l8 = l / 8 := ⟨_, rfl⟩
                  have l81 : (l : Int) / 8 = (l8 : Int) := by omega
                  have l82 : (l : Int).tdiv 8 = (l8 : Int) := by rw [Int.tdiv_eq_ediv_of_nonneg (by omega)]; omega
                  have vl8 := wrap_nat l8 (by omega)
                  have vmid := wrap_nat (mid + 1) (by omega)
                  have HLL : Hid (ll = mid - a ∧ rl = b - mid ∧ l8 = l / 8) := ⟨hll, hrl, hl8⟩
                  clear hll hrl hl8
                  by_cases hlr : ll < rl
                  · have t1 : decide ((ll : Int) < (rl : Int)) = true := decide_eq_true (by omega)
                    have t2 : (ll : Int) < (rl : Int) := by omega
                    go_wp2_with fail
                    refine (hind (mid - a) (by omega) a mid lim2 dl w8 (HP.out.low (by rw [J1.out.row.size]; exact hbn) J1.out.low).1 S8 m1 (by omega) rfl hl2).mono ?_
                    rintro _ w9 ⟨rfl, dm, HL, S9⟩
                    have J2 : Hid (Pq w0 blk e rest n a0 b0 d (mid + 1) b dm w9) := J1.out.left hbn HP.out HL S9
                    clear J1 S8 S9 HL HP
                    go_wp2
                    go_roundg (b - (mid + 1))
                    case measure => omega
                    case rel => exact ⟨mid + 1, b, lim2, _, ap, dm, by first | rfl | go_num | (congr 1; omega), rfl, rfl, rfl, rfl, by omega, by omega, hb0, Nat.le_refl _, hl2, J2⟩
                  · have t1 : decide ((ll : Int) < (rl : Int)) = false := decide_eq_false (by omega)
                    have t2 : ¬ (ll : Int) < (rl : Int) := by omega
                    go_wp2_with fail
                    refine (hind' (b - (mid + 1)) (by omega) (mid + 1) b lim2 dl w8 _ (by omega) (HP.out.low (by rw [J1.out.row.size]; exact hbn) J1.out.low).2 S8 (by omega) hbn rfl hl2).mono ?_
                    rintro _ w9 ⟨rfl, dm, HL, S9⟩
                    have J2 : Hid (Pq w0 blk e rest n a0 b0 d a mid dm w9) := J1.out.right hbn HP.out HL S9
                    clear J1 S8 S9 HL HP
                    go_wp2
                    go_roundg (mid - a)
                    case measure => omega
                    case rel => exact ⟨a, mid, lim2, _, ap, dm, rfl, rfl, rfl, rfl, rfl, hai, by omega, by omega, Nat.le_refl _, hl2, J2⟩
                · obtain ⟨a1, ha1⟩ : ∃ a1, a1 = a - 1 := ⟨_, rfl⟩
                  have a11 : (a : Int) - 1 = (a1 : Int) := by omega
                  have va1 := wrap_nat a1 (by omega)
                  have g1 : decide ((0 : Int) < (a : Int)) = true := decide_eq_true (by omega)
                  have g1n : (0 : Int) < (a : Int) := by omega
                  have g2 : decide (0 < a) = true := decide_eq_true (by omega)
                  have g2n : 0 < a := by omega
                  have z1 : (a1 : Int) < (n : Int) := by omega
                  have z2 : (xp : Int) < (n : Int) := by omega
                  have HA : Hid (a1 = a - 1) := ha1
                  have z3 : a1 < n := by omega
                  have z4 : xp < n := by omega
                  clear ha1
                  have R1 : Hid (Sx w0 blk e rest n dk wc) := J1.out.row
                  obtain ⟨x, hx⟩ : ∃ x, x = dk[a1]! := ⟨_, rfl⟩
                  obtain ⟨y, hy⟩ : ∃ y, y = dk[xp]! := ⟨_, rfl⟩
                  have c1 : wc.cell? ⟨blk, a1, none⟩ = some (num x) := by rw [hx]; exact R1.out.cell (by assumption)
                  have c2 : wc.cell? ⟨blk, xp, none⟩ = some (num y) := by rw [hy]; exact R1.out.cell (by assumption)
                  have hX : Hid (x = dk[a1]!) := hx
                  have hY : Hid (y = dk[xp]!) := hy
                  clear hx hy
                  obtain ⟨q, hq⟩ : ∃ q, decide (x < y) = q := ⟨_, rfl⟩
                  have cc : ∀ m, Calls Try.prog 34 #[.int .u8 (x : Int), .int .u8 (y : Int)] (wc.drewN m) fun e w' => e = .returned (.bool q) ∧ w' = wc.drewN m := fun m => by rw [← hq]; exact fless x y _
                  have HQ : Hid (decide (x < y) = q) := hq
                  clear hq
                  go_wp2_with fail
                  go_quiet ((go_at_call 34; exact Calls.quiet_of_same (cc _)))
                  have R2 : Hid (Sx w0 blk e rest n dk (wc.drewN nq)) := R1.out.drewN nq
                  clear c1 c2 cc 
                  generalize wc.drewN nq = w7 at R2 ⊢
                  have J0 : Hid (Pq w0 blk e rest n a0 b0 d a b dk w7) := J1.out.same R2.out
                  clear J1 R1 R2 g1 g1n g2
                  have J1 := J0
                  clear J0
                  cases q with
                  | true =>
                    clear hX hY HQ
                    go_wp2_with fail
                    refine (fpart w0 blk e rest n cap a b xp dk w7 hn (Lib.hid J1.out.row) hx1 hx2 hbn).mono ?_
                    rintro _ w8 ⟨mid, dl, ap, rfl, S8, HP⟩
                    have HP := Lib.hid HP
                    have S8 := Lib.hid S8
                    have m1 : a ≤ mid := HP.out.ge
                    have m2 : mid < b := HP.out.lt
                    obtain ⟨ll, hll⟩ : ∃ ll, ll = mid - a := ⟨_, rfl⟩
                    have ll1 : (mid : Int) - (a : Int) = (ll : Int) := by omega
                    have vll := wrap_nat ll (by omega)
                    obtain ⟨rl, hrl⟩ : ∃ rl, rl = b - mid := ⟨_, rfl⟩
                    have rl1 : (b : Int) - (mid : Int) = (rl : Int) := by omega
                    have vrl := wrap_nat rl (by omega)
                    obtain ⟨l8, hl8⟩ : ∃ l8, l8 = l / 8 := ⟨_, rfl⟩
                    have l81 : (l : Int) / 8 = (l8 : Int) := by omega
                    have l82 : (l : Int).tdiv 8 = (l8 : Int) := by rw [Int.tdiv_eq_ediv_of_nonneg (by omega)]; omega
                    have vl8 := wrap_nat l8 (by omega)
                    have vmid := wrap_nat (mid + 1) (by omega)
                    have HLL : Hid (ll = mid - a ∧ rl = b - mid ∧ l8 = l / 8) := ⟨hll, hrl, hl8⟩
                    clear hll hrl hl8
                    by_cases hlr : ll < rl
                    · have t1 : decide ((ll : Int) < (rl : Int)) = true := decide_eq_true (by omega)
                      have t2 : (ll : Int) < (rl : Int) := by omega
                      go_wp2_with fail
                      refine (hind (mid - a) (by omega) a mid lim2 dl w8 (HP.out.low (by rw [J1.out.row.size]; exact hbn) J1.out.low).1 S8 m1 (by omega) rfl hl2).mono ?_
                      rintro _ w9 ⟨rfl, dm, HL, S9⟩
                      have J2 : Hid (Pq w0 blk e rest n a0 b0 d (mid + 1) b dm w9) := J1.out.left hbn HP.out HL S9
                      clear J1 S8 S9 HL HP
                      go_wp2
                      go_roundg (b - (mid + 1))
                      case measure => omega
                      case rel => exact ⟨mid + 1, b, lim2, _, ap, dm, by first | rfl | go_num | (congr 1; omega), rfl, rfl, rfl, rfl, by omega, by omega, hb0, Nat.le_refl _, hl2, J2⟩
                    · have t1 : decide ((ll : Int) < (rl : Int)) = false := decide_eq_false (by omega)
                      have t2 : ¬ (ll : Int) < (rl : Int) := by omega
                      go_wp2_with fail
                      refine (hind' (b - (mid + 1)) (by omega) (mid + 1) b lim2 dl w8 _ (by omega) (HP.out.low (by rw [J1.out.row.size]; exact hbn) J1.out.low).2 S8 (by omega) hbn rfl hl2).mono ?_
                      rintro _ w9 ⟨rfl, dm, HL, S9⟩
                      have J2 : Hid (Pq w0 blk e rest n a0 b0 d a mid dm w9) := J1.out.right hbn HP.out HL S9
                      clear J1 S8 S9 HL HP
                      go_wp2
                      go_roundg (mid - a)
                      case measure => omega
                      case rel => exact ⟨a, mid, lim2, _, ap, dm, rfl, rfl, rfl, rfl, rfl, hai, by omega, by omega, Nat.le_refl _, hl2, J2⟩
                  | false =>
                    have hl : lt8 dk[a - 1]! dk[xp]! = false := by rw [← HA.out, ← hX.out, ← hY.out]; exact HQ.out
                    have hl := Lib.hid hl
                    clear hX hY HQ
                    go_wp2_with fail
                    refine (fparteq w0 blk e rest n cap a b xp dk w7 hn (Lib.hid J1.out.row) hx1 hx2 hbn).mono ?_
                    rintro _ w8 ⟨mid, dl, rfl, S8, HP⟩
                    have m1 : a < mid := HP.gt
                    have m2 : mid ≤ b := HP.le
                    have J2 : Hid (Pq w0 blk e rest n a0 b0 d mid b dl w8) := J1.out.eqs hbn (by omega) hl.out S8 HP
                    clear J1 S8 HP hl
                    go_wp2
                    go_roundg (b - mid)
                    case measure => omega
                    case rel => exact ⟨mid, b, lim2, wb, wp, dl, rfl, rfl, rfl, rfl, rfl, by omega, by omega, hb0, Nat.le_refl _, hl2, J2⟩
theorem fsort (w0 : World) (blk e : Nat) (rest : Array Value) (n cap : Nat) (d : Array Nat) (w : World) (hn : n ≤ 1000000) (S : Hid (Sx w0 blk e rest n d w)) :
    Calls Try.prog 25 #[.slice (some ⟨blk, 0, none⟩) n cap] w fun r w' =>
      r = .returned (.tuple #[]) ∧ ∃ R, Srtd 0 n d R ∧ Sx w0 blk e rest n R w' := by
  have un : IntKind.u64.wrap (n : Int) = (n : Int) := by rw [IntKind.wrap_u64]; omega
  obtain ⟨k, hk⟩ : ∃ k, k = Lib.bitLen n := ⟨_, rfl⟩
  have hk6 : k ≤ 64 := by
    by_cases h : n = 0
    · subst h; subst hk; decide
    · have := (len_pow n (by omega) hn).1; omega
  have cl : ∀ w, Calls Try.prog 27 #[.int .u64 (n : Int)] w fun e w' => e = .returned (.int .i64 (k : Int)) ∧ w' = w := fun w => by rw [hk]; exact flen n hn w
  clear hk
  have cp : Calls Try.prog 26 #[.slice (some ⟨blk, 0, none⟩) n cap, .int .i64 0, .int .i64 (n : Int), .int .i64 (k : Int)] w fun r w' =>
      r = .returned (.tuple #[]) ∧ ∃ R, Srtd 0 n d R ∧ Sx w0 blk e rest n R w' := fpdq w0 blk e rest n cap hn (n - 0) 0 n k d w (Or.inl rfl) S (Nat.zero_le _) (Nat.le_refl _) rfl hk6
  have cp := Lib.hid cp
  go_enter Try.func25, Try.ntmps25
  go_wp2_with (first | (go_at_call 27; refine (cl _).mono ?_; rintro e w' ⟨rfl, rfl⟩))
  refine cp.out.mono ?_
  rintro _ w' ⟨rfl, R, h1, h2⟩
  go_wp2
  first | (rw [Exit.noGoto_ret]; refine bodyPost_ret (results_none rfl _ _ _) rfl ?_) | refine bodyPost_ret (results_none rfl _ _ _) rfl ?_ | go_end0
  exact ⟨rfl, R, h1, h2⟩
end Go.Proofs.Ytcadeoolacoidaa.Srt

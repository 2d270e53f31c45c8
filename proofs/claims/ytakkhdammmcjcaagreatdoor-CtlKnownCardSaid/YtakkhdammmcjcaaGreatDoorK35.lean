/-
  Layer 22, put together: CtlAsked. Conditions: as each theorem names them.
-/
import Derived.Test.YtakkhdammmcjcaaGreatDoorK34
import Derived.Test.YtakkhdammmcjcaaGreatDoorK01
namespace Go.Proofs.YtakkhdammmcjcaaGreatDoor.Ctl
open Go.RowKit Base Mem Msgs Cr
set_option maxRecDepth 100000
theorem rowOf_drop (F : Nat → Ms) {n k : Nat} (h : k < n) : (rowOf F n).drop k = F k :: (rowOf F n).drop (k + 1) := by
 have hk : k < (rowOf F n).length := by rw [rowOf_len]; exact h
 have := rowOf_get (F := F) h
 rw [List.getElem?_eq_getElem hk, Option.some.injEq] at this
 rw [List.drop_eq_getElem_cons hk, this]
theorem stayed_step (F : Nat → Ms) {n k : Nat} (h : k < n) (m : Ms) : stayed ((rowOf F n).drop k) m = (!(mayAsk (F k) && same m (F k)) && stayed ((rowOf F n).drop (k + 1)) m) := by rw [rowOf_drop F h, stays_cons]
theorem asked_step (F : Nat → Ms) {n k : Nat} (h : k < n) : asked ((rowOf F n).drop k) = if mayAsk (F k) && stayed ((rowOf F n).drop (k + 1)) (F k) then F k :: asked ((rowOf F n).drop (k + 1)) else asked ((rowOf F n).drop (k + 1)) := by rw [rowOf_drop F h]; rfl
/-- Within asked: what was taken so far; nothing that was there has turned. -/
structure Ia (w : World) (v : Value) (acc : List Ms) (u : World) : Prop where
 own : OwnS MT 20 ml u w.heap.size v acc
 below : Below w.heap.size w u
section
variable {w u u' : World} {v v' : Value} {acc acc' : List Ms}
theorem Ia.on (h : Ia w v acc u) (hb : Below u.heap.size u u') : Ia w v acc u' := ⟨h.own.below hb, below_on h.below hb⟩
theorem Ia.to (_ : Ia w v acc u) (hb : Below w.heap.size w u') (ho : OwnS MT 20 ml u' w.heap.size v acc) : Ia w v acc u' := ⟨ho, hb⟩
theorem Ia.more (h : Ia w v acc u) (ho : OwnS MT 20 ml u' w.heap.size v' acc') (hg : u.grownBy u' v.ownBlock) : Ia w v' acc' u' := ⟨ho, h.below.grown hg h.below.size fun k hk => (h.own.lt k hk).1⟩
theorem Ia.cast (h : Ia w v acc u) (e : acc' = acc) : Ia w v acc' u := e ▸ h
end
set_option maxHeartbeats 16000000 in
theorem lasked (oa : Option Addr) (n cap : Nat) (F : Nat → Ms) (hn : n ≤ 1000) (w : World) (ht : Tab w) (hA : ArgS 20 ml Fits w oa n F) :
 Calls Tryz.prog 22 #[.slice oa n cap] w fun e w' => ∃ v, e = .returned v ∧ OwnS MT 20 ml w' w.heap.size v (asked (rowOf F n)) ∧ Below w.heap.size w w' := by
 have HT := Lib.hid ht
 have HA := Lib.hid hA
 have CR := Lib.hid (fun (m : Ms) (w : World) => fref m w)
 have HI0 : Hid (Ia w (.slice none 0 0) [] w) := Lib.hid ⟨ownS_nil _ _, Below.refl _ _⟩
 clear ht hA
 go_enter Tryz.func22, Tryz.ntmps22
 go_wp2_with fail
 go_loopg [3, 4] n (fun gm s3 s4 wr => ∃ (i : Nat) (acc : List Ms) (ov3 : Option Addr) (n3 c3 : Nat), s4 = nm i ∧ s3 = .slice ov3 n3 c3 ∧ n - i ≤ gm ∧ i ≤ n ∧ Hid (acc ++ asked ((rowOf F n).drop i) = asked (rowOf F n) ∧ acc.length ≤ i) ∧ Hid (Ia w (.slice ov3 n3 c3) acc wr))
 case atStart => exact ⟨0, [], none, 0, 0, by first | rfl | go_num, rfl, by omega, by omega, Lib.hid ⟨rfl, Nat.le_refl _⟩, HI0⟩
 case round =>
  clear HI0
  obtain ⟨i, acc, ov3, n3, c3, rfl, rfl, hgm, hin, HE, HI⟩ := hrel
  by_cases hlt : i < n
  · have t1 : decide ((i : Int) < (n : Int)) = true := decide_eq_true (by omega)
    have t2 : (i : Int) < (n : Int) := by omega
    have t3 : (0 : Int) ≤ (i : Int) := by omega
    have vi := nat_wrap (i + 1) (by omega)
    obtain ⟨a, gb, go, rfl, hadd, hgb, hrw⟩ := arg_m HA.out hlt
    have hyi := (HA.out.inb i hlt).1
    have HST := Lib.hid (fun k (h : k < n) => stayed_step F h (F i))
    have HAS := Lib.hid (asked_step F hlt)
    obtain ⟨y, hy⟩ : ∃ y, F i = y := ⟨_, rfl⟩
    rw [hy] at hrw hyi HST HAS
    have HWY := Lib.hid hrw
    have CY := Lib.hid (fun w => rchannel y hyi w)
    have CMY := fun (u : World) hu => lmay y hyi u hu
    have HYI := Lib.hid hyi
    have HL0 : Hid ((true && stayed ((rowOf F n).drop (i + 1)) y) = stayed ((rowOf F n).drop (i + 1)) y) := Lib.hid (Bool.true_and _)
    clear hrw hyi hy hgb
    go_wp2_with fail
    go_loopg [5, 6] n (fun gm s5 s6 wr => ∃ (k : Nat) (q : Bool), s6 = nm k ∧ s5 = .bool q ∧ n - k ≤ gm ∧ i < k ∧ k ≤ n ∧ Hid ((q && stayed ((rowOf F n).drop k) y) = stayed ((rowOf F n).drop (i + 1)) y) ∧ Hid (Ia w (.slice ov3 n3 c3) acc wr))
    case atStart => exact ⟨i + 1, true, by first | rfl | go_num, rfl, by omega, by omega, by omega, HL0, HI⟩
    case round =>
     clear HI HL0
     obtain ⟨k, q, rfl, rfl, hgm2, hik, hkn, HL, HI⟩ := hrel
     by_cases hlt2 : k < n
     · have o1 : decide ((k : Int) < (n : Int)) = true := decide_eq_true (by omega)
       have o2 : (k : Int) < (n : Int) := by omega
       have o3 : (0 : Int) ≤ (k : Int) := by omega
       have vk := nat_wrap (k + 1) (by omega)
       obtain ⟨a2, gb2, go2, ea, hadd2, hgb2, hrw2⟩ := arg_m HA.out hlt2
       obtain rfl : a2 = a := (Option.some.inj ea).symm
       have hzi := (HA.out.inb k hlt2).1
       have hst := HST.out k hlt2
       obtain ⟨z, hz⟩ : ∃ z, F k = z := ⟨_, rfl⟩
       rw [hz] at hrw2 hzi hst
       have HWZ := Lib.hid hrw2
       have hl := HL.out
       rw [hst] at hl
       cases q with
       | false =>
        have HL9 : Hid ((false && stayed ((rowOf F n).drop (k + 1)) y) = stayed ((rowOf F n).drop (i + 1)) y) := Lib.hid (by rw [← hl]; rfl)
        have HQ := Lib.hid (rfl : (1 : Nat) = 1)
        clear hrw2 hz hgb2 ea hl hst HL
        go_wp2_with fail
        refine wp_region_held_drew (S := (fun w' => Ia w (.slice ov3 n3 c3) acc w')) (by kernel_rfl) (HI.out.on ⟨rfl, rfl, rfl, Nat.le_refl _, fun _ _ => rfl⟩) (fun hHeld => ?_)
        refine' tk9 0 rfl ?_
        refine' tk9 1 rfl ?_
        refine sk9 2 rfl ?_
        refine sk9 3 rfl ?_
        refine sk9 4 rfl ?_
        refine sk9 5 rfl ?_
        refine sk9 6 rfl ?_
        refine sk9 7 rfl ?_
        refine sk9 8 rfl ?_
        refine sk9 9 rfl ?_
        refine sk9 10 rfl ?_
        refine sk9 11 rfl ?_
        refine sk9 12 rfl ?_
        refine sk9 13 rfl ?_
        refine sk9 14 rfl ?_
        refine sk9 15 rfl ?_
        refine sk9 16 rfl ?_
        refine sk9 17 rfl ?_
        refine sk9 18 rfl ?_
        refine sk9 19 rfl ?_
        refine sk9 20 rfl ?_
        refine sk9 21 rfl ?_
        refine sk9 22 rfl ?_
        refine sk9 23 rfl ?_
        refine sk9 24 rfl ?_
        refine sk9 25 rfl ?_
        refine sk9 26 rfl ?_
        refine sk9 27 rfl ?_
        refine sk9 28 rfl ?_
        refine sk9 29 rfl ?_
        refine sk9 30 rfl ?_
        refine sk9 31 rfl ?_
        refine sk9 32 rfl ?_
        refine sk9 33 rfl ?_
        refine sk9 34 rfl ?_
        refine sk9 35 rfl ?_
        refine' tk9 36 rfl ?_
        refine' tk9 37 rfl ?_
        refine wpAnyH_done (by kernel_rfl) ?_ _
        have HI9 := Lib.hid hHeld
        clear hHeld HI
        go_wp2
        go_roundg (n - (k + 1))
        case measure => omega
        case rel => exact ⟨k + 1, false, by first | rfl | go_num, by first | rfl | (rw [HQ.out]) , Nat.le_refl _, by omega, by omega, HL9, HI9⟩
       | true =>
        rw [Bool.true_and] at hl
        by_cases hk : z.k = y.k
        · have e1 : ((z.k : Int) != (y.k : Int)) = false := bne_false (by omega)
          have CZ0 := fun w => rchannel z hzi w
          have e3 := nn_beq (ch z) (ch y)
          have e4 : same y z = (ch y == ch z) := by unfold same; rw [hk, beq_self_eq_true, Bool.true_and]
          rw [e4] at hl
          by_cases hc : ch z = ch y
          · have e5 : ((ch z : Int) != (ch y : Int)) = false := bne_false (by omega)
            rw [hc, beq_self_eq_true, Bool.and_true] at hl
            have cmz := fun (u : World) hu => lmay z hzi u hu
            obtain ⟨p, hp⟩ : ∃ p, mayAsk z = p := ⟨_, rfl⟩
            rw [hp] at hl cmz
            have CM := Lib.hid cmz
            have HL9 : Hid ((!p && stayed ((rowOf F n).drop (k + 1)) y) = stayed ((rowOf F n).drop (i + 1)) y) := Lib.hid hl
            generalize ch z = cz at CZ0 e5
            generalize ch y = cy at CY e5
            have CZ := Lib.hid CZ0
            have E1 := Lib.hid e1
            have E5 := Lib.hid e5
            have HQ := Lib.hid (rfl : (1 : Nat) = 1)
            clear hrw2 hz hgb2 ea hl hst HL hk hc e3 e4 cmz hp CZ0 hzi
            go_wp2_with fail
            refine wp_region_held_drew (S := (fun w' => Ia w (.slice ov3 n3 c3) acc w')) (by kernel_rfl) (HI.out.on ⟨rfl, rfl, rfl, Nat.le_refl _, fun _ _ => rfl⟩) (fun hHeld => ?_)
            refine' tk9 0 rfl ?_
            refine' tk9 1 rfl ?_
            refine' tk9 2 rfl ?_
            refine' tk9 3 rfl ?_
            refine' tk9 4 rfl ?_
            refine' tk9 5 rfl ?_
            refine' tv9 6 rfl (by intro _ hSw; (try dsimp only at hSw); have z0 := (HWZ.out _ hSw.below).2.2; go_simp <;> with_reducible rfl) ?_
            refine' tk9 7 rfl ?_
            refine' tk9 8 rfl ?_
            refine' tk9 9 rfl ?_
            refine' tk9 10 rfl ?_
            refine' tv9 11 rfl (by intro _ hSw; (try dsimp only at hSw); have y0 := (HWY.out _ hSw.below).2.2; go_simp <;> with_reducible rfl) ?_
            refine' tk9 12 rfl ?_
            refine' tk9 13 rfl ?_
            refine' tk9 14 rfl ?_
            refine' tk9 15 rfl ?_
            refine' tk9 16 rfl ?_
            refine' tv9 17 rfl (by intro _ hSw; (try dsimp only at hSw); refine ex_ldr isM (HWZ.out _ hSw.below).1 ?_; rfl) ?_
            refine' tk9 20 rfl ?_
            refine' tk9 21 rfl ?_
            refine' tk9 22 rfl ?_
            refine' tv9 23 rfl (by intro _ hSw; (try dsimp only at hSw); refine ex_ldr isM (HWY.out _ hSw.below).1 ?_; rfl) ?_
            refine ry [18] (.cons rfl (fun K hK => ?_) .nil)
            go_simp
            (with_reducible refine (CR.out _ _).mono ?_)
            rintro e wc ⟨rfl, hb⟩
            go_wp2_with fail
            refine hK.out _ _ (hHeld.on hb) (fun hNext => ?_)
            clear hK K hHeld hb
            have hHeld := hNext; clear hNext
            (try simp only [Act.put, z1', z2', z3'])
            refine ry [19] (.cons rfl (fun K hK => ?_) .nil)
            go_simp
            (with_reducible refine (CZ.out _).mono ?_)
            rintro e wc ⟨rfl, hb⟩
            go_wp2_with fail
            refine hK.out _ _ (hHeld.on hb) (fun hNext => ?_)
            clear hK K hHeld hb
            have hHeld := hNext; clear hNext
            (try simp only [Act.put, z1', z2', z3'])
            refine ry [24] (.cons rfl (fun K hK => ?_) .nil)
            go_simp
            (with_reducible refine (CR.out _ _).mono ?_)
            rintro e wc ⟨rfl, hb⟩
            go_wp2_with fail
            refine hK.out _ _ (hHeld.on hb) (fun hNext => ?_)
            clear hK K hHeld hb
            have hHeld := hNext; clear hNext
            (try simp only [Act.put, z1', z2', z3'])
            refine ry [25] (.cons rfl (fun K hK => ?_) .nil)
            go_simp
            (with_reducible refine (CY.out _).mono ?_)
            rintro e wc ⟨rfl, hb⟩
            go_wp2_with fail
            refine hK.out _ _ (hHeld.on hb) (fun hNext => ?_)
            clear hK K hHeld hb
            have hHeld := hNext; clear hNext
            (try simp only [Act.put, z1', z2', z3'])
            refine' tk9 26 rfl ?_
            refine' tk9 27 rfl ?_
            refine' tk9 28 rfl ?_
            refine' tk9 29 rfl ?_
            refine' tk9 30 rfl ?_
            refine' tk9 31 rfl ?_
            refine' tv9 32 rfl (by intro _ hSw; (try dsimp only at hSw); refine ex_ldr isM (HWZ.out _ hSw.below).1 ?_; rfl) ?_
            refine ry [33] (.cons rfl (fun K hK => ?_) .nil)
            go_simp
            (with_reducible refine (CM.out _ (tab_below HT.out hHeld.below)).mono ?_)
            rintro e wc ⟨rfl, hb⟩
            go_wp2_with fail
            refine hK.out _ _ (hHeld.on hb) (fun hNext => ?_)
            clear hK K hHeld hb
            have hHeld := hNext; clear hNext
            (try simp only [Act.put, z1', z2', z3'])
            refine' tk9 34 rfl ?_
            refine' tk9 35 rfl ?_
            refine' tk9 36 rfl ?_
            refine' tk9 37 rfl ?_
            refine wpAnyH_done (by kernel_rfl) ?_ _
            have HI9 := Lib.hid hHeld
            clear hHeld HI
            go_wp2
            go_roundg (n - (k + 1))
            case measure => omega
            case rel => exact ⟨k + 1, !p, by first | rfl | go_num, by first | rfl | (rw [HQ.out]) , Nat.le_refl _, by omega, by omega, HL9, HI9⟩
          · have e5 : ((ch z : Int) != (ch y : Int)) = true := bne_true (by omega)
            rw [beq_eq_false_iff_ne.2 (show ch y ≠ ch z from fun e => hc e.symm), Bool.and_false, Bool.not_false] at hl
            have HL9 : Hid ((true && stayed ((rowOf F n).drop (k + 1)) y) = stayed ((rowOf F n).drop (i + 1)) y) := Lib.hid hl
            generalize ch z = cz at CZ0 e5
            generalize ch y = cy at CY e5
            have CZ := Lib.hid CZ0
            have E1 := Lib.hid e1
            have HQ := Lib.hid (rfl : (1 : Nat) = 1)
            clear hrw2 hz hgb2 ea hl hst HL hk hc e3 e4 CZ0 hzi
            go_wp2_with fail
            refine wp_region_held_drew (S := (fun w' => Ia w (.slice ov3 n3 c3) acc w')) (by kernel_rfl) (HI.out.on ⟨rfl, rfl, rfl, Nat.le_refl _, fun _ _ => rfl⟩) (fun hHeld => ?_)
            refine' tk9 0 rfl ?_
            refine' tk9 1 rfl ?_
            refine' tk9 2 rfl ?_
            refine' tk9 3 rfl ?_
            refine' tk9 4 rfl ?_
            refine' tk9 5 rfl ?_
            refine' tv9 6 rfl (by intro _ hSw; (try dsimp only at hSw); have z0 := (HWZ.out _ hSw.below).2.2; go_simp <;> with_reducible rfl) ?_
            refine' tk9 7 rfl ?_
            refine' tk9 8 rfl ?_
            refine' tk9 9 rfl ?_
            refine' tk9 10 rfl ?_
            refine' tv9 11 rfl (by intro _ hSw; (try dsimp only at hSw); have y0 := (HWY.out _ hSw.below).2.2; go_simp <;> with_reducible rfl) ?_
            refine' tk9 12 rfl ?_
            refine' tk9 13 rfl ?_
            refine' tk9 14 rfl ?_
            refine' tk9 15 rfl ?_
            refine' tk9 16 rfl ?_
            refine' tv9 17 rfl (by intro _ hSw; (try dsimp only at hSw); refine ex_ldr isM (HWZ.out _ hSw.below).1 ?_; rfl) ?_
            refine' tk9 20 rfl ?_
            refine' tk9 21 rfl ?_
            refine' tk9 22 rfl ?_
            refine' tv9 23 rfl (by intro _ hSw; (try dsimp only at hSw); refine ex_ldr isM (HWY.out _ hSw.below).1 ?_; rfl) ?_
            refine ry [18] (.cons rfl (fun K hK => ?_) .nil)
            go_simp
            (with_reducible refine (CR.out _ _).mono ?_)
            rintro e wc ⟨rfl, hb⟩
            go_wp2_with fail
            refine hK.out _ _ (hHeld.on hb) (fun hNext => ?_)
            clear hK K hHeld hb
            have hHeld := hNext; clear hNext
            (try simp only [Act.put, z1', z2', z3'])
            refine ry [19] (.cons rfl (fun K hK => ?_) .nil)
            go_simp
            (with_reducible refine (CZ.out _).mono ?_)
            rintro e wc ⟨rfl, hb⟩
            go_wp2_with fail
            refine hK.out _ _ (hHeld.on hb) (fun hNext => ?_)
            clear hK K hHeld hb
            have hHeld := hNext; clear hNext
            (try simp only [Act.put, z1', z2', z3'])
            refine ry [24] (.cons rfl (fun K hK => ?_) .nil)
            go_simp
            (with_reducible refine (CR.out _ _).mono ?_)
            rintro e wc ⟨rfl, hb⟩
            go_wp2_with fail
            refine hK.out _ _ (hHeld.on hb) (fun hNext => ?_)
            clear hK K hHeld hb
            have hHeld := hNext; clear hNext
            (try simp only [Act.put, z1', z2', z3'])
            refine ry [25] (.cons rfl (fun K hK => ?_) .nil)
            go_simp
            (with_reducible refine (CY.out _).mono ?_)
            rintro e wc ⟨rfl, hb⟩
            go_wp2_with fail
            refine hK.out _ _ (hHeld.on hb) (fun hNext => ?_)
            clear hK K hHeld hb
            have hHeld := hNext; clear hNext
            (try simp only [Act.put, z1', z2', z3'])
            refine' tk9 26 rfl ?_
            refine' tk9 27 rfl ?_
            refine' tk9 28 rfl ?_
            refine sk9 29 rfl ?_
            refine sk9 30 rfl ?_
            refine sk9 31 rfl ?_
            refine sk9 32 rfl ?_
            refine sk9 33 rfl ?_
            refine sk9 34 rfl ?_
            refine' tk9 35 rfl ?_
            refine' tk9 36 rfl ?_
            refine' tk9 37 rfl ?_
            refine wpAnyH_done (by kernel_rfl) ?_ _
            have HI9 := Lib.hid hHeld
            clear hHeld HI
            go_wp2
            go_roundg (n - (k + 1))
            case measure => omega
            case rel => exact ⟨k + 1, true, by first | rfl | go_num, by first | rfl | (rw [HQ.out]) , Nat.le_refl _, by omega, by omega, HL9, HI9⟩
        · have e1 : ((z.k : Int) != (y.k : Int)) = true := bne_true (by omega)
          have e4 : same y z = false := by unfold same; rw [beq_eq_false_iff_ne.2 (show y.k ≠ z.k from fun e => hk e.symm), Bool.false_and]
          rw [e4, Bool.and_false, Bool.not_false] at hl
          have HL9 : Hid ((true && stayed ((rowOf F n).drop (k + 1)) y) = stayed ((rowOf F n).drop (i + 1)) y) := Lib.hid hl
          have HQ := Lib.hid (rfl : (1 : Nat) = 1)
          clear hrw2 hz hgb2 ea hl hst HL hk e4 hzi
          go_wp2_with fail
          refine wp_region_held_drew (S := (fun w' => Ia w (.slice ov3 n3 c3) acc w')) (by kernel_rfl) (HI.out.on ⟨rfl, rfl, rfl, Nat.le_refl _, fun _ _ => rfl⟩) (fun hHeld => ?_)
          refine' tk9 0 rfl ?_
          refine' tk9 1 rfl ?_
          refine' tk9 2 rfl ?_
          refine' tk9 3 rfl ?_
          refine' tk9 4 rfl ?_
          refine' tk9 5 rfl ?_
          refine' tv9 6 rfl (by intro _ hSw; (try dsimp only at hSw); have z0 := (HWZ.out _ hSw.below).2.2; go_simp <;> with_reducible rfl) ?_
          refine' tk9 7 rfl ?_
          refine' tk9 8 rfl ?_
          refine' tk9 9 rfl ?_
          refine' tk9 10 rfl ?_
          refine' tv9 11 rfl (by intro _ hSw; (try dsimp only at hSw); have y0 := (HWY.out _ hSw.below).2.2; go_simp <;> with_reducible rfl) ?_
          refine' tk9 12 rfl ?_
          refine' tk9 13 rfl ?_
          refine sk9 14 rfl ?_
          refine sk9 15 rfl ?_
          refine sk9 16 rfl ?_
          refine sk9 17 rfl ?_
          refine sk9 18 rfl ?_
          refine sk9 19 rfl ?_
          refine sk9 20 rfl ?_
          refine sk9 21 rfl ?_
          refine sk9 22 rfl ?_
          refine sk9 23 rfl ?_
          refine sk9 24 rfl ?_
          refine sk9 25 rfl ?_
          refine sk9 26 rfl ?_
          refine' tk9 27 rfl ?_
          refine' tk9 28 rfl ?_
          refine sk9 29 rfl ?_
          refine sk9 30 rfl ?_
          refine sk9 31 rfl ?_
          refine sk9 32 rfl ?_
          refine sk9 33 rfl ?_
          refine sk9 34 rfl ?_
          refine' tk9 35 rfl ?_
          refine' tk9 36 rfl ?_
          refine' tk9 37 rfl ?_
          refine wpAnyH_done (by kernel_rfl) ?_ _
          have HI9 := Lib.hid hHeld
          clear hHeld HI
          go_wp2
          go_roundg (n - (k + 1))
          case measure => omega
          case rel => exact ⟨k + 1, true, by first | rfl | go_num, by first | rfl | (rw [HQ.out]) , Nat.le_refl _, by omega, by omega, HL9, HI9⟩
     · obtain rfl : k = n := by omega
       have o1 : decide ((k : Int) < (k : Int)) = false := decide_eq_false (by omega)
       have o2 : ¬ (k : Int) < (k : Int) := by omega
       have hl := HL.out
       rw [List.drop_of_length_le (by rw [rowOf_len]; exact Nat.le_refl _), show stayed [] y = true from rfl, Bool.and_true] at hl
       have has := HAS.out
       rw [← hl] at has
       have hHE := HE.out
       rw [has] at hHE
       cases q with
       | false =>
        rw [Bool.and_false, if_neg (by decide)] at hHE
        have HE9 : Hid (acc ++ asked ((rowOf F k).drop (i + 1)) = asked (rowOf F k) ∧ acc.length ≤ i + 1) := Lib.hid ⟨hHE.1, by omega⟩
        clear hHE has hl HL HE HAS HST CMY
        go_wp2
        go_roundg (k - (i + 1))
        case measure => omega
        case rel => exact ⟨i + 1, acc, _, _, _, by first | rfl | go_num, rfl, Nat.le_refl _, by omega, HE9, HI⟩
       | true =>
        cases hp : mayAsk y with
        | false =>
         rw [hp, Bool.false_and, if_neg (by decide)] at hHE
         rw [hp] at CMY
         have CM := Lib.hid CMY
         have HE9 : Hid (acc ++ asked ((rowOf F k).drop (i + 1)) = asked (rowOf F k) ∧ acc.length ≤ i + 1) := Lib.hid ⟨hHE.1, by omega⟩
         have HRY := Lib.hid (HWY.out _ HI.out.below)
         clear hHE has hl HL HE HAS HST CMY hp
         go_wp2_with (first
          | ((with_reducible refine ldrg (m := y) isM HRY.out.1 ?hg ?hx ?_); (case hg => rfl); (case hx => rfl))
          | (go_at_call 19; refine (CM.out _ (tab_below HT.out HI.out.below)).mono ?_; rintro e w5 ⟨rfl, hb⟩; have HI5 := Lib.hid (HI.out.on hb); clear hb))
         go_roundg (k - (i + 1))
         case measure => omega
         case rel => exact ⟨i + 1, acc, _, _, _, by first | rfl | go_num, rfl, Nat.le_refl _, by omega, HE9, HI5⟩
        | true =>
         rw [hp, Bool.true_and, if_pos (by decide)] at hHE
         rw [hp] at CMY
         have CM := Lib.hid CMY
         have HE9 : Hid ((acc ++ [y]) ++ asked ((rowOf F k).drop (i + 1)) = asked (rowOf F k) ∧ (acc ++ [y]).length ≤ i + 1) := Lib.hid ⟨by rw [← hHE.1]; simp, by rw [List.length_append]; show acc.length + 1 ≤ i + 1; omega⟩
         have HLA : Hid (acc.length + 1 ≤ 1000000) := Lib.hid (by omega)
         have HRY := Lib.hid (HWY.out _ HI.out.below)
         clear hHE has hl HL HE HAS HST CMY hp
         go_wp2_with (first
          | ((with_reducible refine ldrg (m := y) isM HRY.out.1 ?hg ?hx ?_); (case hg => rfl); (case hx => rfl))
          | (go_at_call 19; refine (CM.out _ (tab_below HT.out HI.out.below)).mono ?_; rintro e w5 ⟨rfl, hb⟩; have HI5 := Lib.hid (HI.out.on hb); have HRY5 := Lib.hid (HWY.out _ HI5.out.below); clear hb)
          | ((with_reducible refine ldr (m := y) isM HRY5.out.1 ?hx ?_); (case hx => rfl))
          | ((with_reducible refine bsl (mc y) Tryz.underlying22 infoM ?hl ?hf ?_); (case hl => exact ⟨by decide, by decide⟩); (case hf => kernel_rfl); intro b7 w7 h7 F7; have HI7 := Lib.hid (HI5.out.on F7.below); have H7 := Lib.hid h7; clear h7 F7)
          | (at_builtin; refine wpList_append_elt eltM _ rfl _ _ rfl w.heap.size _ rfl _ HI7.out.own b7 _ rfl y (row_of H7.out) HLA.out HI7.out.below.size ?_; intro v' w8 ho hg _; obtain ⟨o8, c8, rfl, _⟩ := row_form ho; obtain ⟨n8, hn8⟩ : ∃ n8, (acc ++ [y]).length = n8 := ⟨_, rfl⟩; rw [hn8] at ho ⊢; clear hn8; have HI8 := Lib.hid (HI7.out.more ho hg); clear ho hg))
         go_roundg (k - (i + 1))
         case measure => omega
         case rel => exact ⟨i + 1, acc ++ [y], _, _, _, by first | rfl | go_num, rfl, Nat.le_refl _, by omega, HE9, HI8⟩
  · obtain rfl : i = n := by omega
    have t1 : decide ((i : Int) < (i : Int)) = false := decide_eq_false (by omega)
    have t2 : ¬ (i : Int) < (i : Int) := by omega
    have hHE := HE.out.1
    rw [List.drop_of_length_le (by rw [rowOf_len]; exact Nat.le_refl _), show asked [] = [] from rfl, List.append_nil] at hHE
    have HI9 := Lib.hid (HI.out.cast hHE.symm)
    clear hHE HE HI
    go_wp2
    go_ret
    exact ⟨_, rfl, HI9.out.own, HI9.out.below⟩
end Go.Proofs.YtakkhdammmcjcaaGreatDoor.Ctl

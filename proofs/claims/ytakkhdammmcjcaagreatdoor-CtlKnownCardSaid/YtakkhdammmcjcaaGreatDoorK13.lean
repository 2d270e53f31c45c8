/-
  Layer 22, put together: CtlProw. Conditions: as each theorem names them.
-/
import Derived.Test.YtakkhdammmcjcaaGreatDoorK12
import Derived.Deep.RegionLaw
namespace Go.Proofs.YtakkhdammmcjcaaGreatDoor.Ctl
open Go.RowKit Base Mem Msgs Cr
set_option maxRecDepth 100000
/-- The place of the first one that is so; -1, if none is. -/
def First (p : Wt → Bool) (l : List Wt) (i : Int) : Prop := (i = -1 ∧ ∀ y ∈ l, p y = false) ∨ ∃ (k : Nat) (y : Wt), i = (k : Int) ∧ l[k]? = some y ∧ p y = true ∧ ∀ j z, j < k → l[j]? = some z → p z = false
theorem First.none_eq {p : Wt → Bool} {l : List Wt} {i : Int} (h : First p l i) (hn : ∀ y ∈ l, p y = false) : i = -1 := by
 rcases h with ⟨h, _⟩ | ⟨k, y, _, hy, hp, _⟩
 · exact h
 · rw [hn y (List.mem_of_getElem? hy)] at hp; cases hp
theorem First.some_eq {p : Wt → Bool} {l : List Wt} {i : Int} {k : Nat} {y : Wt} (h : First p l i) (hy : l[k]? = some y) (hp : p y = true) (hb : ∀ j z, j < k → l[j]? = some z → p z = false) : i = (k : Int) := by
 rcases h with ⟨_, hn⟩ | ⟨k', y', hi, hy', hp', hb'⟩
 · rw [hn y (List.mem_of_getElem? hy)] at hp; cases hp
 · rcases Nat.lt_trichotomy k k' with hk | hk | hk
   · rw [hb' k y hk hy] at hp; cases hp
   · rw [hi, hk]
   · rw [hb k' y' hk hy'] at hp'; cases hp'
theorem first_of {p : Wt → Bool} : ∀ {l : List Wt}, ¬ (∀ y ∈ l, p y = false) → ∃ (k : Nat) (y : Wt), l[k]? = some y ∧ p y = true ∧ ∀ j z, j < k → l[j]? = some z → p z = false
 | [], h => absurd (fun y hy => by cases hy) h
 | v :: l, h => by
  cases hv : p v with
  | true => exact ⟨0, v, rfl, hv, fun j z hj => absurd hj (Nat.not_lt_zero _)⟩
  | false =>
   obtain ⟨k, y, h1, h2, h3⟩ := first_of (p := p) (l := l) fun h' => h fun y hy => by
    rcases List.mem_cons.1 hy with rfl | hy
    · exact hv
    · exact h' y hy
   refine ⟨k + 1, y, by simpa using h1, h2, fun j z hj hz => ?_⟩
   match j, hj, hz with
   | 0, _, hz => rw [← Option.some.inj ((by simpa using hz : some v = some z))]; exact hv
   | j + 1, hj, hz => exact h3 j z (by omega) (by simpa using hz)
theorem grown_then {w a b : World} {r : Option Nat} (h : w.grownBy a r) (h' : a.grownBy b r) : w.grownBy b r := by
 obtain ⟨h1, h2, h3, h4, h5⟩ := h
 obtain ⟨g1, g2, g3, g4, g5⟩ := h'
 exact ⟨g1.trans h1, g2.trans h2, g3.trans h3, Nat.le_trans h4 g4, fun k hk hr => (g5 k (Nat.lt_of_lt_of_le hk h4) hr).trans (h5 k hk hr)⟩
section
variable {w : World} {vc : Value} {base : Nat} {l : List Wt}
set_option maxHeartbeats 2000000 in
theorem find_due (p : Wt → Bool) (h : OwnS KT 22 kl w base vc l) (hn : l.length ≤ 1000) (hC : ∀ y ∈ l, ∀ u, Below w.heap.size w u → Calls Tryz.prog 35 #[kv y] u fun e u' => e = .returned (.bool (p y)) ∧ Below u.heap.size u u') :
 Calls Tryz.prog 43 #[vc, (.func (.func 35) #[] #[])] w fun e w' => ∃ i, e = .returned (im i) ∧ First p l i ∧ Below w.heap.size w w' := by
 obtain ⟨oa, cap, rfl, ga⟩ := row_form h
 obtain ⟨n, hln⟩ : ∃ n, l.length = n := ⟨_, rfl⟩
 rw [hln] at h ga hn ⊢
 have HO := Lib.hid h
 have GA := Lib.hid ga
 have HL := Lib.hid hln
 have HC := Lib.hid hC
 clear h ga hln hC
 go_enter Tryz.func43, Tryz.ntmps43
 go_wp2_with fail
 go_loopg [8] n (fun gm s wr => ∃ k : Nat, s = nm k ∧ n - k ≤ gm ∧ k ≤ n ∧ Hid (∀ j z, j < k → l[j]? = some z → p z = false) ∧ Hid (Below w.heap.size w wr))
 case atStart => exact ⟨0, rfl, by omega, by omega, Lib.hid (fun j z hj => absurd hj (Nat.not_lt_zero _)), Lib.hid (Below.refl _ _)⟩
 case round =>
  obtain ⟨k, rfl, hgm, hkn, HN, HB⟩ := hrel
  by_cases hlt : k < n
  · have t1 : decide ((k : Int) < (n : Int)) = true := decide_eq_true (by omega)
    have t2 : (k : Int) < (n : Int) := by omega
    have j0 : (0 : Int) ≤ (k : Int) := by omega
    have vk := nat_wrap (k + 1) (by omega)
    obtain ⟨g, rfl⟩ := GA.out k hlt
    obtain ⟨y, hy⟩ : ∃ y, l[k]? = some y := ⟨_, List.getElem?_eq_getElem (by rw [HL.out]; exact hlt)⟩
    have HR := Lib.hid (own_rangez kl_len (HO.out.below HB.out) k y hy)
    have cy := HC.out y (List.mem_of_getElem? hy) wr HB.out
    cases hp : p y with
    | true =>
     rw [hp] at cy
     have CY := Lib.hid cy
     have HF : Hid (First p l (k : Int)) := Lib.hid (Or.inr ⟨k, y, rfl, hy, hp, HN.out⟩)
     clear cy hp hy
     go_wp2_with (first | ((with_reducible refine ldz isK HR.out ?hz ?hx ?_); (case hz => rfl); (case hx => rfl)) | (go_at_call 35; ((with_reducible refine CY.out.mono ?_); rintro e w3 ⟨rfl, hb⟩; have HB3 := Lib.hid (below_on HB.out hb); clear hb)))
     go_ret
     exact ⟨_, rfl, HF.out, HB3.out⟩
    | false =>
     rw [hp] at cy
     have CY := Lib.hid cy
     have HN2 : Hid (∀ j z, j < k + 1 → l[j]? = some z → p z = false) := Lib.hid (fun j z hj hz => by
      by_cases e : j = k
      · rw [e, hy] at hz; rw [← Option.some.inj hz]; exact hp
      · exact HN.out j z (by omega) hz)
     clear cy hp hy
     go_wp2_with (first | ((with_reducible refine ldz isK HR.out ?hz ?hx ?_); (case hz => rfl); (case hx => rfl)) | (go_at_call 35; ((with_reducible refine CY.out.mono ?_); rintro e w3 ⟨rfl, hb⟩; have HB3 := Lib.hid (below_on HB.out hb); clear hb)))
     go_roundg (n - (k + 1))
     case measure => omega
     case rel => exact ⟨k + 1, by first | rfl | go_num, Nat.le_refl _, by omega, HN2, HB3⟩
  · obtain rfl : k = n := by omega
    have t1 : decide ((k : Int) < (k : Int)) = false := decide_eq_false (by omega)
    have t2 : ¬ (k : Int) < (k : Int) := by omega
    have HF : Hid (First p l (-1)) := Lib.hid (Or.inl ⟨rfl, fun y hy => by
     obtain ⟨j, hj, e⟩ := List.getElem_of_mem hy
     exact HN.out j y (by rw [HL.out] at hj; exact hj) (by rw [List.getElem?_eq_getElem hj, e])⟩)
    go_wp2
    go_ret
    exact ⟨_, rfl, HF.out, HB.out⟩
set_option maxHeartbeats 2000000 in
theorem find_ask {bm : Nat} (p : Wt → Bool) (h : OwnS KT 22 kl w base vc l) (hn : l.length ≤ 1000) (hC : ∀ y ∈ l, ∀ u, Below w.heap.size w u → Calls Tryz.prog 38 #[kv y, ptr bm] u fun e u' => e = .returned (.bool (p y)) ∧ Below u.heap.size u u') :
 Calls Tryz.prog 43 #[vc, (.func (.func 38) #[] #[ptr bm])] w fun e w' => ∃ i, e = .returned (im i) ∧ First p l i ∧ Below w.heap.size w w' := by
 obtain ⟨oa, cap, rfl, ga⟩ := row_form h
 obtain ⟨n, hln⟩ : ∃ n, l.length = n := ⟨_, rfl⟩
 rw [hln] at h ga hn ⊢
 have HO := Lib.hid h
 have GA := Lib.hid ga
 have HL := Lib.hid hln
 have HC := Lib.hid hC
 clear h ga hln hC
 go_enter Tryz.func43, Tryz.ntmps43
 go_wp2_with fail
 go_loopg [8] n (fun gm s wr => ∃ k : Nat, s = nm k ∧ n - k ≤ gm ∧ k ≤ n ∧ Hid (∀ j z, j < k → l[j]? = some z → p z = false) ∧ Hid (Below w.heap.size w wr))
 case atStart => exact ⟨0, rfl, by omega, by omega, Lib.hid (fun j z hj => absurd hj (Nat.not_lt_zero _)), Lib.hid (Below.refl _ _)⟩
 case round =>
  obtain ⟨k, rfl, hgm, hkn, HN, HB⟩ := hrel
  by_cases hlt : k < n
  · have t1 : decide ((k : Int) < (n : Int)) = true := decide_eq_true (by omega)
    have t2 : (k : Int) < (n : Int) := by omega
    have j0 : (0 : Int) ≤ (k : Int) := by omega
    have vk := nat_wrap (k + 1) (by omega)
    obtain ⟨g, rfl⟩ := GA.out k hlt
    obtain ⟨y, hy⟩ : ∃ y, l[k]? = some y := ⟨_, List.getElem?_eq_getElem (by rw [HL.out]; exact hlt)⟩
    have HR := Lib.hid (own_rangez kl_len (HO.out.below HB.out) k y hy)
    have cy := HC.out y (List.mem_of_getElem? hy) wr HB.out
    cases hp : p y with
    | true =>
     rw [hp] at cy
     have CY := Lib.hid cy
     have HF : Hid (First p l (k : Int)) := Lib.hid (Or.inr ⟨k, y, rfl, hy, hp, HN.out⟩)
     clear cy hp hy
     go_wp2_with (first | ((with_reducible refine ldz isK HR.out ?hz ?hx ?_); (case hz => rfl); (case hx => rfl)) | (go_at_call 38; ((with_reducible refine CY.out.mono ?_); rintro e w3 ⟨rfl, hb⟩; have HB3 := Lib.hid (below_on HB.out hb); clear hb)))
     go_ret
     exact ⟨_, rfl, HF.out, HB3.out⟩
    | false =>
     rw [hp] at cy
     have CY := Lib.hid cy
     have HN2 : Hid (∀ j z, j < k + 1 → l[j]? = some z → p z = false) := Lib.hid (fun j z hj hz => by
      by_cases e : j = k
      · rw [e, hy] at hz; rw [← Option.some.inj hz]; exact hp
      · exact HN.out j z (by omega) hz)
     clear cy hp hy
     go_wp2_with (first | ((with_reducible refine ldz isK HR.out ?hz ?hx ?_); (case hz => rfl); (case hx => rfl)) | (go_at_call 38; ((with_reducible refine CY.out.mono ?_); rintro e w3 ⟨rfl, hb⟩; have HB3 := Lib.hid (below_on HB.out hb); clear hb)))
     go_roundg (n - (k + 1))
     case measure => omega
     case rel => exact ⟨k + 1, by first | rfl | go_num, Nat.le_refl _, by omega, HN2, HB3⟩
  · obtain rfl : k = n := by omega
    have t1 : decide ((k : Int) < (k : Int)) = false := decide_eq_false (by omega)
    have t2 : ¬ (k : Int) < (k : Int) := by omega
    have HF : Hid (First p l (-1)) := Lib.hid (Or.inl ⟨rfl, fun y hy => by
     obtain ⟨j, hj, e⟩ := List.getElem_of_mem hy
     exact HN.out j y (by rw [HL.out] at hj; exact hj) (by rw [List.getElem?_eq_getElem hj, e])⟩)
    go_wp2
    go_ret
    exact ⟨_, rfl, HF.out, HB.out⟩
set_option maxHeartbeats 2000000 in
theorem find_hr {bf : Nat} (p : Wt → Bool) (h : OwnS KT 22 kl w base vc l) (hn : l.length ≤ 1000) (hC : ∀ y ∈ l, ∀ u, Below w.heap.size w u → Calls Tryz.prog 86 #[kv y, ptr bf] u fun e u' => e = .returned (.bool (p y)) ∧ Below u.heap.size u u') :
 Calls Tryz.prog 43 #[vc, (.func (.func 86) #[] #[ptr bf])] w fun e w' => ∃ i, e = .returned (im i) ∧ First p l i ∧ Below w.heap.size w w' := by
 obtain ⟨oa, cap, rfl, ga⟩ := row_form h
 obtain ⟨n, hln⟩ : ∃ n, l.length = n := ⟨_, rfl⟩
 rw [hln] at h ga hn ⊢
 have HO := Lib.hid h
 have GA := Lib.hid ga
 have HL := Lib.hid hln
 have HC := Lib.hid hC
 clear h ga hln hC
 go_enter Tryz.func43, Tryz.ntmps43
 go_wp2_with fail
 go_loopg [8] n (fun gm s wr => ∃ k : Nat, s = nm k ∧ n - k ≤ gm ∧ k ≤ n ∧ Hid (∀ j z, j < k → l[j]? = some z → p z = false) ∧ Hid (Below w.heap.size w wr))
 case atStart => exact ⟨0, rfl, by omega, by omega, Lib.hid (fun j z hj => absurd hj (Nat.not_lt_zero _)), Lib.hid (Below.refl _ _)⟩
 case round =>
  obtain ⟨k, rfl, hgm, hkn, HN, HB⟩ := hrel
  by_cases hlt : k < n
  · have t1 : decide ((k : Int) < (n : Int)) = true := decide_eq_true (by omega)
    have t2 : (k : Int) < (n : Int) := by omega
    have j0 : (0 : Int) ≤ (k : Int) := by omega
    have vk := nat_wrap (k + 1) (by omega)
    obtain ⟨g, rfl⟩ := GA.out k hlt
    obtain ⟨y, hy⟩ : ∃ y, l[k]? = some y := ⟨_, List.getElem?_eq_getElem (by rw [HL.out]; exact hlt)⟩
    have HR := Lib.hid (own_rangez kl_len (HO.out.below HB.out) k y hy)
    have cy := HC.out y (List.mem_of_getElem? hy) wr HB.out
    cases hp : p y with
    | true =>
     rw [hp] at cy
     have CY := Lib.hid cy
     have HF : Hid (First p l (k : Int)) := Lib.hid (Or.inr ⟨k, y, rfl, hy, hp, HN.out⟩)
     clear cy hp hy
     go_wp2_with (first | ((with_reducible refine ldz isK HR.out ?hz ?hx ?_); (case hz => rfl); (case hx => rfl)) | (go_at_call 86; ((with_reducible refine CY.out.mono ?_); rintro e w3 ⟨rfl, hb⟩; have HB3 := Lib.hid (below_on HB.out hb); clear hb)))
     go_ret
     exact ⟨_, rfl, HF.out, HB3.out⟩
    | false =>
     rw [hp] at cy
     have CY := Lib.hid cy
     have HN2 : Hid (∀ j z, j < k + 1 → l[j]? = some z → p z = false) := Lib.hid (fun j z hj hz => by
      by_cases e : j = k
      · rw [e, hy] at hz; rw [← Option.some.inj hz]; exact hp
      · exact HN.out j z (by omega) hz)
     clear cy hp hy
     go_wp2_with (first | ((with_reducible refine ldz isK HR.out ?hz ?hx ?_); (case hz => rfl); (case hx => rfl)) | (go_at_call 86; ((with_reducible refine CY.out.mono ?_); rintro e w3 ⟨rfl, hb⟩; have HB3 := Lib.hid (below_on HB.out hb); clear hb)))
     go_roundg (n - (k + 1))
     case measure => omega
     case rel => exact ⟨k + 1, by first | rfl | go_num, Nat.le_refl _, by omega, HN2, HB3⟩
  · obtain rfl : k = n := by omega
    have t1 : decide ((k : Int) < (k : Int)) = false := decide_eq_false (by omega)
    have t2 : ¬ (k : Int) < (k : Int) := by omega
    have HF : Hid (First p l (-1)) := Lib.hid (Or.inl ⟨rfl, fun y hy => by
     obtain ⟨j, hj, e⟩ := List.getElem_of_mem hy
     exact HN.out j y (by rw [HL.out] at hj; exact hj) (by rw [List.getElem?_eq_getElem hj, e])⟩)
    go_wp2
    go_ret
    exact ⟨_, rfl, HF.out, HB.out⟩
theorem fcontains (h : OwnS KT 22 kl w base vc l) (hn : l.length ≤ 1000) :
 Calls Tryz.prog 34 #[vc, .func (.func 35) #[] #[]] w fun e w' => e = .returned (.bool (l.any fun y => y.lf == 0)) ∧ Below w.heap.size w w' := by
 have hI := find_due (fun y => y.lf == 0) h hn fun y _ u _ => fdue y u
 by_cases hall : ∀ y ∈ l, (y.lf == 0) = false
 · have HI : Hid (Calls Tryz.prog 43 #[vc, .func (.func 35) #[] #[]] w fun e w' => e = .returned (im (-1)) ∧ Below w.heap.size w w') := Lib.hid (hI.mono fun e w' ⟨i, e1, e2, e3⟩ => ⟨by rw [e1, e2.none_eq hall], e3⟩)
   have ha : (l.any fun y => y.lf == 0) = false := by
    rw [Bool.eq_false_iff]; intro q
    obtain ⟨y, hy, e⟩ := List.any_eq_true.1 q
    rw [hall y hy] at e; cases e
   rw [ha]
   clear hI h ha hall
   go_enter Tryz.func34, Tryz.ntmps34
   go_wp2_with (go_at_call 43; refine HI.out.mono ?_; rintro e w1 ⟨rfl, hb⟩; have HB1 := Lib.hid hb; clear hb)
   go_ret
   exact ⟨rfl, HB1.out⟩
 · obtain ⟨k, y, h1, h2, h3⟩ := first_of hall
   have HI : Hid (Calls Tryz.prog 43 #[vc, .func (.func 35) #[] #[]] w fun e w' => e = .returned (nm k) ∧ Below w.heap.size w w') := Lib.hid (hI.mono fun e w' ⟨i, e1, e2, e3⟩ => ⟨by rw [e1, e2.some_eq h1 h2 h3], e3⟩)
   have ha : (l.any fun y => y.lf == 0) = true := List.any_eq_true.2 ⟨y, List.mem_of_getElem? h1, h2⟩
   rw [ha]
   have t1 : decide ((0 : Int) ≤ (k : Int)) = true := decide_eq_true (by omega)
   have t2 : (0 : Int) ≤ (k : Int) := by omega
   clear hI h ha hall h1 h2 h3
   go_enter Tryz.func34, Tryz.ntmps34
   go_wp2_with (go_at_call 43; refine HI.out.mono ?_; rintro e w1 ⟨rfl, hb⟩; have HB1 := Lib.hid hb; clear hb)
   go_ret
   exact ⟨rfl, HB1.out⟩
theorem all0_k : ∀ u ∈ ((kc zK) : Array Value), u.oneCell' = true := fun u hu => kl_one zK u (by simpa using hu)
set_option maxHeartbeats 8000000 in
theorem fdel_k {l : List Wt} {g cap n : Nat} (i j : Nat) (hj : j = i + 1) (hjn : j ≤ n) (h : OwnS 88 22 kl w base (.slice (some ⟨g, 0, none⟩) n cap) l) :
 Calls Tryz.prog 88 #[.slice (some ⟨g, 0, none⟩) n cap, nm i, nm j] w fun e w' =>
  e = .returned (.slice (some ⟨g, 0, none⟩) (n - 1) cap) ∧ OwnS 88 22 kl w' base (.slice (some ⟨g, 0, none⟩) (n - 1) cap) (l.take i ++ l.drop j) ∧ w.grownBy w' (some g) := by
 have hn := h.num
 obtain ⟨cur, hcur, hnc, hcm, hcs, hbg⟩ := own_raw h
 have hmax : cap ≤ 9223372036854775807 := by unfold maxLen at hcm; omega
 obtain ⟨zero0, bytes, hinfo, hzc, hby⟩ := eltK.info
 obtain ⟨i0, hi0, hz0, hz1, _⟩ := info_parts hinfo
 obtain ⟨k, hk⟩ : ∃ k, k = n - j := ⟨_, rfl⟩
 obtain ⟨m, hm⟩ : ∃ m, m = i + k := ⟨_, rfl⟩
 have hlt2 : (l.take i).length = i := by rw [List.length_take]; omega
 have hld : (l.drop j).length = k := by rw [List.length_drop]; omega
 have s1 : Hid (((l.drop j).flatMap kl).length = k * 22) := Lib.hid (by rw [flat_len kl_len, hld, Nat.mul_comm])
 have s2 : Hid (∀ u ∈ (l.drop j).flatMap kl, u.oneCell' = true) := Lib.hid (fun u hu => by
  obtain ⟨x, _, hx⟩ := List.mem_flatMap.1 hu
  exact kl_one x u hx)
 have hd : OwnS 88 22 kl w.drew base (.slice (some ⟨g, 0, none⟩) n cap) l := h.below ⟨rfl, rfl, rfl, Nat.le_refl _, fun _ _ => rfl⟩
 have s3 : Hid (∀ t, t < ((l.drop j).flatMap kl).length → (w.drew.cell? ⟨g, 0 + i * 22 + t, none⟩).isSome = true ∧ w.drew.frozen? ⟨g, 0 + i * 22 + t, none⟩ = false) := Lib.hid (fun t ht => by
  rw [s1.out] at ht
  exact ⟨own_room hd _ (by omega), hd.free _⟩)
 obtain ⟨W1, hW1⟩ : ∃ W1, W1 = w.drew.setCells g (0 + i * 22) ((l.drop j).flatMap kl) := ⟨_, rfl⟩
 have hR1 : OwnS 88 22 kl W1 base (.slice (some ⟨g, 0, none⟩) m cap) (l.take i ++ l.drop j) := by
  have ha : OwnS 88 22 kl w.drew base (.slice (some ⟨g, 0, none⟩) i cap) (l.take i) := by
   have := own_first (A := l.take i) (B := l.drop i) kl_len (by decide) (by rw [List.take_append_drop]; exact hd)
   rwa [hlt2] at this
  have := own_app kl_len (by decide) ha (l.drop j) (by rw [hlt2, hld]; omega)
  rw [hlt2, hld, show 22 * i = 0 + i * 22 by omega, ← hW1, ← hm] at this
  exact this
 have hmn : m + 1 = n := by omega
 obtain ⟨W2, hW2⟩ : ∃ W2, W2 = W1.setCells g (m * 22) (Builtin.zeroCells (kc zK) (n - m)).toList := ⟨_, rfl⟩
 have hcl : ∀ ty, (Builtin.clear_ #[72] ty #[.slice (some ⟨g, m * 22, none⟩) (n - m) (cap - m)]).run Tryz.prog W1 = .ok (.tuple #[]) W2 := fun ty => by
  rw [hW2]
  exact run_clear_z W1 _ _ ty (.agg (kc zK)) 22 Tryz.underlying72 Tryz.zeroValue88 rfl (by decide) all0_k g (m * 22) _ _ (by omega) (fun t ht => own_room hR1 _ (by omega)) (fun t ht => hR1.free _)
 have hml : (l.take i ++ l.drop j).length = m := by rw [List.length_append, hlt2, hld, hm]
 have hR2 : Hid (OwnS 88 22 kl W2 base (.slice (some ⟨g, 0, none⟩) (n - 1) cap) (l.take i ++ l.drop j)) := Lib.hid (by
  rw [hW2, show n - 1 = m by omega]
  exact own_tail kl_len hR1 _ _ (by rw [hml]; omega))
 have hB : Hid (w.grownBy W2 (some g)) := Lib.hid (by
  rw [hW2, hW1]
  exact grown_then (grown_then (grown_of (r := some g) (w' := w.drew) ⟨rfl, rfl, rfl, Nat.le_refl _, fun _ _ => rfl⟩) (scs_grown _ g _ _)) (scs_grown _ g _ _))
 have hW : Hid (W1 = w.drew.setCells g (0 + i * 22) ((l.drop j).flatMap kl)) := Lib.hid hW1
 have HO := Lib.hid h
 have hic : i ≤ cap := by omega
 have hjc : j ≤ cap := by omega
 have hin : i ≤ n := by omega
 have hjn2 : j ≤ n := by omega
 have hcm2 : ¬ cap = m := by omega
 have hij : ¬ i = j := by omega
 have hij2 : ((i : Int) == (j : Int)) = false := Mem.beq_false (by omega)
 have hij3 : (i : Int) ≤ (j : Int) := by omega
 have hij4 : i ≤ j := by omega
 have hnj : n - j = k := hk.symm
 have hik : i + k = m := hm.symm
 have hmc : m ≤ cap := by omega
 have hmn2 : m ≤ n := by omega
 have hfin : Hid (n - 1 = m) := Lib.hid (by omega)
 have HJ := Lib.hid (show l.length = n from hn.symm)
 have HJ1 := Lib.hid hj
 clear hW1 hW2 hR1 h hd hlt2 hld hk hm hml hmn hcur hcs hbg hcm hinfo hz0 hby hzc hn hj hjn
 by_cases hcj : cap = j
 · subst hcj
   have hl0 : Hid (l.length ≤ cap) := Lib.hid (by rw [HJ.out]; omega)
   have hA : Hid (∀ t u, ((l.drop cap).flatMap kl)[t]? = some u → w.drew.cell? ((⟨g, 0, none⟩ : Addr).add t) = some u) := Lib.hid (fun t u hu => by
    have : (l.drop cap).length = 0 := by rw [List.length_drop]; have := hl0.out; omega
    rw [List.eq_nil_of_length_eq_zero this] at hu
    simp at hu)
   go_enter Tryz.func88, Tryz.ntmps88
   go_wp2_with fail
   go_region_law (refine step_append_room rfl (.tmp 22) (.tmp 25) 72 rfl 88 i0 22 Tryz.underlying72 hi0 hz1 g 0 i cap (by simp [Act.eval, Act.put]) ⟨g, 0, none⟩ k (cap - cap) ((l.drop cap).flatMap kl) (by simp [Act.eval, Act.put, *]) s1.out hA.out s2.out (by omega) s3.out ?_; rw [← hW.out])
   go_wp2
   go_ret
   exact ⟨by rw [hfin.out]; rfl, hR2.out, hB.out⟩
 · have hcj2 : ¬ j = cap := fun e => hcj e.symm
   have hA : Hid (∀ t u, ((l.drop j).flatMap kl)[t]? = some u → w.drew.cell? ((⟨g, j * 22, none⟩ : Addr).add t) = some u) := Lib.hid (fun t u hu => by
    have hlt : t < ((l.drop j).flatMap kl).length := (List.getElem?_eq_some_iff.1 hu).1
    rw [flat_len kl_len] at hlt
    have hq : t / 22 < (l.drop j).length := by omega
    have hx : (l.drop j)[t / 22]? = some (l.drop j)[t / 22] := List.getElem?_eq_getElem hq
    have h1 := flat_get kl_len (l.drop j) _ (t / 22) (t % 22) hx (Nat.mod_lt _ (by decide))
    rw [show 22 * (t / 22) + t % 22 = t by omega, hu] at h1
    rw [List.getElem?_drop] at hx
    have h2 := OwnS.cell kl_len HO.out (j + t / 22) _ hx (t % 22) (Nat.mod_lt _ (by decide))
    rw [add_off]
    refine Eq.trans ?_ (h2.trans h1.symm)
    show w.cell? _ = _
    congr 2
    omega)
   go_enter Tryz.func88, Tryz.ntmps88
   go_wp2_with fail
   go_region_law (refine step_append_room rfl (.tmp 22) (.tmp 25) 72 rfl 88 i0 22 Tryz.underlying72 hi0 hz1 g 0 i cap (by simp [Act.eval, Act.put]) ⟨g, j * 22, none⟩ k (cap - j) ((l.drop j).flatMap kl) (by simp [Act.eval, Act.put, *]) s1.out hA.out s2.out (by omega) s3.out ?_; rw [← hW.out])
   go_wp2
   go_ret
   exact ⟨by rw [hfin.out]; rfl, hR2.out, hB.out⟩
theorem all0_a : ∀ u ∈ (#[.string ⟨#[]⟩, .int .u8 0] : Array Value), u.oneCell' = true := fun u hu => by
 simp only [List.mem_toArray, List.mem_cons, List.not_mem_nil, or_false] at hu
 rcases hu with rfl | rfl <;> rfl
set_option maxHeartbeats 8000000 in
theorem fdel_a {l : List Ms} {g cap n : Nat} (i j : Nat) (hj : j = i + 1) (hjn : j ≤ n) (h : OwnS 96 2 al w base (.slice (some ⟨g, 0, none⟩) n cap) l) :
 Calls Tryz.prog 42 #[.slice (some ⟨g, 0, none⟩) n cap, nm i, nm j] w fun e w' =>
  e = .returned (.slice (some ⟨g, 0, none⟩) (n - 1) cap) ∧ OwnS 96 2 al w' base (.slice (some ⟨g, 0, none⟩) (n - 1) cap) (l.take i ++ l.drop j) ∧ w.grownBy w' (some g) := by
 have hn := h.num
 obtain ⟨cur, hcur, hnc, hcm, hcs, hbg⟩ := own_raw h
 have hmax : cap ≤ 9223372036854775807 := by unfold maxLen at hcm; omega
 obtain ⟨zero0, bytes, hinfo, hzc, hby⟩ := eltA.info
 obtain ⟨i0, hi0, hz0, hz1, _⟩ := info_parts hinfo
 obtain ⟨k, hk⟩ : ∃ k, k = n - j := ⟨_, rfl⟩
 obtain ⟨m, hm⟩ : ∃ m, m = i + k := ⟨_, rfl⟩
 have hlt2 : (l.take i).length = i := by rw [List.length_take]; omega
 have hld : (l.drop j).length = k := by rw [List.length_drop]; omega
 have s1 : Hid (((l.drop j).flatMap al).length = k * 2) := Lib.hid (by rw [flat_len al_len, hld, Nat.mul_comm])
 have s2 : Hid (∀ u ∈ (l.drop j).flatMap al, u.oneCell' = true) := Lib.hid (fun u hu => by
  obtain ⟨x, _, hx⟩ := List.mem_flatMap.1 hu
  exact al_one x u hx)
 have hd : OwnS 96 2 al w.drew base (.slice (some ⟨g, 0, none⟩) n cap) l := h.below ⟨rfl, rfl, rfl, Nat.le_refl _, fun _ _ => rfl⟩
 have s3 : Hid (∀ t, t < ((l.drop j).flatMap al).length → (w.drew.cell? ⟨g, 0 + i * 2 + t, none⟩).isSome = true ∧ w.drew.frozen? ⟨g, 0 + i * 2 + t, none⟩ = false) := Lib.hid (fun t ht => by
  rw [s1.out] at ht
  exact ⟨own_room hd _ (by omega), hd.free _⟩)
 obtain ⟨W1, hW1⟩ : ∃ W1, W1 = w.drew.setCells g (0 + i * 2) ((l.drop j).flatMap al) := ⟨_, rfl⟩
 have hR1 : OwnS 96 2 al W1 base (.slice (some ⟨g, 0, none⟩) m cap) (l.take i ++ l.drop j) := by
  have ha : OwnS 96 2 al w.drew base (.slice (some ⟨g, 0, none⟩) i cap) (l.take i) := by
   have := own_first (A := l.take i) (B := l.drop i) al_len (by decide) (by rw [List.take_append_drop]; exact hd)
   rwa [hlt2] at this
  have := own_app al_len (by decide) ha (l.drop j) (by rw [hlt2, hld]; omega)
  rw [hlt2, hld, show 2 * i = 0 + i * 2 by omega, ← hW1, ← hm] at this
  exact this
 have hmn : m + 1 = n := by omega
 obtain ⟨W2, hW2⟩ : ∃ W2, W2 = W1.setCells g (m * 2) (Builtin.zeroCells #[.string ⟨#[]⟩, .int .u8 0] (n - m)).toList := ⟨_, rfl⟩
 have hcl : ∀ ty, (Builtin.clear_ #[71] ty #[.slice (some ⟨g, m * 2, none⟩) (n - m) (cap - m)]).run Tryz.prog W1 = .ok (.tuple #[]) W2 := fun ty => by
  rw [hW2]
  exact run_clear_z W1 _ _ ty (.agg #[.string ⟨#[]⟩, .int .u8 0]) 2 Tryz.underlying71 Tryz.zeroValue96 rfl (by decide) all0_a g (m * 2) _ _ (by omega) (fun t ht => own_room hR1 _ (by omega)) (fun t ht => hR1.free _)
 have hml : (l.take i ++ l.drop j).length = m := by rw [List.length_append, hlt2, hld, hm]
 have hR2 : Hid (OwnS 96 2 al W2 base (.slice (some ⟨g, 0, none⟩) (n - 1) cap) (l.take i ++ l.drop j)) := Lib.hid (by
  rw [hW2, show n - 1 = m by omega]
  exact own_tail al_len hR1 _ _ (by rw [hml]; omega))
 have hB : Hid (w.grownBy W2 (some g)) := Lib.hid (by
  rw [hW2, hW1]
  exact grown_then (grown_then (grown_of (r := some g) (w' := w.drew) ⟨rfl, rfl, rfl, Nat.le_refl _, fun _ _ => rfl⟩) (scs_grown _ g _ _)) (scs_grown _ g _ _))
 have hW : Hid (W1 = w.drew.setCells g (0 + i * 2) ((l.drop j).flatMap al)) := Lib.hid hW1
 have HO := Lib.hid h
 have hic : i ≤ cap := by omega
 have hjc : j ≤ cap := by omega
 have hin : i ≤ n := by omega
 have hjn2 : j ≤ n := by omega
 have hcm2 : ¬ cap = m := by omega
 have hij : ¬ i = j := by omega
 have hij2 : ((i : Int) == (j : Int)) = false := Mem.beq_false (by omega)
 have hij3 : (i : Int) ≤ (j : Int) := by omega
 have hij4 : i ≤ j := by omega
 have hnj : n - j = k := hk.symm
 have hik : i + k = m := hm.symm
 have hmc : m ≤ cap := by omega
 have hmn2 : m ≤ n := by omega
 have hfin : Hid (n - 1 = m) := Lib.hid (by omega)
 have HJ := Lib.hid (show l.length = n from hn.symm)
 have HJ1 := Lib.hid hj
 clear hW1 hW2 hR1 h hd hlt2 hld hk hm hml hmn hcur hcs hbg hcm hinfo hz0 hby hzc hn hj hjn
 by_cases hcj : cap = j
 · subst hcj
   have hl0 : Hid (l.length ≤ cap) := Lib.hid (by rw [HJ.out]; omega)
   have hA : Hid (∀ t u, ((l.drop cap).flatMap al)[t]? = some u → w.drew.cell? ((⟨g, 0, none⟩ : Addr).add t) = some u) := Lib.hid (fun t u hu => by
    have : (l.drop cap).length = 0 := by rw [List.length_drop]; have := hl0.out; omega
    rw [List.eq_nil_of_length_eq_zero this] at hu
    simp at hu)
   go_enter Tryz.func42, Tryz.ntmps42
   go_wp2_with fail
   go_region_law (refine step_append_room rfl (.tmp 22) (.tmp 25) 71 rfl 96 i0 2 Tryz.underlying71 hi0 hz1 g 0 i cap (by simp [Act.eval, Act.put]) ⟨g, 0, none⟩ k (cap - cap) ((l.drop cap).flatMap al) (by simp [Act.eval, Act.put, *]) s1.out hA.out s2.out (by omega) s3.out ?_; rw [← hW.out])
   go_wp2
   go_ret
   exact ⟨by rw [hfin.out]; rfl, hR2.out, hB.out⟩
 · have hcj2 : ¬ j = cap := fun e => hcj e.symm
   have hA : Hid (∀ t u, ((l.drop j).flatMap al)[t]? = some u → w.drew.cell? ((⟨g, j * 2, none⟩ : Addr).add t) = some u) := Lib.hid (fun t u hu => by
    have hlt : t < ((l.drop j).flatMap al).length := (List.getElem?_eq_some_iff.1 hu).1
    rw [flat_len al_len] at hlt
    have hq : t / 2 < (l.drop j).length := by omega
    have hx : (l.drop j)[t / 2]? = some (l.drop j)[t / 2] := List.getElem?_eq_getElem hq
    have h1 := flat_get al_len (l.drop j) _ (t / 2) (t % 2) hx (Nat.mod_lt _ (by decide))
    rw [show 2 * (t / 2) + t % 2 = t by omega, hu] at h1
    rw [List.getElem?_drop] at hx
    have h2 := OwnS.cell al_len HO.out (j + t / 2) _ hx (t % 2) (Nat.mod_lt _ (by decide))
    rw [add_off]
    refine Eq.trans ?_ (h2.trans h1.symm)
    show w.cell? _ = _
    congr 2
    omega)
   go_enter Tryz.func42, Tryz.ntmps42
   go_wp2_with fail
   go_region_law (refine step_append_room rfl (.tmp 22) (.tmp 25) 71 rfl 96 i0 2 Tryz.underlying71 hi0 hz1 g 0 i cap (by simp [Act.eval, Act.put]) ⟨g, j * 2, none⟩ k (cap - j) ((l.drop j).flatMap al) (by simp [Act.eval, Act.put, *]) s1.out hA.out s2.out (by omega) s3.out ?_; rw [← hW.out])
   go_wp2
   go_ret
   exact ⟨by rw [hfin.out]; rfl, hR2.out, hB.out⟩
/-- What is kept of the first ones. -/
def kept (m : Ms) (l : List Wt) (k : Nat) : List Wt := (l.take k).filter fun y => !same y.m m
theorem kept_len (m : Ms) (l : List Wt) (k : Nat) : (kept m l k).length ≤ k := by
 unfold kept
 have := List.length_filter_le (fun y => !same y.m m) (l.take k)
 rw [List.length_take] at this
 omega
theorem kept_yes {m : Ms} {l : List Wt} {k : Nat} {y : Wt} (hy : l[k]? = some y) (hs : same y.m m = false) : kept m l (k + 1) = kept m l k ++ [y] := by
 unfold kept; rw [List.take_add_one, hy, List.filter_append]; simp [hs]
theorem kept_no {m : Ms} {l : List Wt} {k : Nat} {y : Wt} (hy : l[k]? = some y) (hs : same y.m m = true) : kept m l (k + 1) = kept m l k := by
 unfold kept; rw [List.take_add_one, hy, List.filter_append]; simp [hs]
/-- The row while some of it is moved ahead: those kept, then what stood there. -/
def half (A l : List Wt) : List Wt := A ++ l.drop A.length
theorem half_len {A l : List Wt} (h : A.length ≤ l.length) : (half A l).length = l.length := by
 unfold half; rw [List.length_append, List.length_drop]; omega
theorem half_get {A l : List Wt} {k : Nat} (h : A.length ≤ k) : (half A l)[k]? = l[k]? := by
 unfold half; rw [List.getElem?_append_right h, List.getElem?_drop]; congr 1; omega
theorem half_set {A l : List Wt} {y : Wt} (h : A.length < l.length) : (half A l).set A.length y = half (A ++ [y]) l := by
 unfold half
 rw [List.set_append_right _ _ (Nat.le_refl _), Nat.sub_self, List.length_append, List.append_assoc]
 congr 1
 rw [List.drop_eq_getElem_cons h, List.set_cons_zero]; rfl
/-- Within DeleteFunc: the row so far; the message in its box. -/
structure Dl (w : World) (g n cap base bm : Nat) (m : Ms) (L : List Wt) (u : World) : Prop where
 own : OwnS KT 22 kl u base (.slice (some ⟨g, 0, none⟩) n cap) L
 m : u.heap[bm]? = some (mO m MT)
 chg : Chg (fun k => k = g) w u
theorem Dl.on {g n cap bm : Nat} {m : Ms} {L : List Wt} {u u' : World} (h : Dl w g n cap base bm m L u) (hb : Below u.heap.size u u') : Dl w g n cap base bm m L u' := ⟨h.own.below hb, stays h.m hb, h.chg.on hb⟩
theorem Dl.ne {g n cap bm b : Nat} {m : Ms} {L : List Wt} {u u' : World} (h : Dl w g n cap base bm m L u) (F : Fresh b u u') : b ≠ g ∧ b ≠ bm := by
 have h1 := (h.own.lt g rfl).2
 have h2 := lt_heap h.m
 have := F.eq
 omega
theorem Dl.mod {g n cap bm b : Nat} {m : Ms} {L : List Wt} {u u' : World} (h : Dl w g n cap base bm m L u) (M : Mod b u u') (hn : b ≠ g ∧ b ≠ bm) (hw : w.heap.size ≤ b) : Dl w g n cap base bm m L u' :=
 ⟨row_keep h.own fun k hk => M.rest k fun e => hn.1 (by rw [← e]; cases hk; rfl), M.other hn.2.symm h.m, h.chg.trans (T := fun k => k = b) ⟨M.os, M.tape, M.output, Nat.le_of_eq M.size.symm, fun k _ hk => M.rest k hk⟩ fun k hk e => by omega⟩
theorem Dl.put {g n cap bm : Nat} {m : Ms} {L L' : List Wt} {u u' : World} (h : Dl w g n cap base bm m L u) (ho : OwnS KT 22 kl u' base (.slice (some ⟨g, 0, none⟩) n cap) L') (M : Mod g u u') : Dl w g n cap base bm m L' u' := by
 obtain ⟨cs, hc⟩ := row_blk h.own (b := g) rfl
 exact ⟨ho, M.other (type_ne h.m hc (by decide)) h.m, h.chg.trans (T := fun k => k = g) ⟨M.os, M.tape, M.output, Nat.le_of_eq M.size.symm, fun k _ hk => M.rest k hk⟩ fun k hk e => e⟩
theorem Dl.cast {g n cap bm : Nat} {m : Ms} {L L' : List Wt} {u : World} (h : Dl w g n cap base bm m L u) (e : L' = L) : Dl w g n cap base bm m L' u := e ▸ h
/-- What DeleteFunc leaves. -/
def Gone (w : World) (base : Nat) (m : Ms) (l : List Wt) (vc v : Value) (w' : World) : Prop := OwnS KT 22 kl w' base v (l.filter fun y => !same y.m m) ∧ Chg (fun k => vc.ownBlock = some k) w w' ∧ v.ownBlock = vc.ownBlock
set_option maxHeartbeats 16000000 in
theorem fdelf {bm : Nat} {m : Ms} (h : OwnS KT 22 kl w base vc l) (hn : l.length ≤ 1000) (hl : ∀ y ∈ l, y.m.In) (hmi : m.In) (hm : w.heap[bm]? = some (mO m MT)) :
 Calls Tryz.prog 40 #[vc, .func (.func 38) #[] #[ptr bm]] w fun e w' => ∃ v, e = .returned v ∧ Gone w base m l vc v w' := by
 have hI := find_ask (bm := bm) (fun y => same y.m m) h hn fun y hy u hb => fask1 (hl y hy) hmi (stays hm hb)
 by_cases hall : ∀ y ∈ l, same y.m m = false
 · have HI : Hid (Calls Tryz.prog 43 #[vc, .func (.func 38) #[] #[ptr bm]] w fun e w' => e = .returned (im (-1)) ∧ Below w.heap.size w w') := Lib.hid (hI.mono fun e w' ⟨i, e1, e2, e3⟩ => ⟨by rw [e1, e2.none_eq hall], e3⟩)
   have HG : Hid (∀ w', Below w.heap.size w w' → Gone w base m l vc vc w') := Lib.hid (fun w' hb => ⟨by rw [List.filter_eq_self.2 fun y hy => by rw [hall y hy]; rfl]; exact h.below hb, Chg.of_below hb, rfl⟩)
   clear hI h hl hm hall
   go_enter Tryz.func40, Tryz.ntmps40
   go_wp2_with (go_at_call 43; refine HI.out.mono ?_; rintro e w1 ⟨rfl, hb⟩; have HB1 := Lib.hid hb; clear hb)
   go_ret
   exact ⟨_, rfl, HG.out _ HB1.out⟩
 · obtain ⟨oa, cap, rfl, ga⟩ := row_form h
   obtain ⟨k0, y0, hy0, hs0, hbefore⟩ : ∃ (k : Nat) (y : Wt), l[k]? = some y ∧ same y.m m = true ∧ ∀ j z, j < k → l[j]? = some z → same z.m m = false := first_of hall
   have hk0 : k0 < l.length := (List.getElem?_eq_some_iff.1 hy0).1
   obtain ⟨g, rfl⟩ := ga k0 hk0
   obtain ⟨n, hln⟩ : ∃ n, l.length = n := ⟨_, rfl⟩
   rw [hln] at h ga hn hk0 hI ⊢
   have HI : Hid (Calls Tryz.prog 43 #[.slice (some ⟨g, 0, none⟩) n cap, .func (.func 38) #[] #[ptr bm]] w fun e w' => e = .returned (nm k0) ∧ Below w.heap.size w w') := Lib.hid (hI.mono fun e w' ⟨i, e1, e2, e3⟩ => ⟨by rw [e1, e2.some_eq hy0 hs0 hbefore], e3⟩)
   obtain ⟨cur, _, hnc, hcm, _, _⟩ := own_raw h
   have hmax : cap ≤ 9223372036854775807 := by unfold maxLen at hcm; omega
   have HL := Lib.hid hln
   have HIN := Lib.hid hl
   have HMI := Lib.hid hmi
   have HO := Lib.hid h
   have HM := Lib.hid hm
   have hkk : kept m l (k0 + 1) = l.take k0 := by
    rw [kept_no hy0 hs0]
    unfold kept
    refine List.filter_eq_self.2 fun y hy => ?_
    obtain ⟨j, hj, e⟩ := List.getElem_of_mem hy
    rw [List.length_take] at hj
    rw [List.getElem_take] at e
    rw [hbefore j y (by omega) (by rw [← e]; exact List.getElem?_eq_getElem _)]; rfl
   have HK : Hid (kept m l (k0 + 1) = l.take k0) := Lib.hid hkk
   have vk := nat_wrap (k0 + 1) (by omega)
   have e0 : ((k0 : Int) == -1) = false := Mem.beq_false (by omega)
   have e0' : ¬ (k0 : Int) = -1 := by omega
   clear hI h hl hm hall hbefore hy0 hs0 hkk hcm hln ga hmi
   go_enter Tryz.func40, Tryz.ntmps40
   go_wp2_with (go_at_call 43; refine HI.out.mono ?_; rintro e w1 ⟨rfl, hb⟩; have HB1 := Lib.hid hb; clear hb)
   have HD0 : Hid (Dl w g n cap base bm m (half (kept m l (k0 + 1)) l) w1) := Lib.hid ⟨by
    rw [HK.out]
    unfold half
    rw [List.length_take, HL.out, Nat.min_eq_left (by omega), List.take_append_drop]
    exact HO.out.below HB1.out, stays HM.out HB1.out, Chg.of_below HB1.out⟩
   have HK2 : Hid ((kept m l (k0 + 1)).length = k0) := Lib.hid (by rw [HK.out, List.length_take, HL.out]; omega)
   clear HK HB1 HI
   go_loopg [5, 6] n (fun gm s5 s6 wr => ∃ k i : Nat, s5 = nm i ∧ s6 = nm k ∧ n - k ≤ gm ∧ i < k ∧ k ≤ n ∧ Hid ((kept m l k).length = i) ∧ Hid (Dl w g n cap base bm m (half (kept m l k) l) wr))
   case atStart => exact ⟨k0 + 1, k0, rfl, by first | rfl | go_num, by omega, by omega, by omega, HK2, HD0⟩
   case round =>
    clear HD0 HK2 vk e0 e0'
    obtain ⟨k, i, rfl, rfl, hgm, hik, hkn, HLn, HD⟩ := hrel
    by_cases hlt : k < n
    · have t1 : decide ((k : Int) < (n : Int)) = true := decide_eq_true (by omega)
      have t2 : (k : Int) < (n : Int) := by omega
      have j0 : (0 : Int) ≤ (k : Int) := by omega
      have i0 : (0 : Int) ≤ (i : Int) := by omega
      have i2 : (i : Int) < (n : Int) := by omega
      have i3 : i < n := by omega
      have vk := nat_wrap (k + 1) (by omega)
      have vi := nat_wrap (i + 1) (by omega)
      obtain ⟨y, hy⟩ : ∃ y, l[k]? = some y := ⟨_, List.getElem?_eq_getElem (by rw [HL.out]; exact hlt)⟩
      have HR := Lib.hid (own_rangez kl_len HD.out.own k y (by rw [half_get (by rw [HLn.out]; omega)]; exact hy))
      have cy := fun (u : World) hu => fask1 (w := u) (bm := bm) (HIN.out y (List.mem_of_getElem? hy)) HMI.out hu
      have hI2 : Hid (i < (half (kept m l k) l).length) := Lib.hid (by rw [half_len (by rw [HLn.out, HL.out]; omega), HL.out]; omega)
      cases hs : same y.m m with
      | true =>
       rw [hs] at cy
       have CY := Lib.hid cy
       have HKN := Lib.hid (kept_no hy hs)
       clear hs cy hy
       go_wp2_with (first
       | ((with_reducible refine ldz isK HR.out ?hz ?hx ?_); (case hz => rfl); (case hx => rfl))
       | ((with_reducible refine alr (cs := kc zK) (by kernel_rfl) ?_); intro b6 w1 h1 F1; have H5 := Lib.hid h1; have HD1 := Lib.hid (HD.out.on F1.below); have E1 := Lib.hid F1.eq; have N6 := Lib.hid (HD.out.ne F1); clear h1 F1)
       | ((with_reducible refine str (kc y) isK H5.out ?h0 ?h1 ?hc ?hx ?hy ?_); (case h0 => rfl); (case h1 => rfl); (case hc => exact all_oneCell_toArray (kl_one y)); (case hx => rfl); (case hy => rfl); intro w2 h2 M2; have H6 := Lib.hid h2; have HD2 := Lib.hid (HD1.out.mod M2 N6.out (by rw [E1.out]; exact HD.out.chg.size)); clear h2 M2)
       | ((with_reducible refine ldz isK (kz_row H6.out) ?hz ?hx ?_); (case hz => rfl); (case hx => rfl))
       | (go_at_call 38; ((with_reducible refine (CY.out _ HD2.out.m).mono ?_); rintro e w3 ⟨rfl, hb⟩; have HD3 := Lib.hid (HD2.out.on hb); have H7 := Lib.hid (stays H6.out hb); clear hb)))
       have HD4 := Lib.hid (HD3.out.cast (by rw [HKN.out] : half (kept m l (k + 1)) l = _))
       go_roundg (n - (k + 1))
       case measure => omega
       case rel => exact ⟨k + 1, i, rfl, by first | rfl | go_num, Nat.le_refl _, by omega, by omega, Lib.hid (by rw [HKN.out]; exact HLn.out), HD4⟩
      | false =>
       rw [hs] at cy
       have CY := Lib.hid cy
       have HKN := Lib.hid (kept_yes hy hs)
       clear hs cy hy
       go_wp2_with (first
       | ((with_reducible refine ldz isK HR.out ?hz ?hx ?_); (case hz => rfl); (case hx => rfl))
       | ((with_reducible refine alr (cs := kc zK) (by kernel_rfl) ?_); intro b6 w1 h1 F1; have H5 := Lib.hid h1; have HD1 := Lib.hid (HD.out.on F1.below); have E1 := Lib.hid F1.eq; have N6 := Lib.hid (HD.out.ne F1); clear h1 F1)
       | ((with_reducible refine str (kc y) isK H5.out ?h0 ?h1 ?hc ?hx ?hy ?_); (case h0 => rfl); (case h1 => rfl); (case hc => exact all_oneCell_toArray (kl_one y)); (case hx => rfl); (case hy => rfl); intro w2 h2 M2; have H6 := Lib.hid h2; have HD2 := Lib.hid (HD1.out.mod M2 N6.out (by rw [E1.out]; exact HD.out.chg.size)); clear h2 M2)
       | ((with_reducible refine ldz isK (kz_row H6.out) ?hz ?hx ?_); (case hz => rfl); (case hx => rfl))
       | (go_at_call 38; ((with_reducible refine (CY.out _ HD2.out.m).mono ?_); rintro e w3 ⟨rfl, hb⟩; have HD3 := Lib.hid (HD2.out.on hb); have H7 := Lib.hid (stays H6.out hb); clear hb))
       | ((with_reducible refine ldz isK (kz_row H7.out) ?hz ?hx ?_); (case hz => rfl); (case hx => rfl))
       | ((with_reducible refine stz kl_len kl_one isK HD3.out.own (hI2.out) y ?hx ?hy ?_); (case hx => rfl); (case hy => rfl); intro w4 ho M4; have HD4 := Lib.hid (HD3.out.put ho M4); clear ho M4))
       have HD5 := Lib.hid (HD4.out.cast (by rw [HKN.out, ← half_set (by rw [HLn.out, HL.out]; omega), HLn.out] : half (kept m l (k + 1)) l = _))
       go_roundg (n - (k + 1))
       case measure => omega
       case rel => exact ⟨k + 1, i + 1, by first | rfl | go_num, by first | rfl | go_num, Nat.le_refl _, by omega, by omega, Lib.hid (by rw [HKN.out, List.length_append, HLn.out]; rfl), HD5⟩
    · obtain rfl : k = n := by omega
      have t1 : decide ((k : Int) < (k : Int)) = false := decide_eq_false (by omega)
      have t2 : ¬ (k : Int) < (k : Int) := by omega
      have hKE : kept m l k = l.filter fun y => !same y.m m := by
       unfold kept; rw [List.take_of_length_le (by rw [HL.out]; exact Nat.le_refl _)]
      have HKE := Lib.hid hKE
      obtain ⟨W2, hW2⟩ : ∃ W2, W2 = wr.setCells g (i * 22) (Builtin.zeroCells (kc zK) (k - i)).toList := ⟨_, rfl⟩
      have hcl : ∀ ty, (Builtin.clear_ #[72] ty #[.slice (some ⟨g, i * 22, none⟩) (k - i) (cap - i)]).run Tryz.prog wr = .ok (.tuple #[]) W2 := fun ty => by
       rw [hW2]
       exact run_clear_z wr _ _ ty (.agg (kc zK)) 22 Tryz.underlying72 Tryz.zeroValue88 rfl (by decide) all0_k g (i * 22) _ _ (by omega) (fun t ht => own_room HD.out.own _ (by omega)) (fun t ht => HD.out.own.free _)
      have HG : Hid (Gone w base m l (.slice (some ⟨g, 0, none⟩) k cap) (.slice (some ⟨g, 0, none⟩) i cap) W2) := Lib.hid ⟨by
       have h1 := own_first (A := kept m l k) (B := l.drop (kept m l k).length) kl_len (by decide) HD.out.own
       rw [HLn.out] at h1
       rw [hW2, ← HKE.out]
       exact own_tail kl_len h1 _ _ (by rw [HLn.out]; omega), by
       rw [hW2]
       refine ((HD.out.chg.mono (T := fun j => (Value.slice (some ⟨g, 0, none⟩) k cap).ownBlock = some j) (fun j e => by rw [e]; rfl)).grown (scs_grown wr g (i * 22) _) ?_)
       intro j hj _
       exact hj, rfl⟩
      have hic : ¬ cap = i := by omega
      have hic2 : i ≤ cap := by omega
      have hin : i ≤ k := by omega
      have i0 : (0 : Int) ≤ (i : Int) := by omega
      clear hW2 hKE HKE HD HLn
      go_wp2
      go_ret
      exact ⟨_, rfl, HG.out⟩
end
end Go.Proofs.YtakkhdammmcjcaaGreatDoor.Ctl

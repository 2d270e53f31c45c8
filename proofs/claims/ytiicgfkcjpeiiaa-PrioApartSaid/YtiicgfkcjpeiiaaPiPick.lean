/-
  A class's round as a closure; what Pick of the program answers. Condition: it lies where it says.
-/
import Derived.Test.YtiicgfkcjpeiiaaPiSmall
import Derived.BigQuiet
namespace Go.Proofs.Ytiicgfkcjpeiiaa.Pi
open Go.RowKit Go.Proofs.Ytiicgfkcjpeiiaa.Base Go.Proofs.Ytiicgfkcjpeiiaa.Mem Go.Proofs.Ytiicgfkcjpeiiaa.Cr
abbrev cloF (b1 b2 : Nat) : Value := .func (.func 28) #[] #[ptr b1, ptr b2]
theorem fround (b c : Nat) (w : World) : Calls Try.prog 27 #[ptr b, oc c] w fun e w' => e = .returned (cloF w.heap.size (w.heap.size + 1)) ∧ (w.alloc (.cells #[ptr b] 24)).alloc (.cells #[oc c] 5) = w' := by
  go_enter Try.func27, Try.ntmps27
  go_wp2
  go_ret
  exact ⟨rfl, rfl⟩
set_option maxHeartbeats 2000000 in
theorem fnext {w : World} {b : Nat} {x : St} (h : P w b x) (b1 b2 c n : Nat) (h1 : w.cell? ⟨b1, 0, none⟩ = some (ptr b)) (h2 : w.cell? ⟨b2, 0, none⟩ = some (oc c)) (hc : c < 64) (hn : n < 64) :
    Calls Try.prog 28 #[oc n, ptr b1, ptr b2] w fun e w' => e = .returned (oc ((x.la c + n) % 64)) ∧ ∃ k, w' = w.drewN k := by
  have c0 := h.la hc
  have hla := h.ok.la c
  obtain ⟨l, hl⟩ : ∃ l, x.la c = l := ⟨_, rfl⟩
  rw [hl] at c0 hla ⊢
  obtain ⟨s, hs⟩ : ∃ s, l + n = s := ⟨_, rfl⟩
  have v0 : IntKind.u8.wrap ((l : Int) + (n : Int)) = (s : Int) := by rw [IntKind.wrap_u8]; omega
  rw [hs]
  obtain ⟨r, hr⟩ : ∃ r, s % 64 = r := ⟨_, rfl⟩
  have v1 : (s : Int) % 64 = (r : Int) := by omega
  have b0 : s < 256 := by omega
  rw [hr]
  have t2 : (c : Int) < 64 := by omega
  clear h hl hs hr hla
  go_enter Try.func28, Try.ntmps28
  go_wp2_with fail
  go_quiet (fail)
  go_wp2
  go_ret
  exact ⟨by rw [v1]; rfl, nq, rfl⟩
theorem fpick_nil (w : World) : Calls Try.prog 14 #[.pointer none] w fun e w' => e = .returned (.tuple #[oc 0, .bool false]) ∧ w = w' := by
  go_enter Try.func14, Try.ntmps14
  go_wp2
  go_ret2
  exact ⟨rfl, rfl⟩
theorem fpick_none {w : World} {b : Nat} {x : St} (h : P w b x) (hl : x.least = 64) : Calls Try.prog 14 #[ptr b] w fun e w' => e = .returned (.tuple #[oc 0, .bool false]) ∧ w = w' := by
  have C := fleast h
  rw [hl] at C
  have C := Lib.hid C
  clear h hl
  go_enter Try.func14, Try.ntmps14
  go_wp2_with (go_at_call 26; refine C.out.mono ?_; rintro _ _ ⟨rfl, rfl⟩)
  go_ret2
  exact ⟨rfl, rfl⟩
/-- What the round of Pick keeps. -/
structure Rd (b b1 b2 c : Nat) (x : St) (w wr : World) : Prop where
  p : P wr b x
  c1 : wr.cell? ⟨b1, 0, none⟩ = some (ptr b)
  c2 : wr.cell? ⟨b2, 0, none⟩ = some (oc c)
  chg : Chg (Bs b) w wr
theorem Rd.drewN {b b1 b2 c : Nat} {x : St} {w wr : World} (h : Rd b b1 b2 c x w wr) (n : Nat) : Rd b b1 b2 c x w (wr.drewN n) := ⟨h.p.drewN n, h.c1, h.c2, h.chg.drewN n⟩
set_option maxHeartbeats 4000000 in
theorem fpick_some {w : World} {b : Nat} {x : St} (h : P w b x) (hl : x.least < 64) : Calls Try.prog 14 #[ptr b] w fun e w' => e = .returned (.tuple #[oc x.who, .bool true]) ∧ P w' b (x.tak x.who) ∧ Chg (Bs b) w w' := by
  have C := Lib.hid (fleast h)
  have HP := Lib.hid h
  have HN := Lib.hid (who_nx h.ok hl)
  have HO := Lib.hid h.ok
  obtain ⟨l, hl2⟩ : ∃ l, x.least = l := ⟨_, rfl⟩
  have HL := Lib.hid hl2
  rw [hl2] at C hl
  have t0 : ((l : Int) == 64) = false := beq_false (by omega)
  have t1 : ¬ (l : Int) = 64 := by omega
  have t2 : ¬ l = 64 := by omega
  clear h hl2
  go_enter Try.func14, Try.ntmps14
  go_wp2_with fail
  refine C.out.mono ?_
  rintro _ _ ⟨rfl, rfl⟩
  go_wp2_with fail
  refine C.out.mono ?_
  rintro _ _ ⟨rfl, rfl⟩
  go_wp2_with fail
  refine (fround b l w).mono ?_
  rintro _ w1 ⟨rfl, hw⟩
  have HR : Hid (Rd b w.heap.size (w.heap.size + 1) l x w w1) := Lib.hid (by
    rw [← hw]
    refine ⟨(HP.out.below (nest_below w [.cells #[ptr b] 24, .cells #[oc l] 5])), cell_of (nest w [.cells #[ptr b] 24, .cells #[oc l] 5] 0 _ rfl) rfl, cell_of (nest w [.cells #[ptr b] 24, .cells #[oc l] 5] 1 _ rfl) rfl, ((Chg.refl _ _).alloc _).alloc _⟩)
  clear hw HP C
  generalize w.heap.size = b1 at HR ⊢
  generalize b1 + 1 = b2 at HR ⊢
  go_wp2_with fail
  go_loopg [18] 64 (fun gm s wr => ∃ (k : Nat), s = oc k ∧ 64 - k ≤ gm ∧ k ≤ 64 ∧ Hid (∀ m, m < k → x.may ((x.la x.least + m) % 64) = false) ∧ Hid (Rd b b1 b2 l x w wr))
  case atStart => exact ⟨0, rfl, by omega, by omega, Lib.hid (fun m hm => absurd hm (Nat.not_lt_zero _)), HR⟩
  case round =>
    clear HR
    obtain ⟨k, rfl, hgm, hkn, HM, HR⟩ := hrel
    by_cases hlt : k < 64
    · have t1 : decide ((k : Int) < 64) = true := decide_eq_true (by omega)
      have t2 : (k : Int) < 64 := by omega
      have vk := wrap_u8 (k + 1) (by omega)
      have CN := Lib.hid (fnext HR.out.p b1 b2 l k HR.out.c1 HR.out.c2 hl hlt)
      obtain ⟨d, hd⟩ : ∃ d, (x.la l + k) % 64 = d := ⟨_, rfl⟩
      have HD : Hid ((x.la x.least + k) % 64 = d) := Lib.hid (by rw [HL.out]; exact hd)
      have hd64 : d < 64 := by rw [← hd]; exact Nat.mod_lt _ (by decide)
      rw [hd] at CN
      clear hd
      go_wp2_with fail
      refine CN.out.mono ?_
      rintro _ _ ⟨rfl, nq, rfl⟩
      have HR2 := Lib.hid (HR.out.drewN nq)
      clear CN HR
      generalize wr.drewN nq = w2 at HR2 ⊢
      by_cases hm : x.may d = true
      · have C := Lib.hid (ftake_yes HR2.out.p d hm)
        have HW : Hid (x.who = d) := Lib.hid (Nx.who HO.out (by
          have hq := HN.out
          refine ⟨hm, fun e he => ?_⟩
          have hla := HO.out.la x.least
          rcases Nat.lt_or_ge (ds (x.la x.least) e) k with hh | hh
          · have := HM.out _ hh
            rw [ds_back hla (may_iff.1 he).1, he] at this
            cases this
          · rw [← HD.out, ds_of hla hlt]; exact hh))
        clear hm
        go_wp2_with fail
        refine C.out.mono ?_
        rintro _ w3 ⟨rfl, hp, hc⟩
        have HF := Lib.hid (And.intro hp (HR2.out.chg.then hc))
        clear hp hc C HR2
        go_wp2
        go_ret2
        rw [HW.out]
        exact ⟨rfl, HF.out⟩
      · have hm2 : x.may d = false := by simpa using hm
        have CM := fmay HR2.out.p d hd64
        rw [hm2] at CM
        have C := Lib.hid (ftake_no CM)
        have HM2 : Hid (∀ m, m < k + 1 → x.may ((x.la x.least + m) % 64) = false) := Lib.hid (fun m hj => by
          by_cases e : m = k
          · rw [e, HD.out]; exact hm2
          · exact HM.out m (by omega))
        clear hm hm2 CM
        go_wp2_with fail
        refine C.out.mono ?_
        rintro _ _ ⟨rfl, nq, rfl⟩
        have HR3 := Lib.hid (HR2.out.drewN nq)
        clear C HR2
        generalize w2.drewN nq = w3 at HR3 ⊢
        go_wp2
        go_roundg (64 - (k + 1))
        case measure => omega
        case rel => exact ⟨k + 1, by first | rfl | go_num, Nat.le_refl _, by omega, HM2, HR3⟩
    · exfalso
      have hw := HN.out
      have := HM.out (ds (x.la x.least) x.who) (by have := ds_lt (x.la x.least) x.who; omega)
      rw [ds_back (HO.out.la _) (may_iff.1 hw.may).1, hw.may] at this
      cases this
/-- Pick, whatever is ready. -/
theorem fpick {w : World} {b : Nat} {x : St} (h : P w b x) : Calls Try.prog 14 #[ptr b] w fun e w' => e = .returned (.tuple #[oc x.pd, .bool x.pb]) ∧ P w' b x.pick ∧ Chg (Bs b) w w' := by
  by_cases hl : x.least = 64
  · unfold St.pd St.pb St.pick
    rw [if_pos hl, if_pos hl, decide_eq_false (fun e => e hl)]
    exact (fpick_none h hl).mono fun _ _ ⟨he, hw⟩ => ⟨he, hw ▸ ⟨h, Chg.refl _ _⟩⟩
  · unfold St.pd St.pb St.pick
    rw [if_neg hl, if_neg hl, decide_eq_true hl]
    exact fpick_some h (by have := least_le x; omega)
end Go.Proofs.Ytiicgfkcjpeiiaa.Pi

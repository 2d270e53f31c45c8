/-
  LinkSays answers true whatever came in, and turns nothing that was there. No condition.
-/
import Derived.Test.YtfflbaiddiahnaaLkPlaysLaw
namespace Go.Proofs.Ytfflbaiddiahnaa.Lk
open Go.RowKit Go.Proofs.Ytfflbaiddiahnaa.Base Go.Proofs.Ytfflbaiddiahnaa.Mem
/-- Which kinds of answers there are: none, a command, a response. -/
theorem on_shape (l : Lk) (e : Ev) :
    ((on l e).2.k = 0 ∧ (on l e).2.c = false ∧ (on l e).2.p = false ∧ (on l e).2.t ≠ 1) ∨
    ((on l e).2.k ≠ 0 ∧ (on l e).2.c = true ∧ (on l e).2.t = 1 ∧ (e = .opens ∨ e = .closes ∨ e = .due)) ∨
    ((on l e).2.k ≠ 0 ∧ (on l e).2.c = false ∧ (on l e).2.t ≠ 1 ∧ (e = .sabm (on l e).2.p ∨ e = .disc (on l e).2.p ∨ e = .poll (on l e).2.p)) := by
  have ha : ((again l).2.k = 0 ∧ (again l).2.c = false ∧ (again l).2.p = false ∧ (again l).2.t ≠ 1) ∨ ((again l).2.k ≠ 0 ∧ (again l).2.c = true ∧ (again l).2.t = 1) := by
    unfold again cmd
    split
    · right
      refine ⟨?_, rfl, rfl⟩
      dsimp only
      split <;> decide
    · exact Or.inl ⟨rfl, rfl, rfl, by simp⟩
  unfold on onDown onOpening onUp onClosing
  repeat' split
  all_goals first
    | exact Or.inl ⟨rfl, rfl, rfl, by simp [nop]⟩
    | exact Or.inl ⟨rfl, rfl, rfl, by simp⟩
    | exact Or.inr (Or.inl ⟨by simp, rfl, rfl, by simp⟩)
    | exact Or.inr (Or.inr ⟨by simp, rfl, by simp, by simp⟩)
    | (rcases ha with ha | ⟨h1, h2, h3⟩
       · exact Or.inl ha
       · exact Or.inr (Or.inl ⟨h1, h2, h3, by simp⟩))
theorem evOf_cmd {k : Int} {p c q : Bool} (h : evOf k p c = .sabm q ∨ evOf k p c = .disc q ∨ evOf k p c = .poll q) : c = true ∧ q = p := by
  unfold evOf at h
  cases c with
  | true =>
    simp only [if_true] at h
    refine ⟨rfl, ?_⟩
    split at h
    · exact (by simpa using h : p = q).symm
    split at h
    · exact (by simpa using h : p = q).symm
    split at h
    · exact (by simpa using h : p = q).symm
    · simp at h
  | false =>
    simp only [Bool.false_eq_true, if_false] at h
    split at h
    · simp at h
    split at h
    · simp at h
    · simp at h
theorem evOf_no {k : Int} {p c : Bool} : evOf k p c ≠ .opens ∧ evOf k p c ≠ .closes ∧ evOf k p c ≠ .due := by
  unfold evOf
  refine ⟨?_, ?_, ?_⟩ <;> (repeat' split) <;> simp
theorem says_shape (l : Lk) (x : Et) :
    ((doE l x).2.k = 0 ∧ (doE l x).2.c = false ∧ (doE l x).2.p = false ∧ (doE l x).2.t ≠ 1) ∨
    ((doE l x).2.k ≠ 0 ∧ (doE l x).2.c = true ∧ (doE l x).2.t = 1 ∧ place x.kind 6 < 3) ∨
    ((doE l x).2.k ≠ 0 ∧ (doE l x).2.c = false ∧ (doE l x).2.t ≠ 1 ∧ (doE l x).2.p = x.pf ∧ 4 ≤ place x.kind 6 ∧ x.c = true) := by
  unfold doE
  by_cases h0 : place x.kind 6 = 0
  · rw [if_pos h0]
    rcases on_shape l .opens with h | ⟨h1, h2, h3, _⟩ | ⟨_, _, _, h⟩
    · exact Or.inl h
    · exact Or.inr (Or.inl ⟨h1, h2, h3, by omega⟩)
    · simp at h
  rw [if_neg h0]
  by_cases h1 : place x.kind 6 = 1
  · rw [if_pos h1]
    rcases on_shape l .closes with h | ⟨g1, h2, h3, _⟩ | ⟨_, _, _, h⟩
    · exact Or.inl h
    · exact Or.inr (Or.inl ⟨g1, h2, h3, by omega⟩)
    · simp at h
  rw [if_neg h1]
  by_cases h2 : place x.kind 6 = 2
  · rw [if_pos h2]
    rcases on_shape l .due with h | ⟨g1, g2, h3, _⟩ | ⟨_, _, _, h⟩
    · exact Or.inl h
    · exact Or.inr (Or.inl ⟨g1, g2, h3, by omega⟩)
    · simp at h
  rw [if_neg h2]
  by_cases h3 : place x.kind 6 = 3
  · rw [if_pos h3]
    exact Or.inl ⟨rfl, rfl, rfl, by simp⟩
  rw [if_neg h3]
  have hn := @evOf_no x.fr x.pf x.c
  rcases on_shape l (evOf x.fr x.pf x.c) with h | ⟨_, _, _, h⟩ | ⟨g1, g2, g3, h⟩
  · exact Or.inl h
  · rcases h with h | h | h
    · exact absurd h hn.1
    · exact absurd h hn.2.1
    · exact absurd h hn.2.2
  · obtain ⟨e1, e2⟩ := evOf_cmd h
    exact Or.inr (Or.inr ⟨g1, g2, g3, e2, by omega, e1⟩)
/-- What is Up stays so, whatever it hears but SABM, DISC and DM. -/
theorem up_stays (l : Lk) (x : Et) (hs : l.s = 3) (hm : 4 ≤ place x.kind 6) (h1 : x.fr ≠ 1) (h4 : x.fr ≠ 4) (h3 : x.fr ≠ 3) : doE l x = (l, ⟨0, false, false, 0, 0⟩) := by
  unfold doE
  rw [if_neg (by omega), if_neg (by omega), if_neg (by omega), if_neg (by omega)]
  have he : evOf x.fr x.pf x.c = .ua x.pf ∨ evOf x.fr x.pf x.c = .poll x.pf ∨ evOf x.fr x.pf x.c = .noise := by
    unfold evOf
    cases x.c with
    | true =>
      simp only [if_true, if_neg h1, if_neg h4]
      split
      · exact Or.inr (Or.inl rfl)
      · exact Or.inr (Or.inr rfl)
    | false =>
      simp only [Bool.false_eq_true, if_false, if_neg h3]
      split
      · exact Or.inl rfl
      · exact Or.inr (Or.inr rfl)
  have ho : ∀ e, on l e = onUp l e := fun e => by unfold on; simp [hs]
  rcases he with e | e | e <;> (rw [e, ho]; rfl)
end Go.Proofs.Ytfflbaiddiahnaa.Lk
namespace Go.Proofs.Ytfflbaiddiahnaa.linkSays
open Go.RowKit Go.Proofs.Ytfflbaiddiahnaa.Base Go.Proofs.Ytfflbaiddiahnaa.Mem Go.Proofs.Ytfflbaiddiahnaa.Lk
/-- A link, made since w0. -/
structure One (w0 : World) (pw : Nat) (l : Lk) (w : World) : Prop where
  a : LkAt w pw l
  lo : w0.heap.size ≤ pw
  below : Below w0.heap.size w0 w
theorem One.on {w0 w w' : World} {pw : Nat} {l : Lk} (h : One w0 pw l w) (hb : Below w.heap.size w w') : One w0 pw l w' := ⟨h.a.below hb, h.lo, below_on h.below hb⟩
theorem One.drewN {w0 w : World} {pw : Nat} {l : Lk} (h : One w0 pw l w) (n : Nat) : One w0 pw l (w.drewN n) := h.on ⟨rfl, rfl, rfl, Nat.le_refl _, fun _ _ => rfl⟩
theorem One.doA {w0 w w' : World} {pw : Nat} {l l' : Lk} (h : One w0 pw l w) (hd : Does pw l' w w') : One w0 pw l' w' :=
  ⟨hd.at_, h.lo, hd.chg.below h.below h.below.size fun k e => by have := h.lo; omega⟩
set_option maxHeartbeats 16000000 in
set_option maxRecDepth 100000 in
theorem law (n2 : Int) (_ : -9223372036854775808 ≤ n2 ∧ n2 ≤ 9223372036854775807) (oa : Option Addr) (n cap : Nat) (F : Nat → Et) (_ : n ≤ maxLen) (w : World) (hA : ArgS 4 ec Fits w oa n F) :
    Calls Try.prog 6 #[.int .i64 n2, .slice oa n cap] w fun e w' => e = .returned (.bool true) ∧ Below w.heap.size w w' := by
  have HA := Lib.hid hA
  clear hA
  by_cases h : 200 < n
  · have h1 : (200 : Int) < (n : Int) := by omega
    have h2 : decide ((200 : Int) < (n : Int)) = true := decide_eq_true h1
    have cw := Lib.hid (fworks w)
    go_enter Try.func6, Try.ntmps6
    go_wp2_with fail
    refine cw.out.mono ?_
    rintro _ w1 ⟨rfl, hb⟩
    have HB := Lib.hid hb
    clear hb cw
    go_wp2
    go_ret
    exact ⟨rfl, HB.out⟩
  have h1 : ¬ (200 : Int) < (n : Int) := by omega
  have h2 : decide ((200 : Int) < (n : Int)) = false := decide_eq_false h1
  have cn := Lib.hid (fnew n2 w)
  go_enter Try.func6, Try.ntmps6
  go_wp2_with fail
  refine cn.out.mono ?_
  rintro _ w1 ⟨rfl, hw1, hb1⟩
  have HP : Hid (One w w.heap.size (new n2) w1) := ⟨hw1, Nat.le_refl _, hb1⟩
  clear cn hw1 hb1
  generalize hpw : w.heap.size = pw at HP ⊢
  have HPW := Lib.hid hpw
  have HO := Lib.hid (new_ok n2)
  clear hpw
  generalize new n2 = l0 at HP HO
  go_wp2_with fail
  go_loopg [6] n (fun gm s wr => ∃ (k : Nat) (l : Lk), s = nm k ∧ n - k ≤ gm ∧ k ≤ n ∧ Hid (One w pw l wr) ∧ Hid l.Ok)
  case atStart => exact ⟨0, _, rfl, by omega, by omega, HP, HO⟩
  case round =>
    clear HP HO l0
    obtain ⟨k, l, rfl, hgm, hkn, HP, HO⟩ := hrel
    by_cases hlt : k < n
    · have t1 : decide ((k : Int) < (n : Int)) = true := decide_eq_true (by omega)
      have t2 : (k : Int) < (n : Int) := by omega
      have j0 : (0 : Int) ≤ (k : Int) := by omega
      have vk := wrap_nat (k + 1) (by omega)
      obtain ⟨a, gb, go, rfl, ha, hgb, hrw⟩ := arg_at HA.out hlt
      obtain ⟨x, hx⟩ : ∃ x, x = F k := ⟨_, rfl⟩
      rw [← hx] at hrw
      obtain ⟨c0, c1, c2, c3⟩ := hrw wr HP.out.below
      have hgr : gb < wr.heap.size := Nat.lt_of_lt_of_le hgb HP.out.below.size
      have HRW := Lib.hid hrw
      obtain ⟨r, hr⟩ : ∃ r, doE l x = r := ⟨_, rfl⟩
      have HR := Lib.hid hr
      have HN : Hid r.1.Ok := by show r.1.Ok; rw [← hr]; exact doE_ok HO.out x
      have SH := says_shape l x
      rw [hr] at SH
      have US := up_stays l x
      rw [hr] at US
      obtain ⟨m, hm⟩ : ∃ m, place x.kind 6 = m := ⟨_, rfl⟩
      rw [hm] at SH US
      have CP := Lib.hid (fun w => pickE x.kind m hm w)
      have CD := Lib.hid (fdoE wr pw l x HO.out HP.out.a r hr)
      have CS := Lib.hid (fstate wr pw l HP.out.a HO.out.s0)
      have HSH := Lib.hid SH
      have HUS := Lib.hid US
      have HKK := Lib.hid hgb
      clear hrw hx hr SH US hm hgb
      obtain ⟨⟨s2, li2, n2', t2'⟩, ⟨ak, ac, ap, at', af⟩⟩ := r
      obtain ⟨s, li, n3, t3⟩ := l
      go_wp2_with fail
      refine CS.out.mono ?_
      rintro _ v ⟨rfl, rfl⟩
      go_wp2_with fail
      refine CD.out.mono ?_
      rintro _ w3 ⟨rfl, hd⟩
      have HP3 := Lib.hid (HP.out.doA hd)
      clear hd c0 c1 c2 c3 hgr CD CS HP
      obtain ⟨c0, c1, c2, c3⟩ := HRW.out w3 HP3.out.below
      have hgr : gb < w3.heap.size := Nat.lt_of_lt_of_le HKK.out HP3.out.below.size
      go_wp2_with fail
      refine (CP.out _).mono ?_
      rintro _ v ⟨rfl, rfl⟩
      clear CP
      rcases HSH.out with ⟨g1, g2, g3, g4⟩ | ⟨g1, g2, g3, g4⟩ | ⟨g1, g2, g3, g4, g5, g6⟩
      · subst g1 g2 g3
        by_cases hs : s = 3
        · subst hs
          by_cases hm4 : m < 4
          · have y0 : (at' == 1) = false := beq_false g4
            have y1 : decide ((3 : Int) < (m : Int)) = false := decide_eq_false (by omega)
            go_wp2_with fail
            go_quiet (fail)
            have HQ : Hid (One w pw ⟨s2, li2, n2', t2'⟩ ((w3.alloc (aO ⟨0, false, false, at', af⟩ 30)).drewN nq)) := Lib.hid ((HP3.out.on ((Below.refl _ _).alloc (Nat.le_refl _) _)).drewN nq)
            have hn5 : ((w3.alloc (aO ⟨0, false, false, at', af⟩ 30)).drewN nq).heap[w3.heap.size]? = some (aO ⟨0, false, false, at', af⟩ 30) := nest w3 [_] 0 _ rfl
            generalize (w3.alloc (aO ⟨0, false, false, at', af⟩ 30)).drewN nq = w4 at HQ hn5 ⊢
            generalize w3.heap.size = n5 at hn5 ⊢
            clear c0 c1 c2 c3 hgr
            obtain ⟨c0, c1, c2, c3⟩ := HRW.out w4 HQ.out.below
            have hgr : gb < w4.heap.size := Nat.lt_of_lt_of_le HKK.out HQ.out.below.size
            obtain ⟨⟨z0, z1, z2, z3, z4⟩, -⟩ := cells5 hn5
            go_wp2
            go_roundg (n - (k + 1))
            case measure => omega
            case rel => exact ⟨k + 1, _, by first | rfl | go_num, Nat.le_refl _, by omega, HQ, HN⟩
          by_cases f1 : x.fr = 1
          · rw [f1] at c1 HRW
            have y0 : (at' == 1) = false := beq_false g4
            have y1 : decide ((3 : Int) < (m : Int)) = true := decide_eq_true (by omega)
            go_wp2_with fail
            go_quiet (fail)
            have HQ : Hid (One w pw ⟨s2, li2, n2', t2'⟩ ((w3.alloc (aO ⟨0, false, false, at', af⟩ 30)).drewN nq)) := Lib.hid ((HP3.out.on ((Below.refl _ _).alloc (Nat.le_refl _) _)).drewN nq)
            have hn5 : ((w3.alloc (aO ⟨0, false, false, at', af⟩ 30)).drewN nq).heap[w3.heap.size]? = some (aO ⟨0, false, false, at', af⟩ 30) := nest w3 [_] 0 _ rfl
            generalize (w3.alloc (aO ⟨0, false, false, at', af⟩ 30)).drewN nq = w4 at HQ hn5 ⊢
            generalize w3.heap.size = n5 at hn5 ⊢
            clear c0 c1 c2 c3 hgr
            obtain ⟨c0, c1, c2, c3⟩ := HRW.out w4 HQ.out.below
            have hgr : gb < w4.heap.size := Nat.lt_of_lt_of_le HKK.out HQ.out.below.size
            obtain ⟨⟨z0, z1, z2, z3, z4⟩, -⟩ := cells5 hn5
            go_wp2
            go_roundg (n - (k + 1))
            case measure => omega
            case rel => exact ⟨k + 1, _, by first | rfl | go_num, Nat.le_refl _, by omega, HQ, HN⟩
          have f1b : (x.fr != 1) = true := bne_true f1
          by_cases f4 : x.fr = 4
          · rw [f4] at c1 HRW
            have y0 : (at' == 1) = false := beq_false g4
            have y1 : decide ((3 : Int) < (m : Int)) = true := decide_eq_true (by omega)
            go_wp2_with fail
            go_quiet (fail)
            have HQ : Hid (One w pw ⟨s2, li2, n2', t2'⟩ ((w3.alloc (aO ⟨0, false, false, at', af⟩ 30)).drewN nq)) := Lib.hid ((HP3.out.on ((Below.refl _ _).alloc (Nat.le_refl _) _)).drewN nq)
            have hn5 : ((w3.alloc (aO ⟨0, false, false, at', af⟩ 30)).drewN nq).heap[w3.heap.size]? = some (aO ⟨0, false, false, at', af⟩ 30) := nest w3 [_] 0 _ rfl
            generalize (w3.alloc (aO ⟨0, false, false, at', af⟩ 30)).drewN nq = w4 at HQ hn5 ⊢
            generalize w3.heap.size = n5 at hn5 ⊢
            clear c0 c1 c2 c3 hgr
            obtain ⟨c0, c1, c2, c3⟩ := HRW.out w4 HQ.out.below
            have hgr : gb < w4.heap.size := Nat.lt_of_lt_of_le HKK.out HQ.out.below.size
            obtain ⟨⟨z0, z1, z2, z3, z4⟩, -⟩ := cells5 hn5
            go_wp2
            go_roundg (n - (k + 1))
            case measure => omega
            case rel => exact ⟨k + 1, _, by first | rfl | go_num, Nat.le_refl _, by omega, HQ, HN⟩
          have f4b : (x.fr != 4) = true := bne_true f4
          by_cases f3 : x.fr = 3
          · rw [f3] at c1 HRW
            have y0 : (at' == 1) = false := beq_false g4
            have y1 : decide ((3 : Int) < (m : Int)) = true := decide_eq_true (by omega)
            go_wp2_with fail
            go_quiet (fail)
            have HQ : Hid (One w pw ⟨s2, li2, n2', t2'⟩ ((w3.alloc (aO ⟨0, false, false, at', af⟩ 30)).drewN nq)) := Lib.hid ((HP3.out.on ((Below.refl _ _).alloc (Nat.le_refl _) _)).drewN nq)
            have hn5 : ((w3.alloc (aO ⟨0, false, false, at', af⟩ 30)).drewN nq).heap[w3.heap.size]? = some (aO ⟨0, false, false, at', af⟩ 30) := nest w3 [_] 0 _ rfl
            generalize (w3.alloc (aO ⟨0, false, false, at', af⟩ 30)).drewN nq = w4 at HQ hn5 ⊢
            generalize w3.heap.size = n5 at hn5 ⊢
            clear c0 c1 c2 c3 hgr
            obtain ⟨c0, c1, c2, c3⟩ := HRW.out w4 HQ.out.below
            have hgr : gb < w4.heap.size := Nat.lt_of_lt_of_le HKK.out HQ.out.below.size
            obtain ⟨⟨z0, z1, z2, z3, z4⟩, -⟩ := cells5 hn5
            go_wp2
            go_roundg (n - (k + 1))
            case measure => omega
            case rel => exact ⟨k + 1, _, by first | rfl | go_num, Nat.le_refl _, by omega, HQ, HN⟩
          have f3b : (x.fr != 3) = true := bne_true f3
          obtain ⟨e1, e2⟩ := Prod.mk.inj (HUS.out rfl (by omega) f1 f4 f3)
          obtain ⟨rfl, rfl, rfl, rfl⟩ := Lk.mk.inj e1
          obtain ⟨-, -, -, e3, e4⟩ := Ac.mk.inj e2
          subst e3 e4
          have y0 : decide ((3 : Int) < (m : Int)) = true := decide_eq_true (by omega)
          go_wp2_with fail
          go_quiet (fail)
          have HQ : Hid (One w pw ⟨3, li2, n2', t2'⟩ ((w3.alloc (aO ⟨0, false, false, 0, 0⟩ 30)).drewN nq)) := Lib.hid ((HP3.out.on ((Below.refl _ _).alloc (Nat.le_refl _) _)).drewN nq)
          have hn5 : ((w3.alloc (aO ⟨0, false, false, 0, 0⟩ 30)).drewN nq).heap[w3.heap.size]? = some (aO ⟨0, false, false, 0, 0⟩ 30) := nest w3 [_] 0 _ rfl
          generalize (w3.alloc (aO ⟨0, false, false, 0, 0⟩ 30)).drewN nq = w4 at HQ hn5 ⊢
          generalize w3.heap.size = n5 at hn5 ⊢
          clear c0 c1 c2 c3 hgr
          obtain ⟨c0, c1, c2, c3⟩ := HRW.out w4 HQ.out.below
          have hgr : gb < w4.heap.size := Nat.lt_of_lt_of_le HKK.out HQ.out.below.size
          obtain ⟨⟨z0, z1, z2, z3, z4⟩, -⟩ := cells5 hn5
          have CS := Lib.hid (fstate w4 pw _ HQ.out.a HN.out.s0)
          go_wp2_with fail
          refine CS.out.mono ?_
          rintro _ v ⟨rfl, rfl⟩
          have sn := same_ne
          go_wp2
          go_roundg (n - (k + 1))
          case measure => omega
          case rel => exact ⟨k + 1, _, by first | rfl | go_num, Nat.le_refl _, by omega, HQ, HN⟩
        · have y0 : (at' == 1) = false := beq_false g4
          have y1 : (s == 3) = false := beq_false hs
          go_wp2_with fail
          go_quiet (fail)
          have HQ : Hid (One w pw ⟨s2, li2, n2', t2'⟩ ((w3.alloc (aO ⟨0, false, false, at', af⟩ 30)).drewN nq)) := Lib.hid ((HP3.out.on ((Below.refl _ _).alloc (Nat.le_refl _) _)).drewN nq)
          have hn5 : ((w3.alloc (aO ⟨0, false, false, at', af⟩ 30)).drewN nq).heap[w3.heap.size]? = some (aO ⟨0, false, false, at', af⟩ 30) := nest w3 [_] 0 _ rfl
          generalize (w3.alloc (aO ⟨0, false, false, at', af⟩ 30)).drewN nq = w4 at HQ hn5 ⊢
          generalize w3.heap.size = n5 at hn5 ⊢
          clear c0 c1 c2 c3 hgr
          obtain ⟨c0, c1, c2, c3⟩ := HRW.out w4 HQ.out.below
          have hgr : gb < w4.heap.size := Nat.lt_of_lt_of_le HKK.out HQ.out.below.size
          obtain ⟨⟨z0, z1, z2, z3, z4⟩, -⟩ := cells5 hn5
          go_wp2
          go_roundg (n - (k + 1))
          case measure => omega
          case rel => exact ⟨k + 1, _, by first | rfl | go_num, Nat.le_refl _, by omega, HQ, HN⟩
      · subst g2 g3
        by_cases hs : s = 3
        · subst hs
          have y0 : (ak != 0) = true := bne_true g1
          have y1 : (ak == 0) = false := beq_false g1
          have y2 : decide ((m : Int) < 3) = true := decide_eq_true (by omega)
          have y3 : decide ((3 : Int) < (m : Int)) = false := decide_eq_false (by omega)
          go_wp2_with fail
          go_quiet (fail)
          have HQ : Hid (One w pw ⟨s2, li2, n2', t2'⟩ ((w3.alloc (aO ⟨ak, true, ap, 1, af⟩ 30)).drewN nq)) := Lib.hid ((HP3.out.on ((Below.refl _ _).alloc (Nat.le_refl _) _)).drewN nq)
          have hn5 : ((w3.alloc (aO ⟨ak, true, ap, 1, af⟩ 30)).drewN nq).heap[w3.heap.size]? = some (aO ⟨ak, true, ap, 1, af⟩ 30) := nest w3 [_] 0 _ rfl
          generalize (w3.alloc (aO ⟨ak, true, ap, 1, af⟩ 30)).drewN nq = w4 at HQ hn5 ⊢
          generalize w3.heap.size = n5 at hn5 ⊢
          clear c0 c1 c2 c3 hgr
          obtain ⟨c0, c1, c2, c3⟩ := HRW.out w4 HQ.out.below
          have hgr : gb < w4.heap.size := Nat.lt_of_lt_of_le HKK.out HQ.out.below.size
          obtain ⟨⟨z0, z1, z2, z3, z4⟩, -⟩ := cells5 hn5
          go_wp2
          go_roundg (n - (k + 1))
          case measure => omega
          case rel => exact ⟨k + 1, _, by first | rfl | go_num, Nat.le_refl _, by omega, HQ, HN⟩
        · have y0 : (ak != 0) = true := bne_true g1
          have y1 : (ak == 0) = false := beq_false g1
          have y2 : decide ((m : Int) < 3) = true := decide_eq_true (by omega)
          have y3 : (s == 3) = false := beq_false hs
          go_wp2_with fail
          go_quiet (fail)
          have HQ : Hid (One w pw ⟨s2, li2, n2', t2'⟩ ((w3.alloc (aO ⟨ak, true, ap, 1, af⟩ 30)).drewN nq)) := Lib.hid ((HP3.out.on ((Below.refl _ _).alloc (Nat.le_refl _) _)).drewN nq)
          have hn5 : ((w3.alloc (aO ⟨ak, true, ap, 1, af⟩ 30)).drewN nq).heap[w3.heap.size]? = some (aO ⟨ak, true, ap, 1, af⟩ 30) := nest w3 [_] 0 _ rfl
          generalize (w3.alloc (aO ⟨ak, true, ap, 1, af⟩ 30)).drewN nq = w4 at HQ hn5 ⊢
          generalize w3.heap.size = n5 at hn5 ⊢
          clear c0 c1 c2 c3 hgr
          obtain ⟨c0, c1, c2, c3⟩ := HRW.out w4 HQ.out.below
          have hgr : gb < w4.heap.size := Nat.lt_of_lt_of_le HKK.out HQ.out.below.size
          obtain ⟨⟨z0, z1, z2, z3, z4⟩, -⟩ := cells5 hn5
          go_wp2
          go_roundg (n - (k + 1))
          case measure => omega
          case rel => exact ⟨k + 1, _, by first | rfl | go_num, Nat.le_refl _, by omega, HQ, HN⟩
      · subst g2 g4
        rw [g6] at c3 HRW
        by_cases hs : s = 3
        · subst hs
          by_cases f1 : x.fr = 1
          · rw [f1] at c1 HRW
            have y0 : (ak != 0) = true := bne_true g1
            have y1 : (ak == 0) = false := beq_false g1
            have y2 : (at' == 1) = false := beq_false g3
            have y3 : decide ((m : Int) < 3) = false := decide_eq_false (by omega)
            have y4 : decide ((m : Int) < 4) = false := decide_eq_false (by omega)
            have y5 : (x.pf != x.pf) = false := by simp
            have y6 : decide ((3 : Int) < (m : Int)) = true := decide_eq_true (by omega)
            go_wp2_with fail
            go_quiet (fail)
            have HQ : Hid (One w pw ⟨s2, li2, n2', t2'⟩ ((w3.alloc (aO ⟨ak, false, x.pf, at', af⟩ 30)).drewN nq)) := Lib.hid ((HP3.out.on ((Below.refl _ _).alloc (Nat.le_refl _) _)).drewN nq)
            have hn5 : ((w3.alloc (aO ⟨ak, false, x.pf, at', af⟩ 30)).drewN nq).heap[w3.heap.size]? = some (aO ⟨ak, false, x.pf, at', af⟩ 30) := nest w3 [_] 0 _ rfl
            generalize (w3.alloc (aO ⟨ak, false, x.pf, at', af⟩ 30)).drewN nq = w4 at HQ hn5 ⊢
            generalize w3.heap.size = n5 at hn5 ⊢
            clear c0 c1 c2 c3 hgr
            obtain ⟨c0, c1, c2, c3⟩ := HRW.out w4 HQ.out.below
            have hgr : gb < w4.heap.size := Nat.lt_of_lt_of_le HKK.out HQ.out.below.size
            obtain ⟨⟨z0, z1, z2, z3, z4⟩, -⟩ := cells5 hn5
            go_wp2
            go_roundg (n - (k + 1))
            case measure => omega
            case rel => exact ⟨k + 1, _, by first | rfl | go_num, Nat.le_refl _, by omega, HQ, HN⟩
          have f1b : (x.fr != 1) = true := bne_true f1
          by_cases f4 : x.fr = 4
          · rw [f4] at c1 HRW
            have y0 : (ak != 0) = true := bne_true g1
            have y1 : (ak == 0) = false := beq_false g1
            have y2 : (at' == 1) = false := beq_false g3
            have y3 : decide ((m : Int) < 3) = false := decide_eq_false (by omega)
            have y4 : decide ((m : Int) < 4) = false := decide_eq_false (by omega)
            have y5 : (x.pf != x.pf) = false := by simp
            have y6 : decide ((3 : Int) < (m : Int)) = true := decide_eq_true (by omega)
            go_wp2_with fail
            go_quiet (fail)
            have HQ : Hid (One w pw ⟨s2, li2, n2', t2'⟩ ((w3.alloc (aO ⟨ak, false, x.pf, at', af⟩ 30)).drewN nq)) := Lib.hid ((HP3.out.on ((Below.refl _ _).alloc (Nat.le_refl _) _)).drewN nq)
            have hn5 : ((w3.alloc (aO ⟨ak, false, x.pf, at', af⟩ 30)).drewN nq).heap[w3.heap.size]? = some (aO ⟨ak, false, x.pf, at', af⟩ 30) := nest w3 [_] 0 _ rfl
            generalize (w3.alloc (aO ⟨ak, false, x.pf, at', af⟩ 30)).drewN nq = w4 at HQ hn5 ⊢
            generalize w3.heap.size = n5 at hn5 ⊢
            clear c0 c1 c2 c3 hgr
            obtain ⟨c0, c1, c2, c3⟩ := HRW.out w4 HQ.out.below
            have hgr : gb < w4.heap.size := Nat.lt_of_lt_of_le HKK.out HQ.out.below.size
            obtain ⟨⟨z0, z1, z2, z3, z4⟩, -⟩ := cells5 hn5
            go_wp2
            go_roundg (n - (k + 1))
            case measure => omega
            case rel => exact ⟨k + 1, _, by first | rfl | go_num, Nat.le_refl _, by omega, HQ, HN⟩
          have f4b : (x.fr != 4) = true := bne_true f4
          by_cases f3 : x.fr = 3
          · rw [f3] at c1 HRW
            have y0 : (ak != 0) = true := bne_true g1
            have y1 : (ak == 0) = false := beq_false g1
            have y2 : (at' == 1) = false := beq_false g3
            have y3 : decide ((m : Int) < 3) = false := decide_eq_false (by omega)
            have y4 : decide ((m : Int) < 4) = false := decide_eq_false (by omega)
            have y5 : (x.pf != x.pf) = false := by simp
            have y6 : decide ((3 : Int) < (m : Int)) = true := decide_eq_true (by omega)
            go_wp2_with fail
            go_quiet (fail)
            have HQ : Hid (One w pw ⟨s2, li2, n2', t2'⟩ ((w3.alloc (aO ⟨ak, false, x.pf, at', af⟩ 30)).drewN nq)) := Lib.hid ((HP3.out.on ((Below.refl _ _).alloc (Nat.le_refl _) _)).drewN nq)
            have hn5 : ((w3.alloc (aO ⟨ak, false, x.pf, at', af⟩ 30)).drewN nq).heap[w3.heap.size]? = some (aO ⟨ak, false, x.pf, at', af⟩ 30) := nest w3 [_] 0 _ rfl
            generalize (w3.alloc (aO ⟨ak, false, x.pf, at', af⟩ 30)).drewN nq = w4 at HQ hn5 ⊢
            generalize w3.heap.size = n5 at hn5 ⊢
            clear c0 c1 c2 c3 hgr
            obtain ⟨c0, c1, c2, c3⟩ := HRW.out w4 HQ.out.below
            have hgr : gb < w4.heap.size := Nat.lt_of_lt_of_le HKK.out HQ.out.below.size
            obtain ⟨⟨z0, z1, z2, z3, z4⟩, -⟩ := cells5 hn5
            go_wp2
            go_roundg (n - (k + 1))
            case measure => omega
            case rel => exact ⟨k + 1, _, by first | rfl | go_num, Nat.le_refl _, by omega, HQ, HN⟩
          have f3b : (x.fr != 3) = true := bne_true f3
          exact absurd (congrArg (fun r => r.2.k) (HUS.out rfl g5 f1 f4 f3)) g1
        · have y0 : (ak != 0) = true := bne_true g1
          have y1 : (ak == 0) = false := beq_false g1
          have y2 : (at' == 1) = false := beq_false g3
          have y3 : decide ((m : Int) < 3) = false := decide_eq_false (by omega)
          have y4 : decide ((m : Int) < 4) = false := decide_eq_false (by omega)
          have y5 : (x.pf != x.pf) = false := by simp
          have y6 : (s == 3) = false := beq_false hs
          go_wp2_with fail
          go_quiet (fail)
          have HQ : Hid (One w pw ⟨s2, li2, n2', t2'⟩ ((w3.alloc (aO ⟨ak, false, x.pf, at', af⟩ 30)).drewN nq)) := Lib.hid ((HP3.out.on ((Below.refl _ _).alloc (Nat.le_refl _) _)).drewN nq)
          have hn5 : ((w3.alloc (aO ⟨ak, false, x.pf, at', af⟩ 30)).drewN nq).heap[w3.heap.size]? = some (aO ⟨ak, false, x.pf, at', af⟩ 30) := nest w3 [_] 0 _ rfl
          generalize (w3.alloc (aO ⟨ak, false, x.pf, at', af⟩ 30)).drewN nq = w4 at HQ hn5 ⊢
          generalize w3.heap.size = n5 at hn5 ⊢
          clear c0 c1 c2 c3 hgr
          obtain ⟨c0, c1, c2, c3⟩ := HRW.out w4 HQ.out.below
          have hgr : gb < w4.heap.size := Nat.lt_of_lt_of_le HKK.out HQ.out.below.size
          obtain ⟨⟨z0, z1, z2, z3, z4⟩, -⟩ := cells5 hn5
          go_wp2
          go_roundg (n - (k + 1))
          case measure => omega
          case rel => exact ⟨k + 1, _, by first | rfl | go_num, Nat.le_refl _, by omega, HQ, HN⟩
    · have t1 : decide ((k : Int) < (n : Int)) = false := decide_eq_false (by omega)
      have t2 : ¬ (k : Int) < (n : Int) := by omega
      have cw := Lib.hid (fworks wr)
      go_wp2_with fail
      refine cw.out.mono ?_
      rintro _ w4 ⟨rfl, hb⟩
      have HB := Lib.hid (HP.out.on hb)
      clear hb cw HP
      go_wp2
      go_ret
      exact ⟨rfl, HPW.out ▸ HB.out.below⟩
end Go.Proofs.Ytfflbaiddiahnaa.linkSays

/-
  PrioPlays answers true whatever came in, and turns nothing that was there; what played makes. No condition.
-/
import Derived.Test.YtiicgfkcjpeiiaaPiTells
import Derived.Test.YtiicgfkcjpeiiaaPiArgs
import Derived.Deep.LoopGhost
namespace Go.Proofs.Ytiicgfkcjpeiiaa.Pi
open Go.RowKit Go.Proofs.Ytiicgfkcjpeiiaa.Base Go.Proofs.Ytiicgfkcjpeiiaa.Mem Go.Proofs.Ytiicgfkcjpeiiaa.Cr
theorem duo_new {w w1 w2 : World} {k : Rb} (hp : P w1 w.heap.size St.new) (hb : Below w.heap.size w w1) (hr : R w2 k St.new) (hl : w1.heap.size ≤ k.b ∧ w1.heap.size ≤ k.bc ∧ w1.heap.size ≤ k.bi ∧ w1.heap.size ≤ k.bl) (hb2 : Below w1.heap.size w1 w2) : Duo w w.heap.size k St.new St.new w2 :=
  ⟨⟨hp.below hb2, Nat.le_refl _, below_on hb hb2⟩, hr, by have := hb.size; omega⟩
set_option maxHeartbeats 8000000 in
set_option maxRecDepth 100000 in
theorem fplayed (oa : Option Addr) (n cap : Nat) (F : Nat → Ct) (hn : n ≤ maxLen) (w0 w : World) (hA : ArgS 4 cc CFit w0 oa n F) (hB : Below w0.heap.size w0 w) :
    Calls Try.prog 12 #[.slice oa n cap] w fun e w' => e = .returned (ptr w.heap.size) ∧ Pn w w.heap.size (run F n) w' := by
  have HA := Lib.hid hA
  have HB := Lib.hid hB
  unfold maxLen at hn
  clear hA hB
  go_enter Try.func12, Try.ntmps12
  go_wp2_with fail
  refine (fnew w).mono ?_
  rintro _ w1 ⟨rfl, hp, hb⟩
  have HP := Lib.hid (And.intro hp hb)
  clear hp hb
  go_wp2_with fail
  refine (rnew w1).mono ?_
  rintro _ w2 ⟨k, rfl, hr, hl, hb⟩
  have HD := Lib.hid (duo_new HP.out.1 HP.out.2 hr hl hb)
  clear hr hl hb HP
  generalize hb : w.heap.size = b at HD ⊢
  have HPB := Lib.hid hb
  clear hb
  obtain ⟨kb, hkb⟩ : ∃ kb, k.b = kb := ⟨_, rfl⟩
  have HKB := Lib.hid hkb
  rw [hkb]
  clear hkb
  go_wp2_with fail
  go_loopg [5] n (fun gm s wr => ∃ i : Nat, s = nm i ∧ n - i ≤ gm ∧ i ≤ n ∧ Hid (Duo w b k (run F i) (run F i) wr))
  case atStart => exact ⟨0, rfl, by omega, by omega, HD⟩
  case round =>
    clear HD
    obtain ⟨i, rfl, hgm, hin, HD⟩ := hrel
    by_cases hlt : i < n
    · have t1 : decide ((i : Int) < (n : Int)) = true := decide_eq_true (by omega)
      have t2 : (i : Int) < (n : Int) := by omega
      have j0 : (0 : Int) ≤ (i : Int) := by omega
      have vi := wrap_nat (i + 1) (by omega)
      obtain ⟨a, gb, go, rfl, ha, hgb, hrw⟩ := arg_at HA.out hlt
      obtain ⟨c0, c1, c2, c3⟩ := hrw wr (below_on HB.out HD.out.one.below)
      have HC := Lib.hid (HA.out.inb i hlt).1
      have CD : Hid (Calls Try.prog 10 #[ptr b, ptr kb, .agg #[oc (F i).k, oc (F i).d, oc (F i).c, .bool (F i).o]] wr fun e w' => e = .returned (.bool true) ∧ Duo w b k (run F (i + 1)) (run F (i + 1)) w') :=
        Lib.hid (HKB.out ▸ fdoes (F i) HC.out HD.out)
      clear hrw HC
      obtain ⟨x0, h0⟩ : ∃ x, (F i).k = x := ⟨_, rfl⟩
      obtain ⟨x1, h1⟩ : ∃ x, (F i).d = x := ⟨_, rfl⟩
      obtain ⟨x2, h2⟩ : ∃ x, (F i).c = x := ⟨_, rfl⟩
      rw [h0] at c0 CD
      rw [h1] at c1 CD
      rw [h2] at c2 CD
      generalize (F i).o = x3 at c3 CD
      clear h0 h1 h2 HD
      go_wp2_with fail
      refine CD.out.mono ?_
      rintro _ w3 ⟨rfl, hd⟩
      have HD2 := Lib.hid hd
      clear hd CD c0 c1 c2 c3
      go_wp2
      go_roundg (n - (i + 1))
      case measure => omega
      case rel => exact ⟨i + 1, by first | rfl | go_num, Nat.le_refl _, by omega, HD2⟩
    · have hk : i = n := by omega
      subst hk
      have t1 : decide ((i : Int) < (i : Int)) = false := decide_eq_false (by omega)
      have t2 : ¬ (i : Int) < (i : Int) := by omega
      go_wp2
      go_ret
      rw [HPB.out]
      exact ⟨rfl, HD.out.one⟩
end Go.Proofs.Ytiicgfkcjpeiiaa.Pi
namespace Go.Proofs.Ytiicgfkcjpeiiaa.prioPlays
open Go.RowKit Go.Proofs.Ytiicgfkcjpeiiaa.Base Go.Proofs.Ytiicgfkcjpeiiaa.Mem Go.Proofs.Ytiicgfkcjpeiiaa.Cr Go.Proofs.Ytiicgfkcjpeiiaa.Pi
set_option maxHeartbeats 8000000 in
set_option maxRecDepth 100000 in
theorem all (oa : Option Addr) (n cap : Nat) (F : Nat → Ct) (w : World) (hA : ArgS 4 cc CFit w oa n F) :
    Calls Try.prog 3 #[.slice oa n cap] w fun e w' => e = .returned (.bool true) ∧ Below w.heap.size w w' := by
  have HA := Lib.hid hA
  have CW := Lib.hid fworks
  clear hA
  by_cases h120 : 120 < n
  · have h1 : (120 : Int) < (n : Int) := by omega
    have h2 : decide ((120 : Int) < (n : Int)) = true := decide_eq_true h1
    go_enter Try.func3, Try.ntmps3
    go_wp2_with fail
    refine (CW.out _).mono ?_
    rintro _ w9 ⟨rfl, hb⟩
    have HB9 := Lib.hid hb
    clear hb CW
    go_wp2
    go_ret
    exact ⟨rfl, HB9.out⟩
  have h1 : ¬ (120 : Int) < (n : Int) := by omega
  have h2 : decide ((120 : Int) < (n : Int)) = false := decide_eq_false h1
  have hn : n ≤ 120 := by omega
  clear h120
  go_enter Try.func3, Try.ntmps3
  go_wp2_with fail
  refine (fnew w).mono ?_
  rintro _ w1 ⟨rfl, hp, hb⟩
  have HP := Lib.hid (And.intro hp hb)
  clear hp hb
  go_wp2_with fail
  refine (rnew w1).mono ?_
  rintro _ w2 ⟨k, rfl, hr, hl, hb⟩
  have HD := Lib.hid (duo_new HP.out.1 HP.out.2 hr hl hb)
  clear hr hl hb HP
  generalize hb : w.heap.size = b at HD ⊢
  have HPB := Lib.hid hb
  clear hb
  obtain ⟨kb, hkb⟩ : ∃ kb, k.b = kb := ⟨_, rfl⟩
  have HKB := Lib.hid hkb
  rw [hkb]
  clear hkb
  go_wp2_with fail
  go_loopg [5] n (fun gm s wr => ∃ i : Nat, s = nm i ∧ n - i ≤ gm ∧ i ≤ n ∧ Hid (Duo w b k (run F i) (run F i) wr))
  case atStart => exact ⟨0, rfl, by omega, by omega, HD⟩
  case round =>
    clear HD
    obtain ⟨i, rfl, hgm, hin, HD⟩ := hrel
    by_cases hlt : i < n
    · have t1 : decide ((i : Int) < (n : Int)) = true := decide_eq_true (by omega)
      have t2 : (i : Int) < (n : Int) := by omega
      have j0 : (0 : Int) ≤ (i : Int) := by omega
      have vi := wrap_nat (i + 1) (by omega)
      obtain ⟨a, gb, go, rfl, ha, hgb, hrw⟩ := arg_at HA.out hlt
      have HW := Lib.hid hrw
      obtain ⟨c0, c1, c2, c3⟩ := hrw wr HD.out.one.below
      have HC := Lib.hid (HA.out.inb i hlt).1
      have CD : Hid (Calls Try.prog 10 #[ptr b, ptr kb, .agg #[oc (F i).k, oc (F i).d, oc (F i).c, .bool (F i).o]] wr fun e w' => e = .returned (.bool true) ∧ Duo w b k (run F (i + 1)) (run F (i + 1)) w') :=
        Lib.hid (HKB.out ▸ fdoes (F i) HC.out HD.out)
      have CT : Hid (∀ w2, Duo w b k (run F (i + 1)) (run F (i + 1)) w2 → Calls Try.prog 11 #[ptr b, ptr kb, oc (F i).d] w2 fun e w' => e = .returned (.bool true) ∧ Duo w b k (run F (i + 1)) (run F (i + 1)) w') :=
        Lib.hid (fun w2 h => HKB.out ▸ ftells (F i).d h)
      clear hrw HC
      obtain ⟨x0, h0⟩ : ∃ x, (F i).k = x := ⟨_, rfl⟩
      obtain ⟨x1, h1⟩ : ∃ x, (F i).d = x := ⟨_, rfl⟩
      obtain ⟨x2, h2⟩ : ∃ x, (F i).c = x := ⟨_, rfl⟩
      rw [h0] at c0 CD
      rw [h1] at c1 CD CT
      rw [h2] at c2 CD
      generalize (F i).o = x3 at c3 CD
      have H1 := Lib.hid h1
      clear h0 h1 h2 HD
      go_wp2_with fail
      refine CD.out.mono ?_
      rintro _ w3 ⟨rfl, hd⟩
      have HD2 := Lib.hid hd
      have d1 : w3.cell? ⟨gb, go + 1, none⟩ = some (oc x1) := by rw [← H1.out]; exact (HW.out w3 HD2.out.one.below).2.1
      clear hd CD c0 c1 c2 c3
      go_wp2_with fail
      refine (CT.out _ HD2.out).mono ?_
      rintro _ w4 ⟨rfl, hd⟩
      have HD3 := Lib.hid hd
      clear hd CT HD2 d1
      go_wp2
      go_roundg (n - (i + 1))
      case measure => omega
      case rel => exact ⟨i + 1, by first | rfl | go_num, Nat.le_refl _, by omega, HD3⟩
    · have hk : i = n := by omega
      subst hk
      have t1 : decide ((i : Int) < (i : Int)) = false := decide_eq_false (by omega)
      have t2 : ¬ (i : Int) < (i : Int) := by omega
      go_wp2_with fail
      go_loopg [6] 66 (fun gm s wq => ∃ d : Nat, s = nm d ∧ 66 - d ≤ gm ∧ d ≤ 66 ∧ Hid (Duo w b k (run F i) (run F i) wq))
      case atStart => exact ⟨0, rfl, by omega, by omega, HD⟩
      case round =>
        clear HD
        obtain ⟨d, rfl, hgm2, hd, HD⟩ := hrel
        by_cases hd66 : d < 66
        · have t3 : decide ((d : Int) < 66) = true := decide_eq_true (by omega)
          have t4 : (d : Int) < 66 := by omega
          have vd := wrap_nat (d + 1) (by omega)
          have ud := wrap_u8 d (by omega)
          have CT := ftells d HD.out
          rw [HKB.out] at CT
          have CT := Lib.hid CT
          go_wp2_with fail
          refine CT.out.mono ?_
          rintro _ w4 ⟨rfl, hd⟩
          have HD3 := Lib.hid hd
          clear hd CT HD
          go_wp2
          go_roundg (66 - (d + 1))
          case measure => omega
          case rel => exact ⟨d + 1, by first | rfl | go_num, Nat.le_refl _, by omega, HD3⟩
        · have t3 : decide ((d : Int) < 66) = false := decide_eq_false (by omega)
          have t4 : ¬ (d : Int) < 66 := by omega
          go_wp2_with fail
          refine (CW.out _).mono ?_
          rintro _ w9 ⟨rfl, hb⟩
          have HB9 := Lib.hid (HD.out.on hb)
          clear hb CW HD
          go_wp2
          go_ret
          exact ⟨rfl, HB9.out.one.below⟩
theorem law (oa : Option Addr) (n cap : Nat) (F : Nat → Ct) (_ : n ≤ maxLen) (w : World) (hA : ArgS 4 cc CFit w oa n F) :
    Calls Try.prog 3 #[.slice oa n cap] w fun e w' => e = .returned (.bool true) ∧ Below w.heap.size w w' := all oa n cap F w hA
end Go.Proofs.Ytiicgfkcjpeiiaa.prioPlays

/-
  What the document's own answers. Condition: it lies where it says.
-/
import Derived.Test.YtiicgfkcjpeiiaaPiRefNew
import Derived.Test.YtiicgfkcjpeiiaaPiPick
import Derived.Deep.RegionHeld
import Derived.BigQuiet
namespace Go.Proofs.Ytiicgfkcjpeiiaa.Pi
open Go.RowKit Go.Proofs.Ytiicgfkcjpeiiaa.Base Go.Proofs.Ytiicgfkcjpeiiaa.Mem Go.Proofs.Ytiicgfkcjpeiiaa.Cr
section
variable {w : World} {k : Rb} {x : St}
theorem rsetC (h : R w k x) (d c : Nat) (hd : d < 64) (hc : c < 64) : Calls Try.prog 21 #[ptr k.b, oc d, oc c] w fun e w' => e = .returned (nm 0) ∧ R w' k (x.setC d c) ∧ Chg k.S w w' := by
  have H := Lib.hid (And.intro (h.setC (d := d) hc) (Chg.set (S := k.S) k.bc d (oc c) (.inl rfl) w))
  have c0 := h.hd.cell 0 _ rfl
  have c1 := h.c.cell hd
  have f := h.c.free
  have l1 := h.c.lt
  have t0 : decide ((63 : Int) < (d : Int)) = false := decide_eq_false (by omega)
  have t1 : ¬ (63 : Int) < (d : Int) := by omega
  have t2 : (d : Int) < 64 := by omega
  have s0 : decide ((63 : Int) < (c : Int)) = false := decide_eq_false (by omega)
  have s1 : ¬ (63 : Int) < (c : Int) := by omega
  have s2 : (c : Int) < 64 := by omega
  clear h
  go_enter Try.func21, Try.ntmps21
  go_wp2
  go_ret
  exact ⟨rfl, H.out⟩
theorem rsetC_hi (b d c : Nat) (hd : 64 ≤ d) (w : World) : Calls Try.prog 21 #[ptr b, oc d, oc c] w fun e w' => e = .returned (nm 2) ∧ w = w' := by
  have t0 : decide ((63 : Int) < (d : Int)) = true := decide_eq_true (by omega)
  have t1 : (63 : Int) < (d : Int) := by omega
  go_enter Try.func21, Try.ntmps21
  go_wp2
  go_ret
  exact ⟨rfl, rfl⟩
theorem rsetC_hi2 (b d c : Nat) (hd : d < 64) (hc : 64 ≤ c) (w : World) : Calls Try.prog 21 #[ptr b, oc d, oc c] w fun e w' => e = .returned (nm 2) ∧ w = w' := by
  have t0 : decide ((63 : Int) < (d : Int)) = false := decide_eq_false (by omega)
  have t1 : ¬ (63 : Int) < (d : Int) := by omega
  have t2 : (d : Int) < 64 := by omega
  have s0 : decide ((63 : Int) < (c : Int)) = true := decide_eq_true (by omega)
  have s1 : (63 : Int) < (c : Int) := by omega
  go_enter Try.func21, Try.ntmps21
  go_wp2
  go_ret
  exact ⟨rfl, rfl⟩
theorem rsetR (h : R w k x) (d : Nat) (o : Bool) (hd : d < 64) : Calls Try.prog 22 #[ptr k.b, oc d, .bool o] w fun e w' => e = .returned (nm 0) ∧ R w' k (x.setR d o) ∧ Chg k.S w w' := by
  have H := Lib.hid (And.intro (h.setR (d := d) o) (Chg.set (S := k.S) k.bi d (.bool o) (.inr (.inl rfl)) w))
  have c0 := h.hd.cell 1 _ rfl
  have c1 := h.i.cell hd
  have f := h.i.free
  have l1 := h.i.lt
  have t0 : decide ((63 : Int) < (d : Int)) = false := decide_eq_false (by omega)
  have t1 : ¬ (63 : Int) < (d : Int) := by omega
  have t2 : (d : Int) < 64 := by omega
  clear h
  go_enter Try.func22, Try.ntmps22
  go_wp2
  go_ret
  exact ⟨rfl, H.out⟩
theorem rsetR_hi (b d : Nat) (o : Bool) (hd : 64 ≤ d) (w : World) : Calls Try.prog 22 #[ptr b, oc d, .bool o] w fun e w' => e = .returned (nm 2) ∧ w = w' := by
  have t0 : decide ((63 : Int) < (d : Int)) = true := decide_eq_true (by omega)
  have t1 : (63 : Int) < (d : Int) := by omega
  go_enter Try.func22, Try.ntmps22
  go_wp2
  go_ret
  exact ⟨rfl, rfl⟩
theorem rmay_hi (b d : Nat) (hd : 64 ≤ d) (w : World) : Calls Try.prog 25 #[ptr b, oc d] w fun e w' => e = .returned (.bool false) ∧ ∃ m, w' = w.drewN m := by
  have t0 : decide ((63 : Int) < (d : Int)) = true := decide_eq_true (by omega)
  have t1 : (63 : Int) < (d : Int) := by omega
  go_enter Try.func25, Try.ntmps25
  go_wp2
  go_ret
  exact ⟨rfl, 0, rfl⟩
theorem may_not_rd {d : Nat} (h : x.rd d = false) : x.may d = false := by unfold St.may; rw [h, Bool.and_false, Bool.false_and]
theorem may_not_lt {d e : Nat} (he : e < 64) (hr : x.rd e = true) (h : x.cl e < x.cl d) : x.may d = false := by
  have : x.least ≤ x.cl e := lt_all x 64 e he hr
  unfold St.may
  rw [decide_eq_false (show ¬ x.cl d = x.least by omega), Bool.and_false]
theorem may_yes (h : x.Ok) {d : Nat} (hd : d < 64) (hr : x.rd d = true) (ha : ∀ e, e < 64 → x.rd e = true → x.cl d ≤ x.cl e) : x.may d = true := by
  refine may_iff.2 ⟨hd, hr, ?_⟩
  have h1 : x.least ≤ x.cl d := lt_all x 64 d hd hr
  obtain ⟨e, h2, h3, h4⟩ := lt_some x 64 (by have := h.cl d; unfold St.least at h1; omega)
  have := ha e h2 h3
  unfold St.least at h1 ⊢
  omega
set_option maxHeartbeats 4000000 in
theorem rmay (h : R w k x) (d : Nat) (hd : d < 64) : Calls Try.prog 25 #[ptr k.b, oc d] w fun e w' => e = .returned (.bool (x.may d)) ∧ ∃ m, w' = w.drewN m := by
  have c0 := h.hd.cell 0 _ rfl
  have c1 := h.hd.cell 1 _ rfl
  have ci := h.i.cell hd
  have cc := h.c.cell hd
  have l0 := h.hd.lt
  have l1 := h.c.lt
  have l2 := h.i.lt
  have HR := Lib.hid h
  have t0 : decide ((63 : Int) < (d : Int)) = false := decide_eq_false (by omega)
  have t1 : ¬ (63 : Int) < (d : Int) := by omega
  have t2 : (d : Int) < 64 := by omega
  by_cases hr : x.rd d = true
  · obtain ⟨c, hc⟩ : ∃ c, x.cl d = c := ⟨_, rfl⟩
    have HC := Lib.hid hc
    have HD := Lib.hid (And.intro hd hr)
    simp only [hr] at ci
    simp only [hc] at cc
    clear hr hc h
    go_enter Try.func25, Try.ntmps25
    go_wp2_with fail
    go_loopg [5] 64 (fun gm s wr => ∃ (e : Nat), s = nm e ∧ 64 - e ≤ gm ∧ e ≤ 64 ∧ Hid (∀ j, j < e → x.rd j = true → c ≤ x.cl j) ∧ Hid (∃ m, wr = w.drewN m))
    case atStart => exact ⟨0, rfl, by omega, by omega, Lib.hid (fun j hj => absurd hj (Nat.not_lt_zero _)), Lib.hid ⟨0, rfl⟩⟩
    case round =>
      obtain ⟨e, rfl, hgm, hkn, HA, HW⟩ := hrel
      clear c0 c1 ci cc l0 l1 l2
      have HR2 : Hid (R wr k x) := Lib.hid (by obtain ⟨m, rfl⟩ := HW.out; exact HR.out.drewN m)
      by_cases hlt : e < 64
      · have j1 : decide ((e : Int) < 64) = true := decide_eq_true (by omega)
        have j2 : (e : Int) < 64 := by omega
        have vk : IntKind.i64.wrap ((e : Int) + 1) = ((e + 1 : Nat) : Int) := by rw [IntKind.wrap_i64]; omega
        have c0 := HR2.out.hd.cell 0 _ rfl
        have c1 := HR2.out.hd.cell 1 _ rfl
        have cc := HR2.out.c.cell hd
        have ei := HR2.out.i.cell hlt
        have ec := HR2.out.c.cell hlt
        have l0 := HR2.out.hd.lt
        have l1 := HR2.out.c.lt
        have l2 := HR2.out.i.lt
        simp only [HC.out] at cc
        obtain ⟨g, hg⟩ : ∃ g, x.cl e = g := ⟨_, rfl⟩
        have HG := Lib.hid hg
        simp only [hg] at ec
        clear hg
        by_cases hr : x.rd e = true
        · simp only [hr] at ei
          have HE := Lib.hid hr
          clear hr
          by_cases hgc : g < c
          · have s0 : decide ((g : Int) < (c : Int)) = true := decide_eq_true (by omega)
            have s1 : (g : Int) < (c : Int) := by omega
            go_wp2_with fail
            go_quiet (fail)
            have HW2 : Hid (∃ m, wr.drewN nq = w.drewN m) := Lib.hid (by obtain ⟨m, rfl⟩ := HW.out; exact ⟨_, World.drewN_drewN _ _ _⟩)
            go_wp2
            go_ret
            exact ⟨by rw [may_not_lt hlt HE.out (by rw [HG.out, HC.out]; exact hgc)]; rfl, HW2.out⟩
          · have s0 : decide ((g : Int) < (c : Int)) = false := decide_eq_false (by omega)
            have s1 : ¬ (g : Int) < (c : Int) := by omega
            go_wp2_with fail
            go_quiet (fail)
            have HW2 : Hid (∃ m, wr.drewN nq = w.drewN m) := Lib.hid (by obtain ⟨m, rfl⟩ := HW.out; exact ⟨_, World.drewN_drewN _ _ _⟩)
            have HA2 : Hid (∀ j, j < e + 1 → x.rd j = true → c ≤ x.cl j) := Lib.hid (fun j hj hjr => by
              by_cases q : j = e
              · rw [q, HG.out]; omega
              · exact HA.out j (by omega) hjr)
            go_wp2
            go_roundg (64 - (e + 1))
            case measure => omega
            case rel => exact ⟨e + 1, by first | rfl | go_num, Nat.le_refl _, by omega, HA2, HW2⟩
        · have hrf : x.rd e = false := by simpa using hr
          simp only [hrf] at ei
          have HE := Lib.hid hrf
          clear hr hrf
          go_wp2_with fail
          go_quiet (fail)
          have HW2 : Hid (∃ m, wr.drewN nq = w.drewN m) := Lib.hid (by obtain ⟨m, rfl⟩ := HW.out; exact ⟨_, World.drewN_drewN _ _ _⟩)
          have HA2 : Hid (∀ j, j < e + 1 → x.rd j = true → c ≤ x.cl j) := Lib.hid (fun j hj hjr => by
            by_cases q : j = e
            · rw [q, HE.out] at hjr; cases hjr
            · exact HA.out j (by omega) hjr)
          go_wp2
          go_roundg (64 - (e + 1))
          case measure => omega
          case rel => exact ⟨e + 1, by first | rfl | go_num, Nat.le_refl _, by omega, HA2, HW2⟩
      · obtain rfl : e = 64 := by omega
        go_wp2
        go_ret
        exact ⟨by rw [may_yes HR.out.ok HD.out.1 HD.out.2 (fun j hj hjr => by rw [HC.out]; exact HA.out j hj hjr)]; rfl, HW.out⟩
  · have hrf : x.rd d = false := by simpa using hr
    simp only [hrf] at ci
    rw [may_not_rd hrf]
    clear hr hrf h
    go_enter Try.func25, Try.ntmps25
    go_wp2
    go_ret
    exact ⟨rfl, 0, rfl⟩
theorem rtake_no {b : Value} {d : Nat} (hm : Calls Try.prog 25 #[b, oc d] w fun e w' => e = .returned (.bool false) ∧ ∃ k, w' = w.drewN k) : Calls Try.prog 23 #[b, oc d] w fun e w' => e = .returned (.bool false) ∧ ∃ k, w' = w.drewN k := by
  have C := Lib.hid hm
  clear hm
  go_enter Try.func23, Try.ntmps23
  go_wp2_with (go_at_call 25; refine C.out.mono ?_; rintro _ _ ⟨rfl, nq, rfl⟩)
  go_ret
  exact ⟨rfl, _, rfl⟩
set_option maxHeartbeats 4000000 in
theorem rtake_yes (h : R w k x) (d : Nat) (hm : x.may d = true) : Calls Try.prog 23 #[ptr k.b, oc d] w fun e w' => e = .returned (.bool true) ∧ R w' k (x.tak d) ∧ Chg k.S w w' := by
  have hd := (may_iff.1 hm).1
  have C := rmay h d hd
  rw [hm] at C
  have C := Lib.hid C
  have HP := Lib.hid h
  have HD := Lib.hid hd
  have hk := h.ok.cl d
  have t2 : (d : Int) < 64 := by omega
  have vd : IntKind.i64.wrap (d : Int) = (d : Int) := by rw [IntKind.wrap_i64]; omega
  clear h hm hd
  go_enter Try.func23, Try.ntmps23
  go_wp2_with fail
  refine C.out.mono ?_
  rintro _ _ ⟨rfl, nq, rfl⟩
  have HQ := Lib.hid (And.intro (HP.out.drewN nq) (Chg.drewN (Chg.refl k.S w) nq))
  clear HP C
  generalize w.drewN nq = w1 at HQ ⊢
  go_wp2_with fail
  have c1 : w1.drew.cell? ⟨k.bl, x.cl d, none⟩ = some (im ((x.la (x.cl d) : Int) - 1)) := HQ.out.1.drew.l.cell hk
  have hf : ∀ i, w1.drew.frozen? ⟨k.bl, i, none⟩ = false := HQ.out.1.drew.l.free
  have hl : k.bl < w1.drew.heap.size := HQ.out.1.drew.l.lt
  have HS : w1.drew.cell? ⟨k.b, 0, none⟩ = some (.slice (some ⟨k.bc, 0, none⟩) 64 k.cc) ∧ w1.drew.cell? ⟨k.b, 2, none⟩ = some (.slice (some ⟨k.bl, 0, none⟩) 64 k.cl) ∧ w1.drew.cell? ⟨k.bc, d, none⟩ = some (oc (x.cl d)) :=
    ⟨HQ.out.1.drew.hd.cell 0 _ rfl, HQ.out.1.drew.hd.cell 2 _ rfl, HQ.out.1.drew.c.cell HD.out⟩
  have HP : Hid (R (w1.setCell ⟨k.bl, x.cl d, none⟩ (im (d : Int))).drew k (x.tak d) ∧ Chg k.S w (w1.setCell ⟨k.bl, x.cl d, none⟩ (im (d : Int))).drew) := Lib.hid
    ⟨(HQ.out.1.tak HD.out).drew, (HQ.out.2.setCell k.bl _ _ fun _ => .inr (.inr rfl)).drew⟩
  have HS2 : Hid ((w1.setCell ⟨k.bl, x.cl d, none⟩ (im (d : Int))).drew.cell? ⟨k.b, 0, none⟩ = some (.slice (some ⟨k.bc, 0, none⟩) 64 k.cc) ∧ (w1.setCell ⟨k.bl, x.cl d, none⟩ (im (d : Int))).drew.cell? ⟨k.b, 2, none⟩ = some (.slice (some ⟨k.bl, 0, none⟩) 64 k.cl) ∧ (w1.setCell ⟨k.bl, x.cl d, none⟩ (im (d : Int))).drew.cell? ⟨k.bc, d, none⟩ = some (oc (x.cl d))) :=
    Lib.hid ⟨HP.out.1.hd.cell 0 _ rfl, HP.out.1.hd.cell 2 _ rfl, HP.out.1.c.cell HD.out⟩
  obtain ⟨c, hc⟩ : ∃ c, x.cl d = c := ⟨_, rfl⟩
  rw [hc] at c1 HP hk HS HS2
  obtain ⟨z, hz⟩ : ∃ z, (x.la c : Int) - 1 = z := ⟨_, rfl⟩
  rw [hz] at c1
  have t3 : (c : Int) < 64 := by omega
  clear hc HQ hz
  refine wp_region_held_drew (S := (fun w' => w'.cell? ⟨k.b, 0, none⟩ = some (.slice (some ⟨k.bc, 0, none⟩) 64 k.cc) ∧ w'.cell? ⟨k.b, 2, none⟩ = some (.slice (some ⟨k.bl, 0, none⟩) 64 k.cl) ∧ w'.cell? ⟨k.bc, d, none⟩ = some (oc c))) (by kernel_rfl) HS (fun hHeld => ?_)
  refine' wpAnyH_take (i := 0) (oi := { dst := some 9, op := Go.Op.move (Go.Operand.tmp 0), type := 26, pos := "ref.go:66", after := #[], guard := none }) (v := _) rfl (by kernel_rfl) (by kernel_rfl) (by kernel_rfl) (fun _ _ _ h => h) (Or.inl ⟨by rfl, ?hy1⟩) (by assumption) ?hr1
  case hy1 => (intro _ hSw; (try dsimp only at hSw); go_simp <;> with_reducible rfl)
  simp only [Act.put, List.setIfInBounds_toArray, List.set_cons_zero, List.set_cons_succ]
  refine' wpAnyH_take (i := 1) (oi := { dst := some 10, op := Go.Op.nilCheck (Go.Operand.tmp 9), type := 0, pos := "ref.go:66", after := #[{ on := 0, ground := Go.Ground.data }], guard := none }) (v := _) rfl (by kernel_rfl) (by kernel_rfl) (by kernel_rfl) (fun _ _ _ h => h) (Or.inl ⟨by rfl, ?hy2⟩) (by assumption) ?hr2
  case hy2 => (intro _ hSw; (try dsimp only at hSw); go_simp <;> with_reducible rfl)
  simp only [Act.put, List.setIfInBounds_toArray, List.set_cons_zero, List.set_cons_succ]
  refine' wpAnyH_take (i := 2) (oi := { dst := some 11, op := Go.Op.fieldAddr 50 (Go.Operand.tmp 10) 2, type := 0, pos := "ref.go:66", after := #[{ on := 1, ground := Go.Ground.data }], guard := none }) (v := _) rfl (by kernel_rfl) (by kernel_rfl) (by kernel_rfl) (fun _ _ _ h => h) (Or.inl ⟨by rfl, ?hy3⟩) (by assumption) ?hr3
  case hy3 => (intro _ hSw; (try dsimp only at hSw); go_simp <;> with_reducible rfl)
  simp only [Act.put, List.setIfInBounds_toArray, List.set_cons_zero, List.set_cons_succ]
  refine' wpAnyH_take (i := 3) (oi := { dst := some 12, op := Go.Op.load 48 (Go.Operand.tmp 11), type := 48, pos := "ref.go:66", after := #[{ on := 2, ground := Go.Ground.data }], guard := none }) (v := _) rfl (by kernel_rfl) (by kernel_rfl) (by kernel_rfl) (fun _ _ _ h => h) (Or.inl ⟨by rfl, ?hy4⟩) (by assumption) ?hr4
  case hy4 => (intro _ hSw; (try dsimp only at hSw); obtain ⟨p0, p1, p2⟩ := hSw; go_simp <;> with_reducible rfl)
  simp only [Act.put, List.setIfInBounds_toArray, List.set_cons_zero, List.set_cons_succ]
  refine' wpAnyH_take (i := 4) (oi := { dst := some 13, op := Go.Op.move (Go.Operand.tmp 0), type := 26, pos := "ref.go:66", after := #[], guard := none }) (v := _) rfl (by kernel_rfl) (by kernel_rfl) (by kernel_rfl) (fun _ _ _ h => h) (Or.inl ⟨by rfl, ?hy5⟩) (by assumption) ?hr5
  case hy5 => (intro _ hSw; (try dsimp only at hSw); go_simp <;> with_reducible rfl)
  simp only [Act.put, List.setIfInBounds_toArray, List.set_cons_zero, List.set_cons_succ]
  refine' wpAnyH_take (i := 5) (oi := { dst := some 14, op := Go.Op.nilCheck (Go.Operand.tmp 13), type := 0, pos := "ref.go:66", after := #[{ on := 4, ground := Go.Ground.data }], guard := none }) (v := _) rfl (by kernel_rfl) (by kernel_rfl) (by kernel_rfl) (fun _ _ _ h => h) (Or.inl ⟨by rfl, ?hy6⟩) (by assumption) ?hr6
  case hy6 => (intro _ hSw; (try dsimp only at hSw); go_simp <;> with_reducible rfl)
  simp only [Act.put, List.setIfInBounds_toArray, List.set_cons_zero, List.set_cons_succ]
  refine' wpAnyH_take (i := 6) (oi := { dst := some 15, op := Go.Op.fieldAddr 50 (Go.Operand.tmp 14) 0, type := 0, pos := "ref.go:66", after := #[{ on := 5, ground := Go.Ground.data }], guard := none }) (v := _) rfl (by kernel_rfl) (by kernel_rfl) (by kernel_rfl) (fun _ _ _ h => h) (Or.inl ⟨by rfl, ?hy7⟩) (by assumption) ?hr7
  case hy7 => (intro _ hSw; (try dsimp only at hSw); go_simp <;> with_reducible rfl)
  simp only [Act.put, List.setIfInBounds_toArray, List.set_cons_zero, List.set_cons_succ]
  refine' wpAnyH_take (i := 7) (oi := { dst := some 16, op := Go.Op.load 47 (Go.Operand.tmp 15), type := 47, pos := "ref.go:66", after := #[{ on := 6, ground := Go.Ground.data }], guard := none }) (v := _) rfl (by kernel_rfl) (by kernel_rfl) (by kernel_rfl) (fun _ _ _ h => h) (Or.inl ⟨by rfl, ?hy8⟩) (by assumption) ?hr8
  case hy8 => (intro _ hSw; (try dsimp only at hSw); obtain ⟨p0, p1, p2⟩ := hSw; go_simp <;> with_reducible rfl)
  simp only [Act.put, List.setIfInBounds_toArray, List.set_cons_zero, List.set_cons_succ]
  refine' wpAnyH_take (i := 8) (oi := { dst := some 17, op := Go.Op.move (Go.Operand.tmp 1), type := 5, pos := "ref.go:66", after := #[], guard := none }) (v := _) rfl (by kernel_rfl) (by kernel_rfl) (by kernel_rfl) (fun _ _ _ h => h) (Or.inl ⟨by rfl, ?hy9⟩) (by assumption) ?hr9
  case hy9 => (intro _ hSw; (try dsimp only at hSw); go_simp <;> with_reducible rfl)
  simp only [Act.put, List.setIfInBounds_toArray, List.set_cons_zero, List.set_cons_succ]
  refine' wpAnyH_take (i := 9) (oi := { dst := some 18, op := Go.Op.indexAddr 47 (Go.Operand.tmp 16) (Go.Operand.tmp 17), type := 0, pos := "ref.go:66", after := #[{ on := 7, ground := Go.Ground.data }, { on := 8, ground := Go.Ground.data }], guard := none }) (v := _) rfl (by kernel_rfl) (by kernel_rfl) (by kernel_rfl) (fun _ _ _ h => h) (Or.inl ⟨by rfl, ?hy10⟩) (by assumption) ?hr10
  case hy10 => (intro _ hSw; (try dsimp only at hSw); go_simp <;> with_reducible rfl)
  simp only [Act.put, List.setIfInBounds_toArray, List.set_cons_zero, List.set_cons_succ]
  refine' wpAnyH_take (i := 10) (oi := { dst := some 19, op := Go.Op.load 5 (Go.Operand.tmp 18), type := 5, pos := "ref.go:66", after := #[{ on := 9, ground := Go.Ground.data }], guard := none }) (v := _) rfl (by kernel_rfl) (by kernel_rfl) (by kernel_rfl) (fun _ _ _ h => h) (Or.inl ⟨by rfl, ?hy11⟩) (by assumption) ?hr11
  case hy11 => (intro _ hSw; (try dsimp only at hSw); obtain ⟨p0, p1, p2⟩ := hSw; go_simp <;> with_reducible rfl)
  simp only [Act.put, List.setIfInBounds_toArray, List.set_cons_zero, List.set_cons_succ]
  refine' wpAnyH_take (i := 11) (oi := { dst := some 20, op := Go.Op.move (Go.Operand.tmp 1), type := 5, pos := "ref.go:66", after := #[], guard := none }) (v := _) rfl (by kernel_rfl) (by kernel_rfl) (by kernel_rfl) (fun _ _ _ h => h) (Or.inl ⟨by rfl, ?hy12⟩) (by assumption) ?hr12
  case hy12 => (intro _ hSw; (try dsimp only at hSw); go_simp <;> with_reducible rfl)
  simp only [Act.put, List.setIfInBounds_toArray, List.set_cons_zero, List.set_cons_succ]
  refine' wpAnyH_take (i := 12) (oi := { dst := some 21, op := Go.Op.convert 5 3 (Go.Operand.tmp 20), type := 3, pos := "ref.go:66", after := #[{ on := 11, ground := Go.Ground.data }], guard := none }) (v := _) rfl (by kernel_rfl) (by kernel_rfl) (by kernel_rfl) (fun _ _ _ h => h) (Or.inl ⟨by rfl, ?hy13⟩) (by assumption) ?hr13
  case hy13 => (intro _ hSw; (try dsimp only at hSw); go_simp <;> with_reducible rfl)
  simp only [Act.put, List.setIfInBounds_toArray, List.set_cons_zero, List.set_cons_succ]
  refine' wpAnyH_take (i := 13) (oi := { dst := some 22, op := Go.Op.indexAddr 48 (Go.Operand.tmp 12) (Go.Operand.tmp 19), type := 0, pos := "ref.go:66", after := #[{ on := 3, ground := Go.Ground.data }, { on := 10, ground := Go.Ground.data }, { on := 0, ground := Go.Ground.phase }, { on := 1, ground := Go.Ground.phase }, { on := 2, ground := Go.Ground.phase }, { on := 3, ground := Go.Ground.phase }, { on := 4, ground := Go.Ground.phase }, { on := 5, ground := Go.Ground.phase }, { on := 6, ground := Go.Ground.phase }, { on := 7, ground := Go.Ground.phase }, { on := 8, ground := Go.Ground.phase }, { on := 9, ground := Go.Ground.phase }, { on := 10, ground := Go.Ground.phase }, { on := 11, ground := Go.Ground.phase }, { on := 12, ground := Go.Ground.phase }], guard := none }) (v := _) rfl (by kernel_rfl) (by kernel_rfl) (by kernel_rfl) (fun _ _ _ h => h) (Or.inl ⟨by rfl, ?hy14⟩) (by assumption) ?hr14
  case hy14 => (intro _ hSw; (try dsimp only at hSw); go_simp <;> with_reducible rfl)
  simp only [Act.put, List.setIfInBounds_toArray, List.set_cons_zero, List.set_cons_succ]
  refine wpAnyH_ready (rs := [14]) (by kernel_rfl) (by simp) ?_
  refine AllReadyH.cons (o := { dst := none, op := Go.Op.store 3 (Go.Operand.tmp 22) (Go.Operand.tmp 21), type := 0, pos := "ref.go:66", after := #[{ on := 13, ground := Go.Ground.data }, { on := 12, ground := Go.Ground.data }, { on := 0, ground := Go.Ground.phase }, { on := 1, ground := Go.Ground.phase }, { on := 2, ground := Go.Ground.phase }, { on := 3, ground := Go.Ground.phase }, { on := 4, ground := Go.Ground.phase }, { on := 5, ground := Go.Ground.phase }, { on := 6, ground := Go.Ground.phase }, { on := 7, ground := Go.Ground.phase }, { on := 8, ground := Go.Ground.phase }, { on := 9, ground := Go.Ground.phase }, { on := 10, ground := Go.Ground.phase }, { on := 11, ground := Go.Ground.phase }, { on := 12, ground := Go.Ground.phase }], guard := none }) rfl (fun K hK => ?_) AllReadyH.nil
  go_simp
  refine hK.out _ _ HS2.out (fun hNext => ?_)
  clear hK K hHeld hNext
  (try simp only [Act.put, List.setIfInBounds_toArray, List.set_cons_zero, List.set_cons_succ])
  refine wpAnyH_done (by kernel_rfl) ?_ _
  clear hf c1
  generalize (w1.setCell ⟨k.bl, c, none⟩ (im (d : Int))).drew = w2 at HP ⊢
  go_wp2
  go_ret
  exact ⟨rfl, HP.out⟩
/-- Where the first of those below k is, of which p holds: -1, if none is. -/
def Fs (p : Nat → Bool) (k : Nat) (f : Int) : Prop := (f = -1 ∧ ∀ m, m < k → p m = false) ∨ ∃ n : Nat, f = (n : Int) ∧ n < k ∧ p n = true ∧ ∀ m, m < n → p m = false
theorem Fs.start (p : Nat → Bool) : Fs p 0 (-1) := .inl ⟨rfl, fun _ h => absurd h (Nat.not_lt_zero _)⟩
theorem Fs.no {p : Nat → Bool} {k : Nat} {f : Int} (h : Fs p k f) (hp : p k = false) : Fs p (k + 1) f := by
  rcases h with ⟨rfl, h⟩ | ⟨n, rfl, h1, h2, h3⟩
  · exact .inl ⟨rfl, fun m hm => by
      by_cases e : m = k
      · rw [e]; exact hp
      · exact h m (by omega)⟩
  · exact .inr ⟨n, rfl, by omega, h2, h3⟩
theorem Fs.kept {p : Nat → Bool} {k : Nat} {f : Int} (h : Fs p k f) (hf : ¬ f < 0) : Fs p (k + 1) f := by
  rcases h with ⟨rfl, _⟩ | ⟨n, rfl, h1, h2, h3⟩
  · omega
  · exact .inr ⟨n, rfl, by omega, h2, h3⟩
theorem Fs.yes {p : Nat → Bool} {k : Nat} {f : Int} (h : Fs p k f) (hf : f < 0) (hp : p k = true) : Fs p (k + 1) (k : Int) := by
  rcases h with ⟨rfl, h⟩ | ⟨n, rfl, _⟩
  · exact .inr ⟨k, rfl, by omega, hp, h⟩
  · omega
/-- Behind the last turn. -/
def abv (x : St) (e : Nat) : Bool := x.may e && decide (x.la x.least ≤ e)
theorem pick_above (h : x.Ok) {n : Nat} (hn : n < 64) (hp : abv x n = true) (hm : ∀ m, m < n → abv x m = false) : x.may n = true ∧ x.who = n := by
  unfold abv at hp hm
  simp only [Bool.and_eq_true, decide_eq_true_iff] at hp
  refine ⟨hp.1, Nx.who h ⟨hp.1, fun e he => ?_⟩⟩
  have he64 := (may_iff.1 he).1
  have hl := h.la x.least
  have h2 := hp.2
  have h3 : e < n → e < x.la x.least := fun hh => by
    have := hm e hh
    rw [he, Bool.true_and] at this
    have := of_decide_eq_false this
    omega
  unfold ds
  omega
theorem pick_first (h : x.Ok) {n : Nat} (hn : n < 64) (hp : x.may n = true) (hm : ∀ m, m < n → x.may m = false) (ha : ∀ m, m < 64 → abv x m = false) : x.who = n := by
  refine Nx.who h ⟨hp, fun e he => ?_⟩
  have he64 := (may_iff.1 he).1
  have hl := h.la x.least
  have h3 : ∀ j, j < 64 → x.may j = true → j < x.la x.least := fun j hj hjm => by
    have := ha j hj
    unfold abv at this
    rw [hjm, Bool.true_and] at this
    have := of_decide_eq_false this
    omega
  have h4 := h3 n hn hp
  have h5 := h3 e he64 he
  have h6 : n ≤ e := by
    rcases Nat.lt_or_ge e n with hh | hh
    · have := hm e hh; rw [he] at this; cases this
    · exact hh
  unfold ds
  omega
theorem none_least (hm : ∀ m, m < 64 → x.may m = false) : x.least = 64 := by
  have := least_le x
  rcases Nat.lt_or_ge x.least 64 with hh | hh
  · obtain ⟨d, hd⟩ := may_some hh
    have := hm d (may_iff.1 hd).1
    rw [hd] at this; cases this
  · omega
set_option maxHeartbeats 8000000 in
theorem rpick (h : R w k x) : Calls Try.prog 24 #[ptr k.b] w fun e w' => e = .returned (.tuple #[oc x.pd, .bool x.pb]) ∧ R w' k x.pick ∧ Chg k.S w w' := by
  have HR0 : Hid (R w k x ∧ Chg k.S w w) := Lib.hid ⟨h, Chg.refl _ _⟩
  have HO := Lib.hid h.ok
  clear h
  go_enter Try.func24, Try.ntmps24
  go_wp2_with fail
  go_loopg [4, 5, 6] 64 (fun gm s4 s5 s6 wr => ∃ (i : Nat) (f a : Int), s4 = im f ∧ s5 = im a ∧ s6 = nm i ∧ 64 - i ≤ gm ∧ i ≤ 64 ∧ Hid (Fs x.may i f) ∧ Hid (Fs (abv x) i a) ∧ Hid (R wr k x ∧ Chg k.S w wr))
  case atStart => exact ⟨0, -1, -1, rfl, rfl, rfl, by omega, by omega, Lib.hid (Fs.start _), Lib.hid (Fs.start _), HR0⟩
  case round =>
    clear HR0
    obtain ⟨i, f, a, rfl, rfl, rfl, hgm, hkn, HF, HA, HR⟩ := hrel
    by_cases hlt : i < 64
    · have j1 : decide ((i : Int) < 64) = true := decide_eq_true (by omega)
      have j2 : (i : Int) < 64 := by omega
      have vk : IntKind.i64.wrap ((i : Int) + 1) = ((i + 1 : Nat) : Int) := by rw [IntKind.wrap_i64]; omega
      have vi : IntKind.u8.wrap (i : Int) = (i : Int) := by rw [IntKind.wrap_u8]; omega
      have CM := rmay HR.out.1 i hlt
      by_cases hm : x.may i = true
      · rw [hm] at CM
        have CM := Lib.hid CM
        go_wp2_with fail
        refine CM.out.mono ?_
        rintro _ _ ⟨rfl, nq, rfl⟩
        have HR2 : Hid (R (wr.drewN nq) k x ∧ Chg k.S w (wr.drewN nq)) := Lib.hid ⟨HR.out.1.drewN nq, HR.out.2.drewN nq⟩
        clear CM HR
        generalize wr.drewN nq = w2 at HR2 ⊢
        have hcl := (may_iff.1 hm).2.2
        have HM := Lib.hid hm
        have c0 := HR2.out.1.hd.cell 0 _ rfl
        have c2 := HR2.out.1.hd.cell 2 _ rfl
        have ec := HR2.out.1.c.cell hlt
        have el := HR2.out.1.l.cell (HO.out.cl i)
        have l0 := HR2.out.1.hd.lt
        have l1 := HR2.out.1.c.lt
        have l2 := HR2.out.1.l.lt
        have hc64 := HO.out.cl i
        have HAB : Hid (abv x i = decide (x.la (x.cl i) ≤ i)) := Lib.hid (by unfold abv; rw [hm, Bool.true_and, hcl])
        obtain ⟨c, hc⟩ : ∃ c, x.cl i = c := ⟨_, rfl⟩
        simp only [hc] at ec el hc64
        rw [hc] at HAB
        obtain ⟨z, hz⟩ : ∃ z, (x.la c : Int) - 1 = z := ⟨_, rfl⟩
        simp only [hz] at el
        have HZ := Lib.hid hz
        have c64 : (c : Int) < 64 := by omega
        clear hm hcl hc hz
        by_cases hf : f < 0
        · have f0 : decide (f < 0) = true := decide_eq_true hf
          have HF2 := Lib.hid (HF.out.yes hf HM.out)
          by_cases ha : a < 0
          · have a0 : decide (a < 0) = true := decide_eq_true ha
            by_cases hz : z < (i : Int)
            · have s0 : decide (z < (i : Int)) = true := decide_eq_true hz
              have HA2 := Lib.hid (HA.out.yes ha (by rw [HAB.out]; exact decide_eq_true (by have := HZ.out; omega)))
              go_wp2_with fail
              go_quiet (fail)
              have HR3 : Hid (R (w2.drewN nq) k x ∧ Chg k.S w (w2.drewN nq)) := Lib.hid ⟨HR2.out.1.drewN nq, HR2.out.2.drewN nq⟩
              clear HR2 c0 c2 ec el l0 l1 l2
              generalize w2.drewN nq = w3 at HR3 ⊢
              go_wp2
              go_roundg (64 - (i + 1))
              case measure => omega
              case rel => exact ⟨i + 1, (i : Int), (i : Int), rfl, rfl, by first | rfl | go_num, Nat.le_refl _, by omega, HF2, HA2, HR3⟩
            · have s0 : decide (z < (i : Int)) = false := decide_eq_false hz
              have HA2 := Lib.hid (HA.out.no (by rw [HAB.out]; exact decide_eq_false (by have := HZ.out; omega)))
              go_wp2_with fail
              go_quiet (fail)
              have HR3 : Hid (R (w2.drewN nq) k x ∧ Chg k.S w (w2.drewN nq)) := Lib.hid ⟨HR2.out.1.drewN nq, HR2.out.2.drewN nq⟩
              clear HR2 c0 c2 ec el l0 l1 l2
              generalize w2.drewN nq = w3 at HR3 ⊢
              go_wp2
              go_roundg (64 - (i + 1))
              case measure => omega
              case rel => exact ⟨i + 1, (i : Int), a, rfl, rfl, by first | rfl | go_num, Nat.le_refl _, by omega, HF2, HA2, HR3⟩
          · have a0 : decide (a < 0) = false := decide_eq_false ha
            have HA2 := Lib.hid (HA.out.kept ha)
            go_wp2_with fail
            go_quiet (fail)
            have HR3 : Hid (R (w2.drewN nq) k x ∧ Chg k.S w (w2.drewN nq)) := Lib.hid ⟨HR2.out.1.drewN nq, HR2.out.2.drewN nq⟩
            clear HR2 c0 c2 ec el l0 l1 l2
            generalize w2.drewN nq = w3 at HR3 ⊢
            go_wp2
            go_roundg (64 - (i + 1))
            case measure => omega
            case rel => exact ⟨i + 1, (i : Int), a, rfl, rfl, by first | rfl | go_num, Nat.le_refl _, by omega, HF2, HA2, HR3⟩
        · have f0 : decide (f < 0) = false := decide_eq_false hf
          have HF2 := Lib.hid (HF.out.kept hf)
          by_cases ha : a < 0
          · have a0 : decide (a < 0) = true := decide_eq_true ha
            by_cases hz : z < (i : Int)
            · have s0 : decide (z < (i : Int)) = true := decide_eq_true hz
              have HA2 := Lib.hid (HA.out.yes ha (by rw [HAB.out]; exact decide_eq_true (by have := HZ.out; omega)))
              go_wp2_with fail
              go_quiet (fail)
              have HR3 : Hid (R (w2.drewN nq) k x ∧ Chg k.S w (w2.drewN nq)) := Lib.hid ⟨HR2.out.1.drewN nq, HR2.out.2.drewN nq⟩
              clear HR2 c0 c2 ec el l0 l1 l2
              generalize w2.drewN nq = w3 at HR3 ⊢
              go_wp2
              go_roundg (64 - (i + 1))
              case measure => omega
              case rel => exact ⟨i + 1, f, (i : Int), rfl, rfl, by first | rfl | go_num, Nat.le_refl _, by omega, HF2, HA2, HR3⟩
            · have s0 : decide (z < (i : Int)) = false := decide_eq_false hz
              have HA2 := Lib.hid (HA.out.no (by rw [HAB.out]; exact decide_eq_false (by have := HZ.out; omega)))
              go_wp2_with fail
              go_quiet (fail)
              have HR3 : Hid (R (w2.drewN nq) k x ∧ Chg k.S w (w2.drewN nq)) := Lib.hid ⟨HR2.out.1.drewN nq, HR2.out.2.drewN nq⟩
              clear HR2 c0 c2 ec el l0 l1 l2
              generalize w2.drewN nq = w3 at HR3 ⊢
              go_wp2
              go_roundg (64 - (i + 1))
              case measure => omega
              case rel => exact ⟨i + 1, f, a, rfl, rfl, by first | rfl | go_num, Nat.le_refl _, by omega, HF2, HA2, HR3⟩
          · have a0 : decide (a < 0) = false := decide_eq_false ha
            have HA2 := Lib.hid (HA.out.kept ha)
            go_wp2_with fail
            go_quiet (fail)
            have HR3 : Hid (R (w2.drewN nq) k x ∧ Chg k.S w (w2.drewN nq)) := Lib.hid ⟨HR2.out.1.drewN nq, HR2.out.2.drewN nq⟩
            clear HR2 c0 c2 ec el l0 l1 l2
            generalize w2.drewN nq = w3 at HR3 ⊢
            go_wp2
            go_roundg (64 - (i + 1))
            case measure => omega
            case rel => exact ⟨i + 1, f, a, rfl, rfl, by first | rfl | go_num, Nat.le_refl _, by omega, HF2, HA2, HR3⟩
      · have hm2 : x.may i = false := by simpa using hm
        rw [hm2] at CM
        have CM := Lib.hid CM
        have HF2 := Lib.hid (HF.out.no hm2)
        have HA2 := Lib.hid (HA.out.no (show abv x i = false by unfold abv; rw [hm2, Bool.false_and]))
        clear hm hm2
        go_wp2_with fail
        refine CM.out.mono ?_
        rintro _ _ ⟨rfl, nq, rfl⟩
        have HR2 : Hid (R (wr.drewN nq) k x ∧ Chg k.S w (wr.drewN nq)) := Lib.hid ⟨HR.out.1.drewN nq, HR.out.2.drewN nq⟩
        clear CM HR HF HA
        generalize wr.drewN nq = w2 at HR2 ⊢
        go_wp2
        go_roundg (64 - (i + 1))
        case measure => omega
        case rel => exact ⟨i + 1, f, a, rfl, rfl, by first | rfl | go_num, Nat.le_refl _, by omega, HF2, HA2, HR2⟩
    · obtain rfl : i = 64 := by omega
      rcases HF.out with ⟨rfl, hno⟩ | ⟨n, rfl, hn, hnm, hnl⟩
      · have HL := Lib.hid (none_least hno)
        clear hno
        go_wp2
        go_ret2
        refine ⟨?_, ?_, HR.out.2⟩
        · unfold St.pd St.pb
          rw [if_pos HL.out, decide_eq_false (fun e => e HL.out)]; rfl
        · unfold St.pick
          rw [if_pos HL.out]; exact HR.out.1
      · have HM := Lib.hid (may_least HO.out hnm)
        have f0 : decide ((n : Int) < 0) = false := decide_eq_false (by omega)
        have f1 : ¬ (n : Int) < 0 := by omega
        rcases HA.out with ⟨rfl, hno⟩ | ⟨m, rfl, hm, hmm, hml⟩
        · have HW := Lib.hid (pick_first HO.out hn hnm hnl hno)
          have CT := Lib.hid (rtake_yes HR.out.1 n hnm)
          have vn : IntKind.u8.wrap (n : Int) = (n : Int) := by rw [IntKind.wrap_u8]; omega
          clear hno hnm hnl hn HF HA
          go_wp2_with fail
          refine CT.out.mono ?_
          rintro _ w3 ⟨rfl, hr3, hc3⟩
          have HX := Lib.hid (And.intro hr3 (HR.out.2.then hc3))
          clear hr3 hc3 CT HR
          go_wp2
          go_ret2
          have hne : ¬ x.least = 64 := by have := HM.out; omega
          refine ⟨?_, ?_, HX.out.2⟩
          · unfold St.pd St.pb
            rw [if_neg hne, decide_eq_true hne, HW.out]; rfl
          · unfold St.pick
            rw [if_neg hne, HW.out]; exact HX.out.1
        · have HW := Lib.hid (pick_above HO.out hm hmm hml)
          have CT := Lib.hid (rtake_yes HR.out.1 m HW.out.1)
          have HW := Lib.hid HW.out.2
          have vn : IntKind.u8.wrap (m : Int) = (m : Int) := by rw [IntKind.wrap_u8]; omega
          have a0 : decide ((0 : Int) ≤ (m : Int)) = true := decide_eq_true (by omega)
          have a1 : (0 : Int) ≤ (m : Int) := by omega
          clear hnm hnl hn hm hmm hml HF HA
          go_wp2_with fail
          refine CT.out.mono ?_
          rintro _ w3 ⟨rfl, hr3, hc3⟩
          have HX := Lib.hid (And.intro hr3 (HR.out.2.then hc3))
          clear hr3 hc3 CT HR
          go_wp2
          go_ret2
          have hne : ¬ x.least = 64 := by have := HM.out; omega
          refine ⟨?_, ?_, HX.out.2⟩
          · unfold St.pd St.pb
            rw [if_neg hne, decide_eq_true hne, HW.out]; rfl
          · unfold St.pick
            rw [if_neg hne, HW.out]; exact HX.out.1
end
end Go.Proofs.Ytiicgfkcjpeiiaa.Pi

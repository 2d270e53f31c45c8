/-
  LinkMeets answers true whatever came in, and turns nothing that was there. No condition.
-/
import Derived.Test.YtfflbaiddiahnaaLkRun
namespace Go.Proofs.Ytfflbaiddiahnaa.linkMeets
open Go.RowKit Go.Proofs.Ytfflbaiddiahnaa.Base Go.Proofs.Ytfflbaiddiahnaa.Mem Go.Proofs.Ytfflbaiddiahnaa.Lk
abbrev c1 : Ac := ⟨1, true, true, 1, 0⟩
abbrev c4 : Ac := ⟨4, true, true, 1, 0⟩
theorem meets_both (f i1 i2 : Bool) (n1 n2 : Int) : runs 100 f ⟨⟨2, i1, n1, 0⟩, ⟨2, i2, n2, 0⟩, [c1], [c1]⟩ = ⟨⟨3, i1, n1, 0⟩, ⟨3, i2, n2, 0⟩, [], []⟩ := by cases f <;> rfl
theorem meets_one (f i1 : Bool) (n1 s n2 t : Int) (hs : s = 1 ∨ s = 5) : runs 100 f ⟨⟨2, i1, n1, 0⟩, ⟨s, true, n2, t⟩, [], [c1]⟩ = ⟨⟨3, i1, n1, 0⟩, ⟨3, true, n2, t⟩, [], []⟩ := by
  rcases hs with rfl | rfl <;> cases f <;> rfl
theorem parts_both (f i1 i2 : Bool) (n1 n2 : Int) : runs 100 f ⟨⟨4, i1, n1, 0⟩, ⟨4, i2, n2, 0⟩, [c4], [c4]⟩ = ⟨⟨1, i1, n1, 0⟩, ⟨1, i2, n2, 0⟩, [], []⟩ := by cases f <;> rfl
theorem parts_one (f i1 i2 : Bool) (n1 n2 t : Int) : runs 100 f ⟨⟨4, i1, n1, 0⟩, ⟨3, i2, n2, t⟩, [], [c4]⟩ = ⟨⟨1, i1, n1, 0⟩, ⟨1, i2, n2, t⟩, [], []⟩ := by cases f <;> rfl
abbrev sN : Value := .slice none 0 0
set_option maxHeartbeats 16000000 in
set_option maxRecDepth 100000 in
theorem law (n2 : Int) (_ : -9223372036854775808 ≤ n2 ∧ n2 ≤ 9223372036854775807) (oa : Option Addr) (n capa : Nat) (F : Nat → Et) (_ : n ≤ maxLen) (ob : Option Addr) (m capb : Nat) (G : Nat → Et) (_ : m ≤ maxLen) (both first : Bool) (w : World) (hA : ArgS 4 ec Fits w oa n F) (hB : ArgS 4 ec Fits w ob m G) :
    Calls Try.prog 4 #[.int .i64 n2, .slice oa n capa, .slice ob m capb, .bool both, .bool first] w fun e w' => e = .returned (.bool true) ∧ Below w.heap.size w w' := by
  have HA := Lib.hid hA
  have HB := Lib.hid hB
  clear hA hB
  by_cases hn : 100 < n
  · have h1 : (100 : Int) < (n : Int) := by omega
    have h2 : decide ((100 : Int) < (n : Int)) = true := decide_eq_true h1
    have cw := Lib.hid (fworks w)
    go_enter Try.func4, Try.ntmps4
    go_wp2_with fail
    refine cw.out.mono ?_
    rintro _ w1 ⟨rfl, hb⟩
    have HW := Lib.hid hb
    clear hb cw
    go_wp2
    go_ret
    exact ⟨rfl, HW.out⟩
  have h1 : ¬ (100 : Int) < (n : Int) := by omega
  have h2 : decide ((100 : Int) < (n : Int)) = false := decide_eq_false h1
  by_cases hm : 100 < m
  · have h3 : (100 : Int) < (m : Int) := by omega
    have h4 : decide ((100 : Int) < (m : Int)) = true := decide_eq_true h3
    have cw := Lib.hid (fworks w)
    go_enter Try.func4, Try.ntmps4
    go_wp2_with fail
    refine cw.out.mono ?_
    rintro _ w1 ⟨rfl, hb⟩
    have HW := Lib.hid hb
    clear hb cw
    go_wp2
    go_ret
    exact ⟨rfl, HW.out⟩
  have h3 : ¬ (100 : Int) < (m : Int) := by omega
  have h4 : decide ((100 : Int) < (m : Int)) = false := decide_eq_false h3
  have CN := Lib.hid (fun w => fnew n2 w)
  have HO := Lib.hid (new_ok n2)
  generalize new n2 = l0 at CN HO
  go_enter Try.func4, Try.ntmps4
  go_wp2_with fail
  refine (CN.out _).mono ?_
  rintro _ w1 ⟨rfl, ha, hb1⟩
  go_wp2_with fail
  refine (CN.out _).mono ?_
  rintro _ w2 ⟨rfl, hb, hb2⟩
  obtain ⟨tb, htb⟩ : ∃ tb, tb = w2.heap.size := ⟨_, rfl⟩
  have HP : Hid (TwAt w w.heap.size w1.heap.size tb sN sN ⟨l0, l0, [], []⟩ (w2.alloc (.cells #[ptr w.heap.size, ptr w1.heap.size, sN, sN] 45 (0, 0)))) := by
    have hs : Below w2.heap.size w2 (w2.alloc (.cells #[ptr w.heap.size, ptr w1.heap.size, sN, sN] 45 (0, 0))) := nest_below w2 [_]
    refine ⟨(ha.below hb2).below hs, hb.below hs, (by rw [htb]; exact nest w2 [_] 0 _ rfl), qz_nil _ _, qz_nil _ _, (fun g e => by cases e), ha.lt, (by rw [htb]; exact hb.lt), Nat.le_refl _, below_on (below_on hb1 hb2) hs⟩
  have HT := Lib.hid htb
  clear ha hb1 hb hb2 CN htb
  generalize hpa : w.heap.size = pa at HP ⊢
  generalize hpb : w1.heap.size = pb at HP ⊢
  have HPW := Lib.hid hpa
  clear hpa hpb
  go_wp2_with fail
  simp only [← HT.out]
  generalize w2.alloc (.cells #[ptr pa, ptr pb, sN, sN] 45 (0, 0)) = w3 at HP ⊢
  clear HT
  go_loopg [12] n (fun gm s wr => ∃ (k : Nat) (l : Lk), s = nm k ∧ n - k ≤ gm ∧ k ≤ n ∧ Hid (TwAt w pa pb tb sN sN ⟨l, l0, [], []⟩ wr) ∧ Hid l.Ok)
  case atStart => exact ⟨0, l0, rfl, by omega, by omega, HP, HO⟩
  case round =>
    clear HP
    obtain ⟨k, l, rfl, hgm, hkn, HP, HL⟩ := hrel
    by_cases hlt : k < n
    · have t1 : decide ((k : Int) < (n : Int)) = true := decide_eq_true (by omega)
      have t2 : (k : Int) < (n : Int) := by omega
      have j0 : (0 : Int) ≤ (k : Int) := by omega
      have vk := wrap_nat (k + 1) (by omega)
      obtain ⟨a, gb, go, rfl, ha, hgb, hrw⟩ := arg_at HA.out hlt
      obtain ⟨x, hx⟩ : ∃ x, x = F k := ⟨_, rfl⟩
      rw [← hx] at hrw
      have HRW := Lib.hid hrw
      obtain ⟨r, hr⟩ : ∃ r, doE l x = r := ⟨_, rfl⟩
      have HN : Hid r.1.Ok := by show r.1.Ok; rw [← hr]; exact doE_ok HL.out x
      have CD := Lib.hid (fun w h => fdoE w pa l x HL.out h r hr)
      clear hrw hx hr HL
      obtain ⟨l2, ans⟩ := r
      go_wp2_with fail
      refine wp_region_held_drew (S := (fun w' => Below w.heap.size w w' ∧ w'.cell? ⟨tb, 0, none⟩ = some (ptr pa))) (by kernel_rfl) ⟨HP.out.drew.below, cell_of HP.out.drew.blk rfl⟩ (fun hHeld => ?_)
      refine' wpAnyH_take (i := 0) (oi := { dst := some 38, op := Go.Op.move (Go.Operand.tmp 11), type := 40, pos := "law.go:106", after := #[], guard := none }) (v := _) rfl (by kernel_rfl) (by kernel_rfl) (by kernel_rfl) (fun _ _ _ h => h) (Or.inl ⟨by rfl, ?hy1⟩) (by assumption) ?hr1
      case hy1 => (intro _ hSw; (try dsimp only at hSw); go_simp <;> with_reducible rfl)
      simp only [Act.put, List.setIfInBounds_toArray, List.set_cons_zero, List.set_cons_succ]
      refine' wpAnyH_take (i := 1) (oi := { dst := some 39, op := Go.Op.nilCheck (Go.Operand.tmp 38), type := 0, pos := "law.go:106", after := #[{ on := 0, ground := Go.Ground.data }], guard := none }) (v := _) rfl (by kernel_rfl) (by kernel_rfl) (by kernel_rfl) (fun _ _ _ h => h) (Or.inl ⟨by rfl, ?hy2⟩) (by assumption) ?hr2
      case hy2 => (intro _ hSw; (try dsimp only at hSw); go_simp <;> with_reducible rfl)
      simp only [Act.put, List.setIfInBounds_toArray, List.set_cons_zero, List.set_cons_succ]
      refine' wpAnyH_take (i := 2) (oi := { dst := some 40, op := Go.Op.fieldAddr 45 (Go.Operand.tmp 39) 0, type := 0, pos := "law.go:106", after := #[{ on := 1, ground := Go.Ground.data }], guard := none }) (v := _) rfl (by kernel_rfl) (by kernel_rfl) (by kernel_rfl) (fun _ _ _ h => h) (Or.inl ⟨by rfl, ?hy3⟩) (by assumption) ?hr3
      case hy3 => (intro _ hSw; (try dsimp only at hSw); go_simp <;> with_reducible rfl)
      simp only [Act.put, List.setIfInBounds_toArray, List.set_cons_zero, List.set_cons_succ]
      refine' wpAnyH_take (i := 3) (oi := { dst := some 41, op := Go.Op.indexAddr 41 (Go.Operand.tmp 40) (Go.Operand.const (Go.Value.int Go.IntKind.i64 0)), type := 0, pos := "law.go:106", after := #[{ on := 2, ground := Go.Ground.data }], guard := none }) (v := _) rfl (by kernel_rfl) (by kernel_rfl) (by kernel_rfl) (fun _ _ _ h => h) (Or.inl ⟨by rfl, ?hy4⟩) (by assumption) ?hr4
      case hy4 => (intro _ hSw; (try dsimp only at hSw); go_simp <;> with_reducible rfl)
      simp only [Act.put, List.setIfInBounds_toArray, List.set_cons_zero, List.set_cons_succ]
      refine' wpAnyH_take (i := 4) (oi := { dst := some 42, op := Go.Op.load 24 (Go.Operand.tmp 41), type := 24, pos := "law.go:106", after := #[{ on := 3, ground := Go.Ground.data }], guard := none }) (v := _) rfl (by kernel_rfl) (by kernel_rfl) (by kernel_rfl) (fun _ _ _ h => h) (Or.inl ⟨by rfl, ?hy5⟩) (by assumption) ?hr5
      case hy5 => (intro _ hSw; (try dsimp only at hSw); have hcc := hSw.2; go_simp <;> with_reducible rfl)
      simp only [Act.put, List.setIfInBounds_toArray, List.set_cons_zero, List.set_cons_succ]
      refine' wpAnyH_take (i := 5) (oi := { dst := some 43, op := Go.Op.move (Go.Operand.tmp 1), type := 22, pos := "law.go:106", after := #[], guard := none }) (v := _) rfl (by kernel_rfl) (by kernel_rfl) (by kernel_rfl) (fun _ _ _ h => h) (Or.inl ⟨by rfl, ?hy6⟩) (by assumption) ?hr6
      case hy6 => (intro _ hSw; (try dsimp only at hSw); go_simp <;> with_reducible rfl)
      simp only [Act.put, List.setIfInBounds_toArray, List.set_cons_zero, List.set_cons_succ]
      refine' wpAnyH_take (i := 6) (oi := { dst := some 44, op := Go.Op.move (Go.Operand.tmp 12), type := 3, pos := "law.go:106", after := #[], guard := none }) (v := _) rfl (by kernel_rfl) (by kernel_rfl) (by kernel_rfl) (fun _ _ _ h => h) (Or.inl ⟨by rfl, ?hy7⟩) (by assumption) ?hr7
      case hy7 => (intro _ hSw; (try dsimp only at hSw); go_simp <;> with_reducible rfl)
      simp only [Act.put, List.setIfInBounds_toArray, List.set_cons_zero, List.set_cons_succ]
      refine' wpAnyH_take (i := 7) (oi := { dst := some 45, op := Go.Op.indexAddr 22 (Go.Operand.tmp 43) (Go.Operand.tmp 44), type := 0, pos := "law.go:106", after := #[{ on := 5, ground := Go.Ground.data }, { on := 6, ground := Go.Ground.data }], guard := none }) (v := _) rfl (by kernel_rfl) (by kernel_rfl) (by kernel_rfl) (fun _ _ _ h => h) (Or.inl ⟨by rfl, ?hy8⟩) (by assumption) ?hr8
      case hy8 => (intro _ hSw; (try dsimp only at hSw); go_simp <;> with_reducible rfl)
      simp only [Act.put, List.setIfInBounds_toArray, List.set_cons_zero, List.set_cons_succ]
      refine' wpAnyH_take (i := 8) (oi := { dst := some 46, op := Go.Op.load 33 (Go.Operand.tmp 45), type := 33, pos := "law.go:106", after := #[{ on := 7, ground := Go.Ground.data }], guard := none }) (v := _) rfl (by kernel_rfl) (by kernel_rfl) (by kernel_rfl) (fun _ _ _ h => h) (Or.inl ⟨by rfl, ?hy9⟩) (by assumption) ?hr9
      case hy9 => (intro _ hSw; (try dsimp only at hSw); have hc0 := (HRW.out _ hSw.1).1; have hc1 := (HRW.out _ hSw.1).2.1; have hc2 := (HRW.out _ hSw.1).2.2.1; have hc3 := (HRW.out _ hSw.1).2.2.2; go_simp <;> with_reducible rfl)
      simp only [Act.put, List.setIfInBounds_toArray, List.set_cons_zero, List.set_cons_succ]
      refine wpAnyH_ready (rs := [9]) (by kernel_rfl) (by simp) ?_
      refine AllReadyH.cons (o := { dst := some 47, op := Go.Op.call { callee := Go.Callee.value (Go.Operand.func 13), args := #[Go.Operand.tmp 42, Go.Operand.tmp 46], argTypes := #[24, 33] }, type := 30, pos := "law.go:106", after := #[{ on := 4, ground := Go.Ground.data }, { on := 8, ground := Go.Ground.data }], guard := none }) rfl (fun K hK => ?_) AllReadyH.nil
      go_simp
      refine (CD.out _ HP.out.drew.la).mono ?_
      rintro _ w5 ⟨rfl, hd⟩
      have HP5 : Hid (TwAt w pa pb tb sN sN ⟨l2, l0, [], []⟩ w5) := Lib.hid (HP.out.drew.doA hd)
      clear hd
      go_wp2_with fail
      refine hK.out _ _ ⟨HP5.out.below, cell_of HP5.out.blk rfl⟩ (fun hNext => ?_)
      clear hNext hHeld hK K
      refine wpAnyH_done (by kernel_rfl) ?_ _
      clear HP CD HRW
      go_wp2
      go_roundg (n - (k + 1))
      case measure => omega
      case rel => exact ⟨k + 1, l2, by first | rfl | go_num, Nat.le_refl _, by omega, HP5, HN⟩
    · have t1 : decide ((k : Int) < (n : Int)) = false := decide_eq_false (by omega)
      have t2 : ¬ (k : Int) < (n : Int) := by omega
      clear hgm hkn hlt
      obtain ⟨la, hla⟩ : ∃ la, la = l := ⟨_, rfl⟩
      rw [← hla] at HP HL
      have HLA := Lib.hid HL.out
      clear hla HL l
      go_wp2_with fail
      clear t1 t2
      go_loopg [13] m (fun gm s wr => ∃ (k : Nat) (l : Lk), s = nm k ∧ m - k ≤ gm ∧ k ≤ m ∧ Hid (TwAt w pa pb tb sN sN ⟨la, l, [], []⟩ wr) ∧ Hid l.Ok)
      case atStart => exact ⟨0, l0, rfl, by omega, by omega, HP, HO⟩
      case round =>
        clear HP
        obtain ⟨k, l, rfl, hgm, hkn, HP, HL⟩ := hrel
        by_cases hlt : k < m
        · have t1 : decide ((k : Int) < (m : Int)) = true := decide_eq_true (by omega)
          have t2 : (k : Int) < (m : Int) := by omega
          have j0 : (0 : Int) ≤ (k : Int) := by omega
          have vk := wrap_nat (k + 1) (by omega)
          obtain ⟨a, gb, go, rfl, ha, hgb, hrw⟩ := arg_at HB.out hlt
          obtain ⟨x, hx⟩ : ∃ x, x = G k := ⟨_, rfl⟩
          rw [← hx] at hrw
          have HRW := Lib.hid hrw
          obtain ⟨r, hr⟩ : ∃ r, doE l x = r := ⟨_, rfl⟩
          have HN : Hid r.1.Ok := by show r.1.Ok; rw [← hr]; exact doE_ok HL.out x
          have CD := Lib.hid (fun w h => fdoE w pb l x HL.out h r hr)
          clear hrw hx hr HL
          obtain ⟨l2, ans⟩ := r
          go_wp2_with fail
          refine wp_region_held_drew (S := (fun w' => Below w.heap.size w w' ∧ w'.cell? ⟨tb, 1, none⟩ = some (ptr pb))) (by kernel_rfl) ⟨HP.out.drew.below, cell_of HP.out.drew.blk rfl⟩ (fun hHeld => ?_)
          refine' wpAnyH_take (i := 0) (oi := { dst := some 54, op := Go.Op.move (Go.Operand.tmp 11), type := 40, pos := "law.go:109", after := #[], guard := none }) (v := _) rfl (by kernel_rfl) (by kernel_rfl) (by kernel_rfl) (fun _ _ _ h => h) (Or.inl ⟨by rfl, ?hy10⟩) (by assumption) ?hr10
          case hy10 => (intro _ hSw; (try dsimp only at hSw); go_simp <;> with_reducible rfl)
          simp only [Act.put, List.setIfInBounds_toArray, List.set_cons_zero, List.set_cons_succ]
          refine' wpAnyH_take (i := 1) (oi := { dst := some 55, op := Go.Op.nilCheck (Go.Operand.tmp 54), type := 0, pos := "law.go:109", after := #[{ on := 0, ground := Go.Ground.data }], guard := none }) (v := _) rfl (by kernel_rfl) (by kernel_rfl) (by kernel_rfl) (fun _ _ _ h => h) (Or.inl ⟨by rfl, ?hy11⟩) (by assumption) ?hr11
          case hy11 => (intro _ hSw; (try dsimp only at hSw); go_simp <;> with_reducible rfl)
          simp only [Act.put, List.setIfInBounds_toArray, List.set_cons_zero, List.set_cons_succ]
          refine' wpAnyH_take (i := 2) (oi := { dst := some 56, op := Go.Op.fieldAddr 45 (Go.Operand.tmp 55) 0, type := 0, pos := "law.go:109", after := #[{ on := 1, ground := Go.Ground.data }], guard := none }) (v := _) rfl (by kernel_rfl) (by kernel_rfl) (by kernel_rfl) (fun _ _ _ h => h) (Or.inl ⟨by rfl, ?hy12⟩) (by assumption) ?hr12
          case hy12 => (intro _ hSw; (try dsimp only at hSw); go_simp <;> with_reducible rfl)
          simp only [Act.put, List.setIfInBounds_toArray, List.set_cons_zero, List.set_cons_succ]
          refine' wpAnyH_take (i := 3) (oi := { dst := some 57, op := Go.Op.indexAddr 41 (Go.Operand.tmp 56) (Go.Operand.const (Go.Value.int Go.IntKind.i64 1)), type := 0, pos := "law.go:109", after := #[{ on := 2, ground := Go.Ground.data }], guard := none }) (v := _) rfl (by kernel_rfl) (by kernel_rfl) (by kernel_rfl) (fun _ _ _ h => h) (Or.inl ⟨by rfl, ?hy13⟩) (by assumption) ?hr13
          case hy13 => (intro _ hSw; (try dsimp only at hSw); go_simp <;> with_reducible rfl)
          simp only [Act.put, List.setIfInBounds_toArray, List.set_cons_zero, List.set_cons_succ]
          refine' wpAnyH_take (i := 4) (oi := { dst := some 58, op := Go.Op.load 24 (Go.Operand.tmp 57), type := 24, pos := "law.go:109", after := #[{ on := 3, ground := Go.Ground.data }], guard := none }) (v := _) rfl (by kernel_rfl) (by kernel_rfl) (by kernel_rfl) (fun _ _ _ h => h) (Or.inl ⟨by rfl, ?hy14⟩) (by assumption) ?hr14
          case hy14 => (intro _ hSw; (try dsimp only at hSw); have hcc := hSw.2; go_simp <;> with_reducible rfl)
          simp only [Act.put, List.setIfInBounds_toArray, List.set_cons_zero, List.set_cons_succ]
          refine' wpAnyH_take (i := 5) (oi := { dst := some 59, op := Go.Op.move (Go.Operand.tmp 2), type := 22, pos := "law.go:109", after := #[], guard := none }) (v := _) rfl (by kernel_rfl) (by kernel_rfl) (by kernel_rfl) (fun _ _ _ h => h) (Or.inl ⟨by rfl, ?hy15⟩) (by assumption) ?hr15
          case hy15 => (intro _ hSw; (try dsimp only at hSw); go_simp <;> with_reducible rfl)
          simp only [Act.put, List.setIfInBounds_toArray, List.set_cons_zero, List.set_cons_succ]
          refine' wpAnyH_take (i := 6) (oi := { dst := some 60, op := Go.Op.move (Go.Operand.tmp 13), type := 3, pos := "law.go:109", after := #[], guard := none }) (v := _) rfl (by kernel_rfl) (by kernel_rfl) (by kernel_rfl) (fun _ _ _ h => h) (Or.inl ⟨by rfl, ?hy16⟩) (by assumption) ?hr16
          case hy16 => (intro _ hSw; (try dsimp only at hSw); go_simp <;> with_reducible rfl)
          simp only [Act.put, List.setIfInBounds_toArray, List.set_cons_zero, List.set_cons_succ]
          refine' wpAnyH_take (i := 7) (oi := { dst := some 61, op := Go.Op.indexAddr 22 (Go.Operand.tmp 59) (Go.Operand.tmp 60), type := 0, pos := "law.go:109", after := #[{ on := 5, ground := Go.Ground.data }, { on := 6, ground := Go.Ground.data }], guard := none }) (v := _) rfl (by kernel_rfl) (by kernel_rfl) (by kernel_rfl) (fun _ _ _ h => h) (Or.inl ⟨by rfl, ?hy17⟩) (by assumption) ?hr17
          case hy17 => (intro _ hSw; (try dsimp only at hSw); go_simp <;> with_reducible rfl)
          simp only [Act.put, List.setIfInBounds_toArray, List.set_cons_zero, List.set_cons_succ]
          refine' wpAnyH_take (i := 8) (oi := { dst := some 62, op := Go.Op.load 33 (Go.Operand.tmp 61), type := 33, pos := "law.go:109", after := #[{ on := 7, ground := Go.Ground.data }], guard := none }) (v := _) rfl (by kernel_rfl) (by kernel_rfl) (by kernel_rfl) (fun _ _ _ h => h) (Or.inl ⟨by rfl, ?hy18⟩) (by assumption) ?hr18
          case hy18 => (intro _ hSw; (try dsimp only at hSw); have hc0 := (HRW.out _ hSw.1).1; have hc1 := (HRW.out _ hSw.1).2.1; have hc2 := (HRW.out _ hSw.1).2.2.1; have hc3 := (HRW.out _ hSw.1).2.2.2; go_simp <;> with_reducible rfl)
          simp only [Act.put, List.setIfInBounds_toArray, List.set_cons_zero, List.set_cons_succ]
          refine wpAnyH_ready (rs := [9]) (by kernel_rfl) (by simp) ?_
          refine AllReadyH.cons (o := { dst := some 63, op := Go.Op.call { callee := Go.Callee.value (Go.Operand.func 13), args := #[Go.Operand.tmp 58, Go.Operand.tmp 62], argTypes := #[24, 33] }, type := 30, pos := "law.go:109", after := #[{ on := 4, ground := Go.Ground.data }, { on := 8, ground := Go.Ground.data }], guard := none }) rfl (fun K hK => ?_) AllReadyH.nil
          go_simp
          refine (CD.out _ HP.out.drew.lb).mono ?_
          rintro _ w5 ⟨rfl, hd⟩
          have HP5 : Hid (TwAt w pa pb tb sN sN ⟨la, l2, [], []⟩ w5) := Lib.hid (HP.out.drew.doB hd)
          clear hd
          go_wp2_with fail
          refine hK.out _ _ ⟨HP5.out.below, cell_of HP5.out.blk rfl⟩ (fun hNext => ?_)
          clear hNext hHeld hK K
          refine wpAnyH_done (by kernel_rfl) ?_ _
          clear HP CD HRW
          go_wp2
          go_roundg (m - (k + 1))
          case measure => omega
          case rel => exact ⟨k + 1, l2, by first | rfl | go_num, Nat.le_refl _, by omega, HP5, HN⟩
        · have t1 : decide ((k : Int) < (m : Int)) = false := decide_eq_false (by omega)
          have t2 : ¬ (k : Int) < (m : Int) := by omega
          clear hgm hkn hlt
          obtain ⟨lb, hlb⟩ : ∃ lb, lb = l := ⟨_, rfl⟩
          rw [← hlb] at HP HL
          have HLB := Lib.hid HL.out
          clear hlb HL l HO
          obtain ⟨sa, ia, na, ta⟩ := la
          obtain ⟨sb, ib, nb, tb'⟩ := lb
          have vw0 : IntKind.i64.wrap 1 = 1 := by decide
          have vw1 : IntKind.i64.wrap 2 = 2 := by decide
          go_wp2_with fail
          clear t1 t2
          obtain ⟨w0', hw0'⟩ : ∃ w0', w0' = wr := ⟨_, rfl⟩
          rw [← hw0']
          rw [← hw0'] at HP
          clear hw0' wr
          go_loopg [14] 2 (fun gm s wr => ∃ j : Nat, s = nm j ∧ 2 - j ≤ gm ∧ j ≤ 2 ∧ Hid (wr = w0') ∧ Hid ((1 ≤ j → sa = 1 ∨ sa = 5) ∧ (2 ≤ j → sb = 1 ∨ sb = 5)))
          case atStart => exact ⟨0, rfl, by omega, by omega, rfl, fun h => by omega, fun h => by omega⟩
          case round =>
            obtain ⟨j, rfl, hgm, hj2, HW, HJ⟩ := hrel
            obtain rfl := HW.out.symm
            clear HW
            obtain ⟨y0, y1, -, -⟩ := HP.out.cells
            rcases (show j = 0 ∨ j = 1 ∨ j = 2 by omega) with rfl | rfl | rfl
            · have CS := Lib.hid (fstate _ pa _ HP.out.la HLA.out.s0)
              go_wp2_with fail
              refine CS.out.mono ?_
              rintro _ v ⟨rfl, rfl⟩
              clear CS
              by_cases hs1 : sa = 1
              · subst hs1
                have hsx : (1 : Int) = 1 ∨ (1 : Int) = 5 := Or.inl rfl
                go_wp2
                go_roundg (1)
                case measure => omega
                case rel => exact ⟨1, by first | rfl | go_num, by omega, by omega, rfl, fun _ => hsx, fun h => by omega⟩
              · have q1 : (sa != 1) = true := bne_true hs1
                by_cases hs5 : sa = 5
                · subst hs5
                  have hsx : (5 : Int) = 1 ∨ (5 : Int) = 5 := Or.inr rfl
                  go_wp2
                  go_roundg (1)
                  case measure => omega
                  case rel => exact ⟨1, by first | rfl | go_num, by omega, by omega, rfl, fun _ => hsx, fun h => by omega⟩
                · have q5 : (sa != 5) = true := bne_true hs5
                  go_wp2_with fail
                  refine (fworks _).mono ?_
                  rintro _ w9 ⟨rfl, hb⟩
                  have HE := Lib.hid (HP.out.on hb)
                  clear hb
                  go_wp2
                  go_ret
                  exact ⟨rfl, HPW.out ▸ HE.out.below⟩
            · have CS := Lib.hid (fstate _ pb _ HP.out.lb HLB.out.s0)
              go_wp2_with fail
              refine CS.out.mono ?_
              rintro _ v ⟨rfl, rfl⟩
              clear CS
              by_cases hs1 : sb = 1
              · subst hs1
                have hsx : (1 : Int) = 1 ∨ (1 : Int) = 5 := Or.inl rfl
                go_wp2
                go_roundg (0)
                case measure => omega
                case rel => exact ⟨2, by first | rfl | go_num, by omega, by omega, rfl, fun _ => HJ.out.1 (by decide), fun _ => hsx⟩
              · have q1 : (sb != 1) = true := bne_true hs1
                by_cases hs5 : sb = 5
                · subst hs5
                  have hsx : (5 : Int) = 1 ∨ (5 : Int) = 5 := Or.inr rfl
                  go_wp2
                  go_roundg (0)
                  case measure => omega
                  case rel => exact ⟨2, by first | rfl | go_num, by omega, by omega, rfl, fun _ => HJ.out.1 (by decide), fun _ => hsx⟩
                · have q5 : (sb != 5) = true := bne_true hs5
                  go_wp2_with fail
                  refine (fworks _).mono ?_
                  rintro _ w9 ⟨rfl, hb⟩
                  have HE := Lib.hid (HP.out.on hb)
                  clear hb
                  go_wp2
                  go_ret
                  exact ⟨rfl, HPW.out ▸ HE.out.below⟩
            · have hsa := HJ.out.1 (by decide)
              have hsb := HJ.out.2 (by decide)
              have t3 : decide (((2 : Nat) : Int) < 2) = false := by decide
              clear HJ hgm hj2
              go_wp2_with fail
              refine (flisten _ pb ⟨sb, ib, nb, tb'⟩ true HP.out.lb).mono ?_
              rintro _ v1 ⟨rfl, hd⟩
              have H1 : Hid (TwAt w pa pb tb sN sN ⟨⟨sa, ia, na, ta⟩, ⟨sb, true, nb, tb'⟩, [], []⟩ v1) := Lib.hid (HP.out.doB hd)
              have OB : Hid (⟨sb, true, nb, tb'⟩ : Lk).Ok := Lib.hid ⟨HLB.out.s0, HLB.out.s1, HLB.out.n1, HLB.out.t0, HLB.out.t1⟩
              clear hd HP y0 y1
              obtain ⟨y0, y1, -, -⟩ := H1.out.cells
              have eo : on ⟨sa, ia, na, ta⟩ .opens = (⟨2, ia, na, 0⟩, c1) := by rcases hsa with rfl | rfl <;> rfl
              have EO := Lib.hid eo
              clear eo
              have OA : Hid (⟨2, ia, na, 0⟩ : Lk).Ok := by
                have h := on_ok HLA.out .opens
                rw [EO.out] at h
                exact h
              go_wp2_with fail
              refine (fOpen _ pa _ HLA.out H1.out.la (⟨2, ia, na, 0⟩, c1) EO.out).mono ?_
              rintro _ v2 ⟨rfl, hd⟩
              have H2 := Lib.hid (H1.out.doA hd)
              clear hd H1 y0 y1 EO
              go_wp2_with fail
              refine (fsaid0 w _ pa pb tb _ _ _ c1 (by decide) (by simp) H2.out).mono ?_
              rintro _ v3 ⟨rfl, u1, hu, -⟩
              have H3 : Hid (TwAt w pa pb tb sN u1 ⟨⟨2, ia, na, 0⟩, ⟨sb, true, nb, tb'⟩, [], [c1]⟩ v3) := Lib.hid hu
              clear hu H2
              obtain ⟨y0, y1, -, -⟩ := H3.out.cells
              cases both with
              | true =>
                have eo : on ⟨sb, true, nb, tb'⟩ .opens = (⟨2, true, nb, 0⟩, c1) := by rcases hsb with rfl | rfl <;> rfl
                have EO := Lib.hid eo
                clear eo
                have OB2 : Hid (⟨2, true, nb, 0⟩ : Lk).Ok := by
                  have h := on_ok OB.out .opens
                  rw [EO.out] at h
                  exact h
                go_wp2_with fail
                refine (fOpen _ pb _ OB.out H3.out.lb (⟨2, true, nb, 0⟩, c1) EO.out).mono ?_
                rintro _ v4 ⟨rfl, hd⟩
                have H4 := Lib.hid (H3.out.doB hd)
                clear hd H3 y0 y1 EO
                go_wp2_with fail
                refine (fsaid1 w _ pa pb tb _ _ _ c1 (by decide) (by simp) H4.out).mono ?_
                rintro _ v5 ⟨rfl, u0, hu, -⟩
                have H5 : Hid (TwAt w pa pb tb u0 u1 ⟨⟨2, ia, na, 0⟩, ⟨2, true, nb, 0⟩, [c1], [c1]⟩ v5) := Lib.hid hu
                clear hu H4
                go_wp2_with fail
                refine (frun w _ pa pb tb _ _ _ first H5.out OA.out OB2.out (by simp)).mono ?_
                rintro _ v6 ⟨rfl, a0, a1, hu⟩
                rw [meets_both] at hu
                have H6 := Lib.hid hu
                clear hu H5
                have OA3 : Hid (⟨3, ia, na, 0⟩ : Lk).Ok := Lib.hid ⟨by dsimp only; decide, by dsimp only; decide, HLA.out.n1, by dsimp only; decide, OA.out.t1⟩
                have OB3 : Hid (⟨3, true, nb, 0⟩ : Lk).Ok := Lib.hid ⟨by dsimp only; decide, by dsimp only; decide, HLB.out.n1, by dsimp only; decide, OB2.out.t1⟩
                obtain ⟨y0, y1, -, -⟩ := H6.out.cells
                go_wp2_with fail
                refine (fstate _ pa _ H6.out.la (by dsimp only; decide)).mono ?_
                rintro _ v ⟨rfl, rfl⟩
                go_wp2_with fail
                refine (fstate _ pb _ H6.out.lb (by dsimp only; decide)).mono ?_
                rintro _ v ⟨rfl, rfl⟩
                go_wp2_with fail
                refine (fClose _ pa _ OA3.out H6.out.la (⟨4, ia, na, 0⟩, c4) rfl).mono ?_
                rintro _ v7 ⟨rfl, hd⟩
                have H7 := Lib.hid (H6.out.doA hd)
                clear hd H6 y0 y1
                have OA4 : Hid (⟨4, ia, na, 0⟩ : Lk).Ok := Lib.hid ⟨by dsimp only; decide, by dsimp only; decide, HLA.out.n1, by dsimp only; decide, OA.out.t1⟩
                go_wp2_with fail
                refine (fsaid0 w _ pa pb tb _ _ _ c4 (by decide) (by simp) H7.out).mono ?_
                rintro _ v8 ⟨rfl, b1, hu, -⟩
                have H8 : Hid (TwAt w pa pb tb a0 b1 ⟨⟨4, ia, na, 0⟩, ⟨3, true, nb, 0⟩, [], [c4]⟩ v8) := Lib.hid hu
                clear hu H7
                obtain ⟨y0, y1, -, -⟩ := H8.out.cells
                go_wp2_with fail
                refine (fClose _ pb _ OB3.out H8.out.lb (⟨4, true, nb, 0⟩, c4) rfl).mono ?_
                rintro _ v9 ⟨rfl, hd⟩
                have H9 := Lib.hid (H8.out.doB hd)
                clear hd H8 y0 y1
                have OB4 : Hid (⟨4, true, nb, 0⟩ : Lk).Ok := Lib.hid ⟨by dsimp only; decide, by dsimp only; decide, HLB.out.n1, by dsimp only; decide, OB2.out.t1⟩
                go_wp2_with fail
                refine (fsaid1 w _ pa pb tb _ _ _ c4 (by decide) (by simp) H9.out).mono ?_
                rintro _ v10 ⟨rfl, b0, hu, -⟩
                have H10 : Hid (TwAt w pa pb tb b0 b1 ⟨⟨4, ia, na, 0⟩, ⟨4, true, nb, 0⟩, [c4], [c4]⟩ v10) := Lib.hid hu
                clear hu H9
                go_wp2_with fail
                refine (frun w _ pa pb tb _ _ _ (!first) H10.out OA4.out OB4.out (by simp)).mono ?_
                rintro _ v11 ⟨rfl, d0, d1, hu⟩
                rw [parts_both] at hu
                have H11 := Lib.hid hu
                clear hu H10
                obtain ⟨y0, y1, -, -⟩ := H11.out.cells
                go_wp2_with fail
                refine (fstate _ pa _ H11.out.la (by dsimp only; decide)).mono ?_
                rintro _ v ⟨rfl, rfl⟩
                go_wp2_with fail
                refine (fstate _ pb _ H11.out.lb (by dsimp only; decide)).mono ?_
                rintro _ v ⟨rfl, rfl⟩
                go_wp2_with fail
                refine (fworks _).mono ?_
                rintro _ v12 ⟨rfl, hb⟩
                have HE := Lib.hid (H11.out.on hb)
                clear hb
                go_wp2
                go_ret
                exact ⟨rfl, HPW.out ▸ HE.out.below⟩
              | false =>
                go_wp2_with fail
                refine (frun w _ pa pb tb _ _ _ first H3.out OA.out OB.out (by simp)).mono ?_
                rintro _ v6 ⟨rfl, a0, a1, hu⟩
                rw [meets_one first ia na sb nb tb' hsb] at hu
                have H6 := Lib.hid hu
                clear hu H3 y0 y1
                have OA3 : Hid (⟨3, ia, na, 0⟩ : Lk).Ok := Lib.hid ⟨by dsimp only; decide, by dsimp only; decide, HLA.out.n1, by dsimp only; decide, OA.out.t1⟩
                have OB3 : Hid (⟨3, true, nb, tb'⟩ : Lk).Ok := Lib.hid ⟨by dsimp only; decide, by dsimp only; decide, HLB.out.n1, HLB.out.t0, HLB.out.t1⟩
                obtain ⟨y0, y1, -, -⟩ := H6.out.cells
                go_wp2_with fail
                refine (fstate _ pa _ H6.out.la (by dsimp only; decide)).mono ?_
                rintro _ v ⟨rfl, rfl⟩
                go_wp2_with fail
                refine (fstate _ pb _ H6.out.lb (by dsimp only; decide)).mono ?_
                rintro _ v ⟨rfl, rfl⟩
                go_wp2_with fail
                refine (fClose _ pa _ OA3.out H6.out.la (⟨4, ia, na, 0⟩, c4) rfl).mono ?_
                rintro _ v7 ⟨rfl, hd⟩
                have H7 := Lib.hid (H6.out.doA hd)
                clear hd H6 y0 y1
                have OA4 : Hid (⟨4, ia, na, 0⟩ : Lk).Ok := Lib.hid ⟨by dsimp only; decide, by dsimp only; decide, HLA.out.n1, by dsimp only; decide, OA.out.t1⟩
                go_wp2_with fail
                refine (fsaid0 w _ pa pb tb _ _ _ c4 (by decide) (by simp) H7.out).mono ?_
                rintro _ v8 ⟨rfl, b1, hu, -⟩
                have H8 : Hid (TwAt w pa pb tb a0 b1 ⟨⟨4, ia, na, 0⟩, ⟨3, true, nb, tb'⟩, [], [c4]⟩ v8) := Lib.hid hu
                clear hu H7
                obtain ⟨y0, y1, -, -⟩ := H8.out.cells
                go_wp2_with fail
                refine (frun w _ pa pb tb _ _ _ (!first) H8.out OA4.out OB3.out (by simp)).mono ?_
                rintro _ v11 ⟨rfl, d0, d1, hu⟩
                rw [parts_one] at hu
                have H11 := Lib.hid hu
                clear hu H8 y0 y1
                obtain ⟨y0, y1, -, -⟩ := H11.out.cells
                go_wp2_with fail
                refine (fstate _ pa _ H11.out.la (by dsimp only; decide)).mono ?_
                rintro _ v ⟨rfl, rfl⟩
                go_wp2_with fail
                refine (fstate _ pb _ H11.out.lb (by dsimp only; decide)).mono ?_
                rintro _ v ⟨rfl, rfl⟩
                go_wp2_with fail
                refine (fworks _).mono ?_
                rintro _ v12 ⟨rfl, hb⟩
                have HE := Lib.hid (H11.out.on hb)
                clear hb
                go_wp2
                go_ret
                exact ⟨rfl, HPW.out ▸ HE.out.below⟩
end Go.Proofs.Ytfflbaiddiahnaa.linkMeets

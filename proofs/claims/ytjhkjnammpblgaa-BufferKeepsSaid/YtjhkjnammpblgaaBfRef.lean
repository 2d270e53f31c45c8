/-
  What the document's own buffer answers. Condition: it lies where it says.
-/
import Derived.Test.YtjhkjnammpblgaaBfGet
namespace Go.Proofs.Ytjhkjnammpblgaa.Bf
open Go.RowKit Go.Proofs.Ytjhkjnammpblgaa.Base Go.Proofs.Ytjhkjnammpblgaa.Mem Go.Proofs.Ytjhkjnammpblgaa.Cr
abbrev RT : TypeId := 44
abbrev rcs (r q : Nat) (t : ByteArray) : Array Value := #[nm r, nm q, .string t]
theorem rnew (r m : Nat) (h0 : 0 < r) (h1 : r ≤ 4096) (h2 : m ≤ r) (w : World) : Calls Try.prog 10 #[nm r, nm m] w fun e w' => e = .returned (ptr w.heap.size) ∧ At w' w.heap.size (rcs r m ⟨#[]⟩) RT ∧ Below w.heap.size w w' := by
  have t0 : decide ((r : Int) < 1) = false := decide_eq_false (by omega)
  have t1 : ¬ (r : Int) < 1 := by omega
  have t2 : decide ((4096 : Int) < (r : Int)) = false := decide_eq_false (by omega)
  have t3 : ¬ (4096 : Int) < (r : Int) := by omega
  have t4 : decide ((m : Int) < 0) = false := decide_eq_false (by omega)
  have t5 : ¬ (m : Int) < 0 := by omega
  have t6 : decide ((r : Int) < (m : Int)) = false := decide_eq_false (by omega)
  have t7 : ¬ (r : Int) < (m : Int) := by omega
  clear h0 h1 h2
  go_enter Try.func10, Try.ntmps10
  go_wp2
  go_ret
  exact ⟨rfl, nest w [_] 0 _ rfl, nest_below w [_]⟩
theorem rnew_none (a b : Int) (h : bad a b) (w : World) : Calls Try.prog 10 #[im a, im b] w fun e w' => e = .returned (.pointer none) ∧ w = w' := by
  by_cases h1 : a < 1
  · have t0 : decide (a < 1) = true := decide_eq_true h1
    clear h
    go_enter Try.func10, Try.ntmps10
    go_wp2
    go_ret
    exact ⟨rfl, rfl⟩
  have t1 : decide (a < 1) = false := decide_eq_false h1
  by_cases h2 : 4096 < a
  · have t0 : decide (4096 < a) = true := decide_eq_true h2
    clear h
    go_enter Try.func10, Try.ntmps10
    go_wp2
    go_ret
    exact ⟨rfl, rfl⟩
  have t2 : decide (4096 < a) = false := decide_eq_false h2
  by_cases h3 : b < 0
  · have t0 : decide (b < 0) = true := decide_eq_true h3
    clear h
    go_enter Try.func10, Try.ntmps10
    go_wp2
    go_ret
    exact ⟨rfl, rfl⟩
  have t3 : decide (b < 0) = false := decide_eq_false h3
  have h4 : a < b := by unfold bad at h; omega
  have t4 : decide (a < b) = true := decide_eq_true h4
  clear h
  go_enter Try.func10, Try.ntmps10
  go_wp2
  go_ret
  exact ⟨rfl, rfl⟩
section
variable (w : World) (b r q : Nat) (t : ByteArray)
theorem rget (n : Int) (h : At w b (rcs r q t) RT) : Calls Try.prog 12 #[ptr b, im n] w fun e w' => e = .returned (.string (fst_ t (cut n t.size))) ∧ Do b (rcs r q (rst_ t (cut n t.size))) RT w w' := by
  have H := Lib.hid (Do.refl h)
  have c2 := h.cell 2 (.string t) rfl
  have hf := h.free
  have hlt := h.lt
  have e := cut_int n t.size
  have b1 := cut_le n t.size
  generalize cut n t.size = k at e b1 ⊢
  obtain ⟨u, hu⟩ : ∃ u, fst_ t k = u := ⟨_, rfl⟩
  obtain ⟨v, hv⟩ : ∃ v, rst_ t k = v := ⟨_, rfl⟩
  rw [hu, hv]
  clear h
  go_enter Try.func12, Try.ntmps12
  go_wp2
  go_ret
  exact ⟨rfl, H.out.set 2 (.string v)⟩
theorem rhigh (h : At w b (rcs r q t) RT) (h0 : t.size ≤ r) (h1 : r ≤ 4096) : Calls Try.prog 22 #[ptr b] w fun e w' => e = .returned (.bool (highB r q t.size)) ∧ ∃ k, w' = w.drewN k := by
  have c0 := h.cell 0 (nm r) rfl
  have c1 := h.cell 1 (nm q) rfl
  have c2 := h.cell 2 (.string t) rfl
  have hlt := h.lt
  unfold highB
  have v0 : IntKind.i64.wrap ((r : Int) - (t.size : Int)) = ((r - t.size : Nat) : Int) := by rw [IntKind.wrap_i64]; omega
  generalize r - t.size = v at v0 ⊢
  clear h h0 h1
  go_enter Try.func22, Try.ntmps22
  go_wp2_with fail
  go_quiet (fail)
  go_wp2
  go_ret
  exact ⟨rfl, nq, rfl⟩
theorem rlow (h : At w b (rcs r q t) RT) (h0 : t.size ≤ r) (h1 : r ≤ 4096) (h2 : q ≤ r) : Calls Try.prog 23 #[ptr b] w fun e w' => e = .returned (.bool (lowB r q t.size)) ∧ ∃ k, w' = w.drewN k := by
  have c0 := h.cell 0 (nm r) rfl
  have c1 := h.cell 1 (nm q) rfl
  have c2 := h.cell 2 (.string t) rfl
  have hlt := h.lt
  obtain ⟨mm, hmm⟩ : ∃ x, q + q = x := ⟨_, rfl⟩
  have v1 : IntKind.i64.wrap ((q : Int) + (q : Int)) = (mm : Int) := by rw [IntKind.wrap_i64]; omega
  unfold lowB
  rw [hmm]
  have v0 : IntKind.i64.wrap ((r : Int) - (t.size : Int)) = ((r - t.size : Nat) : Int) := by rw [IntKind.wrap_i64]; omega
  generalize r - t.size = v at v0 ⊢
  clear h h0 h1 h2 hmm
  by_cases hz : t.size = 0
  · have e := nil_of_size hz
    subst e
    rw [decide_eq_true (.inl hz)]
    clear hz
    go_enter Try.func23, Try.ntmps23
    go_wp2_with fail
    go_quiet (fail)
    go_wp2
    go_ret
    exact ⟨rfl, nq, rfl⟩
  · have e0 : t.toList.isEmpty = false := by
      rw [ByteArray.toList_eq, List.isEmpty_eq_false_iff]
      exact fun e => hz (by rw [← size_toList, e]; rfl)
    have e2 : decide (t.size = 0 ∨ mm ≤ v) = decide (mm ≤ v) := decide_eq_decide.2 ⟨fun x => x.resolve_left hz, .inr⟩
    rw [e2]
    clear e2 hz
    go_enter Try.func23, Try.ntmps23
    go_wp2_with fail
    go_quiet (fail)
    go_wp2
    go_ret
    exact ⟨rfl, nq, rfl⟩
theorem grow1 (s : ByteArray) (k : Nat) : t ++ fst_ s k ++ s.extract k (k + 1) = t ++ fst_ s (k + 1) := bext (by
  rw [app_list, app_list, app_list, fst_tl, fst_tl, ext_list, List.append_assoc, List.drop_take, Nat.add_sub_cancel_left, ← List.take_add])
set_option maxHeartbeats 4000000 in
theorem rput (s : ByteArray) (h : At w b (rcs r q t) RT) (h0 : t.size ≤ r) (h1 : r ≤ 4096) : Calls Try.prog 14 #[ptr b, .string s] w fun e w' => e = .returned (nm (room r t s)) ∧ Do b (rcs r q (t ++ fst_ s (room r t s))) RT w w' := by
  have H : Hid (Do b (rcs r q (t ++ fst_ s 0)) RT w w) := Lib.hid (by
    have e : t ++ fst_ s 0 = t := bext (by rw [app_list, fst_tl]; simp)
    rw [e]
    exact Do.refl h)
  have hm : room r t s = min s.size (r - t.size) := rfl
  generalize room r t s = m at hm ⊢
  have HM := Lib.hid (And.intro hm (And.intro h0 h1))
  have hlt := h.lt
  clear h hm h0 h1
  go_enter Try.func14, Try.ntmps14
  go_wp2_with fail
  go_loopg [5] m (fun gm s0 wr => ∃ (k : Nat), s0 = nm k ∧ m - k ≤ gm ∧ k ≤ m ∧ Hid (Do b (rcs r q (t ++ fst_ s k)) RT w wr))
  case atStart => exact ⟨0, rfl, by omega, by omega, H⟩
  case round =>
    obtain ⟨k, rfl, hgm, hkn, HD⟩ := hrel
    have hls : k ≤ s.size := by have := HM.out; omega
    have hxs : (t ++ fst_ s k).size = t.size + k := by rw [app_size, fst_size s hls]
    have hy := grow1 t s k
    generalize hxx : t ++ fst_ s k = x at HD hxs hy
    have c0 := HD.out.at_.cell 0 (nm r) rfl
    have c2 := HD.out.at_.cell 2 (.string x) rfl
    have hlt := HD.out.at_.lt
    by_cases hlt2 : k < m
    · clear hxx
      have t1 : decide ((k : Int) < (s.size : Int)) = true := decide_eq_true (by have := HM.out; omega)
      have t2 : decide ((x.size : Int) < (r : Int)) = true := decide_eq_true (by have := HM.out; omega)
      have t4 : (k : Int) < (s.size : Int) := by have := HM.out; omega
      have t5 : (x.size : Int) < (r : Int) := by have := HM.out; omega
      have t6 : k < s.size := by omega
      have t7 : x.size < r := by omega
      have hes : (s.extract k (k + 1)).size = 1 := by rw [ByteArray.size_extract]; omega
      obtain ⟨k2, hk2⟩ : ∃ y, k + 1 = y := ⟨_, rfl⟩
      have v0 : IntKind.i64.wrap ((k : Int) + 1) = (k2 : Int) := by rw [IntKind.wrap_i64]; have := HM.out; omega
      rw [hk2] at hes hy
      have b1 : (0 : Int) ≤ (k : Int) := by omega
      have b2 : (k : Int) ≤ (k2 : Int) := by omega
      have b3 : (k2 : Int) ≤ (s.size : Int) := by omega
      have b5 : k ≤ k2 := by omega
      have b6 : k2 ≤ s.size := by omega
      generalize hyy : t ++ fst_ s k2 = y at hy
      generalize heq : s.extract k k2 = e at hes hy
      have b4 : ¬ 9223372036854775807 < x.size + e.size := by have := HM.out; omega
      have HK := Lib.hid (And.intro hgm (And.intro hlt2 (And.intro hk2 (And.intro hxs hyy))))
      clear hxs hyy hes hls hgm hkn hlt2 hk2
      go_wp2_with fail
      go_quiet (fail)
      generalize hv : World.drewN wr nq = w2
      have D2 : Hid (Do b (rcs r q x) RT w w2) := Lib.hid (by rw [← hv]; exact ⟨HD.out.at_, HD.out.chg.drewN _⟩)
      clear hv c0 c2 HD
      go_wp2_with fail
      have c1 : w2.drew.cell? ⟨b, 2, none⟩ = some (.string x) := D2.out.at_.cell 2 (.string x) rfl
      have hf : ∀ i, w2.drew.frozen? ⟨b, i, none⟩ = false := D2.out.at_.free
      have HD : Hid (Do b (rcs r q y) RT w (w2.setCell ⟨b, 2, none⟩ (.string y)).drew) := Lib.hid (let h := D2.out.set 2 (.string y); ⟨h.at_, h.chg.drew⟩)
      have HS : ∃ x, At w2.drew b #[nm r, nm q, x] RT := ⟨_, D2.out.at_⟩
      refine wp_region_held_drew (S := (fun w' => ∃ x, At w' b #[nm r, nm q, x] RT)) (by kernel_rfl) HS (fun hHeld => ?_)
      refine' wpAnyH_take (i := 0) (oi := { dst := some 22, op := Go.Op.move (Go.Operand.tmp 0), type := 27, pos := "ref.go:23", after := #[], guard := none }) (v := _) rfl (by kernel_rfl) (by kernel_rfl) (by kernel_rfl) (fun _ _ _ h => h) (Or.inl ⟨by rfl, ?hy1⟩) (by assumption) ?hr1
      case hy1 => (intro _ hSw; (try dsimp only at hSw); go_simp <;> with_reducible rfl)
      simp only [Act.put, List.setIfInBounds_toArray, List.set_cons_zero, List.set_cons_succ]
      refine' wpAnyH_take (i := 1) (oi := { dst := some 23, op := Go.Op.move (Go.Operand.tmp 0), type := 27, pos := "ref.go:23", after := #[], guard := none }) (v := _) rfl (by kernel_rfl) (by kernel_rfl) (by kernel_rfl) (fun _ _ _ h => h) (Or.inl ⟨by rfl, ?hy2⟩) (by assumption) ?hr2
      case hy2 => (intro _ hSw; (try dsimp only at hSw); go_simp <;> with_reducible rfl)
      simp only [Act.put, List.setIfInBounds_toArray, List.set_cons_zero, List.set_cons_succ]
      refine' wpAnyH_take (i := 2) (oi := { dst := some 24, op := Go.Op.nilCheck (Go.Operand.tmp 23), type := 0, pos := "ref.go:23", after := #[{ on := 1, ground := Go.Ground.data }], guard := none }) (v := _) rfl (by kernel_rfl) (by kernel_rfl) (by kernel_rfl) (fun _ _ _ h => h) (Or.inl ⟨by rfl, ?hy3⟩) (by assumption) ?hr3
      case hy3 => (intro _ hSw; (try dsimp only at hSw); go_simp <;> with_reducible rfl)
      simp only [Act.put, List.setIfInBounds_toArray, List.set_cons_zero, List.set_cons_succ]
      refine' wpAnyH_take (i := 3) (oi := { dst := some 25, op := Go.Op.fieldAddr 44 (Go.Operand.tmp 24) 2, type := 0, pos := "ref.go:23", after := #[{ on := 2, ground := Go.Ground.data }], guard := none }) (v := _) rfl (by kernel_rfl) (by kernel_rfl) (by kernel_rfl) (fun _ _ _ h => h) (Or.inl ⟨by rfl, ?hy4⟩) (by assumption) ?hr4
      case hy4 => (intro _ hSw; (try dsimp only at hSw); go_simp <;> with_reducible rfl)
      simp only [Act.put, List.setIfInBounds_toArray, List.set_cons_zero, List.set_cons_succ]
      refine' wpAnyH_take (i := 5) (oi := { dst := some 27, op := Go.Op.move (Go.Operand.tmp 1), type := 9, pos := "ref.go:23", after := #[], guard := none }) (v := _) rfl (by kernel_rfl) (by kernel_rfl) (by kernel_rfl) (fun _ _ _ h => h) (Or.inl ⟨by rfl, ?hy5⟩) (by assumption) ?hr5
      case hy5 => (intro _ hSw; (try dsimp only at hSw); go_simp <;> with_reducible rfl)
      simp only [Act.put, List.setIfInBounds_toArray, List.set_cons_zero, List.set_cons_succ]
      refine' wpAnyH_take (i := 6) (oi := { dst := some 28, op := Go.Op.move (Go.Operand.tmp 5), type := 3, pos := "ref.go:23", after := #[], guard := none }) (v := _) rfl (by kernel_rfl) (by kernel_rfl) (by kernel_rfl) (fun _ _ _ h => h) (Or.inl ⟨by rfl, ?hy6⟩) (by assumption) ?hr6
      case hy6 => (intro _ hSw; (try dsimp only at hSw); go_simp <;> with_reducible rfl)
      simp only [Act.put, List.setIfInBounds_toArray, List.set_cons_zero, List.set_cons_succ]
      refine' wpAnyH_take (i := 7) (oi := { dst := some 29, op := Go.Op.move (Go.Operand.tmp 5), type := 3, pos := "ref.go:23", after := #[], guard := none }) (v := _) rfl (by kernel_rfl) (by kernel_rfl) (by kernel_rfl) (fun _ _ _ h => h) (Or.inl ⟨by rfl, ?hy7⟩) (by assumption) ?hr7
      case hy7 => (intro _ hSw; (try dsimp only at hSw); go_simp <;> with_reducible rfl)
      simp only [Act.put, List.setIfInBounds_toArray, List.set_cons_zero, List.set_cons_succ]
      refine' wpAnyH_take (i := 8) (oi := { dst := some 30, op := Go.Op.binOp Go.BinOp.add 3 (Go.Operand.tmp 29) (Go.Operand.const (Go.Value.int Go.IntKind.i64 1)) 3, type := 3, pos := "ref.go:23", after := #[{ on := 7, ground := Go.Ground.data }], guard := none }) (v := _) rfl (by kernel_rfl) (by kernel_rfl) (by kernel_rfl) (fun _ _ _ h => h) (Or.inl ⟨by rfl, ?hy8⟩) (by assumption) ?hr8
      case hy8 => (intro _ hSw; (try dsimp only at hSw); go_simp <;> with_reducible rfl)
      simp only [Act.put, List.setIfInBounds_toArray, List.set_cons_zero, List.set_cons_succ]
      refine' wpAnyH_take (i := 9) (oi := { dst := some 31, op := Go.Op.slice 9 (Go.Operand.tmp 27) (some (Go.Operand.tmp 28)) (some (Go.Operand.tmp 30)) none, type := 9, pos := "ref.go:23", after := #[{ on := 5, ground := Go.Ground.data }, { on := 6, ground := Go.Ground.data }, { on := 8, ground := Go.Ground.data }], guard := none }) (v := _) rfl (by kernel_rfl) (by kernel_rfl) (by kernel_rfl) (fun _ _ _ h => h) (Or.inl ⟨by rfl, ?hy9⟩) (by assumption) ?hr9
      case hy9 => (intro _ hSw; (try dsimp only at hSw); go_simp <;> with_reducible rfl)
      simp only [Act.put, List.setIfInBounds_toArray, List.set_cons_zero, List.set_cons_succ]
      refine wpAnyH_ready (rs := [4]) (by kernel_rfl) (by simp) ?_
      refine AllReadyH.cons (o := { dst := some 26, op := Go.Op.load 9 (Go.Operand.tmp 25), type := 9, pos := "ref.go:23", after := #[{ on := 3, ground := Go.Ground.data }], guard := none }) rfl (fun K hK => ?_) AllReadyH.nil
      go_simp
      refine hK.out _ _ HS (fun hNext => ?_)
      clear hK K hHeld
      have hHeld := hNext
      clear hNext
      (try simp only [Act.put, List.setIfInBounds_toArray, List.set_cons_zero, List.set_cons_succ])
      refine' wpAnyH_take (i := 10) (oi := { dst := some 32, op := Go.Op.binOp Go.BinOp.add 9 (Go.Operand.tmp 26) (Go.Operand.tmp 31) 9, type := 9, pos := "ref.go:23", after := #[{ on := 4, ground := Go.Ground.data }, { on := 9, ground := Go.Ground.data }], guard := none }) (v := _) rfl (by kernel_rfl) (by kernel_rfl) (by kernel_rfl) (fun _ _ _ h => h) (Or.inl ⟨by rfl, ?hy10⟩) (by assumption) ?hr10
      case hy10 => (intro _ hSw; (try dsimp only at hSw); go_simp <;> with_reducible rfl)
      simp only [Act.put, List.setIfInBounds_toArray, List.set_cons_zero, List.set_cons_succ]
      refine' wpAnyH_take (i := 11) (oi := { dst := some 33, op := Go.Op.nilCheck (Go.Operand.tmp 22), type := 0, pos := "ref.go:23", after := #[{ on := 0, ground := Go.Ground.data }, { on := 0, ground := Go.Ground.phase }, { on := 1, ground := Go.Ground.phase }, { on := 2, ground := Go.Ground.phase }, { on := 3, ground := Go.Ground.phase }, { on := 4, ground := Go.Ground.phase }, { on := 5, ground := Go.Ground.phase }, { on := 6, ground := Go.Ground.phase }, { on := 7, ground := Go.Ground.phase }, { on := 8, ground := Go.Ground.phase }, { on := 9, ground := Go.Ground.phase }, { on := 10, ground := Go.Ground.phase }], guard := none }) (v := _) rfl (by kernel_rfl) (by kernel_rfl) (by kernel_rfl) (fun _ _ _ h => h) (Or.inl ⟨by rfl, ?hy11⟩) (by assumption) ?hr11
      case hy11 => (intro _ hSw; (try dsimp only at hSw); go_simp <;> with_reducible rfl)
      simp only [Act.put, List.setIfInBounds_toArray, List.set_cons_zero, List.set_cons_succ]
      refine' wpAnyH_take (i := 12) (oi := { dst := some 34, op := Go.Op.fieldAddr 44 (Go.Operand.tmp 33) 2, type := 0, pos := "ref.go:23", after := #[{ on := 11, ground := Go.Ground.data }, { on := 0, ground := Go.Ground.phase }, { on := 1, ground := Go.Ground.phase }, { on := 2, ground := Go.Ground.phase }, { on := 3, ground := Go.Ground.phase }, { on := 4, ground := Go.Ground.phase }, { on := 5, ground := Go.Ground.phase }, { on := 6, ground := Go.Ground.phase }, { on := 7, ground := Go.Ground.phase }, { on := 8, ground := Go.Ground.phase }, { on := 9, ground := Go.Ground.phase }, { on := 10, ground := Go.Ground.phase }], guard := none }) (v := _) rfl (by kernel_rfl) (by kernel_rfl) (by kernel_rfl) (fun _ _ _ h => h) (Or.inl ⟨by rfl, ?hy12⟩) (by assumption) ?hr12
      case hy12 => (intro _ hSw; (try dsimp only at hSw); go_simp <;> with_reducible rfl)
      simp only [Act.put, List.setIfInBounds_toArray, List.set_cons_zero, List.set_cons_succ]
      refine wpAnyH_ready (rs := [13]) (by kernel_rfl) (by simp) ?_
      refine AllReadyH.cons (o := { dst := none, op := Go.Op.store 9 (Go.Operand.tmp 34) (Go.Operand.tmp 32), type := 0, pos := "ref.go:23", after := #[{ on := 12, ground := Go.Ground.data }, { on := 10, ground := Go.Ground.data }, { on := 0, ground := Go.Ground.phase }, { on := 1, ground := Go.Ground.phase }, { on := 2, ground := Go.Ground.phase }, { on := 3, ground := Go.Ground.phase }, { on := 4, ground := Go.Ground.phase }, { on := 5, ground := Go.Ground.phase }, { on := 6, ground := Go.Ground.phase }, { on := 7, ground := Go.Ground.phase }, { on := 8, ground := Go.Ground.phase }, { on := 9, ground := Go.Ground.phase }, { on := 10, ground := Go.Ground.phase }], guard := none }) rfl (fun K hK => ?_) AllReadyH.nil
      go_simp
      refine hK.out _ _ ⟨_, HD.out.at_⟩ (fun hNext => ?_)
      clear hK K hHeld
      have hHeld := hNext
      clear hNext
      (try simp only [Act.put, List.setIfInBounds_toArray, List.set_cons_zero, List.set_cons_succ])
      refine wpAnyH_done (by kernel_rfl) ?_ _
      generalize (w2.setCell ⟨b, 2, none⟩ (.string y)).drew = w3 at HD ⊢
      clear c1 hf hHeld HS D2
      go_wp2
      go_roundg (m - k2)
      case measure => have := HK.out; omega
      case rel => exact ⟨k2, by first | rfl | go_num, Nat.le_refl _, by have := HK.out; omega, by rw [HK.out.2.2.2.2]; exact HD⟩
    · have hk : k = m := by omega
      have HK := Lib.hid (And.intro hk hxx)
      by_cases hsz : k < s.size
      · have t1 : decide ((k : Int) < (s.size : Int)) = true := decide_eq_true (by omega)
        have t4 : (k : Int) < (s.size : Int) := by omega
        have t2 : decide ((x.size : Int) < (r : Int)) = false := decide_eq_false (by have := HM.out; omega)
        have t5 : ¬ (x.size : Int) < (r : Int) := by have := HM.out; omega
        have t6 : ¬ x.size < r := by omega
        clear hk hxx hxs hgm hkn hlt2 hls hy
        go_wp2_with fail
        go_quiet (fail)
        go_wp2
        go_ret
        obtain ⟨rfl, rfl⟩ := HK.out
        exact ⟨rfl, HD.out.at_, HD.out.chg.drewN _⟩
      · have t1 : decide ((k : Int) < (s.size : Int)) = false := decide_eq_false (by omega)
        have t4 : ¬ (k : Int) < (s.size : Int) := by omega
        clear hk hxx hxs hgm hkn hlt2 hls hy
        go_wp2_with fail
        go_quiet (fail)
        go_wp2
        go_ret
        obtain ⟨rfl, rfl⟩ := HK.out
        exact ⟨rfl, HD.out.at_, HD.out.chg.drewN _⟩
end
end Go.Proofs.Ytjhkjnammpblgaa.Bf

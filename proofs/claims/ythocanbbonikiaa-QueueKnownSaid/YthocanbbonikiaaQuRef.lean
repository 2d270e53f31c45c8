/-
  What the document's own queue answers. Condition: it lies where it says.
-/
import Derived.Test.YthocanbbonikiaaQuPut
namespace Go.Proofs.Ythocanbbonikiaa.Qu
open Go.RowKit Go.Proofs.Ythocanbbonikiaa.Base Go.Proofs.Ythocanbbonikiaa.Mem Go.Proofs.Ythocanbbonikiaa.Cr
abbrev RT : TypeId := 36
abbrev rcs (r : Nat) (t : ByteArray) : Array Value := #[nm r, .string t]
theorem rnew (n : Int) (w : World) : Calls Try.prog 10 #[im n] w fun e w' => e = .returned (ptr w.heap.size) ∧ At w' w.heap.size (rcs (roomN n) ⟨#[]⟩) RT ∧ Below w.heap.size w w' := by
  obtain ⟨e, _, _⟩ := roomN_eq n
  generalize roomN n = r at e ⊢
  unfold roomOf at e
  go_enter Try.func10, Try.ntmps10
  go_wp2
  go_ret
  exact ⟨rfl, nest w [_] 0 _ rfl, nest_below w [_]⟩
theorem rclear (w : World) (b r : Nat) (t : ByteArray) (h : At w b (rcs r t) RT) : Calls Try.prog 17 #[ptr b] w fun e w' => e = .returned (nm t.size) ∧ Do b (rcs r ⟨#[]⟩) RT w w' := by
  have H := Lib.hid (Do.refl h)
  have c1 := h.cell 1 (.string t) rfl
  have hf := h.free
  have hlt := h.lt
  clear h
  go_enter Try.func17, Try.ntmps17
  go_wp2
  go_ret
  exact ⟨rfl, H.out.set 1 (.string ⟨#[]⟩)⟩
theorem rpeek (w : World) (b r : Nat) (t : ByteArray) (n : Int) (h : At w b (rcs r t) RT) : Calls Try.prog 15 #[ptr b, im n] w fun e w' => e = .returned (.string (fst_ t (cut n t.size))) ∧ ∃ k, w' = w.drewN k := by
  have c1 := h.cell 1 (.string t) rfl
  have hlt := h.lt
  have e := cut_int n t.size
  have b1 := cut_le n t.size
  generalize cut n t.size = k at e b1 ⊢
  obtain ⟨u, hu⟩ : ∃ u, fst_ t k = u := ⟨_, rfl⟩
  rw [hu]
  clear h
  go_enter Try.func15, Try.ntmps15
  go_wp2_with fail
  go_quiet (fail)
  go_wp2
  go_ret
  exact ⟨rfl, nq, rfl⟩
theorem drew_do0 {w : World} {b : Nat} {cs : Array Value} {t : TypeId} (h : At w b cs t) (k : Nat) : Do b cs t w (w.drewN k) := ⟨h, (Chg.refl _ _).drewN k⟩
theorem rnext (w : World) (b r : Nat) (t : ByteArray) (n : Int) (h : At w b (rcs r t) RT) : Calls Try.prog 13 #[ptr b, im n] w fun e w' => e = .returned (.string (fst_ t (cut n t.size))) ∧ Do b (rcs r (rst_ t (cut n t.size))) RT w w' := by
  have C := Lib.hid (rpeek w b r t n h)
  have H := Lib.hid h
  have hk := cut_le n t.size
  have hz := fst_size t hk
  generalize cut n t.size = k at C hk hz ⊢
  generalize fst_ t k = s at C hz ⊢
  obtain ⟨u, hu⟩ : ∃ u, rst_ t k = u := ⟨_, rfl⟩
  rw [hu]
  have hlt := h.lt
  clear h
  go_enter Try.func13, Try.ntmps13
  go_wp2_with fail
  refine C.out.mono ?_
  rintro _ w1 ⟨rfl, nq, rfl⟩
  have c1 : (w.drewN nq).cell? ⟨b, 1, none⟩ = some (.string t) := H.out.cell 1 (.string t) rfl
  have hf : ∀ i, (w.drewN nq).frozen? ⟨b, i, none⟩ = false := H.out.free
  have HD : Hid (Do b (rcs r u) RT w ((w.drewN nq).setCell ⟨b, 1, none⟩ (.string u))) := Lib.hid ((drew_do0 H.out nq).set 1 (.string u))
  go_wp2
  go_ret
  exact ⟨rfl, HD.out⟩
set_option maxHeartbeats 4000000 in
theorem rput (w : World) (b r : Nat) (t s : ByteArray) (h : At w b (rcs r t) RT) (h0 : t.size ≤ r) (h1 : r ≤ 4096) : Calls Try.prog 19 #[ptr b, .string s] w fun e w' => e = .returned (nm (room r t s)) ∧ Do b (rcs r (t ++ fst_ s (room r t s))) RT w w' := by
  have H := Lib.hid h
  have c0 := h.cell 0 (nm r) rfl
  have c1 := h.cell 1 (.string t) rfl
  have hlt := h.lt
  have hm : room r t s = min s.size (r - t.size) := rfl
  generalize room r t s = m at hm ⊢
  obtain ⟨u, hu⟩ : ∃ u, fst_ s m = u := ⟨_, rfl⟩
  obtain ⟨d, hd⟩ : ∃ d, r - t.size = d := ⟨_, rfl⟩
  have v0 : IntKind.i64.wrap ((r : Int) - (t.size : Int)) = (d : Int) := by rw [IntKind.wrap_i64]; omega
  have v1 : min (s.size : Int) (d : Int) = (m : Int) := by omega
  have b1 : m ≤ s.size := by omega
  have b2 : u.size ≤ 4096 := by rw [← hu, fst_size s b1]; omega
  have b3 : t.size ≤ 4096 := by omega
  have b4 : ¬ 9223372036854775807 < t.size + u.size := by omega
  rw [hu]
  clear h hm h0 h1 hd
  go_enter Try.func19, Try.ntmps19
  go_wp2_with fail
  go_quiet (fail)
  generalize hv : World.drewN w nq = w2
  have H2 : Hid (At w2 b (rcs r t) RT) := Lib.hid (by rw [← hv]; exact H.out)
  have G2 : Hid (Chg (fun k => k = b) w w2) := Lib.hid (by rw [← hv]; exact (Chg.refl _ _).drewN _)
  clear hv c0 c1 H
  go_wp2_with fail
  have c1 : w2.drew.cell? ⟨b, 1, none⟩ = some (.string t) := H2.out.cell 1 (.string t) rfl
  have hf : ∀ i, w2.drew.frozen? ⟨b, i, none⟩ = false := H2.out.free
  have HD : Hid (Do b (rcs r (t ++ u)) RT w (w2.setCell ⟨b, 1, none⟩ (.string (t ++ u))).drew) := Lib.hid (let h := (⟨H2.out, G2.out⟩ : Do b (rcs r t) RT w w2).set 1 (.string (t ++ u)); ⟨h.at_, h.chg.drew⟩)
  have HS : ∃ x, At w2.drew b #[nm r, x] RT := ⟨_, H2.out⟩
  refine wp_region_held_drew (S := (fun w' => ∃ x, At w' b #[nm r, x] RT)) (by kernel_rfl) HS (fun hHeld => ?_)
  refine' wpAnyH_take (i := 0) (oi := { dst := some 19, op := Go.Op.move (Go.Operand.tmp 0), type := 27, pos := "ref.go:16", after := #[], guard := none }) (v := _) rfl (by kernel_rfl) (by kernel_rfl) (by kernel_rfl) (fun _ _ _ h => h) (Or.inl ⟨by rfl, ?hy1⟩) (by assumption) ?hr1
  case hy1 => (intro _ hSw; (try dsimp only at hSw); go_simp <;> with_reducible rfl)
  simp only [Act.put, List.setIfInBounds_toArray, List.set_cons_zero, List.set_cons_succ]
  refine' wpAnyH_take (i := 1) (oi := { dst := some 20, op := Go.Op.move (Go.Operand.tmp 0), type := 27, pos := "ref.go:16", after := #[], guard := none }) (v := _) rfl (by kernel_rfl) (by kernel_rfl) (by kernel_rfl) (fun _ _ _ h => h) (Or.inl ⟨by rfl, ?hy2⟩) (by assumption) ?hr2
  case hy2 => (intro _ hSw; (try dsimp only at hSw); go_simp <;> with_reducible rfl)
  simp only [Act.put, List.setIfInBounds_toArray, List.set_cons_zero, List.set_cons_succ]
  refine' wpAnyH_take (i := 2) (oi := { dst := some 21, op := Go.Op.nilCheck (Go.Operand.tmp 20), type := 0, pos := "ref.go:16", after := #[{ on := 1, ground := Go.Ground.data }], guard := none }) (v := _) rfl (by kernel_rfl) (by kernel_rfl) (by kernel_rfl) (fun _ _ _ h => h) (Or.inl ⟨by rfl, ?hy3⟩) (by assumption) ?hr3
  case hy3 => (intro _ hSw; (try dsimp only at hSw); go_simp <;> with_reducible rfl)
  simp only [Act.put, List.setIfInBounds_toArray, List.set_cons_zero, List.set_cons_succ]
  refine' wpAnyH_take (i := 3) (oi := { dst := some 22, op := Go.Op.fieldAddr 36 (Go.Operand.tmp 21) 1, type := 0, pos := "ref.go:16", after := #[{ on := 2, ground := Go.Ground.data }], guard := none }) (v := _) rfl (by kernel_rfl) (by kernel_rfl) (by kernel_rfl) (fun _ _ _ h => h) (Or.inl ⟨by rfl, ?hy4⟩) (by assumption) ?hr4
  case hy4 => (intro _ hSw; (try dsimp only at hSw); go_simp <;> with_reducible rfl)
  simp only [Act.put, List.setIfInBounds_toArray, List.set_cons_zero, List.set_cons_succ]
  refine' wpAnyH_take (i := 5) (oi := { dst := some 24, op := Go.Op.move (Go.Operand.tmp 1), type := 9, pos := "ref.go:16", after := #[], guard := none }) (v := _) rfl (by kernel_rfl) (by kernel_rfl) (by kernel_rfl) (fun _ _ _ h => h) (Or.inl ⟨by rfl, ?hy5⟩) (by assumption) ?hr5
  case hy5 => (intro _ hSw; (try dsimp only at hSw); go_simp <;> with_reducible rfl)
  simp only [Act.put, List.setIfInBounds_toArray, List.set_cons_zero, List.set_cons_succ]
  refine' wpAnyH_take (i := 6) (oi := { dst := some 25, op := Go.Op.move (Go.Operand.tmp 5), type := 3, pos := "ref.go:16", after := #[], guard := none }) (v := _) rfl (by kernel_rfl) (by kernel_rfl) (by kernel_rfl) (fun _ _ _ h => h) (Or.inl ⟨by rfl, ?hy6⟩) (by assumption) ?hr6
  case hy6 => (intro _ hSw; (try dsimp only at hSw); go_simp <;> with_reducible rfl)
  simp only [Act.put, List.setIfInBounds_toArray, List.set_cons_zero, List.set_cons_succ]
  refine' wpAnyH_take (i := 7) (oi := { dst := some 26, op := Go.Op.slice 9 (Go.Operand.tmp 24) none (some (Go.Operand.tmp 25)) none, type := 9, pos := "ref.go:16", after := #[{ on := 5, ground := Go.Ground.data }, { on := 6, ground := Go.Ground.data }], guard := none }) (v := _) rfl (by kernel_rfl) (by kernel_rfl) (by kernel_rfl) (fun _ _ _ h => h) (Or.inl ⟨by rfl, ?hy7⟩) (by assumption) ?hr7
  case hy7 => (intro _ hSw; (try dsimp only at hSw); go_simp <;> with_reducible rfl)
  simp only [Act.put, List.setIfInBounds_toArray, List.set_cons_zero, List.set_cons_succ]
  refine wpAnyH_ready (rs := [4]) (by kernel_rfl) (by simp) ?_
  refine AllReadyH.cons (o := { dst := some 23, op := Go.Op.load 9 (Go.Operand.tmp 22), type := 9, pos := "ref.go:16", after := #[{ on := 3, ground := Go.Ground.data }], guard := none }) rfl (fun K hK => ?_) AllReadyH.nil
  go_simp
  refine hK.out _ _ HS (fun hNext => ?_)
  clear hK K hHeld
  have hHeld := hNext
  clear hNext
  (try simp only [Act.put, List.setIfInBounds_toArray, List.set_cons_zero, List.set_cons_succ])
  refine' wpAnyH_take (i := 8) (oi := { dst := some 27, op := Go.Op.binOp Go.BinOp.add 9 (Go.Operand.tmp 23) (Go.Operand.tmp 26) 9, type := 9, pos := "ref.go:16", after := #[{ on := 4, ground := Go.Ground.data }, { on := 7, ground := Go.Ground.data }], guard := none }) (v := _) rfl (by kernel_rfl) (by kernel_rfl) (by kernel_rfl) (fun _ _ _ h => h) (Or.inl ⟨by rfl, ?hy8⟩) (by assumption) ?hr8
  case hy8 => (intro _ hSw; (try dsimp only at hSw); go_simp <;> with_reducible rfl)
  simp only [Act.put, List.setIfInBounds_toArray, List.set_cons_zero, List.set_cons_succ]
  refine' wpAnyH_take (i := 9) (oi := { dst := some 28, op := Go.Op.nilCheck (Go.Operand.tmp 19), type := 0, pos := "ref.go:16", after := #[{ on := 0, ground := Go.Ground.data }, { on := 0, ground := Go.Ground.phase }, { on := 1, ground := Go.Ground.phase }, { on := 2, ground := Go.Ground.phase }, { on := 3, ground := Go.Ground.phase }, { on := 4, ground := Go.Ground.phase }, { on := 5, ground := Go.Ground.phase }, { on := 6, ground := Go.Ground.phase }, { on := 7, ground := Go.Ground.phase }, { on := 8, ground := Go.Ground.phase }], guard := none }) (v := _) rfl (by kernel_rfl) (by kernel_rfl) (by kernel_rfl) (fun _ _ _ h => h) (Or.inl ⟨by rfl, ?hy9⟩) (by assumption) ?hr9
  case hy9 => (intro _ hSw; (try dsimp only at hSw); go_simp <;> with_reducible rfl)
  simp only [Act.put, List.setIfInBounds_toArray, List.set_cons_zero, List.set_cons_succ]
  refine' wpAnyH_take (i := 10) (oi := { dst := some 29, op := Go.Op.fieldAddr 36 (Go.Operand.tmp 28) 1, type := 0, pos := "ref.go:16", after := #[{ on := 9, ground := Go.Ground.data }, { on := 0, ground := Go.Ground.phase }, { on := 1, ground := Go.Ground.phase }, { on := 2, ground := Go.Ground.phase }, { on := 3, ground := Go.Ground.phase }, { on := 4, ground := Go.Ground.phase }, { on := 5, ground := Go.Ground.phase }, { on := 6, ground := Go.Ground.phase }, { on := 7, ground := Go.Ground.phase }, { on := 8, ground := Go.Ground.phase }], guard := none }) (v := _) rfl (by kernel_rfl) (by kernel_rfl) (by kernel_rfl) (fun _ _ _ h => h) (Or.inl ⟨by rfl, ?hy10⟩) (by assumption) ?hr10
  case hy10 => (intro _ hSw; (try dsimp only at hSw); go_simp <;> with_reducible rfl)
  simp only [Act.put, List.setIfInBounds_toArray, List.set_cons_zero, List.set_cons_succ]
  refine wpAnyH_ready (rs := [11]) (by kernel_rfl) (by simp) ?_
  refine AllReadyH.cons (o := { dst := none, op := Go.Op.store 9 (Go.Operand.tmp 29) (Go.Operand.tmp 27), type := 0, pos := "ref.go:16", after := #[{ on := 10, ground := Go.Ground.data }, { on := 8, ground := Go.Ground.data }, { on := 0, ground := Go.Ground.phase }, { on := 1, ground := Go.Ground.phase }, { on := 2, ground := Go.Ground.phase }, { on := 3, ground := Go.Ground.phase }, { on := 4, ground := Go.Ground.phase }, { on := 5, ground := Go.Ground.phase }, { on := 6, ground := Go.Ground.phase }, { on := 7, ground := Go.Ground.phase }, { on := 8, ground := Go.Ground.phase }], guard := none }) rfl (fun K hK => ?_) AllReadyH.nil
  go_simp
  refine hK.out _ _ ⟨_, HD.out.at_⟩ (fun hNext => ?_)
  clear hK K hHeld
  have hHeld := hNext
  clear hNext
  (try simp only [Act.put, List.setIfInBounds_toArray, List.set_cons_zero, List.set_cons_succ])
  refine wpAnyH_done (by kernel_rfl) ?_ _
  generalize (w2.setCell ⟨b, 1, none⟩ (.string (t ++ u))).drew = w3 at HD ⊢
  clear c1 hf hHeld
  go_wp2
  go_ret
  exact ⟨rfl, HD.out⟩
end Go.Proofs.Ythocanbbonikiaa.Qu

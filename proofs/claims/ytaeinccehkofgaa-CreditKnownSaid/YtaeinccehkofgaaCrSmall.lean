/-
  The program's purse and till in memory; what its functions answer. Condition: they lie where they say, their numbers are in bounds.
-/
import Derived.Test.YtaeinccehkofgaaCrMath
import Derived.Lib.MinMax
namespace Go.Proofs.Ytaeinccehkofgaa.Cr
open Go.RowKit Go.Proofs.Ytaeinccehkofgaa.Base Go.Proofs.Ytaeinccehkofgaa.Mem
abbrev pcs (x : Pu) : Array Value := #[im x.l, im x.r]
abbrev tcs (x : Ti) : Array Value := #[im x.h, im (x.r - x.o), im x.o]
theorem ffits (n m : Int) (w : World) : Calls Try.prog 30 #[im n, im m] w fun e w' => e = .returned (im (fit n m)) ∧ w = w' := by
  rcases fit_cases n m with ⟨h1, e1⟩ | ⟨h1, h2, e1⟩ | ⟨h1, h2, e1⟩
  · rw [e1]
    clear e1
    go_enter Try.func30, Try.ntmps30
    go_wp2
    go_ret
    exact ⟨rfl, rfl⟩
  · rw [e1]
    clear e1
    have h3 : ¬ n < 0 := by omega
    go_enter Try.func30, Try.ntmps30
    go_wp2
    go_ret
    exact ⟨rfl, rfl⟩
  · rw [e1]
    clear e1
    have h3 : ¬ n < 0 := by omega
    have h4 : ¬ m < n := by omega
    go_enter Try.func30, Try.ntmps30
    go_wp2
    go_ret
    exact ⟨rfl, rfl⟩
theorem fbound (n : Int) (w : World) : Calls Try.prog 27 #[im n] w fun e w' => e = .returned (im (roomOf n)) ∧ w = w' := by
  unfold roomOf
  go_enter Try.func27, Try.ntmps27
  go_wp2
  go_ret
  exact ⟨rfl, rfl⟩
theorem fless (w : World) (b : Nat) (c n : Int) (hc : w.cell? ⟨b, 0, none⟩ = some (im c)) (hf : w.frozen? ⟨b, 0, none⟩ = false) (h0 : c ≤ 4096) :
    Calls Try.prog 28 #[ptr b, im n] w fun e w' => e = .returned (im (fit n c)) ∧ w' = if fit n c = 0 then w.setCell ⟨b, 0, none⟩ (im (c - n)) else w := by
  have C := Lib.hid (ffits n c)
  rcases fit_cases n c with ⟨h1, e1⟩ | ⟨h1, h2, e1⟩ | ⟨h1, h2, e1⟩
  · rw [e1] at C ⊢
    clear e1
    rw [if_neg (by decide)]
    go_enter Try.func28, Try.ntmps28
    go_wp2_with (go_at_call 30; refine (C.out _).mono ?_; rintro e w6 ⟨rfl, rfl⟩)
    go_ret
    exact ⟨rfl, rfl⟩
  · rw [e1] at C ⊢
    clear e1
    rw [if_neg (by decide)]
    go_enter Try.func28, Try.ntmps28
    go_wp2_with (go_at_call 30; refine (C.out _).mono ?_; rintro e w6 ⟨rfl, rfl⟩)
    go_ret
    exact ⟨rfl, rfl⟩
  · rw [e1] at C ⊢
    clear e1
    rw [if_pos rfl]
    have v1 : IntKind.i64.wrap (c - n) = c - n := by rw [IntKind.wrap_i64]; omega
    go_enter Try.func28, Try.ntmps28
    go_wp2_with (go_at_call 30; refine (C.out _).mono ?_; rintro e w6 ⟨rfl, rfl⟩)
    go_ret
    exact ⟨rfl, rfl⟩
theorem fmore (w : World) (b : Nat) (c m n : Int) (hc : w.cell? ⟨b, 0, none⟩ = some (im c)) (hm : w.cell? ⟨b, 1, none⟩ = some (im m)) (hf : w.frozen? ⟨b, 0, none⟩ = false) (h0 : 0 ≤ c) (h1 : c ≤ m) (h2 : m ≤ 4096) :
    Calls Try.prog 29 #[ptr b, im n] w fun e w' => e = .returned (im (fit n (m - c))) ∧ ∃ k, w' = if fit n (m - c) = 0 then (w.drewN k).setCell ⟨b, 0, none⟩ (im (c + n)) else w.drewN k := by
  have hlt := World.block_lt_of_cell? w ⟨b, 0, none⟩ hc
  have v0 : IntKind.i64.wrap (m - c) = m - c := by rw [IntKind.wrap_i64]; omega
  have C := Lib.hid (ffits n (m - c))
  rcases fit_cases n (m - c) with ⟨h3, e1⟩ | ⟨h3, h4, e1⟩ | ⟨h3, h4, e1⟩
  · rw [e1] at C ⊢
    clear e1
    simp only [if_neg (show ¬ (2 : Int) = 0 by decide)]
    go_enter Try.func29, Try.ntmps29
    go_wp2_with fail
    go_quiet ((go_at_call 30; exact quiet_left (C.out _)))
    go_wp2
    go_ret
    exact ⟨rfl, nq, rfl⟩
  · rw [e1] at C ⊢
    clear e1
    simp only [if_neg (show ¬ (3 : Int) = 0 by decide)]
    go_enter Try.func29, Try.ntmps29
    go_wp2_with fail
    go_quiet ((go_at_call 30; exact quiet_left (C.out _)))
    go_wp2
    go_ret
    exact ⟨rfl, nq, rfl⟩
  · rw [e1] at C ⊢
    clear e1
    simp only [↓reduceIte]
    have v1 : IntKind.i64.wrap (c + n) = c + n := by rw [IntKind.wrap_i64]; omega
    go_enter Try.func29, Try.ntmps29
    go_wp2_with fail
    go_quiet ((go_at_call 30; exact quiet_left (C.out _)))
    go_wp2
    go_ret
    exact ⟨rfl, nq, rfl⟩

abbrev PT : TypeId := 49
abbrev TT : TypeId := 51
theorem drew_do {w : World} {b : Nat} {cs : Array Value} {t : TypeId} (h : At w b cs t) (k : Nat) : Do b cs t w (w.drewN k) := ⟨h, (Chg.refl _ _).drewN k⟩
theorem fnewP (n : Int) (w : World) : Calls Try.prog 8 #[im n] w fun e w' => e = .returned (ptr w.heap.size) ∧ At w' w.heap.size (pcs (newP n)) PT ∧ Below w.heap.size w w' := by
  have C := Lib.hid (fbound n)
  unfold newP
  generalize roomOf n = r at C ⊢
  go_enter Try.func8, Try.ntmps8
  go_wp2_with (go_at_call 27; refine (C.out _).mono ?_; rintro e w6 ⟨rfl, rfl⟩)
  go_ret
  exact ⟨rfl, nest w [_] 0 _ rfl, nest_below w [_]⟩
theorem fnewT (n : Int) (w : World) : Calls Try.prog 10 #[im n] w fun e w' => e = .returned (ptr w.heap.size) ∧ At w' w.heap.size (tcs (newT n)) TT ∧ Below w.heap.size w w' := by
  have C := Lib.hid (fbound n)
  unfold newT tcs
  simp only [Int.sub_zero]
  generalize roomOf n = r at C ⊢
  go_enter Try.func10, Try.ntmps10
  go_wp2_with (go_at_call 27; refine (C.out _).mono ?_; rintro e w6 ⟨rfl, rfl⟩)
  go_ret
  exact ⟨rfl, nest w [_] 0 _ rfl, nest_below w [_]⟩
theorem fleft_nil (w : World) : Calls Try.prog 23 #[.pointer none] w fun e w' => e = .returned (im 0) ∧ w = w' := by
  go_enter Try.func23, Try.ntmps23
  go_wp2
  go_ret
  exact ⟨rfl, rfl⟩
theorem fleft (w : World) (b : Nat) (x : Pu) (h : At w b (pcs x) PT) : Calls Try.prog 23 #[ptr b] w fun e w' => e = .returned (im x.l) ∧ w = w' := by
  have c0 := h.cell 0 (im x.l) rfl
  clear h
  go_enter Try.func23, Try.ntmps23
  go_wp2
  go_ret
  exact ⟨rfl, rfl⟩
theorem fholds_nil (w : World) : Calls Try.prog 24 #[.pointer none] w fun e w' => e = .returned (im 0) ∧ w = w' := by
  go_enter Try.func24, Try.ntmps24
  go_wp2
  go_ret
  exact ⟨rfl, rfl⟩
theorem fholds (w : World) (b : Nat) (x : Ti) (h : At w b (tcs x) TT) : Calls Try.prog 24 #[ptr b] w fun e w' => e = .returned (im x.h) ∧ w = w' := by
  have c0 := h.cell 0 (im x.h) rfl
  clear h
  go_enter Try.func24, Try.ntmps24
  go_wp2
  go_ret
  exact ⟨rfl, rfl⟩
theorem fowes_nil (w : World) : Calls Try.prog 25 #[.pointer none] w fun e w' => e = .returned (im 0) ∧ w = w' := by
  go_enter Try.func25, Try.ntmps25
  go_wp2
  go_ret
  exact ⟨rfl, rfl⟩
theorem fowes (w : World) (b : Nat) (x : Ti) (h : At w b (tcs x) TT) : Calls Try.prog 25 #[ptr b] w fun e w' => e = .returned (im x.o) ∧ w = w' := by
  have c0 := h.cell 2 (im x.o) rfl
  clear h
  go_enter Try.func25, Try.ntmps25
  go_wp2
  go_ret
  exact ⟨rfl, rfl⟩
theorem fuse_nil (n : Int) (w : World) : Calls Try.prog 13 #[.pointer none, im n] w fun e w' => e = .returned (im 3) ∧ w = w' := by
  go_enter Try.func13, Try.ntmps13
  go_wp2
  go_ret
  exact ⟨rfl, rfl⟩
theorem fgrant_nil (n : Int) (w : World) : Calls Try.prog 15 #[.pointer none, im n] w fun e w' => e = .returned (im 3) ∧ w = w' := by
  go_enter Try.func15, Try.ntmps15
  go_wp2
  go_ret
  exact ⟨rfl, rfl⟩
theorem fcome_nil (n : Int) (w : World) : Calls Try.prog 17 #[.pointer none, im n] w fun e w' => e = .returned (im 3) ∧ w = w' := by
  go_enter Try.func17, Try.ntmps17
  go_wp2
  go_ret
  exact ⟨rfl, rfl⟩
theorem fread_nil (n : Int) (w : World) : Calls Try.prog 19 #[.pointer none, im n] w fun e w' => e = .returned (im 3) ∧ w = w' := by
  go_enter Try.func19, Try.ntmps19
  go_wp2
  go_ret
  exact ⟨rfl, rfl⟩
theorem fpay_nil (w : World) : Calls Try.prog 21 #[.pointer none] w fun e w' => e = .returned (im 0) ∧ w = w' := by
  go_enter Try.func21, Try.ntmps21
  go_wp2
  go_ret
  exact ⟨rfl, rfl⟩
theorem fuse (w : World) (b : Nat) (x : Pu) (n : Int) (h : At w b (pcs x) PT) (ho : x.Ok) : Calls Try.prog 13 #[ptr b, im n] w fun e w' => e = .returned (im (fit n x.l)) ∧ Do b (pcs (x.use n)) PT w w' := by
  have H := Lib.hid h
  have C := Lib.hid (fless w b x.l n (h.cell 0 _ rfl) (h.free 0) (by have := ho.l1; have := ho.r2; omega))
  clear h ho
  go_enter Try.func13, Try.ntmps13
  go_wp2_with fail
  refine C.out.mono ?_
  rintro _ w6 ⟨rfl, hw⟩
  have HW := Lib.hid hw
  clear hw
  go_wp2
  go_ret
  refine ⟨rfl, ?_⟩
  rw [HW.out]
  unfold Pu.use
  split
  · exact (Do.refl H.out).set 0 _
  · exact Do.refl H.out
theorem fgrant (w : World) (b : Nat) (x : Pu) (n : Int) (h : At w b (pcs x) PT) (ho : x.Ok) : Calls Try.prog 15 #[ptr b, im n] w fun e w' => e = .returned (im (fit n (x.r - x.l))) ∧ Do b (pcs (x.grant n)) PT w w' := by
  have H := Lib.hid h
  have C := Lib.hid (fmore w b x.l x.r n (h.cell 0 _ rfl) (h.cell 1 _ rfl) (h.free 0) ho.l0 ho.l1 ho.r2)
  clear h ho
  go_enter Try.func15, Try.ntmps15
  go_wp2_with fail
  refine C.out.mono ?_
  rintro _ w6 ⟨rfl, k, hw⟩
  have HW := Lib.hid hw
  clear hw
  go_wp2
  go_ret
  refine ⟨rfl, ?_⟩
  rw [HW.out]
  unfold Pu.grant
  split
  · exact (drew_do H.out k).set 0 _
  · exact drew_do H.out k
theorem fcome (w : World) (b : Nat) (x : Ti) (n : Int) (h : At w b (tcs x) TT) (ho : x.Ok) : Calls Try.prog 17 #[ptr b, im n] w fun e w' => e = .returned (im (fit n (x.r - x.o - x.h))) ∧ Do b (tcs (x.come n)) TT w w' := by
  have H := Lib.hid h
  have C := Lib.hid (fmore w b x.h (x.r - x.o) n (h.cell 0 _ rfl) (h.cell 1 _ rfl) (h.free 0) ho.h0 (by have := ho.s; omega) (by have := ho.r2; have := ho.o0; omega))
  clear h ho
  go_enter Try.func17, Try.ntmps17
  go_wp2_with fail
  refine C.out.mono ?_
  rintro _ w6 ⟨rfl, k, hw⟩
  have HW := Lib.hid hw
  clear hw
  go_wp2
  go_ret
  refine ⟨rfl, ?_⟩
  rw [HW.out]
  unfold Ti.come
  split
  · exact (drew_do H.out k).set 0 _
  · exact drew_do H.out k
theorem fread (w : World) (b : Nat) (x : Ti) (n : Int) (h : At w b (tcs x) TT) (ho : x.Ok) : Calls Try.prog 19 #[ptr b, im n] w fun e w' => e = .returned (im (fit n x.h)) ∧ Do b (tcs (x.read n)) TT w w' := by
  have H := Lib.hid h
  have C := Lib.hid (fless w b x.h n (h.cell 0 _ rfl) (h.free 0) (by have := ho.s; have := ho.r2; have := ho.o0; omega))
  have hlt := h.lt
  unfold Ti.read
  rcases fit_cases n x.h with ⟨h1, e1⟩ | ⟨h1, h2, e1⟩ | ⟨h1, h2, e1⟩
  · rw [e1] at C ⊢
    rw [if_neg (show ¬ (2 : Int) = 0 by decide)] at C ⊢
    clear h ho e1
    go_enter Try.func19, Try.ntmps19
    go_wp2_with fail
    refine C.out.mono ?_
    rintro _ w6 ⟨rfl, rfl⟩
    go_wp2
    go_ret
    exact ⟨rfl, Do.refl H.out⟩
  · rw [e1] at C ⊢
    rw [if_neg (show ¬ (3 : Int) = 0 by decide)] at C ⊢
    clear h ho e1
    go_enter Try.func19, Try.ntmps19
    go_wp2_with fail
    refine C.out.mono ?_
    rintro _ w6 ⟨rfl, rfl⟩
    go_wp2
    go_ret
    exact ⟨rfl, Do.refl H.out⟩
  · rw [e1] at C ⊢
    rw [if_pos rfl] at C ⊢
    have HD : Hid (Do b #[im (x.h - n), im (x.r - x.o), im x.o] TT w (w.setCell ⟨b, 0, none⟩ (im (x.h - n)))) := Lib.hid ((Do.refl h).set 0 _)
    have v1 : IntKind.i64.wrap (x.r - x.o - n) = x.r - x.o - n := by rw [IntKind.wrap_i64]; have := ho.s; have := ho.r2; have := ho.r1; have := ho.o0; have := ho.h0; omega
    have v2 : IntKind.i64.wrap (x.o + n) = x.o + n := by rw [IntKind.wrap_i64]; have := ho.s; have := ho.r2; have := ho.r1; have := ho.o0; have := ho.h0; omega
    have e2 : x.r - (x.o + n) = x.r - x.o - n := by omega
    show Calls _ _ _ _ fun e w' => e = .returned (im 0) ∧ Do b #[im (x.h - n), im (x.r - (x.o + n)), im (x.o + n)] TT w w'
    rw [e2]
    clear h ho e1 e2 h1 h2
    go_enter Try.func19, Try.ntmps19
    go_wp2_with fail
    refine C.out.mono ?_
    rintro _ w6 ⟨rfl, hw⟩
    have HD2 : Hid (Do b #[im (x.h - n), im (x.r - x.o), im x.o] TT w w6) := Lib.hid (hw ▸ HD.out)
    have c1 := HD2.out.at_.cell 1 (im (x.r - x.o)) rfl
    have c2 := HD2.out.at_.cell 2 (im x.o) rfl
    have hf := HD2.out.at_.free
    have hlt6 := HD2.out.at_.lt
    clear hw HD
    go_wp2
    go_ret
    exact ⟨rfl, (HD2.out.set 1 (im (x.r - x.o - n))).set 2 (im (x.o + n))⟩
theorem fpay (w : World) (b : Nat) (x : Ti) (h : At w b (tcs x) TT) (ho : x.Ok) : Calls Try.prog 21 #[ptr b] w fun e w' => e = .returned (im x.o) ∧ Do b (tcs x.pay) TT w w' := by
  have HD := Lib.hid (Do.refl h)
  have c1 := h.cell 1 (im (x.r - x.o)) rfl
  have c2 := h.cell 2 (im x.o) rfl
  have hf := h.free
  have hlt := h.lt
  have v1 : IntKind.i64.wrap x.r = x.r := by rw [IntKind.wrap_i64]; have := ho.r2; have := ho.r1; omega
  have e2 : x.r - 0 = x.r := by omega
  show Calls _ _ _ _ fun e w' => e = .returned (im x.o) ∧ Do b #[im x.h, im (x.r - 0), im 0] TT w w'
  rw [e2]
  clear h ho e2
  go_enter Try.func21, Try.ntmps21
  go_wp2
  go_ret
  exact ⟨rfl, (HD.out.set 1 (im x.r)).set 2 (im 0)⟩
end Go.Proofs.Ytaeinccehkofgaa.Cr

/-
  The document's own purse and till in memory; what its functions answer. Condition: they lie where they say, their numbers are in bounds.
-/
import Derived.Test.YtaeinccehkofgaaCrSmall
namespace Go.Proofs.Ytaeinccehkofgaa.Cr
open Go.RowKit Go.Proofs.Ytaeinccehkofgaa.Base Go.Proofs.Ytaeinccehkofgaa.Mem
abbrev rpcs (x : Pu) : Array Value := #[im x.r, im x.l]
abbrev rtcs (x : Ti) : Array Value := #[im x.r, im x.h, im x.o]
abbrev RPT : TypeId := 39
abbrev RTT : TypeId := 41
theorem rroom (n : Int) (w : World) : Calls Try.prog 26 #[im n] w fun e w' => e = .returned (im (roomOf n)) ∧ w = w' := by
  unfold roomOf
  go_enter Try.func26, Try.ntmps26
  go_wp2
  go_ret
  exact ⟨rfl, rfl⟩
theorem rnewP (n : Int) (w : World) : Calls Try.prog 9 #[im n] w fun e w' => e = .returned (ptr w.heap.size) ∧ At w' w.heap.size (rpcs (newP n)) RPT ∧ Below w.heap.size w w' := by
  have C := Lib.hid (rroom n)
  unfold newP
  generalize roomOf n = r at C ⊢
  go_enter Try.func9, Try.ntmps9
  go_wp2_with (go_at_call 26; refine (C.out _).mono ?_; rintro e w6 ⟨rfl, rfl⟩)
  go_ret
  exact ⟨rfl, nest w [_] 0 _ rfl, nest_below w [_]⟩
theorem rnewT (n : Int) (w : World) : Calls Try.prog 11 #[im n] w fun e w' => e = .returned (ptr w.heap.size) ∧ At w' w.heap.size (rtcs (newT n)) RTT ∧ Below w.heap.size w w' := by
  have C := Lib.hid (rroom n)
  unfold newT
  generalize roomOf n = r at C ⊢
  go_enter Try.func11, Try.ntmps11
  go_wp2_with (go_at_call 26; refine (C.out _).mono ?_; rintro e w6 ⟨rfl, rfl⟩)
  go_ret
  exact ⟨rfl, nest w [_] 0 _ rfl, nest_below w [_]⟩
theorem ruse (w : World) (b : Nat) (x : Pu) (n : Int) (h : At w b (rpcs x) RPT) (ho : x.Ok) : Calls Try.prog 14 #[ptr b, im n] w fun e w' => e = .returned (im (fit n (x.l))) ∧ Do b (rpcs (x.use n)) RPT w w' := by
  have H := Lib.hid h
  have c1 := h.cell 1 (im x.l) rfl
  have hf := h.free
  have hlt := h.lt
  have v0 : 0 ≤ n → n ≤ x.l → IntKind.i64.wrap (x.l - n) = x.l - n := by intro _ _; rw [IntKind.wrap_i64]; have := ho.l0; have := ho.l1; have := ho.r2; omega
  unfold Pu.use
  clear h ho
  rcases fit_cases n (x.l) with ⟨h1, e1⟩ | ⟨h1, h2, e1⟩ | ⟨h1, h2, e1⟩
  · rw [e1, if_neg (show ¬ (2 : Int) = 0 by decide)]
    clear e1 v0
    go_enter Try.func14, Try.ntmps14
    go_wp2
    go_ret
    exact ⟨rfl, Do.refl H.out⟩
  · rw [e1, if_neg (show ¬ (3 : Int) = 0 by decide)]
    have h3 : ¬ n < 0 := by omega
    clear e1 h1 v0
    go_enter Try.func14, Try.ntmps14
    go_wp2
    go_ret
    exact ⟨rfl, Do.refl H.out⟩
  · rw [e1, if_pos rfl]
    have h3 : ¬ n < 0 := by omega
    have h4 : ¬ x.l < n := by omega
    have u0 := v0 h1 h2
    clear e1 h1 h2 v0
    go_enter Try.func14, Try.ntmps14
    go_wp2
    go_ret
    exact ⟨rfl, (Do.refl H.out).set 1 (im (x.l - n))⟩
theorem rgrant (w : World) (b : Nat) (x : Pu) (n : Int) (h : At w b (rpcs x) RPT) (ho : x.Ok) : Calls Try.prog 16 #[ptr b, im n] w fun e w' => e = .returned (im (fit n (x.r - x.l))) ∧ Do b (rpcs (x.grant n)) RPT w w' := by
  have H := Lib.hid h
  have c0 := h.cell 0 (im x.r) rfl
  have c1 := h.cell 1 (im x.l) rfl
  have hf := h.free
  have hlt := h.lt
  have s0 : IntKind.i64.wrap (x.r - x.l) = x.r - x.l := by rw [IntKind.wrap_i64]; have := ho.l0; have := ho.l1; have := ho.r2; omega
  have v0 : 0 ≤ n → n ≤ x.r - x.l → IntKind.i64.wrap (x.l + n) = x.l + n := by intro _ _; rw [IntKind.wrap_i64]; have := ho.l0; have := ho.l1; have := ho.r2; omega
  unfold Pu.grant
  clear h ho
  rcases fit_cases n (x.r - x.l) with ⟨h1, e1⟩ | ⟨h1, h2, e1⟩ | ⟨h1, h2, e1⟩
  · rw [e1, if_neg (show ¬ (2 : Int) = 0 by decide)]
    clear e1 v0
    go_enter Try.func16, Try.ntmps16
    go_wp2
    go_ret
    exact ⟨rfl, Do.refl H.out⟩
  · rw [e1, if_neg (show ¬ (3 : Int) = 0 by decide)]
    have h3 : ¬ n < 0 := by omega
    clear e1 h1 v0
    go_enter Try.func16, Try.ntmps16
    go_wp2_with fail
    go_quiet (fail)
    go_wp2
    go_ret
    exact ⟨rfl, drew_do H.out nq⟩
  · rw [e1, if_pos rfl]
    have h3 : ¬ n < 0 := by omega
    have h4 : ¬ x.r - x.l < n := by omega
    have u0 := v0 h1 h2
    clear e1 h1 h2 v0
    go_enter Try.func16, Try.ntmps16
    go_wp2_with fail
    go_quiet (fail)
    go_wp2
    go_ret
    exact ⟨rfl, (drew_do H.out nq).set 1 (im (x.l + n))⟩
theorem rcome (w : World) (b : Nat) (x : Ti) (n : Int) (h : At w b (rtcs x) RTT) (ho : x.Ok) : Calls Try.prog 18 #[ptr b, im n] w fun e w' => e = .returned (im (fit n (x.r - x.h - x.o))) ∧ Do b (rtcs (x.come n)) RTT w w' := by
  have H := Lib.hid h
  have c0 := h.cell 0 (im x.r) rfl
  have c1 := h.cell 1 (im x.h) rfl
  have c2 := h.cell 2 (im x.o) rfl
  have hf := h.free
  have hlt := h.lt
  have s0 : IntKind.i64.wrap (x.r - x.h) = x.r - x.h := by rw [IntKind.wrap_i64]; have := ho.h0; have := ho.o0; have := ho.s; have := ho.r2; omega
  have s1 : IntKind.i64.wrap (x.r - x.h - x.o) = x.r - x.h - x.o := by rw [IntKind.wrap_i64]; have := ho.h0; have := ho.o0; have := ho.s; have := ho.r2; omega
  have v0 : 0 ≤ n → n ≤ x.r - x.h - x.o → IntKind.i64.wrap (x.h + n) = x.h + n := by intro _ _; rw [IntKind.wrap_i64]; have := ho.h0; have := ho.o0; have := ho.s; have := ho.r2; omega
  have em : x.r - x.o - x.h = x.r - x.h - x.o := by omega
  unfold Ti.come
  rw [em]
  clear em
  clear h ho
  rcases fit_cases n (x.r - x.h - x.o) with ⟨h1, e1⟩ | ⟨h1, h2, e1⟩ | ⟨h1, h2, e1⟩
  · rw [e1, if_neg (show ¬ (2 : Int) = 0 by decide)]
    clear e1 v0
    go_enter Try.func18, Try.ntmps18
    go_wp2
    go_ret
    exact ⟨rfl, Do.refl H.out⟩
  · rw [e1, if_neg (show ¬ (3 : Int) = 0 by decide)]
    have h3 : ¬ n < 0 := by omega
    clear e1 h1 v0
    go_enter Try.func18, Try.ntmps18
    go_wp2_with fail
    go_quiet (fail)
    go_wp2
    go_ret
    exact ⟨rfl, drew_do H.out nq⟩
  · rw [e1, if_pos rfl]
    have h3 : ¬ n < 0 := by omega
    have h4 : ¬ x.r - x.h - x.o < n := by omega
    have u0 := v0 h1 h2
    clear e1 h1 h2 v0
    go_enter Try.func18, Try.ntmps18
    go_wp2_with fail
    go_quiet (fail)
    go_wp2
    go_ret
    exact ⟨rfl, (drew_do H.out nq).set 1 (im (x.h + n))⟩
theorem rread (w : World) (b : Nat) (x : Ti) (n : Int) (h : At w b (rtcs x) RTT) (ho : x.Ok) : Calls Try.prog 20 #[ptr b, im n] w fun e w' => e = .returned (im (fit n (x.h))) ∧ Do b (rtcs (x.read n)) RTT w w' := by
  have H := Lib.hid h
  have c1 := h.cell 1 (im x.h) rfl
  have c2 := h.cell 2 (im x.o) rfl
  have hf := h.free
  have hlt := h.lt
  have v0 : 0 ≤ n → n ≤ x.h → IntKind.i64.wrap (x.h - n) = x.h - n := by intro _ _; rw [IntKind.wrap_i64]; have := ho.h0; have := ho.o0; have := ho.s; have := ho.r2; omega
  have v1 : 0 ≤ n → n ≤ x.h → IntKind.i64.wrap (x.o + n) = x.o + n := by intro _ _; rw [IntKind.wrap_i64]; have := ho.h0; have := ho.o0; have := ho.s; have := ho.r2; omega
  unfold Ti.read
  clear h ho
  rcases fit_cases n (x.h) with ⟨h1, e1⟩ | ⟨h1, h2, e1⟩ | ⟨h1, h2, e1⟩
  · rw [e1, if_neg (show ¬ (2 : Int) = 0 by decide)]
    clear e1 v0 v1
    go_enter Try.func20, Try.ntmps20
    go_wp2
    go_ret
    exact ⟨rfl, Do.refl H.out⟩
  · rw [e1, if_neg (show ¬ (3 : Int) = 0 by decide)]
    have h3 : ¬ n < 0 := by omega
    clear e1 h1 v0 v1
    go_enter Try.func20, Try.ntmps20
    go_wp2
    go_ret
    exact ⟨rfl, Do.refl H.out⟩
  · rw [e1, if_pos rfl]
    have h3 : ¬ n < 0 := by omega
    have h4 : ¬ x.h < n := by omega
    have u0 := v0 h1 h2
    have u1 := v1 h1 h2
    clear e1 h1 h2 v0 v1
    go_enter Try.func20, Try.ntmps20
    go_wp2
    go_ret
    exact ⟨rfl, ((Do.refl H.out).set 1 (im (x.h - n))).set 2 (im (x.o + n))⟩
theorem rpay (w : World) (b : Nat) (x : Ti) (h : At w b (rtcs x) RTT) : Calls Try.prog 22 #[ptr b] w fun e w' => e = .returned (im x.o) ∧ Do b (rtcs x.pay) RTT w w' := by
  have HD := Lib.hid (Do.refl h)
  have c2 := h.cell 2 (im x.o) rfl
  have hf := h.free
  have hlt := h.lt
  clear h
  go_enter Try.func22, Try.ntmps22
  go_wp2
  go_ret
  exact ⟨rfl, HD.out.set 2 (im 0)⟩
end Go.Proofs.Ytaeinccehkofgaa.Cr

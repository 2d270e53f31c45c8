/-
  A wheel all of whose blocks are new; the chapter's examples. No condition.
-/
import Derived.Test.YtcadeoolacoidaaWhSame
namespace Go.Proofs.Ytcadeoolacoidaa.Wh
open Go.RowKit Go.Proofs.Ytcadeoolacoidaa.Base Go.Proofs.Ytcadeoolacoidaa.Mem
/-- A wheel that was made since w0. -/
structure Wn (w0 : World) (pb n : Nat) (f : Nat → Nat) (w : World) : Prop where
  ex : ∃ B, Whl w pb n f B ∧ ∀ b, B b → w0.heap.size ≤ b
  below : Below w0.heap.size w0 w
section
variable {w0 w w' : World} {pb n : Nat} {f : Nat → Nat}
theorem below_chg {B : Nat → Prop} (hb : Below w0.heap.size w0 w) (hc : Chg B w w') (hB : ∀ b, B b → w0.heap.size ≤ b) : Below w0.heap.size w0 w' := hc.below hb hb.size hB
theorem Wn.on (h : Wn w0 pb n f w) (hb : Below w.heap.size w w') : Wn w0 pb n f w' := by
  obtain ⟨B, h1, h2⟩ := h.ex
  exact ⟨⟨B, h1.frame (Chg.of_below (S := fun _ => False) hb) fun _ _ x => x, h2⟩, below_chg h.below (Chg.of_below (S := B) hb) h2⟩
theorem Wn.drewN (h : Wn w0 pb n f w) (m : Nat) : Wn w0 pb n f (w.drewN m) := by
  obtain ⟨B, h1, h2⟩ := h.ex
  exact ⟨⟨B, h1.frame ((Chg.refl (fun _ => False) w).drewN m) fun _ _ x => x, h2⟩, below_chg h.below ((Chg.refl B w).drewN m) h2⟩
theorem Wn.chgNew {S : Nat → Prop} (h : Wn w0 pb n f w) (hc : Chg S w w') (hS : ∀ b, S b → w.heap.size ≤ b) : Wn w0 pb n f w' := by
  obtain ⟨B, h1, h2⟩ := h.ex
  exact ⟨⟨B, h1.frame hc fun b hb hs => by have := h1.lt b hb; have := hS b hs; omega, h2⟩, below_chg h.below hc fun b hb => Nat.le_trans h.below.size (hS b hb)⟩
theorem nnew (n : Nat) (h1 : 1 ≤ n) (hn : n ≤ 256) (w : World) (hb : Below w0.heap.size w0 w) :
    Calls Try.prog 8 #[nm n] w fun r w' => ∃ pb, r = .returned (ptr pb) ∧ Wn w0 pb n (fun _ => 0) w' := by
  refine (wnew n h1 hn w).mono ?_
  rintro r w' ⟨pb, rfl, h, hb'⟩
  exact ⟨pb, rfl, ⟨_, h, fun b hb2 => Nat.le_trans hb.size hb2.1⟩, below_on hb hb'⟩
theorem nset (h : Wn w0 pb n f w) (i t : Nat) (hi : i < 256) (h1 : 1 ≤ t) (h2 : t ≤ 65535) :
    Calls Try.prog 14 #[ptr pb, oc i, nm t] w fun r w' => r = .returned (.int .i64 0) ∧ Wn w0 pb n (upd f i t) w' := by
  obtain ⟨B, hw, hB⟩ := h.ex
  refine (wset w pb n f B i t hw hi h1 h2).mono ?_
  rintro r w' ⟨rfl, h3, h4⟩
  exact ⟨rfl, ⟨_, h3, fun b hb => by
    rcases hb with hb | hb
    · exact hB b hb
    · exact Nat.le_trans h.below.size hb.1⟩, below_chg h.below h4 hB⟩
theorem nstop (h : Wn w0 pb n f w) (i : Nat) (hi : i < 256) :
    Calls Try.prog 15 #[ptr pb, oc i] w fun r w' => r = .returned (.bool (decide (0 < f i))) ∧ Wn w0 pb n (upd f i 0) w' := by
  obtain ⟨B, hw, hB⟩ := h.ex
  refine (wstop w pb n f B i hw hi).mono ?_
  rintro r w' ⟨rfl, h3, h4⟩
  exact ⟨rfl, ⟨_, h3, hB⟩, below_chg h.below h4 hB⟩
theorem ntick (h : Wn w0 pb n f w) :
    Calls Try.prog 16 #[ptr pb] w fun r w' => ∃ v, r = .returned v ∧ Wn w0 pb n (tick f) w' ∧ OwnS 5 1 ocs w' w.heap.size v (dueOf f) := by
  obtain ⟨B, hw, hB⟩ := h.ex
  refine (wtick w pb n f B hw).mono ?_
  rintro r w' ⟨v, rfl, h3⟩
  exact ⟨v, rfl, ⟨⟨B, h3.whl, hB⟩, below_chg h.below h3.chg hB⟩, h3.due⟩
theorem ncount (h : Wn w0 pb n f w) : Calls Try.prog 11 #[ptr pb] w fun r w' => r = .returned (nm (cnt f)) ∧ w' = w := by
  obtain ⟨B, hw, hB⟩ := h.ex
  exact wcount hw
theorem nleft (h : Wn w0 pb n f w) (i : Nat) (hi : i < 256) : Calls Try.prog 13 #[ptr pb, oc i] w fun r w' => r = .returned (nm (f i)) ∧ Wn w0 pb n f w' := by
  obtain ⟨B, hw, hB⟩ := h.ex
  refine (wleft hw i hi).mono ?_
  rintro r w' ⟨rfl, m, rfl⟩
  exact ⟨rfl, h.drewN m⟩
/-- The row of a literal. -/
theorem one_row (w : World) (k : Nat) : OwnS 5 1 ocs (w.alloc (.cells #[oc k] 5)) w.heap.size (.slice (some ⟨w.heap.size, 0, none⟩) 1 1) [k] :=
  ⟨rfl, Or.inr ⟨w.heap.size, 1, #[oc k], rfl, Nat.le_refl _, nest w [_] 0 _ rfl, Nat.le_refl _, by decide, rfl, rfl⟩⟩
end
def f1 : Nat → Nat := upd (fun _ => 0) 7 2
def f2 : Nat → Nat := tick f1
def f3 : Nat → Nat := tick f2
def f4 : Nat → Nat := upd f3 3 9
def f5 : Nat → Nat := upd f4 3 1
def f6 : Nat → Nat := tick f5
def f7 : Nat → Nat := upd f6 1 0
theorem due_f1 : dueOf f1 = [] := by kernel_rfl
theorem due_f2 : dueOf f2 = [7] := by kernel_rfl
theorem due_f5 : dueOf f5 = [3] := by kernel_rfl
theorem cnt_f7 : cnt f7 = 0 := by kernel_rfl
set_option maxHeartbeats 4000000 in
set_option maxRecDepth 100000 in
theorem fworks (w : World) : Calls Try.prog 7 #[] w fun r w' => r = .returned (.bool true) ∧ Below w.heap.size w w' := by
  have c0 := Lib.hid (nnew (w0 := w) 4 (by omega) (by omega) w (Below.refl _ _))
  go_enter Try.func7, Try.ntmps7
  go_wp2_with fail
  refine c0.out.mono ?_
  rintro _ w1 ⟨pb, rfl, h1⟩
  have c1 := Lib.hid (nset h1 7 2 (by omega) (by omega) (by omega))
  clear c0 h1
  go_wp2_with fail
  refine c1.out.mono ?_
  rintro _ w2 ⟨rfl, h2⟩
  have h2 : Wn w pb 4 f1 w2 := h2
  have c2 := Lib.hid (ntick h2)
  clear c1 h2
  go_wp2_with fail
  refine c2.out.mono ?_
  rintro _ w3 ⟨v, rfl, h3, o3⟩
  have h3 : Wn w pb 4 f2 w3 := h3
  rw [due_f1] at o3
  obtain ⟨oa, cap, rfl, _⟩ := own_form o3
  have c3 : Hid (Calls Try.prog 13 #[ptr pb, .int .u8 7] w3 fun r w' => r = .returned (.int .i64 1) ∧ Wn w pb 4 f2 w') := nleft h3 7 (by omega)
  clear c2 h3 o3
  go_wp2_with fail
  refine c3.out.mono ?_
  rintro _ w4 ⟨rfl, h4⟩
  have c4 := Lib.hid (ntick h4)
  clear c3 h4
  go_wp2_with fail
  refine c4.out.mono ?_
  rintro _ w5 ⟨v5, rfl, h5, o5⟩
  have h5 : Wn w pb 4 f3 w5 := h5
  rw [due_f2] at o5
  have h6 : Wn w pb 4 f3 (w5.alloc (.cells #[.int .u8 7] 5)) := h5.on ((Below.refl _ _).alloc (Nat.le_refl _) _)
  have c5 : Hid (Calls Try.prog 17 #[v5, .slice (some ⟨w5.heap.size, 0, none⟩) 1 1] (w5.alloc (.cells #[.int .u8 7] 5)) fun r w' => r = .returned (.bool true) ∧ ∃ m, w' = (w5.alloc (.cells #[.int .u8 7] 5)).drewN m) :=
    fsame _ v5 _ _ _ [7] [7] (o5.alloc _) (one_row w5 7) (by decide) (by decide)
  clear c4 h5 o5
  go_wp2_with fail
  refine c5.out.mono ?_
  rintro _ w6 ⟨rfl, m, hw6⟩
  have h7 : Wn w pb 4 f3 w6 := by rw [hw6]; exact h6.drewN m
  have c6 : Hid (Calls Try.prog 13 #[ptr pb, .int .u8 7] w6 fun r w' => r = .returned (.int .i64 0) ∧ Wn w pb 4 f3 w') := nleft h7 7 (by omega)
  clear c5 h6 hw6 h7
  go_wp2_with fail
  refine c6.out.mono ?_
  rintro _ w7 ⟨rfl, h7⟩
  have c7 := Lib.hid (nset h7 3 9 (by omega) (by omega) (by omega))
  clear c6 h7
  go_wp2_with fail
  refine c7.out.mono ?_
  rintro _ w8 ⟨rfl, h8⟩
  have h8 : Wn w pb 4 f4 w8 := h8
  have c8 := Lib.hid (nset h8 3 1 (by omega) (by omega) (by omega))
  clear c7 h8
  go_wp2_with fail
  refine c8.out.mono ?_
  rintro _ w9 ⟨rfl, h9⟩
  have h9 : Wn w pb 4 f5 w9 := h9
  have c9 := Lib.hid (ntick h9)
  clear c8 h9
  go_wp2_with fail
  refine c9.out.mono ?_
  rintro _ wa ⟨va, rfl, ha, oa⟩
  have ha : Wn w pb 4 f6 wa := ha
  rw [due_f5] at oa
  have hb : Wn w pb 4 f6 (wa.alloc (.cells #[.int .u8 3] 5)) := ha.on ((Below.refl _ _).alloc (Nat.le_refl _) _)
  have ca : Hid (Calls Try.prog 17 #[va, .slice (some ⟨wa.heap.size, 0, none⟩) 1 1] (wa.alloc (.cells #[.int .u8 3] 5)) fun r w' => r = .returned (.bool true) ∧ ∃ m, w' = (wa.alloc (.cells #[.int .u8 3] 5)).drewN m) :=
    fsame _ va _ _ _ [3] [3] (oa.alloc _) (one_row wa 3) (by decide) (by decide)
  clear c9 ha oa
  go_wp2_with fail
  refine ca.out.mono ?_
  rintro _ wb ⟨rfl, m2, hwb⟩
  have hc : Wn w pb 4 f6 wb := by rw [hwb]; exact hb.drewN m2
  have cb := Lib.hid (wset_arg wb pb 1 0 (Or.inl (by omega)))
  clear ca hb hwb
  go_wp2_with fail
  refine cb.out.mono ?_
  rintro _ wc ⟨rfl, rfl⟩
  have cc : Hid (Calls Try.prog 15 #[ptr pb, .int .u8 1] wc fun r w' => r = .returned (.bool false) ∧ Wn w pb 4 f7 w') := nstop hc 1 (by omega)
  clear cb hc
  go_wp2_with fail
  refine cc.out.mono ?_
  rintro _ wd ⟨rfl, hd⟩
  have cd : Hid (Calls Try.prog 11 #[ptr pb] wd fun r w' => r = .returned (.int .i64 0) ∧ w' = wd) := by
    have := ncount hd
    rw [cnt_f7] at this
    exact this
  clear cc
  go_wp2_with fail
  refine cd.out.mono ?_
  rintro _ we ⟨rfl, rfl⟩
  clear cd
  go_wp2
  go_ret
  exact ⟨rfl, hd.below⟩
end Go.Proofs.Ytcadeoolacoidaa.Wh

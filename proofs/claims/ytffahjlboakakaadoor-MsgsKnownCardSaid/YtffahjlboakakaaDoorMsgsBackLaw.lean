/-
  MsgsBack answers true for everything, and turns nothing that was there. Condition: the table of the types lies where the program lays it.
-/
import Derived.Test.YtffahjlboakakaaDoorMsgsSlice
import Derived.Test.YtffahjlboakakaaDoorMsgsWorks
import Derived.Test.YtffahjlboakakaaDoorMsgsOpen
import Derived.Test.YtffahjlboakakaaDoorMsgsPutsLaw
namespace Go.Proofs.YtffahjlboakakaaDoor.msgsBack
open Go.RowKit Go.Proofs.YtffahjlboakakaaDoor.Base Go.Proofs.YtffahjlboakakaaDoor.Mem Go.Proofs.YtffahjlboakakaaDoor.Msgs
set_option maxRecDepth 100000
/-- What each round of the first loop begins with. -/
structure At (w : World) (k : Nat) (s : ByteArray) (v : Value) (wr : World) (l : List Ms) : Prop where
  base : Below w.heap.size w wr
  own : OwnS 27 20 ml wr w.heap.size v l
  few : l.length ≤ k
  ok : ∀ x ∈ l, x.Ok
  eq : s = enc l
theorem At.size {w wr : World} {k : Nat} {s : ByteArray} {v : Value} {l : List Ms} (h : At w k s v wr l) (hk : k ≤ 20) : s.size ≤ 2580 := by
  have := enc_size l h.ok
  rw [h.eq]
  have := h.few
  omega
/-- What each round of the second loop begins with. -/
structure In (w w0 : World) (v u : Value) (wr : World) (l : List Ms) : Prop where
  base : Below w.heap.size w wr
  got : OwnS 27 20 ml wr w0.heap.size v l
  may : OwnS 27 20 ml wr w.heap.size u l
theorem ok_snoc {l : List Ms} {m : Ms} (h : ∀ x ∈ l, x.Ok) (hm : m.Ok) : ∀ x ∈ l ++ [m], x.Ok := fun x hx => by
  rcases List.mem_append.1 hx with hx | hx
  · exact h x hx
  · rw [List.mem_singleton.1 hx]; exact hm
theorem b_le {m : Ms} (h : may m = true) (hv : (val m).size ≤ 127) : m.b.size ≤ 127 := by
  obtain ⟨-, hn⟩ := may_of h
  by_cases h5 : m.k = 5 ∨ m.k = 8
  · have e : val m = m.b := by unfold val; rw [if_neg (by omega), if_neg (by omega), if_neg (by omega), if_pos h5]
    rw [e] at hv
    exact hv
  · have := congrArg Ms.b hn
    rw [show (need m).b = no from if_neg h5] at this
    rw [this]
    show 0 ≤ 127; decide
theorem law_far (oa : Option Addr) (n cap : Nat) (z : ByteArray) (w : World) (ht : Tab w) (h : 20 < n ∨ n ≤ 20 ∧ 300 < z.size) :
    Calls Tryd.prog 5 #[.slice oa n cap, .string z] w fun e w' => e = .returned (.bool true) ∧ Below w.heap.size w w' := by
  have HT := Lib.hid ht
  clear ht
  rcases h with h | ⟨h, h'⟩
  · have h1 : decide ((20 : Int) < (n : Int)) = true := by simp; omega
    go_enter Tryd.func5, Tryd.ntmps5
    go_wp2_with (first
      | (go_at_call 7; ((with_reducible refine (works _ HT.out).mono ?_); rintro e w2 ⟨rfl, hb⟩; have HB := Lib.hid hb; clear hb)))
    go_ret
    exact ⟨rfl, HB.out⟩
  · have h1 : decide ((20 : Int) < (n : Int)) = false := by simp; omega
    have h2 : decide ((300 : Int) < (z.size : Int)) = true := by simp; omega
    go_enter Tryd.func5, Tryd.ntmps5
    go_wp2_with (first
      | (go_at_call 7; ((with_reducible refine (works _ HT.out).mono ?_); rintro e w2 ⟨rfl, hb⟩; have HB := Lib.hid hb; clear hb)))
    go_ret
    exact ⟨rfl, HB.out⟩
set_option maxHeartbeats 2000000 in
theorem law (oa : Option Addr) (n cap : Nat) (F : Nat → Ms) (z : ByteArray) (hz : z.size ≤ maxLen) (w : World) (ht : Tab w) (hA : ArgS 20 ml Fits w oa n F) :
    Calls Tryd.prog 5 #[.slice oa n cap, .string z] w fun e w' => e = .returned (.bool true) ∧ Below w.heap.size w w' := by
  unfold maxLen at hz
  by_cases h : 20 < n
  · exact law_far oa n cap z w ht (.inl h)
  by_cases h' : 300 < z.size
  · exact law_far oa n cap z w ht (.inr ⟨by omega, h'⟩)
  have HA := Lib.hid hA
  have HT := Lib.hid ht
  have h1 : decide ((20 : Int) < (n : Int)) = false := by simp; omega
  have h2 : decide ((300 : Int) < (z.size : Int)) = false := by simp; omega
  have HN := Lib.hid (fun m w => (run_neM m m w).trans (by rw [eqM_self]; rfl : _ = Result.ok (Value.bool false) w))
  clear hA ht
  go_enter Tryd.func5, Tryd.ntmps5
  go_wp2
  clear h1 h2
  go_loopw [5, 6, 7] (fun sv v i wr => ∃ (s : ByteArray) (k : Nat) (l : List Ms), sv = .string s ∧ k ≤ n ∧ i = .int .i64 (k : Int) ∧ Hid (At w k s v wr l)) (fun _ _ i _ => n - (intOf i).toNat)
  case atStart => exact ⟨_, 0, [], rfl, Nat.zero_le _, rfl, Lib.hid ⟨Below.refl _ _, ownS_nil _ _, Nat.le_refl _, fun x hx => absurd hx (by simp), rfl⟩⟩
  case round =>
    obtain ⟨s, k, l, rfl, hk, rfl, HR⟩ := hrel
    have hss := HR.out.size (by omega)
    by_cases hlt : k < n
    · obtain ⟨a, rfl, gb, go, ha, hgb, hrw⟩ := ArgS.at' (z := 20) (fc := ml) (by decide) ml_len HA.out hlt
      obtain ⟨hin, hxb⟩ := HA.out.inb k hlt
      obtain ⟨m, hm⟩ : ∃ m, F k = m := ⟨_, rfl⟩
      rw [hm] at hrw hin hxb
      have HRng : Hid (∀ W, Below w.heap.size w W → W.rangeAt gb go (ml m)) := Lib.hid (fun W hb j v hv => (hb.cell (p := ⟨gb, go + j, none⟩) hgb).trans ((hrw j (List.getElem?_eq_some_iff.1 hv).1).trans hv))
      have c19 : wr.cell? ⟨gb, go + 19, none⟩ = some (.string m.b) := HRng.out wr HR.out.base 19 _ rfl
      have j0 : (0 : Int) ≤ (k : Int) := by omega
      have j1 : (k : Int) < (n : Int) := by omega
      unfold maxLen at hxb
      clear hrw hm
      by_cases hv : 127 < m.b.size
      · have hv' : decide ((127 : Int) < (m.b.size : Int)) = true := by simp; omega
        clear hin
        go_wp2_with (first
          | (go_at_call 7; ((with_reducible refine (works _ (tab_below HT.out HR.out.base)).mono ?_); rintro e w2 ⟨rfl, hb⟩; have HB2 := Lib.hid (below_on HR.out.base hb); clear hb)))
        go_ret
        exact ⟨rfl, HB2.out⟩
      · have hv' : decide ((127 : Int) < (m.b.size : Int)) = false := by simp; omega
        have CP := Lib.hid (fun w h => fput m hin (by omega) w h)
        have CM := Lib.hid (fun w h => fmay m hin w h)
        cases hmay : may m
        · have hE : putE m = 2 := by unfold putE; rw [hmay]; rfl
          rw [hE] at CP
          rw [hmay] at CM
          generalize putS m = t at CP
          clear hE hmay hin
          go_wp2_with (first
            | ((with_reducible refine ldr isM (HRng.out _ HR.out.base) ?hx ?_); (case hx => rfl))
            | (go_at_call 8; ((with_reducible refine (CP.out _ (tab_below HT.out HR.out.base)).mono ?_); rintro e wx ⟨rfl, hb⟩; have HBX := Lib.hid (below_on HR.out.base hb); have HOX := Lib.hid (HR.out.own.below hb); clear hb)))
          have HTX := Lib.hid (tab_below HT.out HBX.out)
          refine wp_region_held_drew (S := fun w' => Below wx.heap.size wx w') (by kernel_rfl) (Below.refl _ _).drew (fun hHeld => ?_)
          refine' wpAnyH_take (i := 0) (oi := { dst := some 49, op := Go.Op.move (Go.Operand.tmp 9), type := 29, pos := "law.go:68", after := #[], guard := none }) (v := _) rfl (by kernel_rfl) (by kernel_rfl) (by kernel_rfl) (fun _ _ _ h => h) (Or.inl ⟨by rfl, ?hy26⟩) (by assumption) ?hr26
          case hy26 => (intro _ hSw; (try dsimp only at hSw); go_simp <;> with_reducible rfl)
          simp only [Act.put, List.setIfInBounds_toArray, List.set_cons_zero, List.set_cons_succ]
          refine' wpAnyH_take (i := 1) (oi := { dst := some 50, op := Go.Op.binOp Go.BinOp.eql 29 (Go.Operand.tmp 49) (Go.Operand.const (Go.Value.int Go.IntKind.i64 0)) 29, type := 4, pos := "law.go:68", after := #[{ on := 0, ground := Go.Ground.data }], guard := none }) (v := _) rfl (by kernel_rfl) (by kernel_rfl) (by kernel_rfl) (fun _ _ _ h => h) (Or.inl ⟨by rfl, ?hy27⟩) (by assumption) ?hr27
          case hy27 => (intro _ hSw; (try dsimp only at hSw); go_simp <;> with_reducible rfl)
          simp only [Act.put, List.setIfInBounds_toArray, List.set_cons_zero, List.set_cons_succ]
          refine' wpAnyH_take (i := 2) (oi := { dst := some 51, op := Go.Op.move (Go.Operand.tmp 0), type := 49, pos := "law.go:68", after := #[], guard := none }) (v := _) rfl (by kernel_rfl) (by kernel_rfl) (by kernel_rfl) (fun _ _ _ h => h) (Or.inl ⟨by rfl, ?hy28⟩) (by assumption) ?hr28
          case hy28 => (intro _ hSw; (try dsimp only at hSw); go_simp <;> with_reducible rfl)
          simp only [Act.put, List.setIfInBounds_toArray, List.set_cons_zero, List.set_cons_succ]
          refine' wpAnyH_take (i := 3) (oi := { dst := some 52, op := Go.Op.move (Go.Operand.tmp 7), type := 3, pos := "law.go:68", after := #[], guard := none }) (v := _) rfl (by kernel_rfl) (by kernel_rfl) (by kernel_rfl) (fun _ _ _ h => h) (Or.inl ⟨by rfl, ?hy29⟩) (by assumption) ?hr29
          case hy29 => (intro _ hSw; (try dsimp only at hSw); go_simp <;> with_reducible rfl)
          simp only [Act.put, List.setIfInBounds_toArray, List.set_cons_zero, List.set_cons_succ]
          refine' wpAnyH_take (i := 4) (oi := { dst := some 53, op := Go.Op.indexAddr 49 (Go.Operand.tmp 51) (Go.Operand.tmp 52), type := 0, pos := "law.go:68", after := #[{ on := 2, ground := Go.Ground.data }, { on := 3, ground := Go.Ground.data }], guard := none }) (v := _) rfl (by kernel_rfl) (by kernel_rfl) (by kernel_rfl) (fun _ _ _ h => h) (Or.inl ⟨by rfl, ?hy30⟩) (by assumption) ?hr30
          case hy30 => (intro _ hSw; (try dsimp only at hSw); go_simp <;> with_reducible rfl)
          simp only [Act.put, List.setIfInBounds_toArray, List.set_cons_zero, List.set_cons_succ]
          refine' wpAnyH_take (i := 5) (oi := { dst := some 54, op := Go.Op.load 27 (Go.Operand.tmp 53), type := 27, pos := "law.go:68", after := #[{ on := 4, ground := Go.Ground.data }], guard := none }) (v := _) rfl (by kernel_rfl) (by kernel_rfl) (by kernel_rfl) (fun _ _ _ h => h) (Or.inl ⟨by rfl, ?hy31⟩) (by assumption) ?hr31
          case hy31 => (intro _ hSw; (try dsimp only at hSw); refine ex_ldr isM (HRng.out _ (below_on HBX.out hSw)) ?_; rfl)
          simp only [Act.put, List.setIfInBounds_toArray, List.set_cons_zero, List.set_cons_succ]
          refine wpAnyH_ready (rs := [6]) (by kernel_rfl) (by simp) ?_
          refine AllReadyH.cons (o := { dst := some 55, op := Go.Op.call { callee := Go.Callee.value (Go.Operand.func 11), args := #[Go.Operand.tmp 54], argTypes := #[27] }, type := 4, pos := "law.go:68", after := #[{ on := 5, ground := Go.Ground.data }], guard := none }) rfl (fun K hK => ?_) AllReadyH.nil
          go_simp
          (with_reducible refine (CM.out _ (tab_below HTX.out (by assumption))).mono ?_)
          rintro e wc ⟨rfl, hb⟩
          go_wp2_with fail
          refine hK.out _ _ (below_on hHeld hb) (fun hNext => ?_)
          clear hK K hHeld hb
          have hHeld := hNext
          clear hNext
          (try simp only [Act.put, List.setIfInBounds_toArray, List.set_cons_zero, List.set_cons_succ])
          refine' wpAnyH_take (i := 7) (oi := { dst := some 56, op := Go.Op.binOp Go.BinOp.neq 4 (Go.Operand.tmp 50) (Go.Operand.tmp 55) 4, type := 4, pos := "law.go:68", after := #[{ on := 1, ground := Go.Ground.data }, { on := 6, ground := Go.Ground.data }], guard := none }) (v := _) rfl (by kernel_rfl) (by kernel_rfl) (by kernel_rfl) (fun _ _ _ h => h) (Or.inl ⟨by rfl, ?hy32⟩) (by assumption) ?hr32
          case hy32 => (intro _ hSw; (try dsimp only at hSw); go_simp <;> with_reducible rfl)
          simp only [Act.put, List.setIfInBounds_toArray, List.set_cons_zero, List.set_cons_succ]
          refine' wpAnyH_take (i := 8) (oi := { dst := some 57, op := Go.Op.move (Go.Operand.tmp 56), type := 4, pos := "law.go:68", after := #[{ on := 7, ground := Go.Ground.data }, { on := 6, ground := Go.Ground.chain }], guard := none }) (v := _) rfl (by kernel_rfl) (by kernel_rfl) (by kernel_rfl) (fun _ _ _ h => h) (Or.inl ⟨by rfl, ?hy33⟩) (by assumption) ?hr33
          case hy33 => (intro _ hSw; (try dsimp only at hSw); go_simp <;> with_reducible rfl)
          simp only [Act.put, List.setIfInBounds_toArray, List.set_cons_zero, List.set_cons_succ]
          refine' wpAnyH_take (i := 9) (oi := { dst := some 58, op := Go.Op.move (Go.Operand.tmp 9), type := 29, pos := "law.go:68", after := #[{ on := 8, ground := Go.Ground.guard }], guard := some (8, false) }) (v := _) rfl (by kernel_rfl) (by kernel_rfl) (by kernel_rfl) (fun _ _ _ h => h) (Or.inl ⟨by rfl, ?hy34⟩) (by assumption) ?hr34
          case hy34 => (intro _ hSw; (try dsimp only at hSw); go_simp <;> with_reducible rfl)
          simp only [Act.put, List.setIfInBounds_toArray, List.set_cons_zero, List.set_cons_succ]
          refine' wpAnyH_take (i := 10) (oi := { dst := some 59, op := Go.Op.binOp Go.BinOp.eql 29 (Go.Operand.tmp 58) (Go.Operand.const (Go.Value.int Go.IntKind.i64 0)) 29, type := 4, pos := "law.go:68", after := #[{ on := 9, ground := Go.Ground.data }, { on := 8, ground := Go.Ground.guard }], guard := some (8, false) }) (v := _) rfl (by kernel_rfl) (by kernel_rfl) (by kernel_rfl) (fun _ _ _ h => h) (Or.inl ⟨by rfl, ?hy35⟩) (by assumption) ?hr35
          case hy35 => (intro _ hSw; (try dsimp only at hSw); go_simp <;> with_reducible rfl)
          simp only [Act.put, List.setIfInBounds_toArray, List.set_cons_zero, List.set_cons_succ]
          refine' wpAnyH_take (i := 11) (oi := { dst := some 60, op := Go.Op.move (Go.Operand.tmp 59), type := 4, pos := "law.go:68", after := #[{ on := 10, ground := Go.Ground.data }, { on := 8, ground := Go.Ground.chain }, { on := 8, ground := Go.Ground.guard }], guard := some (8, false) }) (v := _) rfl (by kernel_rfl) (by kernel_rfl) (by kernel_rfl) (fun _ _ _ h => h) (Or.inl ⟨by rfl, ?hy36⟩) (by assumption) ?hr36
          case hy36 => (intro _ hSw; (try dsimp only at hSw); go_simp <;> with_reducible rfl)
          simp only [Act.put, List.setIfInBounds_toArray, List.set_cons_zero, List.set_cons_succ]
          refine wpAnyH_take (i := 12) (oi := { dst := some 61, op := Go.Op.move (Go.Operand.tmp 8), type := 9, pos := "law.go:68", after := #[{ on := 11, ground := Go.Ground.guard }], guard := some (11, true) }) (v := undef) rfl (by kernel_rfl) (by kernel_rfl) (by kernel_rfl) (fun _ _ _ h => h) (Or.inr ⟨by rfl, rfl⟩) (by assumption) ?_
          simp only [Act.put, List.setIfInBounds_toArray, List.set_cons_zero, List.set_cons_succ]
          refine wpAnyH_take (i := 13) (oi := { dst := some 62, op := Go.Op.call { callee := Go.Callee.builtin Go.Builtin.len, args := #[Go.Operand.tmp 61], argTypes := #[9] }, type := 3, pos := "law.go:68", after := #[{ on := 12, ground := Go.Ground.data }, { on := 11, ground := Go.Ground.guard }], guard := some (11, true) }) (v := undef) rfl (by kernel_rfl) (by kernel_rfl) (by kernel_rfl) (fun _ _ _ h => h) (Or.inr ⟨by rfl, rfl⟩) (by assumption) ?_
          simp only [Act.put, List.setIfInBounds_toArray, List.set_cons_zero, List.set_cons_succ]
          refine wpAnyH_take (i := 14) (oi := { dst := some 63, op := Go.Op.binOp Go.BinOp.lss 3 (Go.Operand.tmp 62) (Go.Operand.const (Go.Value.int Go.IntKind.i64 2)) 3, type := 4, pos := "law.go:68", after := #[{ on := 13, ground := Go.Ground.data }, { on := 11, ground := Go.Ground.guard }], guard := some (11, true) }) (v := undef) rfl (by kernel_rfl) (by kernel_rfl) (by kernel_rfl) (fun _ _ _ h => h) (Or.inr ⟨by rfl, rfl⟩) (by assumption) ?_
          simp only [Act.put, List.setIfInBounds_toArray, List.set_cons_zero, List.set_cons_succ]
          refine wpAnyH_take (i := 15) (oi := { dst := some 64, op := Go.Op.move (Go.Operand.tmp 63), type := 4, pos := "law.go:68", after := #[{ on := 14, ground := Go.Ground.data }, { on := 11, ground := Go.Ground.chain }, { on := 11, ground := Go.Ground.guard }], guard := some (11, true) }) (v := undef) rfl (by kernel_rfl) (by kernel_rfl) (by kernel_rfl) (fun _ _ _ h => h) (Or.inr ⟨by rfl, rfl⟩) (by assumption) ?_
          simp only [Act.put, List.setIfInBounds_toArray, List.set_cons_zero, List.set_cons_succ]
          refine wpAnyH_take (i := 16) (oi := { dst := some 65, op := Go.Op.move (Go.Operand.tmp 8), type := 9, pos := "law.go:68", after := #[{ on := 15, ground := Go.Ground.guard }], guard := some (15, false) }) (v := undef) rfl (by kernel_rfl) (by kernel_rfl) (by kernel_rfl) (fun _ _ _ h => h) (Or.inr ⟨by rfl, rfl⟩) (by assumption) ?_
          simp only [Act.put, List.setIfInBounds_toArray, List.set_cons_zero, List.set_cons_succ]
          refine wpAnyH_take (i := 17) (oi := { dst := some 66, op := Go.Op.index 9 (Go.Operand.tmp 65) (Go.Operand.const (Go.Value.int Go.IntKind.i64 0)), type := 5, pos := "law.go:68", after := #[{ on := 16, ground := Go.Ground.data }, { on := 15, ground := Go.Ground.guard }], guard := some (15, false) }) (v := undef) rfl (by kernel_rfl) (by kernel_rfl) (by kernel_rfl) (fun _ _ _ h => h) (Or.inr ⟨by rfl, rfl⟩) (by assumption) ?_
          simp only [Act.put, List.setIfInBounds_toArray, List.set_cons_zero, List.set_cons_succ]
          refine wpAnyH_take (i := 18) (oi := { dst := some 67, op := Go.Op.move (Go.Operand.tmp 0), type := 49, pos := "law.go:68", after := #[{ on := 15, ground := Go.Ground.guard }], guard := some (15, false) }) (v := undef) rfl (by kernel_rfl) (by kernel_rfl) (by kernel_rfl) (fun _ _ _ h => h) (Or.inr ⟨by rfl, rfl⟩) (by assumption) ?_
          simp only [Act.put, List.setIfInBounds_toArray, List.set_cons_zero, List.set_cons_succ]
          refine wpAnyH_take (i := 19) (oi := { dst := some 68, op := Go.Op.move (Go.Operand.tmp 7), type := 3, pos := "law.go:68", after := #[{ on := 15, ground := Go.Ground.guard }], guard := some (15, false) }) (v := undef) rfl (by kernel_rfl) (by kernel_rfl) (by kernel_rfl) (fun _ _ _ h => h) (Or.inr ⟨by rfl, rfl⟩) (by assumption) ?_
          simp only [Act.put, List.setIfInBounds_toArray, List.set_cons_zero, List.set_cons_succ]
          refine wpAnyH_take (i := 20) (oi := { dst := some 69, op := Go.Op.indexAddr 49 (Go.Operand.tmp 67) (Go.Operand.tmp 68), type := 0, pos := "law.go:68", after := #[{ on := 18, ground := Go.Ground.data }, { on := 19, ground := Go.Ground.data }, { on := 15, ground := Go.Ground.guard }], guard := some (15, false) }) (v := undef) rfl (by kernel_rfl) (by kernel_rfl) (by kernel_rfl) (fun _ _ _ h => h) (Or.inr ⟨by rfl, rfl⟩) (by assumption) ?_
          simp only [Act.put, List.setIfInBounds_toArray, List.set_cons_zero, List.set_cons_succ]
          refine wpAnyH_take (i := 21) (oi := { dst := some 70, op := Go.Op.load 27 (Go.Operand.tmp 69), type := 27, pos := "law.go:68", after := #[{ on := 20, ground := Go.Ground.data }, { on := 15, ground := Go.Ground.guard }], guard := some (15, false) }) (v := undef) rfl (by kernel_rfl) (by kernel_rfl) (by kernel_rfl) (fun _ _ _ h => h) (Or.inr ⟨by rfl, rfl⟩) (by assumption) ?_
          simp only [Act.put, List.setIfInBounds_toArray, List.set_cons_zero, List.set_cons_succ]
          refine wpAnyH_take (i := 22) (oi := { dst := some 71, op := Go.Op.call { callee := Go.Callee.value (Go.Operand.func 13), args := #[Go.Operand.tmp 70], argTypes := #[27] }, type := 5, pos := "law.go:68", after := #[{ on := 21, ground := Go.Ground.data }, { on := 15, ground := Go.Ground.chain }, { on := 15, ground := Go.Ground.guard }], guard := some (15, false) }) (v := undef) rfl (by kernel_rfl) (by kernel_rfl) (by kernel_rfl) (fun _ _ _ h => h) (Or.inr ⟨by rfl, rfl⟩) (by assumption) ?_
          simp only [Act.put, List.setIfInBounds_toArray, List.set_cons_zero, List.set_cons_succ]
          refine wpAnyH_take (i := 23) (oi := { dst := some 72, op := Go.Op.binOp Go.BinOp.neq 5 (Go.Operand.tmp 66) (Go.Operand.tmp 71) 5, type := 4, pos := "law.go:68", after := #[{ on := 17, ground := Go.Ground.data }, { on := 22, ground := Go.Ground.data }, { on := 15, ground := Go.Ground.guard }], guard := some (15, false) }) (v := undef) rfl (by kernel_rfl) (by kernel_rfl) (by kernel_rfl) (fun _ _ _ h => h) (Or.inr ⟨by rfl, rfl⟩) (by assumption) ?_
          simp only [Act.put, List.setIfInBounds_toArray, List.set_cons_zero, List.set_cons_succ]
          refine wpAnyH_take (i := 24) (oi := { dst := some 73, op := Go.Op.pick (Go.Operand.tmp 64) (Go.Operand.const (Go.Value.bool true)) (Go.Operand.tmp 72), type := 4, pos := "law.go:68", after := #[{ on := 15, ground := Go.Ground.data }, { on := 23, ground := Go.Ground.data }, { on := 11, ground := Go.Ground.guard }], guard := some (11, true) }) (v := undef) rfl (by kernel_rfl) (by kernel_rfl) (by kernel_rfl) (fun _ _ _ h => h) (Or.inr ⟨by rfl, rfl⟩) (by assumption) ?_
          simp only [Act.put, List.setIfInBounds_toArray, List.set_cons_zero, List.set_cons_succ]
          refine' wpAnyH_take (i := 25) (oi := { dst := some 74, op := Go.Op.pick (Go.Operand.tmp 60) (Go.Operand.tmp 73) (Go.Operand.const (Go.Value.bool false)), type := 4, pos := "law.go:68", after := #[{ on := 11, ground := Go.Ground.data }, { on := 24, ground := Go.Ground.data }, { on := 8, ground := Go.Ground.guard }], guard := some (8, false) }) (v := _) rfl (by kernel_rfl) (by kernel_rfl) (by kernel_rfl) (fun _ _ _ h => h) (Or.inl ⟨by rfl, ?hy37⟩) (by assumption) ?hr37
          case hy37 => (intro _ hSw; (try dsimp only at hSw); go_simp <;> with_reducible rfl)
          simp only [Act.put, List.setIfInBounds_toArray, List.set_cons_zero, List.set_cons_succ]
          refine' wpAnyH_take (i := 26) (oi := { dst := some 75, op := Go.Op.pick (Go.Operand.tmp 57) (Go.Operand.const (Go.Value.bool true)) (Go.Operand.tmp 74), type := 4, pos := "law.go:68", after := #[{ on := 8, ground := Go.Ground.data }, { on := 25, ground := Go.Ground.data }], guard := none }) (v := _) rfl (by kernel_rfl) (by kernel_rfl) (by kernel_rfl) (fun _ _ _ h => h) (Or.inl ⟨by rfl, ?hy38⟩) (by assumption) ?hr38
          case hy38 => (intro _ hSw; (try dsimp only at hSw); go_simp <;> with_reducible rfl)
          simp only [Act.put, List.setIfInBounds_toArray, List.set_cons_zero, List.set_cons_succ]
          refine wpAnyH_done (by kernel_rfl) ?_ _
          have HB3 := Lib.hid (below_on HBX.out hHeld)
          have HO3 := Lib.hid (HOX.out.below hHeld)
          clear hHeld
          go_wp2
          go_roundw
          case rel => exact ⟨s, k + 1, l, rfl, by omega, by go_num, Lib.hid ⟨HB3.out, HO3.out, by have := HR.out.few; omega, HR.out.ok, HR.out.eq⟩⟩
          case measure => simp [intOf]; omega
        · have hvs := val_size (m := m) (by omega)
          obtain ⟨hE, hS, hOk⟩ := bytes_of hmay hvs
          have hok : Hid (m.Ok) := Lib.hid ⟨hin, hmay, hvs⟩
          have hsz := putS_size hE
          obtain ⟨hp0, hp1⟩ := putS_first hE
          have CO := Lib.hid (fun w h => foctet m hin w h)
          rw [hE] at CP
          rw [hmay] at CM
          rw [← hp1] at CO
          have i0 : ∀ W, (Instr.index 9 (.string (putS m)) (.int .i64 0)).run Tryd.prog W = .ok (.int .u8 ((putS m)[0].toNat : Int)) W := fun W => at_string (putS m) 0 hp0 _ rfl W
          have HTp : Hid (putS m = putS m) := Lib.hid rfl
          have htz : (putS m).size ≤ 129 := by omega
          have htz2 : decide (((putS m).size : Int) < 2) = false := by simp; omega
          generalize (putS m)[0].toNat = q at *
          clear hS hOk hsz hp1 hp0 hE hvs hmay hin
          obtain ⟨t, htt⟩ : ∃ t, putS m = t := ⟨_, rfl⟩
          rw [htt] at CP i0 htz htz2
          replace HTp := Lib.hid htt
          clear htt
          go_wp2_with (first
            | ((with_reducible refine ldr isM (HRng.out _ HR.out.base) ?hx ?_); (case hx => rfl))
            | (go_at_call 8; ((with_reducible refine (CP.out _ (tab_below HT.out HR.out.base)).mono ?_); rintro e wx ⟨rfl, hb⟩; have HBX := Lib.hid (below_on HR.out.base hb); have HOX := Lib.hid (HR.out.own.below hb); clear hb)))
          have HTX := Lib.hid (tab_below HT.out HBX.out)
          refine wp_region_held_drew (S := fun w' => Below wx.heap.size wx w') (by kernel_rfl) (Below.refl _ _).drew (fun hHeld => ?_)
          refine' wpAnyH_take (i := 0) (oi := { dst := some 49, op := Go.Op.move (Go.Operand.tmp 9), type := 29, pos := "law.go:68", after := #[], guard := none }) (v := _) rfl (by kernel_rfl) (by kernel_rfl) (by kernel_rfl) (fun _ _ _ h => h) (Or.inl ⟨by rfl, ?hy1⟩) (by assumption) ?hr1
          case hy1 => (intro _ hSw; (try dsimp only at hSw); go_simp <;> with_reducible rfl)
          simp only [Act.put, List.setIfInBounds_toArray, List.set_cons_zero, List.set_cons_succ]
          refine' wpAnyH_take (i := 1) (oi := { dst := some 50, op := Go.Op.binOp Go.BinOp.eql 29 (Go.Operand.tmp 49) (Go.Operand.const (Go.Value.int Go.IntKind.i64 0)) 29, type := 4, pos := "law.go:68", after := #[{ on := 0, ground := Go.Ground.data }], guard := none }) (v := _) rfl (by kernel_rfl) (by kernel_rfl) (by kernel_rfl) (fun _ _ _ h => h) (Or.inl ⟨by rfl, ?hy2⟩) (by assumption) ?hr2
          case hy2 => (intro _ hSw; (try dsimp only at hSw); go_simp <;> with_reducible rfl)
          simp only [Act.put, List.setIfInBounds_toArray, List.set_cons_zero, List.set_cons_succ]
          refine' wpAnyH_take (i := 2) (oi := { dst := some 51, op := Go.Op.move (Go.Operand.tmp 0), type := 49, pos := "law.go:68", after := #[], guard := none }) (v := _) rfl (by kernel_rfl) (by kernel_rfl) (by kernel_rfl) (fun _ _ _ h => h) (Or.inl ⟨by rfl, ?hy3⟩) (by assumption) ?hr3
          case hy3 => (intro _ hSw; (try dsimp only at hSw); go_simp <;> with_reducible rfl)
          simp only [Act.put, List.setIfInBounds_toArray, List.set_cons_zero, List.set_cons_succ]
          refine' wpAnyH_take (i := 3) (oi := { dst := some 52, op := Go.Op.move (Go.Operand.tmp 7), type := 3, pos := "law.go:68", after := #[], guard := none }) (v := _) rfl (by kernel_rfl) (by kernel_rfl) (by kernel_rfl) (fun _ _ _ h => h) (Or.inl ⟨by rfl, ?hy4⟩) (by assumption) ?hr4
          case hy4 => (intro _ hSw; (try dsimp only at hSw); go_simp <;> with_reducible rfl)
          simp only [Act.put, List.setIfInBounds_toArray, List.set_cons_zero, List.set_cons_succ]
          refine' wpAnyH_take (i := 4) (oi := { dst := some 53, op := Go.Op.indexAddr 49 (Go.Operand.tmp 51) (Go.Operand.tmp 52), type := 0, pos := "law.go:68", after := #[{ on := 2, ground := Go.Ground.data }, { on := 3, ground := Go.Ground.data }], guard := none }) (v := _) rfl (by kernel_rfl) (by kernel_rfl) (by kernel_rfl) (fun _ _ _ h => h) (Or.inl ⟨by rfl, ?hy5⟩) (by assumption) ?hr5
          case hy5 => (intro _ hSw; (try dsimp only at hSw); go_simp <;> with_reducible rfl)
          simp only [Act.put, List.setIfInBounds_toArray, List.set_cons_zero, List.set_cons_succ]
          refine' wpAnyH_take (i := 5) (oi := { dst := some 54, op := Go.Op.load 27 (Go.Operand.tmp 53), type := 27, pos := "law.go:68", after := #[{ on := 4, ground := Go.Ground.data }], guard := none }) (v := _) rfl (by kernel_rfl) (by kernel_rfl) (by kernel_rfl) (fun _ _ _ h => h) (Or.inl ⟨by rfl, ?hy6⟩) (by assumption) ?hr6
          case hy6 => (intro _ hSw; (try dsimp only at hSw); refine ex_ldr isM (HRng.out _ (below_on HBX.out hSw)) ?_; rfl)
          simp only [Act.put, List.setIfInBounds_toArray, List.set_cons_zero, List.set_cons_succ]
          refine wpAnyH_ready (rs := [6]) (by kernel_rfl) (by simp) ?_
          refine AllReadyH.cons (o := { dst := some 55, op := Go.Op.call { callee := Go.Callee.value (Go.Operand.func 11), args := #[Go.Operand.tmp 54], argTypes := #[27] }, type := 4, pos := "law.go:68", after := #[{ on := 5, ground := Go.Ground.data }], guard := none }) rfl (fun K hK => ?_) AllReadyH.nil
          go_simp
          (with_reducible refine (CM.out _ (tab_below HTX.out (by assumption))).mono ?_)
          rintro e wc ⟨rfl, hb⟩
          go_wp2_with fail
          refine hK.out _ _ (below_on hHeld hb) (fun hNext => ?_)
          clear hK K hHeld hb
          have hHeld := hNext
          clear hNext
          (try simp only [Act.put, List.setIfInBounds_toArray, List.set_cons_zero, List.set_cons_succ])
          refine' wpAnyH_take (i := 7) (oi := { dst := some 56, op := Go.Op.binOp Go.BinOp.neq 4 (Go.Operand.tmp 50) (Go.Operand.tmp 55) 4, type := 4, pos := "law.go:68", after := #[{ on := 1, ground := Go.Ground.data }, { on := 6, ground := Go.Ground.data }], guard := none }) (v := _) rfl (by kernel_rfl) (by kernel_rfl) (by kernel_rfl) (fun _ _ _ h => h) (Or.inl ⟨by rfl, ?hy7⟩) (by assumption) ?hr7
          case hy7 => (intro _ hSw; (try dsimp only at hSw); go_simp <;> with_reducible rfl)
          simp only [Act.put, List.setIfInBounds_toArray, List.set_cons_zero, List.set_cons_succ]
          refine' wpAnyH_take (i := 8) (oi := { dst := some 57, op := Go.Op.move (Go.Operand.tmp 56), type := 4, pos := "law.go:68", after := #[{ on := 7, ground := Go.Ground.data }, { on := 6, ground := Go.Ground.chain }], guard := none }) (v := _) rfl (by kernel_rfl) (by kernel_rfl) (by kernel_rfl) (fun _ _ _ h => h) (Or.inl ⟨by rfl, ?hy8⟩) (by assumption) ?hr8
          case hy8 => (intro _ hSw; (try dsimp only at hSw); go_simp <;> with_reducible rfl)
          simp only [Act.put, List.setIfInBounds_toArray, List.set_cons_zero, List.set_cons_succ]
          refine' wpAnyH_take (i := 9) (oi := { dst := some 58, op := Go.Op.move (Go.Operand.tmp 9), type := 29, pos := "law.go:68", after := #[{ on := 8, ground := Go.Ground.guard }], guard := some (8, false) }) (v := _) rfl (by kernel_rfl) (by kernel_rfl) (by kernel_rfl) (fun _ _ _ h => h) (Or.inl ⟨by rfl, ?hy9⟩) (by assumption) ?hr9
          case hy9 => (intro _ hSw; (try dsimp only at hSw); go_simp <;> with_reducible rfl)
          simp only [Act.put, List.setIfInBounds_toArray, List.set_cons_zero, List.set_cons_succ]
          refine' wpAnyH_take (i := 10) (oi := { dst := some 59, op := Go.Op.binOp Go.BinOp.eql 29 (Go.Operand.tmp 58) (Go.Operand.const (Go.Value.int Go.IntKind.i64 0)) 29, type := 4, pos := "law.go:68", after := #[{ on := 9, ground := Go.Ground.data }, { on := 8, ground := Go.Ground.guard }], guard := some (8, false) }) (v := _) rfl (by kernel_rfl) (by kernel_rfl) (by kernel_rfl) (fun _ _ _ h => h) (Or.inl ⟨by rfl, ?hy10⟩) (by assumption) ?hr10
          case hy10 => (intro _ hSw; (try dsimp only at hSw); go_simp <;> with_reducible rfl)
          simp only [Act.put, List.setIfInBounds_toArray, List.set_cons_zero, List.set_cons_succ]
          refine' wpAnyH_take (i := 11) (oi := { dst := some 60, op := Go.Op.move (Go.Operand.tmp 59), type := 4, pos := "law.go:68", after := #[{ on := 10, ground := Go.Ground.data }, { on := 8, ground := Go.Ground.chain }, { on := 8, ground := Go.Ground.guard }], guard := some (8, false) }) (v := _) rfl (by kernel_rfl) (by kernel_rfl) (by kernel_rfl) (fun _ _ _ h => h) (Or.inl ⟨by rfl, ?hy11⟩) (by assumption) ?hr11
          case hy11 => (intro _ hSw; (try dsimp only at hSw); go_simp <;> with_reducible rfl)
          simp only [Act.put, List.setIfInBounds_toArray, List.set_cons_zero, List.set_cons_succ]
          refine' wpAnyH_take (i := 12) (oi := { dst := some 61, op := Go.Op.move (Go.Operand.tmp 8), type := 9, pos := "law.go:68", after := #[{ on := 11, ground := Go.Ground.guard }], guard := some (11, true) }) (v := _) rfl (by kernel_rfl) (by kernel_rfl) (by kernel_rfl) (fun _ _ _ h => h) (Or.inl ⟨by rfl, ?hy12⟩) (by assumption) ?hr12
          case hy12 => (intro _ hSw; (try dsimp only at hSw); go_simp <;> with_reducible rfl)
          simp only [Act.put, List.setIfInBounds_toArray, List.set_cons_zero, List.set_cons_succ]
          refine' wpAnyH_take (i := 13) (oi := { dst := some 62, op := Go.Op.call { callee := Go.Callee.builtin Go.Builtin.len, args := #[Go.Operand.tmp 61], argTypes := #[9] }, type := 3, pos := "law.go:68", after := #[{ on := 12, ground := Go.Ground.data }, { on := 11, ground := Go.Ground.guard }], guard := some (11, true) }) (v := _) rfl (by kernel_rfl) (by kernel_rfl) (by kernel_rfl) (fun _ _ _ h => h) (Or.inl ⟨by rfl, ?hy13⟩) (by assumption) ?hr13
          case hy13 => (intro _ hSw; (try dsimp only at hSw); go_simp <;> with_reducible rfl)
          simp only [Act.put, List.setIfInBounds_toArray, List.set_cons_zero, List.set_cons_succ]
          refine' wpAnyH_take (i := 14) (oi := { dst := some 63, op := Go.Op.binOp Go.BinOp.lss 3 (Go.Operand.tmp 62) (Go.Operand.const (Go.Value.int Go.IntKind.i64 2)) 3, type := 4, pos := "law.go:68", after := #[{ on := 13, ground := Go.Ground.data }, { on := 11, ground := Go.Ground.guard }], guard := some (11, true) }) (v := _) rfl (by kernel_rfl) (by kernel_rfl) (by kernel_rfl) (fun _ _ _ h => h) (Or.inl ⟨by rfl, ?hy14⟩) (by assumption) ?hr14
          case hy14 => (intro _ hSw; (try dsimp only at hSw); go_simp <;> with_reducible rfl)
          simp only [Act.put, List.setIfInBounds_toArray, List.set_cons_zero, List.set_cons_succ]
          refine' wpAnyH_take (i := 15) (oi := { dst := some 64, op := Go.Op.move (Go.Operand.tmp 63), type := 4, pos := "law.go:68", after := #[{ on := 14, ground := Go.Ground.data }, { on := 11, ground := Go.Ground.chain }, { on := 11, ground := Go.Ground.guard }], guard := some (11, true) }) (v := _) rfl (by kernel_rfl) (by kernel_rfl) (by kernel_rfl) (fun _ _ _ h => h) (Or.inl ⟨by rfl, ?hy15⟩) (by assumption) ?hr15
          case hy15 => (intro _ hSw; (try dsimp only at hSw); go_simp <;> with_reducible rfl)
          simp only [Act.put, List.setIfInBounds_toArray, List.set_cons_zero, List.set_cons_succ]
          refine' wpAnyH_take (i := 16) (oi := { dst := some 65, op := Go.Op.move (Go.Operand.tmp 8), type := 9, pos := "law.go:68", after := #[{ on := 15, ground := Go.Ground.guard }], guard := some (15, false) }) (v := _) rfl (by kernel_rfl) (by kernel_rfl) (by kernel_rfl) (fun _ _ _ h => h) (Or.inl ⟨by rfl, ?hy16⟩) (by assumption) ?hr16
          case hy16 => (intro _ hSw; (try dsimp only at hSw); go_simp <;> with_reducible rfl)
          simp only [Act.put, List.setIfInBounds_toArray, List.set_cons_zero, List.set_cons_succ]
          refine' wpAnyH_take (i := 17) (oi := { dst := some 66, op := Go.Op.index 9 (Go.Operand.tmp 65) (Go.Operand.const (Go.Value.int Go.IntKind.i64 0)), type := 5, pos := "law.go:68", after := #[{ on := 16, ground := Go.Ground.data }, { on := 15, ground := Go.Ground.guard }], guard := some (15, false) }) (v := _) rfl (by kernel_rfl) (by kernel_rfl) (by kernel_rfl) (fun _ _ _ h => h) (Or.inl ⟨by rfl, ?hy17⟩) (by assumption) ?hr17
          case hy17 => (intro _ hSw; (try dsimp only at hSw); go_simp <;> with_reducible rfl)
          simp only [Act.put, List.setIfInBounds_toArray, List.set_cons_zero, List.set_cons_succ]
          refine' wpAnyH_take (i := 18) (oi := { dst := some 67, op := Go.Op.move (Go.Operand.tmp 0), type := 49, pos := "law.go:68", after := #[{ on := 15, ground := Go.Ground.guard }], guard := some (15, false) }) (v := _) rfl (by kernel_rfl) (by kernel_rfl) (by kernel_rfl) (fun _ _ _ h => h) (Or.inl ⟨by rfl, ?hy18⟩) (by assumption) ?hr18
          case hy18 => (intro _ hSw; (try dsimp only at hSw); go_simp <;> with_reducible rfl)
          simp only [Act.put, List.setIfInBounds_toArray, List.set_cons_zero, List.set_cons_succ]
          refine' wpAnyH_take (i := 19) (oi := { dst := some 68, op := Go.Op.move (Go.Operand.tmp 7), type := 3, pos := "law.go:68", after := #[{ on := 15, ground := Go.Ground.guard }], guard := some (15, false) }) (v := _) rfl (by kernel_rfl) (by kernel_rfl) (by kernel_rfl) (fun _ _ _ h => h) (Or.inl ⟨by rfl, ?hy19⟩) (by assumption) ?hr19
          case hy19 => (intro _ hSw; (try dsimp only at hSw); go_simp <;> with_reducible rfl)
          simp only [Act.put, List.setIfInBounds_toArray, List.set_cons_zero, List.set_cons_succ]
          refine' wpAnyH_take (i := 20) (oi := { dst := some 69, op := Go.Op.indexAddr 49 (Go.Operand.tmp 67) (Go.Operand.tmp 68), type := 0, pos := "law.go:68", after := #[{ on := 18, ground := Go.Ground.data }, { on := 19, ground := Go.Ground.data }, { on := 15, ground := Go.Ground.guard }], guard := some (15, false) }) (v := _) rfl (by kernel_rfl) (by kernel_rfl) (by kernel_rfl) (fun _ _ _ h => h) (Or.inl ⟨by rfl, ?hy20⟩) (by assumption) ?hr20
          case hy20 => (intro _ hSw; (try dsimp only at hSw); go_simp <;> with_reducible rfl)
          simp only [Act.put, List.setIfInBounds_toArray, List.set_cons_zero, List.set_cons_succ]
          refine' wpAnyH_take (i := 21) (oi := { dst := some 70, op := Go.Op.load 27 (Go.Operand.tmp 69), type := 27, pos := "law.go:68", after := #[{ on := 20, ground := Go.Ground.data }, { on := 15, ground := Go.Ground.guard }], guard := some (15, false) }) (v := _) rfl (by kernel_rfl) (by kernel_rfl) (by kernel_rfl) (fun _ _ _ h => h) (Or.inl ⟨by rfl, ?hy21⟩) (by assumption) ?hr21
          case hy21 => (intro _ hSw; (try dsimp only at hSw); refine ex_ldr isM (HRng.out _ (below_on HBX.out hSw)) ?_; rfl)
          simp only [Act.put, List.setIfInBounds_toArray, List.set_cons_zero, List.set_cons_succ]
          refine wpAnyH_ready (rs := [22]) (by kernel_rfl) (by simp) ?_
          refine AllReadyH.cons (o := { dst := some 71, op := Go.Op.call { callee := Go.Callee.value (Go.Operand.func 13), args := #[Go.Operand.tmp 70], argTypes := #[27] }, type := 5, pos := "law.go:68", after := #[{ on := 21, ground := Go.Ground.data }, { on := 15, ground := Go.Ground.chain }, { on := 15, ground := Go.Ground.guard }], guard := some (15, false) }) rfl (fun K hK => ?_) AllReadyH.nil
          go_simp
          (with_reducible refine (CO.out _ (tab_below HTX.out (by assumption))).mono ?_)
          rintro e wc ⟨rfl, hb⟩
          go_wp2_with fail
          refine hK.out _ _ (below_on hHeld hb) (fun hNext => ?_)
          clear hK K hHeld hb
          have hHeld := hNext
          clear hNext
          (try simp only [Act.put, List.setIfInBounds_toArray, List.set_cons_zero, List.set_cons_succ])
          refine' wpAnyH_take (i := 23) (oi := { dst := some 72, op := Go.Op.binOp Go.BinOp.neq 5 (Go.Operand.tmp 66) (Go.Operand.tmp 71) 5, type := 4, pos := "law.go:68", after := #[{ on := 17, ground := Go.Ground.data }, { on := 22, ground := Go.Ground.data }, { on := 15, ground := Go.Ground.guard }], guard := some (15, false) }) (v := _) rfl (by kernel_rfl) (by kernel_rfl) (by kernel_rfl) (fun _ _ _ h => h) (Or.inl ⟨by rfl, ?hy22⟩) (by assumption) ?hr22
          case hy22 => (intro _ hSw; (try dsimp only at hSw); go_simp <;> with_reducible rfl)
          simp only [Act.put, List.setIfInBounds_toArray, List.set_cons_zero, List.set_cons_succ]
          refine' wpAnyH_take (i := 24) (oi := { dst := some 73, op := Go.Op.pick (Go.Operand.tmp 64) (Go.Operand.const (Go.Value.bool true)) (Go.Operand.tmp 72), type := 4, pos := "law.go:68", after := #[{ on := 15, ground := Go.Ground.data }, { on := 23, ground := Go.Ground.data }, { on := 11, ground := Go.Ground.guard }], guard := some (11, true) }) (v := _) rfl (by kernel_rfl) (by kernel_rfl) (by kernel_rfl) (fun _ _ _ h => h) (Or.inl ⟨by rfl, ?hy23⟩) (by assumption) ?hr23
          case hy23 => (intro _ hSw; (try dsimp only at hSw); go_simp <;> with_reducible rfl)
          simp only [Act.put, List.setIfInBounds_toArray, List.set_cons_zero, List.set_cons_succ]
          refine' wpAnyH_take (i := 25) (oi := { dst := some 74, op := Go.Op.pick (Go.Operand.tmp 60) (Go.Operand.tmp 73) (Go.Operand.const (Go.Value.bool false)), type := 4, pos := "law.go:68", after := #[{ on := 11, ground := Go.Ground.data }, { on := 24, ground := Go.Ground.data }, { on := 8, ground := Go.Ground.guard }], guard := some (8, false) }) (v := _) rfl (by kernel_rfl) (by kernel_rfl) (by kernel_rfl) (fun _ _ _ h => h) (Or.inl ⟨by rfl, ?hy24⟩) (by assumption) ?hr24
          case hy24 => (intro _ hSw; (try dsimp only at hSw); go_simp <;> with_reducible rfl)
          simp only [Act.put, List.setIfInBounds_toArray, List.set_cons_zero, List.set_cons_succ]
          refine' wpAnyH_take (i := 26) (oi := { dst := some 75, op := Go.Op.pick (Go.Operand.tmp 57) (Go.Operand.const (Go.Value.bool true)) (Go.Operand.tmp 74), type := 4, pos := "law.go:68", after := #[{ on := 8, ground := Go.Ground.data }, { on := 25, ground := Go.Ground.data }], guard := none }) (v := _) rfl (by kernel_rfl) (by kernel_rfl) (by kernel_rfl) (fun _ _ _ h => h) (Or.inl ⟨by rfl, ?hy25⟩) (by assumption) ?hr25
          case hy25 => (intro _ hSw; (try dsimp only at hSw); go_simp <;> with_reducible rfl)
          simp only [Act.put, List.setIfInBounds_toArray, List.set_cons_zero, List.set_cons_succ]
          refine wpAnyH_done (by kernel_rfl) ?_ _
          have HB3 := Lib.hid (below_on HBX.out hHeld)
          have HO3 := Lib.hid (HOX.out.below hHeld)
          clear hHeld
          go_wp2_with (first
            | ((with_reducible refine ldr isM (HRng.out _ HB3.out) ?hx ?_); (case hx => rfl))
            | ((with_reducible refine bsl (mc m) Tryd.underlying49 infoM ?hl ?hf ?_); (case hl => exact ⟨by decide, by decide⟩); (case hf => kernel_rfl); intro b4 w4 h4 F4; replace HO3 := Lib.hid (HO3.out.below F4.below); replace HB3 := Lib.hid (F4.on HB3.out); have HM := Lib.hid h4; clear h4 F4)
            | (at_builtin; refine wpList_append_elt eltM _ rfl _ _ rfl w.heap.size _ rfl l HO3.out b4 _ rfl m (row_of HM.out) (by have := HR.out.few; omega) HB3.out.size ?_; intro v' w5 ho hg _; have HO4 := Lib.hid ho; have HB4 := Lib.hid (HB3.out.grown hg HB3.out.size (fun k hk => (HO3.out.lt k hk).1)); clear ho hg))
          go_roundw
          case rel => exact ⟨s ++ t, k + 1, l ++ [m], rfl, by omega, by go_num, Lib.hid ⟨HB4.out, HO4.out, by have := HR.out.few; simp; omega, ok_snoc HR.out.ok hok.out, by rw [enc_snoc, ← HR.out.eq, HTp.out]⟩⟩
          case measure => simp [intOf]; omega
    · obtain ⟨w0, rfl⟩ : ∃ w0 : World, w0 = wr := ⟨_, rfl⟩
      have hz0 : (⟨#[0]⟩ : ByteArray).size = 1 := rfl
      have CA : Hid (∀ w, Tab w → Calls Tryd.prog 18 #[.string (s ++ ⟨#[0]⟩)] w fun e w' => ∃ v, e = .returned (.tuple #[v, .int .i64 (s.size : Int)]) ∧ OwnS 27 20 ml w' w.heap.size v l ∧ Below w.heap.size w w') := Lib.hid (fun w h => by
        have := fall (s ++ ⟨#[0]⟩) (by rw [ByteArray.size_append, hz0]; omega) w h
        unfold AllEnds at this
        rw [HR.out.eq, all_enc l HR.out.ok ⟨#[0]⟩ got_nul, ← HR.out.eq] at this
        exact this)
      obtain ⟨ua, ucap, rfl⟩ := own_slice HR.out.own
      have hl2 := HR.out.few
      go_wp2_with (first
        | (go_at_call 18; ((with_reducible refine (CA.out _ (tab_below HT.out HR.out.base)).mono ?_); rintro e w2 ⟨v, rfl, hv, hb⟩; obtain ⟨va, vcap, rfl⟩ := own_slice hv; have HV : Hid (In w w0 _ _ w2 l) := Lib.hid ⟨below_on HR.out.base hb, hv, HR.out.own.below hb⟩; clear hb hv)))
      go_loopw [12] (fun i wr => ∃ j : Nat, j ≤ l.length ∧ i = .int .i64 (j : Int) ∧ Hid (In w w0 (.slice va l.length vcap) (.slice ua l.length ucap) wr l)) (fun i _ => l.length - (intOf i).toNat)
      case atStart => exact ⟨0, Nat.zero_le _, rfl, HV⟩
      case round =>
        obtain ⟨j, hj, rfl, HI⟩ := hrel
        by_cases hjl : j < l.length
        · obtain ⟨gv, rfl, hgv⟩ := own_some HI.out.got (by omega)
          obtain ⟨gu, rfl, hgu⟩ := own_some HI.out.may (by omega)
          obtain ⟨x, hx⟩ : ∃ x, l[j]? = some x := ⟨_, List.getElem?_eq_getElem hjl⟩
          have j0 : (0 : Int) ≤ (j : Int) := by omega
          have j1 : (j : Int) < (l.length : Int) := by omega
          have HNx := HN.out x
          go_wp2_with (fail)
          refine wp_region_held_drew (S := fun w' => Below wr.heap.size wr w') (by kernel_rfl) (Below.refl _ _).drew (fun hHeld => ?_)
          refine' wpAnyH_take (i := 0) (oi := { dst := some 111, op := Go.Op.move (Go.Operand.tmp 10), type := 49, pos := "law.go:81", after := #[], guard := none }) (v := _) rfl (by kernel_rfl) (by kernel_rfl) (by kernel_rfl) (fun _ _ _ h => h) (Or.inl ⟨by rfl, ?hy39⟩) (by assumption) ?hr39
          case hy39 => (intro _ hSw; (try dsimp only at hSw); go_simp <;> with_reducible rfl)
          simp only [Act.put, List.setIfInBounds_toArray, List.set_cons_zero, List.set_cons_succ]
          refine' wpAnyH_take (i := 1) (oi := { dst := some 112, op := Go.Op.move (Go.Operand.tmp 12), type := 3, pos := "law.go:81", after := #[], guard := none }) (v := _) rfl (by kernel_rfl) (by kernel_rfl) (by kernel_rfl) (fun _ _ _ h => h) (Or.inl ⟨by rfl, ?hy40⟩) (by assumption) ?hr40
          case hy40 => (intro _ hSw; (try dsimp only at hSw); go_simp <;> with_reducible rfl)
          simp only [Act.put, List.setIfInBounds_toArray, List.set_cons_zero, List.set_cons_succ]
          refine' wpAnyH_take (i := 2) (oi := { dst := some 113, op := Go.Op.indexAddr 49 (Go.Operand.tmp 111) (Go.Operand.tmp 112), type := 0, pos := "law.go:81", after := #[{ on := 0, ground := Go.Ground.data }, { on := 1, ground := Go.Ground.data }], guard := none }) (v := _) rfl (by kernel_rfl) (by kernel_rfl) (by kernel_rfl) (fun _ _ _ h => h) (Or.inl ⟨by rfl, ?hy41⟩) (by assumption) ?hr41
          case hy41 => (intro _ hSw; (try dsimp only at hSw); go_simp <;> with_reducible rfl)
          simp only [Act.put, List.setIfInBounds_toArray, List.set_cons_zero, List.set_cons_succ]
          refine' wpAnyH_take (i := 3) (oi := { dst := some 114, op := Go.Op.load 27 (Go.Operand.tmp 113), type := 27, pos := "law.go:81", after := #[{ on := 2, ground := Go.Ground.data }], guard := none }) (v := _) rfl (by kernel_rfl) (by kernel_rfl) (by kernel_rfl) (fun _ _ _ h => h) (Or.inl ⟨by rfl, ?hy42⟩) (by assumption) ?hr42
          case hy42 => (intro _ hSw; (try dsimp only at hSw); refine ex_ldr isM (own_range (HI.out.got.below hSw) j x hx) ?_; rfl)
          simp only [Act.put, List.setIfInBounds_toArray, List.set_cons_zero, List.set_cons_succ]
          refine' wpAnyH_take (i := 4) (oi := { dst := some 115, op := Go.Op.move (Go.Operand.tmp 6), type := 49, pos := "law.go:81", after := #[], guard := none }) (v := _) rfl (by kernel_rfl) (by kernel_rfl) (by kernel_rfl) (fun _ _ _ h => h) (Or.inl ⟨by rfl, ?hy43⟩) (by assumption) ?hr43
          case hy43 => (intro _ hSw; (try dsimp only at hSw); go_simp <;> with_reducible rfl)
          simp only [Act.put, List.setIfInBounds_toArray, List.set_cons_zero, List.set_cons_succ]
          refine' wpAnyH_take (i := 5) (oi := { dst := some 116, op := Go.Op.move (Go.Operand.tmp 12), type := 3, pos := "law.go:81", after := #[], guard := none }) (v := _) rfl (by kernel_rfl) (by kernel_rfl) (by kernel_rfl) (fun _ _ _ h => h) (Or.inl ⟨by rfl, ?hy44⟩) (by assumption) ?hr44
          case hy44 => (intro _ hSw; (try dsimp only at hSw); go_simp <;> with_reducible rfl)
          simp only [Act.put, List.setIfInBounds_toArray, List.set_cons_zero, List.set_cons_succ]
          refine' wpAnyH_take (i := 6) (oi := { dst := some 117, op := Go.Op.indexAddr 49 (Go.Operand.tmp 115) (Go.Operand.tmp 116), type := 0, pos := "law.go:81", after := #[{ on := 4, ground := Go.Ground.data }, { on := 5, ground := Go.Ground.data }], guard := none }) (v := _) rfl (by kernel_rfl) (by kernel_rfl) (by kernel_rfl) (fun _ _ _ h => h) (Or.inl ⟨by rfl, ?hy45⟩) (by assumption) ?hr45
          case hy45 => (intro _ hSw; (try dsimp only at hSw); go_simp <;> with_reducible rfl)
          simp only [Act.put, List.setIfInBounds_toArray, List.set_cons_zero, List.set_cons_succ]
          refine' wpAnyH_take (i := 7) (oi := { dst := some 118, op := Go.Op.load 27 (Go.Operand.tmp 117), type := 27, pos := "law.go:81", after := #[{ on := 6, ground := Go.Ground.data }], guard := none }) (v := _) rfl (by kernel_rfl) (by kernel_rfl) (by kernel_rfl) (fun _ _ _ h => h) (Or.inl ⟨by rfl, ?hy46⟩) (by assumption) ?hr46
          case hy46 => (intro _ hSw; (try dsimp only at hSw); refine ex_ldr isM (own_range (HI.out.may.below hSw) j x hx) ?_; rfl)
          simp only [Act.put, List.setIfInBounds_toArray, List.set_cons_zero, List.set_cons_succ]
          refine' wpAnyH_take (i := 8) (oi := { dst := some 119, op := Go.Op.binOp Go.BinOp.neq 27 (Go.Operand.tmp 114) (Go.Operand.tmp 118) 27, type := 4, pos := "law.go:81", after := #[{ on := 3, ground := Go.Ground.data }, { on := 7, ground := Go.Ground.data }], guard := none }) (v := _) rfl (by kernel_rfl) (by kernel_rfl) (by kernel_rfl) (fun _ _ _ h => h) (Or.inl ⟨by rfl, ?hy47⟩) (by assumption) ?hr47
          case hy47 => (intro _ hSw; (try dsimp only at hSw); go_simp <;> with_reducible rfl)
          simp only [Act.put, List.setIfInBounds_toArray, List.set_cons_zero, List.set_cons_succ]
          refine wpAnyH_done (by kernel_rfl) ?_ _
          have HI2 : Hid (In w w0 _ _ _ l) := Lib.hid ⟨below_on HI.out.base hHeld, HI.out.got.below hHeld, HI.out.may.below hHeld⟩
          clear hHeld
          go_wp2
          go_roundw
          case rel => exact ⟨j + 1, by omega, by go_num, HI2⟩
          case measure => simp [intOf]; omega
        · rcases hG : got z with ⟨gm, gn, ge⟩
          have CG := Lib.hid (fun w h => fget z (by omega) w h)
          rw [hG] at CG
          dsimp only at CG
          by_cases he : ge = 0
          · subst he
            have hpg := put_got (s := z) (by rw [hG])
            rw [hG] at hpg
            obtain ⟨p1, p2, p3, p4, p5⟩ := hpg
            dsimp only at p1 p2 p3 p4 p5
            obtain ⟨q1, q2⟩ := putE_may p2
            have hb := b_le q1 q2
            have CP := Lib.hid (fun w h => fput gm p1 (by omega) w h)
            rw [p2] at CP
            obtain ⟨t, htt⟩ : ∃ t, putS gm = t := ⟨_, rfl⟩
            rw [htt] at CP p5
            have hsl : z.extract 0 gn = t := p5.symm
            have g0 : (0 : Int) ≤ (gn : Int) := by omega
            have g1 : decide ((gn : Int) ≤ (z.size : Int)) = true := by simp; omega
            have g2 : (gn : Int) ≤ (z.size : Int) := by omega
            clear p5 htt hb q1 q2 p2 p1 hG
            go_wp2_with (first
              | (go_at_call 15; ((with_reducible refine (CG.out _ (tab_below HT.out HI.out.base)).mono ?_); rintro e w5 ⟨rfl, hb⟩; have HB := Lib.hid (below_on HI.out.base hb); clear hb))
              | ((with_reducible refine alm zeroM ?_); intro b6 w6 h6 F6; have H6 := Lib.hid h6; have L6 := Lib.hid (F6.le HB.out); replace HB := Lib.hid (F6.on HB.out); clear h6 F6)
              | ((with_reducible refine stm (m := gm) isM H6.out ?hx ?hy ?_); (case hx => rfl); (case hy => rfl); intro w7 h7 M7; replace H6 := Lib.hid h7; replace HB := Lib.hid (M7.below HB.out L6.out); clear h7 M7)
              | ((with_reducible refine ldm isM H6.out ?hx ?_); (case hx => rfl))
              | (go_at_call 8; ((with_reducible refine (CP.out _ (tab_below HT.out HB.out)).mono ?_); rintro e w8 ⟨rfl, hb⟩; replace HB := Lib.hid (below_on HB.out hb); clear hb))
              | (go_at_call 7; ((with_reducible refine (works _ (tab_below HT.out HB.out)).mono ?_); rintro e w9 ⟨rfl, hb⟩; replace HB := Lib.hid (below_on HB.out hb); clear hb)))
            go_ret
            exact ⟨rfl, HB.out⟩
          · have hbad := got_e z
            rw [hG] at hbad
            have e2 := (hbad.resolve_left he).2
            unfold bad at e2
            injection e2 with e3 e4 e5
            subst e3 e4
            have hne : ((ge : Int) != 0) = true := bne_true (by omega)
            have HE : ∀ w, (binOp .eql 27 (mv zero) (mv zero)).run Tryd.prog w = .ok (.bool true) w := fun w => by rw [run_eqM, eqM_self]
            clear hbad hG he e5
            go_wp2_with (first
              | (go_at_call 15; ((with_reducible refine (CG.out _ (tab_below HT.out HI.out.base)).mono ?_); rintro e w5 ⟨rfl, hb⟩; have HB := Lib.hid (below_on HI.out.base hb); clear hb))
              | ((with_reducible refine alm zeroM ?_); intro b6 w6 h6 F6; have H6 := Lib.hid h6; have L6 := Lib.hid (F6.le HB.out); replace HB := Lib.hid (F6.on HB.out); clear h6 F6)
              | ((with_reducible refine stm (m := zero) isM H6.out ?hx ?hy ?_); (case hx => rfl); (case hy => rfl); intro w7 h7 M7; replace H6 := Lib.hid h7; replace HB := Lib.hid (M7.below HB.out L6.out); clear h7 M7)
              | ((with_reducible refine ldm isM H6.out ?hx ?_); (case hx => rfl))
              | ((with_reducible refine bdm (T := 27) zero ?hb ?_); (case hb => kernel_rfl))
              | (go_at_call 7; ((with_reducible refine (works _ (tab_below HT.out HB.out)).mono ?_); rintro e w9 ⟨rfl, hb⟩; replace HB := Lib.hid (below_on HB.out hb); clear hb)))
            go_ret
            exact ⟨rfl, HB.out⟩
theorem lawR (oa : Option Addr) (n cap : Nat) (F : Nat → Ms) (_ : n ≤ maxLen) (z : ByteArray) (hz : z.size ≤ maxLen) (w : World) (ht : Tab w) (hA : ArgS 20 ml Fits w oa n F) :
    Calls Tryd.prog 5 #[.slice oa n cap, .string z] w fun e w' => e = .returned (.bool true) ∧ Below w.heap.size w w' := law oa n cap F z hz w ht hA
end Go.Proofs.YtffahjlboakakaaDoor.msgsBack

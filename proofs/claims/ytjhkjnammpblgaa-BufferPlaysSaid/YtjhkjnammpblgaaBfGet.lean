/-
  What Get of the program's buffer answers, and leaves. Condition: it lies where it says.
-/
import Derived.Test.YtjhkjnammpblgaaBfPut
namespace Go.Proofs.Ytjhkjnammpblgaa.Bf
open Go.RowKit Go.Proofs.Ytjhkjnammpblgaa.Base Go.Proofs.Ytjhkjnammpblgaa.Mem Go.Proofs.Ytjhkjnammpblgaa.Cr
abbrev BT : TypeId := 5
def zeroV (n : Nat) : Array Value := (List.replicate n (Value.int .u8 0)).toArray
theorem infoB : (Try.prog.info? 5).map (fun i => (i.zero, i.size, i.bytes)) = some (some (.int .u8 0), 1, 1) := by kernel_rfl
theorem sizeBI : (Try.prog.info? 5).map (·.size) = some 1 := by kernel_rfl
theorem make_zeros (n : Nat) (hn : n ≤ 100000) (w : World) : (Instr.makeSlice 45 (.int .i64 (n : Int)) (.int .i64 (n : Int))).run Try.prog w = .ok (.slice (some ⟨w.heap.size, 0, none⟩) n n) (w.alloc (.cells (zeroV n) 5)) := by
  obtain ⟨i, hi, hz0, hz1, hz2⟩ := info_parts infoB
  have h := run_make (P := Try.prog) w 45 5 i (.int .u8 0) Try.underlying45 hi hz0 .i64 .i64 (n : Int) (n : Int) (by omega) (Int.le_refl _) (by rw [hz2]; omega) (by omega)
  rw [h, hz1]
  simp only [Int.toNat_natCast, Nat.mul_one]
  have e : madeCells (Value.cells (.int .u8 0)) n = zeroV n := by
    apply Array.ext'
    show (madeCells #[.int .u8 0] n).toList = _
    rw [toList_madeCells_one]
    rfl
  exact congrArg (fun c => Result.ok _ (w.alloc (.cells c 5))) e
/-- A copy of cells that are known. -/
theorem run_copy_at {P : Program} (w : World) (dT sT ty elem : TypeId) (b o dLen dCap : Nat) (a : Addr) (sLen sCap n : Nat) (l : List Value) (hu : P.underlying dT = some (.slice elem)) (hs : (P.info? elem).map (·.size) = some 1) (hl : l.length = n) (hn : min sLen dLen = n)
    (hsrc : ∀ j v, l[j]? = some v → w.cell? (a.add j) = some v) (hc : ∀ j, j < n → (w.cell? ⟨b, o + j, none⟩).isSome = true) (hf : ∀ j, j < n → w.frozen? ⟨b, o + j, none⟩ = false) (h1 : ∀ v ∈ l, v.oneCell' = true) :
    (Builtin.copy_ #[dT, sT] ty #[.slice (some ⟨b, o, none⟩) dLen dCap, .slice (some a) sLen sCap]).run P w = .ok (goInt n) (w.setCells b o l) := by
  subst hl
  exact run_copy_cells w dT sT ty elem b o dLen dCap a sLen sCap l hu hs hn.symm hsrc hc hf h1
/-- Two parts, one behind the other, are the whole. -/
theorem whole (t : ByteArray) (k m1 o : Nat) (zs : Array Value) (hz : zs.size = k) (hk : k ≤ t.size) (h1 : m1 ≤ k) (ho : m1 = k ∨ o = m1) (j : Nat) (x : Value) (hx : (vals (fst_ t k))[j]? = some x) :
    (ovr (ovr zs 0 (vals (fst_ t m1))) o (vals (rst_ (fst_ t k) m1)))[0 + j]? = some x := by
  have hj : j < k := by
    have := (List.getElem?_eq_some_iff.1 hx).1
    rw [vals_len, fst_size t hk] at this
    exact this
  have L1 : (vals (fst_ t m1)).length = m1 := by rw [vals_len, fst_size t (by omega)]
  have L2 : (vals (rst_ (fst_ t k) m1)).length = k - m1 := by rw [vals_len, ext_size, fst_size t hk]
  rw [Nat.zero_add]
  rw [List.getElem?_map, fst_tl, List.getElem?_take, if_pos hj] at hx
  by_cases h : j < m1
  · rw [ovr_out _ _ _ _ (by rw [L2]; omega), ovr_in _ _ _ _ (by rw [L1, hz]; omega) (by omega) (by rw [L1]; omega), List.getElem?_map, fst_tl, List.getElem?_take, Nat.sub_zero, if_pos h]
    exact hx
  · rw [ovr_in _ _ _ _ (by rw [L2, ovr_size, hz]; omega) (by omega) (by rw [L2]; omega), List.getElem?_map, rst_tl, fst_tl, List.getElem?_drop, List.getElem?_take, if_pos (by omega), show m1 + (j - o) = j by omega]
    exact hx
theorem sets_other {w : World} {b b' o : Nat} {cs : Array Value} {t : TypeId} {l : List Value} (h : At w b cs t) (hn : b ≠ b') : At (w.setCells b' o l) b cs t :=
  h.other (chg_sets (S := fun k => k = b') rfl l o w (Chg.refl _ _)) hn
abbrev Two (b ob : Nat) : Nat → Prop := fun k => k = b ∨ k = ob
theorem fget_nil (n : Int) (w : World) : Calls Try.prog 11 #[.pointer none, im n] w fun e w' => e = .returned (.string ⟨#[]⟩) ∧ w = w' := by
  have C := Lib.hid flen_nil
  obtain ⟨m, hm⟩ : ∃ m, min n 0 = m := ⟨_, rfl⟩
  have t0 : decide (m < 1) = true := decide_eq_true (by omega)
  have t1 : m < 1 := by omega
  go_enter Try.func11, Try.ntmps11
  go_wp2_with (go_at_call 17; ((with_reducible refine (C.out _).mono ?_); rintro e v ⟨rfl, rfl⟩))
  go_ret
  exact ⟨rfl, rfl⟩
theorem fget_none {w : World} {b r q f : Nat} {t : ByteArray} {cs : Array Value} (h : Bat w b r q f t cs) (n : Int) (hn : cut n t.size = 0) : Calls Try.prog 11 #[ptr b, im n] w fun e w' => e = .returned (.string ⟨#[]⟩) ∧ w = w' := by
  have C := Lib.hid (flen0 h.at_ h.ok)
  obtain ⟨c, hc⟩ : ∃ c, t.size = c := ⟨_, rfl⟩
  rw [hc] at C hn
  clear h hc
  unfold cut at hn
  obtain ⟨m, hm⟩ : ∃ m, min n (c : Int) = m := ⟨_, rfl⟩
  have t0 : decide (m < 1) = true := decide_eq_true (by omega)
  have t1 : m < 1 := by omega
  clear hn
  go_enter Try.func11, Try.ntmps11
  go_wp2_with (go_at_call 17; ((with_reducible refine C.out.mono ?_); rintro e v ⟨rfl, rfl⟩))
  go_ret
  exact ⟨rfl, rfl⟩
set_option maxHeartbeats 8000000 in
set_option maxRecDepth 100000 in
theorem fget_one (w : World) (b r q f c k m1 p d : Nat) (cs : Array Value) (t : ByteArray) (n : Int) (hq : At w b cs BfT) (hcs : Cs cs r q f c) (hg : Rg r f t cs) (hc : t.size = c)
    (hn : min n (c : Int) = (k : Int)) (h0 : 0 < k) (hk : k ≤ c) (hm1 : min (r - f) k = m1) (hone : m1 = k) (hp : pl r (f + k) = p) (hd : c - k = d) :
    Calls Try.prog 11 #[ptr b, im n] w fun e w' => e = .returned (.string (fst_ t k)) ∧ At w' b ((cs.setIfInBounds 4098 (nm p)).setIfInBounds 4099 (nm d)) BfT ∧ Chg (Bs b) w w' := by
  have hfew := hg.few
  have hmax := hg.max
  have hfr := hg.lt
  have C := Lib.hid (flen0 hq hcs)
  have C2 := Lib.hid (fun w h => fplace (w := w) (b := b) (cs := cs) h hcs k p hp (by omega) hmax)
  have M := make_zeros k (by omega) w
  have z1 : (zeroV k).size = k := by simp [zeroV]
  generalize zeroV k = zs at M z1
  have hlt := hq.lt
  have t0 : decide ((k : Int) < 1) = false := decide_eq_false (by omega)
  have t1 : ¬ (k : Int) < 1 := by omega
  have b1 : (0 : Int) ≤ (f : Int) := by omega
  have b2 : (f : Int) ≤ (r : Int) := by omega
  have b3 : (r : Int) ≤ 4096 := by omega
  have b4 : ¬ 4096 = f := by omega
  have b5 : f ≤ r := by omega
  have b6 : r ≤ 4096 := by omega
  have b7 : (0 : Int) ≤ (r : Int) := by omega
  have b8 : (0 : Int) ≤ (k : Int) := by omega
  have b9 : m1 ≤ k := by omega
  have v0 : IntKind.i64.wrap ((c : Int) - (k : Int)) = (d : Int) := by rw [IntKind.wrap_i64]; omega
  have HA := Lib.hid (And.intro hfew (And.intro hfr (And.intro hm1 (And.intro hk (And.intro hc (And.intro b9 hone))))))
  obtain rfl : k = m1 := hone.symm
  have HQ := Lib.hid hq
  have HC := Lib.hid hcs
  have HG := Lib.hid hg
  have HZ := Lib.hid z1
  clear hq hcs hg hc h0 hk hm1 hone hp hd hfew hmax hfr z1
  go_enter Try.func11, Try.ntmps11
  go_wp2_with (first
    | (go_at_call 17; ((with_reducible refine C.out.mono ?_); rintro e v ⟨rfl, rfl⟩))
    | fail)
  have hob : b ≠ w.heap.size := by omega
  have HN := Lib.hid hob
  have A1 : Hid (At (w.alloc (.cells zs BT)) b cs BfT) := Lib.hid (HQ.out.below ((Below.refl _ _).alloc (Nat.le_refl _) _))
  have Z1 : Hid (At (w.alloc (.cells zs BT)) w.heap.size zs BT) := Lib.hid (nest w [_] 0 _ rfl)
  have G1 : Hid (Chg (Two b w.heap.size) w (w.alloc (.cells zs BT))) := Lib.hid ((Chg.refl _ _).alloc _)
  clear M C hob HQ
  generalize w.alloc (.cells zs BT) = w1 at A1 Z1 G1 ⊢
  have hl1 : w.heap.size < w1.heap.size := Z1.out.lt
  have HL := Lib.hid hl1
  clear hl1
  generalize hgen : w.heap.size = ob at HN Z1 G1 hlt HL ⊢
  have HS : Hid (∀ k, k < w.heap.size → Two b ob k → Bs b k) := Lib.hid fun k hk h => h.elim id fun e => by omega
  clear hgen
  go_wp2_with fail
  refine wp_region_held_drew (S := (fun w' => At w' b cs BfT)) (by kernel_rfl) A1.out (fun hHeld => ?_)
  refine' wpAnyH_take (i := 0) (oi := { dst := some 16, op := Go.Op.move (Go.Operand.tmp 6), type := 45, pos := "buffer.go:46", after := #[], guard := none }) (v := _) rfl (by kernel_rfl) (by kernel_rfl) (by kernel_rfl) (fun _ _ _ h => h) (Or.inl ⟨by rfl, ?hy1⟩) (by assumption) ?hr1
  case hy1 => (intro _ hSw; (try dsimp only at hSw); go_simp <;> with_reducible rfl)
  simp only [Act.put, List.setIfInBounds_toArray, List.set_cons_zero, List.set_cons_succ]
  refine' wpAnyH_take (i := 1) (oi := { dst := some 17, op := Go.Op.move (Go.Operand.tmp 0), type := 25, pos := "buffer.go:46", after := #[], guard := none }) (v := _) rfl (by kernel_rfl) (by kernel_rfl) (by kernel_rfl) (fun _ _ _ h => h) (Or.inl ⟨by rfl, ?hy2⟩) (by assumption) ?hr2
  case hy2 => (intro _ hSw; (try dsimp only at hSw); go_simp <;> with_reducible rfl)
  simp only [Act.put, List.setIfInBounds_toArray, List.set_cons_zero, List.set_cons_succ]
  refine' wpAnyH_take (i := 2) (oi := { dst := some 18, op := Go.Op.nilCheck (Go.Operand.tmp 17), type := 0, pos := "buffer.go:46", after := #[{ on := 1, ground := Go.Ground.data }], guard := none }) (v := _) rfl (by kernel_rfl) (by kernel_rfl) (by kernel_rfl) (fun _ _ _ h => h) (Or.inl ⟨by rfl, ?hy3⟩) (by assumption) ?hr3
  case hy3 => (intro _ hSw; (try dsimp only at hSw); go_simp <;> with_reducible rfl)
  simp only [Act.put, List.setIfInBounds_toArray, List.set_cons_zero, List.set_cons_succ]
  refine' wpAnyH_take (i := 3) (oi := { dst := some 19, op := Go.Op.fieldAddr 42 (Go.Operand.tmp 18) 0, type := 0, pos := "buffer.go:46", after := #[{ on := 2, ground := Go.Ground.data }], guard := none }) (v := _) rfl (by kernel_rfl) (by kernel_rfl) (by kernel_rfl) (fun _ _ _ h => h) (Or.inl ⟨by rfl, ?hy4⟩) (by assumption) ?hr4
  case hy4 => (intro _ hSw; (try dsimp only at hSw); go_simp <;> with_reducible rfl)
  simp only [Act.put, List.setIfInBounds_toArray, List.set_cons_zero, List.set_cons_succ]
  refine' wpAnyH_take (i := 4) (oi := { dst := some 20, op := Go.Op.move (Go.Operand.tmp 0), type := 25, pos := "buffer.go:46", after := #[], guard := none }) (v := _) rfl (by kernel_rfl) (by kernel_rfl) (by kernel_rfl) (fun _ _ _ h => h) (Or.inl ⟨by rfl, ?hy5⟩) (by assumption) ?hr5
  case hy5 => (intro _ hSw; (try dsimp only at hSw); go_simp <;> with_reducible rfl)
  simp only [Act.put, List.setIfInBounds_toArray, List.set_cons_zero, List.set_cons_succ]
  refine' wpAnyH_take (i := 5) (oi := { dst := some 21, op := Go.Op.nilCheck (Go.Operand.tmp 20), type := 0, pos := "buffer.go:46", after := #[{ on := 4, ground := Go.Ground.data }], guard := none }) (v := _) rfl (by kernel_rfl) (by kernel_rfl) (by kernel_rfl) (fun _ _ _ h => h) (Or.inl ⟨by rfl, ?hy6⟩) (by assumption) ?hr6
  case hy6 => (intro _ hSw; (try dsimp only at hSw); go_simp <;> with_reducible rfl)
  simp only [Act.put, List.setIfInBounds_toArray, List.set_cons_zero, List.set_cons_succ]
  refine' wpAnyH_take (i := 6) (oi := { dst := some 22, op := Go.Op.fieldAddr 42 (Go.Operand.tmp 21) 3, type := 0, pos := "buffer.go:46", after := #[{ on := 5, ground := Go.Ground.data }], guard := none }) (v := _) rfl (by kernel_rfl) (by kernel_rfl) (by kernel_rfl) (fun _ _ _ h => h) (Or.inl ⟨by rfl, ?hy7⟩) (by assumption) ?hr7
  case hy7 => (intro _ hSw; (try dsimp only at hSw); go_simp <;> with_reducible rfl)
  simp only [Act.put, List.setIfInBounds_toArray, List.set_cons_zero, List.set_cons_succ]
  refine' wpAnyH_take (i := 7) (oi := { dst := some 23, op := Go.Op.load 3 (Go.Operand.tmp 22), type := 3, pos := "buffer.go:46", after := #[{ on := 6, ground := Go.Ground.data }], guard := none }) (v := _) rfl (by kernel_rfl) (by kernel_rfl) (by kernel_rfl) (fun _ _ _ h => h) (Or.inl ⟨by rfl, ?hy8⟩) (by assumption) ?hr8
  case hy8 => (intro _ hSw; (try dsimp only at hSw); have d0 := hSw.cell 4096 (nm r) HC.out.room; have d1 := hSw.cell 4098 (nm f) HC.out.first; have hlt := hSw.lt; clear hSw; go_simp <;> with_reducible rfl)
  simp only [Act.put, List.setIfInBounds_toArray, List.set_cons_zero, List.set_cons_succ]
  refine' wpAnyH_take (i := 8) (oi := { dst := some 24, op := Go.Op.move (Go.Operand.tmp 0), type := 25, pos := "buffer.go:46", after := #[], guard := none }) (v := _) rfl (by kernel_rfl) (by kernel_rfl) (by kernel_rfl) (fun _ _ _ h => h) (Or.inl ⟨by rfl, ?hy9⟩) (by assumption) ?hr9
  case hy9 => (intro _ hSw; (try dsimp only at hSw); go_simp <;> with_reducible rfl)
  simp only [Act.put, List.setIfInBounds_toArray, List.set_cons_zero, List.set_cons_succ]
  refine' wpAnyH_take (i := 9) (oi := { dst := some 25, op := Go.Op.nilCheck (Go.Operand.tmp 24), type := 0, pos := "buffer.go:46", after := #[{ on := 8, ground := Go.Ground.data }], guard := none }) (v := _) rfl (by kernel_rfl) (by kernel_rfl) (by kernel_rfl) (fun _ _ _ h => h) (Or.inl ⟨by rfl, ?hy10⟩) (by assumption) ?hr10
  case hy10 => (intro _ hSw; (try dsimp only at hSw); go_simp <;> with_reducible rfl)
  simp only [Act.put, List.setIfInBounds_toArray, List.set_cons_zero, List.set_cons_succ]
  refine' wpAnyH_take (i := 10) (oi := { dst := some 26, op := Go.Op.fieldAddr 42 (Go.Operand.tmp 25) 1, type := 0, pos := "buffer.go:46", after := #[{ on := 9, ground := Go.Ground.data }], guard := none }) (v := _) rfl (by kernel_rfl) (by kernel_rfl) (by kernel_rfl) (fun _ _ _ h => h) (Or.inl ⟨by rfl, ?hy11⟩) (by assumption) ?hr11
  case hy11 => (intro _ hSw; (try dsimp only at hSw); go_simp <;> with_reducible rfl)
  simp only [Act.put, List.setIfInBounds_toArray, List.set_cons_zero, List.set_cons_succ]
  refine' wpAnyH_take (i := 11) (oi := { dst := some 27, op := Go.Op.load 3 (Go.Operand.tmp 26), type := 3, pos := "buffer.go:46", after := #[{ on := 10, ground := Go.Ground.data }], guard := none }) (v := _) rfl (by kernel_rfl) (by kernel_rfl) (by kernel_rfl) (fun _ _ _ h => h) (Or.inl ⟨by rfl, ?hy12⟩) (by assumption) ?hr12
  case hy12 => (intro _ hSw; (try dsimp only at hSw); have d0 := hSw.cell 4096 (nm r) HC.out.room; have d1 := hSw.cell 4098 (nm f) HC.out.first; have hlt := hSw.lt; clear hSw; go_simp <;> with_reducible rfl)
  simp only [Act.put, List.setIfInBounds_toArray, List.set_cons_zero, List.set_cons_succ]
  refine' wpAnyH_take (i := 12) (oi := { dst := some 28, op := Go.Op.slice 40 (Go.Operand.tmp 19) (some (Go.Operand.tmp 23)) (some (Go.Operand.tmp 27)) none, type := 45, pos := "buffer.go:46", after := #[{ on := 3, ground := Go.Ground.data }, { on := 7, ground := Go.Ground.data }, { on := 11, ground := Go.Ground.data }], guard := none }) (v := _) rfl (by kernel_rfl) (by kernel_rfl) (by kernel_rfl) (fun _ _ _ h => h) (Or.inl ⟨by rfl, ?hy13⟩) (by assumption) ?hr13
  case hy13 => (intro _ hSw; (try dsimp only at hSw); clear hSw; go_simp <;> with_reducible rfl)
  simp only [Act.put, List.setIfInBounds_toArray, List.set_cons_zero, List.set_cons_succ]
  refine wpAnyH_ready (rs := [13]) (by kernel_rfl) (by simp) ?_
  refine AllReadyH.cons (o := { dst := some 29, op := Go.Op.call { callee := Go.Callee.builtin Go.Builtin.copy, args := #[Go.Operand.tmp 16, Go.Operand.tmp 28], argTypes := #[45, 45] }, type := 3, pos := "buffer.go:46", after := #[{ on := 0, ground := Go.Ground.data }, { on := 12, ground := Go.Ground.data }], guard := none }) rfl (fun K hK => ?_) AllReadyH.nil
  refine step_copy_known rfl _ _ _ _ rfl rfl rfl (run_copy_at _ _ _ _ _ ob 0 k k ⟨b, f, none⟩ (r - f) (4096 - f) k (vals (fst_ t k)) Try.underlying45 sizeBI (by rw [vals_len, fst_size]; have := HA.out; omega) (by have := HA.out; omega) (cells_at (A1.out : At w1.drew b cs BfT) (HG.out.low k (by have := HA.out; omega))) ?hc1 ?hf1 (vals_one _)) ?_
  case hc1 => intro j hj; exact some_at (Z1.out : At w1.drew ob zs BT) (by have := HA.out; have := HZ.out; omega)
  case hf1 => intro j hj; exact At.free (Z1.out : At w1.drew ob zs BT) _
  refine hK.out _ _ (sets_other hHeld HN.out) (fun hNext => ?_)
  clear hK K hHeld
  have hHeld := hNext
  clear hNext
  (try simp only [Act.put, List.setIfInBounds_toArray, List.set_cons_zero, List.set_cons_succ])
  refine' wpAnyH_take (i := 14) (oi := { dst := some 7, op := Go.Op.assign (Go.Operand.tmp 29), type := 3, pos := "buffer.go:46", after := #[{ on := 13, ground := Go.Ground.data }, { on := 13, ground := Go.Ground.chain }, { on := 0, ground := Go.Ground.phase }, { on := 1, ground := Go.Ground.phase }, { on := 2, ground := Go.Ground.phase }, { on := 3, ground := Go.Ground.phase }, { on := 4, ground := Go.Ground.phase }, { on := 5, ground := Go.Ground.phase }, { on := 6, ground := Go.Ground.phase }, { on := 7, ground := Go.Ground.phase }, { on := 8, ground := Go.Ground.phase }, { on := 9, ground := Go.Ground.phase }, { on := 10, ground := Go.Ground.phase }, { on := 11, ground := Go.Ground.phase }, { on := 12, ground := Go.Ground.phase }, { on := 13, ground := Go.Ground.phase }], guard := none }) (v := _) rfl (by kernel_rfl) (by kernel_rfl) (by kernel_rfl) (fun _ _ _ h => h) (Or.inl ⟨by rfl, ?hy14⟩) (by assumption) ?hr14
  case hy14 => (intro _ hSw; (try dsimp only at hSw); go_simp <;> with_reducible rfl)
  simp only [Act.put, List.setIfInBounds_toArray, List.set_cons_zero, List.set_cons_succ]
  refine wpAnyH_done (by kernel_rfl) ?_ _
  have A2 : Hid (At (w1.drew.setCells ob 0 (vals (fst_ t k))) b cs BfT) := Lib.hid hHeld
  have Z2 : Hid (At (w1.drew.setCells ob 0 (vals (fst_ t k))) ob (ovr zs 0 (vals (fst_ t k))) BT) := Lib.hid (at_sets _ _ _ _ (Z1.out : At w1.drew ob zs BT))
  have G2 : Hid (Chg (Two b ob) w (w1.drew.setCells ob 0 (vals (fst_ t k)))) := Lib.hid (chg_sets (S := Two b ob) (.inr rfl) _ _ _ G1.out.drew)
  clear hHeld A1 Z1 G1 HL
  generalize w1.drew.setCells ob 0 (vals (fst_ t k)) = w2 at A2 Z2 G2 ⊢
  go_wp2_with fail
  refine wp_region_held_drew (S := (fun w' => At w' b cs BfT)) (by kernel_rfl) A2.out (fun hHeld => ?_)
  refine' wpAnyH_take (i := 0) (oi := { dst := some 30, op := Go.Op.move (Go.Operand.tmp 6), type := 45, pos := "buffer.go:47", after := #[], guard := none }) (v := _) rfl (by kernel_rfl) (by kernel_rfl) (by kernel_rfl) (fun _ _ _ h => h) (Or.inl ⟨by rfl, ?hy15⟩) (by assumption) ?hr15
  case hy15 => (intro _ hSw; (try dsimp only at hSw); go_simp <;> with_reducible rfl)
  simp only [Act.put, List.setIfInBounds_toArray, List.set_cons_zero, List.set_cons_succ]
  refine' wpAnyH_take (i := 1) (oi := { dst := some 31, op := Go.Op.move (Go.Operand.tmp 7), type := 3, pos := "buffer.go:47", after := #[], guard := none }) (v := _) rfl (by kernel_rfl) (by kernel_rfl) (by kernel_rfl) (fun _ _ _ h => h) (Or.inl ⟨by rfl, ?hy16⟩) (by assumption) ?hr16
  case hy16 => (intro _ hSw; (try dsimp only at hSw); go_simp <;> with_reducible rfl)
  simp only [Act.put, List.setIfInBounds_toArray, List.set_cons_zero, List.set_cons_succ]
  refine' wpAnyH_take (i := 2) (oi := { dst := some 32, op := Go.Op.slice 45 (Go.Operand.tmp 30) (some (Go.Operand.tmp 31)) none none, type := 45, pos := "buffer.go:47", after := #[{ on := 0, ground := Go.Ground.data }, { on := 1, ground := Go.Ground.data }], guard := none }) (v := _) rfl (by kernel_rfl) (by kernel_rfl) (by kernel_rfl) (fun _ _ _ h => h) (Or.inl ⟨by rfl, ?hy17⟩) (by assumption) ?hr17
  case hy17 => (intro _ hSw; (try dsimp only at hSw); clear hSw; go_simp <;> with_reducible rfl)
  simp only [Act.put, List.setIfInBounds_toArray, List.set_cons_zero, List.set_cons_succ]
  refine' wpAnyH_take (i := 3) (oi := { dst := some 33, op := Go.Op.move (Go.Operand.tmp 0), type := 25, pos := "buffer.go:47", after := #[], guard := none }) (v := _) rfl (by kernel_rfl) (by kernel_rfl) (by kernel_rfl) (fun _ _ _ h => h) (Or.inl ⟨by rfl, ?hy18⟩) (by assumption) ?hr18
  case hy18 => (intro _ hSw; (try dsimp only at hSw); go_simp <;> with_reducible rfl)
  simp only [Act.put, List.setIfInBounds_toArray, List.set_cons_zero, List.set_cons_succ]
  refine' wpAnyH_take (i := 4) (oi := { dst := some 34, op := Go.Op.nilCheck (Go.Operand.tmp 33), type := 0, pos := "buffer.go:47", after := #[{ on := 3, ground := Go.Ground.data }], guard := none }) (v := _) rfl (by kernel_rfl) (by kernel_rfl) (by kernel_rfl) (fun _ _ _ h => h) (Or.inl ⟨by rfl, ?hy19⟩) (by assumption) ?hr19
  case hy19 => (intro _ hSw; (try dsimp only at hSw); go_simp <;> with_reducible rfl)
  simp only [Act.put, List.setIfInBounds_toArray, List.set_cons_zero, List.set_cons_succ]
  refine' wpAnyH_take (i := 5) (oi := { dst := some 35, op := Go.Op.fieldAddr 42 (Go.Operand.tmp 34) 0, type := 0, pos := "buffer.go:47", after := #[{ on := 4, ground := Go.Ground.data }], guard := none }) (v := _) rfl (by kernel_rfl) (by kernel_rfl) (by kernel_rfl) (fun _ _ _ h => h) (Or.inl ⟨by rfl, ?hy20⟩) (by assumption) ?hr20
  case hy20 => (intro _ hSw; (try dsimp only at hSw); go_simp <;> with_reducible rfl)
  simp only [Act.put, List.setIfInBounds_toArray, List.set_cons_zero, List.set_cons_succ]
  refine' wpAnyH_take (i := 6) (oi := { dst := some 36, op := Go.Op.move (Go.Operand.tmp 0), type := 25, pos := "buffer.go:47", after := #[], guard := none }) (v := _) rfl (by kernel_rfl) (by kernel_rfl) (by kernel_rfl) (fun _ _ _ h => h) (Or.inl ⟨by rfl, ?hy21⟩) (by assumption) ?hr21
  case hy21 => (intro _ hSw; (try dsimp only at hSw); go_simp <;> with_reducible rfl)
  simp only [Act.put, List.setIfInBounds_toArray, List.set_cons_zero, List.set_cons_succ]
  refine' wpAnyH_take (i := 7) (oi := { dst := some 37, op := Go.Op.nilCheck (Go.Operand.tmp 36), type := 0, pos := "buffer.go:47", after := #[{ on := 6, ground := Go.Ground.data }], guard := none }) (v := _) rfl (by kernel_rfl) (by kernel_rfl) (by kernel_rfl) (fun _ _ _ h => h) (Or.inl ⟨by rfl, ?hy22⟩) (by assumption) ?hr22
  case hy22 => (intro _ hSw; (try dsimp only at hSw); go_simp <;> with_reducible rfl)
  simp only [Act.put, List.setIfInBounds_toArray, List.set_cons_zero, List.set_cons_succ]
  refine' wpAnyH_take (i := 8) (oi := { dst := some 38, op := Go.Op.fieldAddr 42 (Go.Operand.tmp 37) 1, type := 0, pos := "buffer.go:47", after := #[{ on := 7, ground := Go.Ground.data }], guard := none }) (v := _) rfl (by kernel_rfl) (by kernel_rfl) (by kernel_rfl) (fun _ _ _ h => h) (Or.inl ⟨by rfl, ?hy23⟩) (by assumption) ?hr23
  case hy23 => (intro _ hSw; (try dsimp only at hSw); go_simp <;> with_reducible rfl)
  simp only [Act.put, List.setIfInBounds_toArray, List.set_cons_zero, List.set_cons_succ]
  refine' wpAnyH_take (i := 9) (oi := { dst := some 39, op := Go.Op.load 3 (Go.Operand.tmp 38), type := 3, pos := "buffer.go:47", after := #[{ on := 8, ground := Go.Ground.data }], guard := none }) (v := _) rfl (by kernel_rfl) (by kernel_rfl) (by kernel_rfl) (fun _ _ _ h => h) (Or.inl ⟨by rfl, ?hy24⟩) (by assumption) ?hr24
  case hy24 => (intro _ hSw; (try dsimp only at hSw); have d0 := hSw.cell 4096 (nm r) HC.out.room; have d1 := hSw.cell 4098 (nm f) HC.out.first; have hlt := hSw.lt; clear hSw; go_simp <;> with_reducible rfl)
  simp only [Act.put, List.setIfInBounds_toArray, List.set_cons_zero, List.set_cons_succ]
  refine' wpAnyH_take (i := 10) (oi := { dst := some 40, op := Go.Op.slice 40 (Go.Operand.tmp 35) none (some (Go.Operand.tmp 39)) none, type := 45, pos := "buffer.go:47", after := #[{ on := 5, ground := Go.Ground.data }, { on := 9, ground := Go.Ground.data }], guard := none }) (v := _) rfl (by kernel_rfl) (by kernel_rfl) (by kernel_rfl) (fun _ _ _ h => h) (Or.inl ⟨by rfl, ?hy25⟩) (by assumption) ?hr25
  case hy25 => (intro _ hSw; (try dsimp only at hSw); clear hSw; go_simp <;> with_reducible rfl)
  simp only [Act.put, List.setIfInBounds_toArray, List.set_cons_zero, List.set_cons_succ]
  refine wpAnyH_ready (rs := [11]) (by kernel_rfl) (by simp) ?_
  refine AllReadyH.cons (o := { dst := some 41, op := Go.Op.call { callee := Go.Callee.builtin Go.Builtin.copy, args := #[Go.Operand.tmp 32, Go.Operand.tmp 40], argTypes := #[45, 45] }, type := 3, pos := "buffer.go:47", after := #[{ on := 2, ground := Go.Ground.data }, { on := 10, ground := Go.Ground.data }], guard := none }) rfl (fun K hK => ?_) AllReadyH.nil
  refine step_copy_known rfl _ _ _ _ rfl rfl rfl (run_copy_at _ _ _ _ _ ob 0 0 0 ⟨b, 0, none⟩ r 4096 (k - k) (vals (rst_ (fst_ t k) k)) Try.underlying45 sizeBI (by rw [vals_len, ext_size, fst_size]; have := HA.out; omega) (by have := HA.out; omega) (cells_at (A2.out : At w2.drew b cs BfT) (fun j u hj => by rw [Nat.zero_add]; exact HG.out.high k k (by have := HA.out; omega) (by have := HA.out; omega) (by have := HA.out; omega) j u hj)) ?hc2 ?hf2 (vals_one _)) ?_
  case hc2 => intro j hj; exact some_at (Z2.out : At w2.drew ob _ BT) (by rw [ovr_size]; have := HA.out; have := HZ.out; omega)
  case hf2 => intro j hj; exact At.free (Z2.out : At w2.drew ob _ BT) _
  refine hK.out _ _ (sets_other hHeld HN.out) (fun hNext => ?_)
  clear hK K hHeld
  have hHeld := hNext
  clear hNext
  (try simp only [Act.put, List.setIfInBounds_toArray, List.set_cons_zero, List.set_cons_succ])
  refine wpAnyH_done (by kernel_rfl) ?_ _
  have A3 : Hid (At (w2.drew.setCells ob 0 (vals (rst_ (fst_ t k) k))) b cs BfT) := Lib.hid hHeld
  have Z3 : Hid (At (w2.drew.setCells ob 0 (vals (rst_ (fst_ t k) k))) ob (ovr (ovr zs 0 (vals (fst_ t k))) 0 (vals (rst_ (fst_ t k) k))) BT) := Lib.hid (at_sets _ _ _ _ (Z2.out : At w2.drew ob _ BT))
  have G3 : Hid (Chg (Two b ob) w (w2.drew.setCells ob 0 (vals (rst_ (fst_ t k) k)))) := Lib.hid (chg_sets (S := Two b ob) (.inr rfl) _ _ _ G2.out.drew)
  clear hHeld A2 Z2 G2
  generalize w2.drew.setCells ob 0 (vals (rst_ (fst_ t k) k)) = w3 at A3 Z3 G3 ⊢
  have HW : Hid (∀ j x, (vals (fst_ t k))[j]? = some x → (ovr (ovr zs 0 (vals (fst_ t k))) 0 (vals (rst_ (fst_ t k) k)))[0 + j]? = some x) := Lib.hid (whole t k k 0 zs HZ.out (by have := HA.out; omega) (by have := HA.out; omega) (.inl rfl))
  generalize ovr (ovr zs 0 (vals (fst_ t k))) 0 (vals (rst_ (fst_ t k) k)) = zz at Z3 HW
  have hlt3 := A3.out.lt
  have hf3 := A3.out.free
  have d8 := A3.out.cell 4098 (nm f) HC.out.first
  have d9 := A3.out.cell 4099 (nm c) HC.out.count
  go_wp2_with fail
  refine (C2.out _ A3.out).mono ?_
  rintro _ w4 ⟨rfl, rfl⟩
  have HD : Hid (Do b _ BfT w3 ((w3.setCell ⟨b, 4098, none⟩ (nm p)).setCell ⟨b, 4099, none⟩ (nm d))) := Lib.hid (((Do.refl A3.out).set 4098 (nm p)).set 4099 (nm d))
  go_wp2_with fail
  generalize (w3.setCell ⟨b, 4098, none⟩ (nm p)).setCell ⟨b, 4099, none⟩ (nm d) = w5 at HD ⊢
  have Z5 : At w5 ob zz BT := Z3.out.other HD.out.chg fun e => HN.out e.symm
  refine (ftext w5 ob k (fst_ t k) (fst_size t (by have := HA.out; omega)) (cells_at Z5 HW.out) Z5.lt (by have := HA.out; omega)).mono ?_
  rintro _ w6 ⟨rfl, hb⟩
  have A6 : Hid (At w6 b _ BfT) := Lib.hid (HD.out.at_.below hb)
  have G6 : Hid (Chg (Two b ob) w w6) := Lib.hid ((G3.out.then (HD.out.chg.mono fun _ => .inl)).on hb)
  clear hb Z5 d8 d9 hf3 hlt3
  go_wp2
  go_ret
  exact ⟨rfl, A6.out, G6.out.monoLt HS.out⟩
set_option maxHeartbeats 8000000 in
set_option maxRecDepth 100000 in
theorem fget_two (w : World) (b r q f c k m1 p d : Nat) (cs : Array Value) (t : ByteArray) (n : Int) (hq : At w b cs BfT) (hcs : Cs cs r q f c) (hg : Rg r f t cs) (hc : t.size = c)
    (hn : min n (c : Int) = (k : Int)) (h0 : 0 < k) (hk : k ≤ c) (hm1 : min (r - f) k = m1) (hone : m1 < k) (hp : pl r (f + k) = p) (hd : c - k = d) :
    Calls Try.prog 11 #[ptr b, im n] w fun e w' => e = .returned (.string (fst_ t k)) ∧ At w' b ((cs.setIfInBounds 4098 (nm p)).setIfInBounds 4099 (nm d)) BfT ∧ Chg (Bs b) w w' := by
  have hfew := hg.few
  have hmax := hg.max
  have hfr := hg.lt
  have C := Lib.hid (flen0 hq hcs)
  have C2 := Lib.hid (fun w h => fplace (w := w) (b := b) (cs := cs) h hcs k p hp (by omega) hmax)
  have M := make_zeros k (by omega) w
  have z1 : (zeroV k).size = k := by simp [zeroV]
  generalize zeroV k = zs at M z1
  have hlt := hq.lt
  have t0 : decide ((k : Int) < 1) = false := decide_eq_false (by omega)
  have t1 : ¬ (k : Int) < 1 := by omega
  have b1 : (0 : Int) ≤ (f : Int) := by omega
  have b2 : (f : Int) ≤ (r : Int) := by omega
  have b3 : (r : Int) ≤ 4096 := by omega
  have b4 : ¬ 4096 = f := by omega
  have b5 : f ≤ r := by omega
  have b6 : r ≤ 4096 := by omega
  have b7 : (0 : Int) ≤ (r : Int) := by omega
  have b8 : (0 : Int) ≤ (k : Int) := by omega
  have b9 : m1 ≤ k := by omega
  have v0 : IntKind.i64.wrap ((c : Int) - (k : Int)) = (d : Int) := by rw [IntKind.wrap_i64]; omega
  have HA := Lib.hid (And.intro hfew (And.intro hfr (And.intro hm1 (And.intro hk (And.intro hc (And.intro b9 hone))))))
  have b10 : ¬ k = m1 := by omega
  have b11 : (m1 : Int) ≤ (k : Int) := by omega
  have b12 : (0 : Int) ≤ (m1 : Int) := by omega
  have HQ := Lib.hid hq
  have HC := Lib.hid hcs
  have HG := Lib.hid hg
  have HZ := Lib.hid z1
  clear hq hcs hg hc h0 hk hm1 hone hp hd hfew hmax hfr z1
  go_enter Try.func11, Try.ntmps11
  go_wp2_with (first
    | (go_at_call 17; ((with_reducible refine C.out.mono ?_); rintro e v ⟨rfl, rfl⟩))
    | fail)
  have hob : b ≠ w.heap.size := by omega
  have HN := Lib.hid hob
  have A1 : Hid (At (w.alloc (.cells zs BT)) b cs BfT) := Lib.hid (HQ.out.below ((Below.refl _ _).alloc (Nat.le_refl _) _))
  have Z1 : Hid (At (w.alloc (.cells zs BT)) w.heap.size zs BT) := Lib.hid (nest w [_] 0 _ rfl)
  have G1 : Hid (Chg (Two b w.heap.size) w (w.alloc (.cells zs BT))) := Lib.hid ((Chg.refl _ _).alloc _)
  clear M C hob HQ
  generalize w.alloc (.cells zs BT) = w1 at A1 Z1 G1 ⊢
  have hl1 : w.heap.size < w1.heap.size := Z1.out.lt
  have HL := Lib.hid hl1
  clear hl1
  generalize hgen : w.heap.size = ob at HN Z1 G1 hlt HL ⊢
  have HS : Hid (∀ k, k < w.heap.size → Two b ob k → Bs b k) := Lib.hid fun k hk h => h.elim id fun e => by omega
  clear hgen
  go_wp2_with fail
  refine wp_region_held_drew (S := (fun w' => At w' b cs BfT)) (by kernel_rfl) A1.out (fun hHeld => ?_)
  refine' wpAnyH_take (i := 0) (oi := { dst := some 16, op := Go.Op.move (Go.Operand.tmp 6), type := 45, pos := "buffer.go:46", after := #[], guard := none }) (v := _) rfl (by kernel_rfl) (by kernel_rfl) (by kernel_rfl) (fun _ _ _ h => h) (Or.inl ⟨by rfl, ?hy26⟩) (by assumption) ?hr26
  case hy26 => (intro _ hSw; (try dsimp only at hSw); go_simp <;> with_reducible rfl)
  simp only [Act.put, List.setIfInBounds_toArray, List.set_cons_zero, List.set_cons_succ]
  refine' wpAnyH_take (i := 1) (oi := { dst := some 17, op := Go.Op.move (Go.Operand.tmp 0), type := 25, pos := "buffer.go:46", after := #[], guard := none }) (v := _) rfl (by kernel_rfl) (by kernel_rfl) (by kernel_rfl) (fun _ _ _ h => h) (Or.inl ⟨by rfl, ?hy27⟩) (by assumption) ?hr27
  case hy27 => (intro _ hSw; (try dsimp only at hSw); go_simp <;> with_reducible rfl)
  simp only [Act.put, List.setIfInBounds_toArray, List.set_cons_zero, List.set_cons_succ]
  refine' wpAnyH_take (i := 2) (oi := { dst := some 18, op := Go.Op.nilCheck (Go.Operand.tmp 17), type := 0, pos := "buffer.go:46", after := #[{ on := 1, ground := Go.Ground.data }], guard := none }) (v := _) rfl (by kernel_rfl) (by kernel_rfl) (by kernel_rfl) (fun _ _ _ h => h) (Or.inl ⟨by rfl, ?hy28⟩) (by assumption) ?hr28
  case hy28 => (intro _ hSw; (try dsimp only at hSw); go_simp <;> with_reducible rfl)
  simp only [Act.put, List.setIfInBounds_toArray, List.set_cons_zero, List.set_cons_succ]
  refine' wpAnyH_take (i := 3) (oi := { dst := some 19, op := Go.Op.fieldAddr 42 (Go.Operand.tmp 18) 0, type := 0, pos := "buffer.go:46", after := #[{ on := 2, ground := Go.Ground.data }], guard := none }) (v := _) rfl (by kernel_rfl) (by kernel_rfl) (by kernel_rfl) (fun _ _ _ h => h) (Or.inl ⟨by rfl, ?hy29⟩) (by assumption) ?hr29
  case hy29 => (intro _ hSw; (try dsimp only at hSw); go_simp <;> with_reducible rfl)
  simp only [Act.put, List.setIfInBounds_toArray, List.set_cons_zero, List.set_cons_succ]
  refine' wpAnyH_take (i := 4) (oi := { dst := some 20, op := Go.Op.move (Go.Operand.tmp 0), type := 25, pos := "buffer.go:46", after := #[], guard := none }) (v := _) rfl (by kernel_rfl) (by kernel_rfl) (by kernel_rfl) (fun _ _ _ h => h) (Or.inl ⟨by rfl, ?hy30⟩) (by assumption) ?hr30
  case hy30 => (intro _ hSw; (try dsimp only at hSw); go_simp <;> with_reducible rfl)
  simp only [Act.put, List.setIfInBounds_toArray, List.set_cons_zero, List.set_cons_succ]
  refine' wpAnyH_take (i := 5) (oi := { dst := some 21, op := Go.Op.nilCheck (Go.Operand.tmp 20), type := 0, pos := "buffer.go:46", after := #[{ on := 4, ground := Go.Ground.data }], guard := none }) (v := _) rfl (by kernel_rfl) (by kernel_rfl) (by kernel_rfl) (fun _ _ _ h => h) (Or.inl ⟨by rfl, ?hy31⟩) (by assumption) ?hr31
  case hy31 => (intro _ hSw; (try dsimp only at hSw); go_simp <;> with_reducible rfl)
  simp only [Act.put, List.setIfInBounds_toArray, List.set_cons_zero, List.set_cons_succ]
  refine' wpAnyH_take (i := 6) (oi := { dst := some 22, op := Go.Op.fieldAddr 42 (Go.Operand.tmp 21) 3, type := 0, pos := "buffer.go:46", after := #[{ on := 5, ground := Go.Ground.data }], guard := none }) (v := _) rfl (by kernel_rfl) (by kernel_rfl) (by kernel_rfl) (fun _ _ _ h => h) (Or.inl ⟨by rfl, ?hy32⟩) (by assumption) ?hr32
  case hy32 => (intro _ hSw; (try dsimp only at hSw); go_simp <;> with_reducible rfl)
  simp only [Act.put, List.setIfInBounds_toArray, List.set_cons_zero, List.set_cons_succ]
  refine' wpAnyH_take (i := 7) (oi := { dst := some 23, op := Go.Op.load 3 (Go.Operand.tmp 22), type := 3, pos := "buffer.go:46", after := #[{ on := 6, ground := Go.Ground.data }], guard := none }) (v := _) rfl (by kernel_rfl) (by kernel_rfl) (by kernel_rfl) (fun _ _ _ h => h) (Or.inl ⟨by rfl, ?hy33⟩) (by assumption) ?hr33
  case hy33 => (intro _ hSw; (try dsimp only at hSw); have d0 := hSw.cell 4096 (nm r) HC.out.room; have d1 := hSw.cell 4098 (nm f) HC.out.first; have hlt := hSw.lt; clear hSw; go_simp <;> with_reducible rfl)
  simp only [Act.put, List.setIfInBounds_toArray, List.set_cons_zero, List.set_cons_succ]
  refine' wpAnyH_take (i := 8) (oi := { dst := some 24, op := Go.Op.move (Go.Operand.tmp 0), type := 25, pos := "buffer.go:46", after := #[], guard := none }) (v := _) rfl (by kernel_rfl) (by kernel_rfl) (by kernel_rfl) (fun _ _ _ h => h) (Or.inl ⟨by rfl, ?hy34⟩) (by assumption) ?hr34
  case hy34 => (intro _ hSw; (try dsimp only at hSw); go_simp <;> with_reducible rfl)
  simp only [Act.put, List.setIfInBounds_toArray, List.set_cons_zero, List.set_cons_succ]
  refine' wpAnyH_take (i := 9) (oi := { dst := some 25, op := Go.Op.nilCheck (Go.Operand.tmp 24), type := 0, pos := "buffer.go:46", after := #[{ on := 8, ground := Go.Ground.data }], guard := none }) (v := _) rfl (by kernel_rfl) (by kernel_rfl) (by kernel_rfl) (fun _ _ _ h => h) (Or.inl ⟨by rfl, ?hy35⟩) (by assumption) ?hr35
  case hy35 => (intro _ hSw; (try dsimp only at hSw); go_simp <;> with_reducible rfl)
  simp only [Act.put, List.setIfInBounds_toArray, List.set_cons_zero, List.set_cons_succ]
  refine' wpAnyH_take (i := 10) (oi := { dst := some 26, op := Go.Op.fieldAddr 42 (Go.Operand.tmp 25) 1, type := 0, pos := "buffer.go:46", after := #[{ on := 9, ground := Go.Ground.data }], guard := none }) (v := _) rfl (by kernel_rfl) (by kernel_rfl) (by kernel_rfl) (fun _ _ _ h => h) (Or.inl ⟨by rfl, ?hy36⟩) (by assumption) ?hr36
  case hy36 => (intro _ hSw; (try dsimp only at hSw); go_simp <;> with_reducible rfl)
  simp only [Act.put, List.setIfInBounds_toArray, List.set_cons_zero, List.set_cons_succ]
  refine' wpAnyH_take (i := 11) (oi := { dst := some 27, op := Go.Op.load 3 (Go.Operand.tmp 26), type := 3, pos := "buffer.go:46", after := #[{ on := 10, ground := Go.Ground.data }], guard := none }) (v := _) rfl (by kernel_rfl) (by kernel_rfl) (by kernel_rfl) (fun _ _ _ h => h) (Or.inl ⟨by rfl, ?hy37⟩) (by assumption) ?hr37
  case hy37 => (intro _ hSw; (try dsimp only at hSw); have d0 := hSw.cell 4096 (nm r) HC.out.room; have d1 := hSw.cell 4098 (nm f) HC.out.first; have hlt := hSw.lt; clear hSw; go_simp <;> with_reducible rfl)
  simp only [Act.put, List.setIfInBounds_toArray, List.set_cons_zero, List.set_cons_succ]
  refine' wpAnyH_take (i := 12) (oi := { dst := some 28, op := Go.Op.slice 40 (Go.Operand.tmp 19) (some (Go.Operand.tmp 23)) (some (Go.Operand.tmp 27)) none, type := 45, pos := "buffer.go:46", after := #[{ on := 3, ground := Go.Ground.data }, { on := 7, ground := Go.Ground.data }, { on := 11, ground := Go.Ground.data }], guard := none }) (v := _) rfl (by kernel_rfl) (by kernel_rfl) (by kernel_rfl) (fun _ _ _ h => h) (Or.inl ⟨by rfl, ?hy38⟩) (by assumption) ?hr38
  case hy38 => (intro _ hSw; (try dsimp only at hSw); clear hSw; go_simp <;> with_reducible rfl)
  simp only [Act.put, List.setIfInBounds_toArray, List.set_cons_zero, List.set_cons_succ]
  refine wpAnyH_ready (rs := [13]) (by kernel_rfl) (by simp) ?_
  refine AllReadyH.cons (o := { dst := some 29, op := Go.Op.call { callee := Go.Callee.builtin Go.Builtin.copy, args := #[Go.Operand.tmp 16, Go.Operand.tmp 28], argTypes := #[45, 45] }, type := 3, pos := "buffer.go:46", after := #[{ on := 0, ground := Go.Ground.data }, { on := 12, ground := Go.Ground.data }], guard := none }) rfl (fun K hK => ?_) AllReadyH.nil
  refine step_copy_known rfl _ _ _ _ rfl rfl rfl (run_copy_at _ _ _ _ _ ob 0 k k ⟨b, f, none⟩ (r - f) (4096 - f) m1 (vals (fst_ t m1)) Try.underlying45 sizeBI (by rw [vals_len, fst_size]; have := HA.out; omega) (by have := HA.out; omega) (cells_at (A1.out : At w1.drew b cs BfT) (HG.out.low m1 (by have := HA.out; omega))) ?hc1 ?hf1 (vals_one _)) ?_
  case hc1 => intro j hj; exact some_at (Z1.out : At w1.drew ob zs BT) (by have := HA.out; have := HZ.out; omega)
  case hf1 => intro j hj; exact At.free (Z1.out : At w1.drew ob zs BT) _
  refine hK.out _ _ (sets_other hHeld HN.out) (fun hNext => ?_)
  clear hK K hHeld
  have hHeld := hNext
  clear hNext
  (try simp only [Act.put, List.setIfInBounds_toArray, List.set_cons_zero, List.set_cons_succ])
  refine' wpAnyH_take (i := 14) (oi := { dst := some 7, op := Go.Op.assign (Go.Operand.tmp 29), type := 3, pos := "buffer.go:46", after := #[{ on := 13, ground := Go.Ground.data }, { on := 13, ground := Go.Ground.chain }, { on := 0, ground := Go.Ground.phase }, { on := 1, ground := Go.Ground.phase }, { on := 2, ground := Go.Ground.phase }, { on := 3, ground := Go.Ground.phase }, { on := 4, ground := Go.Ground.phase }, { on := 5, ground := Go.Ground.phase }, { on := 6, ground := Go.Ground.phase }, { on := 7, ground := Go.Ground.phase }, { on := 8, ground := Go.Ground.phase }, { on := 9, ground := Go.Ground.phase }, { on := 10, ground := Go.Ground.phase }, { on := 11, ground := Go.Ground.phase }, { on := 12, ground := Go.Ground.phase }, { on := 13, ground := Go.Ground.phase }], guard := none }) (v := _) rfl (by kernel_rfl) (by kernel_rfl) (by kernel_rfl) (fun _ _ _ h => h) (Or.inl ⟨by rfl, ?hy39⟩) (by assumption) ?hr39
  case hy39 => (intro _ hSw; (try dsimp only at hSw); go_simp <;> with_reducible rfl)
  simp only [Act.put, List.setIfInBounds_toArray, List.set_cons_zero, List.set_cons_succ]
  refine wpAnyH_done (by kernel_rfl) ?_ _
  have A2 : Hid (At (w1.drew.setCells ob 0 (vals (fst_ t m1))) b cs BfT) := Lib.hid hHeld
  have Z2 : Hid (At (w1.drew.setCells ob 0 (vals (fst_ t m1))) ob (ovr zs 0 (vals (fst_ t m1))) BT) := Lib.hid (at_sets _ _ _ _ (Z1.out : At w1.drew ob zs BT))
  have G2 : Hid (Chg (Two b ob) w (w1.drew.setCells ob 0 (vals (fst_ t m1)))) := Lib.hid (chg_sets (S := Two b ob) (.inr rfl) _ _ _ G1.out.drew)
  clear hHeld A1 Z1 G1 HL
  generalize w1.drew.setCells ob 0 (vals (fst_ t m1)) = w2 at A2 Z2 G2 ⊢
  go_wp2_with fail
  refine wp_region_held_drew (S := (fun w' => At w' b cs BfT)) (by kernel_rfl) A2.out (fun hHeld => ?_)
  refine' wpAnyH_take (i := 0) (oi := { dst := some 30, op := Go.Op.move (Go.Operand.tmp 6), type := 45, pos := "buffer.go:47", after := #[], guard := none }) (v := _) rfl (by kernel_rfl) (by kernel_rfl) (by kernel_rfl) (fun _ _ _ h => h) (Or.inl ⟨by rfl, ?hy40⟩) (by assumption) ?hr40
  case hy40 => (intro _ hSw; (try dsimp only at hSw); go_simp <;> with_reducible rfl)
  simp only [Act.put, List.setIfInBounds_toArray, List.set_cons_zero, List.set_cons_succ]
  refine' wpAnyH_take (i := 1) (oi := { dst := some 31, op := Go.Op.move (Go.Operand.tmp 7), type := 3, pos := "buffer.go:47", after := #[], guard := none }) (v := _) rfl (by kernel_rfl) (by kernel_rfl) (by kernel_rfl) (fun _ _ _ h => h) (Or.inl ⟨by rfl, ?hy41⟩) (by assumption) ?hr41
  case hy41 => (intro _ hSw; (try dsimp only at hSw); go_simp <;> with_reducible rfl)
  simp only [Act.put, List.setIfInBounds_toArray, List.set_cons_zero, List.set_cons_succ]
  refine' wpAnyH_take (i := 2) (oi := { dst := some 32, op := Go.Op.slice 45 (Go.Operand.tmp 30) (some (Go.Operand.tmp 31)) none none, type := 45, pos := "buffer.go:47", after := #[{ on := 0, ground := Go.Ground.data }, { on := 1, ground := Go.Ground.data }], guard := none }) (v := _) rfl (by kernel_rfl) (by kernel_rfl) (by kernel_rfl) (fun _ _ _ h => h) (Or.inl ⟨by rfl, ?hy42⟩) (by assumption) ?hr42
  case hy42 => (intro _ hSw; (try dsimp only at hSw); clear hSw; go_simp <;> with_reducible rfl)
  simp only [Act.put, List.setIfInBounds_toArray, List.set_cons_zero, List.set_cons_succ]
  refine' wpAnyH_take (i := 3) (oi := { dst := some 33, op := Go.Op.move (Go.Operand.tmp 0), type := 25, pos := "buffer.go:47", after := #[], guard := none }) (v := _) rfl (by kernel_rfl) (by kernel_rfl) (by kernel_rfl) (fun _ _ _ h => h) (Or.inl ⟨by rfl, ?hy43⟩) (by assumption) ?hr43
  case hy43 => (intro _ hSw; (try dsimp only at hSw); go_simp <;> with_reducible rfl)
  simp only [Act.put, List.setIfInBounds_toArray, List.set_cons_zero, List.set_cons_succ]
  refine' wpAnyH_take (i := 4) (oi := { dst := some 34, op := Go.Op.nilCheck (Go.Operand.tmp 33), type := 0, pos := "buffer.go:47", after := #[{ on := 3, ground := Go.Ground.data }], guard := none }) (v := _) rfl (by kernel_rfl) (by kernel_rfl) (by kernel_rfl) (fun _ _ _ h => h) (Or.inl ⟨by rfl, ?hy44⟩) (by assumption) ?hr44
  case hy44 => (intro _ hSw; (try dsimp only at hSw); go_simp <;> with_reducible rfl)
  simp only [Act.put, List.setIfInBounds_toArray, List.set_cons_zero, List.set_cons_succ]
  refine' wpAnyH_take (i := 5) (oi := { dst := some 35, op := Go.Op.fieldAddr 42 (Go.Operand.tmp 34) 0, type := 0, pos := "buffer.go:47", after := #[{ on := 4, ground := Go.Ground.data }], guard := none }) (v := _) rfl (by kernel_rfl) (by kernel_rfl) (by kernel_rfl) (fun _ _ _ h => h) (Or.inl ⟨by rfl, ?hy45⟩) (by assumption) ?hr45
  case hy45 => (intro _ hSw; (try dsimp only at hSw); go_simp <;> with_reducible rfl)
  simp only [Act.put, List.setIfInBounds_toArray, List.set_cons_zero, List.set_cons_succ]
  refine' wpAnyH_take (i := 6) (oi := { dst := some 36, op := Go.Op.move (Go.Operand.tmp 0), type := 25, pos := "buffer.go:47", after := #[], guard := none }) (v := _) rfl (by kernel_rfl) (by kernel_rfl) (by kernel_rfl) (fun _ _ _ h => h) (Or.inl ⟨by rfl, ?hy46⟩) (by assumption) ?hr46
  case hy46 => (intro _ hSw; (try dsimp only at hSw); go_simp <;> with_reducible rfl)
  simp only [Act.put, List.setIfInBounds_toArray, List.set_cons_zero, List.set_cons_succ]
  refine' wpAnyH_take (i := 7) (oi := { dst := some 37, op := Go.Op.nilCheck (Go.Operand.tmp 36), type := 0, pos := "buffer.go:47", after := #[{ on := 6, ground := Go.Ground.data }], guard := none }) (v := _) rfl (by kernel_rfl) (by kernel_rfl) (by kernel_rfl) (fun _ _ _ h => h) (Or.inl ⟨by rfl, ?hy47⟩) (by assumption) ?hr47
  case hy47 => (intro _ hSw; (try dsimp only at hSw); go_simp <;> with_reducible rfl)
  simp only [Act.put, List.setIfInBounds_toArray, List.set_cons_zero, List.set_cons_succ]
  refine' wpAnyH_take (i := 8) (oi := { dst := some 38, op := Go.Op.fieldAddr 42 (Go.Operand.tmp 37) 1, type := 0, pos := "buffer.go:47", after := #[{ on := 7, ground := Go.Ground.data }], guard := none }) (v := _) rfl (by kernel_rfl) (by kernel_rfl) (by kernel_rfl) (fun _ _ _ h => h) (Or.inl ⟨by rfl, ?hy48⟩) (by assumption) ?hr48
  case hy48 => (intro _ hSw; (try dsimp only at hSw); go_simp <;> with_reducible rfl)
  simp only [Act.put, List.setIfInBounds_toArray, List.set_cons_zero, List.set_cons_succ]
  refine' wpAnyH_take (i := 9) (oi := { dst := some 39, op := Go.Op.load 3 (Go.Operand.tmp 38), type := 3, pos := "buffer.go:47", after := #[{ on := 8, ground := Go.Ground.data }], guard := none }) (v := _) rfl (by kernel_rfl) (by kernel_rfl) (by kernel_rfl) (fun _ _ _ h => h) (Or.inl ⟨by rfl, ?hy49⟩) (by assumption) ?hr49
  case hy49 => (intro _ hSw; (try dsimp only at hSw); have d0 := hSw.cell 4096 (nm r) HC.out.room; have d1 := hSw.cell 4098 (nm f) HC.out.first; have hlt := hSw.lt; clear hSw; go_simp <;> with_reducible rfl)
  simp only [Act.put, List.setIfInBounds_toArray, List.set_cons_zero, List.set_cons_succ]
  refine' wpAnyH_take (i := 10) (oi := { dst := some 40, op := Go.Op.slice 40 (Go.Operand.tmp 35) none (some (Go.Operand.tmp 39)) none, type := 45, pos := "buffer.go:47", after := #[{ on := 5, ground := Go.Ground.data }, { on := 9, ground := Go.Ground.data }], guard := none }) (v := _) rfl (by kernel_rfl) (by kernel_rfl) (by kernel_rfl) (fun _ _ _ h => h) (Or.inl ⟨by rfl, ?hy50⟩) (by assumption) ?hr50
  case hy50 => (intro _ hSw; (try dsimp only at hSw); clear hSw; go_simp <;> with_reducible rfl)
  simp only [Act.put, List.setIfInBounds_toArray, List.set_cons_zero, List.set_cons_succ]
  refine wpAnyH_ready (rs := [11]) (by kernel_rfl) (by simp) ?_
  refine AllReadyH.cons (o := { dst := some 41, op := Go.Op.call { callee := Go.Callee.builtin Go.Builtin.copy, args := #[Go.Operand.tmp 32, Go.Operand.tmp 40], argTypes := #[45, 45] }, type := 3, pos := "buffer.go:47", after := #[{ on := 2, ground := Go.Ground.data }, { on := 10, ground := Go.Ground.data }], guard := none }) rfl (fun K hK => ?_) AllReadyH.nil
  refine step_copy_known rfl _ _ _ _ rfl rfl rfl (run_copy_at _ _ _ _ _ ob m1 (k - m1) (k - m1) ⟨b, 0, none⟩ r 4096 (k - m1) (vals (rst_ (fst_ t k) m1)) Try.underlying45 sizeBI (by rw [vals_len, ext_size, fst_size]; have := HA.out; omega) (by have := HA.out; omega) (cells_at (A2.out : At w2.drew b cs BfT) (fun j u hj => by rw [Nat.zero_add]; exact HG.out.high k m1 (by have := HA.out; omega) (by have := HA.out; omega) (by have := HA.out; omega) j u hj)) ?hc2 ?hf2 (vals_one _)) ?_
  case hc2 => intro j hj; exact some_at (Z2.out : At w2.drew ob _ BT) (by rw [ovr_size]; have := HA.out; have := HZ.out; omega)
  case hf2 => intro j hj; exact At.free (Z2.out : At w2.drew ob _ BT) _
  refine hK.out _ _ (sets_other hHeld HN.out) (fun hNext => ?_)
  clear hK K hHeld
  have hHeld := hNext
  clear hNext
  (try simp only [Act.put, List.setIfInBounds_toArray, List.set_cons_zero, List.set_cons_succ])
  refine wpAnyH_done (by kernel_rfl) ?_ _
  have A3 : Hid (At (w2.drew.setCells ob m1 (vals (rst_ (fst_ t k) m1))) b cs BfT) := Lib.hid hHeld
  have Z3 : Hid (At (w2.drew.setCells ob m1 (vals (rst_ (fst_ t k) m1))) ob (ovr (ovr zs 0 (vals (fst_ t m1))) m1 (vals (rst_ (fst_ t k) m1))) BT) := Lib.hid (at_sets _ _ _ _ (Z2.out : At w2.drew ob _ BT))
  have G3 : Hid (Chg (Two b ob) w (w2.drew.setCells ob m1 (vals (rst_ (fst_ t k) m1)))) := Lib.hid (chg_sets (S := Two b ob) (.inr rfl) _ _ _ G2.out.drew)
  clear hHeld A2 Z2 G2
  generalize w2.drew.setCells ob m1 (vals (rst_ (fst_ t k) m1)) = w3 at A3 Z3 G3 ⊢
  have HW : Hid (∀ j x, (vals (fst_ t k))[j]? = some x → (ovr (ovr zs 0 (vals (fst_ t m1))) m1 (vals (rst_ (fst_ t k) m1)))[0 + j]? = some x) := Lib.hid (whole t k m1 m1 zs HZ.out (by have := HA.out; omega) (by have := HA.out; omega) (.inr rfl))
  generalize ovr (ovr zs 0 (vals (fst_ t m1))) m1 (vals (rst_ (fst_ t k) m1)) = zz at Z3 HW
  have hlt3 := A3.out.lt
  have hf3 := A3.out.free
  have d8 := A3.out.cell 4098 (nm f) HC.out.first
  have d9 := A3.out.cell 4099 (nm c) HC.out.count
  go_wp2_with fail
  refine (C2.out _ A3.out).mono ?_
  rintro _ w4 ⟨rfl, rfl⟩
  have HD : Hid (Do b _ BfT w3 ((w3.setCell ⟨b, 4098, none⟩ (nm p)).setCell ⟨b, 4099, none⟩ (nm d))) := Lib.hid (((Do.refl A3.out).set 4098 (nm p)).set 4099 (nm d))
  go_wp2_with fail
  generalize (w3.setCell ⟨b, 4098, none⟩ (nm p)).setCell ⟨b, 4099, none⟩ (nm d) = w5 at HD ⊢
  have Z5 : At w5 ob zz BT := Z3.out.other HD.out.chg fun e => HN.out e.symm
  refine (ftext w5 ob k (fst_ t k) (fst_size t (by have := HA.out; omega)) (cells_at Z5 HW.out) Z5.lt (by have := HA.out; omega)).mono ?_
  rintro _ w6 ⟨rfl, hb⟩
  have A6 : Hid (At w6 b _ BfT) := Lib.hid (HD.out.at_.below hb)
  have G6 : Hid (Chg (Two b ob) w w6) := Lib.hid ((G3.out.then (HD.out.chg.mono fun _ => .inl)).on hb)
  clear hb Z5 d8 d9 hf3 hlt3
  go_wp2
  go_ret
  exact ⟨rfl, A6.out, G6.out.monoLt HS.out⟩
theorem fget (w : World) (b r q : Nat) (t : ByteArray) (h : B w b r q t) (n : Int) : Calls Try.prog 11 #[ptr b, im n] w fun e w' => e = .returned (.string (fst_ t (cut n t.size))) ∧ B w' b r q (rst_ t (cut n t.size)) ∧ Chg (Bs b) w w' := by
  obtain ⟨f, cs, h⟩ := h
  have h1 := h.rg.few
  have h2 := h.rg.max
  have h3 := h.rg.lt
  have hk := cut_le n t.size
  by_cases h0 : cut n t.size = 0
  · refine (fget_none h n h0).mono ?_
    rintro _ w1 ⟨rfl, rfl⟩
    rw [h0]
    have e : rst_ t 0 = t := bext (by rw [rst_tl]; rfl)
    rw [e]
    exact ⟨ret_str (bext (by rw [fst_tl]; rfl)), ⟨f, cs, h⟩, Chg.refl _ _⟩
  have hm : min n (t.size : Int) = (cut n t.size : Int) := by unfold cut at h0 ⊢; omega
  have K : ∀ w', At w' b ((cs.setIfInBounds 4098 (nm (pl r (f + cut n t.size)))).setIfInBounds 4099 (nm (t.size - cut n t.size))) BfT → B w' b r q (rst_ t (cut n t.size)) := fun w' ha => by
    have e : (rst_ t (cut n t.size)).size = t.size - cut n t.size := ext_size t _
    refine ⟨pl r (f + cut n t.size), _, ha, ?_, ?_, h.may⟩
    · rw [e]
      exact (h.ok.set_first _).set_count _
    · exact ((h.rg.drop _ hk).set_out 4098 _ (by omega)).set_out 4099 _ (by omega)
  rcases Nat.lt_or_ge (min (r - f) (cut n t.size)) (cut n t.size) with hx | hx
  · refine (fget_two w b r q f t.size (cut n t.size) (min (r - f) (cut n t.size)) (pl r (f + cut n t.size)) (t.size - cut n t.size) cs t n h.at_ h.ok h.rg rfl hm (by omega) hk rfl hx rfl rfl).mono ?_
    rintro _ w1 ⟨rfl, ha, hc⟩
    exact ⟨rfl, K _ ha, hc⟩
  · refine (fget_one w b r q f t.size (cut n t.size) (min (r - f) (cut n t.size)) (pl r (f + cut n t.size)) (t.size - cut n t.size) cs t n h.at_ h.ok h.rg rfl hm (by omega) hk rfl (by omega) rfl rfl).mono ?_
    rintro _ w1 ⟨rfl, ha, hc⟩
    exact ⟨rfl, K _ ha, hc⟩
end Go.Proofs.Ytjhkjnammpblgaa.Bf

/-
  The reference: a list of how many ticks are left. No condition but that ticks are at most 65535.
-/
import Derived.Test.YtcadeoolacoidaaWhTick
import Derived.Lib.MinMax
namespace Go.Proofs.Ytcadeoolacoidaa.Wh
open Go.RowKit Go.Proofs.Ytcadeoolacoidaa.Base Go.Proofs.Ytcadeoolacoidaa.Mem
open Go.Proofs.Ytcadeoolacoidaa.Srt (wrap_nat)
/-- The list's cells. -/
def rc (f : Nat → Nat) : Array Value := ((List.range 256).map fun k => nm (f k)).toArray
theorem rc_size (f : Nat → Nat) : (rc f).size = 256 := by simp [rc]
theorem rc_get (f : Nat → Nat) {k : Nat} (hk : k < 256) : (rc f)[k]? = some (nm (f k)) := by
  simp [rc, hk]
theorem rc_set (f : Nat → Nat) (i x : Nat) : (rc f).setIfInBounds i (nm x) = rc (upd f i x) := by
  apply Array.ext_getElem?
  intro k
  rw [Array.getElem?_setIfInBounds, rc_size]
  by_cases hk : k < 256
  · rw [rc_get _ hk, rc_get _ hk]
    by_cases e : i = k
    · subst e
      rw [if_pos rfl, if_pos hk, upd_at]
    · rw [if_neg e, upd_ne (fun e' => e e'.symm)]
  · rw [Array.getElem?_eq_none (by rw [rc_size]; omega), Array.getElem?_eq_none (by rw [rc_size]; omega)]
    split
    · rw [if_neg (by omega)]
    · rfl
structure Rf (w : World) (pr lb : Nat) (f : Nat → Nat) : Prop where
  p : w.heap[pr]? = some (.cells #[.slice (some ⟨lb, 0, none⟩) 256 256] 35)
  c : w.heap[lb]? = some (.cells (rc f) 3)
section
variable {w w' : World} {pr lb : Nat} {f : Nat → Nat}
theorem Rf.ne (h : Rf w pr lb f) : pr ≠ lb := ne_type h.p h.c (by decide)
theorem Rf.frame {S : Nat → Prop} (h : Rf w pr lb f) (hc : Chg S w w') (h1 : ¬ S pr) (h2 : ¬ S lb) : Rf w' pr lb f := ⟨hc.stays h.p h1, hc.stays h.c h2⟩
theorem Rf.set (h : Rf w pr lb f) (i x : Nat) : Rf (w.setCell ⟨lb, i, none⟩ (nm x)) pr lb (upd f i x) :=
  ⟨(set_other h.ne _).trans h.p, by rw [block_set h.c, rc_set]⟩
theorem Rf.cell (h : Rf w pr lb f) {i : Nat} (hi : i < 256) : w.cell? ⟨lb, i, none⟩ = some (nm (f i)) := cell_of h.c (rc_get f hi)
theorem Rf.hdr (h : Rf w pr lb f) : w.cell? ⟨pr, 0, none⟩ = some (.slice (some ⟨lb, 0, none⟩) 256 256) := cell_of h.p rfl
theorem Rf.free (h : Rf w pr lb f) (i : Nat) : w.frozen? ⟨lb, i, none⟩ = false := free_of h.c
theorem infoI : (Try.prog.info? 3).map (fun i => (i.zero, i.size, i.bytes)) = some (some (.int .i64 0), 1, 8) := by kernel_rfl
theorem make_ints (w : World) : (Instr.makeSlice 33 (.int .i64 256) (.int .i64 256)).run Try.prog w = .ok (.slice (some ⟨w.heap.size, 0, none⟩) 256 256) (w.alloc (.cells (rc fun _ => 0) 3)) := by
  obtain ⟨i, hi, hz0, hz1, hz2⟩ := info_parts infoI
  have h := run_make (P := Try.prog) w 33 3 i (.int .i64 0) Try.underlying33 hi hz0 .i64 .i64 (256 : Int) (256 : Int) (by omega) (Int.le_refl _) (by rw [hz2]; omega) (by omega)
  rw [hz1] at h
  rw [h]
  have e : madeCells (Value.cells (.int .i64 0)) ((256 : Int).toNat * 1) = rc fun _ => 0 := by
    apply Array.ext'
    show (madeCells #[.int .i64 0] 256).toList = _
    rw [toList_madeCells_one]
    unfold rc
    rw [List.map_const', List.length_range]
    rfl
  exact congrArg (fun c => Result.ok _ (w.alloc (.cells c 3))) e
set_option maxHeartbeats 1000000 in
theorem rnew (w : World) : Calls Try.prog 9 #[] w fun r w' => ∃ pr lb, r = .returned (ptr pr) ∧ Rf w' pr lb (fun _ => 0) ∧ Below w.heap.size w w' ∧ w.heap.size ≤ pr ∧ w.heap.size ≤ lb := by
  have hmk := make_ints w
  go_enter Try.func9, Try.ntmps9
  go_wp2
  go_ret
  exact ⟨_, w.heap.size, rfl, ⟨nest w [.cells (rc fun _ => 0) 3, .cells #[.slice (some ⟨w.heap.size, 0, none⟩) 256 256] 35] 1 _ rfl, nest w [.cells (rc fun _ => 0) 3, .cells #[.slice (some ⟨w.heap.size, 0, none⟩) 256 256] 35] 0 _ rfl⟩, nest_below w [_, _], by omega, Nat.le_refl _⟩
set_option maxHeartbeats 1000000 in
theorem rset (h : Hid (Rf w pr lb f)) (i t : Nat) (hi : i < 256) (ht1 : 1 ≤ t) (ht2 : t ≤ 65535) :
    Calls Try.prog 18 #[ptr pr, oc i, nm t] w fun r w' => r = .returned (.int .i64 0) ∧ Rf w' pr lb (upd f i t) ∧ Chg (fun b => b = lb) w w' := by
  have g1 : decide ((t : Int) < 1) = false := decide_eq_false (by omega)
  have g1n : ¬ (t : Int) < 1 := by omega
  have g1m : ¬ t < 1 := by omega
  have g2 : decide ((65535 : Int) < (t : Int)) = false := decide_eq_false (by omega)
  have g2n : ¬ (65535 : Int) < (t : Int) := by omega
  have c0 := h.out.hdr
  have c1 := h.out.cell hi
  have f1 := h.out.free i
  have z1 : (i : Int) < 256 := by omega
  have HF : Hid (Rf (w.setCell ⟨lb, i, none⟩ (nm t)) pr lb (upd f i t)) := h.out.set i t
  clear h
  go_enter Try.func18, Try.ntmps18
  go_wp2
  go_ret
  exact ⟨rfl, HF.out, (Only.setCell lb i _ w).chg rfl⟩
theorem rset_arg (w : World) (pr i : Nat) (v : Int) (hv : v < 1 ∨ 65535 < v) :
    Calls Try.prog 18 #[ptr pr, oc i, .int .i64 v] w fun r w' => r = .returned (.int .i64 2) ∧ w' = w := by
  by_cases h1 : v < 1
  · have g1 : decide (v < 1) = true := decide_eq_true h1
    go_enter Try.func18, Try.ntmps18
    go_wp2
    go_ret
    exact ⟨rfl, rfl⟩
  · have g1 : decide (v < 1) = false := decide_eq_false h1
    have h2 : 65535 < v := by omega
    have g2 : decide (65535 < v) = true := decide_eq_true h2
    go_enter Try.func18, Try.ntmps18
    go_wp2
    go_ret
    exact ⟨rfl, rfl⟩
set_option maxHeartbeats 1000000 in
theorem rstop (h : Hid (Rf w pr lb f)) (i : Nat) (hi : i < 256) :
    Calls Try.prog 19 #[ptr pr, oc i] w fun r w' => r = .returned (.bool (decide (0 < f i))) ∧ Rf w' pr lb (upd f i 0) ∧ Chg (fun b => b = lb) w w' := by
  have c0 := h.out.hdr
  have c1 := h.out.cell hi
  have f1 := h.out.free i
  have z1 : (i : Int) < 256 := by omega
  have HF : Hid (Rf (w.setCell ⟨lb, i, none⟩ (nm 0)) pr lb (upd f i 0)) := h.out.set i 0
  have hq : decide ((0 : Int) < (f i : Int)) = decide (0 < f i) := by
    by_cases h0 : 0 < f i
    · rw [decide_eq_true h0, decide_eq_true (by omega)]
    · rw [decide_eq_false h0, decide_eq_false (by omega)]
  obtain ⟨x, hx⟩ : ∃ x, x = f i := ⟨_, rfl⟩
  rw [← hx] at c1 hq ⊢
  clear h hx
  go_enter Try.func19, Try.ntmps19
  go_wp2
  go_ret
  exact ⟨rfl, HF.out, (Only.setCell lb i _ w).chg rfl⟩
theorem count_step (f : Nat → Nat) (i : Nat) : ((List.range (i + 1)).filter fun k => decide (0 < f k)).length = ((List.range i).filter fun k => decide (0 < f k)).length + if 0 < f i then 1 else 0 := by
  rw [List.range_succ, List.filter_append, List.length_append]
  congr 1
  by_cases h : 0 < f i
  · rw [if_pos h, List.filter_cons_of_pos (by simpa using h)]; rfl
  · rw [if_neg h, List.filter_cons_of_neg (by simpa using h)]; rfl
set_option maxHeartbeats 2000000 in
theorem rcount (h : Hid (Rf w pr lb f)) :
    Calls Try.prog 12 #[ptr pr] w fun r w' => r = .returned (nm (cnt f)) ∧ w' = w := by
  have c0 := h.out.hdr
  go_enter Try.func12, Try.ntmps12
  go_wp2_with fail
  go_loopg [3, 4] 256 (fun g s t wr => ∃ i c : Nat, s = nm c ∧ t = nm i ∧ 256 - i ≤ g ∧ i ≤ 256 ∧ c ≤ i ∧ Hid (c = ((List.range i).filter fun k => decide (0 < f k)).length) ∧ wr = w)
  case atStart => exact ⟨0, 0, rfl, rfl, by omega, by omega, Nat.le_refl _, rfl, rfl⟩
  case round =>
    obtain ⟨i, c, rfl, rfl, hg, hi, hci, hc, rfl⟩ := hrel
    have vi := wrap_nat (i + 1) (by omega)
    have vc := wrap_nat (c + 1) (by omega)
    by_cases hlt : i < 256
    · have t1 : decide ((i : Int) < 256) = true := decide_eq_true (by omega)
      have t2 : (i : Int) < 256 := by omega
      have c1 := h.out.cell hlt
      have hst := count_step f i
      rw [← hc.out] at hst
      have HST := Lib.hid hst
      obtain ⟨x, hx⟩ : ∃ x, x = f i := ⟨_, rfl⟩
      rw [← hx] at c1
      have HX := Lib.hid hx
      clear hx hst
      by_cases h0 : 0 < x
      · have u1 : decide ((0 : Int) < (x : Int)) = true := decide_eq_true (by omega)
        have u2 : (0 : Int) < (x : Int) := by omega
        go_wp2
        go_roundg (256 - (i + 1))
        case measure => omega
        case rel => exact ⟨i + 1, c + 1, by first | rfl | go_num, by first | rfl | go_num, Nat.le_refl _, by omega, by omega, (by (have := HST.out; rw [← HX.out, if_pos h0] at this; exact this.symm)), rfl⟩
      · have u1 : decide ((0 : Int) < (x : Int)) = false := decide_eq_false (by omega)
        have u2 : ¬ (0 : Int) < (x : Int) := by omega
        go_wp2
        go_roundg (256 - (i + 1))
        case measure => omega
        case rel => exact ⟨i + 1, c, by first | rfl | go_num, by first | rfl | go_num, Nat.le_refl _, by omega, by omega, (by (have := HST.out; rw [← HX.out, if_neg h0] at this; exact this.symm)), rfl⟩
    · have t1 : decide ((i : Int) < 256) = false := decide_eq_false (by omega)
      have t2 : ¬ (i : Int) < 256 := by omega
      have hi6 : i = 256 := by omega
      have HC : Hid (c = cnt f) := by have := hc.out; rw [hi6] at this; exact this
      clear hc vc vi
      go_wp2
      go_ret
      exact ⟨by have e := HC.out; rw [← e]; rfl, rfl⟩
theorem due_step (f : Nat → Nat) (i : Nat) : (List.range (i + 1)).filter (fun k => decide (f k = 1)) = if f i = 1 then (List.range i).filter (fun k => decide (f k = 1)) ++ [i] else (List.range i).filter fun k => decide (f k = 1) := by
  rw [List.range_succ, List.filter_append]
  by_cases h : f i = 1
  · rw [if_pos h, List.filter_cons_of_pos (by simpa using h)]; rfl
  · rw [if_neg h, List.filter_cons_of_neg (by simpa using h), List.filter_nil, List.append_nil]
/-- The first i are done. -/
def part (f : Nat → Nat) (i : Nat) : Nat → Nat := fun k => if k < i then f k - 1 else f k
theorem part_at (f : Nat → Nat) (i : Nat) : part f i i = f i := if_neg (Nat.lt_irrefl i)
theorem part_upd (f : Nat → Nat) (i : Nat) : upd (part f i) i (f i - 1) = part f (i + 1) := by
  funext k
  unfold upd part
  by_cases e : k = i
  · subst e
    rw [if_pos rfl, if_pos (by omega)]
  · rw [if_neg e]
    by_cases h : k < i
    · rw [if_pos h, if_pos (by omega)]
    · rw [if_neg h, if_neg (by omega)]
theorem rc_part (f : Nat → Nat) : rc (part f 256) = rc (tick f) := by
  refine congrArg List.toArray (List.map_congr_left fun k hk => ?_)
  have := List.mem_range.1 hk
  unfold part tick
  rw [if_pos this]
theorem Rf.upd (h : Rf w pr lb (part f 256)) : Rf w pr lb (tick f) := ⟨h.p, by rw [← rc_part]; exact h.c⟩
structure RTicked (w : World) (pr lb : Nat) (f : Nat → Nat) (v : Value) (w' : World) : Prop where
  rf : Rf w' pr lb (tick f)
  due : OwnS 5 1 ocs w' w.heap.size v (dueOf f)
  chg : Chg (fun b => b = lb) w w'
theorem rowu (w : World) (k : Nat) (t : TypeId) : ∀ j, j < 1 → (w.alloc (.cells #[oc k] t)).cell? ⟨w.heap.size, j, none⟩ = (ocs k)[j]? := fun j hj => by
  have : j = 0 := by omega
  subst this
  exact cell_of (nest w [_] 0 _ rfl) rfl
set_option maxHeartbeats 4000000 in
set_option maxRecDepth 100000 in
theorem rtick (h : Hid (Rf w pr lb f)) (hf : ∀ k, f k ≤ 65535) :
    Calls Try.prog 20 #[ptr pr] w fun r w' => ∃ v, r = .returned v ∧ RTicked w pr lb f v w' := by
  obtain ⟨P, hP⟩ : ∃ P : Value → World → Prop, P = RTicked w pr lb f := ⟨_, rfl⟩
  suffices hs : Calls Try.prog 20 #[ptr pr] w fun r w' => ∃ v, r = .returned v ∧ P v w' by rw [hP] at hs; exact hs
  have HP := Lib.hid hP
  clear hP
  have H0 : Hid (Rf w pr lb (part f 0)) := by
    have e : part f 0 = f := by funext k; exact if_neg (by omega)
    rw [e]; exact h
  have O0 : Hid (OwnS 5 1 ocs w w.heap.size (.slice none 0 0) ((List.range 0).filter fun k => decide (f k = 1))) := ownS_nil _ _
  have G0 : Hid (Chg (fun b => b = lb) w w) := Chg.refl _ _
  have HL : Hid (pr < w.heap.size ∧ lb < w.heap.size) := ⟨lt_heap h.out.p, lt_heap h.out.c⟩
  clear h
  go_enter Try.func20, Try.ntmps20
  go_wp2_with fail
  go_loopg [3, 4] 256 (fun g s t wr => ∃ (i : Nat) (v : Value), s = v ∧ t = nm i ∧ 256 - i ≤ g ∧ i ≤ 256 ∧ Hid (Rf wr pr lb (part f i)) ∧ Hid (OwnS 5 1 ocs wr w.heap.size v ((List.range i).filter fun k => decide (f k = 1))) ∧ Hid (Chg (fun b => b = lb) w wr))
  case atStart => exact ⟨0, _, rfl, rfl, by omega, by omega, H0, O0, G0⟩
  case round =>
    clear H0 O0 G0
    obtain ⟨i, v, hv, rfl, hg, hi, H1, O1, G1⟩ := hrel
    have hv2 := hv.symm
    clear hv
    subst hv2
    by_cases hlt : i < 256
    · have t1 : decide ((i : Int) < 256) = true := decide_eq_true (by omega)
      have t2 : (i : Int) < 256 := by omega
      have vi := wrap_nat (i + 1) (by omega)
      obtain ⟨x, hx⟩ : ∃ x, x = f i := ⟨_, rfl⟩
      obtain ⟨y, hy⟩ : ∃ y, y = x - 1 := ⟨_, rfl⟩
      have hx6 : x ≤ 65535 := by rw [hx]; exact hf i
      have c0 := H1.out.hdr
      have c1 := H1.out.cell hlt
      rw [part_at, ← hx] at c1
      have r1 : IntKind.i64.wrap ((x : Int) - 1) = (x : Int) - 1 := by rw [IntKind.wrap_i64]; omega
      have r2 : max (0 : Int) ((x : Int) - 1) = (y : Int) := by omega
      have hds := due_step f i
      rw [← hx] at hds
      have HDS := Lib.hid hds
      have HX := Lib.hid hx
      have HY := Lib.hid hy
      clear hx hy hds
      by_cases hx1 : x = 1
      · have u1 : ((x : Int) == 1) = true := by rw [beq_iff_eq]; omega
        have u2 : (x : Int) = 1 := by omega
        have wu : IntKind.u8.wrap (i : Int) = (i : Int) := by rw [IntKind.wrap_u8]; omega
        have HLN : Hid (((List.range i).filter fun k => decide (f k = 1)).length + 1 ≤ 1000000) := by
          have h5 := List.length_filter_le (fun k => decide (f k = 1)) (List.range i)
          rw [List.length_range] at h5
          show _ + 1 ≤ _
          omega
        have HWS := Lib.hid G1.out.size
        have O2 : Hid (OwnS 5 1 ocs (wr.alloc (.cells #[oc i] 5)) w.heap.size v ((List.range i).filter fun k => decide (f k = 1))) := O1.out.alloc _
        have HSZ : Hid (w.heap.size ≤ (wr.alloc (.cells #[oc i] 5)).heap.size) := by
          have h5 := size_alloc wr (.cells #[oc i] 5)
          have h6 := HWS.out
          show _ ≤ _
          omega
        have R2 : Hid (∀ w4, (wr.alloc (.cells #[oc i] 5)).grownBy w4 v.ownBlock → Rf w4 pr lb (part f i) ∧ Chg (fun b => b = lb) w w4) := fun w4 hg4 => by
          have far : ∀ b, b < w.heap.size → w4.heap[b]? = wr.heap[b]? := fun b hb => by
            have h5 := size_alloc wr (.cells #[oc i] 5)
            have h6 := HWS.out
            refine (hg4.block b (by omega) fun e => ?_).trans (alloc_same wr _ (by omega))
            have := (O1.out.lt b e.symm).1
            omega
          refine ⟨⟨(far pr HL.out.1).trans H1.out.p, (far lb HL.out.2).trans H1.out.c⟩, (G1.out.alloc _).grown hg4 fun b e hb => ?_⟩
          have := (O1.out.lt b e).1
          omega
        subst hx1
        go_wp2_with (first | (at_builtin; refine wpList_append_elt eltU _ rfl _ _ rfl w.heap.size v rfl _ O2.out wr.heap.size 1 rfl i (rowu wr i _) HLN.out HSZ.out ?_; intro v4 w4 hown hgrow hat))
        have O4 : Hid (OwnS 5 1 ocs w4 w.heap.size v4 ((List.range (i + 1)).filter fun k => decide (f k = 1))) := by
          have e : (List.range (i + 1)).filter (fun k => decide (f k = 1)) = (List.range i).filter (fun k => decide (f k = 1)) ++ [i] := by first | exact HDS.out.trans (if_pos rfl) | exact HDS.out.trans (if_pos trivial)
          rw [e]; exact hown
        have H4 : Hid (Rf w4 pr lb (part f i)) := (R2.out w4 hgrow).1
        have G4 : Hid (Chg (fun b => b = lb) w w4) := (R2.out w4 hgrow).2
        clear hown hgrow hat O2 R2 HSZ H1 O1 G1 c0 c1
        have d0 := H4.out.hdr
        have d1 := H4.out.cell hlt
        have f1 := H4.out.free i
        rw [part_at, ← HX.out] at d1
        have R5 : Hid (Rf (w4.setCell ⟨lb, i, none⟩ (.int .i64 0)).drew pr lb (part f (i + 1))) := by
          have := H4.out.set i 0
          have e := part_upd f i
          rw [← HX.out] at e
          rw [show (1 : Nat) - 1 = 0 from rfl] at e
          rw [e] at this
          exact ⟨this.p, this.c⟩
        have O5 : Hid (OwnS 5 1 ocs (w4.setCell ⟨lb, i, none⟩ (.int .i64 0)).drew w.heap.size v4 ((List.range (i + 1)).filter fun k => decide (f k = 1))) := by
          refine ownS_keep O4.out fun b hb => ?_
          have h5 := (O4.out.lt b hb).1
          have h6 := HL.out.2
          exact set_other (w := w4) (by omega) _
        have G5 : Hid (Chg (fun b => b = lb) w (w4.setCell ⟨lb, i, none⟩ (.int .i64 0)).drew) := (G4.out.setCell lb i _ fun _ => rfl).drew
        clear H4 O4 G4
        go_wp2_with fail
        go_big_region
        generalize (w4.setCell ⟨lb, i, none⟩ (.int .i64 0)).drew = w5 at R5 O5 G5 ⊢
        go_wp2
        go_roundg (256 - (i + 1))
        case measure => omega
        case rel => exact ⟨i + 1, v4, rfl, by first | rfl | go_num, Nat.le_refl _, by omega, R5, O5, G5⟩
      · have u1 : ((x : Int) == 1) = false := by rw [beq_eq_false_iff_ne]; omega
        have u2 : ¬ (x : Int) = 1 := by omega
        have H4 := H1
        have O4 : Hid (OwnS 5 1 ocs wr w.heap.size v ((List.range (i + 1)).filter fun k => decide (f k = 1))) := by
          have e := HDS.out
          rw [if_neg hx1] at e
          rw [e]; exact O1
        have G4 := G1
        obtain ⟨v4, hv4⟩ : ∃ v4, v4 = v := ⟨_, rfl⟩
        obtain ⟨w4, hw4⟩ : ∃ w4, w4 = wr := ⟨_, rfl⟩
        subst hv4
        subst hw4
        clear H1 O1 G1
        have d0 := H4.out.hdr
        have d1 := H4.out.cell hlt
        have f1 := H4.out.free i
        rw [part_at, ← HX.out] at d1
        have R5 : Hid (Rf (w4.setCell ⟨lb, i, none⟩ (nm y)).drew pr lb (part f (i + 1))) := by
          have := H4.out.set i y
          have e := part_upd f i
          rw [← HX.out, ← HY.out] at e
          rw [e] at this
          exact ⟨this.p, this.c⟩
        have O5 : Hid (OwnS 5 1 ocs (w4.setCell ⟨lb, i, none⟩ (nm y)).drew w.heap.size v4 ((List.range (i + 1)).filter fun k => decide (f k = 1))) := by
          refine ownS_keep O4.out fun b hb => ?_
          have h5 := (O4.out.lt b hb).1
          have h6 := HL.out.2
          exact set_other (w := w4) (by omega) _
        have G5 : Hid (Chg (fun b => b = lb) w (w4.setCell ⟨lb, i, none⟩ (nm y)).drew) := (G4.out.setCell lb i _ fun _ => rfl).drew
        clear H4 O4 G4
        go_wp2_with fail
        go_big_region
        generalize (w4.setCell ⟨lb, i, none⟩ (nm y)).drew = w5 at R5 O5 G5 ⊢
        go_wp2
        go_roundg (256 - (i + 1))
        case measure => omega
        case rel => exact ⟨i + 1, v4, rfl, by first | rfl | go_num, Nat.le_refl _, by omega, R5, O5, G5⟩
    · have t1 : decide ((i : Int) < 256) = false := decide_eq_false (by omega)
      have t2 : ¬ (i : Int) < 256 := by omega
      have hi6 : i = 256 := by omega
      have c0 := H1.out.hdr
      have HF : Hid (P v wr) := by
        rw [HP.out]
        rw [hi6] at H1 O1
        exact ⟨H1.out.upd, O1, G1⟩
      clear H1 O1 G1 hi6
      go_wp2
      go_ret
      exact ⟨_, rfl, HF.out⟩
end
end Go.Proofs.Ytcadeoolacoidaa.Wh

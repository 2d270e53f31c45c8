/-
  Stop's closure; a row is thinned by it. No condition but that a wheel has 1 to 256 slots.
-/
import Derived.Test.YtcadeoolacoidaaWhRow
import Derived.Test.YtcadeoolacoidaaWhSmall
import Derived.Deep.DeepCutAuto
import Derived.Deep.LoopGhost
import Derived.LaidEqlPtr
namespace Go.Proofs.Ytcadeoolacoidaa.Wh
open Go.RowKit Go.Proofs.Ytcadeoolacoidaa.Base Go.Proofs.Ytcadeoolacoidaa.Mem
open Go.Proofs.Ytcadeoolacoidaa.Srt (wrap_nat)
theorem infoE : (Try.prog.info? 53).map (fun i => (i.zero, i.size, i.bytes)) = some (some (.agg #[.int .u8 0, .int .i64 0, .int .i64 0]), 3, 24) := by kernel_rfl
theorem run_neq (e e0 : Nat) (w : World) {ca cb : Array Value} {ta tb : TypeId} (ha : w.heap[e]? = some (.cells ca ta)) (hb : w.heap[e0]? = some (.cells cb tb)) :
    (binOp .neq 50 (ptr e) (ptr e0)).run Try.prog w = .ok (.bool (decide (e ≠ e0))) w := by
  obtain ⟨i, hi, hz0, hz1, hz2⟩ := info_parts infoE
  have hp : Try.prog.underlying 50 = some (.pointer 53) := Try.underlying50
  by_cases h : e = e0
  · subst h
    have h : ∀ d : Nat, (Op.equalIn (d + 1) 50 (ptr e) (ptr e)).run Try.prog w = .ok true w := fun d => by
      simp [Op.equalIn, run_underlying hp, sizeOf, typeInfo, hi, run_sameAddr_same]
    simp only [binOp]
    simp [Op.equal, Op.maxDepth, h 9999]
  · have h2 : ∀ d : Nat, (Op.equalIn (d + 1) 50 (ptr e) (ptr e0)).run Try.prog w = .ok false w := fun d => by
      have hne : (⟨e, 0, none⟩ : Addr) ≠ ⟨e0, 0, none⟩ := fun he => h (by injection he)
      simp [Op.equalIn, run_underlying hp, sizeOf, typeInfo, hi, hz1, run_sameAddr_other w hne ha hb]
    simp only [binOp]
    simp [Op.equal, Op.maxDepth, h2 9999, h]
set_option maxHeartbeats 1000000 in
theorem fstay (e e0 cb : Nat) (w : World) (hc : w.cell? ⟨cb, 0, none⟩ = some (ptr e0)) {ca cb' : Array Value} {ta tb : TypeId} (ha : w.heap[e]? = some (.cells ca ta)) (hb : w.heap[e0]? = some (.cells cb' tb)) :
    Calls Try.prog 23 #[ptr e, ptr cb] w fun r w' => r = .returned (.bool (decide (e ≠ e0))) ∧ w' = w := by
  have hn := run_neq e e0 w ha hb
  obtain ⟨q, hq⟩ : ∃ q, q = decide (e ≠ e0) := ⟨_, rfl⟩
  rw [← hq] at hn ⊢
  clear hq ha hb
  go_enter Try.func23, Try.ntmps23
  go_wp2
  go_ret
  exact ⟨rfl, rfl⟩
theorem alloc_same (w : World) (o : Obj) {b : Nat} (hb : b < w.heap.size) : (w.alloc o).heap[b]? = w.heap[b]? := ((Below.refl w.heap.size w).alloc (Nat.le_refl _) o).block b hb
/-- While the row s alone is written. -/
theorem Hp.thin {w wr : World} {pb n hand rb mb s g len cap : Nat} {vs : Nat → Value} {L : Nat → List Nat} {E sl ro : Nat → Nat} {ks : List Nat} (h : Hp w pb n hand rb mb vs L E sl ro ks n) (hs : s < n) (hv : vs s = .slice (some ⟨g, 0, none⟩) len cap) (hc : Chg (fun b => b = g) w wr) :
    Hp wr pb n hand rb mb vs L E sl ro ks s := by
  obtain ⟨cs, hg⟩ := (h.rows s hs (by omega)).blk (b := g) (by rw [hv]; rfl)
  have hd := h.drop s
  exact hd.keep fun b hb => hc.block b (hd.lt hb) (hd.row_ne hg hb fun t ht hts hgt => h.apart s t hs ht (fun e => hts e.symm) g (by rw [hv]; rfl) hgt)
theorem row_apart {w : World} {pb n hand rb mb s g len cap k : Nat} {vs : Nat → Value} {L : Nat → List Nat} {E sl ro : Nat → Nat} {ks : List Nat} (h : Hp w pb n hand rb mb vs L E sl ro ks n) (hs : s < n) (hv : vs s = .slice (some ⟨g, 0, none⟩) len cap) :
    ∀ t, t < n → t ≠ s → ∀ b, (vs t).ownBlock = some b → (Value.slice (some ⟨g, 0, none⟩) k cap).ownBlock ≠ some b := fun t ht hts b hb hg => h.apart s t hs ht (fun e => hts e.symm) b (by rw [hv]; exact hg) hb
theorem filter_take (l : List Nat) (p : Nat → Bool) {j k : Nat} (hk : l[j]? = some k) : (l.take (j + 1)).filter p = if p k = true then (l.take j).filter p ++ [k] else (l.take j).filter p := by
  rw [List.take_add_one, hk, List.filter_append]
  cases hp : p k <;> simp [hp]
set_option maxHeartbeats 8000000 in
set_option maxRecDepth 100000 in
theorem fthin_stop (w : World) (pb n hand rb mb : Nat) (vs : Nat → Value) (L : Nat → List Nat) (E sl ro : Nat → Nat) (ks : List Nat) (s i cb : Nat) (h : Hid (Hp w pb n hand rb mb vs L E sl ro ks n)) (hs : s < n) (hl : (L s).length ≤ 256)
    (hc : w.heap[cb]? = some (.cells #[ptr (E i)] 50)) (hcb : ∀ t, t < n → (vs t).ownBlock ≠ some cb) (hinj : ∀ k ∈ L s, k ≠ i → E k ≠ E i) (hent : ∀ k, k ∈ L s ∨ k = i → ∃ cs, w.heap[E k]? = some (.cells cs 53)) :
    Calls Try.prog 22 #[ptr pb, nm s, .func (Fn.func 23) #[] #[ptr cb]] w fun r w' =>
      r = .returned (.tuple #[]) ∧ ∃ v, Hp w' pb n hand rb mb (fun t => if t = s then v else vs t) (fun t => if t = s then (L s).filter (fun k => decide (k ≠ i)) else L t) E sl ro ks n ∧ (∀ b, v.ownBlock = some b → (vs s).ownBlock = some b) ∧ Chg (fun b => b = rb ∨ (vs s).ownBlock = some b) w w' := by
  obtain ⟨F, hF⟩ : ∃ F, F = (L s).filter (fun k => decide (k ≠ i)) := ⟨_, rfl⟩
  rw [← hF]
  have HF := Lib.hid hF
  clear hF
  have c0 := h.out.cells.1
  have c1 := (h.out.rcell hs).1
  have z1 : (s : Int) < (n : Int) := by omega
  rcases (h.out.rows s hs (by omega)).shape with ⟨hv, hnil⟩ | ⟨g, cap, hv, _⟩
  · have hl0 : L s = [] := by cases hLs : L s with
      | nil => rfl
      | cons a r => rw [hLs] at hnil; cases hnil
    rw [hv] at c1
    have f5 := (h.out.rcell hs).2
    have hcl : ∀ ty, (Builtin.clear_ #[54] ty #[.slice none 0 0]).run Try.prog w = .ok (.tuple #[]) w := fun ty => clear_none w _ ty 0
    have HP3 : Hid (Hp (w.setCell ⟨rb, s, none⟩ (.slice none 0 0)) pb n hand rb mb (fun t => if t = s then .slice none 0 0 else vs t) (fun t => if t = s then F else L t) E sl ro ks n) := by
      have hF0 : F = [] := by rw [HF.out, hl0]; rfl
      exact (h.out.drop s).setRow hs (by rw [hF0]; exact ownS_nil _ _) (fun t ht hts b hb hg => by cases hg)
    have HG3 : Hid (Chg (fun b => b = rb ∨ (vs s).ownBlock = some b) w (w.setCell ⟨rb, s, none⟩ (.slice none 0 0))) := (Chg.refl _ w).setCell rb s _ fun _ => Or.inl rfl
    clear hl0 hnil hv h hcb hinj hent hc hl HF
    go_enter Try.func22, Try.ntmps22
    go_wp2_with fail
    go_loopg [7, 21] 0 (fun gm s7 s21 wr => s7 = .slice none 0 0 ∧ s21 = nm 0 ∧ wr = w)
    case atStart => exact ⟨rfl, rfl, rfl⟩
    case round =>
      obtain ⟨rfl, rfl, rfl⟩ := hrel
      go_wp2_with fail
      go_end0
      exact ⟨rfl, _, HP3.out, fun b hb => by (cases hb), HG3.out⟩
  · obtain ⟨l, hL⟩ : ∃ l, l = L s := ⟨_, rfl⟩
    have hrow := h.out.rows s hs (by omega)
    rw [hv, ← hL] at hrow
    have hst := Th.start hrow
    rw [List.length_map] at hst hv
    rw [← hL] at hl hinj hent hv
    obtain ⟨len, hlen⟩ : ∃ len, len = l.length := ⟨_, rfl⟩
    rw [← hlen] at hst hv hl
    have T0 := Lib.hid hst.1
    have hlc : len ≤ cap := hst.2.2.1
    have HM := Lib.hid hst.2.2.2
    rw [hv] at c1
    have G0 : Hid (Chg (fun b => b = g) w w) := Chg.refl _ _
    obtain ⟨csg, hg⟩ := (h.out.rows s hs (by omega)).blk (b := g) (by rw [hv]; rfl)
    have hcg : cb ≠ g := fun e => hcb s hs (by rw [hv, e]; rfl)
    have HE : Hid (∀ k, k ∈ l ∨ k = i → ∃ cs, w.heap[E k]? = some (.cells cs 53) ∧ E k ≠ g) := fun k hk => by
      obtain ⟨cs, hek⟩ := hent k hk
      exact ⟨cs, hek, ne_type hek hg (by decide)⟩
    have HI := Lib.hid hinj
    have HC := Lib.hid (And.intro hc hcg)
    have HV := Lib.hid hv
    have HLL := Lib.hid (And.intro hL hlen)
    clear hrow hst hent hinj hc hcb hg hv hL hlen hcg csg
    go_enter Try.func22, Try.ntmps22
    go_wp2_with fail
    go_loopg [7, 9, 21] len (fun gm s7 t9 s21 wr => ∃ (j : Nat) (K : List Nat), s7 = .slice (some ⟨g, 0, none⟩) K.length cap ∧ s21 = nm j ∧ len - j ≤ gm ∧ j ≤ len ∧ Hid (K = (l.take j).filter fun k => decide (k ≠ i)) ∧ Hid (Th E g cap l K j wr) ∧ Hid (Chg (fun b => b = g) w wr))
    case atStart => exact ⟨0, [], rfl, rfl, by omega, Nat.zero_le _, rfl, T0, G0⟩
    case round =>
      clear T0 G0
      obtain ⟨j, K, rfl, rfl, hgm, hjl, HK, T1, G1⟩ := hrel
      by_cases hj : j < len
      · have t1 : decide ((j : Int) < (len : Int)) = true := decide_eq_true (by omega)
        have t2 : (j : Int) < (len : Int) := by omega
        obtain ⟨k, hk⟩ : ∃ k, l[j]? = some k := ⟨l[j]'(by rw [← HLL.out.2]; exact hj), List.getElem?_eq_getElem _⟩
        have c3 := T1.out.cell hk
        have hkl : k ∈ l := List.mem_of_getElem? hk
        have cc : Hid (Calls Try.prog 23 #[ptr (E k), ptr cb] wr fun r w' => r = .returned (.bool (decide (E k ≠ E i))) ∧ w' = wr) := by
          obtain ⟨ca, h1, h2⟩ := HE.out k (Or.inl hkl)
          obtain ⟨ci, h3, h4⟩ := HE.out i (Or.inr rfl)
          exact fstay (E k) (E i) cb wr (cell_of (G1.out.stays HC.out.1 HC.out.2) rfl) (G1.out.stays h1 h2) (G1.out.stays h3 h4)
        obtain ⟨q, hq⟩ : ∃ q, q = decide (E k ≠ E i) := ⟨_, rfl⟩
        rw [← hq] at cc
        have hpq : decide (k ≠ i) = q := by
          rw [hq]
          by_cases e : k = i
          · rw [e]; simp
          · rw [decide_eq_true e, decide_eq_true (HI.out k hkl e)]
        have HS : Hid ((l.take (j + 1)).filter (fun k => decide (k ≠ i)) = if q = true then K ++ [k] else K) := by
          show _ = _
          rw [filter_take l _ hk, ← HK.out, hpq]
        have vj := wrap_nat (j + 1) (by omega)
        obtain ⟨e, he⟩ : ∃ e, e = E k := ⟨_, rfl⟩
        rw [← he] at cc c3
        have HEK := Lib.hid he
        clear hq hpq hkl he
        go_wp2_with fail
        go_at_call 23
        refine cc.out.mono ?_
        rintro _ w3 ⟨rfl, rfl⟩
        clear cc
        cases q with
        | true =>
          have hT2 : Th E g cap l K j (w3.alloc (.cells #[ptr e] 50)) := T1.out.other (alloc_same _ _ T1.out.lt)
          have T2 := Lib.hid hT2
          have C2 : Hid ((w3.alloc (.cells #[ptr e] 50)).cell? ⟨w3.heap.size, 0, none⟩ = some (ptr (E k))) := by rw [← HEK.out]; exact cell_of (nest w3 [_] 0 _ rfl) rfl
          have G2 : Hid (Chg (fun b => b = g) w (w3.alloc (.cells #[ptr e] 50))) := G1.out.alloc _
          have HJ : Hid (j < cap) := Nat.lt_of_lt_of_le hj hlc
          clear hT2 T1 G1 c3
          go_wp2_with (first | (at_builtin; refine wp_keep _ rfl _ _ rfl T2.out (k := k) HJ.out C2.out rfl rfl ?_; intro w4 h4 o4))
          have T3 := Lib.hid h4
          have G3 : Hid (Chg (fun b => b = g) w w4) := G2.out.then (o4.chg rfl)
          clear h4 o4 T2 C2 G2
          go_wp2_with fail
          go_roundg (len - (j + 1))
          case measure => omega
          case rel => exact ⟨j + 1, K ++ [k], by rw [List.length_append]; rfl, by first | rfl | go_num, Nat.le_refl _, hj, by first | exact (HS.out.trans (if_pos rfl)).symm | exact (HS.out.trans (if_pos trivial)).symm, T3, G3⟩
        | false =>
          have T3 := Lib.hid T1.out.skip
          clear T1 c3
          go_wp2_with fail
          go_roundg (len - (j + 1))
          case measure => omega
          case rel => exact ⟨j + 1, K, rfl, by first | rfl | go_num, Nat.le_refl _, hj, by first | exact (HS.out.trans (if_neg (by decide))).symm | exact (HS.out.trans (if_neg not_false)).symm, T3, G1⟩
      · have t1 : decide ((j : Int) < (len : Int)) = false := decide_eq_false (by omega)
        have t2 : ¬ (j : Int) < (len : Int) := by omega
        have hje : j = len := by omega
        have hKl : K.length ≤ len := by
          have := T1.out.kj
          omega
        have HKF : Hid (K = F) := by
          have := HK.out
          rw [hje, HLL.out.2, List.take_length, HLL.out.1] at this
          exact this.trans HF.out.symm
        by_cases hcap : K.length = cap
        · have hm0 : len - K.length = 0 := by omega
          have hcl : ∀ ty, (Builtin.clear_ #[54] ty #[.slice (some ⟨g, 0, none⟩) 0 0]).run Try.prog wr = .ok (.tuple #[]) wr := fun ty => clear_none wr _ ty 0
          have R2 := Lib.hid (T1.out.row HM.out (by omega))
          have P2 : Hid (Hp wr pb n hand rb mb vs L E sl ro ks s) := h.out.thin hs HV.out G1.out
          have c5 := P2.out.cells.1
          have f5 := (P2.out.rcell hs).2
          have c6 := (P2.out.rcell hs).1
          have y1 : (K.length : Int) ≤ (len : Int) := by omega
          have HP3 : Hid (Hp (wr.setCell ⟨rb, s, none⟩ (.slice (some ⟨g, 0, none⟩) K.length cap)) pb n hand rb mb (fun t => if t = s then .slice (some ⟨g, 0, none⟩) K.length cap else vs t) (fun t => if t = s then K else L t) E sl ro ks n) := P2.out.setRow hs R2.out (row_apart h.out hs HV.out)
          have HG3 : Hid (Chg (fun b => b = rb ∨ (vs s).ownBlock = some b) w (wr.setCell ⟨rb, s, none⟩ (.slice (some ⟨g, 0, none⟩) K.length cap))) := (G1.out.mono fun b hb => Or.inr (by rw [HV.out, hb]; rfl)).setCell rb s _ fun _ => Or.inl rfl
          rw [hcap] at HP3 HG3
          clear T1 G1 HK
          go_wp2_with fail
          go_end0
          exact ⟨rfl, _, by rw [← HKF.out]; exact HP3.out, fun b hb => by rw [HV.out]; exact hb, HG3.out⟩
        · obtain ⟨w2, hcl, hrow, ho⟩ := T1.out.done HM.out (len - K.length) (cap - K.length) (by omega)
          have G2 : Hid (Chg (fun b => b = g) w w2) := G1.out.then (ho.chg rfl)
          have P2 : Hid (Hp w2 pb n hand rb mb vs L E sl ro ks s) := h.out.thin hs HV.out G2.out
          have R2 := Lib.hid hrow
          have c5 := P2.out.cells.1
          have f5 := (P2.out.rcell hs).2
          have c6 := (P2.out.rcell hs).1
          have y1 : (K.length : Int) ≤ (len : Int) := by omega
          have HP3 : Hid (Hp (w2.setCell ⟨rb, s, none⟩ (.slice (some ⟨g, 0, none⟩) K.length cap)) pb n hand rb mb (fun t => if t = s then .slice (some ⟨g, 0, none⟩) K.length cap else vs t) (fun t => if t = s then K else L t) E sl ro ks n) := P2.out.setRow hs R2.out (row_apart h.out hs HV.out)
          have HG3 : Hid (Chg (fun b => b = rb ∨ (vs s).ownBlock = some b) w (w2.setCell ⟨rb, s, none⟩ (.slice (some ⟨g, 0, none⟩) K.length cap))) := (G2.out.mono fun b hb => Or.inr (by rw [HV.out, hb]; rfl)).setCell rb s _ fun _ => Or.inl rfl
          clear T1 G1 hrow ho G2 P2 R2 HK
          go_wp2_with fail
          go_end0
          exact ⟨rfl, _, by rw [← HKF.out]; exact HP3.out, fun b hb => by rw [HV.out]; exact hb, HG3.out⟩
end Go.Proofs.Ytcadeoolacoidaa.Wh

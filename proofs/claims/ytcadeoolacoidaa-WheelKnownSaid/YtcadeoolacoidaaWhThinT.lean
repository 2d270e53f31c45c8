/-
  A row is thinned by Tick's closure. No condition but that a row has at most 256 entries, rounds at most 65535.
-/
import Derived.Test.YtcadeoolacoidaaWhDue
namespace Go.Proofs.Ytcadeoolacoidaa.Wh
open Go.RowKit Go.Proofs.Ytcadeoolacoidaa.Base Go.Proofs.Ytcadeoolacoidaa.Mem
open Go.Proofs.Ytcadeoolacoidaa.Srt (wrap_nat)
/-- What it leaves. -/
structure Thinned (base pb n hand rb mb : Nat) (vs : Nat → Value) (L : Nat → List Nat) (E sl ro : Nat → Nat) (ks : List Nat) (s wb dv : Nat) (w w' : World) : Prop where
  ex : ∃ v ksj, (∀ b, v.ownBlock = some b → (vs s).ownBlock = some b) ∧ (∀ k, k ∈ ksj ↔ k ∈ ks ∧ ¬(k ∈ L s ∧ ro k = 0)) ∧
    Hp w' pb n hand rb mb (fun t => if t = s then v else vs t) (fun t => if t = s then (L s).filter (fun k => decide (0 < ro k)) else L t) E sl (fun k => if k ∈ L s then ro k - 1 else ro k) ksj n
  due : ∃ vd, w'.heap[dv]? = some (.cells #[vd] 41) ∧ OwnS 5 1 ocs w' base vd ((L s).filter fun k => decide (ro k = 0))
  wbx : w'.heap[wb]? = some (.cells #[ptr pb] 24)
  chg : Chg (fun b => b = rb ∨ (vs s).ownBlock = some b ∨ b = mb ∨ (∃ k ∈ ks, b = E k) ∨ b = dv ∨ base ≤ b) w w'
theorem ownS_set {α : Type} {E z base : Nat} {fc : α → List Value} {w : World} {v x : Value} {l : List α} {b i : Nat} {cs : Array Value} {t : TypeId} (h : OwnS E z fc w base v l) (hb : w.heap[b]? = some (.cells cs t)) (ht : E ≠ t) : OwnS E z fc (w.setCell ⟨b, i, none⟩ x) base v l :=
  ownS_keep h fun g hg => set_other (by obtain ⟨cs', h'⟩ := ownS_blk h hg; exact ne_type h' hb ht) _
section
variable {base pb n hand rb mb : Nat} {vs : Nat → Value} {L : Nat → List Nat} {E sl ro : Nat → Nat} {ks : List Nat} {s wb dv : Nat}
/-- The row is stored. -/
theorem thinned {w w2 : World} {D : List Nat} {vd v : Value} {j : Nat} (h : Tj base pb n hand rb mb vs L E sl ro ks s wb dv (L s) j D vd w2) (hj : (L s).length ≤ j) (hD : D = (L s).filter fun k => decide (ro k = 0)) (hs : s < n)
    (hv : RowAt w2 v (((L s).filter fun k => decide (0 < ro k)).map E)) (hvo : ∀ b, v.ownBlock = some b → (vs s).ownBlock = some b)
    (hc : Chg (fun b => (vs s).ownBlock = some b ∨ b = mb ∨ (∃ k ∈ ks, b = E k) ∨ b = dv ∨ base ≤ b) w w2) : Thinned base pb n hand rb mb vs L E sl ro ks s wb dv w (w2.setCell ⟨rb, s, none⟩ v) := by
  obtain ⟨ksj, h1, h2⟩ := h.ex
  rw [List.take_of_length_le hj] at h1 h2
  obtain ⟨cs, hr, _⟩ := h2.r
  have h3 := h2.setRow hs hv (fun t ht hts b hb hb2 => h2.apart s t hs ht (fun e => hts e.symm) b (hvo b hb2) hb)
  exact ⟨⟨v, ksj, hvo, h1, h3⟩, ⟨vd, (set_other (ne_type h.due hr (by decide)) _).trans h.due, by rw [← hD]; exact ownS_set h.own hr (by decide)⟩, (set_other (ne_type h.wbx hr (by decide)) _).trans h.wbx, (hc.mono fun b hb => Or.inr hb).setCell rb s _ fun _ => Or.inl rfl⟩
set_option maxHeartbeats 8000000 in
set_option maxRecDepth 100000 in
theorem fthin_tick (w : World) (v0 : Value) (H : Hid (Tj base pb n hand rb mb vs L E sl ro ks s wb dv (L s) 0 [] v0 w)) (hs : s < n) (hrow : RowAt w (vs s) ((L s).map E)) (hl : (L s).length ≤ 256) (hnd : (L s).Nodup) (hks : ∀ k ∈ L s, k ∈ ks ∧ k < 256 ∧ ro k ≤ 65535) (hgb : ∀ b, (vs s).ownBlock = some b → b < base) :
    Calls Try.prog 22 #[ptr pb, nm s, .func (Fn.func 24) #[] #[ptr wb, ptr dv]] w fun r w' =>
      r = .returned (.tuple #[]) ∧ Thinned base pb n hand rb mb vs L E sl ro ks s wb dv w w' := by
  obtain ⟨P, hP⟩ : ∃ P : World → Prop, P = Thinned base pb n hand rb mb vs L E sl ro ks s wb dv w := ⟨_, rfl⟩
  suffices hs : Calls Try.prog 22 #[ptr pb, nm s, .func (Fn.func 24) #[] #[ptr wb, ptr dv]] w fun r w' => r = .returned (.tuple #[]) ∧ P w' by rw [hP] at hs; exact hs
  have HP := Lib.hid hP
  clear hP
  have h2 : Hid (∃ ksj, Hp w pb n hand rb mb vs L E sl (fun k => if k ∈ (L s).take 0 then ro k - 1 else ro k) ksj s) := by
    obtain ⟨ksj, _, h2⟩ := H.out.ex
    exact ⟨ksj, h2⟩
  obtain ⟨ks0, h2⟩ := h2
  have H2 := Lib.hid h2
  clear h2
  have c0 := H2.out.cells.1
  have c1 := (H2.out.rcell hs).1
  have f5 := (H2.out.rcell hs).2
  have z1 : (s : Int) < (n : Int) := by omega
  rcases hrow.shape with ⟨hv, hnil⟩ | ⟨g, cap, hv, _⟩
  · have hl0 : L s = [] := by cases hLs : L s with
      | nil => rfl
      | cons a r => rw [hLs] at hnil; cases hnil
    rw [hv] at c1
    have hcl : ∀ ty, (Builtin.clear_ #[54] ty #[.slice none 0 0]).run Try.prog w = .ok (.tuple #[]) w := fun ty => clear_none w _ ty 0
    have HF : Hid (Thinned base pb n hand rb mb vs L E sl ro ks s wb dv w (w.setCell ⟨rb, s, none⟩ (.slice none 0 0))) :=
      thinned H.out (by rw [hl0]; exact Nat.le_refl _) (by rw [hl0]; rfl) hs (by rw [hl0]; exact ownS_nil _ _) (fun b hb => by cases hb) (Chg.refl _ _)
    clear hl0 hnil hv hrow H H2 hks hgb hnd hl
    go_enter Try.func22, Try.ntmps22
    go_wp2_with fail
    go_loopg [7, 21] 0 (fun gm s7 s21 wr => s7 = .slice none 0 0 ∧ s21 = nm 0 ∧ wr = w)
    case atStart => exact ⟨rfl, rfl, rfl⟩
    case round =>
      obtain ⟨rfl, rfl, rfl⟩ := hrel
      go_wp2_with fail
      go_end0
      exact ⟨rfl, by rw [HP.out]; exact HF.out⟩
  · obtain ⟨l, hL⟩ : ∃ l, l = L s := ⟨_, rfl⟩
    rw [hv, ← hL] at hrow
    have hst := Th.start hrow
    have hgl : g < base := hgb g (by rw [hv]; rfl)
    rw [List.length_map] at hst hv
    rw [← hL] at hl hks hv hnd H
    obtain ⟨len, hlen⟩ : ∃ len, len = l.length := ⟨_, rfl⟩
    rw [← hlen] at hst hv hl
    have T0 := Lib.hid hst.1
    have hlc : len ≤ cap := hst.2.2.1
    have HM := Lib.hid hst.2.2.2
    rw [hv] at c1
    have G0 : Hid (Chg (fun b => b = g ∨ b = mb ∨ (∃ k ∈ ks, b = E k) ∨ b = dv ∨ base ≤ b) w w) := Chg.refl _ _
    have HAP : Hid (∀ t, t < n → t ≠ s → (vs t).ownBlock ≠ some g) := fun t ht hts hgt => H2.out.apart s t hs ht (fun e => hts e.symm) g (by rw [hv]; rfl) hgt
    have HKS := Lib.hid hks
    have HND := Lib.hid hnd
    have HV := Lib.hid hv
    have HLL := Lib.hid (And.intro hL hlen)
    clear hrow hst hv hL hlen hks hnd hgb
    go_enter Try.func22, Try.ntmps22
    go_wp2_with fail
    go_loopg [7, 9, 21] len (fun gm s7 t9 s21 wr => ∃ (j : Nat) (K D : List Nat) (vd : Value), s7 = .slice (some ⟨g, 0, none⟩) K.length cap ∧ s21 = nm j ∧ len - j ≤ gm ∧ j ≤ len ∧ Hid (K = (l.take j).filter fun k => decide (0 < ro k)) ∧ Hid (D = (l.take j).filter fun k => decide (ro k = 0)) ∧ Hid (Th E g cap l K j wr) ∧ Hid (Tj base pb n hand rb mb vs L E sl ro ks s wb dv l j D vd wr) ∧ Hid (Chg (fun b => b = g ∨ b = mb ∨ (∃ k ∈ ks, b = E k) ∨ b = dv ∨ base ≤ b) w wr))
    case atStart => exact ⟨0, [], [], v0, rfl, rfl, by omega, Nat.zero_le _, rfl, rfl, T0, H, G0⟩
    case round =>
      clear T0 G0 H
      obtain ⟨j, K, D, vd, rfl, rfl, hgm, hjl, HK, HD, T1, J1, G1⟩ := hrel
      by_cases hj : j < len
      · have t1 : decide ((j : Int) < (len : Int)) = true := decide_eq_true (by omega)
        have t2 : (j : Int) < (len : Int) := by omega
        obtain ⟨k, hk⟩ : ∃ k, l[j]? = some k := ⟨l[j]'(by rw [← HLL.out.2]; exact hj), List.getElem?_eq_getElem _⟩
        have c3 := T1.out.cell hk
        have hkl : k ∈ l := List.mem_of_getElem? hk
        have hDl : D.length ≤ 1000 := by
          rw [HD.out]
          refine Nat.le_trans (List.length_filter_le _ _) ?_
          rw [List.length_take]; omega
        have cc := Lib.hid (fdue J1 k HND.out hk (HKS.out k hkl).1 (HKS.out k hkl).2.1 (HKS.out k hkl).2.2 hDl)
        obtain ⟨q, hq⟩ : ∃ q, q = decide (0 < ro k) := ⟨_, rfl⟩
        rw [← hq] at cc
        have HQ := Lib.hid hq
        have HS : Hid ((l.take (j + 1)).filter (fun k => decide (0 < ro k)) = if q = true then K ++ [k] else K) := by
          show _ = _
          rw [filter_take l _ hk, ← HK.out, hq]
        have HS2 : Hid ((l.take (j + 1)).filter (fun k => decide (ro k = 0)) = if 0 < ro k then D else D ++ [k]) := by
          show _ = _
          rw [filter_take l _ hk, ← HD.out]
          by_cases h0 : 0 < ro k
          · rw [if_neg (by simp; omega), if_pos h0]
          · rw [if_pos (by simp; omega), if_neg h0]
        have vj := wrap_nat (j + 1) (by omega)
        obtain ⟨e, he⟩ : ∃ e, e = E k := ⟨_, rfl⟩
        rw [← he] at cc c3
        have HEK := Lib.hid he
        have HEC : Hid (wr.heap[e]? = some (.cells #[oc k, nm (sl k), nm (ro k)] 53)) := by rw [he]; exact J1.out.cells HND.out hk (HKS.out k hkl).1
        have HKL := Lib.hid (HKS.out k hkl).1
        clear hq hkl he hDl
        go_wp2_with fail
        go_at_call 24
        refine cc.out.mono ?_
        rintro _ w3 ⟨rfl, vd2, j2, g2⟩
        have J2 := Lib.hid j2
        have hgsame : w3.heap[g]? = wr.heap[g]? := by
          obtain ⟨cur, hg, _⟩ := T1.out.ex
          refine g2.block g (lt_heap hg) ?_
          rintro (h | h | h | h)
          · obtain ⟨ksj, _, h2⟩ := J1.out.ex
            obtain ⟨es, c', h3, _⟩ := h2.m.blk
            exact ne_map hg h3 h
          · exact ne_type hg HEC.out (by decide) h
          · exact ne_type hg J1.out.due (by decide) h
          · omega
        have T2 : Hid (Th E g cap l K j w3) := T1.out.other hgsame
        have G2 : Hid (Chg (fun b => b = g ∨ b = mb ∨ (∃ k ∈ ks, b = E k) ∨ b = dv ∨ base ≤ b) w w3) := G1.out.then (g2.mono fun b hb => by
          rcases hb with h | h | h | h
          · exact Or.inr (Or.inl h)
          · exact Or.inr (Or.inr (Or.inl ⟨k, HKL.out, h.trans HEK.out⟩))
          · exact Or.inr (Or.inr (Or.inr (Or.inl h)))
          · exact Or.inr (Or.inr (Or.inr (Or.inr h))))
        clear cc j2 g2 hgsame J1 T1 G1 HEC
        cases q with
        | true =>
          have T3 : Hid (Th E g cap l K j (w3.alloc (.cells #[ptr e] 50))) := T2.out.other (alloc_same _ _ T2.out.lt)
          have C2 : Hid ((w3.alloc (.cells #[ptr e] 50)).cell? ⟨w3.heap.size, 0, none⟩ = some (ptr (E k))) := by rw [← HEK.out]; exact cell_of (nest w3 [_] 0 _ rfl) rfl
          have G3 : Hid (Chg (fun b => b = g ∨ b = mb ∨ (∃ k ∈ ks, b = E k) ∨ b = dv ∨ base ≤ b) w (w3.alloc (.cells #[ptr e] 50))) := G2.out.alloc _
          have GK : Hid (Chg (fun b => b = g) w3 (w3.alloc (.cells #[ptr e] 50))) := (Chg.refl _ _).alloc _
          have HJ : Hid (j < cap) := Nat.lt_of_lt_of_le hj hlc
          clear G2 c3
          go_wp2_with (first | (at_builtin; refine wp_keep _ rfl _ _ rfl T3.out (k := k) HJ.out C2.out rfl rfl ?_; intro w4 h4 o4))
          have T5 := Lib.hid h4
          have G5 : Hid (Chg (fun b => b = g ∨ b = mb ∨ (∃ k ∈ ks, b = E k) ∨ b = dv ∨ base ≤ b) w w4) := G3.out.then (o4.chg (Or.inl rfl))
          have J5 : Hid (Tj base pb n hand rb mb vs L E sl ro ks s wb dv l (j + 1) (if 0 < ro k then D else D ++ [k]) vd2 w4) := by
            obtain ⟨cur, hg, _⟩ := T2.out.ex
            exact J2.out.keep hg HAP.out (GK.out.then (o4.chg rfl))
          clear h4 o4 T2 T3 C2 G3 GK J2
          go_wp2_with fail
          go_roundg (len - (j + 1))
          case measure => omega
          case rel => exact ⟨j + 1, K ++ [k], _, vd2, by rw [List.length_append]; rfl, by first | rfl | go_num, Nat.le_refl _, hj, by first | exact (HS.out.trans (if_pos rfl)).symm | exact (HS.out.trans (if_pos trivial)).symm, HS2.out.symm, T5, J5, G5⟩
        | false =>
          have T3 := Lib.hid T2.out.skip
          clear T2 c3
          go_wp2_with fail
          go_roundg (len - (j + 1))
          case measure => omega
          case rel => exact ⟨j + 1, K, _, vd2, rfl, by first | rfl | go_num, Nat.le_refl _, hj, by first | exact (HS.out.trans (if_neg (by decide))).symm | exact (HS.out.trans (if_neg not_false)).symm, HS2.out.symm, T3, J2, G2⟩
      · have t1 : decide ((j : Int) < (len : Int)) = false := decide_eq_false (by omega)
        have t2 : ¬ (j : Int) < (len : Int) := by omega
        have hje : j = len := by omega
        have hKl : K.length ≤ len := by
          have := T1.out.kj
          omega
        have hall : l.take j = L s := by rw [hje, HLL.out.2, List.take_length, HLL.out.1]
        have HKF : Hid (K = (L s).filter fun k => decide (0 < ro k)) := by
          have := HK.out
          rw [hall] at this
          exact this
        have HDF : Hid (D = (L s).filter fun k => decide (ro k = 0)) := by
          have := HD.out
          rw [hall] at this
          exact this
        have HJL : Hid ((L s).length ≤ j) := by
          show (L s).length ≤ j
          rw [← HLL.out.1, ← HLL.out.2]; omega
        rw [HLL.out.1] at J1 T1
        have hcm : ∀ b, (b = g ∨ b = mb ∨ (∃ k ∈ ks, b = E k) ∨ b = dv ∨ base ≤ b) → ((vs s).ownBlock = some b ∨ b = mb ∨ (∃ k ∈ ks, b = E k) ∨ b = dv ∨ base ≤ b) := fun b hb => by
          rcases hb with h | h
          · exact Or.inl (by rw [HV.out, h]; rfl)
          · exact Or.inr h
        have hg0 : ∃ cs, wr.heap[g]? = some (.cells cs 50) := by
          obtain ⟨cur, hg, _⟩ := T1.out.ex
          exact ⟨cur, hg⟩
        obtain ⟨csg, hg0⟩ := hg0
        have hvo : ∀ b, (Value.slice (some ⟨g, 0, none⟩) K.length cap).ownBlock = some b → (vs s).ownBlock = some b := fun b hb => by rw [HV.out]; exact hb
        by_cases hcap : K.length = cap
        · have hm0 : len - K.length = 0 := by omega
          have hcl : ∀ ty, (Builtin.clear_ #[54] ty #[.slice (some ⟨g, 0, none⟩) 0 0]).run Try.prog wr = .ok (.tuple #[]) wr := fun ty => clear_none wr _ ty 0
          have HF : Hid (Thinned base pb n hand rb mb vs L E sl ro ks s wb dv w (wr.setCell ⟨rb, s, none⟩ (.slice (some ⟨g, 0, none⟩) K.length cap))) :=
            thinned J1.out HJL.out HDF.out hs (by rw [← HKF.out]; exact T1.out.row HM.out (by omega)) hvo (G1.out.mono hcm)
          have P2 : Hid (∃ ksj, Hp wr pb n hand rb mb vs L E sl (fun k => if k ∈ (L s).take j then ro k - 1 else ro k) ksj s) := by
            obtain ⟨ksj, _, h2⟩ := J1.out.ex
            exact ⟨ksj, h2⟩
          obtain ⟨ksj, p2⟩ := P2
          have c5 := p2.cells.1
          have f5 := (p2.rcell hs).2
          have c6 := (p2.rcell hs).1
          have y1 : (K.length : Int) ≤ (len : Int) := by omega
          rw [hcap] at HF
          clear T1 G1 J1 HK HD hcm hvo hall p2
          go_wp2_with fail
          go_end0
          exact ⟨rfl, by rw [HP.out]; exact HF.out⟩
        · obtain ⟨w2, hcl, hrow, ho⟩ := T1.out.done HM.out (len - K.length) (cap - K.length) (by omega)
          have J2 := J1.out.keep hg0 HAP.out (ho.chg rfl)
          have HF : Hid (Thinned base pb n hand rb mb vs L E sl ro ks s wb dv w (w2.setCell ⟨rb, s, none⟩ (.slice (some ⟨g, 0, none⟩) K.length cap))) :=
            thinned J2 HJL.out HDF.out hs (by rw [← HKF.out]; exact hrow) hvo ((G1.out.mono hcm).then (ho.chg (Or.inl (by rw [HV.out]; rfl))))
          have P2 : Hid (∃ ksj, Hp w2 pb n hand rb mb vs L E sl (fun k => if k ∈ (L s).take j then ro k - 1 else ro k) ksj s) := by
            obtain ⟨ksj, _, h2⟩ := J2.ex
            exact ⟨ksj, h2⟩
          obtain ⟨ksj, p2⟩ := P2
          have c5 := p2.cells.1
          have f5 := (p2.rcell hs).2
          have c6 := (p2.rcell hs).1
          have y1 : (K.length : Int) ≤ (len : Int) := by omega
          clear T1 G1 J1 J2 HK HD hcm hvo hall p2 hrow ho
          go_wp2_with fail
          go_end0
          exact ⟨rfl, by rw [HP.out]; exact HF.out⟩
end
end Go.Proofs.Ytcadeoolacoidaa.Wh

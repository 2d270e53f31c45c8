/-
  What Stop answers and leaves: the timer is not set. Condition: 1 to 256 slots.
-/
import Derived.Test.YtcadeoolacoidaaWhWheel
import Derived.Test.YtcadeoolacoidaaWhStop
namespace Go.Proofs.Ytcadeoolacoidaa.Wh
open Go.RowKit Go.Proofs.Ytcadeoolacoidaa.Base Go.Proofs.Ytcadeoolacoidaa.Mem
theorem upd_same {f : Nat → Nat} {i x : Nat} (h : f i = x) : upd f i x = f := by
  funext k
  unfold upd
  split
  · rename_i e; rw [e, h]
  · rfl
theorem upd_max {f : Nat → Nat} (h : ∀ k, f k ≤ 65535) {i x : Nat} (hx : x ≤ 65535) : ∀ k, upd f i x k ≤ 65535 := fun k => by
  unfold upd
  split
  · exact hx
  · exact h k
theorem upd_ne {f : Nat → Nat} {i x k : Nat} (h : k ≠ i) : upd f i x k = f k := if_neg h
/-- The timer's key is gone, and so is it from its row. -/
theorem Lg.stop {n hand i : Nat} {f : Nat → Nat} {L : Nat → List Nat} {ks : List Nat} (h : Lg n hand f L ks) (hn : ks.Nodup) :
    Lg n hand (upd f i 0) (fun t => if t = (hand + f i) % n then (L ((hand + f i) % n)).filter (fun k => decide (k ≠ i)) else L t) (ks.erase i) := by
  refine ⟨h.a, fun k => ?_, fun s hs => ?_, fun s hs k => ?_⟩
  · rw [hn.mem_erase_iff, h.km]
    by_cases e : k = i
    · subst e
      simp [upd]
    · rw [upd_ne e]; simp [e]
  · by_cases e : s = (hand + f i) % n
    · simp only [if_pos e]
      rw [← e]
      exact List.Pairwise.filter _ (h.nd s hs)
    · simp only [if_neg e]
      exact h.nd s hs
  · rw [hn.mem_erase_iff]
    by_cases e : s = (hand + f i) % n
    · simp only [if_pos e]
      rw [← e, List.mem_filter, h.lm s hs, decide_eq_true_eq]
      by_cases ek : k = i
      · simp [ek]
      · rw [upd_ne ek]
        exact ⟨fun h => ⟨⟨h.2, h.1.1⟩, h.1.2⟩, fun h => ⟨⟨h.1.2, h.2⟩, h.1.1⟩⟩
    · simp only [if_neg e]
      rw [h.lm s hs]
      by_cases ek : k = i
      · subst ek
        exact ⟨fun h => absurd h.2.symm e, fun h => absurd rfl h.1.1⟩
      · rw [upd_ne ek]
        exact ⟨fun h => ⟨⟨ek, h.1⟩, h.2⟩, fun h => ⟨h.1.2, h.2⟩⟩
set_option maxHeartbeats 4000000 in
set_option maxRecDepth 100000 in
theorem wstop (w : World) (pb n : Nat) (f : Nat → Nat) (B : Nat → Prop) (i : Nat) (H : Hid (Whl w pb n f B)) (hi : i < 256) :
    Calls Try.prog 15 #[ptr pb, oc i] w fun r w' => r = .returned (.bool (decide (0 < f i))) ∧ Whl w' pb n (upd f i 0) B ∧ Chg B w w' := by
  obtain ⟨h1, h2, h3, h4, hand, rb, mb, vs, L, E, ks, h5, h6, h7⟩ := H.out
  have H5 := Lib.hid h5
  have H6 := Lib.hid h6
  have H7 := Lib.hid h7
  clear h5 h6 h7
  by_cases hin : i ∈ ks
  · have hf : 0 < f i := ((H6.out.km i).1 hin).2
    obtain ⟨eb, heb⟩ : ∃ eb, eb = E i := ⟨_, rfl⟩
    have cf : Calls Try.prog 21 #[ptr pb, oc i] w fun r w' => r = .returned (ptr eb) ∧ w' = w := by
      have := ffind H5 i hi
      rw [if_pos hin, ← heb] at this
      exact this
    have cf := Lib.hid cf
    obtain ⟨s, hs⟩ : ∃ s, s = (hand + f i) % n := ⟨_, rfl⟩
    have hsn : s < n := by rw [hs]; exact Nat.mod_lt _ (by omega)
    obtain ⟨cb, hcb⟩ : ∃ cb, cb = w.heap.size := ⟨_, rfl⟩
    have HCB := Lib.hid hcb
    obtain ⟨w2, hw2⟩ : ∃ w2, w2 = w.alloc (.cells #[ptr eb] 50) := ⟨_, rfl⟩
    have G1 : Hid (Chg B w w2) := by rw [hw2]; exact (Chg.refl B w).alloc _
    have P1 : Hid (Hp w2 pb n hand rb mb vs L E (fun k => (hand + f k) % n) (fun k => (f k - 1) / n) ks n) := by rw [hw2]; exact H5.out.keep fun b hb => alloc_same w _ (H5.out.lt hb)
    have C1 : Hid (w2.heap[cb]? = some (.cells #[ptr (E i)] 50)) := by rw [hw2, hcb, ← heb]; exact nest w [_] 0 _ rfl
    have HN : Hid (∀ t, t < n → (vs t).ownBlock ≠ some cb) := fun t ht ht2 => by
      have := H5.out.lt (Or.inr (Or.inr (Or.inr (Or.inr ⟨t, ht, by omega, ht2⟩))))
      omega
    have c2 := P1.out.cells.2.2.1
    have M1 := Lib.hid P1.out.m
    have HEB := Lib.hid heb
    have HS := Lib.hid hs
    have hd : decide (0 < f i) = true := decide_eq_true hf
    rw [hd]
    clear heb hs hcb hf hd
    obtain ⟨w3, hdel, m3, o3⟩ := M1.out.del hi hin 0
    have hesx : ∀ k, k ∈ ks → w3.heap[E k]? = w2.heap[E k]? := fun k hk => by
      obtain ⟨es, c', hmb, _⟩ := M1.out.blk
      exact o3.block _ (ne_map (P1.out.e k hk) hmb)
    have C3 : Hid (w3.heap[cb]? = some (.cells #[ptr (E i)] 50)) := by
      obtain ⟨es, c', hmb, _⟩ := M1.out.blk
      exact (o3.block _ (ne_map C1.out hmb)).trans C1.out
    have P3 : Hid (Hp w3 pb n hand rb mb vs L E (fun k => (hand + f k) % n) (fun k => (f k - 1) / n) (ks.erase i) n) := P1.out.fewer (fun k hk => List.mem_of_mem_erase hk) m3 o3
    have G3 : Hid (Chg B w w3) := G1.out.then (o3.chg (H7.out mb (Or.inr (Or.inr (Or.inl rfl)))))
    have e1 : w3.cell? ⟨eb, 1, none⟩ = some (nm s) := by
      have := (hesx i hin).trans (P1.out.e i hin)
      rw [← HEB.out] at this
      rw [HS.out]
      exact cell_of this rfl
    have e0 : w3.cell? ⟨cb, 0, none⟩ = some (ptr eb) := by
      rw [HEB.out]
      exact cell_of C3.out rfl
    have hks : ∀ k, k ∈ L s → k ∈ ks := fun k hk => ((H6.out.lm s hsn k).1 hk).1
    have hks2 : ∀ k, k ∈ L s ∨ k = i → k ∈ ks := fun k hk => by
      rcases hk with hk | hk
      · exact hks k hk
      · rw [hk]; exact hin
    have ct := Lib.hid (fthin_stop w3 pb n hand rb mb vs L E _ _ (ks.erase i) s i cb P3 hsn (H6.out.few hsn) C3.out HN.out (fun k hk hne => P1.out.einj (hks k hk) hin hne) (fun k hk => ⟨_, (hesx k (hks2 k hk)).trans (P1.out.e k (hks2 k hk))⟩))
    have HND := Lib.hid M1.out.nodup
    clear hesx hks hks2 C1 P1 M1 m3 o3 G1
    subst hw2
    go_enter Try.func15, Try.ntmps15
    go_wp2_with fail
    refine cf.out.mono ?_
    rintro _ w1 ⟨rfl, rfl⟩
    clear cf
    rw [HCB.out] at e0
    go_wp2_with fail
    rw [← HCB.out]
    refine ct.out.mono ?_
    rintro _ w4 ⟨rfl, v, hp, hv, hc⟩
    clear ct
    have HP := Lib.hid hp
    have HC := Lib.hid hc
    clear hp hc
    go_wp2
    go_ret
    refine ⟨rfl, ⟨h1, h2, upd_max h3 (Nat.zero_le _), fun b hb => ?_, hand, rb, mb, _, _, E, ks.erase i, HP.out.congr (fun k hk => ?_) (fun k hk => ?_), ?_, fun b hb => H7.out b ?_⟩, ?_⟩
    · exact Nat.lt_of_lt_of_le (h4 b hb) (Nat.le_trans G3.out.size HC.out.size)
    · rw [upd_ne fun e => ((HND.out.mem_erase_iff).1 hk).1 e]
    · rw [upd_ne fun e => ((HND.out.mem_erase_iff).1 hk).1 e]
    · have := H6.out.stop HND.out (i := i)
      rw [← HS.out] at this
      exact this
    · rcases hb with hb | hb | hb | ⟨k, hk, hb⟩ | ⟨t, ht, htx, hb⟩
      · exact Or.inl hb
      · exact Or.inr (Or.inl hb)
      · exact Or.inr (Or.inr (Or.inl hb))
      · exact Or.inr (Or.inr (Or.inr (Or.inl ⟨k, List.mem_of_mem_erase hk, hb⟩)))
      · refine Or.inr (Or.inr (Or.inr (Or.inr ⟨t, ht, htx, ?_⟩)))
        by_cases e : t = s
        · rw [e]
          simp only [if_pos e] at hb
          exact hv b hb
        · simp only [if_neg e] at hb
          exact hb
    · refine G3.out.then (HC.out.mono fun b hb => ?_)
      rcases hb with hb | hb
      · exact H7.out b (Or.inr (Or.inl hb))
      · exact H7.out b (Or.inr (Or.inr (Or.inr (Or.inr ⟨s, hsn, by omega, hb⟩))))
  · have hf : f i = 0 := by
      by_cases h0 : 0 < f i
      · exact absurd ((H6.out.km i).2 ⟨hi, h0⟩) hin
      · omega
    have cf : Calls Try.prog 21 #[ptr pb, oc i] w fun r w' => r = .returned (.pointer none) ∧ w' = w := by
      have := ffind H5 i hi
      rw [if_neg hin] at this
      exact this
    have cf := Lib.hid cf
    rw [upd_same hf]
    have hd : decide (0 < f i) = false := decide_eq_false (by omega)
    rw [hd]
    clear H5 H6 H7 hin hf hd h1 h2 h3 h4
    go_enter Try.func15, Try.ntmps15
    go_wp2_with fail
    refine cf.out.mono ?_
    rintro _ w1 ⟨rfl, rfl⟩
    clear cf
    go_wp2
    go_ret
    exact ⟨rfl, H.out.frame ((Chg.refl (fun _ => False) _).alloc _) (fun _ _ x => x), (Chg.refl B _).alloc _⟩
end Go.Proofs.Ytcadeoolacoidaa.Wh

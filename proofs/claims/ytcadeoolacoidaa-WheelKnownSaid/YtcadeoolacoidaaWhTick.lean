/-
  What Tick answers and leaves: the timers that had one tick left, rising; every timer has one tick less. Condition: 1 to 256 slots.
-/
import Derived.Test.YtcadeoolacoidaaWhThinT
import Derived.Test.YtcadeoolacoidaaWhSort
namespace Go.Proofs.Ytcadeoolacoidaa.Wh
open Go.RowKit Go.Proofs.Ytcadeoolacoidaa.Base Go.Proofs.Ytcadeoolacoidaa.Mem
open Go.Proofs.Ytcadeoolacoidaa.Srt (wrap_nat)
def tick (f : Nat → Nat) : Nat → Nat := fun k => f k - 1
/-- Those due at the next tick. -/
def dueOf (f : Nat → Nat) : List Nat := (List.range 256).filter fun k => decide (f k = 1)
theorem tick_max {f : Nat → Nat} (h : ∀ k, f k ≤ 65535) : ∀ k, tick f k ≤ 65535 := fun k => by
  have := h k
  unfold tick
  omega
theorem due_len (f : Nat → Nat) : (dueOf f).length ≤ 256 := by
  refine Nat.le_trans (List.length_filter_le _ _) ?_
  rw [List.length_range]; exact Nat.le_refl _
theorem due_sorted (f : Nat → Nat) : (dueOf f).Pairwise (· ≤ ·) := List.Pairwise.filter _ ((List.pairwise_lt_range (n := 256)).imp fun h => Nat.le_of_lt h)
section
variable {n hand : Nat} {f : Nat → Nat} {L : Nat → List Nat} {ks : List Nat}
theorem cnt_zero (h : cnt f = 0) (k : Nat) (hk : k < 256) : f k = 0 := by
  by_cases h0 : 0 < f k
  · have hm : k ∈ (List.range 256).filter fun k => decide (0 < f k) := List.mem_filter.2 ⟨List.mem_range.2 hk, decide_eq_true h0⟩
    have := List.length_pos_of_mem hm
    unfold cnt at h
    omega
  · omega
/-- No timer is set: where the hand stands counts for nothing. -/
theorem Lg.idle (h : Lg n hand f L ks) (h0 : Wh.cnt f = 0) : Lg n hand (Wh.tick f) L ks := by
  have hz : ∀ k, k ∈ ks → False := fun k hk => by
    have h1 := (h.km k).1 hk
    have := cnt_zero h0 k h1.1
    omega
  refine ⟨h.a, fun k => ⟨fun hk => absurd hk (fun x => hz k x), fun hk => ?_⟩, h.nd, fun s hs k => ⟨fun hk => absurd ((h.lm s hs k).1 hk).1 (fun x => hz k x), fun hk => absurd hk.1 (fun x => hz k x)⟩⟩
  have := cnt_zero h0 k hk.1
  have h2 := hk.2
  unfold Wh.tick at h2
  omega
/-- The entries of the next slot's row that have no rounds left are due. -/
theorem Lg.row (h : Lg n hand f L ks) (hn : 1 ≤ n) : ((L ((hand + 1) % n)).filter fun k => decide ((f k - 1) / n = 0)).Perm (dueOf f) := by
  have hs : (hand + 1) % n < n := Nat.mod_lt _ (by omega)
  refine perm_of (List.Pairwise.filter _ (h.nd _ hs)) (List.Pairwise.filter _ List.nodup_range) fun k => ?_
  rw [List.mem_filter, h.lm _ hs, h.km, dueOf, List.mem_filter, List.mem_range, decide_eq_true_eq, decide_eq_true_eq]
  constructor
  · rintro ⟨⟨⟨a, b⟩, c⟩, d⟩
    exact ⟨a, rounds_zero n (f k) b (due_mod n hand (f k) b c) d⟩
  · rintro ⟨a, b⟩
    refine ⟨⟨⟨a, by omega⟩, by rw [b]⟩, by rw [b]; exact Nat.zero_div _⟩
theorem Lg.tick (h : Lg n hand f L ks) (hn : 1 ≤ n) {ksj : List Nat} (hj : ∀ k, k ∈ ksj ↔ k ∈ ks ∧ ¬(k ∈ L ((hand + 1) % n) ∧ (f k - 1) / n = 0)) :
    Lg n ((hand + 1) % n) (Wh.tick f) (fun t => if t = (hand + 1) % n then (L ((hand + 1) % n)).filter (fun k => decide (0 < (f k - 1) / n)) else L t) ksj := by
  have hs : (hand + 1) % n < n := Nat.mod_lt _ (by omega)
  have hkj : ∀ k, k ∈ ksj ↔ k < 256 ∧ 0 < Wh.tick f k := fun k => by
    rw [hj, h.lm _ hs, h.km]
    unfold Wh.tick
    constructor
    · rintro ⟨⟨a, b⟩, c⟩
      refine ⟨a, ?_⟩
      by_cases e : f k = 1
      · exact absurd ⟨⟨⟨a, b⟩, by rw [e]⟩, by rw [e]; exact Nat.zero_div _⟩ c
      · omega
    · rintro ⟨a, b⟩
      refine ⟨⟨a, by omega⟩, ?_⟩
      rintro ⟨⟨_, c⟩, d⟩
      have := rounds_zero n (f k) (by omega) (due_mod n hand (f k) (by omega) c) d
      omega
  have hslot : ∀ k, 0 < f k → ((hand + 1) % n + Wh.tick f k) % n = (hand + f k) % n := fun k hk => hand_mod n hand (f k) hk
  refine ⟨hs, hkj, fun s hs' => ?_, fun s hs' k => ?_⟩
  · by_cases e : s = (hand + 1) % n
    · simp only [if_pos e]
      exact List.Pairwise.filter _ (h.nd _ hs)
    · simp only [if_neg e]
      exact h.nd s hs'
  · by_cases e : s = (hand + 1) % n
    · simp only [if_pos e]
      rw [List.mem_filter, h.lm _ hs, hj, h.lm _ hs, decide_eq_true_eq]
      constructor
      · rintro ⟨⟨a, b⟩, c⟩
        refine ⟨⟨a, fun x => absurd x.2 (Nat.ne_of_gt c)⟩, ?_⟩
        rw [hslot k ((h.km k).1 a).2, b, e]
      · rintro ⟨⟨a, b⟩, c⟩
        rw [hslot k ((h.km k).1 a).2, e] at c
        refine ⟨⟨a, c⟩, ?_⟩
        by_cases h0 : (f k - 1) / n = 0
        · exact absurd ⟨⟨a, c⟩, h0⟩ b
        · exact Nat.pos_of_ne_zero h0
    · simp only [if_neg e]
      rw [h.lm s hs', hj, h.lm _ hs]
      constructor
      · rintro ⟨a, b⟩
        refine ⟨⟨a, fun x => e (by rw [← b, x.1.2])⟩, ?_⟩
        rw [hslot k ((h.km k).1 a).2, b]
      · rintro ⟨⟨a, b⟩, c⟩
        rw [hslot k ((h.km k).1 a).2] at c
        exact ⟨a, c⟩
/-- The rounds. -/
theorem Lg.rounds (h : Lg n hand f L ks) (hn : 1 ≤ n) (k : Nat) (hk : k ∈ ks) : (Wh.tick f k - 1) / n = if k ∈ L ((hand + 1) % n) then (f k - 1) / n - 1 else (f k - 1) / n := by
  have hs : (hand + 1) % n < n := Nat.mod_lt _ (by omega)
  have h1 := ((h.km k).1 hk).2
  unfold Wh.tick
  by_cases hm : k ∈ L ((hand + 1) % n)
  · rw [if_pos hm]
    have hd := due_mod n hand (f k) h1 ((h.lm _ hs k).1 hm).2
    by_cases h0 : 0 < (f k - 1) / n
    · rw [(rounds_due n (f k) hn h1 hd h0).2]
    · have h2 : (f k - 1) / n = 0 := Nat.eq_zero_of_not_pos h0
      have h3 := rounds_zero n (f k) h1 hd h2
      rw [h3]
      simp
  · rw [if_neg hm]
    have hd : (f k - 1) % n ≠ 0 := fun e => hm ((h.lm _ hs k).2 ⟨hk, mod_due n hand (f k) h1 e⟩)
    rw [(rounds_same n (f k) hn hd).2]
end
/-- What Tick leaves. -/
structure Ticked (w : World) (pb n : Nat) (f : Nat → Nat) (B : Nat → Prop) (v : Value) (w' : World) : Prop where
  whl : Whl w' pb n (tick f) B
  due : OwnS 5 1 ocs w' w.heap.size v (dueOf f)
  chg : Chg B w w'
theorem ownS_base {α : Type} {E z base base' : Nat} {fc : α → List Value} {w : World} {v : Value} {l : List α} (h : OwnS E z fc w base v l) (hb : base' ≤ base) : OwnS E z fc w base' v l := by
  obtain ⟨h1, h2⟩ := h
  refine ⟨h1, ?_⟩
  rcases h2 with h2 | ⟨g, cap, cur, h2, h3, h4⟩
  · exact Or.inl h2
  · exact Or.inr ⟨g, cap, cur, h2, Nat.le_trans hb h3, h4⟩
theorem tick_done {w w3 w5 w6 : World} {base pb n hand rb mb s wb dv : Nat} {f : Nat → Nat} {B : Nat → Prop} {vs : Nat → Value} {L : Nat → List Nat} {E : Nat → Nat} {ks : List Nat} {vd : Value} {A : List Nat} (n1 : 1 ≤ n) (n2 : n ≤ 256) (fmax : ∀ k, f k ≤ 65535)
    (H6 : Lg n hand f L ks) (H7 : ∀ b, Own pb n rb mb vs E ks n b → B b) (hB : ∀ b, B b → b < w.heap.size) (hs : s = (hand + 1) % n) (hsn : s < n) (G3 : Chg B w w3) (hb0 : w.heap.size ≤ base) (hd0 : w.heap.size ≤ dv)
    (hth : Thinned base pb n s rb mb vs L E (fun k => (hand + f k) % n) (fun k => (f k - 1) / n) ks s wb dv w3 w5)
    (hA : A.Perm ((L s).filter fun k => decide ((f k - 1) / n = 0))) (sA : A.Pairwise (· ≤ ·)) (hown : OwnS 5 1 ocs w6 base vd A) (hc : Chg (fun b => vd.ownBlock = some b) w5 w6) : Ticked w pb n f B vd w6 := by
  obtain ⟨v, ksj, hv, hj, hp⟩ := hth.ex
  have hAe : A = dueOf f := by
    rw [hs] at hA
    exact sorted_eq (hA.trans (H6.row n1)) (List.Perm.refl _) sA (due_sorted f)
  have hbb : ∀ b, vd.ownBlock = some b → base ≤ b := fun b hb => (hown.lt b hb).1
  have hsz : w.heap.size ≤ w5.heap.size := Nat.le_trans G3.size hth.chg.size
  have h5 : Whl w5 pb n (tick f) B := by
    refine ⟨n1, n2, tick_max fmax, fun b hb => Nat.lt_of_lt_of_le (hB b hb) hsz, s, rb, mb, _, _, E, ksj, hp.congr (fun k hk => ?_) (fun k hk => ?_), ?_, fun b hb => ?_⟩
    · have h1 := ((hj k).1 hk).1
      rw [hs]
      exact hand_mod n hand (f k) ((H6.km k).1 h1).2
    · have h1 := ((hj k).1 hk).1
      rw [hs]
      exact H6.rounds n1 k h1
    · rw [hs] at hj ⊢
      exact H6.tick n1 hj
    · rcases hb with hb | hb | hb | ⟨k, hk, hb⟩ | ⟨t, ht, htx, hb⟩
      · exact H7 b (Or.inl hb)
      · exact H7 b (Or.inr (Or.inl hb))
      · exact H7 b (Or.inr (Or.inr (Or.inl hb)))
      · exact H7 b (Or.inr (Or.inr (Or.inr (Or.inl ⟨k, ((hj k).1 hk).1, hb⟩))))
      · refine H7 b (Or.inr (Or.inr (Or.inr (Or.inr ⟨t, ht, htx, ?_⟩))))
        by_cases e : t = s
        · rw [e]
          simp only [if_pos e] at hb
          exact hv b hb
        · simp only [if_neg e] at hb
          exact hb
  refine ⟨h5.frame hc fun b hb hb2 => ?_, by rw [← hAe]; exact ownS_base hown hb0, ?_⟩
  · have := hB b hb
    have := hbb b hb2
    omega
  · refine (G3.trans hth.chg fun b hlt hb => ?_).trans hc fun b hlt hb => ?_
    · rcases hb with hb | hb | hb | ⟨k, hk, hb⟩ | hb | hb
      · exact H7 b (Or.inr (Or.inl hb))
      · exact H7 b (Or.inr (Or.inr (Or.inr (Or.inr ⟨s, hsn, by omega, hb⟩))))
      · exact H7 b (Or.inr (Or.inr (Or.inl hb)))
      · exact H7 b (Or.inr (Or.inr (Or.inr (Or.inl ⟨k, hk, hb⟩))))
      · omega
      · omega
    · have := hbb b hb
      omega
theorem own_less {pb n rb mb x : Nat} {vs : Nat → Value} {E : Nat → Nat} {ks : List Nat} {b : Nat} (h : Own pb n rb mb vs E ks x b) : Own pb n rb mb vs E ks n b := by
  rcases h with h | h | h | h | ⟨t, ht, _, h⟩
  · exact Or.inl h
  · exact Or.inr (Or.inl h)
  · exact Or.inr (Or.inr (Or.inl h))
  · exact Or.inr (Or.inr (Or.inr (Or.inl h)))
  · exact Or.inr (Or.inr (Or.inr (Or.inr ⟨t, ht, by omega, h⟩)))
set_option maxHeartbeats 4000000 in
set_option maxRecDepth 100000 in
theorem wtick (w : World) (pb n : Nat) (f : Nat → Nat) (B : Nat → Prop) (H : Hid (Whl w pb n f B)) :
    Calls Try.prog 16 #[ptr pb] w fun r w' => ∃ v, r = .returned v ∧ Ticked w pb n f B v w' := by
  obtain ⟨P, hP⟩ : ∃ P : Value → World → Prop, P = Ticked w pb n f B := ⟨_, rfl⟩
  suffices hs : Calls Try.prog 16 #[ptr pb] w fun r w' => ∃ v, r = .returned v ∧ P v w' by rw [hP] at hs; exact hs
  have HP := Lib.hid hP
  clear hP
  have H1 : Hid (Whl (w.alloc (.cells #[ptr pb] 24)) pb n f B) := H.out.frame ((Chg.refl (fun _ => False) w).alloc _) fun _ _ x => x
  have G1 : Hid (Chg B w (w.alloc (.cells #[ptr pb] 24))) := (Chg.refl B w).alloc _
  have cc := Lib.hid (wcount H1.out)
  by_cases h0 : cnt f = 0
  · have HF : Hid (P (.slice none 0 0) (w.alloc (.cells #[ptr pb] 24))) := by
      rw [HP.out]
      obtain ⟨h1, h2, h3, h4, hand, rb, mb, vs, L, E, ks, h5, h6, h7⟩ := H1.out
      have hz : ∀ k, k ∈ ks → False := fun k hk => by
        have h8 := (h6.km k).1 hk
        have := cnt_zero h0 k h8.1
        omega
      refine ⟨⟨h1, h2, tick_max h3, h4, hand, rb, mb, vs, L, E, ks, h5.congr (fun k hk => absurd hk fun x => hz k x) (fun k hk => absurd hk fun x => hz k x), h6.idle h0, h7⟩, ?_, G1.out⟩
      have : dueOf f = [] := List.filter_eq_nil_iff.2 fun k hk => by
        have := cnt_zero h0 k (List.mem_range.1 hk)
        simp [this]
      rw [this]
      exact ownS_nil _ _
    rw [h0] at cc
    clear h0
    go_enter Try.func16, Try.ntmps16
    go_wp2_with fail
    refine cc.out.mono ?_
    rintro _ w1 ⟨rfl, rfl⟩
    clear cc
    go_wp2
    go_ret
    exact ⟨_, rfl, HF.out⟩
  · obtain ⟨c, hc⟩ : ∃ c, c = cnt f := ⟨_, rfl⟩
    rw [← hc] at cc h0
    have z0 : ((c : Int) == 0) = false := by rw [beq_eq_false_iff_ne]; omega
    have z1 : ¬ (c : Int) = 0 := by omega
    obtain ⟨h1, h2, h3, h4, hand, rb, mb, vs, L, E, ks, h5, h6, h7⟩ := H1.out
    have P1 := Lib.hid h5
    have H6 := Lib.hid h6
    have H7 := Lib.hid h7
    have ha := h6.a
    clear h5 h6 h7 hc
    obtain ⟨s, hs⟩ : ∃ s, s = (hand + 1) % n := ⟨_, rfl⟩
    have hsn : s < n := by rw [hs]; exact Nat.mod_lt _ (by omega)
    have HS := Lib.hid hs
    have c0 := P1.out.cells.1
    have c1 := P1.out.cells.2.1
    have f1 := P1.out.cells.2.2.2 1
    have v1 := wrap_nat (hand + 1) (by omega)
    have m1 : ((hand : Int) + 1).tmod (n : Int) = (s : Int) := by rw [Int.tmod_eq_emod_of_nonneg (by omega), hs]; rfl
    have m2 : ((hand : Int) + 1) % (n : Int) = (s : Int) := by rw [hs]; rfl
    have n0 : ((n : Int) == 0) = false := by rw [beq_eq_false_iff_ne]; omega
    have n1 : ¬ (n : Int) = 0 := by omega
    have n2 : ¬ n = 0 := by omega
    have vs1 := wrap_nat s (by omega)
    obtain ⟨wb, hwb⟩ : ∃ wb, wb = w.heap.size := ⟨_, rfl⟩
    have hwbc : (w.alloc (.cells #[ptr pb] 24)).heap[wb]? = some (.cells #[ptr pb] 24) := by rw [hwb]; exact nest w [_] 0 _ rfl
    have b0 : (w.alloc (.cells #[ptr pb] 24)).cell? ⟨wb, 0, none⟩ = some (ptr pb) := cell_of hwbc rfl
    have HWB := Lib.hid hwb
    have HWC := Lib.hid hwbc
    obtain ⟨w2, hw2⟩ : ∃ w2, w2 = ((w.alloc (.cells #[ptr pb] 24)).setCell ⟨pb, 1, none⟩ (nm s)).drew := ⟨_, rfl⟩
    have P2 : Hid (Hp w2 pb n s rb mb vs L E (fun k => (hand + f k) % n) (fun k => (f k - 1) / n) ks n) := by rw [hw2]; exact (P1.out.setHand s).keep fun _ _ => rfl
    obtain ⟨dv, hdv⟩ : ∃ dv, dv = w2.heap.size := ⟨_, rfl⟩
    obtain ⟨w3, hw3⟩ : ∃ w3, w3 = w2.alloc (.cells #[.slice none 0 0] 41) := ⟨_, rfl⟩
    have hsz2 : w2.heap.size = w.heap.size + 1 := by
      rw [hw2]
      exact ((Only.setCell pb 1 (nm s) (w.alloc (.cells #[ptr pb] 24))).size).trans (size_alloc _ _)
    have hsz3 : w3.heap.size = w2.heap.size + 1 := by rw [hw3]; exact size_alloc _ _
    have P3 : Hid (Hp w3 pb n s rb mb vs L E (fun k => (hand + f k) % n) (fun k => (f k - 1) / n) ks n) := by rw [hw3]; exact P2.out.keep fun b hb => alloc_same w2 _ (P2.out.lt hb)
    have hwb2 : w2.heap[wb]? = some (.cells #[ptr pb] 24) := by
      rw [hw2]
      exact (set_other (ne_type hwbc P1.out.p (by decide)) _).trans hwbc
    have hwb3 : w3.heap[wb]? = some (.cells #[ptr pb] 24) := by
      rw [hw3]
      exact (alloc_same w2 _ (lt_heap hwb2)).trans hwb2
    have hdv3 : w3.heap[dv]? = some (.cells #[.slice none 0 0] 41) := by rw [hw3, hdv]; exact nest w2 [_] 0 _ rfl
    have G3 : Hid (Chg B w w3) := by
      rw [hw3, hw2]
      exact (((G1.out.setCell pb 1 _ fun _ => H7.out pb (Or.inl rfl)).drew).alloc _)
    have TJ : Hid (Tj w3.heap.size pb n s rb mb vs L E (fun k => (hand + f k) % n) (fun k => (f k - 1) / n) ks s wb dv (L s) 0 [] (.slice none 0 0) w3.drew) :=
      ⟨⟨ks, fun k => by simp, ((P3.out.drop s).congr (fun _ _ => rfl) (fun k _ => by simp)).keep fun _ _ => rfl⟩, hdv3, ownS_nil _ _, hwb3, fun b hb => P3.out.lt (own_less hb), by omega, lt_heap hwb3, Nat.le_refl _⟩
    have hrow : RowAt w3.drew (vs s) ((L s).map E) := (P3.out.rows s hsn (by omega)).keep fun _ _ => rfl
    have ct := Lib.hid (fthin_tick w3.drew (.slice none 0 0) TJ hsn hrow (H6.out.few hsn) (H6.out.nd s hsn) (fun k hk => by
      have hk1 := ((H6.out.lm s hsn k).1 hk).1
      have hk2 := (H6.out.km k).1 hk1
      have hk3 := h3 k
      exact ⟨hk1, hk2.1, Nat.le_trans (Nat.div_le_self _ _) (by omega)⟩) (fun b hb => P3.out.lt (Or.inr (Or.inr (Or.inr (Or.inr ⟨s, hsn, by omega, hb⟩))))))
    have d0 : w3.cell? ⟨wb, 0, none⟩ = some (ptr pb) := cell_of hwb3 rfl
    have d1 : w3.cell? ⟨pb, 1, none⟩ = some (nm s) := P3.out.cells.2.1
    have hkeep : ∀ w5, Thinned w3.heap.size pb n s rb mb vs L E (fun k => (hand + f k) % n) (fun k => (f k - 1) / n) ks s wb dv w3.drew w5 → w5.cell? ⟨wb, 0, none⟩ = some (ptr pb) ∧ w5.cell? ⟨pb, 1, none⟩ = some (nm s) := fun w5 h => by
      obtain ⟨v, ksj, _, _, hp⟩ := h.ex
      exact ⟨cell_of h.wbx rfl, hp.cells.2.1⟩
    have HK := Lib.hid hkeep
    have HDV := Lib.hid hdv
    have HSZ : Hid (w.heap.size ≤ w3.heap.size ∧ w.heap.size ≤ dv ∧ dv < w3.heap.size) := by refine ⟨?_, ?_, ?_⟩ <;> omega
    have HW3 := Lib.hid hw3
    have HW2 := Lib.hid hw2
    have HD2 : Hid (dv = w.heap.size + 1) := by show dv = _; omega
    clear hs hwb hwbc hw2 hw3 hdv hsz2 hsz3 hwb2 hwb3 hdv3 hrow hkeep TJ
    go_enter Try.func16, Try.ntmps16
    go_wp2_with fail
    refine cc.out.mono ?_
    rintro _ w1 ⟨rfl, hw1⟩
    clear cc
    rw [← HWB.out]
    subst hw1
    go_wp2_with fail
    go_big_region
    rw [← HW2.out]
    go_wp2_with fail
    rw [← HDV.out, ← HW3.out]
    go_region_held3 (fun w' => w'.cell? ⟨wb, 0, none⟩ = some (ptr pb) ∧ w'.cell? ⟨pb, 1, none⟩ = some (nm s)) (first | exact hkp | go_keep)
      ((go_at_call 22; refine ct.out.mono ?_; rintro _ w5 ⟨rfl, hth⟩; have hkp := HK.out w5 hth))
    have HTH := Lib.hid hth
    obtain ⟨vd, hdv, hown⟩ := hth.due
    have HO := Lib.hid hown
    have x0 : w5.cell? ⟨dv, 0, none⟩ = some vd := cell_of hdv rfl
    have cs := Lib.hid (wsort w5 w3.heap.size vd _ hown (Nat.le_trans (List.length_filter_le _ _) (by have := H6.out.few hsn; omega)))
    have HX := Lib.hid hdv
    clear hth hkp hdv hown ct b0 d0 d1
    go_wp2_with fail
    refine cs.out.mono ?_
    rintro _ w6 ⟨rfl, A, hA, sA, hown, hc⟩
    have x1 : w6.cell? ⟨dv, 0, none⟩ = some vd := by
      refine cell_of (hc.stays HX.out fun hb => ?_) rfl
      have := (HO.out.lt dv hb).1
      have := HSZ.out.2.2
      omega
    have HF : Hid (P vd w6) := by
      rw [HP.out]
      exact tick_done h1 h2 h3 H6.out H7.out H.out.lt HS.out hsn G3.out.drew HSZ.out.1 HSZ.out.2.1 HTH.out hA sA hown hc
    clear hA sA hown hc cs x0
    go_wp2
    go_ret
    exact ⟨_, rfl, HF.out⟩
end Go.Proofs.Ytcadeoolacoidaa.Wh

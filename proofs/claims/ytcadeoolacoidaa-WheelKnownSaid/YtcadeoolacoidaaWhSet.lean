/-
  What Set answers and leaves: the timer has that many ticks left. Condition: 1 to 256 slots.
-/
import Derived.Test.YtcadeoolacoidaaWhStops
import Derived.BigRegion
import Derived.Deep.AppendLies
import Derived.Deep.RegionHeld3
namespace Go.Proofs.Ytcadeoolacoidaa.Wh
open Go.RowKit Go.Proofs.Ytcadeoolacoidaa.Base Go.Proofs.Ytcadeoolacoidaa.Mem
open Go.Proofs.Ytcadeoolacoidaa.Srt (wrap_nat)
theorem upd_upd (f : Nat → Nat) (i x y : Nat) : upd (upd f i x) i y = upd f i y := by
  funext k
  unfold upd
  split <;> rfl
theorem upd_at (f : Nat → Nat) (i x : Nat) : upd f i x i = x := if_pos rfl
/-- At a step of a region that draws. -/
theorem step_append_elt {α : Type} {E S z : Nat} {fc : α → List Value} (he : Elt E S z fc) {ops : Array Oper} {o : Oper} {a : Act} {K : Act → World → Prop} {Q : Exit → Act → World → Prop} {X : Prop} (w : World) (hgd : o.guard = none) (s x : Operand)
    (hop : o.op = .call { callee := .builtin .append, args := #[s, x], argTypes := #[S, S] })
    (base : Nat) (v : Value) (hs : a.eval s = v) (l : List α) (hown : OwnS E z fc w base v l) (b c : Nat) (hx : a.eval x = .slice (some ⟨b, 0, none⟩) 1 c) (y : α) (hrow : ∀ j, j < z → w.cell? ⟨b, j, none⟩ = (fc y)[j]?) (hz : l.length + 1 ≤ 1000000) (hb : base ≤ w.heap.size)
    (h : ∀ g cap w', OwnS E z fc w' base (.slice (some ⟨g, 0, none⟩) (l.length + 1) cap) (l ++ [y]) → w.grownBy w' v.ownBlock → (v.ownBlock = some g ∨ g = w.heap.size) → K (a.put o.dst (.slice (some ⟨g, 0, none⟩) (l.length + 1) cap)) w') :
    if Region.wanted o (yielded ops a.tmps) = true then Oper.wp Try.prog o a w K Q else X := by
  have hw : Region.wanted o (yielded ops a.tmps) = true := by simp [Region.wanted, hgd]
  rw [if_pos hw]
  obtain ⟨v', w', hr, h2, h3, h4⟩ := run_append_elt he w o.type base v l hown b c y hrow hz hb
  rcases h2.shape with ⟨_, h5⟩ | ⟨g, cap, rfl, _⟩
  · simp at h5
  rw [List.length_append, List.length_singleton] at hr h2 h4
  have h6 : v.ownBlock = some g ∨ g = w.heap.size := by
    rcases h4 with h4 | h4
    · exact Or.inl (by rw [← h4]; rfl)
    · exact Or.inr (by injection h4)
  unfold Oper.wp execOp
  simp only [hop, resolve, invoke, builtin, Sem.run_bind, Sem.run_pure, Result.andThen_ok, List.map_toArray, List.map_cons, List.map_nil, hs, hx, hr]
  exact h g cap w' h2 h3 h6
theorem row1 (w : World) (e : Nat) (t : TypeId) : ∀ j, j < 1 → (w.drew.alloc (.cells #[ptr e] t)).cell? ⟨w.heap.size, j, none⟩ = (pc e)[j]? := fun j hj => by
  have : j = 0 := by omega
  subst this
  exact cell_of (nest w.drew [_] 0 _ rfl) rfl
/-- While the row s alone is written, and new blocks are made. -/
theorem Hp.thin2 {w wr : World} {pb n hand rb mb s : Nat} {vs : Nat → Value} {L : Nat → List Nat} {E sl ro : Nat → Nat} {ks : List Nat} (h : Hp w pb n hand rb mb vs L E sl ro ks n) (hs : s < n) (hc : Chg (fun b => (vs s).ownBlock = some b) w wr) :
    Hp wr pb n hand rb mb vs L E sl ro ks s := by
  have hd := h.drop s
  refine hd.keep fun b hb => hc.block b (hd.lt hb) fun hg => ?_
  obtain ⟨cs, hg2⟩ := (h.rows s hs (by omega)).blk hg
  exact hd.row_ne hg2 hb (fun t ht hts hgt => h.apart s t hs ht (fun e => hts e.symm) b hg hgt) rfl
theorem Lg.set {n hand i t : Nat} {f : Nat → Nat} {L : Nat → List Nat} {ks : List Nat} (h : Lg n hand f L ks) (hi : i < 256) (h0 : f i = 0) (ht : 0 < t) :
    Lg n hand (upd f i t) (fun u => if u = (hand + t) % n then L ((hand + t) % n) ++ [i] else L u) (ks ++ [i]) := by
  have hni : i ∉ ks := fun hk => by have := ((h.km i).1 hk).2; omega
  refine ⟨h.a, fun k => ?_, fun s hs => ?_, fun s hs k => ?_⟩
  · rw [List.mem_append, List.mem_singleton, h.km]
    by_cases e : k = i
    · subst e
      rw [upd_at]; simp [hi, ht]
    · rw [upd_ne e]; simp [e]
  · by_cases e : s = (hand + t) % n
    · simp only [if_pos e]
      rw [← e]
      exact List.nodup_append.2 ⟨h.nd s hs, by simp, fun a ha b hb e => by
        rw [List.mem_singleton] at hb
        subst hb; subst e
        exact hni ((h.lm s hs a).1 ha).1⟩
    · simp only [if_neg e]
      exact h.nd s hs
  · rw [List.mem_append, List.mem_singleton]
    by_cases e : s = (hand + t) % n
    · simp only [if_pos e]
      rw [← e, List.mem_append, List.mem_singleton, h.lm s hs]
      by_cases ek : k = i
      · subst ek
        rw [upd_at]; simp [e]
      · rw [upd_ne ek]; simp [ek]
    · simp only [if_neg e]
      rw [h.lm s hs]
      by_cases ek : k = i
      · subst ek
        rw [upd_at]
        exact ⟨fun h => absurd h.1 hni, fun h => absurd h.2.symm e⟩
      · rw [upd_ne ek]; simp [ek]
theorem set_done {w w3 w4 : World} {pb n hand rb mb s i t g cap : Nat} {f : Nat → Nat} {B : Nat → Prop} {vs : Nat → Value} {L : Nat → List Nat} {E E' : Nat → Nat} {ks : List Nat} {o : Obj} (n1 : 1 ≤ n) (n2 : n ≤ 256)
    (P3 : Hp w3 pb n hand rb mb vs L E' (fun k => (hand + upd f i t k) % n) (fun k => (upd f i t k - 1) / n) (ks ++ [i]) n) (H6 : Lg n hand (upd f i 0) L ks) (hi : i < 256) (ht1 : 1 ≤ t) (hs : s = (hand + t) % n) (hsn : s < n)
    (hEk : ∀ k ∈ ks, E' k = E k) (hfm : ∀ k, upd f i t k ≤ 65535) (H7 : ∀ b, Own pb n rb mb vs E ks n b → B b) (hB : ∀ b, B b → b < w.heap.size) (hEi : w.heap.size ≤ E' i) (G3 : Chg B w w3)
    (hown : RowAt w4 (.slice (some ⟨g, 0, none⟩) ((L s).length + 1) cap) ((L s).map E' ++ [E' i])) (hgrow : (w3.drew.alloc o).grownBy w4 (vs s).ownBlock) (hat : (vs s).ownBlock = some g ∨ g = (w3.drew.alloc o).heap.size) :
    Whl (w4.setCell ⟨rb, s, none⟩ (.slice (some ⟨g, 0, none⟩) ((L s).length + 1) cap)) pb n (upd f i t) (fun b => B b ∨ (w.heap.size ≤ b ∧ b < (w4.setCell ⟨rb, s, none⟩ (.slice (some ⟨g, 0, none⟩) ((L s).length + 1) cap)).heap.size)) ∧ Chg B w (w4.setCell ⟨rb, s, none⟩ (.slice (some ⟨g, 0, none⟩) ((L s).length + 1) cap)) := by
  have hsz3 : (w3.drew.alloc o).heap.size = w3.heap.size + 1 := size_alloc _ _
  rw [hsz3] at hat
  have C34 : Chg (fun b => (vs s).ownBlock = some b) w3 w4 := ((Chg.refl _ w3).drew.alloc o).grown hgrow fun k e _ => e
  have P4 := P3.thin2 hsn C34
  have P5 := P4.setRow hsn (v := .slice (some ⟨g, 0, none⟩) ((L s).length + 1) cap) (l := L s ++ [i]) (by rw [List.map_append]; exact hown) (fun u hu hus b hb hb2 => by
    have e : g = b := by injection hb2
    subst e
    rcases hat with hat | hat
    · exact P3.apart s u hsn hu (fun e => hus e.symm) g hat hb
    · have := P3.lt (Or.inr (Or.inr (Or.inr (Or.inr ⟨u, hu, by omega, hb⟩))))
      omega)
  have hsz : w.heap.size ≤ (w4.setCell ⟨rb, s, none⟩ (.slice (some ⟨g, 0, none⟩) ((L s).length + 1) cap)).heap.size := by
    have a1 := G3.size
    have a2 := C34.size
    have a3 := (Only.setCell rb s (.slice (some ⟨g, 0, none⟩) ((L s).length + 1) cap) w4).size
    omega
  have hL : Lg n hand (upd f i t) (fun u => if u = s then L s ++ [i] else L u) (ks ++ [i]) := by
    have := H6.set hi (upd_at f i 0) (t := t) (by omega)
    rw [upd_upd, ← hs] at this
    exact this
  refine ⟨⟨n1, n2, hfm, fun b hb => ?_, hand, rb, mb, _, _, E', ks ++ [i], P5, hL, fun b hb => ?_⟩, ?_⟩
  · rcases hb with hb | hb
    · exact Nat.lt_of_lt_of_le (hB b hb) hsz
    · exact hb.2
  · have hlt := P5.lt hb
    rcases hb with hb | hb | hb | ⟨k, hk, hb⟩ | ⟨u, hu, hux, hb⟩
    · exact Or.inl (H7 b (Or.inl hb))
    · exact Or.inl (H7 b (Or.inr (Or.inl hb)))
    · exact Or.inl (H7 b (Or.inr (Or.inr (Or.inl hb))))
    · rcases List.mem_append.1 hk with hk | hk
      · exact Or.inl (H7 b (Or.inr (Or.inr (Or.inr (Or.inl ⟨k, hk, by rw [hb, hEk k hk]⟩)))))
      · rw [List.mem_singleton] at hk
        subst hk
        exact Or.inr ⟨by rw [hb]; exact hEi, hlt⟩
    · by_cases e : u = s
      · simp only [if_pos e] at hb
        have e2 : g = b := by injection hb
        subst e2
        rcases hat with hat | hat
        · exact Or.inl (H7 g (Or.inr (Or.inr (Or.inr (Or.inr ⟨s, hsn, by omega, hat⟩)))))
        · exact Or.inr ⟨by rw [hat]; have := G3.size; omega, hlt⟩
      · simp only [if_neg e] at hb
        exact Or.inl (H7 b (Or.inr (Or.inr (Or.inr (Or.inr ⟨u, hu, hux, hb⟩)))))
  · refine (G3.then (C34.mono fun b hb => H7 b (Or.inr (Or.inr (Or.inr (Or.inr ⟨s, hsn, by omega, hb⟩)))))).setCell rb s _ fun _ => H7 rb (Or.inr (Or.inl rfl))
set_option maxHeartbeats 4000000 in
set_option maxRecDepth 100000 in
theorem wset (w : World) (pb n : Nat) (f : Nat → Nat) (B : Nat → Prop) (i t : Nat) (H : Hid (Whl w pb n f B)) (hi : i < 256) (ht1 : 1 ≤ t) (ht2 : t ≤ 65535) :
    Calls Try.prog 14 #[ptr pb, oc i, nm t] w fun r w' => r = .returned (.int .i64 0) ∧ Whl w' pb n (upd f i t) (fun b => B b ∨ (w.heap.size ≤ b ∧ b < w'.heap.size)) ∧ Chg B w w' := by
  have n1 := H.out.n1
  have n2 := H.out.n2
  have c0 : ∃ rb, w.cell? ⟨pb, 0, none⟩ = some (.slice (some ⟨rb, 0, none⟩) n n) := by
    obtain ⟨h1, h2, h3, h4, hand, rb, mb, vs, L, E, ks, h5, h6, h7⟩ := H.out
    exact ⟨rb, h5.cells.1⟩
  obtain ⟨rb0, c0⟩ := c0
  have g1 : decide ((t : Int) < 1) = false := decide_eq_false (by omega)
  have g1n : ¬ (t : Int) < 1 := by omega
  have g1m : ¬ t < 1 := by omega
  have g2 : decide ((65535 : Int) < (t : Int)) = false := decide_eq_false (by omega)
  have g2n : ¬ (65535 : Int) < (t : Int) := by omega
  have z0 : ((n : Int) == 0) = false := by rw [beq_eq_false_iff_ne]; omega
  have z1 : ¬ (n : Int) = 0 := by omega
  have z2 : ¬ n = 0 := by omega
  have cs := Lib.hid (wstop w pb n f B i H hi)
  go_enter Try.func14, Try.ntmps14
  go_wp2_with fail
  refine cs.out.mono ?_
  rintro _ w1 ⟨rfl, hw1, hc1⟩
  have H1 := Lib.hid hw1
  have G1 := Lib.hid hc1
  clear cs hw1 hc1 c0 g1 g1n g2 g2n
  obtain ⟨h1, h2, h3, h4, hand, rb, mb, vs, L, E, ks, h5, h6, h7⟩ := H1.out
  have P1 := Lib.hid h5
  have H6 := Lib.hid h6
  have H7 := Lib.hid h7
  have ha := h6.a
  clear h5 h6 h7 h1 h2 h3
  have c0 := P1.out.cells.1
  have c1 := P1.out.cells.2.1
  have c2 := P1.out.cells.2.2.1
  obtain ⟨s, hs⟩ : ∃ s, s = (hand + t) % n := ⟨_, rfl⟩
  have hsn : s < n := by rw [hs]; exact Nat.mod_lt _ (by omega)
  obtain ⟨q, hq⟩ : ∃ q, q = (t - 1) / n := ⟨_, rfl⟩
  obtain ⟨t1, ht⟩ : ∃ t1, t1 = t - 1 := ⟨_, rfl⟩
  have r1 : (t : Int) - 1 = (t1 : Int) := by omega
  have v1 := wrap_nat t1 (by omega)
  have v2 := wrap_nat (hand + t) (by omega)
  have q1 : (t1 : Int).tdiv (n : Int) = (q : Int) := by rw [Int.tdiv_eq_ediv_of_nonneg (by omega), hq, ← ht]; rfl
  have q2 : (t1 : Int) / (n : Int) = (q : Int) := by rw [hq, ← ht]; rfl
  have m1 : ((hand : Int) + (t : Int)).tmod (n : Int) = (s : Int) := by rw [Int.tmod_eq_emod_of_nonneg (by omega), hs]; rfl
  have m2 : ((hand : Int) + (t : Int)) % (n : Int) = (s : Int) := by rw [hs]; rfl
  have hq0 : q ≤ 65535 := by rw [hq]; exact Nat.le_trans (Nat.div_le_self _ _) (by omega)
  have vq := wrap_nat q (by omega)
  have vs1 := wrap_nat s (by omega)
  have HS := Lib.hid (And.intro hs hq)
  clear hs hq ht
  obtain ⟨w2, hw2⟩ : ∃ w2, w2 = (w1.alloc (.cells #[oc i, nm s, nm q] 53)).drew := ⟨_, rfl⟩
  obtain ⟨eb, heb⟩ : ∃ eb, eb = w1.heap.size := ⟨_, rfl⟩
  have G2 : Hid (Chg B w w2) := by rw [hw2]; exact (G1.out.alloc _).drew
  have P2 : Hid (Hp w2 pb n hand rb mb vs L E (fun k => (hand + upd f i 0 k) % n) (fun k => (upd f i 0 k - 1) / n) ks n) := by rw [hw2]; exact P1.out.keep fun b hb => alloc_same w1 _ (P1.out.lt hb)
  have E2 : Hid (w2.heap[eb]? = some (.cells #[oc i, nm s, nm q] 53)) := by rw [hw2, heb]; exact nest w1 [_] 0 _ rfl
  have HEB : Hid (eb = w1.heap.size) := heb
  have HW2 : Hid (w2 = (w1.alloc (.cells #[oc i, nm s, nm q] 53)).drew) := hw2
  have hni : i ∉ ks := fun hk => by
    have := ((H6.out.km i).1 hk).2
    rw [upd_at] at this
    omega
  have HNI := Lib.hid hni
  obtain ⟨E', hE'⟩ : ∃ E' : Nat → Nat, E' = fun k => if k = i then eb else E k := ⟨_, rfl⟩
  have hEi : E' i = eb := by rw [hE']; exact if_pos rfl
  have hEk : ∀ k ∈ ks, E' k = E k := fun k hk => by
    rw [hE']
    exact if_neg fun e => hni (by rw [← e]; exact hk)
  have hfk : ∀ k ∈ ks, upd f i t k = upd f i 0 k := fun k hk => by
    have hne : k ≠ i := fun e => hni (by rw [← e]; exact hk)
    rw [upd_ne hne, upd_ne hne]
  obtain ⟨w3, hadd, m3, o3⟩ := P2.out.m.add (e := eb) (E' := E') hi hni hEk hEi
  have c3 := P2.out.cells.2.2.1
  have P3 : Hid (Hp w3 pb n hand rb mb vs L E' (fun k => (hand + upd f i t k) % n) (fun k => (upd f i t k - 1) / n) (ks ++ [i]) n) :=
    P2.out.more hEk (fun k hk => by rw [hfk k hk]) (fun k hk => by rw [hfk k hk]) (by
      rw [hEi, upd_at, ← HS.out.1, ← HS.out.2]; exact E2.out) (fun u hu k hk => ((H6.out.lm u hu k).1 hk).1) m3 o3
  have G3 : Hid (Chg B w w3) := G2.out.then (o3.chg (H7.out mb (Or.inr (Or.inr (Or.inl rfl)))))
  have HE := Lib.hid (And.intro hEi hEk)
  have HEN : Hid (w.heap.size ≤ E' i) := by rw [hEi, heb]; exact G1.out.size
  obtain ⟨v0, hv0⟩ : ∃ v0, v0 = vs s := ⟨_, rfl⟩
  have R3 : Hid (RowAt w3 v0 ((L s).map E')) := by rw [hv0]; exact P3.out.rows s hsn (by omega)
  have d0 : w3.cell? ⟨pb, 0, none⟩ = some (.slice (some ⟨rb, 0, none⟩) n n) := P3.out.cells.1
  have d1 : w3.cell? ⟨eb, 1, none⟩ = some (nm s) := by
    have := (P3.out.ecells (k := i) (by simp)).2.1
    rw [hEi, upd_at, ← HS.out.1] at this
    exact this
  have d2 : w3.cell? ⟨rb, s, none⟩ = some v0 := by rw [hv0]; exact (P3.out.rcell hsn).1
  have f2 : w3.frozen? ⟨rb, s, none⟩ = false := (P3.out.rcell hsn).2
  have l1 : pb < w3.heap.size := lt_heap P3.out.p
  have l2 : eb < w3.heap.size := by rw [← hEi]; exact lt_heap (P3.out.e i (by simp))
  have l3 : rb < w3.heap.size := by obtain ⟨cs, h1, _⟩ := P3.out.r; exact lt_heap h1
  have k1 : ∀ b, v0.ownBlock = some b → b ≠ pb ∧ b ≠ eb ∧ b ≠ rb := fun b hb => by
    obtain ⟨cs, h1⟩ := R3.out.blk hb
    refine ⟨ne_type h1 P3.out.p (by decide), ?_, ?_⟩
    · rw [← hEi]; exact ne_type h1 (P3.out.e i (by simp)) (by decide)
    · obtain ⟨cs, h2, _⟩ := P3.out.r; exact ne_type h1 h2 (by decide)
  have K1 := Lib.hid k1
  have HV0 := Lib.hid hv0
  have y1 : (s : Int) < (n : Int) := by omega
  have y2 : (0 : Int) ≤ (s : Int) := by omega
  have hlen : ((L s).map E').length + 1 ≤ 1000000 := by
    have := H6.out.few hsn
    rw [List.length_map]; omega
  have HLN := Lib.hid hlen
  have HK : Hid (∀ u w4 : World, u.heap.size = w3.heap.size + 1 → (∀ b, b < w3.heap.size → u.heap[b]? = w3.heap[b]?) → u.grownBy w4 v0.ownBlock → w4.cell? ⟨pb, 0, none⟩ = some (.slice (some ⟨rb, 0, none⟩) n n) ∧ w4.cell? ⟨eb, 1, none⟩ = some (nm s) ∧ w4.cell? ⟨rb, s, none⟩ = some v0 ∧ w4.frozen? ⟨rb, s, none⟩ = false) := fun u w4 hsz hu hg =>
    have far : ∀ b, b < w3.heap.size → (∀ b', v0.ownBlock = some b' → b' ≠ b) → w4.heap[b]? = w3.heap[b]? := fun b hb hne => (hg.block b (by omega) fun e => hne b e.symm rfl).trans (hu b hb)
    ⟨(World.cell?_of_block (far pb l1 fun b' h => (k1 b' h).1)).trans d0, (World.cell?_of_block (far eb l2 fun b' h => (k1 b' h).2.1)).trans d1, (World.cell?_of_block (far rb l3 fun b' h => (k1 b' h).2.2)).trans d2, (World.frozen?_of_block (far rb l3 fun b' h => (k1 b' h).2.2)).trans f2⟩
  have HK2 : Hid (∀ u : World, (∀ b, b < w3.heap.size → u.heap[b]? = w3.heap[b]?) → u.cell? ⟨pb, 0, none⟩ = some (.slice (some ⟨rb, 0, none⟩) n n) ∧ u.cell? ⟨eb, 1, none⟩ = some (nm s) ∧ u.cell? ⟨rb, s, none⟩ = some v0 ∧ u.frozen? ⟨rb, s, none⟩ = false) := fun u hu =>
    ⟨(World.cell?_of_block (hu pb l1)).trans d0, (World.cell?_of_block (hu eb l2)).trans d1, (World.cell?_of_block (hu rb l3)).trans d2, (World.frozen?_of_block (hu rb l3)).trans f2⟩
  have HK3 := Lib.hid (fun o : Obj => HK2.out (w3.alloc o).drew (fun b hb => alloc_same w3 o hb))
  have HK5 : Hid (∀ (u : World) (v : Value), u.cell? ⟨pb, 0, none⟩ = some (.slice (some ⟨rb, 0, none⟩) n n) → u.cell? ⟨eb, 1, none⟩ = some (nm s) → (u.setCell ⟨rb, s, none⟩ v).cell? ⟨pb, 0, none⟩ = some (.slice (some ⟨rb, 0, none⟩) n n) ∧ (u.setCell ⟨rb, s, none⟩ v).cell? ⟨eb, 1, none⟩ = some (nm s)) := fun u v a1 a2 => by
    obtain ⟨cs, hr, _⟩ := P3.out.r
    have x1 : pb ≠ rb := ne_type P3.out.p hr (by decide)
    have x2 : eb ≠ rb := by rw [← hEi]; exact ne_type (P3.out.e i (by simp)) hr (by decide)
    exact ⟨(World.cell?_of_block (set_other x1 _)).trans a1, (World.cell?_of_block (set_other x2 _)).trans a2⟩
  have hal : ∀ o : Obj, (w3.alloc o).cell? ⟨rb, s, none⟩ = some v0 := fun o => (World.cell?_of_block (alloc_same w3 o l3)).trans d2
  clear hw2 heb hni hE' hEi hEk hfk m3 o3 hv0 k1 hlen
  go_wp2_with fail
  go_big_region
  rw [← HEB.out]
  have hw3 := HW2.out
  rw [← hw3]
  clear hw3 HW2 c0 c1 c2
  go_wp2_with fail
  refine wp_region_held_drew (S := (fun w' => w'.cell? ⟨pb, 0, none⟩ = some (.slice (some ⟨rb, 0, none⟩) n n) ∧ w'.cell? ⟨eb, 1, none⟩ = some (nm s))) (by kernel_rfl) ⟨d0, d1⟩ (fun hHeld => ?_)
  refine' wpAnyH_take (i := 0) (oi := { dst := some 57, op := Go.Op.move (Go.Operand.tmp 0), type := 24, pos := "wheel.go:53", after := #[], guard := none }) (v := _) rfl (by kernel_rfl) (by kernel_rfl) (by kernel_rfl) (fun _ _ _ h => h) (Or.inl ⟨by rfl, ?hy1⟩) (by assumption) ?hr1
  case hy1 => (intro _ hSw; (try dsimp only at hSw); go_simp <;> with_reducible rfl)
  simp only [Act.put, List.setIfInBounds_toArray, List.set_cons_zero, List.set_cons_succ]
  refine' wpAnyH_take (i := 1) (oi := { dst := some 58, op := Go.Op.nilCheck (Go.Operand.tmp 57), type := 0, pos := "wheel.go:53", after := #[{ on := 0, ground := Go.Ground.data }], guard := none }) (v := _) rfl (by kernel_rfl) (by kernel_rfl) (by kernel_rfl) (fun _ _ _ h => h) (Or.inl ⟨by rfl, ?hy2⟩) (by assumption) ?hr2
  case hy2 => (intro _ hSw; (try dsimp only at hSw); go_simp <;> with_reducible rfl)
  simp only [Act.put, List.setIfInBounds_toArray, List.set_cons_zero, List.set_cons_succ]
  refine' wpAnyH_take (i := 2) (oi := { dst := some 59, op := Go.Op.fieldAddr 49 (Go.Operand.tmp 58) 0, type := 0, pos := "wheel.go:53", after := #[{ on := 1, ground := Go.Ground.data }], guard := none }) (v := _) rfl (by kernel_rfl) (by kernel_rfl) (by kernel_rfl) (fun _ _ _ h => h) (Or.inl ⟨by rfl, ?hy3⟩) (by assumption) ?hr3
  case hy3 => (intro _ hSw; (try dsimp only at hSw); go_simp <;> with_reducible rfl)
  simp only [Act.put, List.setIfInBounds_toArray, List.set_cons_zero, List.set_cons_succ]
  refine' wpAnyH_take (i := 3) (oi := { dst := some 60, op := Go.Op.load 46 (Go.Operand.tmp 59), type := 46, pos := "wheel.go:53", after := #[{ on := 2, ground := Go.Ground.data }], guard := none }) (v := _) rfl (by kernel_rfl) (by kernel_rfl) (by kernel_rfl) (fun _ _ _ h => h) (Or.inl ⟨by rfl, ?hy4⟩) (by assumption) ?hr4
  case hy4 => (intro _ hSw; (try dsimp only at hSw); have hc1 := hSw.1; go_simp <;> with_reducible rfl)
  simp only [Act.put, List.setIfInBounds_toArray, List.set_cons_zero, List.set_cons_succ]
  refine' wpAnyH_take (i := 4) (oi := { dst := some 61, op := Go.Op.move (Go.Operand.tmp 8), type := 50, pos := "wheel.go:53", after := #[], guard := none }) (v := _) rfl (by kernel_rfl) (by kernel_rfl) (by kernel_rfl) (fun _ _ _ h => h) (Or.inl ⟨by rfl, ?hy5⟩) (by assumption) ?hr5
  case hy5 => (intro _ hSw; (try dsimp only at hSw); go_simp <;> with_reducible rfl)
  simp only [Act.put, List.setIfInBounds_toArray, List.set_cons_zero, List.set_cons_succ]
  refine' wpAnyH_take (i := 5) (oi := { dst := some 62, op := Go.Op.nilCheck (Go.Operand.tmp 61), type := 0, pos := "wheel.go:53", after := #[{ on := 4, ground := Go.Ground.data }], guard := none }) (v := _) rfl (by kernel_rfl) (by kernel_rfl) (by kernel_rfl) (fun _ _ _ h => h) (Or.inl ⟨by rfl, ?hy6⟩) (by assumption) ?hr6
  case hy6 => (intro _ hSw; (try dsimp only at hSw); go_simp <;> with_reducible rfl)
  simp only [Act.put, List.setIfInBounds_toArray, List.set_cons_zero, List.set_cons_succ]
  refine' wpAnyH_take (i := 6) (oi := { dst := some 63, op := Go.Op.fieldAddr 53 (Go.Operand.tmp 62) 1, type := 0, pos := "wheel.go:53", after := #[{ on := 5, ground := Go.Ground.data }], guard := none }) (v := _) rfl (by kernel_rfl) (by kernel_rfl) (by kernel_rfl) (fun _ _ _ h => h) (Or.inl ⟨by rfl, ?hy7⟩) (by assumption) ?hr7
  case hy7 => (intro _ hSw; (try dsimp only at hSw); go_simp <;> with_reducible rfl)
  simp only [Act.put, List.setIfInBounds_toArray, List.set_cons_zero, List.set_cons_succ]
  refine' wpAnyH_take (i := 7) (oi := { dst := some 64, op := Go.Op.load 3 (Go.Operand.tmp 63), type := 3, pos := "wheel.go:53", after := #[{ on := 6, ground := Go.Ground.data }], guard := none }) (v := _) rfl (by kernel_rfl) (by kernel_rfl) (by kernel_rfl) (fun _ _ _ h => h) (Or.inl ⟨by rfl, ?hy8⟩) (by assumption) ?hr8
  case hy8 => (intro _ hSw; (try dsimp only at hSw); have hc2 := hSw.2; go_simp <;> with_reducible rfl)
  simp only [Act.put, List.setIfInBounds_toArray, List.set_cons_zero, List.set_cons_succ]
  refine' wpAnyH_take (i := 8) (oi := { dst := some 65, op := Go.Op.move (Go.Operand.tmp 0), type := 24, pos := "wheel.go:53", after := #[], guard := none }) (v := _) rfl (by kernel_rfl) (by kernel_rfl) (by kernel_rfl) (fun _ _ _ h => h) (Or.inl ⟨by rfl, ?hy9⟩) (by assumption) ?hr9
  case hy9 => (intro _ hSw; (try dsimp only at hSw); go_simp <;> with_reducible rfl)
  simp only [Act.put, List.setIfInBounds_toArray, List.set_cons_zero, List.set_cons_succ]
  refine' wpAnyH_take (i := 9) (oi := { dst := some 66, op := Go.Op.nilCheck (Go.Operand.tmp 65), type := 0, pos := "wheel.go:53", after := #[{ on := 8, ground := Go.Ground.data }], guard := none }) (v := _) rfl (by kernel_rfl) (by kernel_rfl) (by kernel_rfl) (fun _ _ _ h => h) (Or.inl ⟨by rfl, ?hy10⟩) (by assumption) ?hr10
  case hy10 => (intro _ hSw; (try dsimp only at hSw); go_simp <;> with_reducible rfl)
  simp only [Act.put, List.setIfInBounds_toArray, List.set_cons_zero, List.set_cons_succ]
  refine' wpAnyH_take (i := 10) (oi := { dst := some 67, op := Go.Op.fieldAddr 49 (Go.Operand.tmp 66) 0, type := 0, pos := "wheel.go:53", after := #[{ on := 9, ground := Go.Ground.data }], guard := none }) (v := _) rfl (by kernel_rfl) (by kernel_rfl) (by kernel_rfl) (fun _ _ _ h => h) (Or.inl ⟨by rfl, ?hy11⟩) (by assumption) ?hr11
  case hy11 => (intro _ hSw; (try dsimp only at hSw); go_simp <;> with_reducible rfl)
  simp only [Act.put, List.setIfInBounds_toArray, List.set_cons_zero, List.set_cons_succ]
  refine' wpAnyH_take (i := 11) (oi := { dst := some 68, op := Go.Op.load 46 (Go.Operand.tmp 67), type := 46, pos := "wheel.go:53", after := #[{ on := 10, ground := Go.Ground.data }], guard := none }) (v := _) rfl (by kernel_rfl) (by kernel_rfl) (by kernel_rfl) (fun _ _ _ h => h) (Or.inl ⟨by rfl, ?hy12⟩) (by assumption) ?hr12
  case hy12 => (intro _ hSw; (try dsimp only at hSw); have hc1 := hSw.1; go_simp <;> with_reducible rfl)
  simp only [Act.put, List.setIfInBounds_toArray, List.set_cons_zero, List.set_cons_succ]
  refine' wpAnyH_take (i := 12) (oi := { dst := some 69, op := Go.Op.move (Go.Operand.tmp 8), type := 50, pos := "wheel.go:53", after := #[], guard := none }) (v := _) rfl (by kernel_rfl) (by kernel_rfl) (by kernel_rfl) (fun _ _ _ h => h) (Or.inl ⟨by rfl, ?hy13⟩) (by assumption) ?hr13
  case hy13 => (intro _ hSw; (try dsimp only at hSw); go_simp <;> with_reducible rfl)
  simp only [Act.put, List.setIfInBounds_toArray, List.set_cons_zero, List.set_cons_succ]
  refine' wpAnyH_take (i := 13) (oi := { dst := some 70, op := Go.Op.nilCheck (Go.Operand.tmp 69), type := 0, pos := "wheel.go:53", after := #[{ on := 12, ground := Go.Ground.data }], guard := none }) (v := _) rfl (by kernel_rfl) (by kernel_rfl) (by kernel_rfl) (fun _ _ _ h => h) (Or.inl ⟨by rfl, ?hy14⟩) (by assumption) ?hr14
  case hy14 => (intro _ hSw; (try dsimp only at hSw); go_simp <;> with_reducible rfl)
  simp only [Act.put, List.setIfInBounds_toArray, List.set_cons_zero, List.set_cons_succ]
  refine' wpAnyH_take (i := 14) (oi := { dst := some 71, op := Go.Op.fieldAddr 53 (Go.Operand.tmp 70) 1, type := 0, pos := "wheel.go:53", after := #[{ on := 13, ground := Go.Ground.data }], guard := none }) (v := _) rfl (by kernel_rfl) (by kernel_rfl) (by kernel_rfl) (fun _ _ _ h => h) (Or.inl ⟨by rfl, ?hy15⟩) (by assumption) ?hr15
  case hy15 => (intro _ hSw; (try dsimp only at hSw); go_simp <;> with_reducible rfl)
  simp only [Act.put, List.setIfInBounds_toArray, List.set_cons_zero, List.set_cons_succ]
  refine' wpAnyH_take (i := 15) (oi := { dst := some 72, op := Go.Op.load 3 (Go.Operand.tmp 71), type := 3, pos := "wheel.go:53", after := #[{ on := 14, ground := Go.Ground.data }], guard := none }) (v := _) rfl (by kernel_rfl) (by kernel_rfl) (by kernel_rfl) (fun _ _ _ h => h) (Or.inl ⟨by rfl, ?hy16⟩) (by assumption) ?hr16
  case hy16 => (intro _ hSw; (try dsimp only at hSw); have hc2 := hSw.2; go_simp <;> with_reducible rfl)
  simp only [Act.put, List.setIfInBounds_toArray, List.set_cons_zero, List.set_cons_succ]
  refine' wpAnyH_take (i := 16) (oi := { dst := some 73, op := Go.Op.indexAddr 46 (Go.Operand.tmp 68) (Go.Operand.tmp 72), type := 0, pos := "wheel.go:53", after := #[{ on := 11, ground := Go.Ground.data }, { on := 15, ground := Go.Ground.data }], guard := none }) (v := _) rfl (by kernel_rfl) (by kernel_rfl) (by kernel_rfl) (fun _ _ _ h => h) (Or.inl ⟨by rfl, ?hy17⟩) (by assumption) ?hr17
  case hy17 => (intro _ hSw; (try dsimp only at hSw); go_simp <;> with_reducible rfl)
  simp only [Act.put, List.setIfInBounds_toArray, List.set_cons_zero, List.set_cons_succ]
  refine' wpAnyH_take (i := 18) (oi := { dst := some 75, op := Go.Op.move (Go.Operand.tmp 8), type := 50, pos := "wheel.go:53", after := #[], guard := none }) (v := _) rfl (by kernel_rfl) (by kernel_rfl) (by kernel_rfl) (fun _ _ _ h => h) (Or.inl ⟨by rfl, ?hy18⟩) (by assumption) ?hr18
  case hy18 => (intro _ hSw; (try dsimp only at hSw); go_simp <;> with_reducible rfl)
  simp only [Act.put, List.setIfInBounds_toArray, List.set_cons_zero, List.set_cons_succ]
  refine wpAnyH_ready (rs := [17, 19]) (by kernel_rfl) (by simp) ?_
  refine AllReadyH.cons (o := { dst := some 74, op := Go.Op.load 54 (Go.Operand.tmp 73), type := 54, pos := "wheel.go:53", after := #[{ on := 16, ground := Go.Ground.data }], guard := none }) rfl (fun K hK => ?_) (AllReadyH.cons (o := { dst := some 76, op := Go.Op.buildSlice 54 1 #[(0, Go.Operand.tmp 75)], type := 54, pos := "wheel.go:53", after := #[{ on := 18, ground := Go.Ground.data }], guard := none }) rfl (fun K hK => ?_) AllReadyH.nil)
  · go_simp
    refine hK.out _ _ hHeld (fun hNext => ?_)
    clear hK K hHeld
    have hHeld := hNext
    clear hNext
    (try simp only [Act.put, List.setIfInBounds_toArray, List.set_cons_zero, List.set_cons_succ])
    refine wpAnyH_ready (rs := [19]) (by kernel_rfl) (by simp) ?_
    refine AllReadyH.cons (o := { dst := some 76, op := Go.Op.buildSlice 54 1 #[(0, Go.Operand.tmp 75)], type := 54, pos := "wheel.go:53", after := #[{ on := 18, ground := Go.Ground.data }], guard := none }) rfl (fun K hK => ?_) AllReadyH.nil
    go_simp
    refine hK.out _ _ ⟨(HK3.out _).1, (HK3.out _).2.1⟩ (fun hNext => ?_)
    clear hK K hHeld
    have hHeld := hNext
    clear hNext
    (try simp only [Act.put, List.setIfInBounds_toArray, List.set_cons_zero, List.set_cons_succ])
    refine wpAnyH_ready (rs := [20]) (by kernel_rfl) (by simp) ?_
    refine AllReadyH.cons (o := { dst := some 77, op := Go.Op.call { callee := Go.Callee.builtin Go.Builtin.append, args := #[Go.Operand.tmp 74, Go.Operand.tmp 76], argTypes := #[54, 54] }, type := 54, pos := "wheel.go:53", after := #[{ on := 17, ground := Go.Ground.data }, { on := 19, ground := Go.Ground.data }], guard := none }) rfl (fun K hK => ?_) AllReadyH.nil
    refine step_append_elt eltP _ (by rfl) _ _ (by rfl) 0 v0 (by rfl) ((L s).map E') (OwnS.alloc (w := w3.drew) R3.out _) w3.heap.size 1 (by rfl) eb (row1 w3 eb _) HLN.out (Nat.zero_le _) ?_
    intro g cap w4 hown hgrow hat
    have hkp := HK.out _ _ (by simp) (fun b hb => alloc_same w3.drew _ hb) hgrow
    have hkp2 := hkp.2.2.1
    have hkp3 := hkp.2.2.2
    refine hK.out _ _ ⟨hkp.1, hkp.2.1⟩ (fun hNext => ?_)
    clear hK K hHeld
    have hHeld := hNext
    clear hNext
    (try simp only [Act.put, List.setIfInBounds_toArray, List.set_cons_zero, List.set_cons_succ])
    refine' wpAnyH_take (i := 21) (oi := { dst := some 78, op := Go.Op.indexAddr 46 (Go.Operand.tmp 60) (Go.Operand.tmp 64), type := 0, pos := "wheel.go:53", after := #[{ on := 3, ground := Go.Ground.data }, { on := 7, ground := Go.Ground.data }, { on := 0, ground := Go.Ground.phase }, { on := 1, ground := Go.Ground.phase }, { on := 2, ground := Go.Ground.phase }, { on := 3, ground := Go.Ground.phase }, { on := 4, ground := Go.Ground.phase }, { on := 5, ground := Go.Ground.phase }, { on := 6, ground := Go.Ground.phase }, { on := 7, ground := Go.Ground.phase }, { on := 8, ground := Go.Ground.phase }, { on := 9, ground := Go.Ground.phase }, { on := 10, ground := Go.Ground.phase }, { on := 11, ground := Go.Ground.phase }, { on := 12, ground := Go.Ground.phase }, { on := 13, ground := Go.Ground.phase }, { on := 14, ground := Go.Ground.phase }, { on := 15, ground := Go.Ground.phase }, { on := 16, ground := Go.Ground.phase }, { on := 17, ground := Go.Ground.phase }, { on := 18, ground := Go.Ground.phase }, { on := 19, ground := Go.Ground.phase }, { on := 20, ground := Go.Ground.phase }], guard := none }) (v := _) rfl (by kernel_rfl) (by kernel_rfl) (by kernel_rfl) (fun _ _ _ h => h) (Or.inl ⟨by rfl, ?hy19⟩) (by assumption) ?hr19
    case hy19 => (intro _ hSw; (try dsimp only at hSw); go_simp <;> with_reducible rfl)
    simp only [Act.put, List.setIfInBounds_toArray, List.set_cons_zero, List.set_cons_succ]
    refine wpAnyH_ready (rs := [22]) (by kernel_rfl) (by simp) ?_
    refine AllReadyH.cons (o := { dst := none, op := Go.Op.store 54 (Go.Operand.tmp 78) (Go.Operand.tmp 77), type := 0, pos := "wheel.go:53", after := #[{ on := 21, ground := Go.Ground.data }, { on := 20, ground := Go.Ground.data }, { on := 20, ground := Go.Ground.chain }, { on := 0, ground := Go.Ground.phase }, { on := 1, ground := Go.Ground.phase }, { on := 2, ground := Go.Ground.phase }, { on := 3, ground := Go.Ground.phase }, { on := 4, ground := Go.Ground.phase }, { on := 5, ground := Go.Ground.phase }, { on := 6, ground := Go.Ground.phase }, { on := 7, ground := Go.Ground.phase }, { on := 8, ground := Go.Ground.phase }, { on := 9, ground := Go.Ground.phase }, { on := 10, ground := Go.Ground.phase }, { on := 11, ground := Go.Ground.phase }, { on := 12, ground := Go.Ground.phase }, { on := 13, ground := Go.Ground.phase }, { on := 14, ground := Go.Ground.phase }, { on := 15, ground := Go.Ground.phase }, { on := 16, ground := Go.Ground.phase }, { on := 17, ground := Go.Ground.phase }, { on := 18, ground := Go.Ground.phase }, { on := 19, ground := Go.Ground.phase }, { on := 20, ground := Go.Ground.phase }], guard := none }) rfl (fun K hK => ?_) AllReadyH.nil
    go_simp
    refine hK.out _ _ (HK5.out _ _ hkp.1 hkp.2.1) (fun hNext => ?_)
    clear hK K hHeld
    have hHeld := hNext
    clear hNext
    (try simp only [Act.put, List.setIfInBounds_toArray, List.set_cons_zero, List.set_cons_succ])
    refine wpAnyH_done (by kernel_rfl) ?_ _
    clear hHeld
    go_wp2
    go_ret
    rw [← HE.out.1] at hown
    rw [HV0.out] at hgrow hat
    exact ⟨rfl, set_done n1 n2 P3.out H6.out hi ht1 HS.out.1 hsn HE.out.2 (upd_max H.out.fmax ht2) H7.out H.out.lt HEN.out G3.out (by rw [List.length_map] at hown; exact hown) hgrow hat⟩
  · go_simp
    refine hK.out _ _ ⟨(HK3.out _).1, (HK3.out _).2.1⟩ (fun hNext => ?_)
    clear hK K hHeld
    have hHeld := hNext
    clear hNext
    (try simp only [Act.put, List.setIfInBounds_toArray, List.set_cons_zero, List.set_cons_succ])
    refine wpAnyH_ready (rs := [17]) (by kernel_rfl) (by simp) ?_
    refine AllReadyH.cons (o := { dst := some 74, op := Go.Op.load 54 (Go.Operand.tmp 73), type := 54, pos := "wheel.go:53", after := #[{ on := 16, ground := Go.Ground.data }], guard := none }) rfl (fun K hK => ?_) AllReadyH.nil
    go_simp
    refine hK.out _ _ hHeld (fun hNext => ?_)
    clear hK K hHeld
    have hHeld := hNext
    clear hNext
    (try simp only [Act.put, List.setIfInBounds_toArray, List.set_cons_zero, List.set_cons_succ])
    refine wpAnyH_ready (rs := [20]) (by kernel_rfl) (by simp) ?_
    refine AllReadyH.cons (o := { dst := some 77, op := Go.Op.call { callee := Go.Callee.builtin Go.Builtin.append, args := #[Go.Operand.tmp 74, Go.Operand.tmp 76], argTypes := #[54, 54] }, type := 54, pos := "wheel.go:53", after := #[{ on := 17, ground := Go.Ground.data }, { on := 19, ground := Go.Ground.data }], guard := none }) rfl (fun K hK => ?_) AllReadyH.nil
    refine step_append_elt eltP _ (by rfl) _ _ (by rfl) 0 v0 (by rfl) ((L s).map E') (OwnS.alloc (w := w3.drew) R3.out _) w3.heap.size 1 (by rfl) eb (row1 w3 eb _) HLN.out (Nat.zero_le _) ?_
    intro g cap w4 hown hgrow hat
    have hkp := HK.out _ _ (by simp) (fun b hb => alloc_same w3.drew _ hb) hgrow
    have hkp2 := hkp.2.2.1
    have hkp3 := hkp.2.2.2
    refine hK.out _ _ ⟨hkp.1, hkp.2.1⟩ (fun hNext => ?_)
    clear hK K hHeld
    have hHeld := hNext
    clear hNext
    (try simp only [Act.put, List.setIfInBounds_toArray, List.set_cons_zero, List.set_cons_succ])
    refine' wpAnyH_take (i := 21) (oi := { dst := some 78, op := Go.Op.indexAddr 46 (Go.Operand.tmp 60) (Go.Operand.tmp 64), type := 0, pos := "wheel.go:53", after := #[{ on := 3, ground := Go.Ground.data }, { on := 7, ground := Go.Ground.data }, { on := 0, ground := Go.Ground.phase }, { on := 1, ground := Go.Ground.phase }, { on := 2, ground := Go.Ground.phase }, { on := 3, ground := Go.Ground.phase }, { on := 4, ground := Go.Ground.phase }, { on := 5, ground := Go.Ground.phase }, { on := 6, ground := Go.Ground.phase }, { on := 7, ground := Go.Ground.phase }, { on := 8, ground := Go.Ground.phase }, { on := 9, ground := Go.Ground.phase }, { on := 10, ground := Go.Ground.phase }, { on := 11, ground := Go.Ground.phase }, { on := 12, ground := Go.Ground.phase }, { on := 13, ground := Go.Ground.phase }, { on := 14, ground := Go.Ground.phase }, { on := 15, ground := Go.Ground.phase }, { on := 16, ground := Go.Ground.phase }, { on := 17, ground := Go.Ground.phase }, { on := 18, ground := Go.Ground.phase }, { on := 19, ground := Go.Ground.phase }, { on := 20, ground := Go.Ground.phase }], guard := none }) (v := _) rfl (by kernel_rfl) (by kernel_rfl) (by kernel_rfl) (fun _ _ _ h => h) (Or.inl ⟨by rfl, ?hy20⟩) (by assumption) ?hr20
    case hy20 => (intro _ hSw; (try dsimp only at hSw); go_simp <;> with_reducible rfl)
    simp only [Act.put, List.setIfInBounds_toArray, List.set_cons_zero, List.set_cons_succ]
    refine wpAnyH_ready (rs := [22]) (by kernel_rfl) (by simp) ?_
    refine AllReadyH.cons (o := { dst := none, op := Go.Op.store 54 (Go.Operand.tmp 78) (Go.Operand.tmp 77), type := 0, pos := "wheel.go:53", after := #[{ on := 21, ground := Go.Ground.data }, { on := 20, ground := Go.Ground.data }, { on := 20, ground := Go.Ground.chain }, { on := 0, ground := Go.Ground.phase }, { on := 1, ground := Go.Ground.phase }, { on := 2, ground := Go.Ground.phase }, { on := 3, ground := Go.Ground.phase }, { on := 4, ground := Go.Ground.phase }, { on := 5, ground := Go.Ground.phase }, { on := 6, ground := Go.Ground.phase }, { on := 7, ground := Go.Ground.phase }, { on := 8, ground := Go.Ground.phase }, { on := 9, ground := Go.Ground.phase }, { on := 10, ground := Go.Ground.phase }, { on := 11, ground := Go.Ground.phase }, { on := 12, ground := Go.Ground.phase }, { on := 13, ground := Go.Ground.phase }, { on := 14, ground := Go.Ground.phase }, { on := 15, ground := Go.Ground.phase }, { on := 16, ground := Go.Ground.phase }, { on := 17, ground := Go.Ground.phase }, { on := 18, ground := Go.Ground.phase }, { on := 19, ground := Go.Ground.phase }, { on := 20, ground := Go.Ground.phase }], guard := none }) rfl (fun K hK => ?_) AllReadyH.nil
    go_simp
    refine hK.out _ _ (HK5.out _ _ hkp.1 hkp.2.1) (fun hNext => ?_)
    clear hK K hHeld
    have hHeld := hNext
    clear hNext
    (try simp only [Act.put, List.setIfInBounds_toArray, List.set_cons_zero, List.set_cons_succ])
    refine wpAnyH_done (by kernel_rfl) ?_ _
    clear hHeld
    go_wp2
    go_ret
    rw [← HE.out.1] at hown
    rw [HV0.out] at hgrow hat
    exact ⟨rfl, set_done n1 n2 P3.out H6.out hi ht1 HS.out.1 hsn HE.out.2 (upd_max H.out.fmax ht2) H7.out H.out.lt HEN.out G3.out (by rw [List.length_map] at hown; exact hown) hgrow hat⟩
end Go.Proofs.Ytcadeoolacoidaa.Wh

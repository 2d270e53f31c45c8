/-
  What the library's Insert leaves of a slice of bytes that the call made itself: the bytes ahead, what was put in, the bytes behind. Conditions: the place lies within; at most a million bytes; what is put in lies in another block.
-/
import Derived.Test.YtllojgmlngfibaaLnApp
import Derived.Lib.Overlaps
import Derived.Lib.AppendZerosOnto
import Derived.Laws.Externs
import Derived.Lib.Walk
import Derived.WalkKit
namespace Go.Proofs.Ytllojgmlngfibaa.Ln
open Go.RowKit Go.Proofs.Ytllojgmlngfibaa.Base Go.Proofs.Ytllojgmlngfibaa.Mem
/-- What Insert leaves. -/
def Ins (w : World) (base : Nat) (v : Value) (l : List UInt8) : Ending → World → Prop := fun e w' => ∃ v', e = .returned v' ∧ SlB w' base v' l ∧ w.grownBy w' v.ownBlock
theorem szB : (Try.prog.info? 5).map (·.size) = some 1 := by
  obtain ⟨i, hi, _, h1, _⟩ := info_parts infoB
  rw [hi]; simp [h1]
theorem put_get (l u : List UInt8) (i t : Nat) (hi : i ≤ l.length) : (put l i u)[t]? = if t < i then l[t]? else if t < i + u.length then u[t - i]? else l[t - u.length]? := by
  unfold put
  have hl : (l.take i).length = i := by rw [List.length_take]; omega
  rw [List.append_assoc]
  by_cases h : t < i
  · rw [if_pos h, List.getElem?_append_left (by omega), List.getElem?_take, if_pos h]
  · rw [if_neg h, List.getElem?_append_right (by omega), hl]
    by_cases h2 : t < i + u.length
    · rw [if_pos h2, List.getElem?_append_left (by omega)]
    · rw [if_neg h2, List.getElem?_append_right (by omega), List.getElem?_drop]
      congr 1; omega
theorem put_len (l u : List UInt8) (i : Nat) (hi : i ≤ l.length) : (put l i u).length = l.length + u.length := by
  unfold put
  simp only [List.length_append, List.length_take, List.length_drop]
  omega
theorem put_end (l u : List UInt8) : put l l.length u = l ++ u := by simp [put]
section
variable (w : World) (base : Nat) (l u : List UInt8) (ub m uc : Nat) (cs : Array Value)
set_option maxHeartbeats 1000000 in
/-- Nothing is put in. -/
theorem fins_none (v : Value) (n i : Nat) (hv : v = .slice none 0 0 ∧ n = 0 ∨ ∃ g off cap, v = .slice (some ⟨g, off, none⟩) n cap ∧ n ≤ cap) (hi : i ≤ n) :
    Calls Try.prog 24 #[v, .int .i64 (i : Int), .slice (some ⟨ub, 0, none⟩) 0 uc] w fun e w' => e = .returned v ∧ w' = w := by
  rcases hv with ⟨rfl, rfl⟩ | ⟨g, off, cap, rfl, hnc⟩
  · obtain rfl : i = 0 := by omega
    go_enter Try.func24, Try.ntmps24
    go_wp2
    go_ret
    exact ⟨rfl, rfl⟩
  · have hic : i ≤ cap := by omega
    go_enter Try.func24, Try.ntmps24
    go_wp2
    all_goals (go_ret; exact ⟨rfl, rfl⟩)
set_option maxHeartbeats 1000000 in
/-- At the end. -/
theorem fins_end (v : Value) (n : Nat) (hn : l.length = n) (h : SlB w base v l) (hm : 0 < m) (hu : u.length = m) (hub : w.heap[ub]? = some (.cells cs 5)) (hcs : ∀ (i : Nat) (x : UInt8), u[i]? = some x → cs[i]? = some (val8 x)) (hz : n + m ≤ 1000000) (hb : base ≤ w.heap.size) :
    Calls Try.prog 24 #[v, .int .i64 (n : Int), .slice (some ⟨ub, 0, none⟩) m uc] w (Ins w base v (put l n u)) := by
  subst hn
  rw [put_end]
  have hsrc := src_at elB w ub 0 m uc u hu (fun i x hi => by rw [Nat.zero_add]; exact cell_of hub (hcs i x hi))
  have H := Lib.hid h
  have hm0 : ¬ (m : Int) = 0 := by omega
  have hm1 : ((m : Int) == 0) = false := by rw [beq_eq_false_iff_ne]; exact hm0
  have hnw : l.length ≤ 1000000 := by omega
  rcases h with ⟨rfl, rfl⟩ | ⟨g, off, cap, rfl, hbg, hR⟩
  · go_enter Try.func24, Try.ntmps24
    go_wp2_with (at_builtin; refine wpList_append_sl elB _ rfl _ _ rfl base _ rfl [] H.out _ rfl m u hu hsrc hm (by simpa using hz) hb ?_; intro v' w1 h1 h2; have H1 := Lib.hid h1; have H2 := Lib.hid h2; clear h1 h2)
    go_ret
    exact ⟨_, rfl, H1.out, H2.out⟩
  · have hlc := hR.len
    have hmax := hR.max
    obtain ⟨n, hn⟩ : ∃ n, l.length = n := ⟨_, rfl⟩
    rw [hn] at hlc hz hnw H ⊢
    clear hR
    go_enter Try.func24, Try.ntmps24
    go_wp2_with (at_builtin; refine wpList_append_sl elB _ rfl _ _ rfl base _ rfl l H.out _ rfl m u hu hsrc hm (by rw [hn]; exact hz) hb ?_; intro v' w1 h1 h2; have H1 := Lib.hid h1; have H2 := Lib.hid h2; clear h1 h2)
    all_goals (go_ret; exact ⟨_, rfl, H1.out, H2.out⟩)
set_option maxHeartbeats 4000000 in
set_option maxRecDepth 100000 in
/-- Within, where there is room: in place. -/
theorem fins_shift (g off cap n i : Nat) (hn : l.length = n) (hR : RwB w g off cap l) (hbg : base ≤ g) (hi : i < n) (hroom : n + m ≤ cap) (hne : ub ≠ g) (hm : 0 < m) (hu : u.length = m) (hub : w.heap[ub]? = some (.cells cs 5)) (hcs : ∀ (i : Nat) (x : UInt8), u[i]? = some x → cs[i]? = some (val8 x)) (hz : n + m ≤ 1000000) :
    Calls Try.prog 24 #[.slice (some ⟨g, off, none⟩) n cap, .int .i64 (i : Int), .slice (some ⟨ub, 0, none⟩) m uc] w (Ins w base (.slice (some ⟨g, off, none⟩) n cap) (put l i u)) := by
  have hm0 : ¬ (m : Int) = 0 := by omega
  have hm1 : ((m : Int) == 0) = false := by rw [beq_eq_false_iff_ne]; exact hm0
  have hi0 : ¬ (i : Int) = (n : Int) := by omega
  have hi1 : ((i : Int) == (n : Int)) = false := by rw [beq_eq_false_iff_ne]; exact hi0
  have hmax := hR.max
  have hpl : (put l i u).length = n + m := by rw [put_len l u i (by omega), hn, hu]
  obtain ⟨kB, hsB⟩ := hR.shape
  have hkB : kB ≠ 0 := by
    rintro rfl
    have h1 := hR.has 0 (by omega)
    obtain ⟨x, hx⟩ := Option.isSome_iff_exists.1 h1
    obtain ⟨e, k, h2, h3, _⟩ := World.shape?_of_cell? hx
    simp only at h2
    rw [hsB, Option.some.injEq, Prod.mk.injEq] at h2
    omega
  have hsA : w.shape? ub = some (5, cs.size) := by unfold World.shape?; rw [hub]
  have hov : ∀ lb cb, (callFunc 26 #[.slice (some ⟨ub, 0, none⟩) m uc, .slice (some ⟨g, off + (i + m), none⟩) lb cb]).run Try.prog w = .ok (.value (.bool false)) w := fun lb cb => by
    rw [run_callFunc_extern Try.func26 (by kernel_rfl) (by kernel_rfl) (by kernel_rfl) (e := Extern.SlicesOverlaps.overlaps #[43, 43] #[4]) (by kernel_rfl),
      Lib.run_overlaps_apart w 43 4 5 Try.underlying43 1 Try.sizeOf5 ⟨ub, 0, none⟩ ⟨g, off + (i + m), none⟩ m uc lb cb hne 5 5 cs.size kB hsA hsB hkB (free_of hub) (free_of hub)]
    rfl
  obtain ⟨W1, hW1⟩ : ∃ W1, W1 = w.drew.setCells g (off + (i + m)) ((l.drop i).map val8) := ⟨_, rfl⟩
  obtain ⟨W2, hW2⟩ : ∃ W2, W2 = W1.setCells g (off + i) (u.map val8) := ⟨_, rfl⟩
  have hd : RwB w.drew g off cap l := ⟨hR.len, hR.max, hR.lt, hR.cell, hR.has, hR.free, hR.shape⟩
  have hdl : (l.drop i).length = n - i := by rw [List.length_drop, hn]
  have hR1 : RwB W1 g off cap (l.take i) := by
    rw [hW1]
    refine hd.write (i + m) (l.drop i) (by omega) _ (by rw [List.length_take]; omega) (fun t x hx => ?_)
    have hlt := (List.getElem?_eq_some_iff.1 hx).1
    rw [List.length_take] at hlt
    rw [if_neg (by omega)]
    rwa [List.getElem?_take, if_pos (by omega)] at hx
  have hR1' : ∀ t x, (l.drop i)[t]? = some x → W1.cell? ⟨g, off + (i + m) + t, none⟩ = some (val8 x) := fun t x hx => by
    have hlt := (List.getElem?_eq_some_iff.1 hx).1
    rw [hW1]
    have := World.cell?_setCells_in g ((l.drop i).map val8) (off + (i + m)) w.drew (fun j hj => by rw [List.length_map] at hj; rw [Nat.add_assoc]; exact hd.has _ (by omega)) t (by rw [List.length_map]; exact hlt)
    rw [this, List.getElem_map]
    rw [List.getElem?_eq_getElem hlt] at hx
    rw [Option.some.inj hx]
  have hR2 : Hid (RwB W2 g off cap (put l i u)) := by
    have h9 : RwB W1 g off cap (l.take i ++ List.replicate 0 0) := by simpa using hR1
    have hw := hR1.write i u (by omega) (l.take i ++ u) (by simp only [List.length_append, List.length_take]; omega) (fun t x hx => by
      by_cases ht : t < i
      · rw [if_neg (by omega)]
        rwa [List.getElem?_append_left (by rw [List.length_take]; omega)] at hx
      · have hlt := (List.getElem?_eq_some_iff.1 hx).1
        simp only [List.length_append, List.length_take] at hlt
        rw [if_pos (by omega)]
        rw [List.getElem?_append_right (by rw [List.length_take]; omega)] at hx
        rwa [List.length_take, Nat.min_eq_left (by omega)] at hx)
    rw [← hW2] at hw
    refine ⟨by omega, hw.max, hw.lt, fun t x hx => ?_, hw.has, hw.free, hw.shape⟩
    rw [put_get l u i t (by omega)] at hx
    by_cases ht : t < i + m
    · refine hw.cell t x ?_
      by_cases ht2 : t < i
      · rw [if_pos ht2] at hx
        rw [List.getElem?_append_left (by rw [List.length_take]; omega), List.getElem?_take, if_pos ht2]; exact hx
      · rw [if_neg ht2, if_pos (by omega)] at hx
        rw [List.getElem?_append_right (by rw [List.length_take]; omega), List.length_take, Nat.min_eq_left (by omega)]; exact hx
    · rw [if_neg (by omega), if_neg (by omega)] at hx
      rw [hW2, World.cell?_setCells_out g _ _ W1 ⟨g, off + t, none⟩ (fun _ _ => by show off + t < off + i ∨ off + i + (u.map val8).length ≤ off + t; rw [List.length_map]; omega)]
      rw [show off + t = off + (i + m) + (t - (i + m)) by omega]
      refine hR1' _ x ?_
      rw [List.getElem?_drop, show i + (t - (i + m)) = t - u.length by omega]; exact hx
  have hcp1 : ∀ ty dc sc, (Builtin.copy_ #[43, 43] ty #[.slice (some ⟨g, off + (i + m), none⟩) (n + m - (i + m)) dc, .slice (some ⟨g, off + i, none⟩) (n + m - i) sc]).run Try.prog w.drew = .ok (goInt ((l.drop i).map val8).length) W1 := fun ty dc sc => by
    rw [hW1]
    exact run_copy_cells w.drew _ _ ty 5 g (off + (i + m)) (n + m - (i + m)) dc ⟨g, off + i, none⟩ (n + m - i) sc ((l.drop i).map val8) Try.underlying43 szB (by rw [List.length_map, hdl]; simp only [Nat.min_def]; split <;> omega)
      (fun j v hj => by
        rw [List.getElem?_map, List.getElem?_drop] at hj
        obtain ⟨x, hx, rfl⟩ := Option.map_eq_some_iff.1 hj
        rw [add_off, Nat.add_assoc]; exact hR.cell _ x hx)
      (fun j hj => by rw [List.length_map] at hj; rw [Nat.add_assoc]; exact hd.has _ (by omega)) (fun j hj => by rw [List.length_map] at hj; rw [Nat.add_assoc]; exact hd.free _ (by omega)) (one8 _)
  have hcp2 : ∀ ty dc, (Builtin.copy_ #[43, 43] ty #[.slice (some ⟨g, off + i, none⟩) (n + m - i) dc, .slice (some ⟨ub, 0, none⟩) m uc]).run Try.prog W1 = .ok (goInt (u.map val8).length) W2 := fun ty dc => by
    rw [hW2]
    exact run_copy_cells W1 _ _ ty 5 g (off + i) (n + m - i) dc ⟨ub, 0, none⟩ m uc (u.map val8) Try.underlying43 szB (by rw [List.length_map, hu]; simp only [Nat.min_def]; split <;> omega)
      (fun j v hj => by
        rw [List.getElem?_map] at hj
        obtain ⟨x, hx, rfl⟩ := Option.map_eq_some_iff.1 hj
        rw [add_off, Nat.zero_add, hW1, World.cell?_setCells_out g _ _ _ _ (fun h _ => absurd h hne)]
        exact cell_of (w := w.drew) hub (hcs j x hx))
      (fun j hj => by rw [List.length_map] at hj; rw [Nat.add_assoc]; exact hR1.has _ (by omega)) (fun j hj => by rw [List.length_map] at hj; rw [Nat.add_assoc]; exact hR1.free _ (by omega)) (one8 _)
  have hB : Hid (w.grownBy W2 (some g)) := by
    show w.grownBy W2 (some g)
    rw [hW2, hW1]
    exact gr_drew (gr_then (grown_sc _ g _ _) (grown_sc _ g _ _))
  have hw1 : IntKind.i64.wrap ((i : Int) + (m : Int)) = (i : Int) + (m : Int) := by rw [IntKind.wrap_i64]; omega
  have hw2 : IntKind.i64.wrap ((n : Int) + (m : Int)) = (n : Int) + (m : Int) := by rw [IntKind.wrap_i64]; omega
  have hb1 : (0 : Int) ≤ (i : Int) + (m : Int) := by omega
  have hin : i ≤ n := by omega
  have htn : ((i : Int) + (m : Int)).toNat = i + m := by omega
  have hb2 : ¬ (cap = i + m) := by omega
  have hb3 : (i : Int) ≤ (n : Int) + (m : Int) := by omega
  have hb4 : ¬ (cap = i) := by omega
  have hPL := Lib.hid hpl
  clear hW1 hW2 hR1 hR1' hR hd hdl hub hcs hsA hsB hkB hu hn hpl
  go_enter Try.func24, Try.ntmps24
  go_wp2_with (simp only [hov])
  go_region_law (refine step_copy_known rfl _ _ 43 43 rfl (by simp [Act.eval, Act.put]; rfl) (by simp [Act.eval, Act.put]; rfl) (hcp1 _ _ _) ?_)
  go_wp2_with (at_builtin; refine wpList_copy_known _ rfl _ _ 43 43 rfl rfl rfl (hcp2 _ _) ?_)
  go_ret
  exact ⟨_, rfl, Sl.of hbg hR2.out hPL.out, hB.out⟩
end
end Go.Proofs.Ytllojgmlngfibaa.Ln

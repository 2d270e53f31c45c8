/-
  What the library's Insert leaves of a slice of bytes that the call made itself, on every road. Conditions: the place lies within; at most a million bytes; what is put in lies in another block.
-/
import Derived.Test.YtllojgmlngfibaaLnIns
namespace Go.Proofs.Ytllojgmlngfibaa.Ln
open Go.RowKit Go.Proofs.Ytllojgmlngfibaa.Base Go.Proofs.Ytllojgmlngfibaa.Mem
section
variable (w : World) (base : Nat) (l u : List UInt8) (ub m uc : Nat) (cs : Array Value)
set_option maxHeartbeats 4000000 in
set_option maxRecDepth 100000 in
/-- Within, where there is no room: a new row. -/
theorem fins_new (g off cap n i : Nat) (hn : l.length = n) (hR : RwB w g off cap l) (hi : i < n) (hroom : cap < n + m) (hm : 0 < m) (hu : u.length = m) (hub : w.heap[ub]? = some (.cells cs 5)) (hcs : ∀ (i : Nat) (x : UInt8), u[i]? = some x → cs[i]? = some (val8 x)) (hz : n + m ≤ 1000000) (hb : base ≤ w.heap.size) :
    Calls Try.prog 24 #[.slice (some ⟨g, off, none⟩) n cap, .int .i64 (i : Int), .slice (some ⟨ub, 0, none⟩) m uc] w (Ins w base (.slice (some ⟨g, off, none⟩) n cap) (put l i u)) := by
  have hm0 : ¬ (m : Int) = 0 := by omega
  have hm1 : ((m : Int) == 0) = false := by rw [beq_eq_false_iff_ne]; exact hm0
  have hi0 : ¬ (i : Int) = (n : Int) := by omega
  have hi1 : ((i : Int) == (n : Int)) = false := by rw [beq_eq_false_iff_ne]; exact hi0
  have hlen := hR.len
  have hmax := hR.max
  have hnc : n ≤ cap := by omega
  have hpl : (put l i u).length = n + m := by rw [put_len l u i (by omega), hn, hu]
  have hgw : g < w.heap.size := hR.lt
  have huw : ub < w.heap.size := lt_heap hub
  have hdl : (l.drop i).length = n - i := by rw [List.length_drop, hn]
  have htl : (l.take i).length = i := by rw [List.length_take]; omega
  obtain ⟨i0, hi9, hz0, hzs, hzb⟩ := info_parts infoB
  have hold : (Builtin.firstCells i0.size i (.slice (some ⟨g, off, none⟩) i cap)).run Try.prog w.drew = .ok ((l.take i).map val8).toArray w.drew :=
    run_firstCells_some (P := Try.prog) w.drew i0.size i ⟨g, off, none⟩ i cap ((l.take i).map val8) (by rw [hzs, List.length_map, htl, Nat.mul_one]) (fun j v hj => by
      rw [List.getElem?_map] at hj
      obtain ⟨x, hx, rfl⟩ := Option.map_eq_some_iff.1 hj
      rw [add_off]
      exact (hR.take i).cell j x hx)
  obtain ⟨G, hG⟩ : ∃ G, G = grownCap w (n + m) cap 5 := ⟨_, rfl⟩
  obtain ⟨ROW, hROW⟩ : ∃ ROW : Array Value, ROW = ((l.take i).map val8).toArray ++ Builtin.zeroCells (Value.int .u8 0).cells (n + m - i) ++ Builtin.zeroCells (Value.int .u8 0).cells (G - (n + m)) := ⟨_, rfl⟩
  have hGn : n + m ≤ G := by rw [hG]; exact grownCap_ge w _ _ _
  have hG63 : G ≤ 9223372036854775807 := by
    have := grownCap_le_maxLen w (n + m) cap 5 (by unfold maxLen; omega)
    rw [← hG] at this
    unfold maxLen at this; omega
  have hRs : ROW.size = G := by
    rw [hROW, Array.size_append, Array.size_append, size_zeroCells, size_zeroCells]
    have : (Value.int IntKind.u8 0).cells.size = 1 := rfl
    rw [this, List.size_toArray, List.length_map, htl]; omega
  obtain ⟨b1, hb1⟩ : ∃ b1, b1 = w.heap.size := ⟨_, rfl⟩
  obtain ⟨W1, hW1⟩ : ∃ W1, W1 = w.drew.alloc (.cells ROW 5) := ⟨_, rfl⟩
  have hkk : (n : Int) + (m : Int) - (i : Int) = ((n + m - i : Nat) : Int) := by omega
  have hrz : ∀ ty, (Builtin.append_ #[43, 3] ty #[.slice (some ⟨g, off, none⟩) i cap, .int .i64 ((n : Int) + (m : Int) - (i : Int))]).run Try.prog w = .ok (.slice (some ⟨b1, 0, none⟩) (n + m) G) W1 := fun ty => by
    have h := Lib.run_append_grow_zeros (P := Try.prog) w 43 3 ty 5 i0 (.int .u8 0) .i64 .i64 Try.underlying43 Try.underlying3 hi9 hz0 (some ⟨g, off, none⟩) i cap ((l.take i).map val8) hold (n + m - i) (by omega) (by omega) (by omega) (by omega) (by rw [hzb]; omega) (by rw [hzb, show i + (n + m - i) = n + m by omega]; exact growslice_fits hroom (by omega))
    rw [show i + (n + m - i) = n + m by omega, ← hG, ← hROW, ← hb1, ← hW1] at h
    rw [hkk]
    exact h
  have hN : RwB W1 b1 0 G (l.take i) := by
    rw [hW1, hb1]
    exact rw_new w.drew ROW (l.take i) G hRs hG63 (by omega) (fun j x hj => by
      have hlt := (List.getElem?_eq_some_iff.1 hj).1
      rw [hROW, Array.append_assoc, Array.getElem?_append_left (by rw [List.size_toArray, List.length_map]; exact hlt), List.getElem?_toArray, List.getElem?_map, hj]; rfl)
  have hOl : ∀ (b j : Nat) v, b < w.heap.size → w.cell? ⟨b, j, none⟩ = some v → W1.cell? ⟨b, j, none⟩ = some v := fun b j v hbw h => by
    rw [hW1, World.cell?_alloc_past (w := w.drew) _ b j hbw]; exact h
  obtain ⟨W2, hW2⟩ : ∃ W2, W2 = W1.setCells b1 (0 + i) (u.map val8) := ⟨_, rfl⟩
  have hR2 : RwB W2 b1 0 G (l.take i ++ u) := by
    rw [hW2]
    refine hN.write i u (by omega) (l.take i ++ u) (by simp only [List.length_append, List.length_take]; omega) (fun t x hx => ?_)
    by_cases ht : t < i
    · rw [if_neg (by omega)]
      rwa [List.getElem?_append_left (by omega)] at hx
    · have hlt := (List.getElem?_eq_some_iff.1 hx).1
      simp only [List.length_append, List.length_take] at hlt
      rw [if_pos (by omega)]
      rw [List.getElem?_append_right (by omega)] at hx
      rwa [htl] at hx
  have hR2d : RwB W2.drew b1 0 G (l.take i ++ u) := ⟨hR2.len, hR2.max, hR2.lt, hR2.cell, hR2.has, hR2.free, hR2.shape⟩
  obtain ⟨W3, hW3⟩ : ∃ W3, W3 = W2.drew.setCells b1 (0 + (i + m)) ((l.drop i).map val8) := ⟨_, rfl⟩
  have hR3 : Hid (RwB W3 b1 0 G (put l i u)) := by
    show RwB W3 b1 0 G (put l i u)
    rw [hW3]
    refine hR2d.write (i + m) (l.drop i) (by omega) (put l i u) (by omega) (fun t x hx => ?_)
    have hlt := (List.getElem?_eq_some_iff.1 hx).1
    unfold put at hx
    by_cases ht : t < i + m
    · rw [if_neg (by omega)]
      rwa [List.getElem?_append_left (by rw [List.length_append]; omega)] at hx
    · rw [if_pos (by omega)]
      rw [List.getElem?_append_right (by rw [List.length_append]; omega)] at hx
      rwa [List.length_append, htl, hu] at hx
  have hcpA : ∀ ty dc, (Builtin.copy_ #[43, 43] ty #[.slice (some ⟨b1, i, none⟩) (n + m - i) dc, .slice (some ⟨ub, 0, none⟩) m uc]).run Try.prog W1 = .ok (goInt (u.map val8).length) W2 := fun ty dc => by
    rw [hW2, Nat.zero_add]
    exact run_copy_cells W1 _ _ ty 5 b1 i (n + m - i) dc ⟨ub, 0, none⟩ m uc (u.map val8) Try.underlying43 szB (by rw [List.length_map, hu]; simp only [Nat.min_def]; split <;> omega)
      (fun j v hj => by
        rw [List.getElem?_map] at hj
        obtain ⟨x, hx, rfl⟩ := Option.map_eq_some_iff.1 hj
        rw [add_off, Nat.zero_add]
        exact hOl ub j _ huw (cell_of hub (hcs j x hx)))
      (fun j hj => by rw [List.length_map] at hj; have := hN.has (i + j) (by omega); rwa [Nat.zero_add] at this) (fun j hj => by rw [List.length_map] at hj; have := hN.free (i + j) (by omega); rwa [Nat.zero_add] at this) (one8 _)
  have hne : g ≠ b1 := by omega
  have hcpB : ∀ ty dc sc, (Builtin.copy_ #[43, 43] ty #[.slice (some ⟨b1, i + m, none⟩) (n + m - (i + m)) dc, .slice (some ⟨g, off + i, none⟩) (n - i) sc]).run Try.prog W2.drew = .ok (goInt ((l.drop i).map val8).length) W3 := fun ty dc sc => by
    rw [hW3, Nat.zero_add]
    exact run_copy_cells W2.drew _ _ ty 5 b1 (i + m) (n + m - (i + m)) dc ⟨g, off + i, none⟩ (n - i) sc ((l.drop i).map val8) Try.underlying43 szB (by rw [List.length_map, hdl]; simp only [Nat.min_def]; split <;> omega)
      (fun j v hj => by
        rw [List.getElem?_map, List.getElem?_drop] at hj
        obtain ⟨x, hx, rfl⟩ := Option.map_eq_some_iff.1 hj
        rw [add_off, Nat.add_assoc]
        show W2.cell? ⟨g, off + (i + j), none⟩ = _
        rw [hW2, World.cell?_setCells_out b1 _ _ _ _ (fun h _ => absurd h hne)]
        exact hOl g _ _ hgw (hR.cell _ x hx))
      (fun j hj => by rw [List.length_map] at hj; have := hR2d.has (i + m + j) (by omega); rwa [Nat.zero_add] at this) (fun j hj => by rw [List.length_map] at hj; have := hR2d.free (i + m + j) (by omega); rwa [Nat.zero_add] at this) (one8 _)
  have hbb : base ≤ b1 := by omega
  have hB : Hid (w.grownBy W3 (some g)) := by
    show w.grownBy W3 (some g)
    rw [hW3, hW2, hW1]
    refine gr_below ?_
    exact sc_below b1 (Nat.le_of_eq hb1.symm) _ _ _ ((sc_below b1 (Nat.le_of_eq hb1.symm) _ _ _ (((Below.refl _ _).drew).alloc (Nat.le_refl _) _)).drew)
  have hw1 : IntKind.i64.wrap ((i : Int) + (m : Int)) = (i : Int) + (m : Int) := by rw [IntKind.wrap_i64]; omega
  have hw2 : IntKind.i64.wrap ((n : Int) + (m : Int)) = (n : Int) + (m : Int) := by rw [IntKind.wrap_i64]; omega
  have hw3 : IntKind.i64.wrap ((n : Int) + (m : Int) - (i : Int)) = (n : Int) + (m : Int) - (i : Int) := by rw [IntKind.wrap_i64]; omega
  have hbp : (0 : Int) ≤ (i : Int) + (m : Int) := by omega
  have hin : i ≤ n := by omega
  have htn : ((i : Int) + (m : Int)).toNat = i + m := by omega
  have hic : i ≤ cap := by omega
  have hb3 : (i : Int) ≤ (n : Int) + (m : Int) := by omega
  have hb4 : ¬ (cap = i) := by omega
  have hb5 : ¬ (G = i) := by omega
  have hb6 : ¬ (G = i + m) := by omega
  have hz3 : (cap : Int) < (n : Int) + (m : Int) := by omega
  have hinm : i ≤ n + m := by omega
  have himn : i + m ≤ n + m := by omega
  have hPL := Lib.hid hpl
  have HGN := Lib.hid hGn
  clear hW1 hW2 hW3 hR2 hR2d hR hdl hub hcs hu hn hpl hG hROW hRs hN hOl hold hkk htl hb1 hi9 hz0 hzs hzb
  go_enter Try.func24, Try.ntmps24
  go_wp2_with (first
    | (at_builtin; refine Lib.wpList_append_run _ rfl _ _ _ _ rfl _ _ rfl rfl _ _ (hrz _) ?_)
    | (at_builtin; refine wpList_copy_known _ rfl _ _ 43 43 rfl rfl rfl (hcpA _ _) ?_))
  go_region_law (refine step_copy_known rfl _ _ 43 43 rfl (by simp [Act.eval, Act.put]; rfl) (by simp [Act.eval, Act.put]; rfl) (hcpB _ _ _) ?_)
  go_wp2
  go_ret
  exact ⟨_, rfl, Sl.of hbb hR3.out hPL.out, hB.out⟩
/-- On every road. -/
theorem finsert (v : Value) (n i : Nat) (hn : l.length = n) (h : SlB w base v l) (hi : i ≤ n) (hne : v.ownBlock ≠ some ub) (hu : u.length = m) (hub : 0 < m → w.heap[ub]? = some (.cells cs 5)) (hcs : ∀ (i : Nat) (x : UInt8), u[i]? = some x → cs[i]? = some (val8 x)) (hz : n + m ≤ 1000000) (hb : base ≤ w.heap.size) :
    Calls Try.prog 24 #[v, .int .i64 (i : Int), .slice (some ⟨ub, 0, none⟩) m uc] w (Ins w base v (put l i u)) := by
  by_cases hm : m = 0
  · subst hm
    have hu0 : u = [] := List.eq_nil_of_length_eq_zero hu
    refine (fins_none w ub uc v n i ?_ hi).mono ?_
    · rcases h with ⟨rfl, rfl⟩ | ⟨g, off, cap, rfl, _, hR⟩
      · exact Or.inl ⟨rfl, by simpa using hn.symm⟩
      · subst hn; exact Or.inr ⟨g, off, cap, rfl, hR.len⟩
    · rintro e w' ⟨rfl, rfl⟩
      refine ⟨v, rfl, ?_, gr_refl _ _⟩
      rw [hu0]; unfold put
      rw [List.append_nil, List.take_append_drop]; exact h
  · have hm' : 0 < m := by omega
    by_cases hin : i = n
    · subst hin
      exact fins_end w base l u ub m uc cs v i hn h hm' hu (hub hm') hcs hz hb
    · rcases h with ⟨rfl, rfl⟩ | ⟨g, off, cap, rfl, hbg, hR⟩
      · simp at hn; omega
      · rw [hn]
        by_cases hroom : n + m ≤ cap
        · exact fins_shift w base l u ub m uc cs g off cap n i hn hR hbg (by omega) hroom (fun e => hne (by rw [e]; rfl)) hm' hu (hub hm') hcs hz
        · exact fins_new w base l u ub m uc cs g off cap n i hn hR (by omega) (by omega) hm' hu (hub hm') hcs hz hb
end
end Go.Proofs.Ytllojgmlngfibaa.Ln

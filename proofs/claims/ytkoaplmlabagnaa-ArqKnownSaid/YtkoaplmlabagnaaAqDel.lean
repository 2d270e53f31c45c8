/-
  What the library's Delete leaves of a slice of strings that the call made itself: those ahead and behind. Conditions: the places lie within.
-/
import Derived.Test.YtkoaplmlabagnaaLnMem
import Derived.Test.YtkoaplmlabagnaaAqMem
import Derived.Deep.RegionLaw
import Derived.Lib.SliceRun
import Derived.Lib.Hide
namespace Go.Proofs.Ytkoaplmlabagnaa.Aq
open Go.RowKit Go.Proofs.Ytkoaplmlabagnaa.Base Go.Proofs.Ytkoaplmlabagnaa.Mem Go.Proofs.Ytkoaplmlabagnaa.Ln
abbrev RwQ (E : TypeId) := Rw E Value.string
theorem oneQ (l : List ByteArray) : ∀ v ∈ l.map Value.string, v.oneCell' = true := fun v hv => by
  obtain ⟨x, _, rfl⟩ := List.mem_map.1 hv; rfl
theorem Rz.toRw {w : World} {g off cap : Nat} {l : List ByteArray} (h : Rz 1 fcS w g off cap l) (hc : 0 < cap) : ∃ E, RwQ E w g off cap l := by
  have h0 := h.has 0 (by omega)
  unfold World.cell? at h0
  cases hr : w.heap[g]? with
  | none => simp [hr] at h0
  | some o =>
    cases o with
    | cells c t f =>
      refine ⟨t, h.len, h.max, h.lt, fun i x hi => ?_, fun i hi => ?_, fun i hi => ?_, ⟨c.size, ?_⟩⟩
      · have := h.cell i x hi 0 (by decide)
        rw [show off + (1 * i + 0) = off + i by omega] at this
        exact this
      · exact h.has i (by omega)
      · exact h.free i (by omega)
      · unfold World.shape?
        rw [hr]
    | _ => simp [hr] at h0
theorem Rw.toRz {E : TypeId} {w : World} {g off cap : Nat} {l : List ByteArray} (h : RwQ E w g off cap l) : Rz 1 fcS w g off cap l :=
  ⟨h.len, h.max, h.lt, fun i x hi j hj => by
    obtain rfl : j = 0 := by omega
    rw [show off + (1 * i + 0) = off + i by omega]
    exact h.cell i x hi, fun i hi => h.has i (by omega), fun i hi => h.free i (by omega)⟩
theorem cut_get (l : List ByteArray) (i j t : Nat) (hi : i ≤ l.length) : (l.take i ++ l.drop j)[t]? = if t < i then l[t]? else l[t + j - i]? := by
  have hl : (l.take i).length = i := by rw [List.length_take]; omega
  by_cases h : t < i
  · rw [if_pos h, List.getElem?_append_left (by omega), List.getElem?_take, if_pos h]
  · rw [if_neg h, List.getElem?_append_right (by omega), hl, List.getElem?_drop]
    congr 1; omega
set_option maxHeartbeats 4000000 in
set_option maxRecDepth 100000 in
theorem fdelete {E : TypeId} (w : World) (g off cap n i j : Nat) (l : List ByteArray) (hn : l.length = n) (h : RwQ E w g off cap l) (hij : i ≤ j) (hj : j ≤ n) :
    Calls Try.prog 59 #[.slice (some ⟨g, off, none⟩) n cap, .int .i64 (i : Int), .int .i64 (j : Int)] w fun e w' =>
      e = .returned (.slice (some ⟨g, off, none⟩) (n - (j - i)) cap) ∧ RwQ E w' g off cap (l.take i ++ l.drop j) ∧ w.grownBy w' (some g) := by
  have hlen := h.len
  have hmax := h.max
  have hnc : n ≤ cap := by omega
  by_cases heq : i = j
  · subst heq
    have h0 : Calls Try.prog 59 #[.slice (some ⟨g, off, none⟩) n cap, .int .i64 (i : Int), .int .i64 (i : Int)] w fun e w' => e = .returned (.slice (some ⟨g, off, none⟩) n cap) ∧ w' = w := by
      clear h hlen
      go_enter Try.func59, Try.ntmps59
      go_wp2
      all_goals (go_ret; exact ⟨rfl, rfl⟩)
    refine h0.mono ?_
    rintro e w' ⟨rfl, rfl⟩
    refine ⟨by rw [Nat.sub_self, Nat.sub_zero], ?_, gr_refl _ _⟩
    rw [List.take_append_drop]; exact h
  · have hlt : i < j := by omega
    have HH := Lib.hid h
    obtain ⟨i0, hi0, _, hz1, _⟩ := info_parts infoS
    obtain ⟨k, hk⟩ : ∃ k, k = n - j := ⟨_, rfl⟩
    obtain ⟨news, hnews⟩ : ∃ news, news = (l.drop j).map Value.string := ⟨_, rfl⟩
    have hlen2 : news.length = k := by rw [hnews, List.length_map, List.length_drop, hn, hk]
    obtain ⟨A, hA, hsrc⟩ : ∃ A : Addr, (if cap = j then some (⟨g, off, none⟩ : Addr) else some ⟨g, off + j, none⟩) = some A ∧ Hid (∀ t u, news[t]? = some u → w.drew.cell? (A.add t) = some u) := by
      by_cases hc : cap = j
      · refine ⟨⟨g, off, none⟩, by simp [hc], fun t u hu => ?_⟩
        have h0 : news.length = 0 := by rw [hlen2]; omega
        rw [List.length_eq_zero_iff.1 h0] at hu
        simp at hu
      · refine ⟨⟨g, off + j, none⟩, by simp [hc], fun t u hu => ?_⟩
        rw [hnews, List.getElem?_map, List.getElem?_drop] at hu
        obtain ⟨x, hx, rfl⟩ := Option.map_eq_some_iff.1 hu
        rw [add_off, Nat.add_assoc]
        exact HH.out.cell _ x hx
    have s1 : Hid (news.length = k * 1) := by rw [Nat.mul_one]; exact hlen2
    have s2 : Hid (∀ u ∈ news, u.oneCell' = true) := by rw [hnews]; exact oneQ _
    have s3 : Hid (∀ t, t < news.length → (w.drew.cell? ⟨g, off + i * 1 + t, none⟩).isSome = true ∧ w.drew.frozen? ⟨g, off + i * 1 + t, none⟩ = false) := by
      intro t ht
      rw [hlen2] at ht
      rw [Nat.mul_one, Nat.add_assoc]
      exact ⟨HH.out.has _ (by omega), HH.out.free _ (by omega)⟩
    obtain ⟨W1, hW1⟩ : ∃ W1, W1 = w.drew.setCells g (off + i * 1) news := ⟨_, rfl⟩
    have hd : RwQ E w.drew g off cap l := ⟨HH.out.len, HH.out.max, HH.out.lt, HH.out.cell, HH.out.has, HH.out.free, HH.out.shape⟩
    have hR1 : RwQ E W1 g off cap (l.take i ++ l.drop j) := by
      rw [hW1, hnews, Nat.mul_one]
      refine hd.write i (l.drop j) (by rw [List.length_drop]; omega) _ (by rw [List.length_append, List.length_take, List.length_drop]; omega) (fun t x hx => ?_)
      rw [cut_get l i j t (by omega)] at hx
      rw [List.length_drop, hn]
      by_cases ht : t < i
      · rw [if_pos ht] at hx
        rw [if_neg (by omega)]; exact hx
      · rw [if_neg ht] at hx
        have := (List.getElem?_eq_some_iff.1 hx).1
        rw [if_pos (by omega), List.getElem?_drop]
        rw [show j + (t - i) = t + j - i by omega]; exact hx
    obtain ⟨m, hm⟩ : ∃ m, m = i + k := ⟨_, rfl⟩
    have hmn : m < n := by omega
    have hml : (l.take i ++ l.drop j).length = m := by rw [List.length_append, List.length_take, List.length_drop]; omega
    obtain ⟨W2, hW2⟩ : ∃ W2, W2 = W1.setCells g (off + m) (List.replicate (n - m) (.string ⟨#[]⟩)) := ⟨_, rfl⟩
    have hcl : ∀ ty, (Builtin.clear_ #[63] ty #[.slice (some ⟨g, off + m, none⟩) (n - m) (cap - m)]).run Try.prog W1 = .ok (.tuple #[]) W2 := fun ty => by
      rw [hW2]
      exact Lib.run_clear_slice W1 _ _ ty _ Try.underlying63 Try.zeroValue9 rfl rfl g (off + m) _ _ (by omega) (fun t ht => by rw [Nat.add_assoc]; exact hR1.has _ (by omega)) (fun t ht => by rw [Nat.add_assoc]; exact hR1.free _ (by omega))
    have hR2 : Hid (RwQ E W2 g off cap (l.take i ++ l.drop j)) := by
      rw [hW2, show List.replicate (n - m) (Value.string ⟨#[]⟩) = (List.replicate (n - m) (⟨#[]⟩ : ByteArray)).map Value.string by rw [List.map_replicate]]
      refine hR1.write m (List.replicate (n - m) ⟨#[]⟩) (by rw [List.length_replicate]; omega) _ hR1.len (fun t x hx => ?_)
      have := (List.getElem?_eq_some_iff.1 hx).1
      rw [if_neg (by omega)]; exact hx
    have hB : Hid (w.grownBy W2 (some g)) := by
      show w.grownBy W2 (some g)
      rw [hW2, hW1]
      exact gr_drew (gr_then (grown_sc _ g _ _) (grown_sc _ g _ _))
    have hW : Hid (W1 = w.drew.setCells g (off + i * 1) news) := hW1
    have hic : i ≤ cap := by omega
    have hjc : j ≤ cap := by omega
    have hin : i ≤ n := by omega
    have hcm : ¬ cap = m := by omega
    have HM := Lib.hid hm
    have hnj : n - j = k := hk.symm
    have hik : i + k = m := hm.symm
    have hmc : m ≤ cap := by omega
    have hfin : Hid (n - (j - i) = m) := by show _ = _; omega
    clear hW1 hW2 hR1 h HH hd hnews hlen2 hm hk hml hn hlen
    go_enter Try.func59, Try.ntmps59
    go_wp2_with fail
    go_region_law (refine step_append_room rfl (.tmp 22) (.tmp 25) 63 rfl 9 i0 1 Try.underlying63 hi0 hz1 g off i cap (by simp [Act.eval, Act.put]) A k (cap - j) news (by simp [Act.eval, Act.put, *]) s1.out hsrc.out s2.out (by omega) s3.out ?_; rw [← hW.out])
    go_wp2
    go_ret
    exact ⟨by rw [hfin.out]; rfl, hR2.out, hB.out⟩
theorem fdelQ (w : World) (g off cap n k : Nat) (l : List ByteArray) (hn : l.length = n) (h : Rz 1 fcS w g off cap l) (h0 : 0 < k) (hk : k ≤ n) :
    Calls Try.prog 59 #[.slice (some ⟨g, off, none⟩) n cap, .int .i64 0, .int .i64 (k : Int)] w fun e w' =>
      e = .returned (.slice (some ⟨g, off, none⟩) (n - k) cap) ∧ Rz 1 fcS w' g off cap (l.drop k) ∧ w.grownBy w' (some g) := by
  have hlen := h.len
  obtain ⟨E, hE⟩ := Rz.toRw h (by omega)
  exact (fdelete (E := E) w g off cap n 0 k l hn hE (by omega) hk).mono fun e w' ⟨h1, h2, h3⟩ => ⟨h1, Rw.toRz h2, h3⟩
end Go.Proofs.Ytkoaplmlabagnaa.Aq

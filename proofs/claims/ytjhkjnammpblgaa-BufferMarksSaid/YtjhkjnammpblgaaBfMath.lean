/-
  The plain mathematics of layer 19: a ring of bytes, the first part of an array, its places, what writing into it leaves. No condition.
-/
import Derived.Test.YtjhkjnammpblgaaCrMath
import Derived.Laws.IdiomCopy
namespace Go.Proofs.Ytjhkjnammpblgaa.Bf
open Go.RowKit Go.Proofs.Ytjhkjnammpblgaa.Base Go.Proofs.Ytjhkjnammpblgaa.Mem Go.Proofs.Ytjhkjnammpblgaa.Cr
def val8 (c : UInt8) : Value := .int .u8 (c.toNat : Int)
/-- A place behind the ring's last one is one of its first ones. -/
def pl (r k : Nat) : Nat := if k < r then k else k - r
theorem pl_lt {r k : Nat} (h : k < 2 * r) : pl r k < r := by unfold pl; split <;> omega
theorem pl_low {r k : Nat} (h : k < r) : pl r k = k := if_pos h
theorem pl_high {r k : Nat} (h : ¬ k < r) : pl r k = k - r := if_neg h
theorem pl_or (r k : Nat) : (k < r ∧ pl r k = k) ∨ (¬ k < r ∧ pl r k = k - r) := by
  by_cases h : k < r
  · exact .inl ⟨h, if_pos h⟩
  · exact .inr ⟨h, if_neg h⟩
/-- A row of values is written over an array, from a place on. -/
def ovr (cs : Array Value) : Nat → List Value → Array Value
  | _, [] => cs
  | o, v :: l => ovr (cs.setIfInBounds o v) (o + 1) l
theorem ovr_size : ∀ (l : List Value) (cs : Array Value) (o : Nat), (ovr cs o l).size = cs.size
  | [], _, _ => rfl
  | v :: l, cs, o => by rw [ovr, ovr_size l]; simp
theorem ovr_out : ∀ (l : List Value) (cs : Array Value) (o j : Nat), (j < o ∨ o + l.length ≤ j) → (ovr cs o l)[j]? = cs[j]?
  | [], _, _, _, _ => rfl
  | v :: l, cs, o, j, h => by
    rw [List.length_cons] at h
    rw [ovr, ovr_out l _ _ _ (by omega), Array.getElem?_setIfInBounds, if_neg (by omega)]
theorem ovr_in : ∀ (l : List Value) (cs : Array Value) (o j : Nat), o + l.length ≤ cs.size → o ≤ j → j < o + l.length → (ovr cs o l)[j]? = l[j - o]?
  | [], _, _, _, _, _, h => by simp at h; omega
  | v :: l, cs, o, j, hs, h0, h1 => by
    rw [List.length_cons] at hs h1
    rw [ovr]
    by_cases e : j = o
    · subst e
      rw [ovr_out l _ _ _ (.inl (by omega)), Array.getElem?_setIfInBounds, if_pos rfl, if_pos (by omega), Nat.sub_self, List.getElem?_cons_zero]
    · rw [ovr_in l _ _ _ (by simp; omega) (by omega) (by omega), show j - o = (j - (o + 1)) + 1 by omega, List.getElem?_cons_succ]
theorem at_sets {b : Nat} {t : TypeId} : ∀ (l : List Value) (o : Nat) (w : World) (cs : Array Value), At w b cs t → At (w.setCells b o l) b (ovr cs o l) t
  | [], _, _, _, h => h
  | v :: l, o, _, _, h => at_sets l (o + 1) _ _ (h.set o v)
theorem chg_sets {S : Nat → Prop} {b : Nat} (hb : S b) {a : World} : ∀ (l : List Value) (o : Nat) (w : World), Chg S a w → Chg S a (w.setCells b o l)
  | [], _, _, h => h
  | v :: l, o, _, h => chg_sets hb l (o + 1) _ (h.setCell b o v fun _ => hb)
/-- The ring holds these bytes, from the place f on. -/
structure Rg (r f : Nat) (t : ByteArray) (cs : Array Value) : Prop where
  size : r ≤ cs.size
  lt : f < r
  few : t.size ≤ r
  max : r ≤ 4096
  at_ : ∀ i x, t.data.toList[i]? = some x → cs[pl r (f + i)]? = some (val8 x)
theorem tl_lt {t : ByteArray} {i : Nat} {x : UInt8} (h : t.data.toList[i]? = some x) : i < t.size := (List.getElem?_eq_some_iff.1 h).1
/-- The first m bytes. -/
abbrev fst_ (s : ByteArray) (m : Nat) : ByteArray := s.extract 0 m
abbrev rst_ (s : ByteArray) (m : Nat) : ByteArray := s.extract m s.size
abbrev vals (s : ByteArray) : List Value := s.data.toList.map val8
theorem vals_len (s : ByteArray) : (vals s).length = s.size := by rw [List.length_map]; rfl
theorem fst_tl (s : ByteArray) (m : Nat) : (fst_ s m).data.toList = s.data.toList.take m := by rw [ext_list, List.drop_zero]
theorem rst_tl (s : ByteArray) (m : Nat) : (rst_ s m).data.toList = s.data.toList.drop m := ext_drop s m
theorem fst_size (s : ByteArray) {m : Nat} (h : m ≤ s.size) : (fst_ s m).size = m := by simp; omega
theorem app_size (a b : ByteArray) : (a ++ b).size = a.size + b.size := ByteArray.size_append
theorem fst_all (s : ByteArray) {m : Nat} (h : s.size ≤ m) : fst_ s m = s := bext (by rw [fst_tl, List.take_of_length_le (by rw [size_toList]; exact h)])
theorem fst_rst (s : ByteArray) (m : Nat) : fst_ s m ++ rst_ s m = s := bext (by rw [app_list, fst_tl, rst_tl, List.take_append_drop])
theorem rst_all (s : ByteArray) {m : Nat} (h : s.size ≤ m) : rst_ s m = ⟨#[]⟩ := bext (by rw [rst_tl, List.drop_eq_nil_of_le (by rw [size_toList]; exact h)])
theorem app_nil (a : ByteArray) : a ++ (⟨#[]⟩ : ByteArray) = a := bext (by rw [app_list]; simp)
/-- Bytes are put behind the others, in one part or in two. -/
theorem Rg.put {r f : Nat} {t : ByteArray} {cs : Array Value} (h : Rg r f t cs) (s : ByteArray) (hs : t.size + s.size ≤ r) (n1 : Nat) (hn : n1 = min s.size (r - pl r (f + t.size))) :
    Rg r f (t ++ s) (ovr (ovr cs (pl r (f + t.size)) ((vals s).take n1)) 0 ((vals s).drop n1)) := by
  have hr := h.lt
  by_cases h0 : s.size = 0
  · have e : vals s = [] := List.eq_nil_of_length_eq_zero (by rw [vals_len]; exact h0)
    have e2 : t ++ s = t := by
      have := nil_of_size h0
      subst this
      exact app_nil t
    rw [e, e2]
    simpa [ovr] using h
  have hp : pl r (f + t.size) < r := pl_lt (by have := h.few; omega)
  have L1 : ((vals s).take n1).length = n1 := by rw [List.length_take, vals_len]; omega
  have L2 : ((vals s).drop n1).length = s.size - n1 := by rw [List.length_drop, vals_len]
  refine ⟨by rw [ovr_size, ovr_size]; exact h.size, h.lt, by rw [app_size]; exact hs, h.max, fun i x hx => ?_⟩
  have hi := tl_lt hx
  rw [app_size] at hi
  rw [app_list] at hx
  by_cases hit : i < t.size
  · rw [List.getElem?_append_left (by rw [size_toList]; exact hit)] at hx
    have ho := h.at_ i x hx
    rw [ovr_out _ _ _ _ (by rw [L2]; rcases pl_or r (f + t.size) with ⟨a1, a2⟩ | ⟨a1, a2⟩ <;> rcases pl_or r (f + i) with ⟨b1, b2⟩ | ⟨b1, b2⟩ <;> omega), ovr_out _ _ _ _ (by rw [L1]; rcases pl_or r (f + t.size) with ⟨a1, a2⟩ | ⟨a1, a2⟩ <;> rcases pl_or r (f + i) with ⟨b1, b2⟩ | ⟨b1, b2⟩ <;> omega)]
    exact ho
  · rw [List.getElem?_append_right (by rw [size_toList]; omega), size_toList] at hx
    have hv : (vals s)[i - t.size]? = some (val8 x) := by rw [List.getElem?_map, hx]; rfl
    by_cases hin : i - t.size < n1
    · have e : pl r (f + i) = pl r (f + t.size) + (i - t.size) := by rcases pl_or r (f + t.size) with ⟨a1, a2⟩ | ⟨a1, a2⟩ <;> rcases pl_or r (f + i) with ⟨b1, b2⟩ | ⟨b1, b2⟩ <;> omega
      rw [ovr_out _ _ _ _ (by rw [L2]; rcases pl_or r (f + t.size) with ⟨a1, a2⟩ | ⟨a1, a2⟩ <;> rcases pl_or r (f + i) with ⟨b1, b2⟩ | ⟨b1, b2⟩ <;> omega), ovr_in _ _ _ _ (by rw [L1]; have := h.size; omega) (by omega) (by rw [L1]; omega), List.getElem?_take, if_pos (by omega), ← hv]
      congr 1; omega
    · have e : pl r (f + i) = i - t.size - n1 := by rcases pl_or r (f + t.size) with ⟨a1, a2⟩ | ⟨a1, a2⟩ <;> rcases pl_or r (f + i) with ⟨b1, b2⟩ | ⟨b1, b2⟩ <;> omega
      rw [ovr_in _ _ _ _ (by rw [L2, ovr_size]; have := h.size; omega) (by omega) (by rw [L2]; omega), List.getElem?_drop, ← hv]
      congr 1; omega
/-- The first n bytes are gone. -/
theorem Rg.drop {r f : Nat} {t : ByteArray} {cs : Array Value} (h : Rg r f t cs) (n : Nat) (hn : n ≤ t.size) : Rg r (pl r (f + n)) (rst_ t n) cs := by
  have hr := h.lt
  have hf := h.few
  refine ⟨h.size, pl_lt (by omega), by rw [ext_size]; omega, h.max, fun i x hx => ?_⟩
  have hi := tl_lt hx
  rw [ext_size] at hi
  rw [rst_tl, List.getElem?_drop] at hx
  have := h.at_ _ x hx
  have e : pl r (pl r (f + n) + i) = pl r (f + (n + i)) := by rcases pl_or r (f + n) with ⟨a1, a2⟩ | ⟨a1, a2⟩ <;> rcases pl_or r (pl r (f + n) + i) with ⟨b1, b2⟩ | ⟨b1, b2⟩ <;> rcases pl_or r (f + (n + i)) with ⟨c1, c2⟩ | ⟨c1, c2⟩ <;> omega
  rw [e]
  exact this
/-- Where the bytes stand. -/
theorem Rg.low {r f : Nat} {t : ByteArray} {cs : Array Value} (h : Rg r f t cs) (k : Nat) (hf : f + k ≤ r) (j : Nat) (u : Value) (hu : (vals (fst_ t k))[j]? = some u) : cs[f + j]? = some u := by
  rw [List.getElem?_map, fst_tl, List.getElem?_take] at hu
  split at hu
  · next hj =>
    obtain ⟨x, hx, rfl⟩ := Option.map_eq_some_iff.1 hu
    have := h.at_ j x hx
    rwa [pl_low (by omega)] at this
  · cases hu
theorem Rg.high {r f : Nat} {t : ByteArray} {cs : Array Value} (h : Rg r f t cs) (n k : Nat) (hk : k ≤ n) (hn : n ≤ t.size) (hf : n = k ∨ f + k = r) (j : Nat) (u : Value) (hu : (vals (rst_ (fst_ t n) k))[j]? = some u) : cs[j]? = some u := by
  have hr := h.few
  have hl := h.lt
  have hj : j < n - k := by
    have := (List.getElem?_eq_some_iff.1 hu).1
    rw [vals_len, ext_size, fst_size t hn] at this
    exact this
  rw [List.getElem?_map, rst_tl, fst_tl, List.getElem?_drop, List.getElem?_take] at hu
  split at hu
  · obtain ⟨x, hx, rfl⟩ := Option.map_eq_some_iff.1 hu
    have := h.at_ _ x hx
    have e : pl r (f + (k + j)) = j := by unfold pl; split <;> omega
    rwa [e] at this
  · cases hu
theorem rg_new (r : Nat) (h0 : 0 < r) (h1 : r ≤ 4096) (cs : Array Value) (hc : r ≤ cs.size) : Rg r 0 ⟨#[]⟩ cs :=
  ⟨hc, h0, Nat.zero_le _, h1, fun i x hx => by simp at hx⟩
/-- How many of the bytes a number asks for. -/
def cut (n : Int) (c : Nat) : Nat := (min (max n 0) (c : Int)).toNat
theorem cut_le (n : Int) (c : Nat) : cut n c ≤ c := by unfold cut; omega
theorem cut_int (n : Int) (c : Nat) : min (max n 0) (c : Int) = (cut n c : Int) := by unfold cut; omega
end Go.Proofs.Ytjhkjnammpblgaa.Bf

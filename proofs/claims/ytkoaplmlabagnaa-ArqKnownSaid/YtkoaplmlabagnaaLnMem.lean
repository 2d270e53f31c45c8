/-
  A slice of one-cell values that the call made itself, with its spare room: what it holds, what a write into it leaves. No condition.
-/
import Derived.Test.YtkoaplmlabagnaaMem
import Derived.Test.YtkoaplmlabagnaaLnMath
import Derived.Test.YtkoaplmlabagnaaOwnS
import Derived.Laws.IdiomCopy
import Derived.Laws.AppendOwn
import Derived.Lib.ConvBytes
import Derived.Below
namespace Go.Proofs.Ytkoaplmlabagnaa.Ln
open Go.RowKit Go.Proofs.Ytkoaplmlabagnaa.Base Go.Proofs.Ytkoaplmlabagnaa.Mem
def val8 (c : UInt8) : Value := .int .u8 (c.toNat : Int)
def valS (p : List UInt8) : Value := .string ⟨p.toArray⟩
section
variable {α : Type} {enc : α → Value} {E : TypeId}
theorem sc_size (b : Nat) : ∀ (vs : List Value) (o : Nat) (w : World), (w.setCells b o vs).heap.size = w.heap.size
  | [], _, _ => rfl
  | v :: r, o, w => by rw [World.setCells, sc_size b r]; simp [World.setCell]
theorem shape_setCell (w : World) (a : Addr) (v : Value) (r : Nat) : (w.setCell a v).shape? r = w.shape? r := by
  by_cases e : r = a.block
  · subst e
    unfold World.shape? World.setCell
    simp only [Array.getElem?_modify, if_true]
    cases hr : w.heap[a.block]? with
    | none => rfl
    | some o =>
      cases o with
      | cells c t f =>
        show some (t, (if a.spot.isSome = true then c else c.setIfInBounds a.off v).size) = some (t, c.size)
        split <;> simp
      | _ => rfl
  · unfold World.shape?
    rw [Below.heap_setCell w a v r e]
theorem sc_shape (b : Nat) : ∀ (vs : List Value) (o : Nat) (w : World) (r : Nat), (w.setCells b o vs).shape? r = w.shape? r
  | [], _, _, _ => rfl
  | v :: r', o, w, r => by rw [World.setCells, sc_shape b r', shape_setCell]
theorem sc_below {B : Nat} {a : World} (b : Nat) (hb : B ≤ b) : ∀ (vs : List Value) (o : Nat) (w : World), Below B a w → Below B a (w.setCells b o vs)
  | [], _, _, h => h
  | v :: r, o, _, h => sc_below b hb r (o + 1) _ (h.setCell (p := ⟨b, o, none⟩) hb v)
theorem sc_some (b : Nat) (vs : List Value) (o : Nat) (w : World) (h : ∀ j, j < vs.length → (w.cell? ⟨b, o + j, none⟩).isSome = true) (k : Nat) (hk : (w.cell? ⟨b, k, none⟩).isSome = true) : ((w.setCells b o vs).cell? ⟨b, k, none⟩).isSome = true := by
  by_cases hin : o ≤ k ∧ k < o + vs.length
  · have := World.cell?_setCells_in b vs o w h (k - o) (by omega)
    rw [show o + (k - o) = k by omega] at this
    rw [this]; rfl
  · rw [World.cell?_setCells_out b vs o w ⟨b, k, none⟩ (fun _ _ => by show k < o ∨ o + vs.length ≤ k; omega)]
    exact hk
theorem grown_sc (w : World) (g o : Nat) (vs : List Value) : w.grownBy (w.setCells g o vs) (some g) := by
  have hb : ∀ (vs : List Value) (o : Nat) (w : World) (k : Nat), k ≠ g → (w.setCells g o vs).heap[k]? = w.heap[k]? := by
    intro vs
    induction vs with
    | nil => intro o w k _; rfl
    | cons v r ih => intro o w k hk; rw [World.setCells, ih _ _ _ hk]; exact Below.heap_setCell w _ _ _ hk
  have hs : ∀ (vs : List Value) (o : Nat) (w : World), (w.setCells g o vs).os = w.os ∧ (w.setCells g o vs).tape = w.tape ∧ (w.setCells g o vs).output = w.output := by
    intro vs
    induction vs with
    | nil => intro o w; exact ⟨rfl, rfl, rfl⟩
    | cons v r ih => intro o w; exact ih _ _
  obtain ⟨h1, h2, h3⟩ := hs vs o w
  exact ⟨h1, h2, h3, by rw [sc_size]; exact Nat.le_refl _, fun k _ hk => hb vs o w k fun e => hk (by rw [e])⟩
theorem gr_refl (w : World) (r : Option Nat) : w.grownBy w r := ⟨rfl, rfl, rfl, Nat.le_refl _, fun _ _ _ => rfl⟩
theorem gr_drew {w w' : World} {r : Option Nat} (h : w.drew.grownBy w' r) : w.grownBy w' r := ⟨h.os, h.tape, h.output, h.size, h.block⟩
theorem gr_end {w w' : World} {r : Option Nat} (h : w.grownBy w' r) : w.grownBy w'.drew r := ⟨h.os, h.tape, h.output, h.size, h.block⟩
theorem gr_trans {a b c : World} {r r' : Option Nat} (h : a.grownBy b r) (h' : b.grownBy c r') (hr : ∀ k, r' = some k → k < a.heap.size → r = some k) : a.grownBy c r :=
  ⟨h'.os.trans h.os, h'.tape.trans h.tape, h'.output.trans h.output, Nat.le_trans h.size h'.size, fun k hk hn => (h'.block k (Nat.lt_of_lt_of_le hk h.size) fun e => hn (hr k e.symm hk).symm).trans (h.block k hk hn)⟩
theorem gr_then {a b c : World} {r : Option Nat} (h : a.grownBy b r) (h' : b.grownBy c r) : a.grownBy c r := gr_trans h h' fun _ e _ => e
theorem gr_below {w w' : World} {r : Option Nat} (h : Below w.heap.size w w') : w.grownBy w' r := ⟨h.os, h.tape, h.output, h.size, fun k hk _ => h.block k hk⟩
theorem gr_alloc {a b : World} {r : Option Nat} (h : a.grownBy b r) (o : Obj) : a.grownBy (b.alloc o) r := gr_then h (World.grownBy_alloc b o r)
/-- What lies in another block stays. -/
theorem gr_stays {w w' : World} {r : Option Nat} (h : w.grownBy w' r) {k : Nat} {o : Obj} (hk : w.heap[k]? = some o) (hn : some k ≠ r) : w'.heap[k]? = some o := (h.block k (lt_heap hk) hn).trans hk
/-- The row of cap places at off of the block g, of which the first ones hold l. -/
structure Rw (E : TypeId) (enc : α → Value) (w : World) (g off cap : Nat) (l : List α) : Prop where
  len : l.length ≤ cap
  max : cap ≤ 9223372036854775807
  lt : g < w.heap.size
  cell : ∀ i x, l[i]? = some x → w.cell? ⟨g, off + i, none⟩ = some (enc x)
  has : ∀ i, i < cap → (w.cell? ⟨g, off + i, none⟩).isSome = true
  free : ∀ i, i < cap → w.frozen? ⟨g, off + i, none⟩ = false
  shape : ∃ k, w.shape? g = some (E, k)
/-- Worlds that read alike. -/
theorem Rw.eqv {w w' : World} {g off cap : Nat} {l : List α} (h : Rw E enc w g off cap l) (hb : w'.heap[g]? = w.heap[g]?) : Rw E enc w' g off cap l := by
  have hc : ∀ i, w'.cell? ⟨g, i, none⟩ = w.cell? ⟨g, i, none⟩ := fun i => World.cell?_of_block (a := ⟨g, i, none⟩) hb
  have hf : ∀ i, w'.frozen? ⟨g, i, none⟩ = w.frozen? ⟨g, i, none⟩ := fun i => World.frozen?_of_block (a := ⟨g, i, none⟩) hb
  refine ⟨h.len, h.max, ?_, fun i x hi => (hc _).trans (h.cell i x hi), fun i hi => by rw [hc]; exact h.has i hi, fun i hi => (hf _).trans (h.free i hi), ?_⟩
  · have : w.heap[g]? = some (w.heap[g]'h.lt) := Array.getElem?_eq_getElem h.lt
    exact lt_heap (hb.trans this)
  · obtain ⟨k, hk⟩ := h.shape
    refine ⟨k, ?_⟩
    rw [← hk]
    unfold World.shape?
    rw [hb]
theorem Rw.below {w w' : World} {g off cap : Nat} {l : List α} (h : Rw E enc w g off cap l) (hb : Below w.heap.size w w') : Rw E enc w' g off cap l := h.eqv (hb.block g h.lt)
/-- Something is written into the row. -/
theorem Rw.write {w : World} {g off cap : Nat} {l : List α} (h : Rw E enc w g off cap l) (i : Nat) (vs : List α) (hi : i + vs.length ≤ cap) (l' : List α) (hl : l'.length ≤ cap)
    (hg : ∀ j x, l'[j]? = some x → (if i ≤ j ∧ j < i + vs.length then vs[j - i]? else l[j]?) = some x) : Rw E enc (w.setCells g (off + i) (vs.map enc)) g off cap l' := by
  have hs : ∀ j, j < (vs.map enc).length → (w.cell? ⟨g, off + i + j, none⟩).isSome = true := fun j hj => by
    rw [List.length_map] at hj
    rw [Nat.add_assoc]
    exact h.has _ (by omega)
  refine ⟨hl, h.max, by rw [sc_size]; exact h.lt, fun j x hj => ?_, fun j hj => sc_some g _ _ _ hs _ (h.has j hj), fun j hj => by rw [World.frozen?_setCells]; exact h.free j hj, by
    obtain ⟨k, hk⟩ := h.shape
    exact ⟨k, by rw [sc_shape]; exact hk⟩⟩
  have hx := hg j x hj
  by_cases hin : i ≤ j ∧ j < i + vs.length
  · rw [if_pos hin] at hx
    have hlt : j - i < (vs.map enc).length := by rw [List.length_map]; omega
    have := World.cell?_setCells_in g (vs.map enc) (off + i) w hs (j - i) hlt
    rw [show off + i + (j - i) = off + j by omega] at this
    rw [this, List.getElem_map]
    have : vs[j - i]'(by simpa using hlt) = x := by
      have h9 := List.getElem?_eq_getElem (l := vs) (i := j - i) (by simpa using hlt)
      rw [h9] at hx
      exact Option.some.inj hx
    rw [this]
  · rw [if_neg hin] at hx
    rw [World.cell?_setCells_out g _ _ w ⟨g, off + j, none⟩ (fun _ _ => by show off + j < off + i ∨ off + i + (vs.map enc).length ≤ off + j; rw [List.length_map]; omega)]
    exact h.cell j x hx
theorem Rw.set {w : World} {g off cap : Nat} {l : List α} (h : Rw E enc w g off cap l) (i : Nat) (x : α) (hi : i < l.length) : Rw E enc (w.setCell ⟨g, off + i, none⟩ (enc x)) g off cap (l.set i x) := by
  have := h.write i [x] (by have := h.len; simp; omega) (l.set i x) (by rw [List.length_set]; exact h.len) (fun j y hj => by
    by_cases e : j = i
    · subst e
      rw [if_pos (by simp)]
      rw [List.getElem?_set_self hi] at hj
      simpa using hj
    · rw [if_neg (by simp; omega)]
      rwa [List.getElem?_set_ne (fun q => e q.symm)] at hj)
  exact this
theorem Rw.drop {w : World} {g off cap : Nat} {l : List α} (h : Rw E enc w g off cap l) (k : Nat) (hk : k ≤ cap) : Rw E enc w g (off + k) (cap - k) (l.drop k) :=
  ⟨by rw [List.length_drop]; have := h.len; omega, by have := h.max; omega, h.lt, fun i x hi => by rw [List.getElem?_drop] at hi; rw [Nat.add_assoc]; exact h.cell _ x hi, fun i hi => by rw [Nat.add_assoc]; exact h.has _ (by omega), fun i hi => by rw [Nat.add_assoc]; exact h.free _ (by omega), h.shape⟩
theorem Rw.take {w : World} {g off cap : Nat} {l : List α} (h : Rw E enc w g off cap l) (k : Nat) : Rw E enc w g off cap (l.take k) where
  len := by rw [List.length_take]; have := h.len; omega
  max := h.max
  lt := h.lt
  cell := fun i x hi => by
    rw [List.getElem?_take] at hi
    split at hi
    · exact h.cell _ x hi
    · cases hi
  has := h.has
  free := h.free
  shape := h.shape
/-- A block that was just laid. -/
theorem rw_new (w : World) (cs : Array Value) (l : List α) (cap : Nat) (hc : cs.size = cap) (hm : cap ≤ 9223372036854775807) (hl : l.length ≤ cap) (hx : ∀ (i : Nat) (x : α), l[i]? = some x → cs[i]? = some (enc x)) : Rw E enc (w.alloc (.cells cs E)) w.heap.size 0 cap l := by
  have hb : (w.alloc (.cells cs E)).heap[w.heap.size]? = some (.cells cs E) := nest w [.cells cs E] 0 _ rfl
  refine ⟨hl, hm, by simp, fun i x hi => ?_, fun i hi => ?_, fun i _ => free_of hb, ⟨cs.size, ?_⟩⟩
  · rw [Nat.zero_add]; exact cell_of hb (hx i x hi)
  · rw [Nat.zero_add, cell_of hb (v := cs[i]'(by omega)) (Array.getElem?_eq_getElem _)]; rfl
  · unfold World.shape?; rw [hb]
/-- The slice v, in memory from block 'base' on, holds l. -/
def Sl (E : TypeId) (enc : α → Value) (w : World) (base : Nat) (v : Value) (l : List α) : Prop :=
  (v = .slice none 0 0 ∧ l = []) ∨ ∃ g off cap, v = .slice (some ⟨g, off, none⟩) l.length cap ∧ base ≤ g ∧ Rw E enc w g off cap l
theorem sl_nil (w : World) (base : Nat) : Sl E enc w base (.slice none 0 0) [] := Or.inl ⟨rfl, rfl⟩
theorem Sl.below {w w' : World} {base : Nat} {v : Value} {l : List α} (h : Sl E enc w base v l) (hb : Below w.heap.size w w') : Sl E enc w' base v l := by
  rcases h with h | ⟨g, off, cap, h1, h2, h3⟩
  · exact Or.inl h
  · exact Or.inr ⟨g, off, cap, h1, h2, h3.below hb⟩
theorem Sl.of {w : World} {base g off cap n : Nat} {l : List α} (hb : base ≤ g) (h : Rw E enc w g off cap l) (hn : l.length = n) : Sl E enc w base (.slice (some ⟨g, off, none⟩) n cap) l := by
  subst hn; exact Or.inr ⟨g, off, cap, rfl, hb, h⟩
end
theorem infoB : (Try.prog.info? 5).map (fun i => (i.zero, i.size, i.bytes)) = some (some (.int .u8 0), 1, 1) := by kernel_rfl
theorem infoS : (Try.prog.info? 9).map (fun i => (i.zero, i.size, i.bytes)) = some (some (.string ⟨#[]⟩), 1, 16) := by kernel_rfl
theorem one8 (l : List UInt8) : ∀ v ∈ l.map val8, v.oneCell' = true := fun v hv => by
  obtain ⟨x, _, rfl⟩ := List.mem_map.1 hv; rfl
theorem oneS (l : List (List UInt8)) : ∀ v ∈ l.map valS, v.oneCell' = true := fun v hv => by
  obtain ⟨x, _, rfl⟩ := List.mem_map.1 hv; rfl
abbrev SlB := Sl 5 val8
abbrev RwB := Rw 5 val8
abbrev SlS := Sl 9 valS
abbrev RwS := Rw 9 valS
theorem numsid (l : List UInt8) : strOfNums (l.map fun c => (c.toNat : Int)) = ⟨l.toArray⟩ := by
  unfold strOfNums
  rw [List.map_map]
  have hid : ((fun n : Int => UInt8.ofNat n.toNat) ∘ fun c : UInt8 => (c.toNat : Int)) = id := by
    funext c; simp
  rw [hid, List.map_id]
theorem map_getD {α β : Type} (f : α → β) (l : List α) (i : Nat) (d : α) (d' : β) (h : i < l.length) : (l.map f).getD i d' = f (l.getD i d) := by
  simp [List.getD, h]
/-- The slice becomes a string. -/
theorem SlB.conv {w : World} {base : Nat} {v : Value} {l : List UInt8} (h : SlB w base v l) :
    (convert 87 9 v).run Try.prog w = .ok (.string ⟨l.toArray⟩) w := by
  rcases h with ⟨rfl, rfl⟩ | ⟨g, off, cap, rfl, _, h⟩
  · kernel_rfl
  · have hc := run_convert_bytes_arg (P := Try.prog) w 87 5 Try.underlying87 Try.underlying5 g off l.length cap
      (l.map fun c => (c.toNat : Int)) (by simp) (fun i hi => by
        have hi' : i < l.length := by simpa using hi
        rw [map_getD (fun c : UInt8 => (c.toNat : Int)) _ i 0 0 hi', h.cell i (l.getD i 0) (by simp [List.getD, hi'])]; rfl) 9 Try.underlying9
    rw [hc, numsid]
/-- A string becomes a slice: its bytes, in new memory. -/
theorem bytes_sl (w : World) (l : List UInt8) (hl : l.length ≤ 1000000) : ∃ W1 v, (convert 9 87 (.string ⟨l.toArray⟩)).run Try.prog w = .ok v W1 ∧ SlB W1 w.heap.size v l ∧ Below w.heap.size w W1 := by
  have hsz : (⟨l.toArray⟩ : ByteArray).size = l.length := by show l.toArray.size = _; simp
  have hcs : (Lib.bytesCells w 5 ⟨l.toArray⟩).size = grownCap w l.length 0 5 := by
    have := grownCap_ge w l.length 0 5
    rw [Lib.bytesCells, Array.size_append, Array.size_map, hsz, Array.size_replicate]
    simp; omega
  have hnew := Lib.bytesWorld_at_new w 5 (⟨l.toArray⟩ : ByteArray)
  refine ⟨_, _, Lib.run_convert_string_bytes (P := Try.prog) w 9 87 5 ⟨l.toArray⟩ Try.underlying9 Try.underlying87 Try.underlying5, ?_,
    ⟨rfl, rfl, rfl, by rw [Lib.bytesWorld_size]; omega, fun k hk => Lib.bytesWorld_at_old w _ _ k hk⟩⟩
  rw [hsz]
  refine Sl.of (Nat.le_refl _) ⟨grownCap_ge w _ _ _, ?_, by rw [Lib.bytesWorld_size]; omega, fun i x hi => ?_, fun i hi => ?_, fun i hi => ?_, ?_⟩ rfl
  · have := grownCap_le_maxLen w l.length 0 5 (by unfold maxLen; omega)
    unfold maxLen at this; omega
  · have hi' : i < l.length := (List.getElem?_eq_some_iff.1 hi).1
    rw [Nat.zero_add, Lib.bytesWorld_cell w 5 ⟨l.toArray⟩ i (by rw [hsz]; exact hi')]
    have : l.getD i 0 = x := by simp [List.getD, hi]
    show some (Value.int .u8 (((l.toArray.toList.getD i 0).toNat : Nat) : Int)) = _
    rw [show l.toArray.toList = l from rfl, this]; rfl
  · rw [Nat.zero_add]
    unfold World.cell?
    rw [hnew]
    show ((Lib.bytesCells w 5 ⟨l.toArray⟩)[i]?).isSome = true
    rw [Array.getElem?_eq_getElem (by omega)]; rfl
  · unfold World.frozen?
    rw [hnew]
    simp; omega
  · refine ⟨(Lib.bytesCells w 5 ⟨l.toArray⟩).size, ?_⟩
    unfold World.shape?
    rw [hnew]
end Go.Proofs.Ytkoaplmlabagnaa.Ln

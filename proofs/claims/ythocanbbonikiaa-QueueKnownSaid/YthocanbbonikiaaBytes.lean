/-
  A row of bytes that a string was made into: how it reads, how it is written, how it becomes a string again. No condition but the places' bounds.
-/
import Derived.Test.YthocanbbonikiaaChecked
import Derived.Test.YthocanbbonikiaaBase
import Derived.Lib.ConvBytes
import Derived.Lib.Hide
import Derived.Laws.BytesArg
import Derived.Deep.Draws
namespace Go.Proofs.Ythocanbbonikiaa.Base
open Go.RowKit
theorem below_bytes (w : World) (e : TypeId) (s : ByteArray) : Below w.heap.size w (Lib.bytesWorld w e s) :=
  ⟨rfl, rfl, rfl, by rw [Lib.bytesWorld_size]; omega, fun k hk => Lib.bytesWorld_at_old w e s k hk⟩
theorem frozen_bytes (w : World) (e : TypeId) (s : ByteArray) (j : Nat) (hj : j < s.size) : (Lib.bytesWorld w e s).frozen? ⟨w.heap.size, j, none⟩ = false := by
  have h : s.size ≤ (Lib.bytesCells w e s).size := by rw [Lib.bytesCells, Array.size_append, Array.size_map]; exact Nat.le_add_right _ _
  unfold World.frozen?
  rw [Lib.bytesWorld_at_new]
  have : ¬ (Lib.bytesCells w e s).size ≤ j := by omega
  simp [this]
theorem map_getD {α β : Type} (f : α → β) (l : List α) (i : Nat) (d : α) (d' : β) (h : i < l.length) : (l.map f).getD i d' = f (l.getD i d) := by
  simp [List.getD, h]
/-- The block's first cells hold these bytes, and may be written. -/
structure Row (w : World) (b : Nat) (l : List UInt8) : Prop where
  cell : ∀ i, i < l.length → w.cell? ⟨b, i, none⟩ = some (.int .u8 ((l.getD i 0).toNat : Int))
  free : ∀ i, i < l.length → w.frozen? ⟨b, i, none⟩ = false
theorem Row.lt {w : World} {b : Nat} {l : List UInt8} (h : Row w b l) (h0 : 0 < l.length) : b < w.heap.size := World.block_lt_of_cell? w ⟨b, 0, none⟩ (h.cell 0 h0)
theorem Row.drew {w : World} {b : Nat} {l : List UInt8} (h : Row w b l) : Row w.drew b l := ⟨h.cell, h.free⟩
theorem Row.drewN {w : World} {b n : Nat} {l : List UInt8} (h : Row w b l) : Row (w.drewN n) b l := ⟨h.cell, h.free⟩
theorem Row.below {w w' : World} {b : Nat} {l : List UInt8} (h : Row w b l) (h0 : 0 < l.length) (hb : Below w.heap.size w w') : Row w' b l :=
  ⟨fun i hi => (hb.cell (p := ⟨b, i, none⟩) (h.lt h0)).trans (h.cell i hi), fun i hi => (hb.frozen (p := ⟨b, i, none⟩) (h.lt h0)).trans (h.free i hi)⟩
theorem Row.put {w : World} {b : Nat} {l : List UInt8} (h : Row w b l) (j : Nat) (hj : j < l.length) (v : Nat) (hv : v < 256) : Row (w.setCell ⟨b, j, none⟩ (.int .u8 (v : Int))) b (l.set j (UInt8.ofNat v)) := by
  refine ⟨fun i hi => ?_, fun i hi => ?_⟩
  · have hi' : i < l.length := by simpa using hi
    by_cases e : j = i
    · subst e
      rw [World.cell?_setCell_same _ _ _ (h.cell j hj)]
      simp [List.getD, hj, Nat.mod_eq_of_lt hv]
    · rw [World.cell?_setCell_other _ _ _ _ (fun k => e (by injection k)), h.cell i hi']
      simp [List.getD, e]
  · rw [World.frozen?_setCell]
    exact h.free i (by simpa using hi)
/-- The row becomes a string: those bytes. -/
theorem Row.conv {w : World} {b : Nat} {l : List UInt8} (h : Row w b l) (n cap : Nat) (hn : l.length = n) :
    (convert 39 9 (.slice (some ⟨b, 0, none⟩) n cap)).run Try.prog w = .ok (.string ⟨l.toArray⟩) w := by
  have h := run_convert_bytes_arg (P := Try.prog) w 39 5 Try.underlying39 Try.underlying5 b 0 n cap
    (l.map fun c => (c.toNat : Int)) (by simpa using hn) (fun i hi => by
      rw [Nat.zero_add]
      have hm : (l.map fun c => (c.toNat : Int)).getD i 0 = ((l.getD i 0).toNat : Int) :=
        map_getD (fun c : UInt8 => (c.toNat : Int)) _ i 0 0 (by omega)
      rw [hm]
      exact h.cell i (by omega)) 9 Try.underlying9
  rw [h]
  have e : strOfNums (l.map fun c => (c.toNat : Int)) = ⟨l.toArray⟩ := by
    unfold strOfNums
    rw [List.map_map]
    have hid : ((fun n : Int => UInt8.ofNat n.toNat) ∘ fun c : UInt8 => (c.toNat : Int)) = id := by
      funext c; simp
    rw [hid, List.map_id]
  rw [e]
/-- A string becomes a row: its bytes, in new memory. -/
theorem bytes_of (w : World) (s : ByteArray) (n : Nat) (hn : s.size = n) : ∃ W1 cap, (convert 9 39 (.string s)).run Try.prog w = .ok (.slice (some ⟨w.heap.size, 0, none⟩) n cap) W1 ∧ Hid (Row W1 w.heap.size s.data.toList) ∧ Hid (Below w.heap.size w W1) := by
  subst hn
  exact ⟨_, _, Lib.run_convert_string_bytes (P := Try.prog) w 9 39 5 s Try.underlying9 Try.underlying39 Try.underlying5,
    Lib.hid ⟨fun i hi => Lib.bytesWorld_cell w 5 s i (by simpa using hi), fun i hi => frozen_bytes w 5 s i (by simpa using hi)⟩, Lib.hid (below_bytes w 5 s)⟩
end Go.Proofs.Ythocanbbonikiaa.Base

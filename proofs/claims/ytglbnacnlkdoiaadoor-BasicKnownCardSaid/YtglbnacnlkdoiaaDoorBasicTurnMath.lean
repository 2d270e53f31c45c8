/-
  A turned body is another one, and is not decoded as the same frame; a piece of a body, and one with more behind it, are none. Conditions: the places' bounds.
-/
import Derived.Test.YtglbnacnlkdoiaaDoorBasicCases
import Derived.Test.YtglbnacnlkdoiaaDoorBytes
import Derived.Test.YtglbnacnlkdoiaaDoorPick
namespace Go.Proofs.YtglbnacnlkdoiaaDoor.Basic
open Go.RowKit Go.Proofs.YtglbnacnlkdoiaaDoor.Base Go.Proofs.YtglbnacnlkdoiaaDoor.Ea Go.Proofs.YtglbnacnlkdoiaaDoor.Field
theorem set_ne (l : List UInt8) (i o x : Nat) (hi : i < l.length) (hx : (l.getD i 0).toNat = x) (ho : o < 256) (h : o ≠ x) : l.set i (UInt8.ofNat o) ≠ l := by
  intro e
  have := congrArg (fun l => (l.getD i 0).toNat) e
  simp only [List.getD, List.getElem?_set_self hi, Option.getD_some] at this
  have e2 : (UInt8.ofNat o).toNat = o := by rw [UInt8.toNat_ofNat']; exact Nat.mod_eq_of_lt ho
  rw [e2] at this
  apply h
  rw [this, ← hx]; simp [List.getD]
theorem set_ne2 (l : List UInt8) (i j o x p y : Nat) (hi : i < l.length) (hj : j < l.length) (hij : i ≠ j) (hx : (l.getD i 0).toNat = x) (hy : (l.getD j 0).toNat = y) (ho : o < 256) (hp : p < 256) (h : o ≠ x ∨ p ≠ y) : (l.set i (UInt8.ofNat o)).set j (UInt8.ofNat p) ≠ l := by
  rcases h with h | h
  · rw [List.set_comm _ _ hij]
    intro e
    have e2 : (l.set j (UInt8.ofNat p)).getD i 0 = l.getD i 0 := by simp [List.getD, Ne.symm hij]
    have e3 := congrArg (fun l => (l.getD i 0).toNat) e
    simp only [List.getD, List.getElem?_set_self (show i < (l.set j (UInt8.ofNat p)).length by simpa using hi), Option.getD_some] at e3
    have e4 : (UInt8.ofNat o).toNat = o := by rw [UInt8.toNat_ofNat']; exact Nat.mod_eq_of_lt ho
    rw [e4] at e3
    apply h
    rw [e3, ← hx]; simp [List.getD]
  · intro e
    have e3 := congrArg (fun l => (l.getD j 0).toNat) e
    simp only [List.getD, List.getElem?_set_self (show j < (l.set i (UInt8.ofNat o)).length by simpa using hj), Option.getD_some] at e3
    have e4 : (UInt8.ofNat p).toNat = p := by rw [UInt8.toNat_ofNat']; exact Nat.mod_eq_of_lt hp
    rw [e4] at e3
    apply h
    rw [e3, ← hy]; simp [List.getD]
theorem xor_ne (x d : Nat) (h : d ≠ 0) : x ^^^ d ≠ x := by
  intro e
  have := Fcs.xor_self_left x d
  rw [e, Nat.xor_self] at this
  exact h this.symm
/-- Bytes that are another body than the frame's are not decoded as it. -/
theorem turned_dec (f : Fr) (ini : Bool) (t : ByteArray) (ht : t ≠ f.body ini) (hs : t.size ≤ maxLen) : (∃ r, r ≠ 0 ∧ DecNo t ini 128 r) ∨ (∃ g : Fr, eqF g f = false ∧ DecOk t ini 128 g) := by
  rcases dec_cases t hs ini 128 with h | ⟨g, _, _, _, hb, hd⟩
  · exact .inl h
  · refine .inr ⟨g, ?_, hd⟩
    cases h : eqF g f
    · rfl
    · exact absurd (by rw [← eqF_eq h]; exact hb.symm) ht
theorem neq_of {f g : Fr} (h : eqF g f = false) (w : World) : (binOp .neq 23 (fv g) (fv f)).run Tryd.prog w = .ok (.bool true) w := by rw [run_neF, h]; rfl
/-- A piece of a body, and a body with its last flag. -/
theorem piece_dec (f : Fr) (ini : Bool) (h : f.e ini 128 = 0) (n : Nat) (h1 : 1 ≤ n) (hn : n < (f.bytes ini).size - 1) : DecNo ((f.bytes ini).extract 1 n) ini 128 40 := by
  obtain ⟨hb, _, _⟩ := enc_dec h
  have hz := bytes_size f ini
  have h5 := (e_ok h).2.2.2
  have h6 := room_le 128
  have h7 := hb.size
  have h8 := len_sz f.info.size (by omega)
  have h9 : (f.bytes ini).size ≤ 1000 := by split at h8 <;> omega
  refine fun w _ => fdec_no _ (by simp; unfold maxLen; omega) (cut_none hb _ ?_ ?_) ini 128 w
  · rw [ext_list, bytes_list, List.drop_take]
    show List.take _ ((f.body ini).data.toList ++ [249]) <+: _
    rw [List.take_append_of_le_length (by rw [size_toList]; omega)]
    exact List.take_prefix _ _
  · rw [ByteArray.size_extract]; omega
theorem more_dec (f : Fr) (ini : Bool) (h : f.e ini 128 = 0) : DecNo ((f.bytes ini).extract 1 (f.bytes ini).size) ini 128 40 := by
  obtain ⟨hb, _, _⟩ := enc_dec h
  have hz := bytes_size f ini
  have h5 := (e_ok h).2.2.2
  have h6 := room_le 128
  have h7 := hb.size
  have h8 := len_sz f.info.size (by omega)
  have h9 : (f.bytes ini).size ≤ 1000 := by split at h8 <;> omega
  refine fun w _ => fdec_no _ (by simp; unfold maxLen; omega) (more_none hb _ ?_ ?_) ini 128 w
  · rw [ext_list, bytes_list, List.drop_take]
    show _ <+: List.take _ ((f.body ini).data.toList ++ [249])
    rw [List.take_of_length_le (by simp; omega)]
    exact List.prefix_append _ _
  · rw [ByteArray.size_extract]; omega
end Go.Proofs.YtglbnacnlkdoiaaDoor.Basic

/-
  A message's pieces, put into a joiner one behind the other, give its bytes back: plain. No condition.
-/
import Derived.Test.YtidcoodmlgmcjaaClPut
namespace Go.Proofs.Ytidcoodmlgmcjaa.Cl
open Go.RowKit Go.Proofs.Ytidcoodmlgmcjaa.Base Go.Proofs.Ytidcoodmlgmcjaa.Mem
/-- The bytes of the first t pieces. -/
def got (x : ByteArray) (m t : Nat) : ByteArray := x.extract 0 (min x.size (t * m))
theorem got_zero (x : ByteArray) (m : Nat) : got x m 0 = ⟨#[]⟩ := by
  apply bext
  unfold got
  rw [ext_list, Nat.zero_mul, Nat.min_zero]
  rfl
theorem got_all (x : ByteArray) (m c : Nat) (h : x.size ≤ c * m) : got x m c = x := by
  apply bext
  unfold got
  rw [ext_list, Nat.min_eq_left h, List.drop_zero]
  exact List.take_of_length_le (by rw [size_toList]; exact Nat.le_refl _)
def bit (x : ByteArray) (m t : Nat) : ByteArray := x.extract (t * m) (min x.size ((t + 1) * m))
theorem got_succ (x : ByteArray) (m t : Nat) (h : t * m ≤ x.size) : got x m (t + 1) = got x m t ++ bit x m t := by
  apply bext
  unfold got bit
  rw [app_list, ext_list, ext_list, ext_list, List.drop_zero, List.drop_zero, Nat.min_eq_right h]
  have hle : t * m ≤ min x.size ((t + 1) * m) := by rw [succ_mul']; omega
  conv => lhs; rw [← List.take_append_drop (t * m) (x.data.toList.take (min x.size ((t + 1) * m)))]
  rw [List.take_take, Nat.min_eq_left hle]
theorem got_size (x : ByteArray) (m t : Nat) : (got x m t).size ≤ x.size := by unfold got; rw [ByteArray.size_extract]; omega
theorem bit_size (x : ByteArray) (m t : Nat) : (bit x m t).size ≤ x.size := by unfold bit; rw [ByteArray.size_extract]; omega
theorem pc_bit (x : ByteArray) (m c t : Nat) : pc x m c t = mk (hd t c) (bit x m t) := rfl
theorem mk_tail (h : Nat) (d : ByteArray) : (mk h d).extract 1 (mk h d).size = d := by
  apply bext
  rw [ext_drop]
  unfold mk
  rw [app_list]
  rfl
theorem mk_head (h : Nat) (hh : h < 256) (d : ByteArray) : h0 (mk h d) = h := by
  have hp : 0 < (mk h d).size := by rw [mk_size]; omega
  rw [← h0_eq hp]
  have h1 := get_list (mk h d) 0 hp
  unfold mk at h1 ⊢
  rw [app_list] at h1
  have h2 : some (one h ++ d)[0] = some (UInt8.ofNat h) := h1
  rw [Option.some.inj h2, UInt8.toNat_ofNat']
  omega
/-- Each piece in its place. -/
theorem put_piece (x : ByteArray) (m c t : Nat) (ht : t < c) (b : Bool) (hb : decide (0 < t ∧ t < c) = b) (en : Bool) (he : decide (t + 1 = c) = en) : put b (pc x m c t) = ⟨bit x m t, en, 0, !en⟩ := by
  have hz : 0 < (pc x m c t).size := by rw [pc_bit, mk_size]; omega
  have hh : h0 (pc x m c t) = hd t c := by rw [pc_bit]; exact mk_head _ (hd_lt t c) _
  have h1 : hd t c % 64 = 1 := by unfold hd; split <;> split <;> rfl
  have h2 : decide (128 ≤ hd t c) = decide (t = 0) := by
    rw [decide_eq_decide]
    unfold hd
    split <;> split <;> omega
  have h3 : decide (hd t c / 64 % 2 = 1) = en := by
    rw [← he, decide_eq_decide]
    unfold hd
    split <;> split <;> omega
  rw [put_ok b (pc x m c t) hz (by rw [hh]; exact h1) (by
    rw [hh, h2, ← hb]
    intro e
    rw [decide_eq_decide] at e
    omega) en (by rw [hh]; exact h3)]
  rw [pc_bit, mk_tail]
end Go.Proofs.Ytidcoodmlgmcjaa.Cl

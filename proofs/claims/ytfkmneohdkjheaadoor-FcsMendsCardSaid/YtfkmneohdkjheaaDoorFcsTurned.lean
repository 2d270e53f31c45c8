/-
  What the document's own Turned answers: bytes with one bit turned, in new memory; nothing that was there turns.
-/
import Derived.Test.YtfkmneohdkjheaaDoorFcsCalls
import Derived.Lib.ConvBytes
import Derived.Laws.BytesArg
import Derived.RegionTactic
namespace Go.Proofs.YtfkmneohdkjheaaDoor.Fcs
open Go.RowKit Go.Proofs.YtfkmneohdkjheaaDoor.Base

/-- Bytes with one bit turned. -/
def turnL (l : List UInt8) (bit : Int) : List UInt8 := l.set (bit / 8).toNat (UInt8.ofNat ((l.getD (bit / 8).toNat 0).toNat ^^^ 2 ^ (bit % 8).toNat))
def turnB (s : ByteArray) (bit : Int) : ByteArray := ⟨(turnL s.data.toList bit).toArray⟩
theorem turnL_length (l : List UInt8) (bit : Int) : (turnL l bit).length = l.length := by simp [turnL]
theorem turnB_size (s : ByteArray) (bit : Int) : (turnB s bit).size = s.size := by
  show (turnL s.data.toList bit).toArray.size = s.data.size
  simp [turnL]

theorem below_bytes (w : World) (e : TypeId) (s : ByteArray) : Below w.heap.size w (Lib.bytesWorld w e s) :=
  ⟨rfl, rfl, rfl, by rw [Lib.bytesWorld_size]; omega, fun k hk => Lib.bytesWorld_at_old w e s k hk⟩
theorem frozen_bytes (w : World) (e : TypeId) (s : ByteArray) (j : Nat) (hj : j < s.size) : (Lib.bytesWorld w e s).frozen? ⟨w.heap.size, j, none⟩ = false := by
  have h : s.size ≤ (Lib.bytesCells w e s).size := by rw [Lib.bytesCells, Array.size_append, Array.size_map]; exact Nat.le_add_right _ _
  unfold World.frozen?
  rw [Lib.bytesWorld_at_new]
  have : ¬ (Lib.bytesCells w e s).size ≤ j := by omega
  simp [this]

theorem turned_no (s : ByteArray) (bit : Int) (w : World) (hi : bit ≤ 9223372036854775807) (h : bit < 0 ∨ (s.size : Int) ≤ bit / 8) :
    Calls Tryd.prog 20 #[.string s, .int .i64 bit] w fun e w' => e = .returned (.tuple #[.string s, .bool false]) ∧ w = w' := by
  by_cases h0 : bit < 0
  · clear h
    go_enter Tryd.func20, Tryd.ntmps20
    go_wp2
    go_ret2
    exact ⟨rfl, rfl⟩
  · have h1 : (s.size : Int) ≤ bit / 8 := by omega
    have h2 : 0 ≤ bit := by omega
    clear h h0
    go_enter Tryd.func20, Tryd.ntmps20
    go_wp2
    go_ret2
    exact ⟨rfl, rfl⟩

theorem map_getD {α β : Type} (f : α → β) (l : List α) (i : Nat) (d : α) (d' : β) (h : i < l.length) : (l.map f).getD i d' = f (l.getD i d) := by
  simp [List.getD, h]
/-- A row of bytes of which one is written reads back as the string with that byte set. -/
theorem back (W1 : World) (b : Nat) (l : List UInt8) (j : Nat) (v : Nat) (hv : v < 256) (cap : Nat)
    (hc : ∀ i, i < l.length → W1.cell? ⟨b, i, none⟩ = some (.int .u8 ((l.getD i 0).toNat : Int))) :
    (convert 30 9 (.slice (some ⟨b, 0, none⟩) l.length cap)).run Tryd.prog (W1.setCell ⟨b, j, none⟩ (.int .u8 (v : Int))).drew
      = .ok (.string ⟨(l.set j (UInt8.ofNat v)).toArray⟩) (W1.setCell ⟨b, j, none⟩ (.int .u8 (v : Int))).drew := by
  have h := run_convert_bytes_arg (P := Tryd.prog) (W1.setCell ⟨b, j, none⟩ (.int .u8 (v : Int))).drew 30 5 Tryd.underlying30 Tryd.underlying5 b 0 l.length cap
    ((l.set j (UInt8.ofNat v)).map fun c => (c.toNat : Int)) (by simp) (fun i hi => by
      rw [World.cell?_drew, Nat.zero_add]
      have hm : ((l.set j (UInt8.ofNat v)).map fun c => (c.toNat : Int)).getD i 0 = (((l.set j (UInt8.ofNat v)).getD i 0).toNat : Int) :=
        map_getD (fun c : UInt8 => (c.toNat : Int)) _ i 0 0 (by simpa using hi)
      rw [hm]
      by_cases e : j = i
      · subst e
        rw [World.cell?_setCell_same _ _ _ (hc j hi)]
        simp [List.getD, hi, Nat.mod_eq_of_lt hv]
      · rw [World.cell?_setCell_other _ _ _ _ (fun h => e (by injection h)), hc i hi]
        simp [List.getD, e]) 9 Tryd.underlying9
  rw [h]
  have e : strOfNums ((l.set j (UInt8.ofNat v)).map fun c => (c.toNat : Int)) = ⟨(l.set j (UInt8.ofNat v)).toArray⟩ := by
    unfold strOfNums
    rw [List.map_map]
    have hid : ((fun n : Int => UInt8.ofNat n.toNat) ∘ fun c : UInt8 => (c.toNat : Int)) = id := by
      funext c; simp
    rw [hid, List.map_id]
  rw [e]

theorem turned_yes (s : ByteArray) (bit : Int) (w : World) (h0 : 0 ≤ bit) (h1 : bit / 8 < (s.size : Int)) (hi : bit ≤ 9223372036854775807) :
    Calls Tryd.prog 20 #[.string s, .int .i64 bit] w fun e w' => e = .returned (.tuple #[.string (turnB s bit), .bool true]) ∧ Below w.heap.size w w' := by
  have hconv := Lib.run_convert_string_bytes (P := Tryd.prog) w 9 30 5 s Tryd.underlying9 Tryd.underlying30 Tryd.underlying5
  have hb := below_bytes w 5 s
  have hj : (bit / 8).toNat < s.size := by omega
  have hc := Lib.bytesWorld_cell w 5 s (bit / 8).toNat hj
  have hcs := Lib.bytesWorld_cell w 5 s
  have hz := frozen_bytes w 5 s (bit / 8).toNat hj
  have he := pow_eq bit
  have hp := pow_lt bit
  have hq : 0 ≤ bit / 8 := by omega
  have hx := u8_lt (s.data.toList.getD (bit / 8).toNat 0)
  have HT : Hid (turnB s bit = ⟨(s.data.toList.set (bit / 8).toNat (UInt8.ofNat ((s.data.toList.getD (bit / 8).toNat 0).toNat ^^^ 2 ^ (bit % 8).toNat))).toArray⟩) := Lib.hid rfl
  generalize turnB s bit = r at *
  generalize Lib.bytesWorld w 5 s = W1 at *
  generalize grownCap w s.size 0 5 = cap at *
  generalize 2 ^ (bit % 8).toNat = p at *
  generalize hxe : (s.data.toList.getD (bit / 8).toNat 0).toNat = x at *
  clear hxe
  have hback := back W1 w.heap.size s.data.toList (bit / 8).toNat (x ^^^ p) (xor_lt _ _ hx hp) cap (fun i hi => hcs i (by simpa using hi))
  rw [← HT.out] at hback
  have hlen : s.data.toList.length = s.size := by simp
  rw [hlen] at hback
  clear hcs hlen HT
  have hxp := u8_xor_nat x p hx hp
  have b1 : decide (bit < 0) = false := by simp; omega
  have b2 : decide ((s.size : Int) ≤ bit / 8) = false := by simp; omega
  have HB := Lib.hid hb
  clear hb
  go_enter Tryd.func20, Tryd.ntmps20
  go_wp2
  go_region
  go_wp2
  go_ret2
  exact ⟨rfl, (HB.out.setCell (Nat.le_refl _) _).drew⟩

theorem set_split (l : List UInt8) (j : Nat) (c : UInt8) (h : j < l.length) : l.set j c = l.take j ++ ([c] ++ l.drop (j + 1)) := by
  rw [List.set_eq_take_append_cons_drop, if_pos h]; rfl
theorem self_split (l : List UInt8) (j : Nat) (h : j < l.length) : l = l.take j ++ ([l.getD j 0] ++ l.drop (j + 1)) := by
  have e := set_split l j (l.getD j 0) h
  rw [← e]
  simp [List.getD, h]
theorem mend_eq (n : Nat) (bit : Int) (h0 : 0 ≤ bit) (h1 : bit / 8 < (n : Int)) : mend n bit = Tn (n - 1 - (bit / 8).toNat) (T (2 ^ (bit % 8).toNat)) := if_neg (by omega)
/-- A turned bit turns the register by what Mend tells. -/
theorem reg_turn (l : List UInt8) (bit : Int) (h0 : 0 ≤ bit) (h1 : bit / 8 < (l.length : Int)) : reg (turnL l bit) = reg l ^^^ mend l.length bit := by
  have hj : (bit / 8).toNat < l.length := by omega
  rw [mend_eq _ _ h0 h1]
  unfold turnL
  generalize (bit / 8).toNat = j at *
  have hp := pow_lt bit
  generalize 2 ^ (bit % 8).toNat = p at *
  rw [set_split l j _ hj]
  conv => rhs; rw [self_split l j hj]
  unfold reg
  rw [regFrom_append, regFrom_append, regFrom_append, regFrom_append]
  generalize regFrom 255 (l.take j) = r
  have hx := u8_lt (l.getD j 0)
  have e1 : regFrom r [UInt8.ofNat ((l.getD j 0).toNat ^^^ p)] = regFrom r [l.getD j 0] ^^^ T p := by
    show step r (UInt8.ofNat ((l.getD j 0).toNat ^^^ p)).toNat = step r (l.getD j 0).toNat ^^^ T p
    have hn : (UInt8.ofNat ((l.getD j 0).toNat ^^^ p)).toNat = (l.getD j 0).toNat ^^^ p := by
      rw [UInt8.toNat_ofNat']; exact Nat.mod_eq_of_lt (xor_lt _ _ hx hp)
    rw [hn, step, step, ← Nat.xor_assoc, T_lin]
  rw [e1, regFrom_diff]
  congr 2
  simp
  omega
theorem sum_turn (l : List UInt8) (bit : Int) (h0 : 0 ≤ bit) (h1 : bit / 8 < (l.length : Int)) : sum l ^^^ sum (turnL l bit) = mend l.length bit := by
  rw [sum_xor, reg_turn l bit h0 h1, xor_self_left]
theorem mend_lt (n : Nat) (bit : Int) : mend n bit < 256 := by
  unfold mend
  split
  · decide
  · exact Tn_lt _ _ (T_lt _ (pow_lt bit))
theorem mend_ne (n : Nat) (bit : Int) (h0 : 0 ≤ bit) (h1 : bit / 8 < (n : Int)) : mend n bit ≠ 0 := by
  rw [mend_eq _ _ h0 h1]
  intro h
  rw [Tn_zero_iff _ _ (T_lt _ (pow_lt bit)), T_zero_iff _ (pow_lt bit)] at h
  exact absurd h (Nat.pos_iff_ne_zero.1 (Nat.two_pow_pos _))

/-- The document's own Mend. -/
theorem rmend_no (s : ByteArray) (bit : Int) (w : World) (hi : bit ≤ 9223372036854775807) (h : bit < 0 ∨ (s.size : Int) ≤ bit / 8) :
    Calls Tryd.prog 18 #[.string s, .int .i64 bit] w fun e w' => e = .returned (.int .u8 (mend s.size bit : Int)) ∧ Below w.heap.size w w' := by
  have hm : mend s.size bit = 0 := if_pos h
  rw [hm]; clear hm
  have H := Lib.hid h
  clear h
  go_enter Tryd.func18, Tryd.ntmps18
  go_wp2_with (go_at_call 20; ((with_reducible refine (turned_no s bit _ hi H.out).mono ?_); rintro e w' ⟨rfl, rfl⟩))
  go_ret
  exact ⟨rfl, Below.refl _ _⟩
theorem rmend_yes (s : ByteArray) (bit : Int) (w : World) (hs : s.size ≤ maxLen) (h0 : 0 ≤ bit) (h1 : bit / 8 < (s.size : Int)) (hi : bit ≤ 9223372036854775807) :
    Calls Tryd.prog 18 #[.string s, .int .i64 bit] w fun e w' => e = .returned (.int .u8 (mend s.size bit : Int)) ∧ Below w.heap.size w w' := by
  have HM : Hid (sum s.data.toList ^^^ sum (turnB s bit).data.toList = mend s.size bit) := Lib.hid (by
    have := sum_turn s.data.toList bit h0 (by simpa using h1)
    have hl : s.data.toList.length = s.size := by simp
    rw [hl] at this
    exact this)
  have hsz : (turnB s bit).size ≤ maxLen := by rw [turnB_size]; exact hs
  have hl := sum_lt s.data.toList
  have hr := sum_lt (turnB s bit).data.toList
  go_enter Tryd.func18, Tryd.ntmps18
  go_wp2_with (first
    | (go_at_call 20; ((with_reducible refine (turned_yes s bit _ h0 h1 hi).mono ?_); rintro e w' ⟨rfl, hb⟩; have HB := Lib.hid hb; clear hb))
    | (go_at_call 14; ((with_reducible refine (rsum s hs _).mono ?_); rintro e w' ⟨rfl, rfl⟩))
    | (go_at_call 14; ((with_reducible refine (rsum (turnB s bit) hsz _).mono ?_); rintro e w' ⟨rfl, rfl⟩)))
  go_ret
  exact ⟨ret_int (by rw [u8_xor_nat _ _ hl hr, HM.out]), HB.out⟩
theorem rmend (s : ByteArray) (bit : Int) (w : World) (hs : s.size ≤ maxLen) (hi : bit ≤ 9223372036854775807) :
    Calls Tryd.prog 18 #[.string s, .int .i64 bit] w fun e w' => e = .returned (.int .u8 (mend s.size bit : Int)) ∧ Below w.heap.size w w' := by
  by_cases h : bit < 0 ∨ (s.size : Int) ≤ bit / 8
  · exact rmend_no s bit w hi h
  · exact rmend_yes s bit w hs (by omega) (by omega) hi
end Go.Proofs.YtfkmneohdkjheaaDoor.Fcs

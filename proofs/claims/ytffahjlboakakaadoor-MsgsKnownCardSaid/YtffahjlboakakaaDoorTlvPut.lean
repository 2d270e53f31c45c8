/-
  What layer 7's Put, and the document's own, answer: the message's octets, or an error. Condition: a value of at most 2^62 octets.
-/
import Derived.Test.YtffahjlboakakaaDoorTlvMath
import Derived.Test.YtffahjlboakakaaDoorEaCalls
import Derived.Deep.RegionHeld
import Derived.Deep.RegionHeld3
namespace Go.Proofs.YtffahjlboakakaaDoor.Tlv
open Go.RowKit Go.Proofs.YtffahjlboakakaaDoor.Base Go.Proofs.YtffahjlboakakaaDoor.Ea Go.Proofs.YtffahjlboakakaaDoor.Mem
theorem typeOctet (k : Nat) (hk : k ≤ 63) (c : Bool) (w : World) :
    Calls Tryd.prog 36 #[.int .u8 (k : Int), .bool c] w fun e w' => e = .returned (.int .u8 (addr k c : Int)) ∧ w = w' := by
  have e1 : bits .or .u8 ((k : Int) * 4) 1 = (k : Int) * 4 + 1 := bits_join .u8 8 (by decide) wraps_u8 2 _ _ (by omega) (by omega) (by omega) (by decide) (by decide) (by decide)
  have e2 : bits .or .u8 ((k : Int) * 4 + 1) 2 = (k : Int) * 4 + 3 := by
    have : ∀ j : Fin 64, bits .or .u8 ((j.val : Int) * 4 + 1) 2 = (j.val : Int) * 4 + 3 := by decide +kernel
    exact this ⟨k, by omega⟩
  have ha : addr k c = 4 * k + 2 * c.toNat + 1 := if_neg (by omega)
  rw [ha]; clear ha
  cases c
  all_goals
    go_enter Tryd.func36, Tryd.ntmps36
    go_wp2
    go_ret
    exact ⟨ret_int (by simp; omega), rfl⟩
theorem put_no (k : Nat) (hk : k < 256) (c : Bool) (v : ByteArray) (hv : v.size ≤ 9223372036854775807) (h : putE k v ≠ 0) (w : World) :
    Calls Tryd.prog 20 #[.int .u8 (k : Int), .bool c, .string v] w fun e w' => e = .returned (.tuple #[.string ⟨#[]⟩, .int .i64 (putE k v : Int)]) ∧ w = w' := by
  by_cases h1 : 63 < k
  · have he : putE k v = 2 := if_pos h1
    rw [he]; clear h he
    go_enter Tryd.func20, Tryd.ntmps20
    go_wp2
    go_ret2
    exact ⟨rfl, rfl⟩
  · by_cases h2 : 127 < v.size
    · have he : putE k v = 3 := by unfold putE; rw [if_neg h1, if_pos h2]
      rw [he]; clear h he
      go_enter Tryd.func20, Tryd.ntmps20
      go_wp2
      go_ret2
      exact ⟨rfl, rfl⟩
    · exact absurd (putE_of (by omega) (by omega)) h
set_option maxHeartbeats 400000 in
theorem put_ok (k : Nat) (c : Bool) (v : ByteArray) (hk : k ≤ 63) (hv : v.size ≤ 127) (w : World) :
    Calls Tryd.prog 20 #[.int .u8 (k : Int), .bool c, .string v] w fun e w' => e = .returned (.tuple #[.string (It.bytes ⟨k, c, v⟩), .int .i64 0]) ∧ Below w.heap.size w w' := by
  have CT := Lib.hid (fun w => typeOctet k hk c w)
  have HE : Hid (one (addr k c) ++ len v.size ++ v = It.bytes ⟨k, c, v⟩) := Lib.hid rfl
  have hcv : ∀ (W : World) (b : Nat), W.cell? ⟨b, 0, none⟩ = some (.int .u8 ((addr k c : Nat) : Int)) → (convert 54 9 (.slice (some ⟨b, 0, none⟩) 1 1)).run Tryd.prog W = .ok (.string (one (addr k c))) W := fun W b h0 => conv_at1 W b _ h0
  have hz1 : (one (addr k c)).size = 1 := rfl
  have hz2 : (len (v.size : Int)).size = 1 := by rw [len_one (by omega) (by omega)]; rfl
  have k1 : ¬ 63 < k := by omega
  have k2 : ¬ 127 < v.size := by omega
  generalize addr k c = a at CT HE hcv hz1
  generalize hL : len (v.size : Int) = L at HE hz2
  have CL : Hid (∀ w, Calls Tryd.prog 37 #[.int .i64 (v.size : Int)] w fun e w' => e = .returned (.string L) ∧ Below w.heap.size w w') := Lib.hid (fun w => by rw [← hL]; exact length _ (by omega) w)
  clear hL hk hv
  go_enter Tryd.func20, Tryd.ntmps20
  go_wp2
  go_region_held (fun w' => Below w.heap.size w w')
    (first | exact (Below.refl _ _).drew | exact ((Below.refl _ _).alloc (Nat.le_refl _) _).drew | exact HB2.out | exact (HB2.out.alloc HB2.out.size _))
    (first
      | (go_at_call 36; ((with_reducible refine (CT.out _).mono ?_); rintro e w' ⟨rfl, rfl⟩))
      | (go_at_call 37; ((with_reducible refine (CL.out _).mono ?_); rintro e w2 ⟨rfl, hb⟩; (first
        | (have k0 := cell_below (w := (w.alloc (.cells #[.int .u8 (a : Int)] 5)).drew) (cell_new w _ _ 0) hb; have HB2 := Lib.hid (below_on (((Below.refl w.heap.size w).alloc (Nat.le_refl _) _).drew) hb); clear hb)
        | (have HB2 := Lib.hid (below_on ((Below.refl w.heap.size w).drew) hb); clear hb)))))
  all_goals
    rename_i hX
    go_wp2
    go_ret2
    exact ⟨ret_si HE.out rfl, hX⟩
theorem fput (k : Nat) (hk : k < 256) (c : Bool) (v : ByteArray) (hv : v.size ≤ 9223372036854775807) (w : World) :
    Calls Tryd.prog 20 #[.int .u8 (k : Int), .bool c, .string v] w fun e w' => e = .returned (.tuple #[.string (putS k c v), .int .i64 (putE k v : Int)]) ∧ Below w.heap.size w w' := by
  by_cases h : putE k v = 0
  · rw [putS_ok h, h]
    exact put_ok k c v (putE_ok h).1 (putE_ok h).2 w
  · have hs : putS k c v = ⟨#[]⟩ := if_neg h
    rw [hs]
    exact (put_no k hk c v hv h w).mono fun _ _ ⟨he, hw⟩ => ⟨he, hw ▸ Below.refl _ _⟩
theorem rput_no (k : Nat) (hk : k < 256) (c : Bool) (v : ByteArray) (hv : v.size ≤ 9223372036854775807) (h : putE k v ≠ 0) (w : World) :
    Calls Tryd.prog 23 #[.int .u8 (k : Int), .bool c, .string v] w fun e w' => e = .returned (.tuple #[.string ⟨#[]⟩, .int .i64 (putE k v : Int)]) ∧ w = w' := by
  by_cases h1 : 63 < k
  · have he : putE k v = 2 := if_pos h1
    rw [he]; clear h he
    go_enter Tryd.func23, Tryd.ntmps23
    go_wp2
    go_ret2
    exact ⟨rfl, rfl⟩
  · by_cases h2 : 127 < v.size
    · have he : putE k v = 3 := by unfold putE; rw [if_neg h1, if_pos h2]
      rw [he]; clear h he
      go_enter Tryd.func23, Tryd.ntmps23
      go_wp2
      go_ret2
      exact ⟨rfl, rfl⟩
    · exact absurd (putE_of (by omega) (by omega)) h
set_option maxHeartbeats 400000 in
theorem rput_ok (k : Nat) (c : Bool) (v : ByteArray) (hk : k ≤ 63) (hv : v.size ≤ 127) (w : World) :
    Calls Tryd.prog 23 #[.int .u8 (k : Int), .bool c, .string v] w fun e w' => e = .returned (.tuple #[.string (It.bytes ⟨k, c, v⟩), .int .i64 0]) ∧ Below w.heap.size w w' := by
  have HE : Hid (one (addr k c) ++ len v.size ++ v = It.bytes ⟨k, c, v⟩) := Lib.hid rfl
  have hz1 : (one (addr k c)).size = 1 := rfl
  have hz2 : (len (v.size : Int)).size = 1 := by rw [len_one (by omega) (by omega)]; rfl
  have k1 : ¬ 63 < k := by omega
  have k2 : ¬ 127 < v.size := by omega
  have ha : addr k c = 4 * k + 2 * c.toNat + 1 := if_neg (by omega)
  have ha0 : c = false → IntKind.u8.wrap (4 * (k : Int) + 1) = ((addr k c : Nat) : Int) := fun e => by
    rw [ha, e, wraps_u8 _ (by omega) (by omega)]; simp
  have ha1 : c = true → IntKind.u8.wrap (4 * (k : Int) + 1 + 2) = ((addr k c : Nat) : Int) := fun e => by
    rw [ha, e, wraps_u8 _ (by omega) (by omega)]; simp; omega
  have hcv : ∀ (W : World) (b : Nat), W.cell? ⟨b, 0, none⟩ = some (.int .u8 ((addr k c : Nat) : Int)) → (convert 54 9 (.slice (some ⟨b, 0, none⟩) 1 1)).run Tryd.prog W = .ok (.string (one (addr k c))) W := fun W b h0 => conv_at1 W b _ h0
  clear ha
  generalize addr k c = a at HE hcv hz1 ha0 ha1
  generalize hL : len (v.size : Int) = L at HE hz2
  have CL : Hid (∀ w, Calls Tryd.prog 40 #[.int .i64 (v.size : Int)] w fun e w' => e = .returned (.string L) ∧ Below w.heap.size w w') := Lib.hid (fun w => by rw [← hL]; exact rlength _ (by omega) w)
  clear hL hv
  cases c
  all_goals
    (first | (have q0 := ha0 rfl; clear ha0 ha1) | (have q0 := ha1 rfl; clear ha0 ha1))
    go_enter Tryd.func23, Tryd.ntmps23
    go_wp2
    go_region_held (fun w' => Below w.heap.size w w')
      (first | exact (Below.refl _ _).drew | exact ((Below.refl _ _).alloc (Nat.le_refl _) _).drew | exact HB2.out | exact (HB2.out.alloc HB2.out.size _))
      (first
        | (go_at_call 40; ((with_reducible refine (CL.out _).mono ?_); rintro e w2 ⟨rfl, hb⟩; (first
          | (have k0 := cell_below (w := (w.alloc (.cells #[.int .u8 (a : Int)] 5)).drew) (cell_new w _ _ 0) hb; have HB2 := Lib.hid (below_on (((Below.refl w.heap.size w).alloc (Nat.le_refl _) _).drew) hb); clear hb)
          | (have HB2 := Lib.hid (below_on ((Below.refl w.heap.size w).drew) hb); clear hb)))))
    all_goals
      rename_i hX
      go_wp2
      go_ret2
      exact ⟨ret_si HE.out rfl, hX⟩
theorem rput (k : Nat) (hk : k < 256) (c : Bool) (v : ByteArray) (hv : v.size ≤ 9223372036854775807) (w : World) :
    Calls Tryd.prog 23 #[.int .u8 (k : Int), .bool c, .string v] w fun e w' => e = .returned (.tuple #[.string (putS k c v), .int .i64 (putE k v : Int)]) ∧ Below w.heap.size w w' := by
  by_cases h : putE k v = 0
  · rw [putS_ok h, h]
    exact rput_ok k c v (putE_ok h).1 (putE_ok h).2 w
  · have hs : putS k c v = ⟨#[]⟩ := if_neg h
    rw [hs]
    exact (rput_no k hk c v hv h w).mono fun _ _ ⟨he, hw⟩ => ⟨he, hw ▸ Below.refl _ _⟩
end Go.Proofs.YtffahjlboakakaaDoor.Tlv

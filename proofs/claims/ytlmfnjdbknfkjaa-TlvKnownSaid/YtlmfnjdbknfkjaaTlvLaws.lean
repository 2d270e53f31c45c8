/-
  TlvPut, TlvGet and TlvBack answer true for everything, and turn nothing that was there. No condition.
-/
import Derived.Test.YtlmfnjdbknfkjaaTlvWorks
namespace Go.Proofs.Ytlmfnjdbknfkjaa.tlvPut
open Go.RowKit Go.Proofs.Ytlmfnjdbknfkjaa.Tlv Go.Proofs.Ytlmfnjdbknfkjaa.Mem
theorem law (k : Nat) (hk : k < 256) (c : Bool) (v : ByteArray) (hv : v.size ≤ maxLen) (w : World) :
    Calls Try.prog 3 #[.int .u8 (k : Int), .bool c, .string v] w fun e w' => e = .returned (.bool true) ∧ Below w.heap.size w w' := by
  unfold maxLen at hv
  by_cases h : 400 < v.size
  · go_enter Try.func3, Try.ntmps3
    go_wp2_with (go_at_call 7; ((with_reducible refine (works _).mono ?_); rintro e w1 ⟨rfl, hb⟩; have HB1 : Hid (Below w.heap.size w w1) := Lib.hid hb; clear hb))
    go_ret
    exact ⟨rfl, HB1.out⟩
  · have CP := Lib.hid (fun w => fput k hk c v (by omega) w)
    have CR := Lib.hid (fun w => rput k hk c v (by omega) w)
    generalize putS k c v = S at CP CR
    generalize putE k v = E at CP CR
    go_enter Try.func3, Try.ntmps3
    go_wp2_with (first
      | (go_at_call 8; ((with_reducible refine (CP.out _).mono ?_); rintro e w1 ⟨rfl, hb⟩; have HB1 : Hid (Below w.heap.size w w1) := Lib.hid hb; clear hb))
      | (go_at_call 9; ((with_reducible refine (CR.out _).mono ?_); rintro e w2 ⟨rfl, hb⟩; have HB2 : Hid (Below w.heap.size w w2) := Lib.hid (below_on HB1.out hb); clear hb))
      | (go_at_call 7; ((with_reducible refine (works _).mono ?_); rintro e w3 ⟨rfl, hb⟩; have HB3 : Hid (Below w.heap.size w w3) := Lib.hid (below_on HB2.out hb); clear hb)))
    go_ret
    exact ⟨rfl, HB3.out⟩
end Go.Proofs.Ytlmfnjdbknfkjaa.tlvPut
namespace Go.Proofs.Ytlmfnjdbknfkjaa.tlvGet
open Go.RowKit Go.Proofs.Ytlmfnjdbknfkjaa.Tlv Go.Proofs.Ytlmfnjdbknfkjaa.Mem
set_option maxHeartbeats 400000 in
theorem law (s : ByteArray) (hs : s.size ≤ maxLen) (w : World) :
    Calls Try.prog 12 #[.string s] w fun e w' => e = .returned (.bool true) ∧ Below w.heap.size w w' := by
  unfold maxLen at hs
  by_cases h : 400 < s.size
  · go_enter Try.func12, Try.ntmps12
    go_wp2_with (go_at_call 7; ((with_reducible refine (works _).mono ?_); rintro e w1 ⟨rfl, hb⟩; have HB1 : Hid (Below w.heap.size w w1) := Lib.hid hb; clear hb))
    go_ret
    exact ⟨rfl, HB1.out⟩
  · rcases hg : got s with ⟨k, c, v, n, x⟩
    have CP : Hid (∀ w, Calls Try.prog 10 #[.string s] w fun e w' => e = .returned (.tuple #[.int .u8 (k : Int), .bool c, .string v, .int .i64 (n : Int), .int .i64 (x : Int)]) ∧ Below w.heap.size w w') := Lib.hid (fun w => by
      have := fget s (by omega) w
      rw [hg] at this
      exact this)
    have CR : Hid (∀ w, Calls Try.prog 21 #[.string s] w fun e w' => e = .returned (.tuple #[.agg #[.int .u8 (k : Int), .bool c, .string v], .int .i64 (n : Int), .int .i64 (x : Int)]) ∧ Below w.heap.size w w') := Lib.hid (fun w => by
      have := rget s (by omega) w
      rw [hg] at this
      exact this)
    clear hg
    go_enter Try.func12, Try.ntmps12
    go_wp2_with (first
      | (go_at_call 10; ((with_reducible refine (CP.out _).mono ?_); rintro e w1 ⟨rfl, hb⟩; have HB1 : Hid (Below w.heap.size w w1) := Lib.hid hb; clear hb))
      | (go_at_call 21; ((with_reducible refine (CR.out _).mono ?_); rintro e w2 ⟨rfl, hb⟩; have HB2 : Hid (Below w.heap.size w w2) := Lib.hid (below_on HB1.out hb); clear hb))
      | (go_at_call 7; ((with_reducible refine (works _).mono ?_); rintro e w3 ⟨rfl, hb⟩; have HB3 : Hid (Below w.heap.size w w3) := Lib.hid (on_new HB2.out hb); clear hb)))
    go_ret
    exact ⟨rfl, HB3.out⟩
end Go.Proofs.Ytlmfnjdbknfkjaa.tlvGet
namespace Go.Proofs.Ytlmfnjdbknfkjaa.tlvBack
open Go.RowKit Go.Proofs.Ytlmfnjdbknfkjaa.Tlv Go.Proofs.Ytlmfnjdbknfkjaa.Mem Go.Proofs.Ytlmfnjdbknfkjaa.Base
set_option maxHeartbeats 1000000 in
theorem way (k : Nat) (c : Bool) (v b : ByteArray) (hv : ¬ 400 < v.size) (hb : ¬ 300 < b.size) (S : ByteArray) (E : Nat) (k2 : Nat) (c2 : Bool) (v2 : ByteArray) (n2 e2 : Nat) (T : ByteArray) (hz : S.size ≤ 1000)
    (CP : ∀ w, Calls Try.prog 8 #[.int .u8 (k : Int), .bool c, .string v] w fun e w' => e = .returned (.tuple #[.string S, .int .i64 (E : Int)]) ∧ Below w.heap.size w w')
    (hE : E ≠ 0 ∨ (E = 0 ∧ ∀ w, Calls Try.prog 10 #[.string (S ++ b)] w fun e w' => e = .returned (.tuple #[.int .u8 (k : Int), .bool c, .string v, .int .i64 (S.size : Int), .int .i64 0]) ∧ Below w.heap.size w w'))
    (CB : ∀ w, Calls Try.prog 10 #[.string b] w fun e w' => e = .returned (.tuple #[.int .u8 (k2 : Int), .bool c2, .string v2, .int .i64 (n2 : Int), .int .i64 (e2 : Int)]) ∧ Below w.heap.size w w')
    (he : e2 = 20 ∨ e2 = 70 ∨ (e2 = 0 ∧ 2 ≤ n2 ∧ n2 ≤ b.size ∧ b.extract 0 n2 = T ∧ ∀ w, Calls Try.prog 8 #[.int .u8 (k2 : Int), .bool c2, .string v2] w fun e w' => e = .returned (.tuple #[.string T, .int .i64 0]) ∧ Below w.heap.size w w')) (w : World) :
    Calls Try.prog 4 #[.int .u8 (k : Int), .bool c, .string v, .string b] w fun e w' => e = .returned (.bool true) ∧ Below w.heap.size w w' := by
  have CPh := Lib.hid CP
  have CBh := Lib.hid CB
  clear CP CB
  rcases hE with hE | ⟨rfl, CG⟩
  · have hE0 : ((E : Int) == 0) = false := by rw [beq_eq_false_iff_ne]; omega
    clear hE
    rcases he with rfl | rfl | ⟨rfl, h2, h3, hx, CT⟩
    · go_enter Try.func4, Try.ntmps4
      go_wp2_with (first
        | (go_at_call 8; ((with_reducible refine (CPh.out _).mono ?_); rintro e w1 ⟨rfl, hb⟩; have HB1 : Hid (Below w.heap.size w w1) := Lib.hid hb; clear hb))
        | (go_at_call 10; ((with_reducible refine (CBh.out _).mono ?_); rintro e w2 ⟨rfl, hb⟩; have HB2 : Hid (Below w.heap.size w w2) := Lib.hid (below_on HB1.out hb); clear hb))
        | (go_at_call 7; ((with_reducible refine (works _).mono ?_); rintro e w3 ⟨rfl, hb⟩; have HB3 : Hid (Below w.heap.size w w3) := Lib.hid (below_on HB2.out hb); clear hb)))
      go_ret
      exact ⟨rfl, HB3.out⟩
    · go_enter Try.func4, Try.ntmps4
      go_wp2_with (first
        | (go_at_call 8; ((with_reducible refine (CPh.out _).mono ?_); rintro e w1 ⟨rfl, hb⟩; have HB1 : Hid (Below w.heap.size w w1) := Lib.hid hb; clear hb))
        | (go_at_call 10; ((with_reducible refine (CBh.out _).mono ?_); rintro e w2 ⟨rfl, hb⟩; have HB2 : Hid (Below w.heap.size w w2) := Lib.hid (below_on HB1.out hb); clear hb))
        | (go_at_call 7; ((with_reducible refine (works _).mono ?_); rintro e w3 ⟨rfl, hb⟩; have HB3 : Hid (Below w.heap.size w w3) := Lib.hid (below_on HB2.out hb); clear hb)))
      go_ret
      exact ⟨rfl, HB3.out⟩
    · have CTh := Lib.hid CT
      have i2 : (2 : Int) ≤ n2 := by omega
      have i3 : (n2 : Int) ≤ b.size := by omega
      have j2 : decide ((2 : Int) ≤ n2) = true := by simp; omega
      have j3 : decide (n2 ≤ b.size) = true := by simp; omega
      clear CT
      go_enter Try.func4, Try.ntmps4
      go_wp2_with (first
        | (go_at_call 8; (first
          | ((with_reducible refine (CPh.out _).mono ?_); rintro e w1 ⟨rfl, hb⟩; have HB1 : Hid (Below w.heap.size w w1) := Lib.hid hb; clear hb)
          | ((with_reducible refine (CTh.out _).mono ?_); rintro e w3 ⟨rfl, hb⟩; have HB3 : Hid (Below w.heap.size w w3) := Lib.hid (below_on HB2.out hb); clear hb)))
        | (go_at_call 10; ((with_reducible refine (CBh.out _).mono ?_); rintro e w2 ⟨rfl, hb⟩; have HB2 : Hid (Below w.heap.size w w2) := Lib.hid (below_on HB1.out hb); clear hb))
        | (go_at_call 7; ((with_reducible refine (works _).mono ?_); rintro e w4 ⟨rfl, hb⟩; have HB4 : Hid (Below w.heap.size w w4) := Lib.hid (below_on HB3.out hb); clear hb)))
      go_ret
      exact ⟨rfl, HB4.out⟩
  · have CGh := Lib.hid CG
    clear CG
    rcases he with rfl | rfl | ⟨rfl, h2, h3, hx, CT⟩
    · go_enter Try.func4, Try.ntmps4
      go_wp2_with (first
        | (go_at_call 8; ((with_reducible refine (CPh.out _).mono ?_); rintro e w1 ⟨rfl, hb⟩; have HB1 : Hid (Below w.heap.size w w1) := Lib.hid hb; clear hb))
        | (go_at_call 10; (first
          | ((with_reducible refine (CGh.out _).mono ?_); rintro e w2 ⟨rfl, hb⟩; have HB2 : Hid (Below w.heap.size w w2) := Lib.hid (below_on HB1.out hb); clear hb)
          | ((with_reducible refine (CBh.out _).mono ?_); rintro e w3 ⟨rfl, hb⟩; have HB3 : Hid (Below w.heap.size w w3) := Lib.hid (below_on HB2.out hb); clear hb)))
        | (go_at_call 7; ((with_reducible refine (works _).mono ?_); rintro e w4 ⟨rfl, hb⟩; have HB4 : Hid (Below w.heap.size w w4) := Lib.hid (below_on HB3.out hb); clear hb)))
      go_ret
      exact ⟨rfl, HB4.out⟩
    · go_enter Try.func4, Try.ntmps4
      go_wp2_with (first
        | (go_at_call 8; ((with_reducible refine (CPh.out _).mono ?_); rintro e w1 ⟨rfl, hb⟩; have HB1 : Hid (Below w.heap.size w w1) := Lib.hid hb; clear hb))
        | (go_at_call 10; (first
          | ((with_reducible refine (CGh.out _).mono ?_); rintro e w2 ⟨rfl, hb⟩; have HB2 : Hid (Below w.heap.size w w2) := Lib.hid (below_on HB1.out hb); clear hb)
          | ((with_reducible refine (CBh.out _).mono ?_); rintro e w3 ⟨rfl, hb⟩; have HB3 : Hid (Below w.heap.size w w3) := Lib.hid (below_on HB2.out hb); clear hb)))
        | (go_at_call 7; ((with_reducible refine (works _).mono ?_); rintro e w4 ⟨rfl, hb⟩; have HB4 : Hid (Below w.heap.size w w4) := Lib.hid (below_on HB3.out hb); clear hb)))
      go_ret
      exact ⟨rfl, HB4.out⟩
    · have CTh := Lib.hid CT
      have i2 : (2 : Int) ≤ n2 := by omega
      have i3 : (n2 : Int) ≤ b.size := by omega
      have j2 : decide ((2 : Int) ≤ n2) = true := by simp; omega
      have j3 : decide (n2 ≤ b.size) = true := by simp; omega
      clear CT
      go_enter Try.func4, Try.ntmps4
      go_wp2_with (first
        | (go_at_call 8; (first
          | ((with_reducible refine (CPh.out _).mono ?_); rintro e w1 ⟨rfl, hb⟩; have HB1 : Hid (Below w.heap.size w w1) := Lib.hid hb; clear hb)
          | ((with_reducible refine (CTh.out _).mono ?_); rintro e w4 ⟨rfl, hb⟩; have HB4 : Hid (Below w.heap.size w w4) := Lib.hid (below_on HB3.out hb); clear hb)))
        | (go_at_call 10; (first
          | ((with_reducible refine (CGh.out _).mono ?_); rintro e w2 ⟨rfl, hb⟩; have HB2 : Hid (Below w.heap.size w w2) := Lib.hid (below_on HB1.out hb); clear hb)
          | ((with_reducible refine (CBh.out _).mono ?_); rintro e w3 ⟨rfl, hb⟩; have HB3 : Hid (Below w.heap.size w w3) := Lib.hid (below_on HB2.out hb); clear hb)))
        | (go_at_call 7; ((with_reducible refine (works _).mono ?_); rintro e w5 ⟨rfl, hb⟩; have HB5 : Hid (Below w.heap.size w w5) := Lib.hid (below_on HB4.out hb); clear hb)))
      go_ret
      exact ⟨rfl, HB5.out⟩
theorem law (k : Nat) (hk : k < 256) (c : Bool) (v : ByteArray) (hv : v.size ≤ maxLen) (b : ByteArray) (hb : b.size ≤ maxLen) (w : World) :
    Calls Try.prog 4 #[.int .u8 (k : Int), .bool c, .string v, .string b] w fun e w' => e = .returned (.bool true) ∧ Below w.heap.size w w' := by
  unfold maxLen at hv hb
  by_cases h1 : 400 < v.size
  · go_enter Try.func4, Try.ntmps4
    go_wp2_with (go_at_call 7; ((with_reducible refine (works _).mono ?_); rintro e w1 ⟨rfl, hb⟩; have HB1 : Hid (Below w.heap.size w w1) := Lib.hid hb; clear hb))
    all_goals go_ret
    all_goals exact ⟨rfl, HB1.out⟩
  by_cases h2 : 300 < b.size
  · go_enter Try.func4, Try.ntmps4
    go_wp2_with (go_at_call 7; ((with_reducible refine (works _).mono ?_); rintro e w1 ⟨rfl, hb⟩; have HB1 : Hid (Below w.heap.size w w1) := Lib.hid hb; clear hb))
    all_goals go_ret
    all_goals exact ⟨rfl, HB1.out⟩
  have hS : (putS k c v).size ≤ 1000 := by
    by_cases h : putE k v = 0
    · rw [putS_ok h, bytes_size ⟨(putE_ok h).1, (putE_ok h).2⟩]
      have := (putE_ok h).2
      show 2 + v.size ≤ 1000
      omega
    · rw [show putS k c v = ⟨#[]⟩ from if_neg h]; exact (by decide : 0 ≤ 1000)
  refine way k c v b h1 h2 (putS k c v) (putE k v) (got b).k (got b).c (got b).v (got b).n (got b).e (b.extract 0 (got b).n) hS (fun w => fput k hk c v (by omega) w) ?_ (fun w => fget b (by omega) w) ?_ w
  · by_cases h : putE k v = 0
    · refine .inr ⟨h, fun w => ?_⟩
      have := fget (putS k c v ++ b) (by rw [ByteArray.size_append]; omega) w
      rw [putS_ok h] at this ⊢
      rw [got_put (x := ⟨k, c, v⟩) ⟨(putE_ok h).1, (putE_ok h).2⟩ b] at this
      exact this
    · exact .inl h
  · rcases got_e b with h | ⟨h | h, _⟩
    · obtain ⟨e1, e2, e3, e4⟩ := put_got h
      refine .inr (.inr ⟨h, e2, e3, rfl, fun w => ?_⟩)
      have := put_ok (got b).k (got b).c (got b).v (putE_ok e1).1 (putE_ok e1).2 w
      rw [e4] at this
      exact this
    · exact .inl h
    · exact .inr (.inl h)
end Go.Proofs.Ytlmfnjdbknfkjaa.tlvBack

/-
  The plain mathematics of layer 8: a channel's parameters, their bounds, their eight octets, what octets say, what is agreed, what lowers. Conditions: octets are less than 256.
-/
import Derived.Test.YtffahjlboakakaaDoorMem
namespace Go.Proofs.YtffahjlboakakaaDoor.Pn
open Go.Proofs.YtffahjlboakakaaDoor.Base Go.Proofs.YtffahjlboakakaaDoor.Mem
/-- Parameters. -/
structure Pr where
  d : Int
  f : Int
  c : Int
  r : Int
  t : Int
  n : Int
  z : Int
  k : Int
/-- The octets among them are octets. -/
structure Pr.In (p : Pr) : Prop where
  d : 0 ≤ p.d ∧ p.d < 256
  f : 0 ≤ p.f ∧ p.f < 256
  c : 0 ≤ p.c ∧ p.c < 256
  r : 0 ≤ p.r ∧ p.r < 256
def zero : Pr := ⟨0, 0, 0, 0, 0, 0, 0, 0⟩
/-- May there be such parameters? -/
structure Pr.May (p : Pr) : Prop where
  d : 1 ≤ p.d ∧ p.d ≤ 63
  f : p.f ≤ 2
  c : p.c ≤ 3
  r : p.r ≤ 63
  t : 1 ≤ p.t ∧ p.t ≤ 255
  n : 1 ≤ p.n ∧ p.n ≤ 65535
  z : 0 ≤ p.z ∧ p.z ≤ 255
  k : 1 ≤ p.k ∧ p.k ≤ 7
def may (p : Pr) : Bool := decide (1 ≤ p.d ∧ p.d ≤ 63) && decide (p.f ≤ 2) && decide (p.c ≤ 3) && decide (p.r ≤ 63) && decide (1 ≤ p.t ∧ p.t ≤ 255) && decide (1 ≤ p.n ∧ p.n ≤ 65535) && decide (0 ≤ p.z ∧ p.z ≤ 255) && decide (1 ≤ p.k ∧ p.k ≤ 7)
theorem may_iff (p : Pr) : may p = true ↔ p.May := by
  unfold may
  simp only [Bool.and_eq_true, decide_eq_true_eq]
  exact ⟨fun ⟨⟨⟨⟨⟨⟨⟨h1, h2⟩, h3⟩, h4⟩, h5⟩, h6⟩, h7⟩, h8⟩ => ⟨h1, h2, h3, h4, h5, h6, h7, h8⟩, fun ⟨h1, h2, h3, h4, h5, h6, h7, h8⟩ => ⟨⟨⟨⟨⟨⟨⟨h1, h2⟩, h3⟩, h4⟩, h5⟩, h6⟩, h7⟩, h8⟩⟩
/-- What == of two answers. -/
def eqP (p q : Pr) : Bool := (p.d == q.d) && (p.f == q.f) && (p.c == q.c) && (p.r == q.r) && (p.t == q.t) && (p.n == q.n) && (p.z == q.z) && (p.k == q.k)
theorem eqP_self (p : Pr) : eqP p p = true := by simp [eqP]
theorem eqP_eq {p q : Pr} (h : eqP p q = true) : p = q := by
  simp only [eqP, Bool.and_eq_true, beq_iff_eq] at h
  obtain ⟨⟨⟨⟨⟨⟨⟨h1, h2⟩, h3⟩, h4⟩, h5⟩, h6⟩, h7⟩, h8⟩ := h
  cases p; cases q; simp_all
theorem eqP_iff (p q : Pr) : eqP p q = true ↔ p = q := ⟨eqP_eq, fun h => h ▸ eqP_self p⟩
/-- Each parameter brought into its bounds. -/
def bounded (p : Pr) : Pr := ⟨min (max p.d 1) 63, min p.f 2, min p.c 3, min p.r 63, min (max p.t 1) 255, min (max p.n 1) 65535, min (max p.z 0) 255, min (max p.k 1) 7⟩
theorem may_bounded (p : Pr) : eqP p (bounded p) = may p := by
  rw [Bool.eq_iff_iff, may_iff]
  simp only [eqP, bounded, Bool.and_eq_true, beq_iff_eq]
  refine ⟨fun ⟨⟨⟨⟨⟨⟨⟨h1, h2⟩, h3⟩, h4⟩, h5⟩, h6⟩, h7⟩, h8⟩ => ⟨?_, ?_, ?_, ?_, ?_, ?_, ?_, ?_⟩, fun ⟨h1, h2, h3, h4, h5, h6, h7, h8⟩ => ⟨⟨⟨⟨⟨⟨⟨?_, ?_⟩, ?_⟩, ?_⟩, ?_⟩, ?_⟩, ?_⟩, ?_⟩⟩ <;> omega
theorem bounded_in {p : Pr} (h : p.In) : (bounded p).In := by
  obtain ⟨h1, h2, h3, h4⟩ := h
  refine ⟨?_, ?_, ?_, ?_⟩ <;> simp only [bounded] <;> omega
/-- The eight octets. -/
def octets (p : Pr) : ByteArray := ⟨#[UInt8.ofNat p.d.toNat, UInt8.ofNat (p.f + 16 * p.c).toNat, UInt8.ofNat p.r.toNat, UInt8.ofNat p.t.toNat, UInt8.ofNat (p.n % 256).toNat, UInt8.ofNat (p.n / 256).toNat, UInt8.ofNat p.z.toNat, UInt8.ofNat p.k.toNat]⟩
theorem octets_size (p : Pr) : (octets p).size = 8 := rfl
theorem octets_le (p : Pr) : 8 ≤ (octets p).size := Nat.le_refl 8
/-- What Put answers. -/
def putS (p : Pr) : ByteArray := if may p then octets p else ⟨#[]⟩
def putE (p : Pr) : Int := if may p then 0 else 2
/-- What eight octets say. -/
def read (s : ByteArray) (h : 8 ≤ s.size) : Pr := ⟨(s[0].toNat : Int), (s[1].toNat : Int) % (16 : Int), (s[1].toNat : Int) / (16 : Int), (s[2].toNat : Int), (s[3].toNat : Int), (s[4].toNat : Int) + (256 : Int) * (s[5].toNat : Int), (s[6].toNat : Int), (s[7].toNat : Int)⟩
theorem read_in (s : ByteArray) (h : 8 ≤ s.size) : (read s h).In := by
  have h0 := oct_lt s[0]
  have h1 := oct_lt s[1]
  have h2 := oct_lt s[2]
  refine ⟨?_, ?_, ?_, ?_⟩ <;> simp only [read] <;> omega
theorem cons8 (s : ByteArray) (h : 8 ≤ s.size) : s.data.toList = s[0] :: s[1] :: s[2] :: s[3] :: s[4] :: s[5] :: s[6] :: s[7] :: s.data.toList.drop 8 := by
  have hd : ∀ i (hi : i < s.size), s.data.toList.drop i = s[i] :: s.data.toList.drop (i + 1) := fun i hi => List.drop_eq_getElem_cons (l := s.data.toList) (i := i) (by simpa using hi)
  rw [← hd 7 (by omega), ← hd 6 (by omega), ← hd 5 (by omega), ← hd 4 (by omega), ← hd 3 (by omega), ← hd 2 (by omega), ← hd 1 (by omega), ← hd 0 (by omega)]
  rfl
theorem oct_back (c : UInt8) (x : Nat) (h : x = c.toNat) : UInt8.ofNat x = c := by rw [h]; simp
theorem octets_read (s : ByteArray) (h : 8 ≤ s.size) : octets (read s h) = s.extract 0 8 := by
  apply bext
  rw [ext_list, List.drop_zero]
  have e := cons8 s h
  have h0 := oct_lt s[0]
  have h1 := oct_lt s[1]
  have h4 := oct_lt s[4]
  have h5 := oct_lt s[5]
  rw [e]
  show [_, _, _, _, _, _, _, _] = [_, _, _, _, _, _, _, _]
  simp only [List.cons.injEq, read]
  refine ⟨oct_back _ _ ?_, oct_back _ _ ?_, oct_back _ _ ?_, oct_back _ _ ?_, oct_back _ _ ?_, oct_back _ _ ?_, oct_back _ _ ?_, oct_back _ _ ?_, trivial⟩ <;> omega
theorem octets_read_eq (s : ByteArray) (h : 8 ≤ s.size) (h' : s.size = 8) : octets (read s h) = s := by
  rw [octets_read]
  apply bext
  rw [ext_list, List.drop_zero, List.take_of_length_le (by rw [size_toList]; omega)]
theorem octets_read_ne (s : ByteArray) (h : 8 ≤ s.size) (h' : 8 < s.size) : octets (read s h) ≠ s := by
  intro e
  have := congrArg ByteArray.size e
  rw [octets_size] at this
  omega
theorem ofNat_toNat {x : Int} (h : 0 ≤ x) (h' : x < 256) : ((UInt8.ofNat x.toNat).toNat : Int) = x := by
  rw [UInt8.toNat_ofNat']; omega
theorem read_octets (p : Pr) (h : p.In) (hm : p.May) : read (octets p) (octets_le p) = p := by
  obtain ⟨m1, m2, m3, m4, m5, m6, m7, m8⟩ := hm
  obtain ⟨i1, i2, i3, i4⟩ := h
  have e0 : (((octets p)[0]'(by rw [octets_size]; decide)).toNat : Int) = p.d := ofNat_toNat (by omega) (by omega)
  have e1 : (((octets p)[1]'(by rw [octets_size]; decide)).toNat : Int) = p.f + 16 * p.c := ofNat_toNat (by omega) (by omega)
  have e2 : (((octets p)[2]'(by rw [octets_size]; decide)).toNat : Int) = p.r := ofNat_toNat (by omega) (by omega)
  have e3 : (((octets p)[3]'(by rw [octets_size]; decide)).toNat : Int) = p.t := ofNat_toNat (by omega) (by omega)
  have e4 : (((octets p)[4]'(by rw [octets_size]; decide)).toNat : Int) = p.n % 256 := ofNat_toNat (by omega) (by omega)
  have e5 : (((octets p)[5]'(by rw [octets_size]; decide)).toNat : Int) = p.n / 256 := ofNat_toNat (by omega) (by omega)
  have e6 : (((octets p)[6]'(by rw [octets_size]; decide)).toNat : Int) = p.z := ofNat_toNat (by omega) (by omega)
  have e7 : (((octets p)[7]'(by rw [octets_size]; decide)).toNat : Int) = p.k := ofNat_toNat (by omega) (by omega)
  have r1 : (p.f + 16 * p.c) % 16 = p.f := by omega
  have r2 : (p.f + 16 * p.c) / 16 = p.c := by omega
  have r3 : p.n % 256 + 256 * (p.n / 256) = p.n := by omega
  unfold read
  rw [e0, e1, e2, e3, e4, e5, e6, e7, r1, r2, r3]
/-- What Get answers. -/
def gotP (s : ByteArray) : Pr := if h : 8 ≤ s.size then if s.size = 8 ∧ may (read s h) = true then read s h else zero else zero
def gotE (s : ByteArray) : Int := if h : 8 ≤ s.size then if s.size = 8 ∧ may (read s h) = true then 0 else 70 else 20
theorem got_short {s : ByteArray} (h : s.size < 8) : gotP s = zero ∧ gotE s = 20 := by
  unfold gotP gotE; rw [dif_neg (by omega), dif_neg (by omega)]; exact ⟨rfl, rfl⟩
theorem got_no {s : ByteArray} (h : 8 ≤ s.size) (h' : 8 < s.size ∨ may (read s h) = false) : gotP s = zero ∧ gotE s = 70 := by
  unfold gotP gotE
  have : ¬ (s.size = 8 ∧ may (read s h) = true) := by
    rintro ⟨h1, h2⟩
    rcases h' with h' | h'
    · omega
    · rw [h2] at h'; cases h'
  rw [dif_pos h, dif_pos h, if_neg this, if_neg this]; exact ⟨rfl, rfl⟩
theorem got_ok {s : ByteArray} (h : 8 ≤ s.size) (h1 : s.size = 8) (h2 : may (read s h) = true) : gotP s = read s h ∧ gotE s = 0 := by
  unfold gotP gotE
  rw [dif_pos h, dif_pos h, if_pos ⟨h1, h2⟩, if_pos ⟨h1, h2⟩]; exact ⟨rfl, rfl⟩
theorem zero_in : zero.In := by refine ⟨?_, ?_, ?_, ?_⟩ <;> decide
theorem gotP_in (s : ByteArray) : (gotP s).In := by
  unfold gotP
  split
  · split
    · exact read_in _ _
    · exact zero_in
  · exact zero_in
/-- What is put is got as it was. -/
theorem got_octets (p : Pr) (h : p.In) (hm : may p = true) : gotP (octets p) = p ∧ gotE (octets p) = 0 := by
  have e := read_octets p h ((may_iff p).1 hm)
  have := got_ok (s := octets p) (octets_le p) rfl (by rw [e]; exact hm)
  rw [e] at this
  exact this
theorem got_nothing : gotP ⟨#[]⟩ = zero ∧ gotE ⟨#[]⟩ = 20 := got_short (by decide)
/-- What is got is put as it was. -/
theorem got_back (s : ByteArray) : (gotE s = 0 ∧ may (gotP s) = true ∧ octets (gotP s) = s) ∨ ((gotE s = 20 ∨ gotE s = 70) ∧ gotP s = zero) := by
  by_cases h : 8 ≤ s.size
  · by_cases h1 : s.size = 8
    · cases h2 : may (read s h)
      · obtain ⟨e1, e2⟩ := got_no h (.inr h2)
        exact .inr ⟨.inr e2, e1⟩
      · obtain ⟨e1, e2⟩ := got_ok h h1 h2
        exact .inl ⟨e2, by rw [e1]; exact h2, by rw [e1]; exact octets_read_eq s h h1⟩
    · obtain ⟨e1, e2⟩ := got_no h (.inl (by omega))
      exact .inr ⟨.inr e2, e1⟩
  · obtain ⟨e1, e2⟩ := got_short (s := s) (by omega)
    exact .inr ⟨.inl e2, e1⟩
/-- What is agreed. -/
def agree (o a : Pr) : Pr := ⟨a.d, a.f, a.c, a.r, a.t, min o.n a.n, a.z, min o.k a.k⟩
theorem agree_in {o a : Pr} (h : a.In) : (agree o a).In := ⟨h.d, h.f, h.c, h.r⟩
/-- Does one lower the other one? -/
def lowers (a b : Pr) : Bool := (a.d == b.d) && (a.f == b.f) && (a.c == b.c) && (a.r == b.r) && (a.t == b.t) && (a.z == b.z) && decide (a.n ≤ b.n) && decide (a.k ≤ b.k)
theorem lowers_agree (a b : Pr) : eqP a (agree a b) = lowers a b := by
  rw [Bool.eq_iff_iff]
  simp only [eqP, agree, lowers, Bool.and_eq_true, beq_iff_eq, decide_eq_true_eq]
  refine ⟨fun ⟨⟨⟨⟨⟨⟨⟨h1, h2⟩, h3⟩, h4⟩, h5⟩, h6⟩, h7⟩, h8⟩ => ⟨⟨⟨⟨⟨⟨⟨?_, ?_⟩, ?_⟩, ?_⟩, ?_⟩, ?_⟩, ?_⟩, ?_⟩, fun ⟨⟨⟨⟨⟨⟨⟨h1, h2⟩, h3⟩, h4⟩, h5⟩, h6⟩, h7⟩, h8⟩ => ⟨⟨⟨⟨⟨⟨⟨?_, ?_⟩, ?_⟩, ?_⟩, ?_⟩, ?_⟩, ?_⟩, ?_⟩⟩ <;> omega
theorem lowers_of_agree (o a : Pr) : lowers (agree o a) a = true := by
  have h1 : min o.n a.n ≤ a.n := by omega
  have h2 : min o.k a.k ≤ a.k := by omega
  simp [agree, lowers, h1, h2]
theorem pr_ext {p q : Pr} (h1 : p.d = q.d) (h2 : p.f = q.f) (h3 : p.c = q.c) (h4 : p.r = q.r) (h5 : p.t = q.t) (h6 : p.n = q.n) (h7 : p.z = q.z) (h8 : p.k = q.k) : p = q := by
  cases p; cases q; simp_all
theorem agree_again (o a : Pr) : agree o (agree o a) = agree o a := by
  apply pr_ext <;> simp only [agree] <;> omega
theorem agree_asked (o a : Pr) : agree a (agree o a) = agree o a := by
  apply pr_ext <;> simp only [agree] <;> omega
theorem agree_may {o a : Pr} (h : may o = true) (h' : may a = true) : may (agree o a) = true := by
  rw [may_iff] at *
  obtain ⟨m1, m2, m3, m4, m5, m6, m7, m8⟩ := h
  obtain ⟨a1, a2, a3, a4, a5, a6, a7, a8⟩ := h'
  refine ⟨?_, ?_, ?_, ?_, ?_, ?_, ?_, ?_⟩ <;> simp only [agree] <;> omega
end Go.Proofs.YtffahjlboakakaaDoor.Pn

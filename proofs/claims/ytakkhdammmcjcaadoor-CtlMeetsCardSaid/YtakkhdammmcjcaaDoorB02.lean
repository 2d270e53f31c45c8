/-
  Layer 22, put together: PnMath, MscMath (what each says stands ahead of it). Conditions: as each names them.
-/
import Derived.Test.YtakkhdammmcjcaaDoorB01
/-
  The plain mathematics of layer 8: a channel's parameters, their bounds, their eight octets, what octets say, what is agreed, what lowers. Conditions: octets are less than 256.
-/
namespace Go.Proofs.YtakkhdammmcjcaaDoor.Pn
open Go.Proofs.YtakkhdammmcjcaaDoor.Base Go.Proofs.YtakkhdammmcjcaaDoor.Mem
/-- Parameters. -/
structure Pr where
  d : Int
  f : Int
  c : Int
  r : Int
  t : Int
  n : Int
  z : Int
  k : Int
/-- The octets among them are octets. -/
structure Pr.In (p : Pr) : Prop where
  d : 0 ≤ p.d ∧ p.d < 256
  f : 0 ≤ p.f ∧ p.f < 256
  c : 0 ≤ p.c ∧ p.c < 256
  r : 0 ≤ p.r ∧ p.r < 256
def zero : Pr := ⟨0, 0, 0, 0, 0, 0, 0, 0⟩
/-- May there be such parameters? -/
structure Pr.May (p : Pr) : Prop where
  d : 1 ≤ p.d ∧ p.d ≤ 63
  f : p.f ≤ 2
  c : p.c ≤ 3
  r : p.r ≤ 63
  t : 1 ≤ p.t ∧ p.t ≤ 255
  n : 1 ≤ p.n ∧ p.n ≤ 65535
  z : 0 ≤ p.z ∧ p.z ≤ 255
  k : 1 ≤ p.k ∧ p.k ≤ 7
def may (p : Pr) : Bool := decide (1 ≤ p.d ∧ p.d ≤ 63) && decide (p.f ≤ 2) && decide (p.c ≤ 3) && decide (p.r ≤ 63) && decide (1 ≤ p.t ∧ p.t ≤ 255) && decide (1 ≤ p.n ∧ p.n ≤ 65535) && decide (0 ≤ p.z ∧ p.z ≤ 255) && decide (1 ≤ p.k ∧ p.k ≤ 7)
theorem may_iff (p : Pr) : may p = true ↔ p.May := by
  unfold may
  simp only [Bool.and_eq_true, decide_eq_true_eq]
  exact ⟨fun ⟨⟨⟨⟨⟨⟨⟨h1, h2⟩, h3⟩, h4⟩, h5⟩, h6⟩, h7⟩, h8⟩ => ⟨h1, h2, h3, h4, h5, h6, h7, h8⟩, fun ⟨h1, h2, h3, h4, h5, h6, h7, h8⟩ => ⟨⟨⟨⟨⟨⟨⟨h1, h2⟩, h3⟩, h4⟩, h5⟩, h6⟩, h7⟩, h8⟩⟩
/-- What == of two answers. -/
def eqP (p q : Pr) : Bool := (p.d == q.d) && (p.f == q.f) && (p.c == q.c) && (p.r == q.r) && (p.t == q.t) && (p.n == q.n) && (p.z == q.z) && (p.k == q.k)
theorem eqP_self (p : Pr) : eqP p p = true := by simp [eqP]
theorem eqP_eq {p q : Pr} (h : eqP p q = true) : p = q := by
  simp only [eqP, Bool.and_eq_true, beq_iff_eq] at h
  obtain ⟨⟨⟨⟨⟨⟨⟨h1, h2⟩, h3⟩, h4⟩, h5⟩, h6⟩, h7⟩, h8⟩ := h
  cases p; cases q; simp_all
theorem eqP_iff (p q : Pr) : eqP p q = true ↔ p = q := ⟨eqP_eq, fun h => h ▸ eqP_self p⟩
/-- Each parameter brought into its bounds. -/
def bounded (p : Pr) : Pr := ⟨min (max p.d 1) 63, min p.f 2, min p.c 3, min p.r 63, min (max p.t 1) 255, min (max p.n 1) 65535, min (max p.z 0) 255, min (max p.k 1) 7⟩
theorem may_bounded (p : Pr) : eqP p (bounded p) = may p := by
  rw [Bool.eq_iff_iff, may_iff]
  simp only [eqP, bounded, Bool.and_eq_true, beq_iff_eq]
  refine ⟨fun ⟨⟨⟨⟨⟨⟨⟨h1, h2⟩, h3⟩, h4⟩, h5⟩, h6⟩, h7⟩, h8⟩ => ⟨?_, ?_, ?_, ?_, ?_, ?_, ?_, ?_⟩, fun ⟨h1, h2, h3, h4, h5, h6, h7, h8⟩ => ⟨⟨⟨⟨⟨⟨⟨?_, ?_⟩, ?_⟩, ?_⟩, ?_⟩, ?_⟩, ?_⟩, ?_⟩⟩ <;> omega
theorem bounded_in {p : Pr} (h : p.In) : (bounded p).In := by
  obtain ⟨h1, h2, h3, h4⟩ := h
  refine ⟨?_, ?_, ?_, ?_⟩ <;> simp only [bounded] <;> omega
/-- The eight octets. -/
def octets (p : Pr) : ByteArray := ⟨#[UInt8.ofNat p.d.toNat, UInt8.ofNat (p.f + 16 * p.c).toNat, UInt8.ofNat p.r.toNat, UInt8.ofNat p.t.toNat, UInt8.ofNat (p.n % 256).toNat, UInt8.ofNat (p.n / 256).toNat, UInt8.ofNat p.z.toNat, UInt8.ofNat p.k.toNat]⟩
theorem octets_size (p : Pr) : (octets p).size = 8 := rfl
theorem octets_le (p : Pr) : 8 ≤ (octets p).size := Nat.le_refl 8
/-- What Put answers. -/
def putS (p : Pr) : ByteArray := if may p then octets p else ⟨#[]⟩
def putE (p : Pr) : Int := if may p then 0 else 2
/-- What eight octets say. -/
def read (s : ByteArray) (h : 8 ≤ s.size) : Pr := ⟨(s[0].toNat : Int), (s[1].toNat : Int) % (16 : Int), (s[1].toNat : Int) / (16 : Int), (s[2].toNat : Int), (s[3].toNat : Int), (s[4].toNat : Int) + (256 : Int) * (s[5].toNat : Int), (s[6].toNat : Int), (s[7].toNat : Int)⟩
theorem read_in (s : ByteArray) (h : 8 ≤ s.size) : (read s h).In := by
  have h0 := oct_lt s[0]
  have h1 := oct_lt s[1]
  have h2 := oct_lt s[2]
  refine ⟨?_, ?_, ?_, ?_⟩ <;> simp only [read] <;> omega
theorem cons8 (s : ByteArray) (h : 8 ≤ s.size) : s.data.toList = s[0] :: s[1] :: s[2] :: s[3] :: s[4] :: s[5] :: s[6] :: s[7] :: s.data.toList.drop 8 := by
  have hd : ∀ i (hi : i < s.size), s.data.toList.drop i = s[i] :: s.data.toList.drop (i + 1) := fun i hi => List.drop_eq_getElem_cons (l := s.data.toList) (i := i) (by simpa using hi)
  rw [← hd 7 (by omega), ← hd 6 (by omega), ← hd 5 (by omega), ← hd 4 (by omega), ← hd 3 (by omega), ← hd 2 (by omega), ← hd 1 (by omega), ← hd 0 (by omega)]
  rfl
theorem oct_back (c : UInt8) (x : Nat) (h : x = c.toNat) : UInt8.ofNat x = c := by rw [h]; simp
theorem octets_read (s : ByteArray) (h : 8 ≤ s.size) : octets (read s h) = s.extract 0 8 := by
  apply bext
  rw [ext_list, List.drop_zero]
  have e := cons8 s h
  have h0 := oct_lt s[0]
  have h1 := oct_lt s[1]
  have h4 := oct_lt s[4]
  have h5 := oct_lt s[5]
  rw [e]
  show [_, _, _, _, _, _, _, _] = [_, _, _, _, _, _, _, _]
  simp only [List.cons.injEq, read]
  refine ⟨oct_back _ _ ?_, oct_back _ _ ?_, oct_back _ _ ?_, oct_back _ _ ?_, oct_back _ _ ?_, oct_back _ _ ?_, oct_back _ _ ?_, oct_back _ _ ?_, trivial⟩ <;> omega
theorem octets_read_eq (s : ByteArray) (h : 8 ≤ s.size) (h' : s.size = 8) : octets (read s h) = s := by
  rw [octets_read]
  apply bext
  rw [ext_list, List.drop_zero, List.take_of_length_le (by rw [size_toList]; omega)]
theorem octets_read_ne (s : ByteArray) (h : 8 ≤ s.size) (h' : 8 < s.size) : octets (read s h) ≠ s := by
  intro e
  have := congrArg ByteArray.size e
  rw [octets_size] at this
  omega
theorem ofNat_toNat {x : Int} (h : 0 ≤ x) (h' : x < 256) : ((UInt8.ofNat x.toNat).toNat : Int) = x := by
  rw [UInt8.toNat_ofNat']; omega
theorem read_octets (p : Pr) (h : p.In) (hm : p.May) : read (octets p) (octets_le p) = p := by
  obtain ⟨m1, m2, m3, m4, m5, m6, m7, m8⟩ := hm
  obtain ⟨i1, i2, i3, i4⟩ := h
  have e0 : (((octets p)[0]'(by rw [octets_size]; decide)).toNat : Int) = p.d := ofNat_toNat (by omega) (by omega)
  have e1 : (((octets p)[1]'(by rw [octets_size]; decide)).toNat : Int) = p.f + 16 * p.c := ofNat_toNat (by omega) (by omega)
  have e2 : (((octets p)[2]'(by rw [octets_size]; decide)).toNat : Int) = p.r := ofNat_toNat (by omega) (by omega)
  have e3 : (((octets p)[3]'(by rw [octets_size]; decide)).toNat : Int) = p.t := ofNat_toNat (by omega) (by omega)
  have e4 : (((octets p)[4]'(by rw [octets_size]; decide)).toNat : Int) = p.n % 256 := ofNat_toNat (by omega) (by omega)
  have e5 : (((octets p)[5]'(by rw [octets_size]; decide)).toNat : Int) = p.n / 256 := ofNat_toNat (by omega) (by omega)
  have e6 : (((octets p)[6]'(by rw [octets_size]; decide)).toNat : Int) = p.z := ofNat_toNat (by omega) (by omega)
  have e7 : (((octets p)[7]'(by rw [octets_size]; decide)).toNat : Int) = p.k := ofNat_toNat (by omega) (by omega)
  have r1 : (p.f + 16 * p.c) % 16 = p.f := by omega
  have r2 : (p.f + 16 * p.c) / 16 = p.c := by omega
  have r3 : p.n % 256 + 256 * (p.n / 256) = p.n := by omega
  unfold read
  rw [e0, e1, e2, e3, e4, e5, e6, e7, r1, r2, r3]
/-- What Get answers. -/
def gotP (s : ByteArray) : Pr := if h : 8 ≤ s.size then if s.size = 8 ∧ may (read s h) = true then read s h else zero else zero
def gotE (s : ByteArray) : Int := if h : 8 ≤ s.size then if s.size = 8 ∧ may (read s h) = true then 0 else 70 else 20
theorem got_short {s : ByteArray} (h : s.size < 8) : gotP s = zero ∧ gotE s = 20 := by
  unfold gotP gotE; rw [dif_neg (by omega), dif_neg (by omega)]; exact ⟨rfl, rfl⟩
theorem got_no {s : ByteArray} (h : 8 ≤ s.size) (h' : 8 < s.size ∨ may (read s h) = false) : gotP s = zero ∧ gotE s = 70 := by
  unfold gotP gotE
  have : ¬ (s.size = 8 ∧ may (read s h) = true) := by
    rintro ⟨h1, h2⟩
    rcases h' with h' | h'
    · omega
    · rw [h2] at h'; cases h'
  rw [dif_pos h, dif_pos h, if_neg this, if_neg this]; exact ⟨rfl, rfl⟩
theorem got_ok {s : ByteArray} (h : 8 ≤ s.size) (h1 : s.size = 8) (h2 : may (read s h) = true) : gotP s = read s h ∧ gotE s = 0 := by
  unfold gotP gotE
  rw [dif_pos h, dif_pos h, if_pos ⟨h1, h2⟩, if_pos ⟨h1, h2⟩]; exact ⟨rfl, rfl⟩
theorem zero_in : zero.In := by refine ⟨?_, ?_, ?_, ?_⟩ <;> decide
theorem gotP_in (s : ByteArray) : (gotP s).In := by
  unfold gotP
  split
  · split
    · exact read_in _ _
    · exact zero_in
  · exact zero_in
/-- What is put is got as it was. -/
theorem got_octets (p : Pr) (h : p.In) (hm : may p = true) : gotP (octets p) = p ∧ gotE (octets p) = 0 := by
  have e := read_octets p h ((may_iff p).1 hm)
  have := got_ok (s := octets p) (octets_le p) rfl (by rw [e]; exact hm)
  rw [e] at this
  exact this
theorem got_nothing : gotP ⟨#[]⟩ = zero ∧ gotE ⟨#[]⟩ = 20 := got_short (by decide)
/-- What is got is put as it was. -/
theorem got_back (s : ByteArray) : (gotE s = 0 ∧ may (gotP s) = true ∧ octets (gotP s) = s) ∨ ((gotE s = 20 ∨ gotE s = 70) ∧ gotP s = zero) := by
  by_cases h : 8 ≤ s.size
  · by_cases h1 : s.size = 8
    · cases h2 : may (read s h)
      · obtain ⟨e1, e2⟩ := got_no h (.inr h2)
        exact .inr ⟨.inr e2, e1⟩
      · obtain ⟨e1, e2⟩ := got_ok h h1 h2
        exact .inl ⟨e2, by rw [e1]; exact h2, by rw [e1]; exact octets_read_eq s h h1⟩
    · obtain ⟨e1, e2⟩ := got_no h (.inl (by omega))
      exact .inr ⟨.inr e2, e1⟩
  · obtain ⟨e1, e2⟩ := got_short (s := s) (by omega)
    exact .inr ⟨.inl e2, e1⟩
/-- What is agreed. -/
def agree (o a : Pr) : Pr := ⟨a.d, a.f, a.c, a.r, a.t, min o.n a.n, a.z, min o.k a.k⟩
theorem agree_in {o a : Pr} (h : a.In) : (agree o a).In := ⟨h.d, h.f, h.c, h.r⟩
/-- Does one lower the other one? -/
def lowers (a b : Pr) : Bool := (a.d == b.d) && (a.f == b.f) && (a.c == b.c) && (a.r == b.r) && (a.t == b.t) && (a.z == b.z) && decide (a.n ≤ b.n) && decide (a.k ≤ b.k)
theorem lowers_agree (a b : Pr) : eqP a (agree a b) = lowers a b := by
  rw [Bool.eq_iff_iff]
  simp only [eqP, agree, lowers, Bool.and_eq_true, beq_iff_eq, decide_eq_true_eq]
  refine ⟨fun ⟨⟨⟨⟨⟨⟨⟨h1, h2⟩, h3⟩, h4⟩, h5⟩, h6⟩, h7⟩, h8⟩ => ⟨⟨⟨⟨⟨⟨⟨?_, ?_⟩, ?_⟩, ?_⟩, ?_⟩, ?_⟩, ?_⟩, ?_⟩, fun ⟨⟨⟨⟨⟨⟨⟨h1, h2⟩, h3⟩, h4⟩, h5⟩, h6⟩, h7⟩, h8⟩ => ⟨⟨⟨⟨⟨⟨⟨?_, ?_⟩, ?_⟩, ?_⟩, ?_⟩, ?_⟩, ?_⟩, ?_⟩⟩ <;> omega
theorem lowers_of_agree (o a : Pr) : lowers (agree o a) a = true := by
  have h1 : min o.n a.n ≤ a.n := by omega
  have h2 : min o.k a.k ≤ a.k := by omega
  simp [agree, lowers, h1, h2]
theorem pr_ext {p q : Pr} (h1 : p.d = q.d) (h2 : p.f = q.f) (h3 : p.c = q.c) (h4 : p.r = q.r) (h5 : p.t = q.t) (h6 : p.n = q.n) (h7 : p.z = q.z) (h8 : p.k = q.k) : p = q := by
  cases p; cases q; simp_all
theorem agree_again (o a : Pr) : agree o (agree o a) = agree o a := by
  apply pr_ext <;> simp only [agree] <;> omega
theorem agree_asked (o a : Pr) : agree a (agree o a) = agree o a := by
  apply pr_ext <;> simp only [agree] <;> omega
theorem agree_may {o a : Pr} (h : may o = true) (h' : may a = true) : may (agree o a) = true := by
  rw [may_iff] at *
  obtain ⟨m1, m2, m3, m4, m5, m6, m7, m8⟩ := h
  obtain ⟨a1, a2, a3, a4, a5, a6, a7, a8⟩ := h'
  refine ⟨?_, ?_, ?_, ?_, ?_, ?_, ?_, ?_⟩ <;> simp only [agree] <;> omega
end Go.Proofs.YtakkhdammmcjcaaDoor.Pn
/-
  The plain mathematics of layer 9: what a channel's signals say, their octet, two octets or three, what octets say. Conditions: the bounds that each names.
-/
namespace Go.Proofs.YtakkhdammmcjcaaDoor.Msc
open Go.Proofs.YtakkhdammmcjcaaDoor.Base Go.Proofs.YtakkhdammmcjcaaDoor.Mem Go.Proofs.YtakkhdammmcjcaaDoor.Ea
/-- A status. -/
structure St where
  d : Nat
  f : Bool
  c : Bool
  r : Bool
  i : Bool
  v : Bool
  b : Bool
  k : Nat
structure St.In (s : St) : Prop where
  d : s.d < 256
  k : s.k < 256
def zero : St := ⟨0, false, false, false, false, false, false, 0⟩
theorem zero_in : zero.In := ⟨by decide, by decide⟩
/-- What == of two answers. -/
def eqS (p q : St) : Bool := (p.d == q.d) && (p.f == q.f) && (p.c == q.c) && (p.r == q.r) && (p.i == q.i) && (p.v == q.v) && (p.b == q.b) && (p.k == q.k)
theorem eqS_self (p : St) : eqS p p = true := by simp [eqS]
theorem eqS_eq {p q : St} (h : eqS p q = true) : p = q := by
  simp only [eqS, Bool.and_eq_true, beq_iff_eq] at h
  obtain ⟨⟨⟨⟨⟨⟨⟨h1, h2⟩, h3⟩, h4⟩, h5⟩, h6⟩, h7⟩, h8⟩ := h
  cases p; cases q; simp_all
theorem eqS_iff (p q : St) : eqS p q = true ↔ p = q := ⟨eqS_eq, fun h => h ▸ eqS_self p⟩
theorem eqS_of {p q : St} : eqS p q = decide (p.d = q.d ∧ p.f = q.f ∧ p.c = q.c ∧ p.r = q.r ∧ p.i = q.i ∧ p.v = q.v ∧ p.b = q.b ∧ p.k = q.k) := by
  rw [Bool.eq_iff_iff]; simp [eqS, and_assoc]
/-- The signals' octet. -/
def sig (f c r i v : Bool) : Nat := 1 + 2 * f.toNat + 4 * c.toNat + 8 * r.toNat + 64 * i.toNat + 128 * v.toNat
def bt (s : St) : Nat := sig s.f s.c s.r s.i s.v
theorem sig_lt (f c r i v : Bool) : sig f c r i v < 256 := by cases f <;> cases c <;> cases r <;> cases i <;> cases v <;> decide
theorem sig_odd (f c r i v : Bool) : sig f c r i v % 2 = 1 := by cases f <;> cases c <;> cases r <;> cases i <;> cases v <;> decide
theorem bt_lt (s : St) : bt s < 256 := sig_lt _ _ _ _ _
theorem bt_odd (s : St) : bt s % 2 = 1 := sig_odd _ _ _ _ _
/-- What an octet of signals says, by its numbers. -/
abbrev n1 (n : Nat) : Bool := decide (n / 2 % 2 = 1)
abbrev n2 (n : Nat) : Bool := decide (n / 4 % 2 = 1)
abbrev n3 (n : Nat) : Bool := decide (n / 8 % 2 = 1)
abbrev n6 (n : Nat) : Bool := decide (n / 64 % 2 = 1)
abbrev n7 (n : Nat) : Bool := decide (n / 128 = 1)
theorem sig_back : ∀ f c r i v z : Bool, n1 (sig f c r i v - z.toNat) = f ∧ n2 (sig f c r i v - z.toNat) = c ∧ n3 (sig f c r i v - z.toNat) = r ∧ n6 (sig f c r i v - z.toNat) = i ∧ n7 (sig f c r i v - z.toNat) = v ∧ decide ((sig f c r i v - z.toNat) % 2 = 0) = z := by decide +kernel
theorem sig_is (n : Nat) (h : n < 256) (h' : n / 16 % 4 = 0) : sig (n1 n) (n2 n) (n3 n) (n6 n) (n7 n) - (decide (n % 2 = 0)).toNat = n := by
  have : ∀ m : Fin 256, m.val / 16 % 4 = 0 → sig (n1 m.val) (n2 m.val) (n3 m.val) (n6 m.val) (n7 m.val) - (decide (m.val % 2 = 0)).toNat = m.val := by decide +kernel
  exact this ⟨n, h⟩ h'
theorem sig_no (n : Nat) (h : n < 256) (h' : n / 16 % 4 ≠ 0) : sig (n1 n) (n2 n) (n3 n) (n6 n) (n7 n) - (decide (n % 2 = 0)).toNat ≠ n := by
  have : ∀ m : Fin 256, m.val / 16 % 4 ≠ 0 → sig (n1 m.val) (n2 m.val) (n3 m.val) (n6 m.val) (n7 m.val) - (decide (m.val % 2 = 0)).toNat ≠ m.val := by decide +kernel
  exact this ⟨n, h⟩ h'
/-- May there be such a status? -/
def may (s : St) : Bool := decide (s.d ≤ 63) && decide (s.k ≤ 15) && (s.b || s.k == 0)
structure St.May (s : St) : Prop where
  d : s.d ≤ 63
  k : s.k ≤ 15
  b : s.b = false → s.k = 0
theorem may_iff (s : St) : may s = true ↔ s.May := by
  unfold may
  simp only [Bool.and_eq_true, Bool.or_eq_true, decide_eq_true_eq, beq_iff_eq]
  refine ⟨fun ⟨⟨h1, h2⟩, h3⟩ => ⟨h1, h2, fun hb => ?_⟩, fun ⟨h1, h2, h3⟩ => ⟨⟨h1, h2⟩, ?_⟩⟩
  · rcases h3 with h3 | h3
    · rw [hb] at h3; cases h3
    · exact h3
  · cases hb : s.b
    · exact .inr (h3 hb)
    · exact .inl rfl
/-- The octets. -/
def three (a b c : Nat) : ByteArray := ⟨#[UInt8.ofNat a, UInt8.ofNat b, UInt8.ofNat c]⟩
def octets (s : St) : ByteArray := if s.b then three (addr s.d true) (bt s - 1) (16 * s.k + 3) else two (addr s.d true) (bt s)
theorem octets_two {s : St} (h : s.b = false) : octets s = two (addr s.d true) (bt s) := by unfold octets; rw [h]; rfl
theorem octets_three {s : St} (h : s.b = true) : octets s = three (addr s.d true) (bt s - 1) (16 * s.k + 3) := by unfold octets; rw [h]; rfl
theorem octets_size (s : St) : (octets s).size = 2 ∨ (octets s).size = 3 := by
  cases h : s.b
  · rw [octets_two h]; exact .inl rfl
  · rw [octets_three h]; exact .inr rfl
/-- What Put answers. -/
def putS (s : St) : ByteArray := if may s then octets s else ⟨#[]⟩
def putE (s : St) : Int := if may s then 0 else 2
/-- What octets say. -/
def rd (a n x : Nat) : St := ⟨spD a, n1 n, n2 n, n3 n, n6 n, n7 n, decide (n % 2 = 0), if n % 2 = 0 then x / 16 else 0⟩
def third (v : ByteArray) : Nat := if h : 2 < v.size then v[2].toNat else 0
def rdv (v : ByteArray) : St := if h : 2 ≤ v.size then rd v[0].toNat v[1].toNat (third v) else zero
/-- Has it the octets that its signals' octet promises? -/
def whole (v : ByteArray) : Bool := if h : 2 ≤ v.size then decide (v[1].toNat % 2 = 1) || decide (3 ≤ v.size) else false
def gotS (v : ByteArray) : St := if whole v = true ∧ octets (rdv v) = v then rdv v else zero
def gotE (v : ByteArray) : Int := if whole v = true then if octets (rdv v) = v then 0 else 70 else 20
theorem got_short {v : ByteArray} (h : whole v = false) : gotS v = zero ∧ gotE v = 20 := by
  unfold gotS gotE; rw [if_neg (by rw [h]; simp), if_neg (by rw [h]; simp)]; exact ⟨rfl, rfl⟩
theorem got_no {v : ByteArray} (h : whole v = true) (h' : octets (rdv v) ≠ v) : gotS v = zero ∧ gotE v = 70 := by
  unfold gotS gotE; rw [if_neg (fun e => h' e.2), if_pos h, if_neg h']; exact ⟨rfl, rfl⟩
theorem got_ok {v : ByteArray} (h : whole v = true) (h' : octets (rdv v) = v) : gotS v = rdv v ∧ gotE v = 0 := by
  unfold gotS gotE; rw [if_pos ⟨h, h'⟩, if_pos h, if_pos h']; exact ⟨rfl, rfl⟩
theorem third_lt (v : ByteArray) : third v < 256 := by
  unfold third
  split
  · exact oct_lt _
  · decide
theorem rd_in (a n x : Nat) (ha : a < 256) (hx : x < 256) : (rd a n x).In := by
  refine ⟨?_, ?_⟩
  · have := spD_lt a ha
    show spD a < 256
    omega
  · show (if n % 2 = 0 then x / 16 else 0) < 256
    split <;> omega
theorem rd_may (a n x : Nat) (ha : a < 256) (hx : x < 256) : (rd a n x).May := by
  refine ⟨?_, ?_, ?_⟩
  · have := spD_lt a ha
    show spD a ≤ 63
    omega
  · show (if n % 2 = 0 then x / 16 else 0) ≤ 15
    split <;> omega
  · intro h
    have h' : ¬ n % 2 = 0 := of_decide_eq_false h
    exact if_neg h'
theorem rdv_may (v : ByteArray) : (rdv v).May := by
  unfold rdv
  split
  · exact rd_may _ _ _ (oct_lt _) (third_lt v)
  · exact ⟨by decide, by decide, fun _ => rfl⟩
theorem rdv_in (v : ByteArray) : (rdv v).In := by
  unfold rdv
  split
  · exact rd_in _ _ _ (oct_lt _) (third_lt v)
  · exact zero_in
theorem gotS_in (v : ByteArray) : (gotS v).In := by
  unfold gotS
  split
  · exact rdv_in v
  · exact zero_in
theorem n_oct (x : Nat) (h : x < 256) : (UInt8.ofNat x).toNat = x := by rw [UInt8.toNat_ofNat']; omega
/-- What is put is read as it was. -/
theorem rdv_octets (s : St) (hm : s.May) : whole (octets s) = true ∧ rdv (octets s) = s := by
  obtain ⟨d, f, c, r, i, v, b, k⟩ := s
  obtain ⟨m1, m2, m3⟩ := hm
  dsimp only at m1 m2 m3
  have ha := addr_lt d true
  obtain ⟨a1, -, -⟩ := addr_is (addr d true) d (by omega) true rfl
  have hs := sig_lt f c r i v
  have ho := sig_odd f c r i v
  have hb := sig_back f c r i v b
  obtain ⟨b1, b2, b3, b4, b5, b6⟩ := hb
  cases b
  · obtain rfl := m3 rfl
    rw [octets_two rfl]
    have e0 : ((two (addr d true) (sig f c r i v))[0]'(by show 0 < 2; decide)).toNat = addr d true := n_oct _ ha
    have e1 : ((two (addr d true) (sig f c r i v))[1]'(by show 1 < 2; decide)).toNat = sig f c r i v := n_oct _ hs
    refine ⟨?_, ?_⟩
    · show (if h : 2 ≤ (two (addr d true) (sig f c r i v)).size then decide (((two (addr d true) (sig f c r i v))[1]).toNat % 2 = 1) || decide (3 ≤ (two (addr d true) (sig f c r i v)).size) else false) = true
      rw [dif_pos (by show 2 ≤ 2; decide), e1, ho]; rfl
    · show (if h : 2 ≤ (two (addr d true) (sig f c r i v)).size then rd ((two (addr d true) (sig f c r i v))[0]).toNat ((two (addr d true) (sig f c r i v))[1]).toNat (third (two (addr d true) (sig f c r i v))) else zero) = _
      rw [dif_pos (by show 2 ≤ 2; decide), e0, e1]
      have b1' : n1 (sig f c r i v) = f := b1
      have b2' : n2 (sig f c r i v) = c := b2
      have b3' : n3 (sig f c r i v) = r := b3
      have b4' : n6 (sig f c r i v) = i := b4
      have b5' : n7 (sig f c r i v) = v := b5
      have b6' : decide (sig f c r i v % 2 = 0) = false := b6
      unfold rd
      rw [a1, b1', b2', b3', b4', b5', b6', if_neg (by omega)]
  · rw [octets_three rfl]
    have e0 : ((three (addr d true) (sig f c r i v - 1) (16 * k + 3))[0]'(by show 0 < 3; decide)).toNat = addr d true := n_oct _ ha
    have e1 : ((three (addr d true) (sig f c r i v - 1) (16 * k + 3))[1]'(by show 1 < 3; decide)).toNat = sig f c r i v - 1 := n_oct _ (by omega)
    have e2 : ((three (addr d true) (sig f c r i v - 1) (16 * k + 3))[2]'(by show 2 < 3; decide)).toNat = 16 * k + 3 := n_oct _ (by omega)
    refine ⟨?_, ?_⟩
    · show (if h : 2 ≤ (three (addr d true) (sig f c r i v - 1) (16 * k + 3)).size then decide (((three (addr d true) (sig f c r i v - 1) (16 * k + 3))[1]).toNat % 2 = 1) || decide (3 ≤ (three (addr d true) (sig f c r i v - 1) (16 * k + 3)).size) else false) = true
      rw [dif_pos (by show 2 ≤ 3; decide)]
      have : decide (3 ≤ (three (addr d true) (sig f c r i v - 1) (16 * k + 3)).size) = true := rfl
      rw [this, Bool.or_true]
    · show (if h : 2 ≤ (three (addr d true) (sig f c r i v - 1) (16 * k + 3)).size then rd ((three (addr d true) (sig f c r i v - 1) (16 * k + 3))[0]).toNat ((three (addr d true) (sig f c r i v - 1) (16 * k + 3))[1]).toNat (third (three (addr d true) (sig f c r i v - 1) (16 * k + 3))) else zero) = _
      have e3 : third (three (addr d true) (sig f c r i v - 1) (16 * k + 3)) = 16 * k + 3 := by unfold third; rw [dif_pos (by show 2 < 3; decide)]; exact e2
      rw [dif_pos (by show 2 ≤ 3; decide), e0, e1, e3]
      have b1' : n1 (sig f c r i v - 1) = f := b1
      have b2' : n2 (sig f c r i v - 1) = c := b2
      have b3' : n3 (sig f c r i v - 1) = r := b3
      have b4' : n6 (sig f c r i v - 1) = i := b4
      have b5' : n7 (sig f c r i v - 1) = v := b5
      have b6' : decide ((sig f c r i v - 1) % 2 = 0) = true := b6
      have hk : (16 * k + 3) / 16 = k := by omega
      unfold rd
      rw [a1, b1', b2', b3', b4', b5', b6', if_pos (by omega), hk]
theorem got_octets (s : St) (hm : may s = true) : gotS (octets s) = s ∧ gotE (octets s) = 0 := by
  obtain ⟨h1, h2⟩ := rdv_octets s ((may_iff s).1 hm)
  have := got_ok (v := octets s) h1 (by rw [h2])
  rw [h2] at this
  exact this
theorem octets_inj {s t : St} (hs : may s = true) (ht : may t = true) (h : octets s = octets t) : s = t := by
  have h1 := (rdv_octets s ((may_iff s).1 hs)).2
  have h2 := (rdv_octets t ((may_iff t).1 ht)).2
  rw [← h1, ← h2, h]
theorem octets_eq {s t : St} (hs : may s = true) (ht : may t = true) : ((octets s).toList == (octets t).toList) = eqS s t := by
  cases h : eqS s t
  · exact ne_list (fun e => by rw [(eqS_iff s t).2 (octets_inj hs ht e)] at h; cases h)
  · exact eq_list (by rw [eqS_eq h])
theorem got_nothing : gotS ⟨#[]⟩ = zero ∧ gotE ⟨#[]⟩ = 20 := got_short (by decide)
/-- What is got is put as it was. -/
theorem got_back (v : ByteArray) : (gotE v = 0 ∧ may (gotS v) = true ∧ octets (gotS v) = v) ∨ ((gotE v = 20 ∨ gotE v = 70) ∧ gotS v = zero) := by
  cases h : whole v
  · obtain ⟨e1, e2⟩ := got_short h
    exact .inr ⟨.inl e2, e1⟩
  · by_cases h' : octets (rdv v) = v
    · obtain ⟨e1, e2⟩ := got_ok h h'
      exact .inl ⟨e2, by rw [e1]; exact (may_iff _).2 (rdv_may v), by rw [e1]; exact h'⟩
    · obtain ⟨e1, e2⟩ := got_no h h'
      exact .inr ⟨.inr e2, e1⟩
/-- The document's own test of octets. -/
structure Fine (v : ByteArray) (a n x : Nat) : Prop where
  q1 : a % 2 = 1
  q2 : a / 2 % 2 = 1
  q3 : n / 16 % 4 = 0
  q4 : n % 2 = 1 → v.size = 2
  q5 : n % 2 = 0 → v.size = 3 ∧ x % 16 = 3
theorem oct_of (c : UInt8) (x : Nat) (h : x = c.toNat) : UInt8.ofNat x = c := by rw [h]; simp
theorem get_of (s : ByteArray) (k : Nat) (h : k < s.size) : s.data.toList[k]? = some s[k] := (get_list s k h).symm
theorem list2 (s : ByteArray) (h : s.size = 2) : s.data.toList = [s[0], s[1]] := by
  apply List.ext_getElem? ; intro j
  match j with
  | 0 => rw [get_of s 0 (by omega)]; rfl
  | 1 => rw [get_of s 1 (by omega)]; rfl
  | j + 2 => rw [List.getElem?_eq_none (by rw [size_toList]; omega)]; rfl
theorem list3 (s : ByteArray) (h : s.size = 3) : s.data.toList = [s[0], s[1], s[2]] := by
  apply List.ext_getElem? ; intro j
  match j with
  | 0 => rw [get_of s 0 (by omega)]; rfl
  | 1 => rw [get_of s 1 (by omega)]; rfl
  | 2 => rw [get_of s 2 (by omega)]; rfl
  | j + 3 => rw [List.getElem?_eq_none (by rw [size_toList]; omega)]; rfl
theorem addr_at (a : Nat) (ha : a < 256) : addr (spD a) true = a ↔ a % 2 = 1 ∧ a / 2 % 2 = 1 := by
  have h := spD_lt a ha
  rw [addr, if_neg (by omega)]
  show 4 * spD a + 2 * 1 + 1 = a ↔ _
  unfold spD
  split <;> omega
theorem fine_ok (v : ByteArray) (h : 2 ≤ v.size) (hf : Fine v v[0].toNat v[1].toNat (third v)) : octets (rdv v) = v := by
  obtain ⟨f1, f2, f3, f4, f5⟩ := hf
  have hr : rdv v = rd v[0].toNat v[1].toNat (third v) := dif_pos h
  have ha : addr (spD v[0].toNat) true = v[0].toNat := (addr_at _ (oct_lt _)).2 ⟨f1, f2⟩
  have hn := sig_is v[1].toNat (oct_lt _) f3
  rw [hr]
  rcases Nat.mod_two_eq_zero_or_one v[1].toNat with hp | hp
  · obtain ⟨h3, hx⟩ := f5 hp
    have ht : third v = v[2].toNat := dif_pos (by omega)
    rw [octets_three (show decide (v[1].toNat % 2 = 0) = true by rw [hp]; rfl)]
    have hb : bt (rd v[0].toNat v[1].toNat (third v)) - 1 = v[1].toNat := by
      rw [hp] at hn; exact hn
    have hk : 16 * (rd v[0].toNat v[1].toNat (third v)).k + 3 = v[2].toNat := by
      show 16 * (if v[1].toNat % 2 = 0 then third v / 16 else 0) + 3 = _
      rw [if_pos hp]; omega
    show three (addr (spD v[0].toNat) true) _ _ = v
    rw [ha, hb, hk]
    apply bext
    rw [list3 v h3]
    show [_, _, _] = [_, _, _]
    rw [oct_of _ _ rfl, oct_of _ _ rfl, oct_of _ _ rfl]
  · have h2 := f4 hp
    rw [octets_two (show decide (v[1].toNat % 2 = 0) = false by rw [hp]; rfl)]
    have hb : bt (rd v[0].toNat v[1].toNat (third v)) = v[1].toNat := by
      rw [hp] at hn; exact hn
    show two (addr (spD v[0].toNat) true) _ = v
    rw [ha, hb]
    apply bext
    rw [list2 v h2]
    show [_, _] = [_, _]
    rw [oct_of _ _ rfl, oct_of _ _ rfl]
theorem fine_of (v : ByteArray) (h : 2 ≤ v.size) (ho : octets (rdv v) = v) : Fine v v[0].toNat v[1].toNat (third v) := by
  have hr : rdv v = rd v[0].toNat v[1].toNat (third v) := dif_pos h
  rw [hr] at ho
  have b0 := oct_lt v[0]
  have b1 := oct_lt v[1]
  have g0 := get_of v 0 (by omega)
  have g1 := get_of v 1 (by omega)
  have al := addr_lt (spD v[0].toNat) true
  have sl := sig_lt (n1 v[1].toNat) (n2 v[1].toNat) (n3 v[1].toNat) (n6 v[1].toNat) (n7 v[1].toNat)
  have key : ∀ x : Nat, x < 256 → ∀ c : UInt8, some (UInt8.ofNat x) = some c → x = c.toNat := fun x hx c e => by
    rw [← Option.some.inj e]; exact (n_oct x hx).symm
  rcases Nat.mod_two_eq_zero_or_one v[1].toNat with hp | hp
  · rw [octets_three (show decide (v[1].toNat % 2 = 0) = true by rw [hp]; rfl)] at ho
    have hs : v.size = 3 := by rw [← ho]; rfl
    have ht : third v = v[2].toNat := dif_pos (by omega)
    have g2 := get_of v 2 (by omega)
    have b2 := oct_lt v[2]
    have hkk : (rd v[0].toNat v[1].toNat (third v)).k = v[2].toNat / 16 := by
      show (if v[1].toNat % 2 = 0 then third v / 16 else 0) = _
      rw [if_pos hp, ht]
    have e0 := key (addr (spD v[0].toNat) true) al v[0] ((congrArg (fun s : ByteArray => s.data.toList[0]?) ho).trans g0)
    have e1 := key (bt (rd v[0].toNat v[1].toNat (third v)) - 1) (by have := bt_lt (rd v[0].toNat v[1].toNat (third v)); omega) v[1] ((congrArg (fun s : ByteArray => s.data.toList[1]?) ho).trans g1)
    have e2 := key (16 * (rd v[0].toNat v[1].toNat (third v)).k + 3) (by rw [hkk]; omega) v[2] ((congrArg (fun s : ByteArray => s.data.toList[2]?) ho).trans g2)
    obtain ⟨q1, q2⟩ := (addr_at _ b0).1 e0
    refine ⟨q1, q2, ?_, fun h' => by omega, fun _ => ⟨hs, ?_⟩⟩
    · by_cases hz : v[1].toNat / 16 % 4 = 0
      · exact hz
      · exact absurd (by rw [hp]; exact e1) (sig_no v[1].toNat b1 hz)
    · rw [hkk] at e2; rw [ht]; omega
  · rw [octets_two (show decide (v[1].toNat % 2 = 0) = false by rw [hp]; rfl)] at ho
    have hs : v.size = 2 := by rw [← ho]; rfl
    have e0 := key (addr (spD v[0].toNat) true) al v[0] ((congrArg (fun s : ByteArray => s.data.toList[0]?) ho).trans g0)
    have e1 := key (bt (rd v[0].toNat v[1].toNat (third v))) (bt_lt _) v[1] ((congrArg (fun s : ByteArray => s.data.toList[1]?) ho).trans g1)
    obtain ⟨q1, q2⟩ := (addr_at _ b0).1 e0
    refine ⟨q1, q2, ?_, fun _ => hs, fun h' => by omega⟩
    by_cases hz : v[1].toNat / 16 % 4 = 0
    · exact hz
    · exact absurd (by rw [hp]; exact e1) (sig_no v[1].toNat b1 hz)
end Go.Proofs.YtakkhdammmcjcaaDoor.Msc

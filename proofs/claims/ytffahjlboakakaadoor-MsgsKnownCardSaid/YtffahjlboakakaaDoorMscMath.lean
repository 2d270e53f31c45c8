/-
  The plain mathematics of layer 9: what a channel's signals say, their octet, two octets or three, what octets say. Conditions: the bounds that each names.
-/
import Derived.Test.YtffahjlboakakaaDoorMem
import Derived.Test.YtffahjlboakakaaDoorEaMath
namespace Go.Proofs.YtffahjlboakakaaDoor.Msc
open Go.Proofs.YtffahjlboakakaaDoor.Base Go.Proofs.YtffahjlboakakaaDoor.Mem Go.Proofs.YtffahjlboakakaaDoor.Ea
/-- A status. -/
structure St where
  d : Nat
  f : Bool
  c : Bool
  r : Bool
  i : Bool
  v : Bool
  b : Bool
  k : Nat
structure St.In (s : St) : Prop where
  d : s.d < 256
  k : s.k < 256
def zero : St := ⟨0, false, false, false, false, false, false, 0⟩
theorem zero_in : zero.In := ⟨by decide, by decide⟩
/-- What == of two answers. -/
def eqS (p q : St) : Bool := (p.d == q.d) && (p.f == q.f) && (p.c == q.c) && (p.r == q.r) && (p.i == q.i) && (p.v == q.v) && (p.b == q.b) && (p.k == q.k)
theorem eqS_self (p : St) : eqS p p = true := by simp [eqS]
theorem eqS_eq {p q : St} (h : eqS p q = true) : p = q := by
  simp only [eqS, Bool.and_eq_true, beq_iff_eq] at h
  obtain ⟨⟨⟨⟨⟨⟨⟨h1, h2⟩, h3⟩, h4⟩, h5⟩, h6⟩, h7⟩, h8⟩ := h
  cases p; cases q; simp_all
theorem eqS_iff (p q : St) : eqS p q = true ↔ p = q := ⟨eqS_eq, fun h => h ▸ eqS_self p⟩
theorem eqS_of {p q : St} : eqS p q = decide (p.d = q.d ∧ p.f = q.f ∧ p.c = q.c ∧ p.r = q.r ∧ p.i = q.i ∧ p.v = q.v ∧ p.b = q.b ∧ p.k = q.k) := by
  rw [Bool.eq_iff_iff]; simp [eqS, and_assoc]
/-- The signals' octet. -/
def sig (f c r i v : Bool) : Nat := 1 + 2 * f.toNat + 4 * c.toNat + 8 * r.toNat + 64 * i.toNat + 128 * v.toNat
def bt (s : St) : Nat := sig s.f s.c s.r s.i s.v
theorem sig_lt (f c r i v : Bool) : sig f c r i v < 256 := by cases f <;> cases c <;> cases r <;> cases i <;> cases v <;> decide
theorem sig_odd (f c r i v : Bool) : sig f c r i v % 2 = 1 := by cases f <;> cases c <;> cases r <;> cases i <;> cases v <;> decide
theorem bt_lt (s : St) : bt s < 256 := sig_lt _ _ _ _ _
theorem bt_odd (s : St) : bt s % 2 = 1 := sig_odd _ _ _ _ _
/-- What an octet of signals says, by its numbers. -/
abbrev n1 (n : Nat) : Bool := decide (n / 2 % 2 = 1)
abbrev n2 (n : Nat) : Bool := decide (n / 4 % 2 = 1)
abbrev n3 (n : Nat) : Bool := decide (n / 8 % 2 = 1)
abbrev n6 (n : Nat) : Bool := decide (n / 64 % 2 = 1)
abbrev n7 (n : Nat) : Bool := decide (n / 128 = 1)
theorem sig_back : ∀ f c r i v z : Bool, n1 (sig f c r i v - z.toNat) = f ∧ n2 (sig f c r i v - z.toNat) = c ∧ n3 (sig f c r i v - z.toNat) = r ∧ n6 (sig f c r i v - z.toNat) = i ∧ n7 (sig f c r i v - z.toNat) = v ∧ decide ((sig f c r i v - z.toNat) % 2 = 0) = z := by decide +kernel
theorem sig_is (n : Nat) (h : n < 256) (h' : n / 16 % 4 = 0) : sig (n1 n) (n2 n) (n3 n) (n6 n) (n7 n) - (decide (n % 2 = 0)).toNat = n := by
  have : ∀ m : Fin 256, m.val / 16 % 4 = 0 → sig (n1 m.val) (n2 m.val) (n3 m.val) (n6 m.val) (n7 m.val) - (decide (m.val % 2 = 0)).toNat = m.val := by decide +kernel
  exact this ⟨n, h⟩ h'
theorem sig_no (n : Nat) (h : n < 256) (h' : n / 16 % 4 ≠ 0) : sig (n1 n) (n2 n) (n3 n) (n6 n) (n7 n) - (decide (n % 2 = 0)).toNat ≠ n := by
  have : ∀ m : Fin 256, m.val / 16 % 4 ≠ 0 → sig (n1 m.val) (n2 m.val) (n3 m.val) (n6 m.val) (n7 m.val) - (decide (m.val % 2 = 0)).toNat ≠ m.val := by decide +kernel
  exact this ⟨n, h⟩ h'
/-- May there be such a status? -/
def may (s : St) : Bool := decide (s.d ≤ 63) && decide (s.k ≤ 15) && (s.b || s.k == 0)
structure St.May (s : St) : Prop where
  d : s.d ≤ 63
  k : s.k ≤ 15
  b : s.b = false → s.k = 0
theorem may_iff (s : St) : may s = true ↔ s.May := by
  unfold may
  simp only [Bool.and_eq_true, Bool.or_eq_true, decide_eq_true_eq, beq_iff_eq]
  refine ⟨fun ⟨⟨h1, h2⟩, h3⟩ => ⟨h1, h2, fun hb => ?_⟩, fun ⟨h1, h2, h3⟩ => ⟨⟨h1, h2⟩, ?_⟩⟩
  · rcases h3 with h3 | h3
    · rw [hb] at h3; cases h3
    · exact h3
  · cases hb : s.b
    · exact .inr (h3 hb)
    · exact .inl rfl
/-- The octets. -/
def three (a b c : Nat) : ByteArray := ⟨#[UInt8.ofNat a, UInt8.ofNat b, UInt8.ofNat c]⟩
def octets (s : St) : ByteArray := if s.b then three (addr s.d true) (bt s - 1) (16 * s.k + 3) else two (addr s.d true) (bt s)
theorem octets_two {s : St} (h : s.b = false) : octets s = two (addr s.d true) (bt s) := by unfold octets; rw [h]; rfl
theorem octets_three {s : St} (h : s.b = true) : octets s = three (addr s.d true) (bt s - 1) (16 * s.k + 3) := by unfold octets; rw [h]; rfl
theorem octets_size (s : St) : (octets s).size = 2 ∨ (octets s).size = 3 := by
  cases h : s.b
  · rw [octets_two h]; exact .inl rfl
  · rw [octets_three h]; exact .inr rfl
/-- What Put answers. -/
def putS (s : St) : ByteArray := if may s then octets s else ⟨#[]⟩
def putE (s : St) : Int := if may s then 0 else 2
/-- What octets say. -/
def rd (a n x : Nat) : St := ⟨spD a, n1 n, n2 n, n3 n, n6 n, n7 n, decide (n % 2 = 0), if n % 2 = 0 then x / 16 else 0⟩
def third (v : ByteArray) : Nat := if h : 2 < v.size then v[2].toNat else 0
def rdv (v : ByteArray) : St := if h : 2 ≤ v.size then rd v[0].toNat v[1].toNat (third v) else zero
/-- Has it the octets that its signals' octet promises? -/
def whole (v : ByteArray) : Bool := if h : 2 ≤ v.size then decide (v[1].toNat % 2 = 1) || decide (3 ≤ v.size) else false
def gotS (v : ByteArray) : St := if whole v = true ∧ octets (rdv v) = v then rdv v else zero
def gotE (v : ByteArray) : Int := if whole v = true then if octets (rdv v) = v then 0 else 70 else 20
theorem got_short {v : ByteArray} (h : whole v = false) : gotS v = zero ∧ gotE v = 20 := by
  unfold gotS gotE; rw [if_neg (by rw [h]; simp), if_neg (by rw [h]; simp)]; exact ⟨rfl, rfl⟩
theorem got_no {v : ByteArray} (h : whole v = true) (h' : octets (rdv v) ≠ v) : gotS v = zero ∧ gotE v = 70 := by
  unfold gotS gotE; rw [if_neg (fun e => h' e.2), if_pos h, if_neg h']; exact ⟨rfl, rfl⟩
theorem got_ok {v : ByteArray} (h : whole v = true) (h' : octets (rdv v) = v) : gotS v = rdv v ∧ gotE v = 0 := by
  unfold gotS gotE; rw [if_pos ⟨h, h'⟩, if_pos h, if_pos h']; exact ⟨rfl, rfl⟩
theorem third_lt (v : ByteArray) : third v < 256 := by
  unfold third
  split
  · exact oct_lt _
  · decide
theorem rd_in (a n x : Nat) (ha : a < 256) (hx : x < 256) : (rd a n x).In := by
  refine ⟨?_, ?_⟩
  · have := spD_lt a ha
    show spD a < 256
    omega
  · show (if n % 2 = 0 then x / 16 else 0) < 256
    split <;> omega
theorem rd_may (a n x : Nat) (ha : a < 256) (hx : x < 256) : (rd a n x).May := by
  refine ⟨?_, ?_, ?_⟩
  · have := spD_lt a ha
    show spD a ≤ 63
    omega
  · show (if n % 2 = 0 then x / 16 else 0) ≤ 15
    split <;> omega
  · intro h
    have h' : ¬ n % 2 = 0 := of_decide_eq_false h
    exact if_neg h'
theorem rdv_may (v : ByteArray) : (rdv v).May := by
  unfold rdv
  split
  · exact rd_may _ _ _ (oct_lt _) (third_lt v)
  · exact ⟨by decide, by decide, fun _ => rfl⟩
theorem rdv_in (v : ByteArray) : (rdv v).In := by
  unfold rdv
  split
  · exact rd_in _ _ _ (oct_lt _) (third_lt v)
  · exact zero_in
theorem gotS_in (v : ByteArray) : (gotS v).In := by
  unfold gotS
  split
  · exact rdv_in v
  · exact zero_in
theorem n_oct (x : Nat) (h : x < 256) : (UInt8.ofNat x).toNat = x := by rw [UInt8.toNat_ofNat']; omega
/-- What is put is read as it was. -/
theorem rdv_octets (s : St) (hm : s.May) : whole (octets s) = true ∧ rdv (octets s) = s := by
  obtain ⟨d, f, c, r, i, v, b, k⟩ := s
  obtain ⟨m1, m2, m3⟩ := hm
  dsimp only at m1 m2 m3
  have ha := addr_lt d true
  obtain ⟨a1, -, -⟩ := addr_is (addr d true) d (by omega) true rfl
  have hs := sig_lt f c r i v
  have ho := sig_odd f c r i v
  have hb := sig_back f c r i v b
  obtain ⟨b1, b2, b3, b4, b5, b6⟩ := hb
  cases b
  · obtain rfl := m3 rfl
    rw [octets_two rfl]
    have e0 : ((two (addr d true) (sig f c r i v))[0]'(by show 0 < 2; decide)).toNat = addr d true := n_oct _ ha
    have e1 : ((two (addr d true) (sig f c r i v))[1]'(by show 1 < 2; decide)).toNat = sig f c r i v := n_oct _ hs
    refine ⟨?_, ?_⟩
    · show (if h : 2 ≤ (two (addr d true) (sig f c r i v)).size then decide (((two (addr d true) (sig f c r i v))[1]).toNat % 2 = 1) || decide (3 ≤ (two (addr d true) (sig f c r i v)).size) else false) = true
      rw [dif_pos (by show 2 ≤ 2; decide), e1, ho]; rfl
    · show (if h : 2 ≤ (two (addr d true) (sig f c r i v)).size then rd ((two (addr d true) (sig f c r i v))[0]).toNat ((two (addr d true) (sig f c r i v))[1]).toNat (third (two (addr d true) (sig f c r i v))) else zero) = _
      rw [dif_pos (by show 2 ≤ 2; decide), e0, e1]
      have b1' : n1 (sig f c r i v) = f := b1
      have b2' : n2 (sig f c r i v) = c := b2
      have b3' : n3 (sig f c r i v) = r := b3
      have b4' : n6 (sig f c r i v) = i := b4
      have b5' : n7 (sig f c r i v) = v := b5
      have b6' : decide (sig f c r i v % 2 = 0) = false := b6
      unfold rd
      rw [a1, b1', b2', b3', b4', b5', b6', if_neg (by omega)]
  · rw [octets_three rfl]
    have e0 : ((three (addr d true) (sig f c r i v - 1) (16 * k + 3))[0]'(by show 0 < 3; decide)).toNat = addr d true := n_oct _ ha
    have e1 : ((three (addr d true) (sig f c r i v - 1) (16 * k + 3))[1]'(by show 1 < 3; decide)).toNat = sig f c r i v - 1 := n_oct _ (by omega)
    have e2 : ((three (addr d true) (sig f c r i v - 1) (16 * k + 3))[2]'(by show 2 < 3; decide)).toNat = 16 * k + 3 := n_oct _ (by omega)
    refine ⟨?_, ?_⟩
    · show (if h : 2 ≤ (three (addr d true) (sig f c r i v - 1) (16 * k + 3)).size then decide (((three (addr d true) (sig f c r i v - 1) (16 * k + 3))[1]).toNat % 2 = 1) || decide (3 ≤ (three (addr d true) (sig f c r i v - 1) (16 * k + 3)).size) else false) = true
      rw [dif_pos (by show 2 ≤ 3; decide)]
      have : decide (3 ≤ (three (addr d true) (sig f c r i v - 1) (16 * k + 3)).size) = true := rfl
      rw [this, Bool.or_true]
    · show (if h : 2 ≤ (three (addr d true) (sig f c r i v - 1) (16 * k + 3)).size then rd ((three (addr d true) (sig f c r i v - 1) (16 * k + 3))[0]).toNat ((three (addr d true) (sig f c r i v - 1) (16 * k + 3))[1]).toNat (third (three (addr d true) (sig f c r i v - 1) (16 * k + 3))) else zero) = _
      have e3 : third (three (addr d true) (sig f c r i v - 1) (16 * k + 3)) = 16 * k + 3 := by unfold third; rw [dif_pos (by show 2 < 3; decide)]; exact e2
      rw [dif_pos (by show 2 ≤ 3; decide), e0, e1, e3]
      have b1' : n1 (sig f c r i v - 1) = f := b1
      have b2' : n2 (sig f c r i v - 1) = c := b2
      have b3' : n3 (sig f c r i v - 1) = r := b3
      have b4' : n6 (sig f c r i v - 1) = i := b4
      have b5' : n7 (sig f c r i v - 1) = v := b5
      have b6' : decide ((sig f c r i v - 1) % 2 = 0) = true := b6
      have hk : (16 * k + 3) / 16 = k := by omega
      unfold rd
      rw [a1, b1', b2', b3', b4', b5', b6', if_pos (by omega), hk]
theorem got_octets (s : St) (hm : may s = true) : gotS (octets s) = s ∧ gotE (octets s) = 0 := by
  obtain ⟨h1, h2⟩ := rdv_octets s ((may_iff s).1 hm)
  have := got_ok (v := octets s) h1 (by rw [h2])
  rw [h2] at this
  exact this
theorem octets_inj {s t : St} (hs : may s = true) (ht : may t = true) (h : octets s = octets t) : s = t := by
  have h1 := (rdv_octets s ((may_iff s).1 hs)).2
  have h2 := (rdv_octets t ((may_iff t).1 ht)).2
  rw [← h1, ← h2, h]
theorem octets_eq {s t : St} (hs : may s = true) (ht : may t = true) : ((octets s).toList == (octets t).toList) = eqS s t := by
  cases h : eqS s t
  · exact ne_list (fun e => by rw [(eqS_iff s t).2 (octets_inj hs ht e)] at h; cases h)
  · exact eq_list (by rw [eqS_eq h])
theorem got_nothing : gotS ⟨#[]⟩ = zero ∧ gotE ⟨#[]⟩ = 20 := got_short (by decide)
/-- What is got is put as it was. -/
theorem got_back (v : ByteArray) : (gotE v = 0 ∧ may (gotS v) = true ∧ octets (gotS v) = v) ∨ ((gotE v = 20 ∨ gotE v = 70) ∧ gotS v = zero) := by
  cases h : whole v
  · obtain ⟨e1, e2⟩ := got_short h
    exact .inr ⟨.inl e2, e1⟩
  · by_cases h' : octets (rdv v) = v
    · obtain ⟨e1, e2⟩ := got_ok h h'
      exact .inl ⟨e2, by rw [e1]; exact (may_iff _).2 (rdv_may v), by rw [e1]; exact h'⟩
    · obtain ⟨e1, e2⟩ := got_no h h'
      exact .inr ⟨.inr e2, e1⟩
/-- The document's own test of octets. -/
structure Fine (v : ByteArray) (a n x : Nat) : Prop where
  q1 : a % 2 = 1
  q2 : a / 2 % 2 = 1
  q3 : n / 16 % 4 = 0
  q4 : n % 2 = 1 → v.size = 2
  q5 : n % 2 = 0 → v.size = 3 ∧ x % 16 = 3
theorem oct_of (c : UInt8) (x : Nat) (h : x = c.toNat) : UInt8.ofNat x = c := by rw [h]; simp
theorem get_of (s : ByteArray) (k : Nat) (h : k < s.size) : s.data.toList[k]? = some s[k] := (get_list s k h).symm
theorem list2 (s : ByteArray) (h : s.size = 2) : s.data.toList = [s[0], s[1]] := by
  apply List.ext_getElem? ; intro j
  match j with
  | 0 => rw [get_of s 0 (by omega)]; rfl
  | 1 => rw [get_of s 1 (by omega)]; rfl
  | j + 2 => rw [List.getElem?_eq_none (by rw [size_toList]; omega)]; rfl
theorem list3 (s : ByteArray) (h : s.size = 3) : s.data.toList = [s[0], s[1], s[2]] := by
  apply List.ext_getElem? ; intro j
  match j with
  | 0 => rw [get_of s 0 (by omega)]; rfl
  | 1 => rw [get_of s 1 (by omega)]; rfl
  | 2 => rw [get_of s 2 (by omega)]; rfl
  | j + 3 => rw [List.getElem?_eq_none (by rw [size_toList]; omega)]; rfl
theorem addr_at (a : Nat) (ha : a < 256) : addr (spD a) true = a ↔ a % 2 = 1 ∧ a / 2 % 2 = 1 := by
  have h := spD_lt a ha
  rw [addr, if_neg (by omega)]
  show 4 * spD a + 2 * 1 + 1 = a ↔ _
  unfold spD
  split <;> omega
theorem fine_ok (v : ByteArray) (h : 2 ≤ v.size) (hf : Fine v v[0].toNat v[1].toNat (third v)) : octets (rdv v) = v := by
  obtain ⟨f1, f2, f3, f4, f5⟩ := hf
  have hr : rdv v = rd v[0].toNat v[1].toNat (third v) := dif_pos h
  have ha : addr (spD v[0].toNat) true = v[0].toNat := (addr_at _ (oct_lt _)).2 ⟨f1, f2⟩
  have hn := sig_is v[1].toNat (oct_lt _) f3
  rw [hr]
  rcases Nat.mod_two_eq_zero_or_one v[1].toNat with hp | hp
  · obtain ⟨h3, hx⟩ := f5 hp
    have ht : third v = v[2].toNat := dif_pos (by omega)
    rw [octets_three (show decide (v[1].toNat % 2 = 0) = true by rw [hp]; rfl)]
    have hb : bt (rd v[0].toNat v[1].toNat (third v)) - 1 = v[1].toNat := by
      rw [hp] at hn; exact hn
    have hk : 16 * (rd v[0].toNat v[1].toNat (third v)).k + 3 = v[2].toNat := by
      show 16 * (if v[1].toNat % 2 = 0 then third v / 16 else 0) + 3 = _
      rw [if_pos hp]; omega
    show three (addr (spD v[0].toNat) true) _ _ = v
    rw [ha, hb, hk]
    apply bext
    rw [list3 v h3]
    show [_, _, _] = [_, _, _]
    rw [oct_of _ _ rfl, oct_of _ _ rfl, oct_of _ _ rfl]
  · have h2 := f4 hp
    rw [octets_two (show decide (v[1].toNat % 2 = 0) = false by rw [hp]; rfl)]
    have hb : bt (rd v[0].toNat v[1].toNat (third v)) = v[1].toNat := by
      rw [hp] at hn; exact hn
    show two (addr (spD v[0].toNat) true) _ = v
    rw [ha, hb]
    apply bext
    rw [list2 v h2]
    show [_, _] = [_, _]
    rw [oct_of _ _ rfl, oct_of _ _ rfl]
theorem fine_of (v : ByteArray) (h : 2 ≤ v.size) (ho : octets (rdv v) = v) : Fine v v[0].toNat v[1].toNat (third v) := by
  have hr : rdv v = rd v[0].toNat v[1].toNat (third v) := dif_pos h
  rw [hr] at ho
  have b0 := oct_lt v[0]
  have b1 := oct_lt v[1]
  have g0 := get_of v 0 (by omega)
  have g1 := get_of v 1 (by omega)
  have al := addr_lt (spD v[0].toNat) true
  have sl := sig_lt (n1 v[1].toNat) (n2 v[1].toNat) (n3 v[1].toNat) (n6 v[1].toNat) (n7 v[1].toNat)
  have key : ∀ x : Nat, x < 256 → ∀ c : UInt8, some (UInt8.ofNat x) = some c → x = c.toNat := fun x hx c e => by
    rw [← Option.some.inj e]; exact (n_oct x hx).symm
  rcases Nat.mod_two_eq_zero_or_one v[1].toNat with hp | hp
  · rw [octets_three (show decide (v[1].toNat % 2 = 0) = true by rw [hp]; rfl)] at ho
    have hs : v.size = 3 := by rw [← ho]; rfl
    have ht : third v = v[2].toNat := dif_pos (by omega)
    have g2 := get_of v 2 (by omega)
    have b2 := oct_lt v[2]
    have hkk : (rd v[0].toNat v[1].toNat (third v)).k = v[2].toNat / 16 := by
      show (if v[1].toNat % 2 = 0 then third v / 16 else 0) = _
      rw [if_pos hp, ht]
    have e0 := key (addr (spD v[0].toNat) true) al v[0] ((congrArg (fun s : ByteArray => s.data.toList[0]?) ho).trans g0)
    have e1 := key (bt (rd v[0].toNat v[1].toNat (third v)) - 1) (by have := bt_lt (rd v[0].toNat v[1].toNat (third v)); omega) v[1] ((congrArg (fun s : ByteArray => s.data.toList[1]?) ho).trans g1)
    have e2 := key (16 * (rd v[0].toNat v[1].toNat (third v)).k + 3) (by rw [hkk]; omega) v[2] ((congrArg (fun s : ByteArray => s.data.toList[2]?) ho).trans g2)
    obtain ⟨q1, q2⟩ := (addr_at _ b0).1 e0
    refine ⟨q1, q2, ?_, fun h' => by omega, fun _ => ⟨hs, ?_⟩⟩
    · by_cases hz : v[1].toNat / 16 % 4 = 0
      · exact hz
      · exact absurd (by rw [hp]; exact e1) (sig_no v[1].toNat b1 hz)
    · rw [hkk] at e2; rw [ht]; omega
  · rw [octets_two (show decide (v[1].toNat % 2 = 0) = false by rw [hp]; rfl)] at ho
    have hs : v.size = 2 := by rw [← ho]; rfl
    have e0 := key (addr (spD v[0].toNat) true) al v[0] ((congrArg (fun s : ByteArray => s.data.toList[0]?) ho).trans g0)
    have e1 := key (bt (rd v[0].toNat v[1].toNat (third v))) (bt_lt _) v[1] ((congrArg (fun s : ByteArray => s.data.toList[1]?) ho).trans g1)
    obtain ⟨q1, q2⟩ := (addr_at _ b0).1 e0
    refine ⟨q1, q2, ?_, fun _ => hs, fun h' => by omega⟩
    by_cases hz : v[1].toNat / 16 % 4 = 0
    · exact hz
    · exact absurd (by rw [hp]; exact e1) (sig_no v[1].toNat b1 hz)
end Go.Proofs.YtffahjlboakakaaDoor.Msc

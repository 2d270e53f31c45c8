/-
  Layer 22, put together: MscMath, MsgsMath. Conditions: as each theorem names them.
-/
import Derived.Test.YtakkhdammmcjcaaGreatDoorK01
import Derived.Test.YtakkhdammmcjcaaGreatDoorK02
namespace Go.Proofs.YtakkhdammmcjcaaGreatDoor.Msc
open Base Mem Ea
/-- A status. -/
structure St where
 d : Nat
 f : Bool
 c : Bool
 r : Bool
 i : Bool
 v : Bool
 b : Bool
 k : Nat
structure St.In (s : St) : Prop where
 d : s.d < 256
 k : s.k < 256
def zero : St := ⟨0, false, false, false, false, false, false, 0⟩
theorem zero_in : zero.In := ⟨by decide, by decide⟩
/-- What == of two answers. -/
def eqS (p q : St) : Bool := (p.d == q.d) && (p.f == q.f) && (p.c == q.c) && (p.r == q.r) && (p.i == q.i) && (p.v == q.v) && (p.b == q.b) && (p.k == q.k)
theorem eqS_self (p : St) : eqS p p = true := by simp [eqS]
theorem eqS_eq {p q : St} (h : eqS p q = true) : p = q := by
 simp only [eqS, Bool.and_eq_true, beq_iff_eq] at h
 obtain ⟨⟨⟨⟨⟨⟨⟨h1, h2⟩, h3⟩, h4⟩, h5⟩, h6⟩, h7⟩, h8⟩ := h
 cases p; cases q; simp_all
theorem eqS_iff (p q : St) : eqS p q = true ↔ p = q := ⟨eqS_eq, fun h => h ▸ eqS_self p⟩
theorem eqS_of {p q : St} : eqS p q = decide (p.d = q.d ∧ p.f = q.f ∧ p.c = q.c ∧ p.r = q.r ∧ p.i = q.i ∧ p.v = q.v ∧ p.b = q.b ∧ p.k = q.k) := by
 rw [Bool.eq_iff_iff]; simp [eqS, and_assoc]
/-- The signals' octet. -/
def sig (f c r i v : Bool) : Nat := 1 + 2 * f.toNat + 4 * c.toNat + 8 * r.toNat + 64 * i.toNat + 128 * v.toNat
def bt (s : St) : Nat := sig s.f s.c s.r s.i s.v
theorem sig_lt (f c r i v : Bool) : sig f c r i v < 256 := by cases f <;> cases c <;> cases r <;> cases i <;> cases v <;> decide
theorem sig_odd (f c r i v : Bool) : sig f c r i v % 2 = 1 := by cases f <;> cases c <;> cases r <;> cases i <;> cases v <;> decide
theorem bt_lt (s : St) : bt s < 256 := sig_lt _ _ _ _ _
theorem bt_odd (s : St) : bt s % 2 = 1 := sig_odd _ _ _ _ _
/-- What an octet of signals says, by its numbers. -/
abbrev n1 (n : Nat) : Bool := decide (n / 2 % 2 = 1)
abbrev n2 (n : Nat) : Bool := decide (n / 4 % 2 = 1)
abbrev n3 (n : Nat) : Bool := decide (n / 8 % 2 = 1)
abbrev n6 (n : Nat) : Bool := decide (n / 64 % 2 = 1)
abbrev n7 (n : Nat) : Bool := decide (n / 128 = 1)
theorem sig_back : ∀ f c r i v z : Bool, n1 (sig f c r i v - z.toNat) = f ∧ n2 (sig f c r i v - z.toNat) = c ∧ n3 (sig f c r i v - z.toNat) = r ∧ n6 (sig f c r i v - z.toNat) = i ∧ n7 (sig f c r i v - z.toNat) = v ∧ decide ((sig f c r i v - z.toNat) % 2 = 0) = z := by decide +kernel
theorem sig_is (n : Nat) (h : n < 256) (h' : n / 16 % 4 = 0) : sig (n1 n) (n2 n) (n3 n) (n6 n) (n7 n) - (decide (n % 2 = 0)).toNat = n := by
 have : ∀ m : Fin 256, m.val / 16 % 4 = 0 → sig (n1 m.val) (n2 m.val) (n3 m.val) (n6 m.val) (n7 m.val) - (decide (m.val % 2 = 0)).toNat = m.val := by decide +kernel
 exact this ⟨n, h⟩ h'
theorem sig_no (n : Nat) (h : n < 256) (h' : n / 16 % 4 ≠ 0) : sig (n1 n) (n2 n) (n3 n) (n6 n) (n7 n) - (decide (n % 2 = 0)).toNat ≠ n := by
 have : ∀ m : Fin 256, m.val / 16 % 4 ≠ 0 → sig (n1 m.val) (n2 m.val) (n3 m.val) (n6 m.val) (n7 m.val) - (decide (m.val % 2 = 0)).toNat ≠ m.val := by decide +kernel
 exact this ⟨n, h⟩ h'
/-- May there be such a status? -/
def may (s : St) : Bool := decide (s.d ≤ 63) && decide (s.k ≤ 15) && (s.b || s.k == 0)
structure St.May (s : St) : Prop where
 d : s.d ≤ 63
 k : s.k ≤ 15
 b : s.b = false → s.k = 0
theorem may_iff (s : St) : may s = true ↔ s.May := by
 unfold may
 simp only [Bool.and_eq_true, Bool.or_eq_true, decide_eq_true_eq, beq_iff_eq]
 refine ⟨fun ⟨⟨h1, h2⟩, h3⟩ => ⟨h1, h2, fun hb => ?_⟩, fun ⟨h1, h2, h3⟩ => ⟨⟨h1, h2⟩, ?_⟩⟩
 · rcases h3 with h3 | h3
   · rw [hb] at h3; cases h3
   · exact h3
 · cases hb : s.b
   · exact .inr (h3 hb)
   · exact .inl rfl
/-- The octets. -/
def three (a b c : Nat) : ByteArray := ⟨#[UInt8.ofNat a, UInt8.ofNat b, UInt8.ofNat c]⟩
def octets (s : St) : ByteArray := if s.b then three (addr s.d true) (bt s - 1) (16 * s.k + 3) else two (addr s.d true) (bt s)
theorem octets_two {s : St} (h : s.b = false) : octets s = two (addr s.d true) (bt s) := by unfold octets; rw [h]; rfl
theorem octets_three {s : St} (h : s.b = true) : octets s = three (addr s.d true) (bt s - 1) (16 * s.k + 3) := by unfold octets; rw [h]; rfl
theorem octets_size (s : St) : (octets s).size = 2 ∨ (octets s).size = 3 := by
 cases h : s.b
 · rw [octets_two h]; exact .inl rfl
 · rw [octets_three h]; exact .inr rfl
/-- What Put answers. -/
def putS (s : St) : ByteArray := if may s then octets s else ⟨#[]⟩
def putE (s : St) : Int := if may s then 0 else 2
/-- What octets say. -/
def rd (a n x : Nat) : St := ⟨spD a, n1 n, n2 n, n3 n, n6 n, n7 n, decide (n % 2 = 0), if n % 2 = 0 then x / 16 else 0⟩
def third (v : ByteArray) : Nat := if h : 2 < v.size then v[2].toNat else 0
def rdv (v : ByteArray) : St := if h : 2 ≤ v.size then rd v[0].toNat v[1].toNat (third v) else zero
/-- Has it the octets that its signals' octet promises? -/
def whole (v : ByteArray) : Bool := if h : 2 ≤ v.size then decide (v[1].toNat % 2 = 1) || decide (3 ≤ v.size) else false
def gotS (v : ByteArray) : St := if whole v = true ∧ octets (rdv v) = v then rdv v else zero
def gotE (v : ByteArray) : Int := if whole v = true then if octets (rdv v) = v then 0 else 70 else 20
theorem got_short {v : ByteArray} (h : whole v = false) : gotS v = zero ∧ gotE v = 20 := by
 unfold gotS gotE; rw [if_neg (by rw [h]; simp), if_neg (by rw [h]; simp)]; exact ⟨rfl, rfl⟩
theorem got_no {v : ByteArray} (h : whole v = true) (h' : octets (rdv v) ≠ v) : gotS v = zero ∧ gotE v = 70 := by
 unfold gotS gotE; rw [if_neg (fun e => h' e.2), if_pos h, if_neg h']; exact ⟨rfl, rfl⟩
theorem got_ok {v : ByteArray} (h : whole v = true) (h' : octets (rdv v) = v) : gotS v = rdv v ∧ gotE v = 0 := by
 unfold gotS gotE; rw [if_pos ⟨h, h'⟩, if_pos h, if_pos h']; exact ⟨rfl, rfl⟩
theorem third_lt (v : ByteArray) : third v < 256 := by
 unfold third
 split
 · exact oct_lt _
 · decide
theorem rd_in (a n x : Nat) (ha : a < 256) (hx : x < 256) : (rd a n x).In := by
 refine ⟨?_, ?_⟩
 · have := spD_lt a ha
   show spD a < 256
   omega
 · show (if n % 2 = 0 then x / 16 else 0) < 256
   split <;> omega
theorem rd_may (a n x : Nat) (ha : a < 256) (hx : x < 256) : (rd a n x).May := by
 refine ⟨?_, ?_, ?_⟩
 · have := spD_lt a ha
   show spD a ≤ 63
   omega
 · show (if n % 2 = 0 then x / 16 else 0) ≤ 15
   split <;> omega
 · intro h
   have h' : ¬ n % 2 = 0 := of_decide_eq_false h
   exact if_neg h'
theorem rdv_may (v : ByteArray) : (rdv v).May := by
 unfold rdv
 split
 · exact rd_may _ _ _ (oct_lt _) (third_lt v)
 · exact ⟨by decide, by decide, fun _ => rfl⟩
theorem rdv_in (v : ByteArray) : (rdv v).In := by
 unfold rdv
 split
 · exact rd_in _ _ _ (oct_lt _) (third_lt v)
 · exact zero_in
theorem gotS_in (v : ByteArray) : (gotS v).In := by
 unfold gotS
 split
 · exact rdv_in v
 · exact zero_in
theorem n_oct (x : Nat) (h : x < 256) : (UInt8.ofNat x).toNat = x := by rw [UInt8.toNat_ofNat']; omega
/-- What is put is read as it was. -/
theorem rdv_octets (s : St) (hm : s.May) : whole (octets s) = true ∧ rdv (octets s) = s := by
 obtain ⟨d, f, c, r, i, v, b, k⟩ := s
 obtain ⟨m1, m2, m3⟩ := hm
 dsimp only at m1 m2 m3
 have ha := addr_lt d true
 obtain ⟨a1, -, -⟩ := addr_is (addr d true) d (by omega) true rfl
 have hs := sig_lt f c r i v
 have ho := sig_odd f c r i v
 have hb := sig_back f c r i v b
 obtain ⟨b1, b2, b3, b4, b5, b6⟩ := hb
 cases b
 · obtain rfl := m3 rfl
   rw [octets_two rfl]
   have e0 : ((two (addr d true) (sig f c r i v))[0]'(by show 0 < 2; decide)).toNat = addr d true := n_oct _ ha
   have e1 : ((two (addr d true) (sig f c r i v))[1]'(by show 1 < 2; decide)).toNat = sig f c r i v := n_oct _ hs
   refine ⟨?_, ?_⟩
   · show (if h : 2 ≤ (two (addr d true) (sig f c r i v)).size then decide (((two (addr d true) (sig f c r i v))[1]).toNat % 2 = 1) || decide (3 ≤ (two (addr d true) (sig f c r i v)).size) else false) = true
     rw [dif_pos (by show 2 ≤ 2; decide), e1, ho]; rfl
   · show (if h : 2 ≤ (two (addr d true) (sig f c r i v)).size then rd ((two (addr d true) (sig f c r i v))[0]).toNat ((two (addr d true) (sig f c r i v))[1]).toNat (third (two (addr d true) (sig f c r i v))) else zero) = _
     rw [dif_pos (by show 2 ≤ 2; decide), e0, e1]
     have b1' : n1 (sig f c r i v) = f := b1
     have b2' : n2 (sig f c r i v) = c := b2
     have b3' : n3 (sig f c r i v) = r := b3
     have b4' : n6 (sig f c r i v) = i := b4
     have b5' : n7 (sig f c r i v) = v := b5
     have b6' : decide (sig f c r i v % 2 = 0) = false := b6
     unfold rd
     rw [a1, b1', b2', b3', b4', b5', b6', if_neg (by omega)]
 · rw [octets_three rfl]
   have e0 : ((three (addr d true) (sig f c r i v - 1) (16 * k + 3))[0]'(by show 0 < 3; decide)).toNat = addr d true := n_oct _ ha
   have e1 : ((three (addr d true) (sig f c r i v - 1) (16 * k + 3))[1]'(by show 1 < 3; decide)).toNat = sig f c r i v - 1 := n_oct _ (by omega)
   have e2 : ((three (addr d true) (sig f c r i v - 1) (16 * k + 3))[2]'(by show 2 < 3; decide)).toNat = 16 * k + 3 := n_oct _ (by omega)
   refine ⟨?_, ?_⟩
   · show (if h : 2 ≤ (three (addr d true) (sig f c r i v - 1) (16 * k + 3)).size then decide (((three (addr d true) (sig f c r i v - 1) (16 * k + 3))[1]).toNat % 2 = 1) || decide (3 ≤ (three (addr d true) (sig f c r i v - 1) (16 * k + 3)).size) else false) = true
     rw [dif_pos (by show 2 ≤ 3; decide)]
     have : decide (3 ≤ (three (addr d true) (sig f c r i v - 1) (16 * k + 3)).size) = true := rfl
     rw [this, Bool.or_true]
   · show (if h : 2 ≤ (three (addr d true) (sig f c r i v - 1) (16 * k + 3)).size then rd ((three (addr d true) (sig f c r i v - 1) (16 * k + 3))[0]).toNat ((three (addr d true) (sig f c r i v - 1) (16 * k + 3))[1]).toNat (third (three (addr d true) (sig f c r i v - 1) (16 * k + 3))) else zero) = _
     have e3 : third (three (addr d true) (sig f c r i v - 1) (16 * k + 3)) = 16 * k + 3 := by unfold third; rw [dif_pos (by show 2 < 3; decide)]; exact e2
     rw [dif_pos (by show 2 ≤ 3; decide), e0, e1, e3]
     have b1' : n1 (sig f c r i v - 1) = f := b1
     have b2' : n2 (sig f c r i v - 1) = c := b2
     have b3' : n3 (sig f c r i v - 1) = r := b3
     have b4' : n6 (sig f c r i v - 1) = i := b4
     have b5' : n7 (sig f c r i v - 1) = v := b5
     have b6' : decide ((sig f c r i v - 1) % 2 = 0) = true := b6
     have hk : (16 * k + 3) / 16 = k := by omega
     unfold rd
     rw [a1, b1', b2', b3', b4', b5', b6', if_pos (by omega), hk]
theorem got_octets (s : St) (hm : may s = true) : gotS (octets s) = s ∧ gotE (octets s) = 0 := by
 obtain ⟨h1, h2⟩ := rdv_octets s ((may_iff s).1 hm)
 have := got_ok (v := octets s) h1 (by rw [h2])
 rw [h2] at this
 exact this
theorem octets_inj {s t : St} (hs : may s = true) (ht : may t = true) (h : octets s = octets t) : s = t := by
 have h1 := (rdv_octets s ((may_iff s).1 hs)).2
 have h2 := (rdv_octets t ((may_iff t).1 ht)).2
 rw [← h1, ← h2, h]
theorem octets_eq {s t : St} (hs : may s = true) (ht : may t = true) : ((octets s).toList == (octets t).toList) = eqS s t := by
 cases h : eqS s t
 · exact ne_list (fun e => by rw [(eqS_iff s t).2 (octets_inj hs ht e)] at h; cases h)
 · exact eq_list (by rw [eqS_eq h])
theorem got_nothing : gotS ⟨#[]⟩ = zero ∧ gotE ⟨#[]⟩ = 20 := got_short (by decide)
/-- What is got is put as it was. -/
theorem got_back (v : ByteArray) : (gotE v = 0 ∧ may (gotS v) = true ∧ octets (gotS v) = v) ∨ ((gotE v = 20 ∨ gotE v = 70) ∧ gotS v = zero) := by
 cases h : whole v
 · obtain ⟨e1, e2⟩ := got_short h
   exact .inr ⟨.inl e2, e1⟩
 · by_cases h' : octets (rdv v) = v
   · obtain ⟨e1, e2⟩ := got_ok h h'
     exact .inl ⟨e2, by rw [e1]; exact (may_iff _).2 (rdv_may v), by rw [e1]; exact h'⟩
   · obtain ⟨e1, e2⟩ := got_no h h'
     exact .inr ⟨.inr e2, e1⟩
/-- The document's own test of octets. -/
structure Fine (v : ByteArray) (a n x : Nat) : Prop where
 q1 : a % 2 = 1
 q2 : a / 2 % 2 = 1
 q3 : n / 16 % 4 = 0
 q4 : n % 2 = 1 → v.size = 2
 q5 : n % 2 = 0 → v.size = 3 ∧ x % 16 = 3
theorem oct_of (c : UInt8) (x : Nat) (h : x = c.toNat) : UInt8.ofNat x = c := by rw [h]; simp
theorem get_of (s : ByteArray) (k : Nat) (h : k < s.size) : s.data.toList[k]? = some s[k] := (get_list s k h).symm
theorem list2 (s : ByteArray) (h : s.size = 2) : s.data.toList = [s[0], s[1]] := by
 apply List.ext_getElem? ; intro j
 match j with
 | 0 => rw [get_of s 0 (by omega)]; rfl
 | 1 => rw [get_of s 1 (by omega)]; rfl
 | j + 2 => rw [List.getElem?_eq_none (by rw [size_toList]; omega)]; rfl
theorem list3 (s : ByteArray) (h : s.size = 3) : s.data.toList = [s[0], s[1], s[2]] := by
 apply List.ext_getElem? ; intro j
 match j with
 | 0 => rw [get_of s 0 (by omega)]; rfl
 | 1 => rw [get_of s 1 (by omega)]; rfl
 | 2 => rw [get_of s 2 (by omega)]; rfl
 | j + 3 => rw [List.getElem?_eq_none (by rw [size_toList]; omega)]; rfl
theorem addr_at (a : Nat) (ha : a < 256) : addr (spD a) true = a ↔ a % 2 = 1 ∧ a / 2 % 2 = 1 := by
 have h := spD_lt a ha
 rw [addr, if_neg (by omega)]
 show 4 * spD a + 2 * 1 + 1 = a ↔ _
 unfold spD
 split <;> omega
theorem fine_ok (v : ByteArray) (h : 2 ≤ v.size) (hf : Fine v v[0].toNat v[1].toNat (third v)) : octets (rdv v) = v := by
 obtain ⟨f1, f2, f3, f4, f5⟩ := hf
 have hr : rdv v = rd v[0].toNat v[1].toNat (third v) := dif_pos h
 have ha : addr (spD v[0].toNat) true = v[0].toNat := (addr_at _ (oct_lt _)).2 ⟨f1, f2⟩
 have hn := sig_is v[1].toNat (oct_lt _) f3
 rw [hr]
 rcases Nat.mod_two_eq_zero_or_one v[1].toNat with hp | hp
 · obtain ⟨h3, hx⟩ := f5 hp
   have ht : third v = v[2].toNat := dif_pos (by omega)
   rw [octets_three (show decide (v[1].toNat % 2 = 0) = true by rw [hp]; rfl)]
   have hb : bt (rd v[0].toNat v[1].toNat (third v)) - 1 = v[1].toNat := by
    rw [hp] at hn; exact hn
   have hk : 16 * (rd v[0].toNat v[1].toNat (third v)).k + 3 = v[2].toNat := by
    show 16 * (if v[1].toNat % 2 = 0 then third v / 16 else 0) + 3 = _
    rw [if_pos hp]; omega
   show three (addr (spD v[0].toNat) true) _ _ = v
   rw [ha, hb, hk]
   apply bext
   rw [list3 v h3]
   show [_, _, _] = [_, _, _]
   rw [oct_of _ _ rfl, oct_of _ _ rfl, oct_of _ _ rfl]
 · have h2 := f4 hp
   rw [octets_two (show decide (v[1].toNat % 2 = 0) = false by rw [hp]; rfl)]
   have hb : bt (rd v[0].toNat v[1].toNat (third v)) = v[1].toNat := by
    rw [hp] at hn; exact hn
   show two (addr (spD v[0].toNat) true) _ = v
   rw [ha, hb]
   apply bext
   rw [list2 v h2]
   show [_, _] = [_, _]
   rw [oct_of _ _ rfl, oct_of _ _ rfl]
theorem fine_of (v : ByteArray) (h : 2 ≤ v.size) (ho : octets (rdv v) = v) : Fine v v[0].toNat v[1].toNat (third v) := by
 have hr : rdv v = rd v[0].toNat v[1].toNat (third v) := dif_pos h
 rw [hr] at ho
 have b0 := oct_lt v[0]
 have b1 := oct_lt v[1]
 have g0 := get_of v 0 (by omega)
 have g1 := get_of v 1 (by omega)
 have al := addr_lt (spD v[0].toNat) true
 have sl := sig_lt (n1 v[1].toNat) (n2 v[1].toNat) (n3 v[1].toNat) (n6 v[1].toNat) (n7 v[1].toNat)
 have key : ∀ x : Nat, x < 256 → ∀ c : UInt8, some (UInt8.ofNat x) = some c → x = c.toNat := fun x hx c e => by
  rw [← Option.some.inj e]; exact (n_oct x hx).symm
 rcases Nat.mod_two_eq_zero_or_one v[1].toNat with hp | hp
 · rw [octets_three (show decide (v[1].toNat % 2 = 0) = true by rw [hp]; rfl)] at ho
   have hs : v.size = 3 := by rw [← ho]; rfl
   have ht : third v = v[2].toNat := dif_pos (by omega)
   have g2 := get_of v 2 (by omega)
   have b2 := oct_lt v[2]
   have hkk : (rd v[0].toNat v[1].toNat (third v)).k = v[2].toNat / 16 := by
    show (if v[1].toNat % 2 = 0 then third v / 16 else 0) = _
    rw [if_pos hp, ht]
   have e0 := key (addr (spD v[0].toNat) true) al v[0] ((congrArg (fun s : ByteArray => s.data.toList[0]?) ho).trans g0)
   have e1 := key (bt (rd v[0].toNat v[1].toNat (third v)) - 1) (by have := bt_lt (rd v[0].toNat v[1].toNat (third v)); omega) v[1] ((congrArg (fun s : ByteArray => s.data.toList[1]?) ho).trans g1)
   have e2 := key (16 * (rd v[0].toNat v[1].toNat (third v)).k + 3) (by rw [hkk]; omega) v[2] ((congrArg (fun s : ByteArray => s.data.toList[2]?) ho).trans g2)
   obtain ⟨q1, q2⟩ := (addr_at _ b0).1 e0
   refine ⟨q1, q2, ?_, fun h' => by omega, fun _ => ⟨hs, ?_⟩⟩
   · by_cases hz : v[1].toNat / 16 % 4 = 0
     · exact hz
     · exact absurd (by rw [hp]; exact e1) (sig_no v[1].toNat b1 hz)
   · rw [hkk] at e2; rw [ht]; omega
 · rw [octets_two (show decide (v[1].toNat % 2 = 0) = false by rw [hp]; rfl)] at ho
   have hs : v.size = 2 := by rw [← ho]; rfl
   have e0 := key (addr (spD v[0].toNat) true) al v[0] ((congrArg (fun s : ByteArray => s.data.toList[0]?) ho).trans g0)
   have e1 := key (bt (rd v[0].toNat v[1].toNat (third v))) (bt_lt _) v[1] ((congrArg (fun s : ByteArray => s.data.toList[1]?) ho).trans g1)
   obtain ⟨q1, q2⟩ := (addr_at _ b0).1 e0
   refine ⟨q1, q2, ?_, fun _ => hs, fun h' => by omega⟩
   by_cases hz : v[1].toNat / 16 % 4 = 0
   · exact hz
   · exact absurd (by rw [hp]; exact e1) (sig_no v[1].toNat b1 hz)
end Go.Proofs.YtakkhdammmcjcaaGreatDoor.Msc
namespace Go.Proofs.YtakkhdammmcjcaaGreatDoor.Msgs
open Base Mem Ea
/-- A message. -/
structure Ms where
 k : Nat
 c : Bool
 p : Pn.Pr
 s : Msc.St
 t : Nat
 b : ByteArray
structure Ms.In (m : Ms) : Prop where
 k : m.k < 256
 p : m.p.In
 s : m.s.In
 t : m.t < 256
def no : ByteArray := ⟨#[]⟩
def zero : Ms := ⟨0, false, Pn.zero, Msc.zero, 0, no⟩
theorem zero_in : zero.In := ⟨by decide, Pn.zero_in, Msc.zero_in, by decide⟩
/-- What == of two answers. -/
def eqM (a b : Ms) : Bool := (a.k == b.k) && (a.c == b.c) && Pn.eqP a.p b.p && Msc.eqS a.s b.s && (a.t == b.t) && (a.b.toList == b.b.toList)
theorem eqM_iff (a b : Ms) : eqM a b = true ↔ a = b := by
 unfold eqM
 constructor
 · intro h
   simp only [Bool.and_eq_true, beq_iff_eq] at h
   obtain ⟨⟨⟨⟨⟨h1, h2⟩, h3⟩, h4⟩, h5⟩, h6⟩ := h
   have h3 := Pn.eqP_eq h3
   have h4 := Msc.eqS_eq h4
   have h6 : a.b = b.b := by rw [ByteArray.toList_eq, ByteArray.toList_eq] at h6; exact bext h6
   cases a; cases b; simp_all
 · rintro rfl
   simp [Pn.eqP_self, Msc.eqS_self]
theorem eqM_self (a : Ms) : eqM a a = true := (eqM_iff a a).2 rfl
/-- The types of the kinds, as the program's table has them. -/
def tyL : List Nat := [0, 32, 56, 40, 24, 8, 48, 4]
def tyN (k : Nat) : Nat := tyL.getD k 0
theorem tyN_lt (k : Nat) (h : k < 8) : tyN k < 256 := by
 have : ∀ j : Fin 8, tyN j.val < 256 := by decide
 exact this ⟨k, h⟩
/-- The first kind from k on, of n in a row, whose type t is; 8, if none is. -/
def kFrom (t : Nat) : Nat → Nat → Nat
 | 0, _ => 8
 | n + 1, k => if tyN k = t then k else kFrom t n (k + 1)
def kOf (t : Nat) : Nat := kFrom t 7 1
theorem kFrom_hit {t n k : Nat} (h : tyN k = t) : kFrom t (n + 1) k = k := by simp [kFrom, h]
theorem kFrom_miss {t n k : Nat} (h : tyN k ≠ t) : kFrom t (n + 1) k = kFrom t n (k + 1) := by simp [kFrom, h]
theorem kOf_is (t : Nat) (h : t < 256) : 1 ≤ kOf t ∧ kOf t ≤ 8 ∧ (kOf t = 8 ∨ tyN (kOf t) = t) := by
 have : ∀ j : Fin 256, 1 ≤ kOf j.val ∧ kOf j.val ≤ 8 ∧ (kOf j.val = 8 ∨ tyN (kOf j.val) = j.val) := by decide +kernel
 exact this ⟨t, h⟩
theorem kOf_ty : ∀ k : Nat, 1 ≤ k → k ≤ 7 → kOf (tyN k) = k := by
 have : ∀ j : Fin 8, 1 ≤ j.val → kOf (tyN j.val) = j.val := by decide +kernel
 exact fun k h1 h2 => this ⟨k, by omega⟩ h1
theorem tyN_le (k : Nat) (h : k < 8) : tyN k ≤ 63 := by
 have : ∀ j : Fin 8, tyN j.val ≤ 63 := by decide +kernel
 exact this ⟨k, h⟩
/-- A message with nothing but what its Kind needs. -/
def need (m : Ms) : Ms := ⟨m.k, m.c, if m.k = 1 then m.p else Pn.zero, if m.k = 2 then m.s else Msc.zero, if m.k = 7 ∨ m.k = 8 then m.t else 0, if m.k = 5 ∨ m.k = 8 then m.b else no⟩
/-- May what it needs be? -/
def vOk (m : Ms) : Bool := if m.k = 1 then Pn.may m.p else if m.k = 2 then Msc.may m.s else if m.k = 8 then decide (m.t ≤ 63) && (kOf m.t == 8) else decide (3 ≤ m.k ∧ m.k ≤ 7)
/-- Its value. -/
def val (m : Ms) : ByteArray := if m.k = 1 then Pn.putS m.p else if m.k = 2 then Msc.putS m.s else if m.k = 7 then one m.t else if m.k = 5 ∨ m.k = 8 then m.b else no
def may (m : Ms) : Bool := vOk m && eqM m (need m)
/-- Its type. -/
def ty (m : Ms) : Nat := if m.k = 8 then m.t else tyN m.k
def putE (m : Ms) : Nat := if may m then Tlv.putE (ty m) (val m) else 2
def putS (m : Ms) : ByteArray := if may m then Tlv.putS (ty m) m.c (val m) else no
def oct (m : Ms) : Nat := if may m then addr (ty m) m.c else 0
theorem may_of {m : Ms} (h : may m = true) : vOk m = true ∧ m = need m := by
 unfold may at h
 rw [Bool.and_eq_true, eqM_iff] at h
 exact h
theorem may_k {m : Ms} (h : may m = true) : 1 ≤ m.k ∧ m.k ≤ 8 := by
 have := (may_of h).1
 unfold vOk at this
 split at this
 · omega
 · split at this
   · omega
   · split at this
     · omega
     · have := of_decide_eq_true this; omega
theorem ty_le {m : Ms} (h : may m = true) : ty m ≤ 63 := by
 have hk := may_k h
 have hv := (may_of h).1
 unfold ty
 split
 · rename_i h8
   unfold vOk at hv
   rw [if_neg (by omega), if_neg (by omega), if_pos h8, Bool.and_eq_true] at hv
   exact of_decide_eq_true hv.1
 · exact tyN_le _ (by omega)
theorem kOf_of {m : Ms} (h : may m = true) : kOf (ty m) = m.k := by
 have hk := may_k h
 have hv := (may_of h).1
 unfold ty
 split
 · rename_i h8
   unfold vOk at hv
   rw [if_neg (by omega), if_neg (by omega), if_pos h8, Bool.and_eq_true, beq_iff_eq] at hv
   rw [hv.2, h8]
 · exact kOf_ty _ (by omega) (by omega)
/-- What a type and a value say. -/
def rdM (t : Nat) (v : ByteArray) : Ms :=
 if kOf t = 1 then ⟨1, false, Pn.gotP v, Msc.zero, 0, no⟩ else
 if kOf t = 2 then ⟨2, false, Pn.zero, Msc.gotS v, 0, no⟩ else
 if kOf t = 5 then ⟨5, false, Pn.zero, Msc.zero, 0, v⟩ else
 if kOf t = 7 then if h : v.size = 1 then ⟨7, false, Pn.zero, Msc.zero, v[0].toNat, no⟩ else zero else
 if kOf t = 8 then ⟨8, false, Pn.zero, Msc.zero, t, v⟩ else ⟨kOf t, false, Pn.zero, Msc.zero, 0, no⟩
def rdOk (t : Nat) (v : ByteArray) : Bool :=
 if kOf t = 1 then decide (Pn.gotE v = 0) else if kOf t = 2 then decide (Msc.gotE v = 0) else
 if kOf t = 5 ∨ kOf t = 8 then true else if kOf t = 7 then decide (v.size = 1) else decide (v.size = 0)
def Ms.cmd (m : Ms) (c : Bool) : Ms := ⟨m.k, c, m.p, m.s, m.t, m.b⟩
/-- What octets begin with. -/
structure Got where
 m : Ms
 n : Nat
 e : Nat
def bad (e : Nat) : Got := ⟨zero, 0, e⟩
def got (s : ByteArray) : Got :=
 if (Tlv.got s).e = 0 then if rdOk (Tlv.got s).k (Tlv.got s).v = true then ⟨(rdM (Tlv.got s).k (Tlv.got s).v).cmd (Tlv.got s).c, (Tlv.got s).n, 0⟩ else bad 70 else bad (Tlv.got s).e
theorem got_err {s : ByteArray} (h : (Tlv.got s).e ≠ 0) : got s = bad (Tlv.got s).e := if_neg h
theorem got_not {s : ByteArray} (h : (Tlv.got s).e = 0) (h' : rdOk (Tlv.got s).k (Tlv.got s).v = false) : got s = bad 70 := by
 unfold got; rw [if_pos h, h']; rfl
theorem got_fine {s : ByteArray} (h : (Tlv.got s).e = 0) (h' : rdOk (Tlv.got s).k (Tlv.got s).v = true) : got s = ⟨(rdM (Tlv.got s).k (Tlv.got s).v).cmd (Tlv.got s).c, (Tlv.got s).n, 0⟩ := by
 unfold got; rw [if_pos h, if_pos h']
theorem one_get (t : Nat) (h : t < 256) : ((one t)[0]'(by show 0 < 1; decide)).toNat = t := by
 show (UInt8.ofNat t).toNat = t
 rw [UInt8.toNat_ofNat']; omega
theorem one_of (v : ByteArray) (h : v.size = 1) : one v[0].toNat = v := by
 apply bext
 show [UInt8.ofNat v[0].toNat] = _
 rw [one_of_size h]
 simp
theorem nil_of (v : ByteArray) (h : v.size = 0) : no = v := (nil_of_size h).symm
/-- What is put is read as it was. -/
theorem rd_of {m : Ms} (hi : m.In) (h : may m = true) : rdOk (ty m) (val m) = true ∧ (rdM (ty m) (val m)).cmd m.c = m := by
 have hk := may_k h
 have hq := kOf_of h
 obtain ⟨hv, hn⟩ := may_of h
 have hr : rdOk (ty m) (val m) = (if m.k = 1 then decide (Pn.gotE (val m) = 0) else if m.k = 2 then decide (Msc.gotE (val m) = 0) else
  if m.k = 5 ∨ m.k = 8 then true else if m.k = 7 then decide ((val m).size = 1) else decide ((val m).size = 0)) := by unfold rdOk; rw [hq]
 obtain ⟨k, c, p, s, t, b⟩ := m
 dsimp only at hk
 have e1 : (val ⟨k, c, p, s, t, b⟩) = if k = 1 then Pn.putS p else if k = 2 then Msc.putS s else if k = 7 then one t else if k = 5 ∨ k = 8 then b else no := rfl
 have hn2 : p = (if k = 1 then p else Pn.zero) ∧ s = (if k = 2 then s else Msc.zero) ∧ t = (if k = 7 ∨ k = 8 then t else 0) ∧ b = (if k = 5 ∨ k = 8 then b else no) := by
  unfold need at hn; injection hn with _ _ h3 h4 h5 h6; exact ⟨h3, h4, h5, h6⟩
 obtain ⟨n1, n2, n3, n4⟩ := hn2
 have cases8 : k = 1 ∨ k = 2 ∨ k = 5 ∨ k = 7 ∨ k = 8 ∨ k = 3 ∨ k = 4 ∨ k = 6 := by omega
 have h8 : k = 8 → ty ⟨k, c, p, s, t, b⟩ = t := fun e => if_pos e
 unfold rdM
 rw [hr, hq]
 dsimp only
 rcases cases8 with rfl | rfl | rfl | rfl | rfl | h3
 · rw [e1, if_pos rfl, if_pos rfl, if_pos rfl]
   have hm : Pn.may p = true := by simpa [vOk] using hv
   unfold Pn.putS
   rw [if_pos hm]
   obtain ⟨g1, g2⟩ := Pn.got_octets p hi.p hm
   rw [g1, g2]
   rw [if_neg (by decide)] at n2 n3 n4
   rw [n2, n3, n4]
   exact ⟨rfl, rfl⟩
 · rw [e1, if_neg (by decide), if_pos rfl, if_neg (by decide), if_pos rfl, if_neg (by decide), if_pos rfl]
   have hm : Msc.may s = true := by simpa [vOk] using hv
   unfold Msc.putS
   rw [if_pos hm]
   obtain ⟨g1, g2⟩ := Msc.got_octets s hm
   rw [g1, g2]
   rw [if_neg (by decide)] at n1 n3 n4
   rw [n1, n3, n4]
   exact ⟨rfl, rfl⟩
 · rw [if_neg (by decide)] at n1 n2 n3
   rw [e1, n1, n2, n3]
   exact ⟨rfl, rfl⟩
 · rw [if_neg (by decide)] at n1 n2 n4
   rw [e1, n1, n2, n4]
   have hg := one_get t hi.t
   refine ⟨rfl, ?_⟩
   show Ms.cmd (if h : (one t).size = 1 then ⟨7, false, Pn.zero, Msc.zero, (one t)[0].toNat, no⟩ else zero) c = _
   rw [dif_pos (show (one t).size = 1 from rfl), hg]; rfl
 · rw [if_neg (by decide)] at n1 n2
   rw [h8 rfl, e1, n1, n2]
   exact ⟨rfl, rfl⟩
 · rw [if_neg (by omega)] at n1 n2 n3 n4
   rw [e1, n1, n2, n3, n4]
   rcases h3 with rfl | rfl | rfl <;> exact ⟨rfl, rfl⟩
theorem bytes_of {m : Ms} (h : may m = true) (hv : (val m).size ≤ 127) : putE m = 0 ∧ putS m = Tlv.It.bytes ⟨ty m, m.c, val m⟩ ∧ Tlv.It.Ok ⟨ty m, m.c, val m⟩ := by
 have hp := Tlv.putE_of (ty_le h) hv
 unfold putE putS
 rw [if_pos h, if_pos h, hp]
 exact ⟨rfl, Tlv.putS_ok hp, ty_le h, hv⟩
/-- What is put is got as it was, whatever stands behind it. -/
theorem got_put {m : Ms} (hi : m.In) (h : may m = true) (hv : (val m).size ≤ 127) (s : ByteArray) : got (putS m ++ s) = ⟨m, (putS m).size, 0⟩ := by
 obtain ⟨_, e2, e3⟩ := bytes_of h hv
 obtain ⟨r1, r2⟩ := rd_of hi h
 have hg := Tlv.got_put e3 s
 rw [← e2] at hg
 have := got_fine (s := putS m ++ s) (by rw [hg]) (by rw [hg]; exact r1)
 rw [this, hg]
 dsimp only
 rw [r2]
theorem val_size {m : Ms} (hb : m.b.size ≤ 127) : (val m).size ≤ 127 := by
 unfold val
 split
 · unfold Pn.putS; split
   · rw [Pn.octets_size]; decide
   · show 0 ≤ 127; decide
 · split
   · unfold Msc.putS; split
     · rcases Msc.octets_size m.s with h | h <;> omega
     · show 0 ≤ 127; decide
   · split
     · show 1 ≤ 127; decide
     · split
       · exact hb
       · show 0 ≤ 127; decide
theorem putE_may {m : Ms} (h : putE m = 0) : may m = true ∧ (val m).size ≤ 127 := by
 unfold putE at h
 split at h
 · rename_i hm
   exact ⟨hm, (Tlv.putE_ok h).2⟩
 · exact absurd h (by decide)
theorem putE_iff {m : Ms} (hb : m.b.size ≤ 127) : putE m = 0 ↔ may m = true := ⟨fun h => (putE_may h).1, fun h => (bytes_of h (val_size hb)).1⟩
theorem putS_size {m : Ms} (h : putE m = 0) : (putS m).size = 2 + (val m).size := by
 obtain ⟨h1, h2⟩ := putE_may h
 obtain ⟨_, e2, e3⟩ := bytes_of h1 h2
 rw [e2, Tlv.bytes_size e3]
theorem putS_first {m : Ms} (h : putE m = 0) : ∃ hz : 0 < (putS m).size, (putS m)[0].toNat = oct m := by
 obtain ⟨h1, h2⟩ := putE_may h
 obtain ⟨_, e2, e3⟩ := bytes_of h1 h2
 have hl := Tlv.bytes_list e3
 have hz : 0 < (putS m).size := by rw [putS_size h]; omega
 refine ⟨hz, ?_⟩
 have hL : (putS m).data.toList = UInt8.ofNat (addr (ty m) m.c) :: UInt8.ofNat (2 * (val m).size + 1) :: (val m).data.toList := by rw [e2]; exact hl
 have h0 := get_list (putS m) 0 hz
 rw [hL] at h0
 have : (putS m)[0] = UInt8.ofNat (addr (ty m) m.c) := Option.some.inj h0
 rw [this, nat_oct _ (addr_lt _ _)]
 unfold oct
 rw [if_pos h1]
/-- What is got may be, and is put as it was. -/
theorem put_got {s : ByteArray} (h : (got s).e = 0) : (got s).m.In ∧ putE (got s).m = 0 ∧ 2 ≤ (got s).n ∧ (got s).n ≤ s.size ∧ putS (got s).m = s.extract 0 (got s).n := by
 by_cases h0 : (Tlv.got s).e = 0
 · cases h1 : rdOk (Tlv.got s).k (Tlv.got s).v
   · rw [got_not h0 h1] at h; exact absurd h (by decide)
   · rw [got_fine h0 h1]
     obtain ⟨p1, p2, p3, p4⟩ := Tlv.put_got h0
     obtain ⟨q1, q2⟩ := Tlv.putE_ok p1
     generalize (Tlv.got s).k = t at *
     generalize (Tlv.got s).c = c at *
     generalize (Tlv.got s).v = v at *
     generalize (Tlv.got s).n = n at *
     dsimp only
     obtain ⟨k1, k2, k3⟩ := kOf_is t (by omega)
     have key : ((rdM t v).cmd c).In ∧ may ((rdM t v).cmd c) = true ∧ ty ((rdM t v).cmd c) = t ∧ val ((rdM t v).cmd c) = v := by
      have hz : ∀ k c p s t b, eqM ⟨k, c, p, s, t, b⟩ (need ⟨k, c, p, s, t, b⟩) = eqM ⟨k, c, p, s, t, b⟩ ⟨k, c, if k = 1 then p else Pn.zero, if k = 2 then s else Msc.zero, if k = 7 ∨ k = 8 then t else 0, if k = 5 ∨ k = 8 then b else no⟩ := fun _ _ _ _ _ _ => rfl
      unfold rdOk at h1
      have cases8 : kOf t = 1 ∨ kOf t = 2 ∨ kOf t = 5 ∨ kOf t = 7 ∨ kOf t = 8 ∨ kOf t = 3 ∨ kOf t = 4 ∨ kOf t = 6 := by omega
      unfold rdM
      rcases cases8 with hk | hk | hk | hk | hk | hk
      · have ht : tyN 1 = t := by rw [hk] at k3; exact k3.resolve_left (by decide)
        rw [hk] at h1 ⊢
        rw [if_pos rfl] at h1 ⊢
        have hg := of_decide_eq_true h1
        rcases Pn.got_back v with ⟨_, g2, g3⟩ | ⟨g1, _⟩
        · refine ⟨⟨by show 1 < 256; decide, Pn.gotP_in v, Msc.zero_in, by show 0 < 256; decide⟩, ?_, ht, ?_⟩
          · unfold may
            rw [Bool.and_eq_true]
            exact ⟨g2, by rw [eqM_iff]; rfl⟩
          · show Pn.putS (Pn.gotP v) = v
            unfold Pn.putS
            rw [if_pos g2, g3]
        · rw [hg] at g1; rcases g1 with g1 | g1 <;> exact absurd g1 (by decide)
      · have ht : tyN 2 = t := by rw [hk] at k3; exact k3.resolve_left (by decide)
        rw [hk] at h1 ⊢
        rw [if_neg (by decide), if_pos rfl] at h1 ⊢
        have hg := of_decide_eq_true h1
        rcases Msc.got_back v with ⟨_, g2, g3⟩ | ⟨g1, _⟩
        · refine ⟨⟨by show 2 < 256; decide, Pn.zero_in, Msc.gotS_in v, by show 0 < 256; decide⟩, ?_, ht, ?_⟩
          · unfold may
            rw [Bool.and_eq_true]
            exact ⟨g2, by rw [eqM_iff]; rfl⟩
          · show Msc.putS (Msc.gotS v) = v
            unfold Msc.putS
            rw [if_pos g2, g3]
        · rw [hg] at g1; rcases g1 with g1 | g1 <;> exact absurd g1 (by decide)
      · have ht : tyN 5 = t := by rw [hk] at k3; exact k3.resolve_left (by decide)
        rw [hk]
        refine ⟨⟨by show 5 < 256; decide, Pn.zero_in, Msc.zero_in, by show 0 < 256; decide⟩, ?_, ht, rfl⟩
        unfold may
        rw [Bool.and_eq_true]
        exact ⟨rfl, by rw [eqM_iff]; rfl⟩
      · have ht : tyN 7 = t := by rw [hk] at k3; exact k3.resolve_left (by decide)
        rw [hk] at h1 ⊢
        rw [if_neg (by decide), if_neg (by decide), if_neg (by decide), if_pos rfl] at h1
        have hs := of_decide_eq_true h1
        rw [if_neg (by decide), if_neg (by decide), if_neg (by decide), if_pos rfl, dif_pos hs]
        refine ⟨⟨by show 7 < 256; decide, Pn.zero_in, Msc.zero_in, oct_lt _⟩, ?_, ht, one_of v hs⟩
        unfold may
        rw [Bool.and_eq_true]
        exact ⟨rfl, by rw [eqM_iff]; rfl⟩
      · rw [hk]
        refine ⟨⟨by show 8 < 256; decide, Pn.zero_in, Msc.zero_in, by show t < 256; omega⟩, ?_, rfl, rfl⟩
        unfold may
        rw [Bool.and_eq_true]
        refine ⟨?_, by rw [eqM_iff]; rfl⟩
        show (decide (t ≤ 63) && (kOf t == 8)) = true
        rw [hk, Bool.and_eq_true]
        exact ⟨decide_eq_true q1, rfl⟩
      · have ht : tyN (kOf t) = t := k3.resolve_left (by omega)
        have hs : v.size = 0 := by
         rw [if_neg (by omega), if_neg (by omega), if_neg (by omega), if_neg (by omega)] at h1
         exact of_decide_eq_true h1
        have hv := nil_of v hs
        rw [if_neg (by omega), if_neg (by omega), if_neg (by omega), if_neg (by omega), if_neg (by omega)]
        rcases hk with hk | hk | hk
        · rw [hk] at ht ⊢
          refine ⟨⟨by show 3 < 256; decide, Pn.zero_in, Msc.zero_in, by show 0 < 256; decide⟩, ?_, ht, hv⟩
          unfold may
          rw [Bool.and_eq_true]
          exact ⟨rfl, by rw [eqM_iff]; rfl⟩
        · rw [hk] at ht ⊢
          refine ⟨⟨by show 4 < 256; decide, Pn.zero_in, Msc.zero_in, by show 0 < 256; decide⟩, ?_, ht, hv⟩
          unfold may
          rw [Bool.and_eq_true]
          exact ⟨rfl, by rw [eqM_iff]; rfl⟩
        · rw [hk] at ht ⊢
          refine ⟨⟨by show 6 < 256; decide, Pn.zero_in, Msc.zero_in, by show 0 < 256; decide⟩, ?_, ht, hv⟩
          unfold may
          rw [Bool.and_eq_true]
          exact ⟨rfl, by rw [eqM_iff]; rfl⟩
     obtain ⟨r1, r2, r3, r4⟩ := key
     have r5 : ((rdM t v).cmd c).c = c := rfl
     generalize (rdM t v).cmd c = m at *
     have hb := bytes_of r2 (by rw [r4]; exact q2)
     rw [r3, r4, r5] at hb
     exact ⟨r1, hb.1, p2, p3, hb.2.1.trans p4⟩
 · rw [got_err h0] at h; exact absurd h h0
theorem got_e (s : ByteArray) : (got s).e = 0 ∨ (got s).e ≠ 0 ∧ got s = bad (got s).e := by
 by_cases h0 : (Tlv.got s).e = 0
 · cases h1 : rdOk (Tlv.got s).k (Tlv.got s).v
   · rw [got_not h0 h1]; exact .inr ⟨by decide, rfl⟩
   · rw [got_fine h0 h1]; exact .inl rfl
 · rw [got_err h0]; exact .inr ⟨h0, rfl⟩
theorem got_in (s : ByteArray) : (got s).m.In := by
 rcases got_e s with h | ⟨_, h⟩
 · exact (put_got h).1
 · rw [h]; exact zero_in
/-- All messages that octets begin with, behind those that were got. -/
def allA (s : ByteArray) : Nat → Nat → List Ms → List Ms × Nat
 | 0, at_, acc => (acc, at_)
 | f + 1, at_, acc => if (got (s.extract at_ s.size)).e = 0 then allA s f (at_ + (got (s.extract at_ s.size)).n) (acc ++ [(got (s.extract at_ s.size)).m]) else (acc, at_)
def all (s : ByteArray) : List Ms × Nat := allA s (s.size + 1) 0 []
def Left (s : ByteArray) (at_ : Nat) (acc : List Ms) : Prop := ∃ f, s.size < f + at_ ∧ allA s f at_ acc = all s
theorem left_start (s : ByteArray) : Left s 0 [] := ⟨s.size + 1, by omega, rfl⟩
theorem left_step {s : ByteArray} {at_ : Nat} {acc : List Ms} (h : Left s at_ acc) (hle : at_ ≤ s.size) (he : (got (s.extract at_ s.size)).e = 0) :
 Left s (at_ + (got (s.extract at_ s.size)).n) (acc ++ [(got (s.extract at_ s.size)).m]) ∧ 2 ≤ (got (s.extract at_ s.size)).n ∧ at_ + (got (s.extract at_ s.size)).n ≤ s.size ∧ (got (s.extract at_ s.size)).m.In := by
 obtain ⟨f, hf, h⟩ := h
 obtain ⟨h1, _, h2, h3, _⟩ := put_got he
 rw [ext_size] at h3
 match f, hf, h with
 | 0, hf, _ => omega
 | f + 1, hf, h =>
  rw [allA, if_pos he] at h
  exact ⟨⟨f, by omega, h⟩, h2, by omega, h1⟩
theorem left_bad {s : ByteArray} {at_ : Nat} {acc : List Ms} (h : Left s at_ acc) (hle : at_ ≤ s.size) (he : (got (s.extract at_ s.size)).e ≠ 0) : all s = (acc, at_) := by
 obtain ⟨f, hf, h⟩ := h
 match f, hf, h with
 | 0, hf, _ => omega
 | f + 1, hf, h =>
  rw [allA, if_neg he] at h
  exact h.symm
theorem got_end {s : ByteArray} (h : s.size = 0) : (got s).e ≠ 0 := by
 rw [nil_of_size h]; decide
theorem left_done {s : ByteArray} {at_ : Nat} {acc : List Ms} (h : Left s at_ acc) (hle : at_ = s.size) : all s = (acc, at_) :=
 left_bad h (by omega) (got_end (by rw [ext_size]; omega))
theorem all_len (s : ByteArray) : (all s).1.length ≤ s.size := by
 have key : ∀ (f k : Nat) (acc : List Ms), acc.length ≤ k → k ≤ s.size → (allA s f k acc).1.length ≤ s.size := by
  intro f
  induction f with
  | zero => intro k acc h1 h2; show acc.length ≤ _; omega
  | succ f ih =>
   intro k acc h1 h2
   rw [allA]
   split
   · rename_i h4
     obtain ⟨_, _, h5, h6, _⟩ := put_got (s := s.extract k s.size) h4
     rw [ext_size] at h6
     exact ih _ _ (by simp; omega) (by omega)
   · show acc.length ≤ _; omega
 exact key _ 0 [] (Nat.zero_le _) (Nat.zero_le _)
/-- The octets of messages that are put one behind the other. -/
def enc : List Ms → ByteArray
 | [] => no
 | x :: r => putS x ++ enc r
theorem app_no (a : ByteArray) : a ++ no = a := by apply bext; rw [app_list]; show _ ++ [] = _; simp
theorem no_app (a : ByteArray) : no ++ a = a := by apply bext; rw [app_list]; rfl
theorem app_assoc (a b c : ByteArray) : a ++ b ++ c = a ++ (b ++ c) := by apply bext; simp only [app_list, List.append_assoc]
theorem enc_snoc (l : List Ms) (x : Ms) : enc (l ++ [x]) = enc l ++ putS x := by
 induction l with
 | nil => show putS x ++ enc [] = enc [] ++ putS x; show putS x ++ no = no ++ putS x; rw [app_no, no_app]
 | cons a r ih => show putS a ++ enc (r ++ [x]) = (putS a ++ enc r) ++ putS x; rw [ih, app_assoc]
/-- It may be put. -/
structure Ms.Ok (m : Ms) : Prop where
 in_ : m.In
 may : may m = true
 few : (val m).size ≤ 127
theorem enc_size (l : List Ms) (h : ∀ x ∈ l, x.Ok) : (enc l).size ≤ 129 * l.length := by
 induction l with
 | nil => exact Nat.le_refl _
 | cons a r ih =>
  have h1 := ih fun x hx => h x (List.mem_cons_of_mem _ hx)
  have h0 := h a List.mem_cons_self
  have h2 := putS_size (bytes_of h0.may h0.few).1
  have h3 := h0.few
  show (putS a ++ enc r).size ≤ _
  rw [ByteArray.size_append, List.length_cons]
  omega
theorem all_enc (l : List Ms) (h : ∀ x ∈ l, x.Ok) (z : ByteArray) (hz : (got z).e ≠ 0) : all (enc l ++ z) = (l, (enc l).size) := by
 have key : ∀ (r acc : List Ms), (∀ x ∈ r, x.Ok) → enc l ++ z = enc acc ++ (enc r ++ z) → Left (enc l ++ z) (enc acc).size acc → all (enc l ++ z) = (acc ++ r, (enc (acc ++ r)).size) := by
  intro r
  induction r with
  | nil =>
   intro acc _ he hL
   rw [List.append_nil]
   have hs : (enc l ++ z).extract (enc acc).size (enc l ++ z).size = z := by
    apply bext
    rw [ext_drop, he, app_list, List.drop_left' (size_toList _)]
    show (no ++ z).data.toList = _
    rw [no_app]
   refine left_bad hL ?_ (by rw [hs]; exact hz)
   rw [he, ByteArray.size_append]; omega
  | cons x r ih =>
   intro acc hok he hL
   have hx := hok x List.mem_cons_self
   have ex : (enc l ++ z).extract (enc acc).size (enc l ++ z).size = putS x ++ (enc r ++ z) := by
    apply bext
    rw [ext_drop, he, app_list, List.drop_left' (size_toList _)]
    show (putS x ++ enc r ++ z).data.toList = _
    rw [app_assoc]
   have hle : (enc acc).size ≤ (enc l ++ z).size := by
    rw [he, ByteArray.size_append]; omega
   have hg := got_put hx.in_ hx.may hx.few (enc r ++ z)
   have hs := (left_step hL hle (by rw [ex, hg])).1
   rw [ex, hg] at hs
   have e1 : (enc acc).size + (putS x).size = (enc (acc ++ [x])).size := by rw [enc_snoc, ByteArray.size_append]
   simp only [e1] at hs
   have := ih (acc ++ [x]) (fun y hy => hok y (List.mem_cons_of_mem _ hy)) (by
    rw [he, enc_snoc]
    show enc acc ++ (putS x ++ enc r ++ z) = _
    simp only [app_assoc]) hs
   rw [this, List.append_assoc]; rfl
 have := key l [] h (by rw [show enc [] = no from rfl, no_app]) (left_start _)
 rw [this]; rfl
theorem got_nul : (got ⟨#[0]⟩).e ≠ 0 := by decide
end Go.Proofs.YtakkhdammmcjcaaGreatDoor.Msgs

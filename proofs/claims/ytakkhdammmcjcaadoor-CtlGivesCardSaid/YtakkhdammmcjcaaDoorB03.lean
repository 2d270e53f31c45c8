/-
  Layer 22, put together: MsgsMath, CtlMath (what each says stands ahead of it). Conditions: as each names them.
-/
import Derived.Test.YtakkhdammmcjcaaDoorB01
import Derived.Test.YtakkhdammmcjcaaDoorB02
/-
  The plain mathematics of layer 10: a message, its type, its value, may it be, its octets, what octets say, all messages that octets are, and that all fit together. Conditions: octets are less than 256.
-/
namespace Go.Proofs.YtakkhdammmcjcaaDoor.Msgs
open Go.Proofs.YtakkhdammmcjcaaDoor.Base Go.Proofs.YtakkhdammmcjcaaDoor.Mem Go.Proofs.YtakkhdammmcjcaaDoor.Ea
/-- A message. -/
structure Ms where
  k : Nat
  c : Bool
  p : Pn.Pr
  s : Msc.St
  t : Nat
  b : ByteArray
structure Ms.In (m : Ms) : Prop where
  k : m.k < 256
  p : m.p.In
  s : m.s.In
  t : m.t < 256
def no : ByteArray := ⟨#[]⟩
def zero : Ms := ⟨0, false, Pn.zero, Msc.zero, 0, no⟩
theorem zero_in : zero.In := ⟨by decide, Pn.zero_in, Msc.zero_in, by decide⟩
/-- What == of two answers. -/
def eqM (a b : Ms) : Bool := (a.k == b.k) && (a.c == b.c) && Pn.eqP a.p b.p && Msc.eqS a.s b.s && (a.t == b.t) && (a.b.toList == b.b.toList)
theorem eqM_iff (a b : Ms) : eqM a b = true ↔ a = b := by
  unfold eqM
  constructor
  · intro h
    simp only [Bool.and_eq_true, beq_iff_eq] at h
    obtain ⟨⟨⟨⟨⟨h1, h2⟩, h3⟩, h4⟩, h5⟩, h6⟩ := h
    have h3 := Pn.eqP_eq h3
    have h4 := Msc.eqS_eq h4
    have h6 : a.b = b.b := by rw [ByteArray.toList_eq, ByteArray.toList_eq] at h6; exact bext h6
    cases a; cases b; simp_all
  · rintro rfl
    simp [Pn.eqP_self, Msc.eqS_self]
theorem eqM_self (a : Ms) : eqM a a = true := (eqM_iff a a).2 rfl
/-- The types of the kinds, as the program's table has them. -/
def tyL : List Nat := [0, 32, 56, 40, 24, 8, 48, 4]
def tyN (k : Nat) : Nat := tyL.getD k 0
theorem tyN_lt (k : Nat) (h : k < 8) : tyN k < 256 := by
  have : ∀ j : Fin 8, tyN j.val < 256 := by decide
  exact this ⟨k, h⟩
/-- The first kind from k on, of n in a row, whose type t is; 8, if none is. -/
def kFrom (t : Nat) : Nat → Nat → Nat
  | 0, _ => 8
  | n + 1, k => if tyN k = t then k else kFrom t n (k + 1)
def kOf (t : Nat) : Nat := kFrom t 7 1
theorem kFrom_hit {t n k : Nat} (h : tyN k = t) : kFrom t (n + 1) k = k := by simp [kFrom, h]
theorem kFrom_miss {t n k : Nat} (h : tyN k ≠ t) : kFrom t (n + 1) k = kFrom t n (k + 1) := by simp [kFrom, h]
theorem kOf_is (t : Nat) (h : t < 256) : 1 ≤ kOf t ∧ kOf t ≤ 8 ∧ (kOf t = 8 ∨ tyN (kOf t) = t) := by
  have : ∀ j : Fin 256, 1 ≤ kOf j.val ∧ kOf j.val ≤ 8 ∧ (kOf j.val = 8 ∨ tyN (kOf j.val) = j.val) := by decide +kernel
  exact this ⟨t, h⟩
theorem kOf_ty : ∀ k : Nat, 1 ≤ k → k ≤ 7 → kOf (tyN k) = k := by
  have : ∀ j : Fin 8, 1 ≤ j.val → kOf (tyN j.val) = j.val := by decide +kernel
  exact fun k h1 h2 => this ⟨k, by omega⟩ h1
theorem tyN_le (k : Nat) (h : k < 8) : tyN k ≤ 63 := by
  have : ∀ j : Fin 8, tyN j.val ≤ 63 := by decide +kernel
  exact this ⟨k, h⟩
/-- A message with nothing but what its Kind needs. -/
def need (m : Ms) : Ms := ⟨m.k, m.c, if m.k = 1 then m.p else Pn.zero, if m.k = 2 then m.s else Msc.zero, if m.k = 7 ∨ m.k = 8 then m.t else 0, if m.k = 5 ∨ m.k = 8 then m.b else no⟩
/-- May what it needs be? -/
def vOk (m : Ms) : Bool := if m.k = 1 then Pn.may m.p else if m.k = 2 then Msc.may m.s else if m.k = 8 then decide (m.t ≤ 63) && (kOf m.t == 8) else decide (3 ≤ m.k ∧ m.k ≤ 7)
/-- Its value. -/
def val (m : Ms) : ByteArray := if m.k = 1 then Pn.putS m.p else if m.k = 2 then Msc.putS m.s else if m.k = 7 then one m.t else if m.k = 5 ∨ m.k = 8 then m.b else no
def may (m : Ms) : Bool := vOk m && eqM m (need m)
/-- Its type. -/
def ty (m : Ms) : Nat := if m.k = 8 then m.t else tyN m.k
def putE (m : Ms) : Nat := if may m then Tlv.putE (ty m) (val m) else 2
def putS (m : Ms) : ByteArray := if may m then Tlv.putS (ty m) m.c (val m) else no
def oct (m : Ms) : Nat := if may m then addr (ty m) m.c else 0
theorem may_of {m : Ms} (h : may m = true) : vOk m = true ∧ m = need m := by
  unfold may at h
  rw [Bool.and_eq_true, eqM_iff] at h
  exact h
theorem may_k {m : Ms} (h : may m = true) : 1 ≤ m.k ∧ m.k ≤ 8 := by
  have := (may_of h).1
  unfold vOk at this
  split at this
  · omega
  · split at this
    · omega
    · split at this
      · omega
      · have := of_decide_eq_true this; omega
theorem ty_le {m : Ms} (h : may m = true) : ty m ≤ 63 := by
  have hk := may_k h
  have hv := (may_of h).1
  unfold ty
  split
  · rename_i h8
    unfold vOk at hv
    rw [if_neg (by omega), if_neg (by omega), if_pos h8, Bool.and_eq_true] at hv
    exact of_decide_eq_true hv.1
  · exact tyN_le _ (by omega)
theorem kOf_of {m : Ms} (h : may m = true) : kOf (ty m) = m.k := by
  have hk := may_k h
  have hv := (may_of h).1
  unfold ty
  split
  · rename_i h8
    unfold vOk at hv
    rw [if_neg (by omega), if_neg (by omega), if_pos h8, Bool.and_eq_true, beq_iff_eq] at hv
    rw [hv.2, h8]
  · exact kOf_ty _ (by omega) (by omega)
/-- What a type and a value say. -/
def rdM (t : Nat) (v : ByteArray) : Ms :=
  if kOf t = 1 then ⟨1, false, Pn.gotP v, Msc.zero, 0, no⟩ else
  if kOf t = 2 then ⟨2, false, Pn.zero, Msc.gotS v, 0, no⟩ else
  if kOf t = 5 then ⟨5, false, Pn.zero, Msc.zero, 0, v⟩ else
  if kOf t = 7 then if h : v.size = 1 then ⟨7, false, Pn.zero, Msc.zero, v[0].toNat, no⟩ else zero else
  if kOf t = 8 then ⟨8, false, Pn.zero, Msc.zero, t, v⟩ else ⟨kOf t, false, Pn.zero, Msc.zero, 0, no⟩
def rdOk (t : Nat) (v : ByteArray) : Bool :=
  if kOf t = 1 then decide (Pn.gotE v = 0) else if kOf t = 2 then decide (Msc.gotE v = 0) else
  if kOf t = 5 ∨ kOf t = 8 then true else if kOf t = 7 then decide (v.size = 1) else decide (v.size = 0)
def Ms.cmd (m : Ms) (c : Bool) : Ms := ⟨m.k, c, m.p, m.s, m.t, m.b⟩
/-- What octets begin with. -/
structure Got where
  m : Ms
  n : Nat
  e : Nat
def bad (e : Nat) : Got := ⟨zero, 0, e⟩
def got (s : ByteArray) : Got :=
  if (Tlv.got s).e = 0 then if rdOk (Tlv.got s).k (Tlv.got s).v = true then ⟨(rdM (Tlv.got s).k (Tlv.got s).v).cmd (Tlv.got s).c, (Tlv.got s).n, 0⟩ else bad 70 else bad (Tlv.got s).e
theorem got_err {s : ByteArray} (h : (Tlv.got s).e ≠ 0) : got s = bad (Tlv.got s).e := if_neg h
theorem got_not {s : ByteArray} (h : (Tlv.got s).e = 0) (h' : rdOk (Tlv.got s).k (Tlv.got s).v = false) : got s = bad 70 := by
  unfold got; rw [if_pos h, h']; rfl
theorem got_fine {s : ByteArray} (h : (Tlv.got s).e = 0) (h' : rdOk (Tlv.got s).k (Tlv.got s).v = true) : got s = ⟨(rdM (Tlv.got s).k (Tlv.got s).v).cmd (Tlv.got s).c, (Tlv.got s).n, 0⟩ := by
  unfold got; rw [if_pos h, if_pos h']
theorem one_get (t : Nat) (h : t < 256) : ((one t)[0]'(by show 0 < 1; decide)).toNat = t := by
  show (UInt8.ofNat t).toNat = t
  rw [UInt8.toNat_ofNat']; omega
theorem one_of (v : ByteArray) (h : v.size = 1) : one v[0].toNat = v := by
  apply bext
  show [UInt8.ofNat v[0].toNat] = _
  rw [one_of_size h]
  simp
theorem nil_of (v : ByteArray) (h : v.size = 0) : no = v := (nil_of_size h).symm
/-- What is put is read as it was. -/
theorem rd_of {m : Ms} (hi : m.In) (h : may m = true) : rdOk (ty m) (val m) = true ∧ (rdM (ty m) (val m)).cmd m.c = m := by
  have hk := may_k h
  have hq := kOf_of h
  obtain ⟨hv, hn⟩ := may_of h
  have hr : rdOk (ty m) (val m) = (if m.k = 1 then decide (Pn.gotE (val m) = 0) else if m.k = 2 then decide (Msc.gotE (val m) = 0) else
    if m.k = 5 ∨ m.k = 8 then true else if m.k = 7 then decide ((val m).size = 1) else decide ((val m).size = 0)) := by unfold rdOk; rw [hq]
  obtain ⟨k, c, p, s, t, b⟩ := m
  dsimp only at hk
  have e1 : (val ⟨k, c, p, s, t, b⟩) = if k = 1 then Pn.putS p else if k = 2 then Msc.putS s else if k = 7 then one t else if k = 5 ∨ k = 8 then b else no := rfl
  have hn2 : p = (if k = 1 then p else Pn.zero) ∧ s = (if k = 2 then s else Msc.zero) ∧ t = (if k = 7 ∨ k = 8 then t else 0) ∧ b = (if k = 5 ∨ k = 8 then b else no) := by
    unfold need at hn; injection hn with _ _ h3 h4 h5 h6; exact ⟨h3, h4, h5, h6⟩
  obtain ⟨n1, n2, n3, n4⟩ := hn2
  have cases8 : k = 1 ∨ k = 2 ∨ k = 5 ∨ k = 7 ∨ k = 8 ∨ k = 3 ∨ k = 4 ∨ k = 6 := by omega
  have h8 : k = 8 → ty ⟨k, c, p, s, t, b⟩ = t := fun e => if_pos e
  unfold rdM
  rw [hr, hq]
  dsimp only
  rcases cases8 with rfl | rfl | rfl | rfl | rfl | h3
  · rw [e1, if_pos rfl, if_pos rfl, if_pos rfl]
    have hm : Pn.may p = true := by simpa [vOk] using hv
    unfold Pn.putS
    rw [if_pos hm]
    obtain ⟨g1, g2⟩ := Pn.got_octets p hi.p hm
    rw [g1, g2]
    rw [if_neg (by decide)] at n2 n3 n4
    rw [n2, n3, n4]
    exact ⟨rfl, rfl⟩
  · rw [e1, if_neg (by decide), if_pos rfl, if_neg (by decide), if_pos rfl, if_neg (by decide), if_pos rfl]
    have hm : Msc.may s = true := by simpa [vOk] using hv
    unfold Msc.putS
    rw [if_pos hm]
    obtain ⟨g1, g2⟩ := Msc.got_octets s hm
    rw [g1, g2]
    rw [if_neg (by decide)] at n1 n3 n4
    rw [n1, n3, n4]
    exact ⟨rfl, rfl⟩
  · rw [if_neg (by decide)] at n1 n2 n3
    rw [e1, n1, n2, n3]
    exact ⟨rfl, rfl⟩
  · rw [if_neg (by decide)] at n1 n2 n4
    rw [e1, n1, n2, n4]
    have hg := one_get t hi.t
    refine ⟨rfl, ?_⟩
    show Ms.cmd (if h : (one t).size = 1 then ⟨7, false, Pn.zero, Msc.zero, (one t)[0].toNat, no⟩ else zero) c = _
    rw [dif_pos (show (one t).size = 1 from rfl), hg]; rfl
  · rw [if_neg (by decide)] at n1 n2
    rw [h8 rfl, e1, n1, n2]
    exact ⟨rfl, rfl⟩
  · rw [if_neg (by omega)] at n1 n2 n3 n4
    rw [e1, n1, n2, n3, n4]
    rcases h3 with rfl | rfl | rfl <;> exact ⟨rfl, rfl⟩
theorem bytes_of {m : Ms} (h : may m = true) (hv : (val m).size ≤ 127) : putE m = 0 ∧ putS m = Tlv.It.bytes ⟨ty m, m.c, val m⟩ ∧ Tlv.It.Ok ⟨ty m, m.c, val m⟩ := by
  have hp := Tlv.putE_of (ty_le h) hv
  unfold putE putS
  rw [if_pos h, if_pos h, hp]
  exact ⟨rfl, Tlv.putS_ok hp, ty_le h, hv⟩
/-- What is put is got as it was, whatever stands behind it. -/
theorem got_put {m : Ms} (hi : m.In) (h : may m = true) (hv : (val m).size ≤ 127) (s : ByteArray) : got (putS m ++ s) = ⟨m, (putS m).size, 0⟩ := by
  obtain ⟨_, e2, e3⟩ := bytes_of h hv
  obtain ⟨r1, r2⟩ := rd_of hi h
  have hg := Tlv.got_put e3 s
  rw [← e2] at hg
  have := got_fine (s := putS m ++ s) (by rw [hg]) (by rw [hg]; exact r1)
  rw [this, hg]
  dsimp only
  rw [r2]
theorem val_size {m : Ms} (hb : m.b.size ≤ 127) : (val m).size ≤ 127 := by
  unfold val
  split
  · unfold Pn.putS; split
    · rw [Pn.octets_size]; decide
    · show 0 ≤ 127; decide
  · split
    · unfold Msc.putS; split
      · rcases Msc.octets_size m.s with h | h <;> omega
      · show 0 ≤ 127; decide
    · split
      · show 1 ≤ 127; decide
      · split
        · exact hb
        · show 0 ≤ 127; decide
theorem putE_may {m : Ms} (h : putE m = 0) : may m = true ∧ (val m).size ≤ 127 := by
  unfold putE at h
  split at h
  · rename_i hm
    exact ⟨hm, (Tlv.putE_ok h).2⟩
  · exact absurd h (by decide)
theorem putE_iff {m : Ms} (hb : m.b.size ≤ 127) : putE m = 0 ↔ may m = true := ⟨fun h => (putE_may h).1, fun h => (bytes_of h (val_size hb)).1⟩
theorem putS_size {m : Ms} (h : putE m = 0) : (putS m).size = 2 + (val m).size := by
  obtain ⟨h1, h2⟩ := putE_may h
  obtain ⟨_, e2, e3⟩ := bytes_of h1 h2
  rw [e2, Tlv.bytes_size e3]
theorem putS_first {m : Ms} (h : putE m = 0) : ∃ hz : 0 < (putS m).size, (putS m)[0].toNat = oct m := by
  obtain ⟨h1, h2⟩ := putE_may h
  obtain ⟨_, e2, e3⟩ := bytes_of h1 h2
  have hl := Tlv.bytes_list e3
  have hz : 0 < (putS m).size := by rw [putS_size h]; omega
  refine ⟨hz, ?_⟩
  have hL : (putS m).data.toList = UInt8.ofNat (addr (ty m) m.c) :: UInt8.ofNat (2 * (val m).size + 1) :: (val m).data.toList := by rw [e2]; exact hl
  have h0 := get_list (putS m) 0 hz
  rw [hL] at h0
  have : (putS m)[0] = UInt8.ofNat (addr (ty m) m.c) := Option.some.inj h0
  rw [this, nat_oct _ (addr_lt _ _)]
  unfold oct
  rw [if_pos h1]
/-- What is got may be, and is put as it was. -/
theorem put_got {s : ByteArray} (h : (got s).e = 0) : (got s).m.In ∧ putE (got s).m = 0 ∧ 2 ≤ (got s).n ∧ (got s).n ≤ s.size ∧ putS (got s).m = s.extract 0 (got s).n := by
  by_cases h0 : (Tlv.got s).e = 0
  · cases h1 : rdOk (Tlv.got s).k (Tlv.got s).v
    · rw [got_not h0 h1] at h; exact absurd h (by decide)
    · rw [got_fine h0 h1]
      obtain ⟨p1, p2, p3, p4⟩ := Tlv.put_got h0
      obtain ⟨q1, q2⟩ := Tlv.putE_ok p1
      generalize (Tlv.got s).k = t at *
      generalize (Tlv.got s).c = c at *
      generalize (Tlv.got s).v = v at *
      generalize (Tlv.got s).n = n at *
      dsimp only
      obtain ⟨k1, k2, k3⟩ := kOf_is t (by omega)
      have key : ((rdM t v).cmd c).In ∧ may ((rdM t v).cmd c) = true ∧ ty ((rdM t v).cmd c) = t ∧ val ((rdM t v).cmd c) = v := by
        have hz : ∀ k c p s t b, eqM ⟨k, c, p, s, t, b⟩ (need ⟨k, c, p, s, t, b⟩) = eqM ⟨k, c, p, s, t, b⟩ ⟨k, c, if k = 1 then p else Pn.zero, if k = 2 then s else Msc.zero, if k = 7 ∨ k = 8 then t else 0, if k = 5 ∨ k = 8 then b else no⟩ := fun _ _ _ _ _ _ => rfl
        unfold rdOk at h1
        have cases8 : kOf t = 1 ∨ kOf t = 2 ∨ kOf t = 5 ∨ kOf t = 7 ∨ kOf t = 8 ∨ kOf t = 3 ∨ kOf t = 4 ∨ kOf t = 6 := by omega
        unfold rdM
        rcases cases8 with hk | hk | hk | hk | hk | hk
        · have ht : tyN 1 = t := by rw [hk] at k3; exact k3.resolve_left (by decide)
          rw [hk] at h1 ⊢
          rw [if_pos rfl] at h1 ⊢
          have hg := of_decide_eq_true h1
          rcases Pn.got_back v with ⟨_, g2, g3⟩ | ⟨g1, _⟩
          · refine ⟨⟨by show 1 < 256; decide, Pn.gotP_in v, Msc.zero_in, by show 0 < 256; decide⟩, ?_, ht, ?_⟩
            · unfold may
              rw [Bool.and_eq_true]
              exact ⟨g2, by rw [eqM_iff]; rfl⟩
            · show Pn.putS (Pn.gotP v) = v
              unfold Pn.putS
              rw [if_pos g2, g3]
          · rw [hg] at g1; rcases g1 with g1 | g1 <;> exact absurd g1 (by decide)
        · have ht : tyN 2 = t := by rw [hk] at k3; exact k3.resolve_left (by decide)
          rw [hk] at h1 ⊢
          rw [if_neg (by decide), if_pos rfl] at h1 ⊢
          have hg := of_decide_eq_true h1
          rcases Msc.got_back v with ⟨_, g2, g3⟩ | ⟨g1, _⟩
          · refine ⟨⟨by show 2 < 256; decide, Pn.zero_in, Msc.gotS_in v, by show 0 < 256; decide⟩, ?_, ht, ?_⟩
            · unfold may
              rw [Bool.and_eq_true]
              exact ⟨g2, by rw [eqM_iff]; rfl⟩
            · show Msc.putS (Msc.gotS v) = v
              unfold Msc.putS
              rw [if_pos g2, g3]
          · rw [hg] at g1; rcases g1 with g1 | g1 <;> exact absurd g1 (by decide)
        · have ht : tyN 5 = t := by rw [hk] at k3; exact k3.resolve_left (by decide)
          rw [hk]
          refine ⟨⟨by show 5 < 256; decide, Pn.zero_in, Msc.zero_in, by show 0 < 256; decide⟩, ?_, ht, rfl⟩
          unfold may
          rw [Bool.and_eq_true]
          exact ⟨rfl, by rw [eqM_iff]; rfl⟩
        · have ht : tyN 7 = t := by rw [hk] at k3; exact k3.resolve_left (by decide)
          rw [hk] at h1 ⊢
          rw [if_neg (by decide), if_neg (by decide), if_neg (by decide), if_pos rfl] at h1
          have hs := of_decide_eq_true h1
          rw [if_neg (by decide), if_neg (by decide), if_neg (by decide), if_pos rfl, dif_pos hs]
          refine ⟨⟨by show 7 < 256; decide, Pn.zero_in, Msc.zero_in, oct_lt _⟩, ?_, ht, one_of v hs⟩
          unfold may
          rw [Bool.and_eq_true]
          exact ⟨rfl, by rw [eqM_iff]; rfl⟩
        · rw [hk]
          refine ⟨⟨by show 8 < 256; decide, Pn.zero_in, Msc.zero_in, by show t < 256; omega⟩, ?_, rfl, rfl⟩
          unfold may
          rw [Bool.and_eq_true]
          refine ⟨?_, by rw [eqM_iff]; rfl⟩
          show (decide (t ≤ 63) && (kOf t == 8)) = true
          rw [hk, Bool.and_eq_true]
          exact ⟨decide_eq_true q1, rfl⟩
        · have ht : tyN (kOf t) = t := k3.resolve_left (by omega)
          have hs : v.size = 0 := by
            rw [if_neg (by omega), if_neg (by omega), if_neg (by omega), if_neg (by omega)] at h1
            exact of_decide_eq_true h1
          have hv := nil_of v hs
          rw [if_neg (by omega), if_neg (by omega), if_neg (by omega), if_neg (by omega), if_neg (by omega)]
          rcases hk with hk | hk | hk
          · rw [hk] at ht ⊢
            refine ⟨⟨by show 3 < 256; decide, Pn.zero_in, Msc.zero_in, by show 0 < 256; decide⟩, ?_, ht, hv⟩
            unfold may
            rw [Bool.and_eq_true]
            exact ⟨rfl, by rw [eqM_iff]; rfl⟩
          · rw [hk] at ht ⊢
            refine ⟨⟨by show 4 < 256; decide, Pn.zero_in, Msc.zero_in, by show 0 < 256; decide⟩, ?_, ht, hv⟩
            unfold may
            rw [Bool.and_eq_true]
            exact ⟨rfl, by rw [eqM_iff]; rfl⟩
          · rw [hk] at ht ⊢
            refine ⟨⟨by show 6 < 256; decide, Pn.zero_in, Msc.zero_in, by show 0 < 256; decide⟩, ?_, ht, hv⟩
            unfold may
            rw [Bool.and_eq_true]
            exact ⟨rfl, by rw [eqM_iff]; rfl⟩
      obtain ⟨r1, r2, r3, r4⟩ := key
      have r5 : ((rdM t v).cmd c).c = c := rfl
      generalize (rdM t v).cmd c = m at *
      have hb := bytes_of r2 (by rw [r4]; exact q2)
      rw [r3, r4, r5] at hb
      exact ⟨r1, hb.1, p2, p3, hb.2.1.trans p4⟩
  · rw [got_err h0] at h; exact absurd h h0
theorem got_e (s : ByteArray) : (got s).e = 0 ∨ (got s).e ≠ 0 ∧ got s = bad (got s).e := by
  by_cases h0 : (Tlv.got s).e = 0
  · cases h1 : rdOk (Tlv.got s).k (Tlv.got s).v
    · rw [got_not h0 h1]; exact .inr ⟨by decide, rfl⟩
    · rw [got_fine h0 h1]; exact .inl rfl
  · rw [got_err h0]; exact .inr ⟨h0, rfl⟩
theorem got_in (s : ByteArray) : (got s).m.In := by
  rcases got_e s with h | ⟨_, h⟩
  · exact (put_got h).1
  · rw [h]; exact zero_in
/-- All messages that octets begin with, behind those that were got. -/
def allA (s : ByteArray) : Nat → Nat → List Ms → List Ms × Nat
  | 0, at_, acc => (acc, at_)
  | f + 1, at_, acc => if (got (s.extract at_ s.size)).e = 0 then allA s f (at_ + (got (s.extract at_ s.size)).n) (acc ++ [(got (s.extract at_ s.size)).m]) else (acc, at_)
def all (s : ByteArray) : List Ms × Nat := allA s (s.size + 1) 0 []
def Left (s : ByteArray) (at_ : Nat) (acc : List Ms) : Prop := ∃ f, s.size < f + at_ ∧ allA s f at_ acc = all s
theorem left_start (s : ByteArray) : Left s 0 [] := ⟨s.size + 1, by omega, rfl⟩
theorem left_step {s : ByteArray} {at_ : Nat} {acc : List Ms} (h : Left s at_ acc) (hle : at_ ≤ s.size) (he : (got (s.extract at_ s.size)).e = 0) :
    Left s (at_ + (got (s.extract at_ s.size)).n) (acc ++ [(got (s.extract at_ s.size)).m]) ∧ 2 ≤ (got (s.extract at_ s.size)).n ∧ at_ + (got (s.extract at_ s.size)).n ≤ s.size ∧ (got (s.extract at_ s.size)).m.In := by
  obtain ⟨f, hf, h⟩ := h
  obtain ⟨h1, _, h2, h3, _⟩ := put_got he
  rw [ext_size] at h3
  match f, hf, h with
  | 0, hf, _ => omega
  | f + 1, hf, h =>
    rw [allA, if_pos he] at h
    exact ⟨⟨f, by omega, h⟩, h2, by omega, h1⟩
theorem left_bad {s : ByteArray} {at_ : Nat} {acc : List Ms} (h : Left s at_ acc) (hle : at_ ≤ s.size) (he : (got (s.extract at_ s.size)).e ≠ 0) : all s = (acc, at_) := by
  obtain ⟨f, hf, h⟩ := h
  match f, hf, h with
  | 0, hf, _ => omega
  | f + 1, hf, h =>
    rw [allA, if_neg he] at h
    exact h.symm
theorem got_end {s : ByteArray} (h : s.size = 0) : (got s).e ≠ 0 := by
  rw [nil_of_size h]; decide
theorem left_done {s : ByteArray} {at_ : Nat} {acc : List Ms} (h : Left s at_ acc) (hle : at_ = s.size) : all s = (acc, at_) :=
  left_bad h (by omega) (got_end (by rw [ext_size]; omega))
theorem all_len (s : ByteArray) : (all s).1.length ≤ s.size := by
  have key : ∀ (f k : Nat) (acc : List Ms), acc.length ≤ k → k ≤ s.size → (allA s f k acc).1.length ≤ s.size := by
    intro f
    induction f with
    | zero => intro k acc h1 h2; show acc.length ≤ _; omega
    | succ f ih =>
      intro k acc h1 h2
      rw [allA]
      split
      · rename_i h4
        obtain ⟨_, _, h5, h6, _⟩ := put_got (s := s.extract k s.size) h4
        rw [ext_size] at h6
        exact ih _ _ (by simp; omega) (by omega)
      · show acc.length ≤ _; omega
  exact key _ 0 [] (Nat.zero_le _) (Nat.zero_le _)
/-- The octets of messages that are put one behind the other. -/
def enc : List Ms → ByteArray
  | [] => no
  | x :: r => putS x ++ enc r
theorem app_no (a : ByteArray) : a ++ no = a := by apply bext; rw [app_list]; show _ ++ [] = _; simp
theorem no_app (a : ByteArray) : no ++ a = a := by apply bext; rw [app_list]; rfl
theorem app_assoc (a b c : ByteArray) : a ++ b ++ c = a ++ (b ++ c) := by apply bext; simp only [app_list, List.append_assoc]
theorem enc_snoc (l : List Ms) (x : Ms) : enc (l ++ [x]) = enc l ++ putS x := by
  induction l with
  | nil => show putS x ++ enc [] = enc [] ++ putS x; show putS x ++ no = no ++ putS x; rw [app_no, no_app]
  | cons a r ih => show putS a ++ enc (r ++ [x]) = (putS a ++ enc r) ++ putS x; rw [ih, app_assoc]
/-- It may be put. -/
structure Ms.Ok (m : Ms) : Prop where
  in_ : m.In
  may : may m = true
  few : (val m).size ≤ 127
theorem enc_size (l : List Ms) (h : ∀ x ∈ l, x.Ok) : (enc l).size ≤ 129 * l.length := by
  induction l with
  | nil => exact Nat.le_refl _
  | cons a r ih =>
    have h1 := ih fun x hx => h x (List.mem_cons_of_mem _ hx)
    have h0 := h a List.mem_cons_self
    have h2 := putS_size (bytes_of h0.may h0.few).1
    have h3 := h0.few
    show (putS a ++ enc r).size ≤ _
    rw [ByteArray.size_append, List.length_cons]
    omega
theorem all_enc (l : List Ms) (h : ∀ x ∈ l, x.Ok) (z : ByteArray) (hz : (got z).e ≠ 0) : all (enc l ++ z) = (l, (enc l).size) := by
  have key : ∀ (r acc : List Ms), (∀ x ∈ r, x.Ok) → enc l ++ z = enc acc ++ (enc r ++ z) → Left (enc l ++ z) (enc acc).size acc → all (enc l ++ z) = (acc ++ r, (enc (acc ++ r)).size) := by
    intro r
    induction r with
    | nil =>
      intro acc _ he hL
      rw [List.append_nil]
      have hs : (enc l ++ z).extract (enc acc).size (enc l ++ z).size = z := by
        apply bext
        rw [ext_drop, he, app_list, List.drop_left' (size_toList _)]
        show (no ++ z).data.toList = _
        rw [no_app]
      refine left_bad hL ?_ (by rw [hs]; exact hz)
      rw [he, ByteArray.size_append]; omega
    | cons x r ih =>
      intro acc hok he hL
      have hx := hok x List.mem_cons_self
      have ex : (enc l ++ z).extract (enc acc).size (enc l ++ z).size = putS x ++ (enc r ++ z) := by
        apply bext
        rw [ext_drop, he, app_list, List.drop_left' (size_toList _)]
        show (putS x ++ enc r ++ z).data.toList = _
        rw [app_assoc]
      have hle : (enc acc).size ≤ (enc l ++ z).size := by
        rw [he, ByteArray.size_append]; omega
      have hg := got_put hx.in_ hx.may hx.few (enc r ++ z)
      have hs := (left_step hL hle (by rw [ex, hg])).1
      rw [ex, hg] at hs
      have e1 : (enc acc).size + (putS x).size = (enc (acc ++ [x])).size := by rw [enc_snoc, ByteArray.size_append]
      simp only [e1] at hs
      have := ih (acc ++ [x]) (fun y hy => hok y (List.mem_cons_of_mem _ hy)) (by
        rw [he, enc_snoc]
        show enc acc ++ (putS x ++ enc r ++ z) = _
        simp only [app_assoc]) hs
      rw [this, List.append_assoc]; rfl
  have := key l [] h (by rw [show enc [] = no from rfl, no_app]) (left_start _)
  rw [this]; rfl
theorem got_nul : (got ⟨#[0]⟩).e ≠ 0 := by decide
end Go.Proofs.YtakkhdammmcjcaaDoor.Msgs
/-
  The plain mathematics of layer 22: one side of the control channel: commands that wait, answers that are to be said; what is asked for, said, heard, ticked. No condition.
-/
namespace Go.Proofs.YtakkhdammmcjcaaDoor.Ctl
open Go.Proofs.YtakkhdammmcjcaaDoor.Base Go.Proofs.YtakkhdammmcjcaaDoor.Mem Go.Proofs.YtakkhdammmcjcaaDoor.Msgs
/-- A command that waits: its tries, the ticks left (0: it is to be said), was it said once. -/
structure Wt where
  m : Ms
  tr : Nat
  lf : Nat
  sd : Bool
/-- A fact. -/
structure Fa where
  k : Nat
  m : Ms
/-- A side. -/
structure Ct where
  own : Pn.Pr
  t2 : Nat
  n2 : Nat
  an : List Ms
  cs : List Wt
def brought (p : Pn.Pr) : Pn.Pr := ⟨p.d, p.f, p.c, p.r, p.t, min (max p.n 1) 65535, p.z, min (max p.k 1) 7⟩
def Ct.new (own : Pn.Pr) (t2 n2 : Int) : Ct := ⟨brought own, (min (max t2 1) 255).toNat, (min (max n2 0) 255).toNat, [], []⟩
/-- A message's channel. -/
def ch (m : Ms) : Nat := if m.k = 1 then m.p.d.toNat else if m.k = 2 then m.s.d else 0
/-- The same command? -/
def same (a b : Ms) : Bool := (a.k == b.k) && (ch a == ch b)
/-- Does a response answer a command? -/
def answers (r m : Ms) : Bool := same r m && if r.k = 1 then Pn.lowers r.p m.p else Msc.eqS r.s m.s && (r.b.toList == m.b.toList)
def mayAsk (m : Ms) : Bool := may m && m.c && decide (m.k ≤ 6) && decide (m.b.size ≤ 127)
def put (l : List Wt) (m : Ms) : List Wt := l.filter (fun w => !same w.m m) ++ [⟨m, 0, 0, false⟩]
def Ct.ask (x : Ct) (m : Ms) : Ct := if mayAsk m then { x with cs := put x.cs m } else x
def askE (m : Ms) : Nat := if mayAsk m then 0 else 2
/-- The first command that is to be said. -/
def say (t2 : Nat) : List Wt → Option Ms × List Wt
  | [] => (none, [])
  | w :: r => if w.lf = 0 then (some w.m, ⟨w.m, w.tr, t2, true⟩ :: r) else ((say t2 r).1, w :: (say t2 r).2)
def Ct.next (x : Ct) : Option Ms × Ct :=
  match x.an with
  | a :: r => (some a, { x with an := r })
  | [] => ((say x.t2 x.cs).1, { x with cs := (say x.t2 x.cs).2 })
def Ct.has (x : Ct) : Bool := x.cs.any (fun w => w.lf == 0) || !x.an.isEmpty
/-- What a command becomes that is heard. -/
def agreed (own : Pn.Pr) (m : Ms) : Ms := if m.k = 1 then ⟨m.k, m.c, Pn.agree own m.p, m.s, m.t, m.b⟩ else m
def nsc (m : Ms) : Ms := ⟨7, false, Pn.zero, Msc.zero, oct m, no⟩
def Ct.command (x : Ct) (m : Ms) : Ct × List Fa :=
  if m.k = 7 ∨ 64 ≤ x.an.length then (x, [])
  else if m.k = 8 then ({ x with an := x.an ++ [nsc m] }, [])
  else ({ x with an := x.an ++ [(agreed x.own m).cmd false] }, [⟨1, agreed x.own m⟩])
/-- What a response does to the commands that wait. -/
def resp (r : Ms) : List Wt → List Wt × List Fa
  | [] => ([], [])
  | w :: l =>
    if w.sd && answers r w.m then (l, [⟨2, r⟩])
    else if w.sd && ((r.k == 7) && (r.t == oct w.m)) then (l, [⟨3, w.m⟩])
    else (w :: (resp r l).1, (resp r l).2)
def Ct.response (x : Ct) (r : Ms) : Ct × List Fa := ({ x with cs := (resp r x.cs).1 }, (resp r x.cs).2)
def Ct.hear1 (x : Ct) (m : Ms) : Ct × List Fa := if m.c then x.command m else x.response m
def Ct.hears (x : Ct) : List Ms → Ct × List Fa
  | [] => (x, [])
  | m :: l => (((x.hear1 m).1.hears l).1, (x.hear1 m).2 ++ ((x.hear1 m).1.hears l).2)
def Ct.hear (x : Ct) (s : ByteArray) : Ct × List Fa := x.hears (all s).1
/-- A tick of the commands. -/
def ticks (n2 : Nat) : List Wt → List Wt × List Fa
  | [] => ([], [])
  | w :: l =>
    if w.lf ≠ 1 then (⟨w.m, w.tr, w.lf - 1, w.sd⟩ :: (ticks n2 l).1, (ticks n2 l).2)
    else if n2 < w.tr + 1 then ((ticks n2 l).1, ⟨4, w.m⟩ :: (ticks n2 l).2)
    else (⟨w.m, w.tr + 1, 0, w.sd⟩ :: (ticks n2 l).1, (ticks n2 l).2)
def Ct.tick (x : Ct) : Ct × List Fa := ({ x with cs := (ticks x.n2 x.cs).1 }, (ticks x.n2 x.cs).2)
/-- May it be asked for, as it stands? -/
structure Askable (m : Ms) : Prop where
  in_ : m.In
  may : may m = true
  c : m.c = true
  k : m.k ≤ 6
  b : m.b.size ≤ 127
theorem mayAsk_iff {m : Ms} (h : m.In) : mayAsk m = true ↔ Askable m := by
  unfold mayAsk
  simp only [Bool.and_eq_true, decide_eq_true_eq]
  exact ⟨fun ⟨⟨⟨h1, h2⟩, h3⟩, h4⟩ => ⟨h, h1, h2, h3, h4⟩, fun ⟨_, h1, h2, h3, h4⟩ => ⟨⟨⟨h1, h2⟩, h3⟩, h4⟩⟩
theorem Askable.ok {m : Ms} (h : Askable m) : m.Ok := ⟨h.in_, h.may, val_size h.b⟩
theorem may_k1 {m : Ms} (h : may m = true) (hk : m.k = 1) : Pn.may m.p = true := by
  have := (may_of h).1
  unfold vOk at this
  rwa [if_pos hk] at this
theorem may_k2 {m : Ms} (h : may m = true) (hk : m.k = 2) : Msc.may m.s = true := by
  have := (may_of h).1
  unfold vOk at this
  rwa [if_neg (by omega), if_pos hk] at this
/-- A message turned into a response, or with other parameters, may be as well. -/
theorem may_cmd (m : Ms) (c : Bool) : may (m.cmd c) = may m := by
  unfold may
  congr 1
  rw [Bool.eq_iff_iff, eqM_iff, eqM_iff]
  unfold need Ms.cmd
  dsimp only
  obtain ⟨k, c', p, s, t, b⟩ := m
  simp only [Ms.mk.injEq]
theorem agree_may {o a : Pn.Pr} (hn : 1 ≤ o.n) (hk : 1 ≤ o.k) (h : Pn.may a = true) : Pn.may (Pn.agree o a) = true := by
  rw [Pn.may_iff] at *
  obtain ⟨a1, a2, a3, a4, a5, a6, a7, a8⟩ := h
  refine ⟨?_, ?_, ?_, ?_, ?_, ?_, ?_, ?_⟩ <;> simp only [Pn.agree] <;> omega
theorem may_agreed {o : Pn.Pr} (hn : 1 ≤ o.n) (hk : 1 ≤ o.k) {m : Ms} (h : may m = true) : may (agreed o m) = true := by
  unfold agreed
  split
  · next e =>
    obtain ⟨h1, h2⟩ := may_of h
    have hp := may_k1 h e
    unfold may
    rw [Bool.and_eq_true]
    refine ⟨?_, (eqM_iff _ _).2 ?_⟩
    · unfold vOk; rw [if_pos (show m.k = 1 from e)]; exact agree_may hn hk hp
    · obtain ⟨k, c, p, s, t, b⟩ := m
      subst e
      unfold need at h2 ⊢
      simp only [Ms.mk.injEq] at h2
      obtain ⟨_, _, _, h4, h5, h6⟩ := h2
      show (⟨1, c, _, s, t, b⟩ : Ms) = ⟨1, c, _, Msc.zero, 0, no⟩
      have e4 : s = Msc.zero := h4
      have e5 : t = 0 := h5
      have e6 : b = no := h6
      rw [e4, e5, e6]
      rfl
  · exact h
theorem agreed_in {o : Pn.Pr} {m : Ms} (h : m.In) : (agreed o m).In := by
  unfold agreed
  split
  · exact ⟨h.k, Pn.agree_in h.p, h.s, h.t⟩
  · exact h
theorem cmd_in {m : Ms} (h : m.In) (c : Bool) : (m.cmd c).In := ⟨h.k, h.p, h.s, h.t⟩
theorem agreed_b (o : Pn.Pr) (m : Ms) : (agreed o m).b = m.b := by unfold agreed; split <;> rfl
theorem agreed_k (o : Pn.Pr) (m : Ms) : (agreed o m).k = m.k := by unfold agreed; split <;> rfl
theorem agreed_c (o : Pn.Pr) (m : Ms) : (agreed o m).c = m.c := by unfold agreed; split <;> rfl
theorem agreed_ch (o : Pn.Pr) (m : Ms) : ch (agreed o m) = ch m := by unfold agreed; split <;> rfl
theorem agreed_s (o : Pn.Pr) (m : Ms) : (agreed o m).s = m.s := by unfold agreed; split <;> rfl
theorem cmd_ch (m : Ms) (c : Bool) : ch (m.cmd c) = ch m := rfl
theorem oct_lt (m : Ms) : oct m < 256 := by
  unfold oct
  split
  · exact Ea.addr_lt _ _
  · decide
theorem nsc_ok (m : Ms) : (nsc m).Ok := by
  refine ⟨⟨by show 7 < 256; decide, Pn.zero_in, Msc.zero_in, oct_lt m⟩, ?_, by show 1 ≤ 127; decide⟩
  unfold may
  rw [Bool.and_eq_true]
  exact ⟨rfl, (eqM_iff _ _).2 rfl⟩
/-- Of a response: which command does it answer? -/
theorem answers_agreed {o : Pn.Pr} {m : Ms} : answers ((agreed o m).cmd false) m = true := by
  unfold answers same
  rw [cmd_ch, agreed_ch]
  have hk : ((agreed o m).cmd false).k = m.k := agreed_k o m
  rw [hk]
  have e1 : (m.k == m.k) = true := beq_self_eq_true _
  have e2 : (ch m == ch m) = true := beq_self_eq_true _
  rw [e1, e2, Bool.true_and, Bool.true_and]
  split
  · next e =>
    have hp : ((agreed o m).cmd false).p = Pn.agree o m.p := by unfold agreed; rw [if_pos e]; rfl
    rw [hp]; exact Pn.lowers_of_agree o m.p
  · have hs : ((agreed o m).cmd false).s = m.s := agreed_s o m
    have hb : ((agreed o m).cmd false).b = m.b := agreed_b o m
    rw [hs, hb, Msc.eqS_self, Bool.true_and]; exact beq_self_eq_true _
/-- What a side is made of is as it should be. -/
structure Ct.Ok (x : Ct) : Prop where
  n : 1 ≤ x.own.n ∧ x.own.n ≤ 65535
  k : 1 ≤ x.own.k ∧ x.own.k ≤ 7
  t2 : 1 ≤ x.t2 ∧ x.t2 ≤ 255
  n2 : x.n2 ≤ 255
  an : ∀ m ∈ x.an, m.Ok
  few : x.an.length ≤ 64
  cs : ∀ w ∈ x.cs, Askable w.m
  lf : ∀ w ∈ x.cs, w.lf ≤ 255
  tr : ∀ w ∈ x.cs, w.tr ≤ 255
  un : x.cs.Pairwise fun a b => same a.m b.m = false
theorem same_comm (a b : Ms) : same a b = same b a := by
  unfold same
  have h1 : (a.k == b.k) = (b.k == a.k) := by rw [Bool.eq_iff_iff, beq_iff_eq, beq_iff_eq]; exact eq_comm
  have h2 : (ch a == ch b) = (ch b == ch a) := by rw [Bool.eq_iff_iff, beq_iff_eq, beq_iff_eq]; exact eq_comm
  rw [h1, h2]
theorem same_self (a : Ms) : same a a = true := by
  unfold same; rw [beq_self_eq_true, beq_self_eq_true]; rfl
theorem same_iff (a b : Ms) : same a b = true ↔ a.k = b.k ∧ ch a = ch b := by
  unfold same; rw [Bool.and_eq_true, beq_iff_eq, beq_iff_eq]
theorem Ct.Ok.new (own : Pn.Pr) (t2 n2 : Int) : (Ct.new own t2 n2).Ok :=
  ⟨by show 1 ≤ min (max own.n 1) 65535 ∧ min (max own.n 1) 65535 ≤ 65535; omega, by show 1 ≤ min (max own.k 1) 7 ∧ min (max own.k 1) 7 ≤ 7; omega,
    by show 1 ≤ (min (max t2 1) 255).toNat ∧ (min (max t2 1) 255).toNat ≤ 255; omega, by show (min (max n2 0) 255).toNat ≤ 255; omega,
    fun m h => (by cases h), Nat.zero_le _, fun w h => (by cases h), fun w h => (by cases h), fun w h => (by cases h), .nil⟩
section
variable {x : Ct} {m : Ms}
theorem put_mem {l : List Wt} {w : Wt} (h : w ∈ put l m) : w ∈ l ∨ w = ⟨m, 0, 0, false⟩ := by
  unfold put at h
  rcases List.mem_append.1 h with h | h
  · exact .inl (List.mem_filter.1 h).1
  · exact .inr (List.mem_singleton.1 h)
theorem Ct.Ok.ask (h : x.Ok) (hm : m.In) : (x.ask m).Ok := by
  unfold Ct.ask
  split
  · next e =>
    have ha := (mayAsk_iff hm).1 e
    refine ⟨h.n, h.k, h.t2, h.n2, h.an, h.few, fun w hw => ?_, fun w hw => ?_, fun w hw => ?_, ?_⟩
    · rcases put_mem hw with hw | rfl
      · exact h.cs w hw
      · exact ha
    · rcases put_mem hw with hw | rfl
      · exact h.lf w hw
      · exact Nat.zero_le _
    · rcases put_mem hw with hw | rfl
      · exact h.tr w hw
      · exact Nat.zero_le _
    · show (put x.cs m).Pairwise _
      unfold put
      rw [List.pairwise_append]
      refine ⟨h.un.sublist List.filter_sublist, List.pairwise_singleton _ _, fun a ha b hb => ?_⟩
      rw [List.mem_singleton.1 hb]
      have := (List.mem_filter.1 ha).2
      simpa using this
  · exact h
/-- Saying turns nothing but what was to be said. -/
theorem say_maps (t2 : Nat) : ∀ l : List Wt, (say t2 l).2.map (·.m) = l.map (·.m)
  | [] => rfl
  | w :: r => by
    unfold say
    split
    · rfl
    · show w.m :: (say t2 r).2.map (·.m) = _; rw [say_maps t2 r]; rfl
theorem say_mem (t2 : Nat) : ∀ (l : List Wt) (w : Wt), w ∈ (say t2 l).2 → ∃ v ∈ l, w.m = v.m ∧ w.tr = v.tr ∧ (w.lf = v.lf ∨ w.lf = t2)
  | [], w, h => by cases h
  | v :: r, w, h => by
    unfold say at h
    split at h
    · rcases List.mem_cons.1 h with rfl | h
      · exact ⟨v, List.mem_cons_self, rfl, rfl, .inr rfl⟩
      · exact ⟨w, List.mem_cons_of_mem _ h, rfl, rfl, .inl rfl⟩
    · rcases List.mem_cons.1 h with rfl | h
      · exact ⟨w, List.mem_cons_self, rfl, rfl, .inl rfl⟩
      · obtain ⟨u, hu, h'⟩ := say_mem t2 r w h
        exact ⟨u, List.mem_cons_of_mem _ hu, h'⟩
theorem say_some (t2 : Nat) : ∀ (l : List Wt) (m : Ms), (say t2 l).1 = some m → ∃ w ∈ l, w.m = m
  | [], m, h => by cases h
  | v :: r, m, h => by
    unfold say at h
    split at h
    · exact ⟨v, List.mem_cons_self, Option.some.inj h⟩
    · obtain ⟨w, hw, e⟩ := say_some t2 r m h
      exact ⟨w, List.mem_cons_of_mem _ hw, e⟩
theorem un_maps {l l' : List Wt} (h : l.Pairwise fun a b => same a.m b.m = false) (e : l'.map (·.m) = l.map (·.m)) : l'.Pairwise fun a b => same a.m b.m = false := by
  have h1 : (l.map (·.m)).Pairwise fun a b => same a b = false := List.pairwise_map.2 h
  rw [← e] at h1
  exact List.pairwise_map.1 h1
theorem Ct.Ok.next (h : x.Ok) : x.next.2.Ok := by
  unfold Ct.next
  split
  · next a r e =>
    exact ⟨h.n, h.k, h.t2, h.n2, fun m hm => h.an m (by rw [e]; exact List.mem_cons_of_mem _ hm), by have := h.few; rw [e] at this; simp at this; show r.length ≤ 64; omega, h.cs, h.lf, h.tr, h.un⟩
  · refine ⟨h.n, h.k, h.t2, h.n2, h.an, h.few, fun w hw => ?_, fun w hw => ?_, fun w hw => ?_, un_maps h.un (say_maps _ _)⟩
    · obtain ⟨v, hv, e, _⟩ := say_mem _ _ _ hw
      rw [e]; exact h.cs v hv
    · obtain ⟨v, hv, _, _, e⟩ := say_mem _ _ _ hw
      have := h.lf v hv
      have := h.t2
      rcases e with e | e <;> omega
    · obtain ⟨v, hv, _, e, _⟩ := say_mem _ _ _ hw
      rw [e]; exact h.tr v hv
/-- What is said may be put. -/
theorem next_ok (h : x.Ok) {m : Ms} (hm : x.next.1 = some m) : m.Ok := by
  unfold Ct.next at hm
  split at hm
  · next a r e =>
    rw [← Option.some.inj hm]
    exact h.an a (by rw [e]; exact List.mem_cons_self)
  · obtain ⟨w, hw, e⟩ := say_some _ _ _ hm
    rw [← e]
    exact (h.cs w hw).ok
theorem Ct.Ok.command (h : x.Ok) (hm : m.Ok) : (x.command m).1.Ok := by
  unfold Ct.command
  split
  · exact h
  next hn =>
  have hl : x.an.length < 64 := by
    rcases Nat.lt_or_ge x.an.length 64 with q | q
    · exact q
    · exact absurd (.inr q) hn
  have key : ∀ r : Ms, r.Ok → ({ x with an := x.an ++ [r] } : Ct).Ok := fun r hr =>
    ⟨h.n, h.k, h.t2, h.n2, fun y hy => by
      rcases List.mem_append.1 hy with hy | hy
      · exact h.an y hy
      · rw [List.mem_singleton.1 hy]; exact hr, by show (x.an ++ [r]).length ≤ 64; rw [List.length_append]; show x.an.length + 1 ≤ 64; omega, h.cs, h.lf, h.tr, h.un⟩
  split
  · exact key _ (nsc_ok m)
  · refine key _ ⟨cmd_in (agreed_in hm.in_) _, by rw [may_cmd]; exact may_agreed h.n.1 h.k.1 hm.may, ?_⟩
    have hv := hm.few
    unfold agreed
    split
    · next e =>
      have : val (Ms.cmd ⟨m.k, m.c, Pn.agree x.own m.p, m.s, m.t, m.b⟩ false) = Pn.putS (Pn.agree x.own m.p) := by
        show (if m.k = 1 then Pn.putS (Pn.agree x.own m.p) else _) = _; rw [if_pos e]
      rw [this]
      unfold Pn.putS; split
      · rw [Pn.octets_size]; decide
      · show 0 ≤ 127; decide
    · exact hv
theorem resp_sub (r : Ms) : ∀ l : List Wt, (resp r l).1.Sublist l
  | [] => .refl _
  | w :: l => by
    unfold resp
    split
    · exact List.sublist_cons_self _ _
    · split
      · exact List.sublist_cons_self _ _
      · exact (resp_sub r l).cons_cons _
theorem Ct.Ok.sub (h : x.Ok) {l : List Wt} (hl : l.Sublist x.cs) : ({ x with cs := l } : Ct).Ok :=
  ⟨h.n, h.k, h.t2, h.n2, h.an, h.few, fun w hw => h.cs w (hl.subset hw), fun w hw => h.lf w (hl.subset hw), fun w hw => h.tr w (hl.subset hw), h.un.sublist hl⟩
theorem Ct.Ok.hear1 (h : x.Ok) (hm : m.Ok) : (x.hear1 m).1.Ok := by
  unfold Ct.hear1
  split
  · exact h.command hm
  · exact h.sub (resp_sub _ _)
theorem Ct.Ok.hears : ∀ {l : List Ms} {x : Ct}, x.Ok → (∀ m ∈ l, m.Ok) → (x.hears l).1.Ok
  | [], _, h, _ => h
  | m :: l, x, h, hl => by
    show (((x.hear1 m).1).hears l).1.Ok
    exact Ct.Ok.hears (h.hear1 (hl m List.mem_cons_self)) fun y hy => hl y (List.mem_cons_of_mem _ hy)
theorem ticks_mem (n2 : Nat) : ∀ (l : List Wt) (w : Wt), w ∈ (ticks n2 l).1 → ∃ v ∈ l, w.m = v.m ∧ w.lf ≤ v.lf ∧ (w.tr = v.tr ∨ w.tr ≤ n2)
  | [], w, h => by cases h
  | v :: l, w, h => by
    have tail : w ∈ (ticks n2 l).1 → ∃ u ∈ v :: l, w.m = u.m ∧ w.lf ≤ u.lf ∧ (w.tr = u.tr ∨ w.tr ≤ n2) := fun h => by
      obtain ⟨u, hu, h'⟩ := ticks_mem n2 l w h
      exact ⟨u, List.mem_cons_of_mem _ hu, h'⟩
    unfold ticks at h
    split at h
    · rcases List.mem_cons.1 h with rfl | h
      · exact ⟨v, List.mem_cons_self, rfl, Nat.sub_le _ _, .inl rfl⟩
      · exact tail h
    · split at h
      · exact tail h
      · next e =>
        rcases List.mem_cons.1 h with rfl | h
        · exact ⟨v, List.mem_cons_self, rfl, Nat.zero_le _, .inr (by show v.tr + 1 ≤ n2; omega)⟩
        · exact tail h
theorem ticks_sub (n2 : Nat) : ∀ l : List Wt, ((ticks n2 l).1.map (·.m)).Sublist (l.map (·.m))
  | [] => .refl _
  | w :: l => by
    unfold ticks
    split
    · exact (ticks_sub n2 l).cons_cons _
    · split
      · exact (ticks_sub n2 l).cons _
      · exact (ticks_sub n2 l).cons_cons _
theorem Ct.Ok.tick (h : x.Ok) : x.tick.1.Ok := by
  refine ⟨h.n, h.k, h.t2, h.n2, h.an, h.few, fun w hw => ?_, fun w hw => ?_, fun w hw => ?_, ?_⟩
  · obtain ⟨v, hv, e, _⟩ := ticks_mem _ _ _ hw
    rw [e]; exact h.cs v hv
  · obtain ⟨v, hv, _, e, _⟩ := ticks_mem _ _ _ hw
    have := h.lf v hv; omega
  · obtain ⟨v, hv, _, _, e⟩ := ticks_mem _ _ _ hw
    have := h.tr v hv; have := h.n2
    rcases e with e | e <;> omega
  · have h1 : (x.cs.map (·.m)).Pairwise fun a b => same a b = false := List.pairwise_map.2 h.un
    exact List.pairwise_map.1 (h1.sublist (ticks_sub _ _))
/-- All that octets begin with may be put. -/
theorem allA_ok (s : ByteArray) : ∀ (f at_ : Nat) (acc : List Ms), (∀ m ∈ acc, m.Ok) → ∀ m ∈ (allA s f at_ acc).1, m.Ok
  | 0, _, _, h => h
  | f + 1, at_, acc, h => by
    unfold allA
    split
    · next e =>
      refine allA_ok s f _ _ fun m hm => ?_
      rcases List.mem_append.1 hm with hm | hm
      · exact h m hm
      · rw [List.mem_singleton.1 hm]
        obtain ⟨h1, h2, _⟩ := put_got e
        obtain ⟨h3, h4⟩ := putE_may h2
        exact ⟨h1, h3, h4⟩
    · exact h
theorem all_ok (s : ByteArray) : ∀ m ∈ (all s).1, m.Ok := allA_ok s _ _ _ fun m h => by cases h
theorem Ct.Ok.hear (h : x.Ok) (s : ByteArray) : (x.hear s).1.Ok := h.hears (all_ok s)
/-- One message alone is heard as one. -/
theorem all_one (hm : m.Ok) : (all (putS m)).1 = [m] := by
  have := all_enc [m] (fun y hy => by rw [List.mem_singleton.1 hy]; exact hm) no (got_end rfl)
  have e : enc [m] ++ no = putS m := by
    rw [app_no]; show putS m ++ no = putS m; rw [app_no]
  rw [e] at this
  rw [this]
theorem hear_one (hm : m.Ok) : x.hear (putS m) = x.hear1 m := by
  unfold Ct.hear
  rw [all_one hm]
  show (((x.hear1 m).1), (x.hear1 m).2 ++ []) = _
  rw [List.append_nil]
theorem putS_inj {a b : Ms} (ha : a.Ok) (hb : b.Ok) (h : putS a = putS b) : a = b := by
  have e := all_one ha
  rw [h, all_one hb] at e
  exact (List.cons.inj e).1.symm
end
/-- Which of the 131 commands it is. -/
def key (m : Ms) : Nat := if m.k = 1 then m.p.d.toNat - 1 else if m.k = 2 then 63 + m.s.d else 124 + m.k
theorem key_lt {m : Ms} (h : Askable m) : key m < 131 := by
  have hk := may_k h.may
  have h6 := h.k
  unfold key
  split
  · next e => have := ((Pn.may_iff _).1 (may_k1 h.may e)).d; omega
  · split
    · next e => have := ((Msc.may_iff _).1 (may_k2 h.may e)).d; omega
    · omega
theorem key_inj {a b : Ms} (ha : Askable a) (hb : Askable b) (h : key a = key b) : same a b = true := by
  have ka := may_k ha.may
  have kb := may_k hb.may
  have a6 := ha.k
  have b6 := hb.k
  have pa : a.k = 1 → 1 ≤ a.p.d ∧ a.p.d ≤ 63 := fun e => ((Pn.may_iff _).1 (may_k1 ha.may e)).d
  have pb : b.k = 1 → 1 ≤ b.p.d ∧ b.p.d ≤ 63 := fun e => ((Pn.may_iff _).1 (may_k1 hb.may e)).d
  have sa : a.k = 2 → a.s.d ≤ 63 := fun e => ((Msc.may_iff _).1 (may_k2 ha.may e)).d
  have sb : b.k = 2 → b.s.d ≤ 63 := fun e => ((Msc.may_iff _).1 (may_k2 hb.may e)).d
  rw [same_iff]
  unfold key at h
  unfold ch
  by_cases a1 : a.k = 1
  · have := pa a1
    rw [if_pos a1] at h ⊢
    by_cases b1 : b.k = 1
    · have := pb b1
      rw [if_pos b1] at h ⊢; exact ⟨by omega, by omega⟩
    · rw [if_neg b1] at h
      by_cases b2 : b.k = 2
      · rw [if_pos b2] at h; omega
      · rw [if_neg b2] at h; omega
  · rw [if_neg a1] at h ⊢
    by_cases a2 : a.k = 2
    · have := sa a2
      rw [if_pos a2] at h ⊢
      by_cases b1 : b.k = 1
      · have := pb b1
        rw [if_pos b1] at h; omega
      · rw [if_neg b1] at h ⊢
        by_cases b2 : b.k = 2
        · rw [if_pos b2] at h ⊢; exact ⟨by omega, by omega⟩
        · rw [if_neg b2] at h; omega
    · rw [if_neg a2] at h ⊢
      by_cases b1 : b.k = 1
      · have := pb b1
        rw [if_pos b1] at h; omega
      · rw [if_neg b1] at h ⊢
        by_cases b2 : b.k = 2
        · have := sb b2
          rw [if_pos b2] at h; omega
        · rw [if_neg b2] at h ⊢; exact ⟨by omega, rfl⟩
/-- Unlike numbers below n are n at most. -/
theorem few_below : ∀ (n : Nat) (l : List Nat), l.Pairwise (· ≠ ·) → (∀ a ∈ l, a < n) → l.length ≤ n
  | 0, l, _, h => by
    cases l with
    | nil => exact Nat.le_refl _
    | cons a r => exact absurd (h a List.mem_cons_self) (Nat.not_lt_zero _)
  | n + 1, l, hu, h => by
    have h1 : (l.filter (fun a => a != n)).length ≤ n := few_below n _ (hu.sublist List.filter_sublist) fun a ha => by
      have := h a (List.mem_filter.1 ha).1
      have h2 : (a != n) = true := (List.mem_filter.1 ha).2
      have : a ≠ n := by simpa using h2
      omega
    have h2 : ∀ l : List Nat, l.Pairwise (· ≠ ·) → l.length ≤ (l.filter (fun a => a != n)).length + 1 := fun l => by
      induction l with
      | nil => intro _; exact Nat.zero_le _
      | cons a r ih =>
        intro hp
        obtain ⟨hp1, hp2⟩ := List.pairwise_cons.1 hp
        by_cases e : a = n
        · have : r.filter (fun a => a != n) = r := List.filter_eq_self.2 fun b hb => by
            have := hp1 b hb
            simpa using fun q => this (e.trans q.symm)
          rw [List.filter_cons_of_neg (by simpa using e), this, List.length_cons]
          exact Nat.le_refl _
        · rw [List.filter_cons_of_pos (by simpa using e), List.length_cons, List.length_cons]
          have := ih hp2
          omega
    have := h2 l hu
    omega
/-- Never more than 131 commands wait. -/
theorem Ct.Ok.cs_few {x : Ct} (h : x.Ok) : x.cs.length ≤ 131 := by
  have := few_below 131 (x.cs.map fun w => key w.m) (List.pairwise_map.2 (List.Pairwise.imp_of_mem (fun {a b} ha hb hs e => by
    have := key_inj (h.cs a ha) (h.cs b hb) e
    rw [hs] at this; cases this) h.un)) fun a ha => by
      obtain ⟨w, hw, rfl⟩ := List.mem_map.1 ha
      exact key_lt (h.cs w hw)
  rwa [List.length_map] at this
end Go.Proofs.YtakkhdammmcjcaaDoor.Ctl

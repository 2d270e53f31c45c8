/-
  Layer 22, put together: MsgsMath (what each says stands ahead of it). Conditions: as each names them.
-/
import Derived.Test.YtakkhdammmcjcaaDoorB01
import Derived.Test.YtakkhdammmcjcaaDoorB02
/-
  The plain mathematics of layer 10: a message, its type, its value, may it be, its octets, what octets say, all messages that octets are, and that all fit together. Conditions: octets are less than 256.
-/
namespace Go.Proofs.YtakkhdammmcjcaaDoor.Msgs
open Go.Proofs.YtakkhdammmcjcaaDoor.Base Go.Proofs.YtakkhdammmcjcaaDoor.Mem Go.Proofs.YtakkhdammmcjcaaDoor.Ea
/-- A message. -/
structure Ms where
  k : Nat
  c : Bool
  p : Pn.Pr
  s : Msc.St
  t : Nat
  b : ByteArray
structure Ms.In (m : Ms) : Prop where
  k : m.k < 256
  p : m.p.In
  s : m.s.In
  t : m.t < 256
def no : ByteArray := ⟨#[]⟩
def zero : Ms := ⟨0, false, Pn.zero, Msc.zero, 0, no⟩
theorem zero_in : zero.In := ⟨by decide, Pn.zero_in, Msc.zero_in, by decide⟩
/-- What == of two answers. -/
def eqM (a b : Ms) : Bool := (a.k == b.k) && (a.c == b.c) && Pn.eqP a.p b.p && Msc.eqS a.s b.s && (a.t == b.t) && (a.b.toList == b.b.toList)
theorem eqM_iff (a b : Ms) : eqM a b = true ↔ a = b := by
  unfold eqM
  constructor
  · intro h
    simp only [Bool.and_eq_true, beq_iff_eq] at h
    obtain ⟨⟨⟨⟨⟨h1, h2⟩, h3⟩, h4⟩, h5⟩, h6⟩ := h
    have h3 := Pn.eqP_eq h3
    have h4 := Msc.eqS_eq h4
    have h6 : a.b = b.b := by rw [ByteArray.toList_eq, ByteArray.toList_eq] at h6; exact bext h6
    cases a; cases b; simp_all
  · rintro rfl
    simp [Pn.eqP_self, Msc.eqS_self]
theorem eqM_self (a : Ms) : eqM a a = true := (eqM_iff a a).2 rfl
/-- The types of the kinds, as the program's table has them. -/
def tyL : List Nat := [0, 32, 56, 40, 24, 8, 48, 4]
def tyN (k : Nat) : Nat := tyL.getD k 0
theorem tyN_lt (k : Nat) (h : k < 8) : tyN k < 256 := by
  have : ∀ j : Fin 8, tyN j.val < 256 := by decide
  exact this ⟨k, h⟩
/-- The first kind from k on, of n in a row, whose type t is; 8, if none is. -/
def kFrom (t : Nat) : Nat → Nat → Nat
  | 0, _ => 8
  | n + 1, k => if tyN k = t then k else kFrom t n (k + 1)
def kOf (t : Nat) : Nat := kFrom t 7 1
theorem kFrom_hit {t n k : Nat} (h : tyN k = t) : kFrom t (n + 1) k = k := by simp [kFrom, h]
theorem kFrom_miss {t n k : Nat} (h : tyN k ≠ t) : kFrom t (n + 1) k = kFrom t n (k + 1) := by simp [kFrom, h]
theorem kOf_is (t : Nat) (h : t < 256) : 1 ≤ kOf t ∧ kOf t ≤ 8 ∧ (kOf t = 8 ∨ tyN (kOf t) = t) := by
  have : ∀ j : Fin 256, 1 ≤ kOf j.val ∧ kOf j.val ≤ 8 ∧ (kOf j.val = 8 ∨ tyN (kOf j.val) = j.val) := by decide +kernel
  exact this ⟨t, h⟩
theorem kOf_ty : ∀ k : Nat, 1 ≤ k → k ≤ 7 → kOf (tyN k) = k := by
  have : ∀ j : Fin 8, 1 ≤ j.val → kOf (tyN j.val) = j.val := by decide +kernel
  exact fun k h1 h2 => this ⟨k, by omega⟩ h1
theorem tyN_le (k : Nat) (h : k < 8) : tyN k ≤ 63 := by
  have : ∀ j : Fin 8, tyN j.val ≤ 63 := by decide +kernel
  exact this ⟨k, h⟩
/-- A message with nothing but what its Kind needs. -/
def need (m : Ms) : Ms := ⟨m.k, m.c, if m.k = 1 then m.p else Pn.zero, if m.k = 2 then m.s else Msc.zero, if m.k = 7 ∨ m.k = 8 then m.t else 0, if m.k = 5 ∨ m.k = 8 then m.b else no⟩
/-- May what it needs be? -/
def vOk (m : Ms) : Bool := if m.k = 1 then Pn.may m.p else if m.k = 2 then Msc.may m.s else if m.k = 8 then decide (m.t ≤ 63) && (kOf m.t == 8) else decide (3 ≤ m.k ∧ m.k ≤ 7)
/-- Its value. -/
def val (m : Ms) : ByteArray := if m.k = 1 then Pn.putS m.p else if m.k = 2 then Msc.putS m.s else if m.k = 7 then one m.t else if m.k = 5 ∨ m.k = 8 then m.b else no
def may (m : Ms) : Bool := vOk m && eqM m (need m)
/-- Its type. -/
def ty (m : Ms) : Nat := if m.k = 8 then m.t else tyN m.k
def putE (m : Ms) : Nat := if may m then Tlv.putE (ty m) (val m) else 2
def putS (m : Ms) : ByteArray := if may m then Tlv.putS (ty m) m.c (val m) else no
def oct (m : Ms) : Nat := if may m then addr (ty m) m.c else 0
theorem may_of {m : Ms} (h : may m = true) : vOk m = true ∧ m = need m := by
  unfold may at h
  rw [Bool.and_eq_true, eqM_iff] at h
  exact h
theorem may_k {m : Ms} (h : may m = true) : 1 ≤ m.k ∧ m.k ≤ 8 := by
  have := (may_of h).1
  unfold vOk at this
  split at this
  · omega
  · split at this
    · omega
    · split at this
      · omega
      · have := of_decide_eq_true this; omega
theorem ty_le {m : Ms} (h : may m = true) : ty m ≤ 63 := by
  have hk := may_k h
  have hv := (may_of h).1
  unfold ty
  split
  · rename_i h8
    unfold vOk at hv
    rw [if_neg (by omega), if_neg (by omega), if_pos h8, Bool.and_eq_true] at hv
    exact of_decide_eq_true hv.1
  · exact tyN_le _ (by omega)
theorem kOf_of {m : Ms} (h : may m = true) : kOf (ty m) = m.k := by
  have hk := may_k h
  have hv := (may_of h).1
  unfold ty
  split
  · rename_i h8
    unfold vOk at hv
    rw [if_neg (by omega), if_neg (by omega), if_pos h8, Bool.and_eq_true, beq_iff_eq] at hv
    rw [hv.2, h8]
  · exact kOf_ty _ (by omega) (by omega)
/-- What a type and a value say. -/
def rdM (t : Nat) (v : ByteArray) : Ms :=
  if kOf t = 1 then ⟨1, false, Pn.gotP v, Msc.zero, 0, no⟩ else
  if kOf t = 2 then ⟨2, false, Pn.zero, Msc.gotS v, 0, no⟩ else
  if kOf t = 5 then ⟨5, false, Pn.zero, Msc.zero, 0, v⟩ else
  if kOf t = 7 then if h : v.size = 1 then ⟨7, false, Pn.zero, Msc.zero, v[0].toNat, no⟩ else zero else
  if kOf t = 8 then ⟨8, false, Pn.zero, Msc.zero, t, v⟩ else ⟨kOf t, false, Pn.zero, Msc.zero, 0, no⟩
def rdOk (t : Nat) (v : ByteArray) : Bool :=
  if kOf t = 1 then decide (Pn.gotE v = 0) else if kOf t = 2 then decide (Msc.gotE v = 0) else
  if kOf t = 5 ∨ kOf t = 8 then true else if kOf t = 7 then decide (v.size = 1) else decide (v.size = 0)
def Ms.cmd (m : Ms) (c : Bool) : Ms := ⟨m.k, c, m.p, m.s, m.t, m.b⟩
/-- What octets begin with. -/
structure Got where
  m : Ms
  n : Nat
  e : Nat
def bad (e : Nat) : Got := ⟨zero, 0, e⟩
def got (s : ByteArray) : Got :=
  if (Tlv.got s).e = 0 then if rdOk (Tlv.got s).k (Tlv.got s).v = true then ⟨(rdM (Tlv.got s).k (Tlv.got s).v).cmd (Tlv.got s).c, (Tlv.got s).n, 0⟩ else bad 70 else bad (Tlv.got s).e
theorem got_err {s : ByteArray} (h : (Tlv.got s).e ≠ 0) : got s = bad (Tlv.got s).e := if_neg h
theorem got_not {s : ByteArray} (h : (Tlv.got s).e = 0) (h' : rdOk (Tlv.got s).k (Tlv.got s).v = false) : got s = bad 70 := by
  unfold got; rw [if_pos h, h']; rfl
theorem got_fine {s : ByteArray} (h : (Tlv.got s).e = 0) (h' : rdOk (Tlv.got s).k (Tlv.got s).v = true) : got s = ⟨(rdM (Tlv.got s).k (Tlv.got s).v).cmd (Tlv.got s).c, (Tlv.got s).n, 0⟩ := by
  unfold got; rw [if_pos h, if_pos h']
theorem one_get (t : Nat) (h : t < 256) : ((one t)[0]'(by show 0 < 1; decide)).toNat = t := by
  show (UInt8.ofNat t).toNat = t
  rw [UInt8.toNat_ofNat']; omega
theorem one_of (v : ByteArray) (h : v.size = 1) : one v[0].toNat = v := by
  apply bext
  show [UInt8.ofNat v[0].toNat] = _
  rw [one_of_size h]
  simp
theorem nil_of (v : ByteArray) (h : v.size = 0) : no = v := (nil_of_size h).symm
/-- What is put is read as it was. -/
theorem rd_of {m : Ms} (hi : m.In) (h : may m = true) : rdOk (ty m) (val m) = true ∧ (rdM (ty m) (val m)).cmd m.c = m := by
  have hk := may_k h
  have hq := kOf_of h
  obtain ⟨hv, hn⟩ := may_of h
  have hr : rdOk (ty m) (val m) = (if m.k = 1 then decide (Pn.gotE (val m) = 0) else if m.k = 2 then decide (Msc.gotE (val m) = 0) else
    if m.k = 5 ∨ m.k = 8 then true else if m.k = 7 then decide ((val m).size = 1) else decide ((val m).size = 0)) := by unfold rdOk; rw [hq]
  obtain ⟨k, c, p, s, t, b⟩ := m
  dsimp only at hk
  have e1 : (val ⟨k, c, p, s, t, b⟩) = if k = 1 then Pn.putS p else if k = 2 then Msc.putS s else if k = 7 then one t else if k = 5 ∨ k = 8 then b else no := rfl
  have hn2 : p = (if k = 1 then p else Pn.zero) ∧ s = (if k = 2 then s else Msc.zero) ∧ t = (if k = 7 ∨ k = 8 then t else 0) ∧ b = (if k = 5 ∨ k = 8 then b else no) := by
    unfold need at hn; injection hn with _ _ h3 h4 h5 h6; exact ⟨h3, h4, h5, h6⟩
  obtain ⟨n1, n2, n3, n4⟩ := hn2
  have cases8 : k = 1 ∨ k = 2 ∨ k = 5 ∨ k = 7 ∨ k = 8 ∨ k = 3 ∨ k = 4 ∨ k = 6 := by omega
  have h8 : k = 8 → ty ⟨k, c, p, s, t, b⟩ = t := fun e => if_pos e
  unfold rdM
  rw [hr, hq]
  dsimp only
  rcases cases8 with rfl | rfl | rfl | rfl | rfl | h3
  · rw [e1, if_pos rfl, if_pos rfl, if_pos rfl]
    have hm : Pn.may p = true := by simpa [vOk] using hv
    unfold Pn.putS
    rw [if_pos hm]
    obtain ⟨g1, g2⟩ := Pn.got_octets p hi.p hm
    rw [g1, g2]
    rw [if_neg (by decide)] at n2 n3 n4
    rw [n2, n3, n4]
    exact ⟨rfl, rfl⟩
  · rw [e1, if_neg (by decide), if_pos rfl, if_neg (by decide), if_pos rfl, if_neg (by decide), if_pos rfl]
    have hm : Msc.may s = true := by simpa [vOk] using hv
    unfold Msc.putS
    rw [if_pos hm]
    obtain ⟨g1, g2⟩ := Msc.got_octets s hm
    rw [g1, g2]
    rw [if_neg (by decide)] at n1 n3 n4
    rw [n1, n3, n4]
    exact ⟨rfl, rfl⟩
  · rw [if_neg (by decide)] at n1 n2 n3
    rw [e1, n1, n2, n3]
    exact ⟨rfl, rfl⟩
  · rw [if_neg (by decide)] at n1 n2 n4
    rw [e1, n1, n2, n4]
    have hg := one_get t hi.t
    refine ⟨rfl, ?_⟩
    show Ms.cmd (if h : (one t).size = 1 then ⟨7, false, Pn.zero, Msc.zero, (one t)[0].toNat, no⟩ else zero) c = _
    rw [dif_pos (show (one t).size = 1 from rfl), hg]; rfl
  · rw [if_neg (by decide)] at n1 n2
    rw [h8 rfl, e1, n1, n2]
    exact ⟨rfl, rfl⟩
  · rw [if_neg (by omega)] at n1 n2 n3 n4
    rw [e1, n1, n2, n3, n4]
    rcases h3 with rfl | rfl | rfl <;> exact ⟨rfl, rfl⟩
theorem bytes_of {m : Ms} (h : may m = true) (hv : (val m).size ≤ 127) : putE m = 0 ∧ putS m = Tlv.It.bytes ⟨ty m, m.c, val m⟩ ∧ Tlv.It.Ok ⟨ty m, m.c, val m⟩ := by
  have hp := Tlv.putE_of (ty_le h) hv
  unfold putE putS
  rw [if_pos h, if_pos h, hp]
  exact ⟨rfl, Tlv.putS_ok hp, ty_le h, hv⟩
/-- What is put is got as it was, whatever stands behind it. -/
theorem got_put {m : Ms} (hi : m.In) (h : may m = true) (hv : (val m).size ≤ 127) (s : ByteArray) : got (putS m ++ s) = ⟨m, (putS m).size, 0⟩ := by
  obtain ⟨_, e2, e3⟩ := bytes_of h hv
  obtain ⟨r1, r2⟩ := rd_of hi h
  have hg := Tlv.got_put e3 s
  rw [← e2] at hg
  have := got_fine (s := putS m ++ s) (by rw [hg]) (by rw [hg]; exact r1)
  rw [this, hg]
  dsimp only
  rw [r2]
theorem val_size {m : Ms} (hb : m.b.size ≤ 127) : (val m).size ≤ 127 := by
  unfold val
  split
  · unfold Pn.putS; split
    · rw [Pn.octets_size]; decide
    · show 0 ≤ 127; decide
  · split
    · unfold Msc.putS; split
      · rcases Msc.octets_size m.s with h | h <;> omega
      · show 0 ≤ 127; decide
    · split
      · show 1 ≤ 127; decide
      · split
        · exact hb
        · show 0 ≤ 127; decide
theorem putE_may {m : Ms} (h : putE m = 0) : may m = true ∧ (val m).size ≤ 127 := by
  unfold putE at h
  split at h
  · rename_i hm
    exact ⟨hm, (Tlv.putE_ok h).2⟩
  · exact absurd h (by decide)
theorem putE_iff {m : Ms} (hb : m.b.size ≤ 127) : putE m = 0 ↔ may m = true := ⟨fun h => (putE_may h).1, fun h => (bytes_of h (val_size hb)).1⟩
theorem putS_size {m : Ms} (h : putE m = 0) : (putS m).size = 2 + (val m).size := by
  obtain ⟨h1, h2⟩ := putE_may h
  obtain ⟨_, e2, e3⟩ := bytes_of h1 h2
  rw [e2, Tlv.bytes_size e3]
theorem putS_first {m : Ms} (h : putE m = 0) : ∃ hz : 0 < (putS m).size, (putS m)[0].toNat = oct m := by
  obtain ⟨h1, h2⟩ := putE_may h
  obtain ⟨_, e2, e3⟩ := bytes_of h1 h2
  have hl := Tlv.bytes_list e3
  have hz : 0 < (putS m).size := by rw [putS_size h]; omega
  refine ⟨hz, ?_⟩
  have hL : (putS m).data.toList = UInt8.ofNat (addr (ty m) m.c) :: UInt8.ofNat (2 * (val m).size + 1) :: (val m).data.toList := by rw [e2]; exact hl
  have h0 := get_list (putS m) 0 hz
  rw [hL] at h0
  have : (putS m)[0] = UInt8.ofNat (addr (ty m) m.c) := Option.some.inj h0
  rw [this, nat_oct _ (addr_lt _ _)]
  unfold oct
  rw [if_pos h1]
/-- What is got may be, and is put as it was. -/
theorem put_got {s : ByteArray} (h : (got s).e = 0) : (got s).m.In ∧ putE (got s).m = 0 ∧ 2 ≤ (got s).n ∧ (got s).n ≤ s.size ∧ putS (got s).m = s.extract 0 (got s).n := by
  by_cases h0 : (Tlv.got s).e = 0
  · cases h1 : rdOk (Tlv.got s).k (Tlv.got s).v
    · rw [got_not h0 h1] at h; exact absurd h (by decide)
    · rw [got_fine h0 h1]
      obtain ⟨p1, p2, p3, p4⟩ := Tlv.put_got h0
      obtain ⟨q1, q2⟩ := Tlv.putE_ok p1
      generalize (Tlv.got s).k = t at *
      generalize (Tlv.got s).c = c at *
      generalize (Tlv.got s).v = v at *
      generalize (Tlv.got s).n = n at *
      dsimp only
      obtain ⟨k1, k2, k3⟩ := kOf_is t (by omega)
      have key : ((rdM t v).cmd c).In ∧ may ((rdM t v).cmd c) = true ∧ ty ((rdM t v).cmd c) = t ∧ val ((rdM t v).cmd c) = v := by
        have hz : ∀ k c p s t b, eqM ⟨k, c, p, s, t, b⟩ (need ⟨k, c, p, s, t, b⟩) = eqM ⟨k, c, p, s, t, b⟩ ⟨k, c, if k = 1 then p else Pn.zero, if k = 2 then s else Msc.zero, if k = 7 ∨ k = 8 then t else 0, if k = 5 ∨ k = 8 then b else no⟩ := fun _ _ _ _ _ _ => rfl
        unfold rdOk at h1
        have cases8 : kOf t = 1 ∨ kOf t = 2 ∨ kOf t = 5 ∨ kOf t = 7 ∨ kOf t = 8 ∨ kOf t = 3 ∨ kOf t = 4 ∨ kOf t = 6 := by omega
        unfold rdM
        rcases cases8 with hk | hk | hk | hk | hk | hk
        · have ht : tyN 1 = t := by rw [hk] at k3; exact k3.resolve_left (by decide)
          rw [hk] at h1 ⊢
          rw [if_pos rfl] at h1 ⊢
          have hg := of_decide_eq_true h1
          rcases Pn.got_back v with ⟨_, g2, g3⟩ | ⟨g1, _⟩
          · refine ⟨⟨by show 1 < 256; decide, Pn.gotP_in v, Msc.zero_in, by show 0 < 256; decide⟩, ?_, ht, ?_⟩
            · unfold may
              rw [Bool.and_eq_true]
              exact ⟨g2, by rw [eqM_iff]; rfl⟩
            · show Pn.putS (Pn.gotP v) = v
              unfold Pn.putS
              rw [if_pos g2, g3]
          · rw [hg] at g1; rcases g1 with g1 | g1 <;> exact absurd g1 (by decide)
        · have ht : tyN 2 = t := by rw [hk] at k3; exact k3.resolve_left (by decide)
          rw [hk] at h1 ⊢
          rw [if_neg (by decide), if_pos rfl] at h1 ⊢
          have hg := of_decide_eq_true h1
          rcases Msc.got_back v with ⟨_, g2, g3⟩ | ⟨g1, _⟩
          · refine ⟨⟨by show 2 < 256; decide, Pn.zero_in, Msc.gotS_in v, by show 0 < 256; decide⟩, ?_, ht, ?_⟩
            · unfold may
              rw [Bool.and_eq_true]
              exact ⟨g2, by rw [eqM_iff]; rfl⟩
            · show Msc.putS (Msc.gotS v) = v
              unfold Msc.putS
              rw [if_pos g2, g3]
          · rw [hg] at g1; rcases g1 with g1 | g1 <;> exact absurd g1 (by decide)
        · have ht : tyN 5 = t := by rw [hk] at k3; exact k3.resolve_left (by decide)
          rw [hk]
          refine ⟨⟨by show 5 < 256; decide, Pn.zero_in, Msc.zero_in, by show 0 < 256; decide⟩, ?_, ht, rfl⟩
          unfold may
          rw [Bool.and_eq_true]
          exact ⟨rfl, by rw [eqM_iff]; rfl⟩
        · have ht : tyN 7 = t := by rw [hk] at k3; exact k3.resolve_left (by decide)
          rw [hk] at h1 ⊢
          rw [if_neg (by decide), if_neg (by decide), if_neg (by decide), if_pos rfl] at h1
          have hs := of_decide_eq_true h1
          rw [if_neg (by decide), if_neg (by decide), if_neg (by decide), if_pos rfl, dif_pos hs]
          refine ⟨⟨by show 7 < 256; decide, Pn.zero_in, Msc.zero_in, oct_lt _⟩, ?_, ht, one_of v hs⟩
          unfold may
          rw [Bool.and_eq_true]
          exact ⟨rfl, by rw [eqM_iff]; rfl⟩
        · rw [hk]
          refine ⟨⟨by show 8 < 256; decide, Pn.zero_in, Msc.zero_in, by show t < 256; omega⟩, ?_, rfl, rfl⟩
          unfold may
          rw [Bool.and_eq_true]
          refine ⟨?_, by rw [eqM_iff]; rfl⟩
          show (decide (t ≤ 63) && (kOf t == 8)) = true
          rw [hk, Bool.and_eq_true]
          exact ⟨decide_eq_true q1, rfl⟩
        · have ht : tyN (kOf t) = t := k3.resolve_left (by omega)
          have hs : v.size = 0 := by
            rw [if_neg (by omega), if_neg (by omega), if_neg (by omega), if_neg (by omega)] at h1
            exact of_decide_eq_true h1
          have hv := nil_of v hs
          rw [if_neg (by omega), if_neg (by omega), if_neg (by omega), if_neg (by omega), if_neg (by omega)]
          rcases hk with hk | hk | hk
          · rw [hk] at ht ⊢
            refine ⟨⟨by show 3 < 256; decide, Pn.zero_in, Msc.zero_in, by show 0 < 256; decide⟩, ?_, ht, hv⟩
            unfold may
            rw [Bool.and_eq_true]
            exact ⟨rfl, by rw [eqM_iff]; rfl⟩
          · rw [hk] at ht ⊢
            refine ⟨⟨by show 4 < 256; decide, Pn.zero_in, Msc.zero_in, by show 0 < 256; decide⟩, ?_, ht, hv⟩
            unfold may
            rw [Bool.and_eq_true]
            exact ⟨rfl, by rw [eqM_iff]; rfl⟩
          · rw [hk] at ht ⊢
            refine ⟨⟨by show 6 < 256; decide, Pn.zero_in, Msc.zero_in, by show 0 < 256; decide⟩, ?_, ht, hv⟩
            unfold may
            rw [Bool.and_eq_true]
            exact ⟨rfl, by rw [eqM_iff]; rfl⟩
      obtain ⟨r1, r2, r3, r4⟩ := key
      have r5 : ((rdM t v).cmd c).c = c := rfl
      generalize (rdM t v).cmd c = m at *
      have hb := bytes_of r2 (by rw [r4]; exact q2)
      rw [r3, r4, r5] at hb
      exact ⟨r1, hb.1, p2, p3, hb.2.1.trans p4⟩
  · rw [got_err h0] at h; exact absurd h h0
theorem got_e (s : ByteArray) : (got s).e = 0 ∨ (got s).e ≠ 0 ∧ got s = bad (got s).e := by
  by_cases h0 : (Tlv.got s).e = 0
  · cases h1 : rdOk (Tlv.got s).k (Tlv.got s).v
    · rw [got_not h0 h1]; exact .inr ⟨by decide, rfl⟩
    · rw [got_fine h0 h1]; exact .inl rfl
  · rw [got_err h0]; exact .inr ⟨h0, rfl⟩
theorem got_in (s : ByteArray) : (got s).m.In := by
  rcases got_e s with h | ⟨_, h⟩
  · exact (put_got h).1
  · rw [h]; exact zero_in
/-- All messages that octets begin with, behind those that were got. -/
def allA (s : ByteArray) : Nat → Nat → List Ms → List Ms × Nat
  | 0, at_, acc => (acc, at_)
  | f + 1, at_, acc => if (got (s.extract at_ s.size)).e = 0 then allA s f (at_ + (got (s.extract at_ s.size)).n) (acc ++ [(got (s.extract at_ s.size)).m]) else (acc, at_)
def all (s : ByteArray) : List Ms × Nat := allA s (s.size + 1) 0 []
def Left (s : ByteArray) (at_ : Nat) (acc : List Ms) : Prop := ∃ f, s.size < f + at_ ∧ allA s f at_ acc = all s
theorem left_start (s : ByteArray) : Left s 0 [] := ⟨s.size + 1, by omega, rfl⟩
theorem left_step {s : ByteArray} {at_ : Nat} {acc : List Ms} (h : Left s at_ acc) (hle : at_ ≤ s.size) (he : (got (s.extract at_ s.size)).e = 0) :
    Left s (at_ + (got (s.extract at_ s.size)).n) (acc ++ [(got (s.extract at_ s.size)).m]) ∧ 2 ≤ (got (s.extract at_ s.size)).n ∧ at_ + (got (s.extract at_ s.size)).n ≤ s.size ∧ (got (s.extract at_ s.size)).m.In := by
  obtain ⟨f, hf, h⟩ := h
  obtain ⟨h1, _, h2, h3, _⟩ := put_got he
  rw [ext_size] at h3
  match f, hf, h with
  | 0, hf, _ => omega
  | f + 1, hf, h =>
    rw [allA, if_pos he] at h
    exact ⟨⟨f, by omega, h⟩, h2, by omega, h1⟩
theorem left_bad {s : ByteArray} {at_ : Nat} {acc : List Ms} (h : Left s at_ acc) (hle : at_ ≤ s.size) (he : (got (s.extract at_ s.size)).e ≠ 0) : all s = (acc, at_) := by
  obtain ⟨f, hf, h⟩ := h
  match f, hf, h with
  | 0, hf, _ => omega
  | f + 1, hf, h =>
    rw [allA, if_neg he] at h
    exact h.symm
theorem got_end {s : ByteArray} (h : s.size = 0) : (got s).e ≠ 0 := by
  rw [nil_of_size h]; decide
theorem left_done {s : ByteArray} {at_ : Nat} {acc : List Ms} (h : Left s at_ acc) (hle : at_ = s.size) : all s = (acc, at_) :=
  left_bad h (by omega) (got_end (by rw [ext_size]; omega))
theorem all_len (s : ByteArray) : (all s).1.length ≤ s.size := by
  have key : ∀ (f k : Nat) (acc : List Ms), acc.length ≤ k → k ≤ s.size → (allA s f k acc).1.length ≤ s.size := by
    intro f
    induction f with
    | zero => intro k acc h1 h2; show acc.length ≤ _; omega
    | succ f ih =>
      intro k acc h1 h2
      rw [allA]
      split
      · rename_i h4
        obtain ⟨_, _, h5, h6, _⟩ := put_got (s := s.extract k s.size) h4
        rw [ext_size] at h6
        exact ih _ _ (by simp; omega) (by omega)
      · show acc.length ≤ _; omega
  exact key _ 0 [] (Nat.zero_le _) (Nat.zero_le _)
/-- The octets of messages that are put one behind the other. -/
def enc : List Ms → ByteArray
  | [] => no
  | x :: r => putS x ++ enc r
theorem app_no (a : ByteArray) : a ++ no = a := by apply bext; rw [app_list]; show _ ++ [] = _; simp
theorem no_app (a : ByteArray) : no ++ a = a := by apply bext; rw [app_list]; rfl
theorem app_assoc (a b c : ByteArray) : a ++ b ++ c = a ++ (b ++ c) := by apply bext; simp only [app_list, List.append_assoc]
theorem enc_snoc (l : List Ms) (x : Ms) : enc (l ++ [x]) = enc l ++ putS x := by
  induction l with
  | nil => show putS x ++ enc [] = enc [] ++ putS x; show putS x ++ no = no ++ putS x; rw [app_no, no_app]
  | cons a r ih => show putS a ++ enc (r ++ [x]) = (putS a ++ enc r) ++ putS x; rw [ih, app_assoc]
/-- It may be put. -/
structure Ms.Ok (m : Ms) : Prop where
  in_ : m.In
  may : may m = true
  few : (val m).size ≤ 127
theorem enc_size (l : List Ms) (h : ∀ x ∈ l, x.Ok) : (enc l).size ≤ 129 * l.length := by
  induction l with
  | nil => exact Nat.le_refl _
  | cons a r ih =>
    have h1 := ih fun x hx => h x (List.mem_cons_of_mem _ hx)
    have h0 := h a List.mem_cons_self
    have h2 := putS_size (bytes_of h0.may h0.few).1
    have h3 := h0.few
    show (putS a ++ enc r).size ≤ _
    rw [ByteArray.size_append, List.length_cons]
    omega
theorem all_enc (l : List Ms) (h : ∀ x ∈ l, x.Ok) (z : ByteArray) (hz : (got z).e ≠ 0) : all (enc l ++ z) = (l, (enc l).size) := by
  have key : ∀ (r acc : List Ms), (∀ x ∈ r, x.Ok) → enc l ++ z = enc acc ++ (enc r ++ z) → Left (enc l ++ z) (enc acc).size acc → all (enc l ++ z) = (acc ++ r, (enc (acc ++ r)).size) := by
    intro r
    induction r with
    | nil =>
      intro acc _ he hL
      rw [List.append_nil]
      have hs : (enc l ++ z).extract (enc acc).size (enc l ++ z).size = z := by
        apply bext
        rw [ext_drop, he, app_list, List.drop_left' (size_toList _)]
        show (no ++ z).data.toList = _
        rw [no_app]
      refine left_bad hL ?_ (by rw [hs]; exact hz)
      rw [he, ByteArray.size_append]; omega
    | cons x r ih =>
      intro acc hok he hL
      have hx := hok x List.mem_cons_self
      have ex : (enc l ++ z).extract (enc acc).size (enc l ++ z).size = putS x ++ (enc r ++ z) := by
        apply bext
        rw [ext_drop, he, app_list, List.drop_left' (size_toList _)]
        show (putS x ++ enc r ++ z).data.toList = _
        rw [app_assoc]
      have hle : (enc acc).size ≤ (enc l ++ z).size := by
        rw [he, ByteArray.size_append]; omega
      have hg := got_put hx.in_ hx.may hx.few (enc r ++ z)
      have hs := (left_step hL hle (by rw [ex, hg])).1
      rw [ex, hg] at hs
      have e1 : (enc acc).size + (putS x).size = (enc (acc ++ [x])).size := by rw [enc_snoc, ByteArray.size_append]
      simp only [e1] at hs
      have := ih (acc ++ [x]) (fun y hy => hok y (List.mem_cons_of_mem _ hy)) (by
        rw [he, enc_snoc]
        show enc acc ++ (putS x ++ enc r ++ z) = _
        simp only [app_assoc]) hs
      rw [this, List.append_assoc]; rfl
  have := key l [] h (by rw [show enc [] = no from rfl, no_app]) (left_start _)
  rw [this]; rfl
theorem got_nul : (got ⟨#[0]⟩).e ≠ 0 := by decide
end Go.Proofs.YtakkhdammmcjcaaDoor.Msgs

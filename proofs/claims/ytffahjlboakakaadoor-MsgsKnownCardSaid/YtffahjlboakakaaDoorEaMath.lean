/-
  The plain arithmetic of layer 2: addresses, what an octet is split into, lengths in one octet and two, what is taken. No condition.
-/
import Derived.WalkKit
import Derived.Test.YtffahjlboakakaaDoorBits
namespace Go.Proofs.YtffahjlboakakaaDoor.Ea
open Go.Proofs.YtffahjlboakakaaDoor.Base

/-- The address. -/
def addr (d : Nat) (cr : Bool) : Nat := if 63 < d then 0 else 4 * d + 2 * cr.toNat + 1
/-- What an octet is split into. -/
def spD (a : Nat) : Nat := if a % 2 = 1 then a / 4 else 0
def spC (a : Nat) : Bool := decide (a % 2 = 1 ∧ a / 2 % 2 = 1)
def spK (a : Nat) : Bool := decide (a % 2 = 1)
theorem addr_lt (d : Nat) (cr : Bool) : addr d cr < 256 := by
  unfold addr
  split
  · decide
  · have := Bool.toNat_le cr; omega
theorem spD_lt (a : Nat) (h : a < 256) : spD a < 64 := by unfold spD; split <;> omega
theorem addr_sp (a : Nat) (h : a < 256) (ho : spK a = true) : addr (spD a) (spC a) = a := by
  have ho' : a % 2 = 1 := of_decide_eq_true ho
  have h1 : spD a = a / 4 := if_pos ho'
  rw [h1, addr, if_neg (by omega)]
  by_cases hc : a / 2 % 2 = 1
  · have : spC a = true := decide_eq_true ⟨ho', hc⟩
    rw [this]; show 4 * (a / 4) + 2 * 1 + 1 = a; omega
  · have : spC a = false := decide_eq_false fun x => hc x.2
    rw [this]; show 4 * (a / 4) + 2 * 0 + 1 = a; omega
theorem addr_is (a d : Nat) (hd : d < 64) (b : Bool) (h : addr d b = a) : spD a = d ∧ spC a = b ∧ spK a = true := by
  rw [addr, if_neg (by omega)] at h
  have hb := Bool.toNat_le b
  have ho : a % 2 = 1 := by omega
  refine ⟨by rw [spD, if_pos ho]; omega, ?_, decide_eq_true ho⟩
  cases b
  · exact decide_eq_false fun x => by have h' : 4 * d + 2 * 0 + 1 = a := h; omega
  · exact decide_eq_true ⟨ho, by have h' : 4 * d + 2 * 1 + 1 = a := h; omega⟩
theorem addr_none (a : Nat) (ha : a < 256) (h : ∀ d : Nat, d < 64 → ∀ b : Bool, addr d b ≠ a) : spD a = 0 ∧ spC a = false ∧ spK a = false := by
  have hk : spK a = false := by
    cases hk : spK a
    · rfl
    · exact absurd (addr_sp a ha hk) (h _ (spD_lt a ha) _)
  have ho : ¬ a % 2 = 1 := of_decide_eq_false hk
  exact ⟨if_neg ho, decide_eq_false fun x => ho x.1, hk⟩
/-- The octets in which a length is written. -/
def len (n : Int) : ByteArray := if n < 0 ∨ 32767 < n then ⟨#[]⟩ else if n < 128 then ⟨#[UInt8.ofNat (2 * n.toNat + 1)]⟩ else ⟨#[UInt8.ofNat (2 * (n.toNat % 128)), UInt8.ofNat (n.toNat / 128)]⟩
theorem len_no {n : Int} (h : n < 0 ∨ 32767 < n) : len n = ⟨#[]⟩ := if_pos h
theorem len_one {n : Int} (h0 : 0 ≤ n) (h : n < 128) : len n = ⟨#[UInt8.ofNat (2 * n.toNat + 1)]⟩ := by
  rw [len, if_neg (by omega), if_pos h]
theorem len_two {n : Int} (h0 : 128 ≤ n) (h : n ≤ 32767) : len n = ⟨#[UInt8.ofNat (2 * (n.toNat % 128)), UInt8.ofNat (n.toNat / 128)]⟩ := by
  rw [len, if_neg (by omega), if_neg (by omega)]
/-- What is taken: the length, how many octets, the error's number. -/
def tk (l : List UInt8) : Nat × Nat × Nat := match l with
  | [] => (0, 0, 20)
  | a :: r => if a.toNat % 2 = 1 then (a.toNat / 2, 1, 0) else match r with
    | [] => (0, 0, 20)
    | b :: _ => (a.toNat / 2 + 128 * b.toNat, 2, 0)
def tkN (l : List UInt8) : Nat := (tk l).1
def tkZ (l : List UInt8) : Nat := (tk l).2.1
def tkE (l : List UInt8) : Nat := (tk l).2.2
theorem tk_nil : tk [] = (0, 0, 20) := rfl
theorem tk_odd (a : UInt8) (r : List UInt8) (h : a.toNat % 2 = 1) : tk (a :: r) = (a.toNat / 2, 1, 0) := if_pos h
theorem tk_one (a : UInt8) (h : ¬ a.toNat % 2 = 1) : tk [a] = (0, 0, 20) := if_neg h
theorem tk_two (a b : UInt8) (r : List UInt8) (h : ¬ a.toNat % 2 = 1) : tk (a :: b :: r) = (a.toNat / 2 + 128 * b.toNat, 2, 0) := if_neg h
theorem nat_oct (k : Nat) (h : k < 256) : (UInt8.ofNat k).toNat = k := by rw [UInt8.toNat_ofNat']; exact Nat.mod_eq_of_lt h
theorem oct_nat (c : UInt8) : UInt8.ofNat c.toNat = c := by simp
/-- What is written is taken as it was, whatever stands behind. -/
theorem tk_len (n : Int) (s : List UInt8) (h0 : 0 ≤ n) (h1 : n ≤ 32767) : tk ((len n).data.toList ++ s) = (n.toNat, (len n).size, 0) := by
  by_cases h : n < 128
  · rw [len_one h0 h]
    show tk (UInt8.ofNat (2 * n.toNat + 1) :: s) = (n.toNat, 1, 0)
    have hk := nat_oct (2 * n.toNat + 1) (by omega)
    rw [tk_odd _ _ (by rw [hk]; omega), hk]
    congr 1; omega
  · rw [len_two (by omega) h1]
    show tk (UInt8.ofNat (2 * (n.toNat % 128)) :: UInt8.ofNat (n.toNat / 128) :: s) = (n.toNat, 2, 0)
    have hk := nat_oct (2 * (n.toNat % 128)) (by omega)
    have hj := nat_oct (n.toNat / 128) (by omega)
    rw [tk_two _ _ _ (by rw [hk]; omega), hk, hj]
    congr 1; omega
theorem ext_take (s : ByteArray) (k : Nat) : (s.extract 0 k).data.toList = s.data.toList.take k := by simp
/-- What is taken: nothing; one octet, which is written so; two, of less than 128, or which are written so. -/
theorem tk_cases (s : ByteArray) : tk s.data.toList = (0, 0, 20) ∨
    (∃ m : Nat, m < 128 ∧ 1 ≤ s.size ∧ tk s.data.toList = (m, 1, 0) ∧ len m = s.extract 0 1) ∨
    (∃ m : Nat, m < 128 ∧ 2 ≤ s.size ∧ tk s.data.toList = (m, 2, 0)) ∨
    (∃ m : Nat, 128 ≤ m ∧ m ≤ 32767 ∧ 2 ≤ s.size ∧ tk s.data.toList = (m, 2, 0) ∧ len m = s.extract 0 2) := by
  by_cases h0 : s.size = 0
  · obtain rfl := nil_of_size h0
    exact .inl rfl
  have h1 : 0 < s.size := by omega
  have b0 := oct_lt s[0]
  by_cases ho : s[0].toNat % 2 = 1
  · refine .inr (.inl ⟨s[0].toNat / 2, by omega, h1, by rw [cons_of_size h1]; exact tk_odd _ _ ho, ?_⟩)
    rw [len_one (by omega) (by omega)]
    have e : 2 * ((s[0].toNat / 2 : Nat) : Int).toNat + 1 = s[0].toNat := by omega
    rw [e, oct_nat]
    apply ByteArray.ext
    apply Array.ext'
    rw [ext_take, cons_of_size h1]; rfl
  by_cases h2 : s.size = 1
  · exact .inl (by rw [one_of_size h2]; exact tk_one _ ho)
  have h3 : 1 < s.size := by omega
  have b1 := oct_lt s[1]
  have e := tk_two s[0] s[1] (s.data.toList.drop 2) ho
  rw [← cons2_of_size h3] at e
  by_cases hm : s[0].toNat / 2 + 128 * s[1].toNat < 128
  · exact .inr (.inr (.inl ⟨_, hm, h3, e⟩))
  · refine .inr (.inr (.inr ⟨_, by omega, by omega, h3, e, ?_⟩))
    rw [len_two (by omega) (by omega)]
    have e1 : 2 * (((s[0].toNat / 2 + 128 * s[1].toNat : Nat) : Int).toNat % 128) = s[0].toNat := by omega
    have e2 : ((s[0].toNat / 2 + 128 * s[1].toNat : Nat) : Int).toNat / 128 = s[1].toNat := by omega
    rw [e1, e2, oct_nat, oct_nat]
    apply ByteArray.ext
    apply Array.ext'
    rw [ext_take, cons2_of_size h3]; rfl
end Go.Proofs.YtffahjlboakakaaDoor.Ea

/-
  The plain mathematics of layer 21: a gate, the bits of one number; what it was told, word by word. No condition.
-/
import Derived.Test.YtogpfjpjegmkiaaCrMath
namespace Go.Proofs.Ytogpfjpjegmkiaa.Gt
open Go.RowKit Go.Proofs.Ytogpfjpjegmkiaa.Base Go.Proofs.Ytogpfjpjegmkiaa.Mem Go.Proofs.Ytogpfjpjegmkiaa.Cr
/-- A number with one bit turned. -/
def setB (n d : Nat) (y : Bool) : Nat := if y then n ||| 2 ^ d else n &&& (18446744073709551615 - 2 ^ d)
/-- Is it open; the bits of those that are stopped. -/
structure St where
  op : Bool
  n : Nat
def St.st (x : St) (d : Nat) : Bool := x.n.testBit d
structure St.Ok (x : St) : Prop where
  lt : x.n < 18446744073709551616
  b0 : x.st 0 = false
def St.new : St := ⟨true, 0⟩
def St.may (x : St) (d : Nat) : Bool := decide (d = 0) || (decide (d ≤ 63) && x.op && !x.st d)
def St.all (x : St) (y : Bool) : St := ⟨y, x.n⟩
def St.stop (x : St) (d : Nat) (y : Bool) : St := if 0 < d ∧ d ≤ 63 then ⟨x.op, setB x.n d y⟩ else x
/-- Those below k that are stopped. -/
def St.sl (x : St) (k : Nat) : List Nat := (List.range k).filter x.st
/-- A call. -/
structure Ct where
  a : Bool
  d : Nat
  y : Bool
def St.step (x : St) (c : Ct) : St := if c.a then x.all c.y else x.stop c.d c.y
/-- What n calls leave. -/
def run (F : Nat → Ct) : Nat → St
  | 0 => St.new
  | n + 1 => (run F n).step (F n)
theorem p64 : (18446744073709551616 : Nat) = 2 ^ 64 := by decide +kernel
theorem pow_lt {d : Nat} (h : d < 64) : 2 ^ d < 18446744073709551616 := by rw [p64]; exact Nat.pow_lt_pow_right (by decide) h
theorem hi_bit {n : Nat} (hn : n < 18446744073709551616) {j : Nat} (hj : 64 ≤ j) : n.testBit j = false :=
  Nat.testBit_lt_two_pow (Nat.lt_of_lt_of_le (p64 ▸ hn) (Nat.pow_le_pow_right (by decide) hj))
theorem setB_lt {n d : Nat} {y : Bool} (hn : n < 18446744073709551616) (hd : d < 64) : setB n d y < 18446744073709551616 := by
  unfold setB
  split
  · have := Nat.or_lt_two_pow (n := 64) (x := n) (y := 2 ^ d) (p64 ▸ hn) (p64 ▸ pow_lt hd)
    rwa [← p64] at this
  · exact Nat.lt_of_le_of_lt Nat.and_le_left hn
theorem setB_bit {n d : Nat} {y : Bool} (hn : n < 18446744073709551616) (hd : d < 64) (j : Nat) : (setB n d y).testBit j = if j = d then y else n.testBit j := by
  unfold setB
  cases y with
  | true =>
    rw [if_pos rfl, Nat.testBit_or, Nat.testBit_two_pow]
    by_cases e : j = d
    · subst e; rw [if_pos rfl, decide_eq_true rfl, Bool.or_true]
    · rw [if_neg e, decide_eq_false fun h => e h.symm, Bool.or_false]
  | false =>
    have h : 18446744073709551615 - 2 ^ d = 2 ^ 64 - (2 ^ d + 1) := by have := pow_lt hd; have := p64; omega
    rw [if_neg (by decide), h, Nat.testBit_and, Nat.testBit_two_pow_sub_succ (p64 ▸ pow_lt hd), Nat.testBit_two_pow]
    by_cases e : j = d
    · subst e; rw [if_pos rfl, decide_eq_true rfl, Bool.not_true, Bool.and_false, Bool.and_false]
    · have q : decide (d = j) = false := decide_eq_false fun h => e h.symm
      rw [if_neg e, q, Bool.not_false, Bool.and_true]
      by_cases hj : j < 64
      · rw [decide_eq_true hj, Bool.and_true]
      · rw [hi_bit hn (by omega), Bool.false_and]
theorem and_bit (n d : Nat) : (n &&& 2 ^ d = 0) ↔ n.testBit d = false := by
  rw [nat_bit, Nat.testBit_eq_decide_div_mod_eq, decide_eq_false_iff_not]
  have h2 : n / 2 ^ d % 2 = 0 ∨ n / 2 ^ d % 2 = 1 := by omega
  have hp : 0 < 2 ^ d := Nat.pow_pos (by decide)
  rcases h2 with h | h
  · rw [h, Nat.zero_mul]; exact ⟨fun _ e => by omega, fun _ => rfl⟩
  · rw [h, Nat.one_mul]; exact ⟨fun e => by omega, fun e => absurd rfl e⟩
section
variable {x z : St}
theorem St.Ok.new : St.new.Ok := ⟨by decide, by decide⟩
theorem St.Ok.all (h : x.Ok) (y : Bool) : (x.all y).Ok := ⟨h.lt, h.b0⟩
theorem stop_yes {d : Nat} (y : Bool) (hd : 0 < d ∧ d ≤ 63) : x.stop d y = ⟨x.op, setB x.n d y⟩ := if_pos hd
theorem stop_no {d : Nat} (y : Bool) (hd : ¬ (0 < d ∧ d ≤ 63)) : x.stop d y = x := if_neg hd
theorem stop_op (x : St) (d : Nat) (y : Bool) : (x.stop d y).op = x.op := by unfold St.stop; split <;> rfl
theorem stop_st (h : x.Ok) {d : Nat} (y : Bool) (hd : 0 < d ∧ d ≤ 63) (j : Nat) : (x.stop d y).st j = if j = d then y else x.st j := by
  rw [stop_yes y hd]; exact setB_bit h.lt (by omega) j
theorem stop_ne (h : x.Ok) {d : Nat} (y : Bool) {j : Nat} (hj : j ≠ d) : (x.stop d y).st j = x.st j := by
  by_cases hd : 0 < d ∧ d ≤ 63
  · rw [stop_st h y hd, if_neg hj]
  · rw [stop_no y hd]
theorem St.Ok.stop (h : x.Ok) (d : Nat) (y : Bool) : (x.stop d y).Ok := by
  by_cases hd : 0 < d ∧ d ≤ 63
  · refine ⟨?_, ?_⟩
    · rw [stop_yes y hd]; exact setB_lt h.lt (by omega)
    · rw [stop_st h y hd, if_neg (by omega)]; exact h.b0
  · rw [stop_no y hd]; exact h
theorem St.Ok.step (h : x.Ok) (c : Ct) : (x.step c).Ok := by
  unfold St.step
  split
  · exact h.all _
  · exact h.stop _ _
theorem run_ok (F : Nat → Ct) : ∀ n, (run F n).Ok
  | 0 => .new
  | n + 1 => (run_ok F n).step _
theorem sl_next (x : St) (k : Nat) : x.sl (k + 1) = if x.st k then x.sl k ++ [k] else x.sl k := by
  unfold St.sl
  rw [List.range_succ, List.filter_append]
  by_cases h : x.st k = true
  · rw [if_pos h]; simp [h]
  · rw [if_neg h]; simp [h]
theorem sl_len (x : St) : ∀ k, (x.sl k).length ≤ k
  | 0 => Nat.le_refl _
  | k + 1 => by
    have := sl_len x k
    rw [sl_next]
    split
    · simp; omega
    · omega
theorem sl_one (h : x.Ok) : x.sl 1 = [] := by
  rw [sl_next, h.b0]; rfl
theorem sl_lt (x : St) (k : Nat) : ∀ d ∈ x.sl k, d < k := fun d hd => by
  have := List.mem_filter.1 hd
  exact List.mem_range.1 this.1
theorem may_zero (x : St) : x.may 0 = true := rfl
theorem may_hi {d : Nat} (h : 63 < d) : x.may d = false := by
  unfold St.may; rw [decide_eq_false (by omega), decide_eq_false (by omega)]; rfl
theorem may_at {d : Nat} (h : 0 < d) (h' : d ≤ 63) : x.may d = (x.op && !x.st d) := by
  unfold St.may; rw [decide_eq_false (by omega), decide_eq_true h']; simp
theorem may_shut (x : St) (d : Nat) : (x.all false).may d = decide (d = 0) := by
  unfold St.may St.all; simp
/-- To a channel they are alike. -/
structure Alike (d : Nat) (x z : St) : Prop where
  op : x.op = z.op
  st : x.st d = z.st d
theorem Alike.refl (d : Nat) (x : St) : Alike d x x := ⟨rfl, rfl⟩
theorem Alike.may {d : Nat} (h : Alike d x z) : x.may d = z.may d := by unfold St.may; rw [h.op, h.st]
theorem Alike.all {d : Nat} (h : Alike d x z) (y : Bool) : Alike d (x.all y) (z.all y) := ⟨rfl, h.st⟩
theorem Alike.both {d : Nat} (h : Alike d x z) (hx : x.Ok) (hz : z.Ok) (y : Bool) : Alike d (x.stop d y) (z.stop d y) := by
  refine ⟨by rw [stop_op, stop_op]; exact h.op, ?_⟩
  by_cases hd : 0 < d ∧ d ≤ 63
  · rw [stop_st hx y hd, stop_st hz y hd, if_pos rfl, if_pos rfl]
  · rw [stop_no y hd, stop_no y hd]; exact h.st
theorem Alike.other {d : Nat} (h : Alike d x z) (hx : x.Ok) {e : Nat} (he : e ≠ d) (y : Bool) : Alike d (x.stop e y) z :=
  ⟨by rw [stop_op]; exact h.op, by rw [stop_ne hx y fun q => he q.symm]; exact h.st⟩
end
/-- A word that it was told. -/
structure Wd where
  d : Nat
  y : Bool
def wdAt (ws : List Wd) (k : Nat) : Wd := ws.getD k ⟨0, false⟩
/-- What was told last of a channel, by the first k words. -/
def lst (ws : List Wd) (d : Nat) (f : Bool) : Nat → Bool
  | 0 => f
  | k + 1 => if (wdAt ws k).d = d then (wdAt ws k).y else lst ws d f k
def last (ws : List Wd) (d : Nat) (f : Bool) : Bool := lst ws d f ws.length
theorem wdAt_get {ws : List Wd} {k : Nat} (h : k < ws.length) : ws[k]? = some (wdAt ws k) := by
  unfold wdAt; rw [List.getD_eq_getElem?_getD, List.getElem?_eq_getElem h]; rfl
theorem wdAt_app {ws : List Wd} {e : Wd} {k : Nat} (h : k < ws.length) : wdAt (ws ++ [e]) k = wdAt ws k := by
  unfold wdAt; rw [List.getD_eq_getElem?_getD, List.getD_eq_getElem?_getD, List.getElem?_append_left h]
theorem lst_app (ws : List Wd) (e : Wd) (d : Nat) (f : Bool) : ∀ k, k ≤ ws.length → lst (ws ++ [e]) d f k = lst ws d f k
  | 0, _ => rfl
  | k + 1, h => by unfold lst; rw [wdAt_app (by omega), lst_app ws e d f k (by omega)]
theorem last_app (ws : List Wd) (e : Wd) (d : Nat) (f : Bool) : last (ws ++ [e]) d f = if e.d = d then e.y else last ws d f := by
  have h : wdAt (ws ++ [e]) ws.length = e := by unfold wdAt; simp
  unfold last
  rw [List.length_append]
  show lst (ws ++ [e]) d f (ws.length + 1) = _
  unfold lst
  rw [h, lst_app ws e d f _ (Nat.le_refl _)]
  cases ws.length <;> rfl
/-- The words tell this. -/
structure Tells (ws : List Wd) (x : St) : Prop where
  op : last ws 0 true = x.op
  st : ∀ d, 0 < d → d ≤ 63 → last ws d false = x.st d
  fit : ∀ k, (wdAt ws k).d < 256
theorem Tells.new : Tells [] St.new := ⟨rfl, fun d _ _ => (Nat.zero_testBit d).symm, fun _ => Nat.zero_lt_succ _⟩
theorem fit_app {ws : List Wd} (h : ∀ k, (wdAt ws k).d < 256) {e : Wd} (he : e.d < 256) (k : Nat) : (wdAt (ws ++ [e]) k).d < 256 := by
  by_cases hk : k < ws.length
  · rw [wdAt_app hk]; exact h k
  · by_cases e2 : k = ws.length
    · have : wdAt (ws ++ [e]) k = e := by unfold wdAt; subst e2; simp
      rw [this]; exact he
    · have : wdAt (ws ++ [e]) k = ⟨0, false⟩ := by
        unfold wdAt
        rw [List.getD_eq_getElem?_getD, List.getElem?_eq_none (by simp; omega)]; rfl
      rw [this]; decide
section
variable {ws : List Wd} {x : St}
theorem Tells.all (h : Tells ws x) (y : Bool) : Tells (ws ++ [⟨0, y⟩]) (x.all y) :=
  ⟨by rw [last_app]; rfl, fun d h0 h1 => by rw [last_app, if_neg (by show ¬ 0 = d; omega)]; exact h.st d h0 h1, fit_app h.fit (Nat.zero_lt_succ _)⟩
theorem Tells.stop (h : Tells ws x) (hx : x.Ok) {e : Nat} (y : Bool) (he : 0 < e ∧ e ≤ 63) : Tells (ws ++ [⟨e, y⟩]) (x.stop e y) :=
  ⟨by rw [last_app, if_neg (by show ¬ e = 0; omega), stop_op]; exact h.op, fun d h0 h1 => by
    rw [last_app, stop_st hx y he]
    by_cases q : d = e
    · subst q; rw [if_pos rfl, if_pos rfl]
    · rw [if_neg q, if_neg fun q' => q q'.symm]; exact h.st d h0 h1, fit_app h.fit (by show e < 256; omega)⟩
end
end Go.Proofs.Ytogpfjpjegmkiaa.Gt

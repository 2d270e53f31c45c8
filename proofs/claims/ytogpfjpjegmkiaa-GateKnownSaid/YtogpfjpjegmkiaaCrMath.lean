/-
  The plain mathematics of layer 17: a purse, a till, what is done to them; a block that holds its cells, a call that turns one block. No condition.
-/
import Derived.Test.YtogpfjpjegmkiaaChg
namespace Go.Proofs.Ytogpfjpjegmkiaa.Cr
open Go.RowKit Go.Proofs.Ytogpfjpjegmkiaa.Base Go.Proofs.Ytogpfjpjegmkiaa.Mem
/-- What is answered: no number of bytes; more than there is; none of both. -/
def fit (n m : Int) : Int := if n < 0 then 2 else if m < n then 3 else 0
def roomOf (n : Int) : Int := min (max n 1) 4096
/-- A purse: its room, what is left. -/
structure Pu where
  r : Int
  l : Int
/-- A till: its room, what it holds, what it owes. -/
structure Ti where
  r : Int
  h : Int
  o : Int
structure Pu.Ok (x : Pu) : Prop where
  r1 : 1 ≤ x.r
  r2 : x.r ≤ 4096
  l0 : 0 ≤ x.l
  l1 : x.l ≤ x.r
structure Ti.Ok (x : Ti) : Prop where
  r1 : 1 ≤ x.r
  r2 : x.r ≤ 4096
  h0 : 0 ≤ x.h
  o0 : 0 ≤ x.o
  s : x.h + x.o ≤ x.r
def newP (n : Int) : Pu := ⟨roomOf n, roomOf n⟩
def newT (n : Int) : Ti := ⟨roomOf n, 0, 0⟩
def Pu.use (x : Pu) (n : Int) : Pu := if fit n x.l = 0 then ⟨x.r, x.l - n⟩ else x
def Pu.grant (x : Pu) (n : Int) : Pu := if fit n (x.r - x.l) = 0 then ⟨x.r, x.l + n⟩ else x
def Ti.come (x : Ti) (n : Int) : Ti := if fit n (x.r - x.o - x.h) = 0 then ⟨x.r, x.h + n, x.o⟩ else x
def Ti.read (x : Ti) (n : Int) : Ti := if fit n x.h = 0 then ⟨x.r, x.h - n, x.o + n⟩ else x
def Ti.pay (x : Ti) : Ti := ⟨x.r, x.h, 0⟩
theorem fit_cases (n m : Int) : (n < 0 ∧ fit n m = 2) ∨ (0 ≤ n ∧ m < n ∧ fit n m = 3) ∨ (0 ≤ n ∧ n ≤ m ∧ fit n m = 0) := by
  unfold fit
  by_cases h : n < 0
  · exact .inl ⟨h, if_pos h⟩
  · by_cases h2 : m < n
    · exact .inr (.inl ⟨by omega, h2, by rw [if_neg h, if_pos h2]⟩)
    · exact .inr (.inr ⟨by omega, by omega, by rw [if_neg h, if_neg h2]⟩)
theorem fit0 {n m : Int} (h : fit n m = 0) : 0 ≤ n ∧ n ≤ m := by
  rcases fit_cases n m with ⟨_, e⟩ | ⟨_, _, e⟩ | ⟨a, b, _⟩
  · omega
  · omega
  · exact ⟨a, b⟩
theorem roomOf_ok (n : Int) : 1 ≤ roomOf n ∧ roomOf n ≤ 4096 := by unfold roomOf; omega
theorem newP_ok (n : Int) : (newP n).Ok := ⟨(roomOf_ok n).1, (roomOf_ok n).2, by have := roomOf_ok n; unfold newP; show (0 : Int) ≤ roomOf n; omega, Int.le_refl _⟩
theorem newT_ok (n : Int) : (newT n).Ok := ⟨(roomOf_ok n).1, (roomOf_ok n).2, Int.le_refl _, Int.le_refl _, by have := roomOf_ok n; show (0 : Int) + 0 ≤ roomOf n; omega⟩
theorem Pu.Ok.use {x : Pu} (h : x.Ok) (n : Int) : (x.use n).Ok := by
  unfold Pu.use
  split
  · next e => obtain ⟨a, b⟩ := fit0 e; exact ⟨h.r1, h.r2, by show 0 ≤ x.l - n; omega, by have := h.l1; show x.l - n ≤ x.r; omega⟩
  · exact h
theorem Pu.Ok.grant {x : Pu} (h : x.Ok) (n : Int) : (x.grant n).Ok := by
  unfold Pu.grant
  split
  · next e => obtain ⟨a, b⟩ := fit0 e; exact ⟨h.r1, h.r2, by have := h.l0; show 0 ≤ x.l + n; omega, by show x.l + n ≤ x.r; omega⟩
  · exact h
theorem Ti.Ok.come {x : Ti} (h : x.Ok) (n : Int) : (x.come n).Ok := by
  unfold Ti.come
  split
  · next e => obtain ⟨a, b⟩ := fit0 e; exact ⟨h.r1, h.r2, by have := h.h0; show 0 ≤ x.h + n; omega, h.o0, by show x.h + n + x.o ≤ x.r; omega⟩
  · exact h
theorem Ti.Ok.read {x : Ti} (h : x.Ok) (n : Int) : (x.read n).Ok := by
  unfold Ti.read
  split
  · next e => obtain ⟨a, b⟩ := fit0 e; exact ⟨h.r1, h.r2, by show 0 ≤ x.h - n; omega, by have := h.o0; show 0 ≤ x.o + n; omega, by have := h.s; show x.h - n + (x.o + n) ≤ x.r; omega⟩
  · exact h
theorem Ti.Ok.pay {x : Ti} (h : x.Ok) : x.pay.Ok := ⟨h.r1, h.r2, h.h0, Int.le_refl _, by have := h.s; have := h.o0; show x.h + 0 ≤ x.r; omega⟩
/-- A block holds these cells. -/
def At (w : World) (b : Nat) (cs : Array Value) (t : TypeId) : Prop := w.heap[b]? = some (.cells cs t (0, 0))
/-- What a call leaves: that block so, all else as it was. -/
structure Do (b : Nat) (cs : Array Value) (t : TypeId) (w w' : World) : Prop where
  at_ : At w' b cs t
  chg : Chg (fun k => k = b) w w'
section
variable {w w' w1 : World} {b : Nat} {cs ds : Array Value} {t : TypeId}
theorem At.lt (h : At w b cs t) : b < w.heap.size := lt_heap h
theorem At.free (h : At w b cs t) : ∀ i, w.frozen? ⟨b, i, none⟩ = false := fun _ => free_of h
theorem At.cell (h : At w b cs t) (i : Nat) (u : Value) (hu : cs[i]? = some u) : w.cell? ⟨b, i, none⟩ = some u := cell_of h hu
theorem At.below (h : At w b cs t) (hb : Below w.heap.size w w') : At w' b cs t := stays h hb
theorem At.other {S : Nat → Prop} (h : At w b cs t) (hc : Chg S w w') (hn : ¬ S b) : At w' b cs t := hc.stays h hn
theorem At.set (h : At w b cs t) (i : Nat) (u : Value) : At (w.setCell ⟨b, i, none⟩ u) b (cs.setIfInBounds i u) t := block_set (i := i) h u
theorem Do.refl (h : At w b cs t) : Do b cs t w w := ⟨h, Chg.refl _ _⟩
theorem Do.set (h : Do b cs t w w1) (i : Nat) (u : Value) : Do b (cs.setIfInBounds i u) t w (w1.setCell ⟨b, i, none⟩ u) := ⟨h.at_.set i u, h.chg.setCell b i u fun _ => rfl⟩
theorem Do.cast (h : Do b cs t w w1) (e : cs = ds) : Do b ds t w w1 := e ▸ h
theorem Do.then (h : Do b cs t w w') (h' : Do b ds t w' w1) : Do b ds t w w1 := ⟨h'.at_, h.chg.then h'.chg⟩
end
abbrev im (n : Int) : Value := .int .i64 n
end Go.Proofs.Ytogpfjpjegmkiaa.Cr

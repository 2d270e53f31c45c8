/-
  What becomes of bytes by a damage, in plain words of lists; how a line of pieces goes on. No condition.
-/
import Derived.Test.YtkoaplmlabagnaaBase
namespace Go.Proofs.Ytkoaplmlabagnaa.Ln
/-- A damage. -/
structure Dm where
  k : Nat
  i : Int
  b : Nat
  n : Int
/-- What a number counts as. -/
def cnt (n : Int) : Nat := if n ≤ 0 then 0 else if 255 ≤ n then 255 else n.toNat
theorem cnt_le (n : Int) : cnt n ≤ 255 := by unfold cnt; split <;> (try split) <;> omega
theorem cnt_eq (n : Int) : ((cnt n : Nat) : Int) = min (max n 0) 255 := by unfold cnt; split <;> (try split) <;> omega
def cut (l : List UInt8) (a n : Nat) : List UInt8 := l.take a ++ l.drop (a + n)
def put (l : List UInt8) (a : Nat) (u : List UInt8) : List UInt8 := l.take a ++ u ++ l.drop a
def turn (l : List UInt8) (a b : Nat) : List UInt8 := l.set a (UInt8.ofNat ((l.getD a 0).toNat ^^^ b))
/-- A text, damaged. -/
def dmg (d : Dm) (l : List UInt8) : List UInt8 :=
  if d.k = 1 then (if d.i < 0 ∨ (l.length : Int) ≤ d.i then l else cut l d.i.toNat (min (cnt d.n) (l.length - d.i.toNat)))
  else if d.k = 2 then (if 0 ≤ d.i ∧ d.i < (l.length : Int) then turn l d.i.toNat d.b else l)
  else if d.k = 3 then (if d.i < 0 ∨ (l.length : Int) < d.i then l else put l d.i.toNat (List.replicate (cnt d.n) (UInt8.ofNat d.b)))
  else if d.k = 4 then [] else l
def dmgs (ds : List Dm) (l : List UInt8) : List UInt8 := ds.foldl (fun l d => dmg d l) l
theorem dmg_len (d : Dm) (l : List UInt8) : (dmg d l).length ≤ l.length + 255 := by
  have hc := cnt_le d.n
  unfold dmg cut put turn
  split
  · split
    · omega
    · simp; omega
  · split
    · split
      · simp
      · omega
    · split
      · split
        · omega
        · simp; omega
      · split
        · simp
        · omega
theorem dmgs_len : ∀ (ds : List Dm) (l : List UInt8), (dmgs ds l).length ≤ l.length + 255 * ds.length
  | [], l => by simp [dmgs]
  | d :: r, l => by
    have h1 := dmg_len d l
    have h2 := dmgs_len r (dmg d l)
    simp only [dmgs, List.foldl_cons, List.length_cons] at h2 ⊢
    omega
theorem dmgs_snoc (ds : List Dm) (d : Dm) (l : List UInt8) : dmgs (ds ++ [d]) l = dmg d (dmgs ds l) := by simp [dmgs]
/-- What a line hands over, and what it keeps. -/
def hand (n : Int) : List (List UInt8) → List UInt8 × List (List UInt8)
  | [] => ([], [])
  | p :: r => if n < 1 ∨ (p.length : Int) ≤ n then (p, r) else (p.take n.toNat, p.drop n.toNat :: r)
theorem hand_cons (n : Int) (p : List UInt8) (r : List (List UInt8)) : hand n (p :: r) = if n < 1 ∨ (p.length : Int) ≤ n then (p, r) else (p.take n.toNat, p.drop n.toNat :: r) := rfl
/-- What a line keeps of a piece that is sent. -/
def send (p : List UInt8) (l : List (List UInt8)) : List (List UInt8) := if p = [] then l else l ++ [p]
/-- How many bytes wait. -/
def waits (l : List (List UInt8)) : Nat := l.flatten.length
theorem hand_flat (n : Int) (l : List (List UInt8)) : (hand n l).1 ++ (hand n l).2.flatten = l.flatten := by
  cases l with
  | nil => rfl
  | cons p r =>
    rw [hand_cons]
    split
    · rfl
    · simp only [List.flatten_cons]
      rw [← List.append_assoc, List.take_append_drop]
theorem send_flat (p : List UInt8) (l : List (List UInt8)) : (send p l).flatten = l.flatten ++ p := by
  unfold send
  split
  · rename_i h; rw [h, List.append_nil]
  · simp
/-- No piece is empty. -/
def Full (l : List (List UInt8)) : Prop := ∀ p ∈ l, p ≠ []
theorem full_hand {n : Int} {l : List (List UInt8)} (h : Full l) : Full (hand n l).2 := by
  cases l with
  | nil => exact fun p hp => by cases hp
  | cons q r =>
    rw [hand_cons]
    split
    · exact fun p hp => h p (List.mem_cons_of_mem _ hp)
    · rename_i hc
      intro p hp
      rcases List.mem_cons.1 hp with rfl | hp
      · intro e
        have : (q.drop n.toNat).length = 0 := by rw [e]; rfl
        rw [List.length_drop] at this
        omega
      · exact h p (List.mem_cons_of_mem _ hp)
theorem full_send {p : List UInt8} {l : List (List UInt8)} (h : Full l) : Full (send p l) := by
  unfold send
  split
  · exact h
  · rename_i hp
    intro q hq
    rcases List.mem_append.1 hq with hq | hq
    · exact h q hq
    · rw [List.mem_singleton] at hq
      rw [hq]; exact hp
theorem hand_len (n : Int) (l : List (List UInt8)) : (hand n l).2.length ≤ l.length := by
  cases l with
  | nil => exact Nat.le_refl _
  | cons q r =>
    rw [hand_cons]
    split
    · simp
    · simp
theorem send_len (p : List UInt8) (l : List (List UInt8)) : (send p l).length ≤ l.length + 1 := by
  unfold send
  split
  · omega
  · simp
theorem hand_nil {n : Int} {l : List (List UInt8)} (h : Full l) : (hand n l).1 = [] ↔ waits l = 0 := by
  cases l with
  | nil => simp [hand, waits]
  | cons q r =>
    have hq := h q (List.mem_cons_self ..)
    have hq0 : 0 < q.length := List.length_pos_iff.2 hq
    have hw : waits (q :: r) ≠ 0 := by
      unfold waits
      rw [List.flatten_cons, List.length_append]
      omega
    refine ⟨fun e => ?_, fun e => absurd e hw⟩
    exfalso
    rw [hand_cons] at e
    split at e
    · exact hq e
    · rename_i hc
      have e2 : q.take n.toNat = [] := e
      have : (q.take n.toNat).length = 0 := by rw [e2]; rfl
      rw [List.length_take] at this
      omega
theorem hand_waits (n : Int) (l : List (List UInt8)) : waits (hand n l).2 + (hand n l).1.length = waits l := by
  unfold waits
  rw [← hand_flat n l, List.length_append]
  omega
theorem hand0 (p : List UInt8) (r : List (List UInt8)) : hand 0 (p :: r) = (p, r) := by rw [hand_cons, if_pos (Or.inl (by decide))]
end Go.Proofs.Ytkoaplmlabagnaa.Ln

/-
  The program's own side of layer 15, plain: numbers modulo 8, what waits alone; and that it goes with the side whose numbers never go round. No condition but that the side is in order.
-/
import Derived.Test.YtkoaplmlabagnaaAqMath
namespace Go.Proofs.Ytkoaplmlabagnaa.Aq
open Go.Proofs.Ytkoaplmlabagnaa.Base Go.Proofs.Ytkoaplmlabagnaa.Mem
/-- The program's own side. -/
structure Ps where
  va : Nat
  vr : Nat
  out : Nat
  tr : Nat
  lf : Nat
  pb : Bool
  bu : Bool
  rj : Bool
  ak : Bool
  wa : Bool
  fl : Bool
  k : Nat
  n2 : Nat
  t1 : Nat
  q : List ByteArray
  hi : Nat
  due : Bool
  fin : Bool
  rej : Bool
  poll : Bool
namespace Ps
def of (x : Sd) : Ps := ⟨x.a % 8, x.g % 8, x.s - x.a, x.tr, x.lf, x.pb, x.bu, x.rj, x.ak, x.wa, x.fl, x.k, x.n2, x.t1, x.p.drop x.a, x.T - x.a, x.due, x.fin, x.rej, x.poll⟩
def new (k n2 t1 : Nat) : Ps := ⟨0, 0, 0, 0, 0, false, false, false, false, false, false, k, n2, t1, [], 0, false, false, false, false⟩
def counts (y : Ps) : Bool := decide (0 < y.out) || y.ak || y.wa || (y.pb && decide (0 < y.q.length))
def count (anew : Bool) (y : Ps) : Ps := if counts y = false then { y with lf := 0 } else if anew = true ∨ y.lf = 0 then { y with lf := y.t1 } else y
def push (i : ByteArray) (y : Ps) : Ps × Nat := if y.fl = true then (y, 4) else if y.k ≤ y.q.length then (y, 3) else (count false { y with q := y.q ++ [i] }, 0)
def may (y : Ps) : Bool := !y.pb && !y.ak && decide (y.out < y.q.length)
def has (y : Ps) : Bool := !y.fl && (y.due || y.poll || may y)
def kind (y : Ps) : Nat := if y.bu = true then 9 else 8
def takeAnswer (y : Ps) : Ps × Fm := ({ y with due := false, fin := false, rej := false }, ⟨false, if y.rej = true ∧ y.bu = false then 10 else kind y, y.fin, 0, y.vr, bE⟩)
def takePoll (y : Ps) : Ps × Fm := ({ y with poll := false }, ⟨true, kind y, true, 0, y.vr, bE⟩)
def takeInfo (y : Ps) : Ps × Fm := ({ y with out := y.out + 1, hi := max y.hi (y.out + 1) }, ⟨true, 7, false, (y.va + y.out) % 8, y.vr, y.q.getD y.out bE⟩)
def takeDue (y : Ps) : Ps × Fm := if y.due = true then takeAnswer y else if y.poll = true then takePoll y else takeInfo y
def next (y : Ps) : Ps × Fm × Bool := if has y = true then (count false (takeDue y).1, (takeDue y).2, true) else (y, noFm, false)
def fail (y : Ps) : Ps := { y with fl := true, lf := 0 }
def ack (n : Nat) (y : Ps) : Ps := if n = 0 then y else { y with q := y.q.drop n, va := (y.va + n) % 8, out := y.out - n, hi := y.hi - n, tr := 0 }
def info (f : Fm) (y : Ps) : Ps × Am :=
  if f.ns % 8 = y.vr then (if y.bu = true then ({ y with due := true }, noAm) else ({ y with vr := (y.vr + 1) % 8, rj := false, due := true, rej := false }, ⟨f.i, true, 0, false⟩))
  else if y.rj = false ∧ y.bu = false then ({ y with rj := true, due := true, rej := true }, noAm) else (y, noAm)
def kinds (f : Fm) (y : Ps) : Ps × Am :=
  if f.k = 7 then info f y else if f.k = 9 then ({ y with pb := true, out := 0 }, noAm) else if f.k = 10 then ({ y with out := 0, pb := false }, noAm) else if f.k = 8 then ({ y with pb := false }, noAm) else (y, noAm)
def bit (f : Fm) (y : Ps) : Ps := if f.pf = true ∧ f.c = true then { y with due := true, fin := true } else if f.pf = true ∧ y.ak = true then { y with ak := false, poll := false, tr := 0, out := 0 } else y
/-- How far an N(R) lies ahead. -/
def far (y : Ps) (nr : Nat) : Nat := (nr % 8 + 8 - y.va) % 8
def hear (f : Fm) (y : Ps) : Ps × Am :=
  if y.fl = true ∨ f.k < 7 ∨ 10 < f.k then (y, noAm)
  else if y.hi < far y f.nr then (fail y, ⟨bE, false, 0, true⟩)
  else (count (decide (0 < far y f.nr)) (bit f (kinds f (ack (far y f.nr) y)).1), { (kinds f (ack (far y f.nr) y)).2 with acked := far y f.nr })
def setBusy (b : Bool) (y : Ps) : Ps := if y.fl = false ∧ b ≠ y.bu then { y with bu := b, due := true } else y
def setWant (b : Bool) (y : Ps) : Ps := if y.fl = true then y else count false { y with wa := b }
def tick (y : Ps) : Ps × Am :=
  if y.fl = true ∨ y.lf = 0 then (y, noAm)
  else if 1 < y.lf then ({ y with lf := y.lf - 1 }, noAm)
  else
    let tr := if 0 < y.out ∨ y.ak = true then y.tr + 1 else y.tr
    if y.n2 < tr then ({ y with lf := 0, tr := tr, fl := true }, ⟨bE, false, 0, true⟩)
    else ({ y with lf := y.t1, tr := tr, ak := true, poll := true }, noAm)
end Ps
/-- A side is in order: its numbers stand as they must, and ticks are counted just where they are to be. -/
structure Ord (x : Sd) : Prop where
  hs : x.a ≤ x.s
  sT : x.s ≤ x.T
  tp : x.T ≤ x.p.length
  pk : x.p.length ≤ x.a + x.k
  k : x.k ≤ 7
  t1p : 1 ≤ x.t1
  lf : x.fl = false → (counts x = true ↔ 0 < x.lf)
theorem counts_of (x : Sd) : Ps.counts (Ps.of x) = counts x := by
  unfold Ps.counts counts Ps.of
  dsimp only
  rw [Bool.eq_iff_iff]
  simp only [Bool.or_eq_true, Bool.and_eq_true, decide_eq_true_eq, List.length_drop]
  constructor <;> rintro (((h | h) | h) | ⟨h, h'⟩)
  all_goals first
    | exact Or.inl (Or.inl (Or.inl (by omega)))
    | exact Or.inl (Or.inl (Or.inr h))
    | exact Or.inl (Or.inr h)
    | exact Or.inr ⟨h, by omega⟩
theorem count_of (b : Bool) (x : Sd) (h : x.fl = false) : Ps.count b (Ps.of x) = Ps.of (cnt b x) := by
  unfold Ps.count cnt
  rw [counts_of, if_neg (show ¬ x.fl = true by rw [h]; decide)]
  by_cases hc : counts x = true
  · rw [if_neg (show ¬ counts x = false by rw [hc]; decide), if_pos hc]
    by_cases hl : x.lf = 0 ∨ b = true
    · rw [if_pos (by show b = true ∨ x.lf = 0; exact hl.symm), if_pos hl]; rfl
    · rw [if_neg (by show ¬ (b = true ∨ x.lf = 0); exact fun e => hl e.symm), if_neg hl]
  · rw [if_pos (show counts x = false by simpa using hc), if_neg hc]; rfl
theorem drop_app {α : Type} (l : List α) (i : α) (a : Nat) (h : a ≤ l.length) : (l ++ [i]).drop a = l.drop a ++ [i] := by
  rw [List.drop_append_of_le_length h]
theorem push_of (i : ByteArray) (x : Sd) (h : Ord x) : Ps.push i (Ps.of x) = (Ps.of (push i x).1, (push i x).2) := by
  unfold Ps.push push
  have hq : (Ps.of x).q.length = x.p.length - x.a := by simp [Ps.of]
  have h1 := h.hs
  have h2 := h.sT
  have h3 := h.tp
  by_cases hf : x.fl = true
  · rw [if_pos (by exact hf), if_pos hf]
  rw [if_neg (by exact hf), if_neg hf, hq]
  by_cases hk : x.k ≤ x.p.length - x.a
  · rw [if_pos (by exact hk), if_pos hk]
  rw [if_neg (by exact hk), if_neg hk]
  dsimp only
  rw [← count_of false _ (by simpa using hf)]
  congr 2
  unfold Ps.of
  dsimp only
  rw [drop_app _ _ _ (by omega)]
theorem may_of (x : Sd) (h : Ord x) : Ps.may (Ps.of x) = more x := by
  unfold Ps.may more Ps.of
  dsimp only
  congr 1
  rw [Bool.eq_iff_iff, decide_eq_true_eq, decide_eq_true_eq, List.length_drop]
  have h1 := h.hs
  have h2 := h.sT
  have h3 := h.tp
  omega
theorem has_of (x : Sd) (h : Ord x) : Ps.has (Ps.of x) = has x := by
  unfold Ps.has has
  rw [may_of x h]; rfl
theorem next_of (x : Sd) (h : Ord x) : Ps.next (Ps.of x) = (Ps.of (next x).1, (next x).2) := by
  unfold Ps.next next
  rw [has_of x h]
  have h1 := h.hs
  have h2 := h.sT
  have h3 := h.tp
  by_cases hf : x.fl = true
  · rw [if_neg (by simp [has, hf]), if_pos hf]
  have hf2 : x.fl = false := by simpa using hf
  rw [if_neg hf]
  by_cases hd : x.due = true
  · rw [if_pos (by simp [has, hf2, hd]), if_pos hd]
    unfold Ps.takeDue
    rw [if_pos (by exact hd)]
    unfold Ps.takeAnswer
    dsimp only
    rw [← count_of false { x with due := false, fin := false, rej := false } hf2]
    refine Prod.ext rfl (Prod.ext ?_ rfl)
    show (⟨_, _, _, _, _, _⟩ : Fm) = _
    congr 1
    unfold Ps.kind
    show (if x.rej = true ∧ x.bu = false then 10 else if x.bu = true then 9 else 8) = _
    cases x.bu <;> cases x.rej <;> rfl
  rw [if_neg hd]
  have hd2 : x.due = false := by simpa using hd
  by_cases hp : x.poll = true
  · rw [if_pos (by simp [has, hf2, hp]), if_pos hp]
    unfold Ps.takeDue
    rw [if_neg (by exact hd), if_pos (by exact hp)]
    unfold Ps.takePoll
    dsimp only
    rw [← count_of false { x with poll := false } hf2]
    rfl
  rw [if_neg hp]
  have hp2 : x.poll = false := by simpa using hp
  by_cases hm : more x = true
  · rw [if_pos (by simp [has, hf2, hm]), if_pos hm]
    unfold Ps.takeDue
    rw [if_neg (by exact hd), if_neg (by exact hp)]
    unfold Ps.takeInfo
    dsimp only
    rw [← count_of false { x with s := x.s + 1, T := max x.T (x.s + 1) } hf2]
    refine Prod.ext ?_ (Prod.ext ?_ rfl)
    · dsimp only
      refine congrArg (Ps.count false) ?_
      unfold Ps.of
      dsimp only
      rw [show x.s + 1 - x.a = x.s - x.a + 1 by omega, show max x.T (x.s + 1) - x.a = max (x.T - x.a) (x.s - x.a + 1) by omega]
    · show (⟨true, 7, false, (x.a % 8 + (x.s - x.a)) % 8, x.g % 8, (x.p.drop x.a).getD (x.s - x.a) bE⟩ : Fm) = ⟨true, 7, false, x.s % 8, x.g % 8, x.p.getD x.s bE⟩
      rw [show (x.a % 8 + (x.s - x.a)) % 8 = x.s % 8 by omega, List.getD_eq_getElem?_getD, List.getElem?_drop, show x.a + (x.s - x.a) = x.s by omega, ← List.getD_eq_getElem?_getD]
  · rw [if_neg (by simp [has, hf2, hd2, hp2, hm]), if_neg hm]
theorem seek_far (nr : Nat) : ∀ (m n : Nat), m ≤ 8 → seek nr n m = if (nr % 8 + 8 - n % 8) % 8 < m then some (n + (nr % 8 + 8 - n % 8) % 8) else none
  | 0, n, _ => by rw [if_neg (Nat.not_lt_zero _)]; rfl
  | m + 1, n, h => by
    unfold seek
    by_cases he : n % 8 = nr % 8
    · rw [if_pos he, if_pos (by omega)]
      congr 1; omega
    · rw [if_neg he, seek_far nr m (n + 1) (by omega)]
      by_cases hl : (nr % 8 + 8 - n % 8) % 8 < m + 1
      · rw [if_pos hl, if_pos (by omega)]
        congr 1; omega
      · rw [if_neg hl, if_neg (by omega)]
theorem ackd_far (x : Sd) (h : Ord x) (nr : Nat) : ackd x nr = if x.T - x.a < Ps.far (Ps.of x) nr then none else some (x.a + Ps.far (Ps.of x) nr) := by
  have h1 := h.hs
  have h2 := h.sT
  have h3 := h.tp
  have h4 := h.pk
  have h5 := h.k
  unfold ackd
  rw [seek_far nr _ _ (by omega)]
  show _ = if x.T - x.a < (nr % 8 + 8 - x.a % 8) % 8 then none else some (x.a + (nr % 8 + 8 - x.a % 8) % 8)
  by_cases hl : x.T - x.a < (nr % 8 + 8 - x.a % 8) % 8
  · rw [if_pos hl, if_neg (by omega)]
  · rw [if_neg hl, if_pos (by omega)]
theorem ack_of (x : Sd) (n : Nat) (h : Ord x) (hn : n ≤ x.T - x.a) : Ps.ack n (Ps.of x) = Ps.of (hear1 (x.a + n) x) := by
  have h1 := h.hs
  have h2 := h.sT
  unfold Ps.ack hear1
  by_cases h0 : n = 0
  · subst h0
    rw [if_pos rfl]
    unfold Ps.of
    dsimp only
    rw [if_neg (by omega), show max x.s (x.a + 0) = x.s by omega]
    rfl
  · rw [if_neg h0]
    unfold Ps.of
    dsimp only
    rw [if_pos (by omega), List.drop_drop, show max x.s (x.a + n) - (x.a + n) = x.s - x.a - n by omega, show (x.a % 8 + n) % 8 = (x.a + n) % 8 by omega, show x.T - (x.a + n) = x.T - x.a - n by omega]
set_option maxHeartbeats 2000000 in
theorem kinds_of (f : Fm) (y : Sd) (n : Nat) (hk : f.k = 7 ∨ f.k = 8 ∨ f.k = 9 ∨ f.k = 10) :
    let z := if f.k = 7 then take f (hear4 f (hear3 f (hear2 f y))) ⟨bE, false, n, false⟩ else (hear4 f (hear3 f (hear2 f y)), ⟨bE, false, n, false⟩)
    Ps.bit f (Ps.kinds f (Ps.of y)).1 = Ps.of (hear5 f z.1) ∧ z.2 = { (Ps.kinds f (Ps.of y)).2 with acked := n } ∧ (hear5 f z.1).fl = y.fl := by
  obtain ⟨c, k, pf, ns, nr, i⟩ := f
  obtain ⟨yk, yn2, yt1, yp, ya, ys, yT, yg, due, fin, rej, poll, pb, bu, rj, ak, fl, wa, tr, lf⟩ := y
  dsimp only at hk ⊢
  have hm : (yg % 8 + 1) % 8 = (yg + 1) % 8 := by omega
  rcases hk with rfl | rfl | rfl | rfl
  · by_cases hns : ns % 8 = yg % 8
    · cases bu <;> cases ak <;> cases pf <;> cases c <;> simp [hear2, hear3, hear4, hear5, take, Ps.bit, Ps.kinds, Ps.info, Ps.of, noAm, hns, hm]
    · cases rj <;> cases bu <;> cases ak <;> cases pf <;> cases c <;> simp [hear2, hear3, hear4, hear5, take, Ps.bit, Ps.kinds, Ps.info, Ps.of, noAm, hns]
  all_goals (cases ak <;> cases pf <;> cases c <;> simp [hear2, hear3, hear4, hear5, Ps.bit, Ps.kinds, Ps.of, noAm])
theorem hear_of (f : Fm) (x : Sd) (h : Ord x) : Ps.hear f (Ps.of x) = (Ps.of (hear f x).1, (hear f x).2) := by
  unfold Ps.hear hear
  by_cases hf : x.fl = true ∨ (f.k ≠ 7 ∧ f.k ≠ 8 ∧ f.k ≠ 9 ∧ f.k ≠ 10)
  · rw [if_pos hf, if_pos (by
      rcases hf with hf | hf
      · exact Or.inl hf
      · exact Or.inr (by omega))]
  rw [if_neg hf, if_neg (by
    rintro (e | e)
    · exact hf (Or.inl e)
    · exact hf (Or.inr (by omega)))]
  have hfl : x.fl = false := by simpa using fun e => hf (Or.inl e)
  have hk : f.k = 7 ∨ f.k = 8 ∨ f.k = 9 ∨ f.k = 10 := by
    have := fun e => hf (Or.inr e); omega
  rw [ackd_far x h f.nr]
  generalize hn : Ps.far (Ps.of x) f.nr = n
  by_cases hl : x.T - x.a < n
  · rw [if_pos hl, if_pos (by exact hl)]; rfl
  rw [if_neg hl, if_neg (by exact hl)]
  have hl : n ≤ x.T - x.a := by omega
  dsimp only
  rw [ack_of x n h hl, show x.a + n - x.a = n by omega]
  have e1 : (hear1 (x.a + n) x).fl = false := hfl
  generalize hear1 (x.a + n) x = y at e1
  obtain ⟨g1, g2, g3⟩ := kinds_of f y n hk
  rw [g1, g2, ← count_of _ _ (g3.trans e1)]
theorem tick_of (x : Sd) : Ps.tick (Ps.of x) = (Ps.of (tick x).1, (tick x).2) := by
  unfold Ps.tick tick
  by_cases hf : x.fl = true ∨ x.lf = 0
  · rw [if_pos hf, if_pos (by exact hf)]
  rw [if_neg hf, if_neg (by exact hf)]
  by_cases h1 : 1 < x.lf
  · rw [if_pos h1, if_pos (by exact h1)]; rfl
  rw [if_neg h1, if_neg (by exact h1)]
  dsimp only
  have ho : (0 < (Ps.of x).out ∨ (Ps.of x).ak = true) ↔ (x.a < x.s ∨ x.ak = true) := by
    show (0 < x.s - x.a ∨ x.ak = true) ↔ _
    constructor <;> (rintro (e | e); exact Or.inl (by omega); exact Or.inr e)
  have hi : (if 0 < (Ps.of x).out ∨ (Ps.of x).ak = true then (Ps.of x).tr + 1 else (Ps.of x).tr) = if x.a < x.s ∨ x.ak = true then x.tr + 1 else x.tr := by
    by_cases h : x.a < x.s ∨ x.ak = true
    · rw [if_pos h, if_pos (ho.2 h)]; rfl
    · rw [if_neg h, if_neg fun e => h (ho.1 e)]; rfl
  rw [hi]
  generalize (if x.a < x.s ∨ x.ak = true then x.tr + 1 else x.tr) = tr
  by_cases hn : x.n2 < tr
  · rw [if_pos hn, if_pos (by exact hn)]; rfl
  · rw [if_neg hn, if_neg (by exact hn)]; rfl
theorem setWant_of (b : Bool) (x : Sd) : Ps.setWant b (Ps.of x) = Ps.of (setWant b x) := by
  unfold Ps.setWant setWant
  by_cases hf : x.fl = true
  · rw [if_pos hf, if_pos (by exact hf)]
  · rw [if_neg hf, if_neg (by exact hf), ← count_of _ _ (by simpa using hf)]; rfl
/-- Where ticks are counted as they must be, counting once again changes nothing. -/
theorem cnt_idle (x : Sd) (hf : x.fl = false) (h : counts x = true ↔ 0 < x.lf) : cnt false x = x := by
  unfold cnt
  rw [if_neg (by rw [hf]; decide)]
  by_cases hc : counts x = true
  · rw [if_pos hc, if_neg (by have := h.1 hc; rintro (e | e); omega; cases e)]
  · rw [if_neg hc]
    have : x.lf = 0 := by
      rcases Nat.eq_zero_or_pos x.lf with e | e
      · exact e
      · exact absurd (h.2 e) hc
    rw [← this]
theorem setBusy_of (b : Bool) (x : Sd) (h : Ord x) : Ps.setBusy b (Ps.of x) = Ps.of (setBusy b x) := by
  unfold Ps.setBusy setBusy
  by_cases hf : x.fl = true ∨ b = x.bu
  · rw [if_pos hf, if_neg (by
      rintro ⟨e1, e2⟩
      rcases hf with hf | hf
      · have e1 : x.fl = false := e1
        rw [e1] at hf; cases hf
      · exact e2 hf)]
  · have hfl : x.fl = false := by simpa using fun e => hf (Or.inl e)
    rw [if_neg hf, if_pos (⟨hfl, fun e => hf (Or.inr e)⟩), cnt_idle { x with bu := b, due := true } hfl (h.lf hfl)]; rfl
end Go.Proofs.Ytkoaplmlabagnaa.Aq

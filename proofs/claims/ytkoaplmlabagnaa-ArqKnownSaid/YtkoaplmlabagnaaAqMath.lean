/-
  The plain mathematics of layer 15: a side of a channel, with numbers that never go round; what each call leaves and answers; two sides and what is on its way between them, and that all is right there. No condition.
-/
import Derived.Test.YtkoaplmlabagnaaMem
namespace Go.Proofs.Ytkoaplmlabagnaa.Aq
open Go.Proofs.Ytkoaplmlabagnaa.Base Go.Proofs.Ytkoaplmlabagnaa.Mem
/-- A side: its window, N2, T1; all that was pushed; how many are acknowledged, sent in this go, sent ever, got; what is due, and the rest. -/
structure Sd where
  k : Nat
  n2 : Nat
  t1 : Nat
  p : List ByteArray
  a : Nat
  s : Nat
  T : Nat
  g : Nat
  due : Bool
  fin : Bool
  rej : Bool
  poll : Bool
  pb : Bool
  bu : Bool
  rj : Bool
  ak : Bool
  fl : Bool
  wa : Bool
  tr : Nat
  lf : Nat
/-- A frame (of no DLCI): a command, its kind, its bit, N(S), N(R), its information. -/
structure Fm where
  c : Bool
  k : Nat
  pf : Bool
  ns : Nat
  nr : Nat
  i : ByteArray
/-- What came of something. -/
structure Am where
  i : ByteArray
  taken : Bool
  acked : Nat
  failed : Bool
def bE : ByteArray := ⟨#[]⟩
def noFm : Fm := ⟨false, 0, false, 0, 0, bE⟩
def noAm : Am := ⟨bE, false, 0, false⟩
def new (k n2 t1 : Nat) : Sd := ⟨k, n2, t1, [], 0, 0, 0, 0, false, false, false, false, false, false, false, false, false, false, 0, 0⟩
/-- Are ticks counted? -/
def counts (x : Sd) : Bool := decide (x.a < x.s) || x.ak || x.wa || (x.pb && decide (x.a < x.p.length))
/-- What is counted, behind a call. -/
def cnt (again : Bool) (x : Sd) : Sd :=
  if x.fl = true then { x with lf := 0 }
  else if counts x = true then (if x.lf = 0 ∨ again = true then { x with lf := x.t1 } else x)
  else { x with lf := 0 }
def push (i : ByteArray) (x : Sd) : Sd × Nat :=
  if x.fl = true then (x, 4) else if x.k ≤ x.p.length - x.a then (x, 3) else (cnt false { x with p := x.p ++ [i] }, 0)
def more (x : Sd) : Bool := !x.pb && !x.ak && decide (x.s < x.p.length)
def has (x : Sd) : Bool := !x.fl && (x.due || x.poll || more x)
def next (x : Sd) : Sd × Fm × Bool :=
  if x.fl = true then (x, noFm, false)
  else if x.due = true then (cnt false { x with due := false, fin := false, rej := false }, ⟨false, if x.bu = true then 9 else if x.rej = true then 10 else 8, x.fin, 0, x.g % 8, bE⟩, true)
  else if x.poll = true then (cnt false { x with poll := false }, ⟨true, if x.bu = true then 9 else 8, true, 0, x.g % 8, bE⟩, true)
  else if more x = true then (cnt false { x with s := x.s + 1, T := max x.T (x.s + 1) }, ⟨true, 7, false, x.s % 8, x.g % 8, x.p.getD x.s bE⟩, true)
  else (x, noFm, false)
/-- The number that an N(R) means, from n on, so many more. -/
def seek (nr : Nat) : Nat → Nat → Option Nat
  | _, 0 => none
  | n, m + 1 => if n % 8 = nr % 8 then some n else seek nr (n + 1) m
def ackd (x : Sd) (nr : Nat) : Option Nat := seek nr x.a (x.T + 1 - x.a)
/-- An I. -/
def take (f : Fm) (x : Sd) (m : Am) : Sd × Am :=
  if f.ns % 8 ≠ x.g % 8 then (if x.rj = false ∧ x.bu = false then ({ x with rj := true, due := true, rej := true }, m) else (x, m))
  else if x.bu = true then ({ x with due := true }, m)
  else ({ x with due := true, g := x.g + 1, rj := false, rej := false }, ⟨f.i, true, m.acked, m.failed⟩)
/-- An N(R) is heard, that means n. -/
def hear1 (n : Nat) (x : Sd) : Sd := { x with a := n, s := max x.s n, tr := if x.a < n then 0 else x.tr }
def hear2 (f : Fm) (x : Sd) : Sd := if f.k = 9 ∨ f.k = 10 then { x with s := x.a } else x
def hear3 (f : Fm) (x : Sd) : Sd := if f.k ≠ 7 then { x with pb := decide (f.k = 9) } else x
def hear4 (f : Fm) (x : Sd) : Sd := if x.ak = true ∧ f.pf = true ∧ f.c = false then { x with ak := false, poll := false, tr := 0, s := x.a } else x
def hear5 (f : Fm) (x : Sd) : Sd := if f.pf = true ∧ f.c = true then { x with due := true, fin := true } else x
def hear (f : Fm) (x : Sd) : Sd × Am :=
  if x.fl = true ∨ (f.k ≠ 7 ∧ f.k ≠ 8 ∧ f.k ≠ 9 ∧ f.k ≠ 10) then (x, noAm)
  else match ackd x f.nr with
    | none => ({ x with fl := true, lf := 0 }, ⟨bE, false, 0, true⟩)
    | some n =>
      let y := hear4 f (hear3 f (hear2 f (hear1 n x)))
      let z := if f.k = 7 then take f y ⟨bE, false, n - x.a, false⟩ else (y, ⟨bE, false, n - x.a, false⟩)
      (cnt (decide (0 < n - x.a)) (hear5 f z.1), z.2)
def setBusy (b : Bool) (x : Sd) : Sd := if x.fl = true ∨ b = x.bu then x else cnt false { x with bu := b, due := true }
def setWant (b : Bool) (x : Sd) : Sd := if x.fl = true then x else cnt false { x with wa := b }
def tick (x : Sd) : Sd × Am :=
  if x.fl = true ∨ x.lf = 0 then (x, noAm)
  else if 1 < x.lf then ({ x with lf := x.lf - 1 }, noAm)
  else
    let tr := if x.a < x.s ∨ x.ak = true then x.tr + 1 else x.tr
    if x.n2 < tr then ({ x with lf := 0, tr := tr, fl := true }, ⟨bE, false, 0, true⟩)
    else ({ x with lf := x.t1, tr := tr, ak := true, poll := true }, noAm)
/-- What is counted turns nothing else. -/
structure Same (x y : Sd) : Prop where
  k : y.k = x.k
  p : y.p = x.p
  a : y.a = x.a
  s : y.s = x.s
  T : y.T = x.T
  g : y.g = x.g
theorem Same.refl (x : Sd) : Same x x := ⟨rfl, rfl, rfl, rfl, rfl, rfl⟩
theorem Same.trans {x y z : Sd} (h : Same x y) (h' : Same y z) : Same x z := ⟨h'.k.trans h.k, h'.p.trans h.p, h'.a.trans h.a, h'.s.trans h.s, h'.T.trans h.T, h'.g.trans h.g⟩
theorem cnt_same (b : Bool) (x : Sd) : Same x (cnt b x) := by
  unfold cnt
  repeat' split
  all_goals exact ⟨rfl, rfl, rfl, rfl, rfl, rfl⟩
theorem setBusy_same (b : Bool) (x : Sd) : Same x (setBusy b x) := by
  unfold setBusy
  split
  · exact Same.refl _
  · exact Same.trans (⟨rfl, rfl, rfl, rfl, rfl, rfl⟩ : Same x { x with bu := b, due := true }) (cnt_same _ _)
theorem tick_same (x : Sd) : Same x (tick x).1 := by
  unfold tick
  dsimp only
  repeat' split
  all_goals exact ⟨rfl, rfl, rfl, rfl, rfl, rfl⟩
/-- A frame on its way, with the numbers that it stands for. -/
structure Gf where
  f : Fm
  j : Nat
  r : Nat
/-- S sends to R on LS; R acknowledges on LR. -/
structure Dir (S R : Sd) (LS LR : List Gf) : Prop where
  k7 : S.k ≤ 7
  hs : S.a ≤ S.s
  sT : S.s ≤ S.T
  tp : S.T ≤ S.p.length
  pk : S.p.length ≤ S.a + S.k
  ag : S.a ≤ R.g
  gT : R.g ≤ S.T
  nr : LR.Pairwise fun x y => x.r ≤ y.r
  nra : ∀ x ∈ LR, S.a ≤ x.r ∧ x.r ≤ R.g ∧ x.f.nr = x.r % 8
  ns : LS.Pairwise fun x y => x.f.k = 7 → y.f.k = 7 → x.j + 1 ≤ y.j + 7
  nsb : ∀ x ∈ LS, x.f.k = 7 → x.j < S.T ∧ R.g ≤ x.j + 7 ∧ x.f.ns = x.j % 8 ∧ S.p[x.j]? = some x.f.i
section
variable {S R S' R' : Sd} {LS LR : List Gf}
theorem Dir.same (h : Dir S R LS LR) (hS : Same S S') (hR : R'.g = R.g) : Dir S' R' LS LR := by
  obtain ⟨h1, h2, h3, h4, h5, h6⟩ := hS
  exact ⟨by rw [h1]; exact h.k7, by rw [h3, h4]; exact h.hs, by rw [h4, h5]; exact h.sT, by rw [h5, h2]; exact h.tp, by rw [h2, h3, h1]; exact h.pk, by rw [h3, hR]; exact h.ag, by rw [hR, h5]; exact h.gT, h.nr, fun x hx => by rw [h3, hR]; exact h.nra x hx, h.ns, fun x hx hk => by rw [h5, hR, h2]; exact h.nsb x hx hk⟩
theorem Dir.dropS (h : Dir S R LS LR) : Dir S R (LS.drop 1) LR :=
  ⟨h.k7, h.hs, h.sT, h.tp, h.pk, h.ag, h.gT, h.nr, h.nra, h.ns.drop, fun x hx => h.nsb x (List.mem_of_mem_drop hx)⟩
theorem Dir.dropR (h : Dir S R LS LR) : Dir S R LS (LR.drop 1) :=
  ⟨h.k7, h.hs, h.sT, h.tp, h.pk, h.ag, h.gT, h.nr.drop, fun x hx => h.nra x (List.mem_of_mem_drop hx), h.ns, h.nsb⟩
/-- One is pushed at S. -/
theorem Dir.push (h : Dir S R LS LR) (i : ByteArray) : Dir (push i S).1 R LS LR := by
  unfold Aq.push
  split
  · exact h
  split
  · exact h
  · rename_i hk
    have h1 := h.pk
    have h2 := h.tp
    have h3 := h.sT
    have h4 := h.hs
    refine Dir.same (S := { S with p := S.p ++ [i] }) ⟨h.k7, h.hs, h.sT, ?_, ?_, h.ag, h.gT, h.nr, h.nra, h.ns, fun x hx hk => ?_⟩ (cnt_same _ _) rfl
    · show S.T ≤ (S.p ++ [i]).length
      rw [List.length_append]; omega
    · show (S.p ++ [i]).length ≤ S.a + S.k
      rw [List.length_append, List.length_singleton]; omega
    · obtain ⟨g1, g2, g3, g4⟩ := h.nsb x hx hk
      refine ⟨g1, g2, g3, ?_⟩
      show (S.p ++ [i])[x.j]? = _
      rw [List.getElem?_append_left (List.getElem?_eq_some_iff.1 g4).1]
      exact g4
/-- S's next frame goes onto its line: how S is then. -/
theorem next_cases (x : Sd) : ((next x).2.2 = false ∧ (next x).1 = x) ∨
    ((next x).2.2 = true ∧ (next x).2.1.k ≠ 7 ∧ (next x).2.1.nr = x.g % 8 ∧ Same x (next x).1) ∨
    ((next x).2.2 = true ∧ x.s < x.p.length ∧ (next x).2.1 = ⟨true, 7, false, x.s % 8, x.g % 8, x.p.getD x.s bE⟩ ∧ Same { x with s := x.s + 1, T := max x.T (x.s + 1) } (next x).1) := by
  unfold next
  split
  · exact Or.inl ⟨rfl, rfl⟩
  split
  · refine Or.inr (Or.inl ⟨rfl, ?_, rfl, ?_⟩)
    · dsimp only
      split
      · decide
      · split <;> decide
    · exact Same.trans (⟨rfl, rfl, rfl, rfl, rfl, rfl⟩ : Same x { x with due := false, fin := false, rej := false }) (cnt_same _ _)
  split
  · refine Or.inr (Or.inl ⟨rfl, ?_, rfl, ?_⟩)
    · dsimp only
      split <;> decide
    · exact Same.trans (⟨rfl, rfl, rfl, rfl, rfl, rfl⟩ : Same x { x with poll := false }) (cnt_same _ _)
  split
  · rename_i hm
    refine Or.inr (Or.inr ⟨rfl, ?_, rfl, cnt_same _ _⟩)
    unfold more at hm
    simp only [Bool.and_eq_true, decide_eq_true_eq] at hm
    exact hm.2
  · exact Or.inl ⟨rfl, rfl⟩
def sent (x : Sd) (L : List Gf) : List Gf := if (next x).2.2 = true then L ++ [⟨(next x).2.1, x.s, x.g⟩] else L
theorem Dir.nextS (h : Dir S R LS LR) : Dir (next S).1 R (sent S LS) LR := by
  unfold sent
  rcases next_cases S with ⟨h1, h2⟩ | ⟨h1, h2, h3, h4⟩ | ⟨h1, h2, h3, h4⟩
  · rw [h1, h2, if_neg (by decide)]
    exact h
  · rw [h1, if_pos rfl]
    refine Dir.same (S := S) ⟨h.k7, h.hs, h.sT, h.tp, h.pk, h.ag, h.gT, h.nr, h.nra, ?_, fun x hx hk => ?_⟩ h4 rfl
    · rw [List.pairwise_append]
      refine ⟨h.ns, List.pairwise_singleton _ _, fun x _ y hy _ hk => ?_⟩
      obtain rfl := List.mem_singleton.1 hy
      exact absurd hk h2
    · rcases List.mem_append.1 hx with hx | hx
      · exact h.nsb x hx hk
      · obtain rfl := List.mem_singleton.1 hx
        exact absurd hk h2
  · rw [h1, if_pos rfl]
    have g1 := h.k7
    have g2 := h.hs
    have g3 := h.sT
    have g4 := h.tp
    have g5 := h.pk
    have g6 := h.gT
    refine Dir.same (S := { S with s := S.s + 1, T := max S.T (S.s + 1) }) ⟨h.k7, by show S.a ≤ S.s + 1; omega, by show S.s + 1 ≤ max S.T (S.s + 1); omega, by show max S.T (S.s + 1) ≤ S.p.length; omega, h.pk, h.ag, by show R.g ≤ max S.T (S.s + 1); omega, h.nr, h.nra, ?_, fun x hx hk => ?_⟩ h4 rfl
    · rw [List.pairwise_append]
      refine ⟨h.ns, List.pairwise_singleton _ _, fun x hx y hy hk _ => ?_⟩
      obtain rfl := List.mem_singleton.1 hy
      have := (h.nsb x hx hk).1
      show x.j + 1 ≤ S.s + 7
      omega
    · show x.j < max S.T (S.s + 1) ∧ _
      rcases List.mem_append.1 hx with hx | hx
      · obtain ⟨e1, e2, e3, e4⟩ := h.nsb x hx hk
        exact ⟨by omega, e2, e3, e4⟩
      · obtain rfl := List.mem_singleton.1 hx
        refine ⟨by show S.s < _; omega, by show R.g ≤ S.s + 7; omega, by rw [h3], ?_⟩
        rw [h3]
        show S.p[S.s]? = some (S.p.getD S.s bE)
        rw [List.getD_eq_getElem?_getD, List.getElem?_eq_getElem h2]
        rfl
theorem next_g (x : Sd) : (next x).1.g = x.g := by
  rcases next_cases x with ⟨_, h2⟩ | ⟨_, _, _, h4⟩ | ⟨_, _, _, h4⟩
  · rw [h2]
  · exact h4.g
  · exact h4.g
theorem next_nr (x : Sd) (h : (next x).2.2 = true) : (next x).2.1.nr = x.g % 8 := by
  rcases next_cases x with ⟨h1, _⟩ | ⟨_, _, h3, _⟩ | ⟨_, _, h3, _⟩
  · rw [h1] at h; cases h
  · exact h3
  · rw [h3]
/-- R's next frame goes onto its line: what it acknowledges. -/
theorem Dir.nextR (h : Dir S R LS LR) : Dir S (next R).1 LS (sent R LR) := by
  have hg := next_g R
  have h1 := Dir.same (S' := S) (R' := (next R).1) h (Same.refl _) hg
  unfold sent
  split
  · rename_i hs
    refine ⟨h1.k7, h1.hs, h1.sT, h1.tp, h1.pk, h1.ag, h1.gT, ?_, fun x hx => ?_, h1.ns, h1.nsb⟩
    · rw [List.pairwise_append]
      refine ⟨h.nr, List.pairwise_singleton _ _, fun x hx y hy => ?_⟩
      obtain rfl := List.mem_singleton.1 hy
      exact (h.nra x hx).2.1
    · rcases List.mem_append.1 hx with hx | hx
      · exact h1.nra x hx
      · obtain rfl := List.mem_singleton.1 hx
        exact ⟨h.ag, by rw [hg]; exact Nat.le_refl _, next_nr R hs⟩
  · exact h1
theorem seek_one (nr : Nat) : ∀ (m n r : Nat), n ≤ r → r < n + m → m ≤ 8 → nr % 8 = r % 8 → seek nr n m = some r
  | 0, n, r, h1, h2, _, _ => by omega
  | m + 1, n, r, h1, h2, h3, h4 => by
    unfold seek
    by_cases he : n = r
    · subst he; rw [if_pos h4.symm]
    · rw [if_neg (by omega)]
      exact seek_one nr m (n + 1) r (by omega) (by omega) (by omega) h4
/-- What R makes of a frame of S's line, as far as S is concerned, and itself. -/
theorem heard (f : Fm) (n : Nat) (x : Sd) (hn : x.a ≤ n) (hs : x.a ≤ x.s) (ht : n ≤ x.T) (hsT : x.s ≤ x.T) :
    let y := hear4 f (hear3 f (hear2 f (hear1 n x)))
    y.k = x.k ∧ y.p = x.p ∧ y.a = n ∧ n ≤ y.s ∧ y.s ≤ x.T ∧ y.T = x.T ∧ y.g = x.g ∧ y.bu = x.bu := by
  dsimp only
  unfold hear4 hear3 hear2 hear1
  repeat' split
  all_goals (refine ⟨rfl, rfl, rfl, ?_, ?_, rfl, rfl, rfl⟩ <;> dsimp only <;> omega)
theorem take_rest (f : Fm) (x : Sd) (m : Am) : (take f x m).1.k = x.k ∧ (take f x m).1.p = x.p ∧ (take f x m).1.a = x.a ∧ (take f x m).1.s = x.s ∧ (take f x m).1.T = x.T := by
  unfold take
  repeat' split
  all_goals exact ⟨rfl, rfl, rfl, rfl, rfl⟩
theorem take_g (f : Fm) (x : Sd) (m : Am) (hm : m.taken = false) (hf : m.failed = false) : (take f x m).2.failed = false ∧
    (((take f x m).2.taken = false ∧ (take f x m).1.g = x.g) ∨ ((take f x m).2.taken = true ∧ (take f x m).1.g = x.g + 1 ∧ f.ns % 8 = x.g % 8 ∧ (take f x m).2.i = f.i)) := by
  unfold take
  split
  · split
    · exact ⟨hf, Or.inl ⟨hm, rfl⟩⟩
    · exact ⟨hf, Or.inl ⟨hm, rfl⟩⟩
  · rename_i hns
    split
    · exact ⟨hf, Or.inl ⟨hm, rfl⟩⟩
    · exact ⟨hf, Or.inr ⟨rfl, rfl, Decidable.not_not.1 hns, rfl⟩⟩
theorem hear5_same (f : Fm) (x : Sd) : Same x (hear5 f x) := by
  unfold hear5
  split <;> exact ⟨rfl, rfl, rfl, rfl, rfl, rfl⟩
/-- A frame of the line is heard: both ways stay right; nobody fails by it; what is taken is the next that was pushed. -/
theorem heard_pair {x : Gf} (h : Dir S R (x :: LS) LR) (h' : Dir R S LR (x :: LS)) :
    Dir S (hear x.f R).1 LS LR ∧ Dir (hear x.f R).1 S LR LS ∧ (hear x.f R).2.failed = false ∧
    (((hear x.f R).2.taken = false ∧ (hear x.f R).1.g = R.g) ∨ ((hear x.f R).2.taken = true ∧ (hear x.f R).1.g = R.g + 1 ∧ S.p[R.g]? = some (hear x.f R).2.i)) := by
  have d1 := h.dropS
  have d2 := h'.dropR
  rw [List.drop_succ_cons, List.drop_zero] at d1 d2
  unfold hear
  split
  · exact ⟨d1, d2, rfl, Or.inl ⟨rfl, rfl⟩⟩
  rename_i hk0
  obtain ⟨ha, hg, hnr⟩ := h'.nra x (List.mem_cons_self ..)
  have k7 := h'.k7
  have pk := h'.pk
  have tp := h'.tp
  have gT := h'.gT
  have hn : ackd R x.f.nr = some x.r := seek_one _ _ _ _ ha (by omega) (by omega) (by rw [hnr]; omega)
  rw [hn]
  dsimp only
  obtain ⟨y1, y2, y3, y4, y5, y6, y7, _⟩ := heard x.f x.r R ha h'.hs (by omega) h'.sT
  generalize hear4 x.f (hear3 x.f (hear2 x.f (hear1 x.r R))) = y at y1 y2 y3 y4 y5 y6 y7 ⊢
  -- R as the one that sends
  have back : ∀ z : Sd, z.k = y.k → z.p = y.p → z.a = y.a → z.s = y.s → z.T = y.T → Dir z S LR LS := fun z e1 e2 e3 e4 e5 =>
    ⟨by rw [e1, y1]; exact k7, by rw [e3, e4, y3]; exact y4, by rw [e4, e5, y6]; exact y5, by rw [e5, y6, e2, y2]; exact tp, by rw [e2, y2, e3, y3, e1, y1]; omega, by rw [e3, y3]; exact hg, by rw [e5, y6]; exact gT, (List.pairwise_cons.1 h'.nr).2, fun u hu => by
      rw [e3, y3]
      exact ⟨(List.pairwise_cons.1 h'.nr).1 u hu, (h'.nra u (List.mem_cons_of_mem _ hu)).2⟩, h'.ns, fun u hu hk => by rw [e5, y6, e2, y2]; exact h'.nsb u hu hk⟩
  by_cases h7 : x.f.k = 7
  · rw [if_pos h7]
    obtain ⟨t1, t2, t3, t4, t5⟩ := take_rest x.f y ⟨bE, false, x.r - R.a, false⟩
    obtain ⟨tf, tg⟩ := take_g x.f y ⟨bE, false, x.r - R.a, false⟩ rfl rfl
    generalize take x.f y ⟨bE, false, x.r - R.a, false⟩ = z at t1 t2 t3 t4 t5 tf tg ⊢
    have sm := Same.trans (hear5_same x.f z.1) (cnt_same (decide (0 < x.r - R.a)) (hear5 x.f z.1))
    have hb := back z.1 t1 t2 t3 t4 t5
    have hb2 := Dir.same (R' := S) hb sm rfl
    have sg := sm.g
    generalize cnt (decide (0 < x.r - R.a)) (hear5 x.f z.1) = u at sm hb2 sg ⊢
    rcases tg with ⟨g1, g2⟩ | ⟨g1, g2, g3, g4⟩
    · refine ⟨Dir.same d1 (Same.refl _) (by rw [sg, g2, y7]), hb2, tf, Or.inl ⟨g1, by rw [sg, g2, y7]⟩⟩
    · obtain ⟨e1, e2, e3, e4⟩ := h.nsb x (List.mem_cons_self ..) h7
      have q1 := h.k7
      have q2 := h.pk
      have q3 := h.tp
      have q4 := h.ag
      have hj : x.j = R.g := by rw [e3, y7] at g3; omega
      have ug : u.g = R.g + 1 := by rw [sg, g2, y7]
      refine ⟨⟨h.k7, h.hs, h.sT, h.tp, h.pk, by omega, by omega, d1.nr, fun v hv => ?_, d1.ns, fun v hv hk => ?_⟩, hb2, tf, Or.inr ⟨g1, ug, by rw [g4, ← hj]; exact e4⟩⟩
      · obtain ⟨c1, c2, c3⟩ := d1.nra v hv
        exact ⟨c1, by omega, c3⟩
      · obtain ⟨c1, c2, c3, c4⟩ := d1.nsb v hv hk
        have := (List.pairwise_cons.1 h.ns).1 v hv h7 hk
        exact ⟨c1, by omega, c3, c4⟩
  · rw [if_neg h7]
    have sm := Same.trans (hear5_same x.f y) (cnt_same (decide (0 < x.r - R.a)) (hear5 x.f y))
    have hb := back y rfl rfl rfl rfl rfl
    have hb2 := Dir.same (R' := S) hb sm rfl
    have sg := sm.g
    dsimp only
    generalize cnt (decide (0 < x.r - R.a)) (hear5 x.f y) = u at sm hb2 sg ⊢
    exact ⟨Dir.same d1 (Same.refl _) (by rw [sg, y7]), hb2, rfl, Or.inl ⟨rfl, by rw [sg, y7]⟩⟩
end
end Go.Proofs.Ytkoaplmlabagnaa.Aq

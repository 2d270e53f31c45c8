/-
  The plain mathematics of layer 20: classes, who is ready, who took a turn last; the round. No condition.
-/
import Derived.Test.YtiicgfkcjpeiiaaCrMath
namespace Go.Proofs.Ytiicgfkcjpeiiaa.Pi
open Go.RowKit Go.Proofs.Ytiicgfkcjpeiiaa.Base Go.Proofs.Ytiicgfkcjpeiiaa.Mem Go.Proofs.Ytiicgfkcjpeiiaa.Cr
/-- A function turned at one place. -/
def upd {α : Type} (f : Nat → α) (d : Nat) (v : α) : Nat → α := fun k => if k = d then v else f k
theorem upd_at {α : Type} (f : Nat → α) (d : Nat) (v : α) : upd f d v d = v := if_pos rfl
theorem upd_ne {α : Type} {f : Nat → α} {d k : Nat} {v : α} (h : k ≠ d) : upd f d v k = f k := if_neg h
/-- Classes, who is ready, one more than who took a turn last in each class (0: none). -/
structure St where
  cl : Nat → Nat
  rd : Nat → Bool
  la : Nat → Nat
structure St.Ok (x : St) : Prop where
  cl : ∀ d, x.cl d < 64
  la : ∀ c, x.la c ≤ 64
/-- The class at first. -/
def firstC (d : Nat) : Nat := if d = 0 then 0 else min (d - d % 8 + 7) 61
def St.new : St := ⟨firstC, fun _ => false, fun _ => 0⟩
def St.setC (x : St) (d c : Nat) : St := ⟨upd x.cl d c, x.rd, x.la⟩
def St.setR (x : St) (d : Nat) (b : Bool) : St := ⟨x.cl, upd x.rd d b, x.la⟩
def St.tak (x : St) (d : Nat) : St := ⟨x.cl, x.rd, upd x.la (x.cl d) (d + 1)⟩
/-- The least class of those below k that are ready; 64, if none is. -/
def St.lt (x : St) : Nat → Nat
  | 0 => 64
  | k + 1 => if x.rd k then min (x.lt k) (x.cl k) else x.lt k
def St.least (x : St) : Nat := x.lt 64
def St.may (x : St) (d : Nat) : Bool := decide (d < 64) && x.rd d && decide (x.cl d = x.least)
/-- The first number below k of which p holds; k, if none. -/
def fst (p : Nat → Bool) : Nat → Nat
  | 0 => 0
  | k + 1 => if fst p k < k then fst p k else if p k then k else k + 1
/-- How far d is behind l, going round. -/
def ds (l d : Nat) : Nat := (d + 64 - l) % 64
/-- The next one. -/
def St.who (x : St) : Nat := (x.la x.least + fst (fun n => x.may ((x.la x.least + n) % 64)) 64) % 64
def St.pick (x : St) : St := if x.least = 64 then x else x.tak x.who
/-- What Pick answers. -/
def St.pd (x : St) : Nat := if x.least = 64 then 0 else x.who
def St.pb (x : St) : Bool := decide (x.least ≠ 64)
/-- A call. -/
structure Ct where
  k : Nat
  d : Nat
  c : Nat
  o : Bool
def St.step (x : St) (c : Ct) : St :=
  if c.k % 8 = 0 then (if c.d < 64 ∧ c.c < 64 then x.setC c.d c.c else x)
  else if c.k % 8 ≤ 2 then (if c.d < 64 then x.setR c.d c.o else x)
  else if c.k % 8 = 3 then (if x.may c.d then x.tak c.d else x)
  else x.pick
/-- What n calls leave. -/
def run (F : Nat → Ct) : Nat → St
  | 0 => St.new
  | n + 1 => (run F n).step (F n)
section
variable {x : St} {p : Nat → Bool}
theorem firstC_lt (d : Nat) : firstC d < 64 := by unfold firstC; split <;> omega
theorem St.Ok.new : St.new.Ok := ⟨firstC_lt, fun _ => Nat.zero_le _⟩
theorem St.Ok.setC (h : x.Ok) (d : Nat) {c : Nat} (hc : c < 64) : (x.setC d c).Ok := ⟨fun k => by show upd x.cl d c k < 64; unfold upd; split <;> first | exact hc | exact h.cl k, h.la⟩
theorem St.Ok.setR (h : x.Ok) (d : Nat) (b : Bool) : (x.setR d b).Ok := ⟨h.cl, h.la⟩
theorem St.Ok.tak (h : x.Ok) {d : Nat} (hd : d < 64) : (x.tak d).Ok := ⟨h.cl, fun k => by show upd x.la (x.cl d) (d + 1) k ≤ 64; unfold upd; split <;> first | exact hd | exact h.la k⟩
theorem lt_le (x : St) : ∀ k, x.lt k ≤ 64
  | 0 => Nat.le_refl _
  | k + 1 => by have := lt_le x k; unfold St.lt; split <;> omega
theorem lt_all (x : St) : ∀ k d, d < k → x.rd d = true → x.lt k ≤ x.cl d
  | k + 1, d, hd, h => by
    unfold St.lt
    by_cases e : d = k
    · subst e; rw [if_pos h]; exact Nat.min_le_right _ _
    · have := lt_all x k d (by omega) h
      split <;> omega
theorem lt_some (x : St) : ∀ k, x.lt k < 64 → ∃ d, d < k ∧ x.rd d = true ∧ x.cl d = x.lt k
  | 0, h => absurd h (by unfold St.lt; omega)
  | k + 1, h => by
    unfold St.lt at h ⊢
    by_cases hr : x.rd k = true
    · rw [if_pos hr] at h ⊢
      by_cases hm : x.cl k ≤ x.lt k
      · exact ⟨k, by omega, hr, by omega⟩
      · obtain ⟨d, h1, h2, h3⟩ := lt_some x k (by omega)
        exact ⟨d, by omega, h2, by omega⟩
    · rw [if_neg hr] at h ⊢
      obtain ⟨d, h1, h2, h3⟩ := lt_some x k h
      exact ⟨d, by omega, h2, h3⟩
theorem lt_none (h : x.Ok) {k : Nat} (hk : x.lt k = 64) {d : Nat} (hd : d < k) : x.rd d = false := by
  by_cases hr : x.rd d = true
  · have := lt_all x k d hd hr; have := h.cl d; omega
  · simpa using hr
theorem may_iff {d : Nat} : x.may d = true ↔ d < 64 ∧ x.rd d = true ∧ x.cl d = x.least := by
  unfold St.may
  simp only [Bool.and_eq_true, decide_eq_true_iff, and_assoc]
theorem may_some (h : x.least < 64) : ∃ d, x.may d = true := by
  obtain ⟨d, h1, h2, h3⟩ := lt_some x 64 h
  exact ⟨d, may_iff.2 ⟨h1, h2, h3⟩⟩
theorem may_least (h : x.Ok) {d : Nat} (hm : x.may d = true) : x.least < 64 := by
  have := (may_iff.1 hm).2.2; have := h.cl d; omega
theorem fst_le (p : Nat → Bool) : ∀ k, fst p k ≤ k
  | 0 => Nat.le_refl _
  | k + 1 => by have := fst_le p k; unfold fst; split <;> (try split) <;> omega
theorem fst_spec (p : Nat → Bool) : ∀ k, (fst p k < k → p (fst p k) = true) ∧ ∀ m, m < fst p k → p m = false
  | 0 => ⟨fun h => absurd h (Nat.not_lt_zero _), fun m h => absurd h (Nat.not_lt_zero _)⟩
  | k + 1 => by
    obtain ⟨h1, h2⟩ := fst_spec p k
    have h3 := fst_le p k
    unfold fst
    by_cases h : fst p k < k
    · rw [if_pos h]; exact ⟨fun _ => h1 h, h2⟩
    · rw [if_neg h]
      have e : fst p k = k := by omega
      rw [e] at h2
      by_cases hp : p k = true
      · rw [if_pos hp]; exact ⟨fun _ => hp, h2⟩
      · rw [if_neg hp]
        refine ⟨fun h => absurd h (Nat.lt_irrefl _), fun m hm => ?_⟩
        by_cases e : m = k
        · subst e; simpa using hp
        · exact h2 m (by omega)
theorem fst_eq {n k : Nat} (hn : n < k) (hp : p n = true) (hm : ∀ m, m < n → p m = false) : fst p k = n := by
  obtain ⟨h1, h2⟩ := fst_spec p k
  have h3 := fst_le p k
  rcases Nat.lt_trichotomy (fst p k) n with h | h | h
  · have a := h1 (by omega); rw [hm _ h] at a; cases a
  · exact h
  · have a := h2 n h; rw [hp] at a; cases a
theorem ds_lt (l d : Nat) : ds l d < 64 := Nat.mod_lt _ (by decide)
theorem ds_back {l d : Nat} (hl : l ≤ 64) (hd : d < 64) : (l + ds l d) % 64 = d := by unfold ds; omega
theorem ds_of {l n : Nat} (hl : l ≤ 64) (hn : n < 64) : ds l ((l + n) % 64) = n := by unfold ds; omega
/-- What the next one is. -/
structure Nx (x : St) (d : Nat) : Prop where
  may : x.may d = true
  le : ∀ e, x.may e = true → ds (x.la x.least) d ≤ ds (x.la x.least) e
theorem Nx.who (h : x.Ok) {d : Nat} (hd : Nx x d) : x.who = d := by
  have hl := h.la x.least
  have h64 := (may_iff.1 hd.may).1
  unfold St.who
  rw [fst_eq (n := ds (x.la x.least) d) (ds_lt _ _) (by rw [ds_back hl h64]; exact hd.may) fun m hm => ?_, ds_back hl h64]
  by_cases hp : x.may ((x.la x.least + m) % 64) = true
  · have := hd.le _ hp
    rw [ds_of hl (by have := ds_lt (x.la x.least) d; omega)] at this
    omega
  · simpa using hp
theorem who_nx (h : x.Ok) (hl : x.least < 64) : Nx x x.who := by
  obtain ⟨e, he⟩ := may_some hl
  have hla := h.la x.least
  obtain ⟨h1, h2⟩ := fst_spec (fun n => x.may ((x.la x.least + n) % 64)) 64
  have h3 : fst (fun n => x.may ((x.la x.least + n) % 64)) 64 < 64 := by
    have hq := fst_le (fun n => x.may ((x.la x.least + n) % 64)) 64
    rcases Nat.lt_or_ge (fst (fun n => x.may ((x.la x.least + n) % 64)) 64) 64 with hh | hh
    · exact hh
    · have := h2 (ds (x.la x.least) e) (by have := ds_lt (x.la x.least) e; omega)
      rw [ds_back hla (may_iff.1 he).1, he] at this
      cases this
  refine ⟨h1 h3, fun e he => ?_⟩
  unfold St.who
  rw [ds_of hla h3]
  rcases Nat.lt_or_ge (ds (x.la x.least) e) (fst (fun n => x.may ((x.la x.least + n) % 64)) 64) with hh | hh
  · have := h2 _ hh
    rw [ds_back hla (may_iff.1 he).1, he] at this
    cases this
  · exact hh
theorem who_lt (x : St) : x.who < 64 := Nat.mod_lt _ (by decide)
theorem least_le (x : St) : x.least ≤ 64 := lt_le x 64
theorem St.Ok.pick (h : x.Ok) : x.pick.Ok := by
  unfold St.pick
  split
  · exact h
  · exact h.tak (who_lt x)
theorem St.Ok.step (h : x.Ok) (c : Ct) : (x.step c).Ok := by
  unfold St.step
  split
  · split
    · next e => exact h.setC _ e.2
    · exact h
  split
  · split
    · exact h.setR _ _
    · exact h
  split
  · split
    · next e => exact h.tak (may_iff.1 e).1
    · exact h
  · exact h.pick
theorem run_ok (F : Nat → Ct) : ∀ n, (run F n).Ok
  | 0 => .new
  | n + 1 => (run_ok F n).step _
/-- A turn leaves who may. -/
theorem tak_least (x : St) (d : Nat) : (x.tak d).least = x.least := by
  have : ∀ k, (x.tak d).lt k = x.lt k := fun k => by
    induction k with
    | zero => rfl
    | succ k ih => show (if x.rd k then min ((x.tak d).lt k) (x.cl k) else (x.tak d).lt k) = _; rw [ih]; rfl
  exact this 64
theorem tak_may (x : St) (d e : Nat) : (x.tak d).may e = x.may e := by
  unfold St.may; rw [tak_least]; rfl
end
/-- How many below k. -/
def cnt (p : Nat → Bool) : Nat → Nat
  | 0 => 0
  | k + 1 => cnt p k + if p k then 1 else 0
theorem cnt_le (p : Nat → Bool) : ∀ k, cnt p k ≤ k
  | 0 => Nat.le_refl _
  | k + 1 => by have := cnt_le p k; unfold cnt; split <;> omega
theorem cnt_some (p : Nat → Bool) : ∀ k, 0 < cnt p k → ∃ d, d < k ∧ p d = true
  | 0, h => absurd h (Nat.lt_irrefl _)
  | k + 1, h => by
    unfold cnt at h
    by_cases hp : p k = true
    · exact ⟨k, by omega, hp⟩
    · rw [if_neg hp] at h
      obtain ⟨d, h1, h2⟩ := cnt_some p k h
      exact ⟨d, by omega, h2⟩
theorem cnt_zero (p : Nat → Bool) : ∀ k, cnt p k = 0 → ∀ d, d < k → p d = false
  | k + 1, h, d, hd => by
    unfold cnt at h
    by_cases e : d = k
    · subst e
      by_cases hp : p d = true
      · rw [if_pos hp] at h; omega
      · simpa using hp
    · exact cnt_zero p k (by omega) d (by omega)
theorem cnt_same {p q : Nat → Bool} : ∀ k, (∀ d, d < k → q d = p d) → cnt q k = cnt p k
  | 0, _ => rfl
  | k + 1, h => by
    unfold cnt
    rw [cnt_same k fun d hd => h d (by omega), h k (by omega)]
theorem cnt_del (p : Nat → Bool) (d : Nat) (hp : p d = true) : ∀ k, d < k → cnt (upd p d false) k + 1 = cnt p k
  | k + 1, h => by
    unfold cnt
    by_cases e : d = k
    · subst e
      rw [upd_at, if_neg (by decide), if_pos hp, cnt_same d fun j hj => upd_ne (by omega)]
    · rw [upd_ne (fun e' => e e'.symm)]
      have := cnt_del p d hp k (by omega)
      omega
/-- Of those that may, these are left of a round: they come ahead of all others. -/
structure Left (x : St) (r : Nat → Bool) : Prop where
  may : ∀ e, r e = true → x.may e = true
  lt : ∀ e f, r e = true → x.may f = true → r f = false → ds (x.la x.least) e < ds (x.la x.least) f
theorem Left.start (x : St) : Left x x.may := ⟨fun _ h => h, fun e f _ h h' => by rw [h] at h'; cases h'⟩
theorem Left.next {x : St} (h : x.Ok) {r : Nat → Bool} (hr : Left x r) {e : Nat} (he : r e = true) : r x.who = true ∧ Left x.pick (upd r x.who false) := by
  have hl := may_least h (hr.may e he)
  have hn := who_nx h hl
  have h1 : r x.who = true := by
    by_cases hq : r x.who = true
    · exact hq
    · have a := hr.lt e _ he hn.may (by simpa using hq)
      have b := hn.le e (hr.may e he)
      omega
  have hp : x.pick = x.tak x.who := by unfold St.pick; rw [if_neg (by omega)]
  refine ⟨h1, ?_⟩
  rw [hp]
  have hw := may_iff.1 hn.may
  generalize x.who = d at *
  have hla : (x.tak d).la (x.tak d).least = d + 1 := by
    rw [tak_least, ← hw.2.2]
    exact upd_at _ _ _
  refine ⟨fun f hf => ?_, fun f g hf hg hg' => ?_⟩
  · rw [tak_may]
    by_cases e : f = d
    · subst e; rw [upd_at] at hf; cases hf
    · rw [upd_ne e] at hf; exact hr.may f hf
  · rw [hla]
    rw [tak_may] at hg
    have hfd : f ≠ d := fun e => by subst e; rw [upd_at] at hf; cases hf
    rw [upd_ne hfd] at hf
    have hf64 := (may_iff.1 (hr.may f hf)).1
    have hg64 := (may_iff.1 hg).1
    have hlast := h.la x.least
    have o1 := hn.le f (hr.may f hf)
    by_cases hgd : g = d
    · subst hgd
      unfold ds at o1 ⊢
      have := hw.1
      omega
    · rw [upd_ne hgd] at hg'
      have o2 := hr.lt f g hf hg hg'
      unfold ds at o1 o2 ⊢
      have := hw.1
      omega
/-- One more is ready, of a greater class. -/
structure More (x y : St) (d : Nat) : Prop where
  cl : y.cl = x.cl
  la : y.la = x.la
  rd : y.rd = upd x.rd d true
  no : x.rd d = false
  gt : x.least < x.cl d
theorem More.least {x y : St} {d : Nat} (h : More x y d) : y.least = x.least := by
  have hk : ∀ k, y.lt k = if d < k then min (x.lt k) (x.cl d) else x.lt k := fun k => by
    induction k with
    | zero => rfl
    | succ k ih =>
      show (if y.rd k then min (y.lt k) (y.cl k) else y.lt k) = _
      rw [ih, h.rd, h.cl]
      by_cases e : k = d
      · subst e
        rw [upd_at, if_pos rfl, if_neg (Nat.lt_irrefl _), if_pos (by omega)]
        show _ = min (if x.rd k then min (x.lt k) (x.cl k) else x.lt k) (x.cl k)
        rw [h.no]
        rfl
      · rw [upd_ne e]
        show _ = if d < k + 1 then min (if x.rd k then min (x.lt k) (x.cl k) else x.lt k) (x.cl d) else (if x.rd k then min (x.lt k) (x.cl k) else x.lt k)
        by_cases hd : d < k
        · simp only [if_pos hd, if_pos (show d < k + 1 by omega)]
          split <;> omega
        · simp only [if_neg hd, if_neg (show ¬ d < k + 1 by omega)]
  have := hk 64
  have hg := h.gt
  unfold St.least at hg ⊢
  rw [this]
  split <;> omega
theorem More.may {x y : St} {d : Nat} (h : More x y d) (e : Nat) : y.may e = x.may e := by
  unfold St.may
  rw [h.least, h.cl, h.rd]
  by_cases he : e = d
  · subst he
    have : decide (x.cl e = x.least) = false := decide_eq_false (by have := h.gt; omega)
    rw [this, Bool.and_false, Bool.and_false]
  · rw [upd_ne he]
theorem More.who {x y : St} {d : Nat} (h : More x y d) : y.who = x.who := by
  unfold St.who
  rw [h.least, h.la]
  have : (fun n => y.may ((x.la x.least + n) % 64)) = fun n => x.may ((x.la x.least + n) % 64) := funext fun n => h.may _
  rw [this]
theorem More.pick {x y : St} {d : Nat} (h : More x y d) : More x.pick y.pick d := by
  unfold St.pick
  rw [h.least, h.who]
  split
  · exact h
  · exact ⟨h.cl, by show upd y.la (y.cl x.who) _ = upd x.la (x.cl x.who) _; rw [h.la, h.cl], h.rd, h.no, by rw [tak_least]; exact h.gt⟩
theorem pick_least (x : St) : x.pick.least = x.least := by
  unfold St.pick
  split
  · rfl
  · exact tak_least x _
theorem pick_may (x : St) (e : Nat) : x.pick.may e = x.may e := by
  unfold St.pick
  split
  · rfl
  · exact tak_may x _ e
end Go.Proofs.Ytiicgfkcjpeiiaa.Pi

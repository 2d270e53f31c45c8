/-
  The plain mathematics of layer 6: what a deframer holds, what a byte does, and what follows of it. Conditions: the bounds that each lemma names.
-/
import Derived.Test.YthlciaomfpephaaDoorAdvMath
namespace Go.Proofs.YthlciaomfpephaaDoor.Df
open Go.Proofs.YthlciaomfpephaaDoor.Base Go.Proofs.YthlciaomfpephaaDoor.Ea Go.Proofs.YthlciaomfpephaaDoor.Field Go.Proofs.YthlciaomfpephaaDoor.Basic Go.Proofs.YthlciaomfpephaaDoor.Adv
/-- What a deframer is of. -/
structure Cf where
  adv : Bool
  ini : Bool
  room : Nat
/-- What it holds: what the next byte does (0 lost, 1 advanced, 2 to 6 a basic body), what was gathered, how many bytes are to come, how often it was bad. -/
structure St where
  m : Nat
  got : List UInt8
  left : Nat
  bad : Nat
def flagB (c : Cf) : UInt8 := if c.adv then 126 else 249
def begm (c : Cf) : Nat := if c.adv then 1 else 2
def most (c : Cf) : Nat := 2 * (3 + c.room)
def begin (c : Cf) (q : St) : St := { q with m := begm c, got := [] }
def lost (c : Cf) (q : St) (b : UInt8) : St := if b = flagB c then begin c q else q
def spoil (c : Cf) (q : St) (b : UInt8) : St := lost c { q with m := 0, bad := q.bad + 1 } b
def judge (c : Cf) (q : St) (a : Fr × Nat) : St × Option Fr := if a.2 = 0 then (begin c q, some a.1) else (spoil c q (flagB c), none)
def more (q : St) (b : UInt8) : St := { q with got := q.got ++ [b] }
def stepL (c : Cf) (q : St) (b : UInt8) : St :=
  if tkE ((more q b).got.drop 2) ≠ 0 then
    if c.room < tkN ((more q b).got.drop 2 ++ [1]) then spoil c (more q b) b else more q b
  else if c.room < tkN ((more q b).got.drop 2) ∨ (len (tkN ((more q b).got.drop 2))).data.toList ≠ (more q b).got.drop 2 then spoil c (more q b) b
  else { more q b with left := tkN ((more q b).got.drop 2) + 1, m := 5 }
def step (c : Cf) (dec : List UInt8 → Fr × Nat) (q : St) (b : UInt8) : St × Option Fr :=
  match q.m with
  | 0 => (lost c q b, none)
  | 1 => if b ≠ 126 then (if q.got.length ≤ most c then more q b else q, none) else if q.got.length = 0 then (q, none) else if most c < q.got.length then (spoil c q b, none) else judge c q (dec q.got)
  | 2 => if b = 249 then (q, none) else if spK b.toNat = false then (spoil c q b, none) else ({ more q b with m := 3 }, none)
  | 3 => ({ more q b with m := 4 }, none)
  | 4 => (stepL c q b, none)
  | 5 => ({ more q b with left := q.left - 1, m := if q.left - 1 = 0 then 6 else 5 }, none)
  | _ => if b ≠ 249 then (spoil c q b, none) else judge c q (dec q.got)
/-- What holds of all that a deframer comes to. -/
def Good (c : Cf) (q : St) : Prop :=
  c.room ≤ 128 ∧ match q.m with
  | 0 => q.got.length ≤ 300
  | 1 => c.adv = true ∧ q.got.length ≤ most c + 1
  | 2 => c.adv = false ∧ q.got = []
  | 3 => c.adv = false ∧ q.got.length = 1
  | 4 => c.adv = false ∧ (q.got.length = 2 ∨ ∃ a b o : UInt8, q.got = [a, b, o] ∧ ¬ o.toNat % 2 = 1)
  | 5 => c.adv = false ∧ 1 ≤ q.left ∧ q.left ≤ c.room + 1 ∧ q.got.length + q.left ≤ 140
  | 6 => c.adv = false ∧ q.got.length ≤ 140
  | _ => False
theorem Good.room {c : Cf} {q : St} (h : Good c q) : c.room ≤ 128 := h.1
theorem Good.six {c : Cf} {q : St} (h : Good c q) : q.m ≤ 6 := by
  obtain ⟨m, got, left, bad⟩ := q
  obtain ⟨_, h⟩ := h
  match m, h with
  | 0, _ => exact (by decide : 0 ≤ 6)
  | 1, _ => exact (by decide : 1 ≤ 6)
  | 2, _ => exact (by decide : 2 ≤ 6)
  | 3, _ => exact (by decide : 3 ≤ 6)
  | 4, _ => exact (by decide : 4 ≤ 6)
  | 5, _ => exact (by decide : 5 ≤ 6)
  | 6, _ => exact (by decide : 6 ≤ 6)
theorem Good.len {c : Cf} {q : St} (h : Good c q) : q.got.length ≤ 300 := by
  obtain ⟨m, got, left, bad⟩ := q
  obtain ⟨hr, h⟩ := h
  match m, h with
  | 0, h => exact h
  | 1, h => have := h.2; simp only [most] at this; show got.length ≤ 300; omega
  | 2, h => have := h.2; show got.length ≤ 300; simp only at this; subst this; decide
  | 3, h => have := h.2; show got.length ≤ 300; simp only at this; omega
  | 4, h =>
    show got.length ≤ 300
    rcases h.2 with h | ⟨a, b, o, h, _⟩
    · simp only at h; omega
    · simp only at h; subst h; exact (by decide : 3 ≤ 300)
  | 5, h => have := h.2.2.2; show got.length ≤ 300; simp only at this; omega
  | 6, h => have := h.2; show got.length ≤ 300; simp only at this; omega
theorem good_begin {c : Cf} {q : St} (h : c.room ≤ 128) : Good c (begin c q) := by
  refine ⟨h, ?_⟩
  cases ha : c.adv <;> simp [begin, begm, ha]
theorem good_lost {c : Cf} {q : St} (h : c.room ≤ 128) (hm : q.m = 0) (hl : q.got.length ≤ 300) (b : UInt8) : Good c (lost c q b) := by
  unfold lost
  split
  · exact good_begin h
  · refine ⟨h, ?_⟩
    rw [hm]; exact hl
theorem good_spoil {c : Cf} {q : St} (h : c.room ≤ 128) (hl : q.got.length ≤ 300) (b : UInt8) : Good c (spoil c q b) := good_lost (q := { q with m := 0, bad := q.bad + 1 }) h rfl hl b
theorem good_judge {c : Cf} {q : St} (h : c.room ≤ 128) (hl : q.got.length ≤ 300) (a : Fr × Nat) : Good c (judge c q a).1 := by
  unfold judge
  split
  · exact good_begin h
  · exact good_spoil h hl _
theorem tkE_nil (l : List UInt8) (h : tkE l ≠ 0) : l = [] ∨ ∃ a : UInt8, l = [a] ∧ ¬ a.toNat % 2 = 1 := by
  match l with
  | [] => exact Or.inl rfl
  | [a] =>
    by_cases ha : a.toNat % 2 = 1
    · exact absurd (by unfold tkE; rw [tk_odd a [] ha]) h
    · exact Or.inr ⟨a, rfl, ha⟩
  | a :: b :: r =>
    by_cases ha : a.toNat % 2 = 1
    · exact absurd (by unfold tkE; rw [tk_odd a _ ha]) h
    · exact absurd (by unfold tkE; rw [tk_two a b r ha]) h
theorem good_length {c : Cf} {q : St} (hg : Good c q) (hm : q.m = 4) (b : UInt8) : Good c (stepL c q b) := by
  have hr := hg.1
  have hl := hg.len
  obtain ⟨m, got, left, bad⟩ := q
  simp only at hm
  subst hm
  obtain ⟨_, ha, h4⟩ := hg
  simp only at h4 hl
  have hl' : got.length ≤ 3 := by
    rcases h4 with h | ⟨a, b, o, h, _⟩
    · omega
    · subst h; exact (by decide : 3 ≤ 3)
  have hz : (more ⟨4, got, left, bad⟩ b).got.length = got.length + 1 := by simp [more]
  unfold stepL
  split
  · rename_i he
    split
    · exact good_spoil hr (by omega) b
    · refine ⟨hr, ha, ?_⟩
      rcases tkE_nil _ he with h | ⟨a, h, ho⟩
      · exfalso
        have := congrArg List.length h
        simp only [List.length_drop, hz, List.length_nil] at this
        rcases h4 with h | ⟨_, _, _, h, _⟩
        · omega
        · subst h; simp at this
      · rcases h4 with h2 | ⟨x, y, o, h3, _⟩
        · match got, h2 with
          | [x, y], _ =>
            simp only [more, List.cons_append, List.nil_append, List.drop_succ_cons, List.drop_zero, List.cons.injEq, and_true] at h
            subst h
            exact Or.inr ⟨x, y, b, rfl, ho⟩
        · subst h3
          simp [more] at h
  · split
    · exact good_spoil hr (by omega) b
    · rename_i _ h
      have h' : ¬ c.room < tkN (List.drop 2 (more ⟨4, got, left, bad⟩ b).got) := fun k => h (Or.inl k)
      refine ⟨hr, ha, ?_, ?_, ?_⟩
      · show 1 ≤ _ + 1; omega
      · show tkN (List.drop 2 (more ⟨4, got, left, bad⟩ b).got) + 1 ≤ _; omega
      · show (more ⟨4, got, left, bad⟩ b).got.length + (tkN (List.drop 2 (more ⟨4, got, left, bad⟩ b).got) + 1) ≤ 140
        rw [hz]; omega
theorem good_step {c : Cf} {q : St} (hg : Good c q) (dec : List UInt8 → Fr × Nat) (b : UInt8) : Good c (step c dec q b).1 := by
  have hr := hg.1
  have hl := hg.len
  obtain ⟨m, got, left, bad⟩ := q
  have hz : (more ⟨m, got, left, bad⟩ b).got.length = got.length + 1 := by simp [more]
  match m, hg with
  | 0, hg => exact good_lost hr rfl hl b
  | 1, ⟨_, ha, h1⟩ =>
    simp only [step]
    split
    · split
      · exact ⟨hr, ha, by rw [hz]; omega⟩
      · exact ⟨hr, ha, h1⟩
    · split
      · exact ⟨hr, ha, h1⟩
      · split
        · exact good_spoil hr hl b
        · exact good_judge hr hl _
  | 2, ⟨_, ha, h1⟩ =>
    simp only [step]
    split
    · exact ⟨hr, ha, h1⟩
    · split
      · exact good_spoil hr hl b
      · refine ⟨hr, ha, ?_⟩
        simp only at h1
        subst h1; rfl
  | 3, ⟨_, ha, h1⟩ => exact ⟨hr, ha, Or.inl (by show (got ++ [b]).length = 2; simp only at h1; simp [h1])⟩
  | 4, hg => exact good_length hg rfl b
  | 5, ⟨_, ha, h1, h2, h3⟩ =>
    simp only at h1 h2 h3
    simp only [step]
    by_cases h0 : left - 1 = 0
    · rw [if_pos h0]
      exact ⟨hr, ha, by show (got ++ [b]).length ≤ 140; simp; omega⟩
    · rw [if_neg h0]
      exact ⟨hr, ha, by show 1 ≤ left - 1; omega, by show left - 1 ≤ _; omega, by show (got ++ [b]).length + (left - 1) ≤ 140; simp; omega⟩
  | 6, ⟨_, ha, h1⟩ =>
    simp only [step]
    split
    · exact good_spoil hr hl b
    · exact good_judge hr hl _
theorem bad_lost (c : Cf) (q : St) (b : UInt8) : (lost c q b).bad = q.bad := by unfold lost; split <;> rfl
theorem bad_spoil (c : Cf) (q : St) (b : UInt8) : (spoil c q b).bad = q.bad + 1 := bad_lost _ _ _
theorem bad_judge (c : Cf) (q : St) (a : Fr × Nat) : (judge c q a).1.bad ≤ q.bad + 1 := by
  unfold judge
  split
  · show q.bad ≤ _; omega
  · exact Nat.le_of_eq (bad_spoil c q _)
theorem bad_step (c : Cf) (dec : List UInt8 → Fr × Nat) (q : St) (b : UInt8) : (step c dec q b).1.bad ≤ q.bad + 1 := by
  have hs := fun q => bad_spoil c q b
  have hj := bad_judge c q (dec q.got)
  unfold step
  split
  · show (lost c q b).bad ≤ _; rw [bad_lost]; omega
  · split
    · split
      · show q.bad ≤ _; omega
      · show q.bad ≤ _; omega
    · split
      · show q.bad ≤ _; omega
      · split
        · exact Nat.le_of_eq (hs q)
        · exact hj
  · split
    · show q.bad ≤ _; omega
    · split
      · exact Nat.le_of_eq (hs q)
      · show q.bad ≤ _; omega
  · show q.bad ≤ _; omega
  · unfold stepL
    split
    · split
      · exact Nat.le_of_eq (hs (more q b))
      · show q.bad ≤ _; omega
    · split
      · exact Nat.le_of_eq (hs (more q b))
      · show q.bad ≤ _; omega
  · show q.bad ≤ _; omega
  · split
    · exact Nat.le_of_eq (hs q)
    · exact hj
/-- Bytes, one behind the other: what it holds then, the frames that were told, whether the last byte told one. -/
structure Rs where
  q : St
  out : List Fr
  last : Bool
def one1 (c : Cf) (dec : List UInt8 → Fr × Nat) (r : Rs) (b : UInt8) : Rs := ⟨(step c dec r.q b).1, r.out ++ (step c dec r.q b).2.toList, (step c dec r.q b).2.isSome⟩
def run (c : Cf) (dec : List UInt8 → Fr × Nat) (r : Rs) (l : List UInt8) : Rs := l.foldl (one1 c dec) r
theorem run_app (c : Cf) (dec : List UInt8 → Fr × Nat) (r : Rs) (l m : List UInt8) : run c dec r (l ++ m) = run c dec (run c dec r l) m := List.foldl_append
theorem run_cons (c : Cf) (dec : List UInt8 → Fr × Nat) (r : Rs) (b : UInt8) (l : List UInt8) : run c dec r (b :: l) = run c dec (one1 c dec r b) l := rfl
theorem good_run {c : Cf} (dec : List UInt8 → Fr × Nat) (l : List UInt8) : ∀ {r : Rs}, Good c r.q → Good c (run c dec r l).q := by
  induction l with
  | nil => intro r h; exact h
  | cons b l ih => intro r h; rw [run_cons]; exact ih (good_step h dec b)
theorem bad_run (c : Cf) (dec : List UInt8 → Fr × Nat) (l : List UInt8) : ∀ (r : Rs), (run c dec r l).q.bad ≤ r.q.bad + l.length := by
  induction l with
  | nil => intro r; exact Nat.le_refl _
  | cons b l ih =>
    intro r
    have h1 := ih (one1 c dec r b)
    have h2 := bad_step c dec r.q b
    rw [run_cons, List.length_cons]
    have h3 : (one1 c dec r b).q.bad = (step c dec r.q b).1.bad := rfl
    omega
theorem out_run (c : Cf) (dec : List UInt8 → Fr × Nat) (l : List UInt8) : ∀ (r : Rs), (run c dec r l).out.length ≤ r.out.length + l.length := by
  induction l with
  | nil => intro r; exact Nat.le_refl _
  | cons b l ih =>
    intro r
    have h1 := ih (one1 c dec r b)
    rw [run_cons, List.length_cons]
    have h3 : (one1 c dec r b).out.length ≤ r.out.length + 1 := by
      show (r.out ++ (step c dec r.q b).2.toList).length ≤ _
      rw [List.length_append]
      have : (step c dec r.q b).2.toList.length ≤ 1 := by cases (step c dec r.q b).2 <;> simp
      omega
    omega
end Go.Proofs.YthlciaomfpephaaDoor.Df

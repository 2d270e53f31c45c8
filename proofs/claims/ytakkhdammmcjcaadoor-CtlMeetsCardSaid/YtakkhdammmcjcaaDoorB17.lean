/-
  Layer 22, put together: CtlTalk, Shelf (what each says stands ahead of it). Conditions: as each names them.
-/
import Derived.Test.YtakkhdammmcjcaaDoorB04
import Derived.Test.YtakkhdammmcjcaaDoorProg
import Derived.Shelf.LaysM
import Derived.Shelf.Strconv.Clone
/-
  The plain mathematics of layer 22's theorems: two sides that say to each other all that they have to say; a side that nobody answers. No condition.
-/
namespace Go.Proofs.YtakkhdammmcjcaaDoor.Ctl
open Go.Proofs.YtakkhdammmcjcaaDoor.Base Go.Proofs.YtakkhdammmcjcaaDoor.Mem Go.Proofs.YtakkhdammmcjcaaDoor.Msgs
def fresh (m : Ms) : Wt := ⟨m, 0, 0, false⟩
/-- Is it asked for again among these? -/
def stayed (r : List Ms) (m : Ms) : Bool := r.all fun y => !(mayAsk y && same m y)
/-- Those of a row that are taken, of the same ones the last one. -/
def asked : List Ms → List Ms
  | [] => []
  | m :: r => if mayAsk m && stayed r m then m :: asked r else asked r
theorem stays_cons (y : Ms) (r : List Ms) (m : Ms) : stayed (y :: r) m = (!(mayAsk y && same m y) && stayed r m) := rfl
theorem asks (x : Ct) (l : List Ms) : (l.foldl Ct.ask x).cs = x.cs.filter (fun w => stayed l w.m) ++ (asked l).map fresh := by
  induction l generalizing x with
  | nil => show x.cs = x.cs.filter (fun _ => true) ++ []; rw [List.append_nil, List.filter_eq_self.2 fun _ _ => rfl]
  | cons m r ih =>
    rw [List.foldl_cons, ih]
    unfold Ct.ask
    cases hm : mayAsk m with
    | true =>
      rw [if_pos rfl]
      show (put x.cs m).filter (fun w => stayed r w.m) ++ _ = _
      unfold put
      rw [List.filter_append, List.filter_filter]
      have e1 : (x.cs.filter fun w => stayed r w.m && !same w.m m) = x.cs.filter fun w => stayed (m :: r) w.m := by
        congr 1
        funext w
        rw [stays_cons, hm, Bool.true_and, Bool.and_comm]
      rw [e1, List.append_assoc]
      congr 1
      show List.filter (fun w => stayed r w.m) [⟨m, 0, 0, false⟩] ++ (asked r).map fresh = (asked (m :: r)).map fresh
      have e2 : asked (m :: r) = if (mayAsk m && stayed r m) = true then m :: asked r else asked r := rfl
      rw [e2, hm, Bool.true_and]
      cases hs : stayed r m with
      | true => rw [if_pos rfl, List.filter_cons_of_pos (by simpa using hs)]; rfl
      | false => rw [if_neg (by decide), List.filter_cons_of_neg (by simp [hs])]; rfl
    | false =>
      rw [if_neg (by decide)]
      have e1 : (fun w : Wt => stayed (m :: r) w.m) = fun w => stayed r w.m := by
        funext w
        rw [stays_cons, hm, Bool.false_and, Bool.not_false, Bool.true_and]
      have e2 : asked (m :: r) = if (mayAsk m && stayed r m) = true then m :: asked r else asked r := rfl
      rw [e1, e2, hm, Bool.false_and, if_neg (by decide)]
theorem ask_own (x : Ct) (m : Ms) : (x.ask m).own = x.own ∧ (x.ask m).t2 = x.t2 ∧ (x.ask m).n2 = x.n2 ∧ (x.ask m).an = x.an := by
  unfold Ct.ask; split <;> exact ⟨rfl, rfl, rfl, rfl⟩
theorem asks_own (x : Ct) (l : List Ms) : (l.foldl Ct.ask x).own = x.own ∧ (l.foldl Ct.ask x).t2 = x.t2 ∧ (l.foldl Ct.ask x).n2 = x.n2 ∧ (l.foldl Ct.ask x).an = x.an := by
  induction l generalizing x with
  | nil => exact ⟨rfl, rfl, rfl, rfl⟩
  | cons m r ih =>
    obtain ⟨h1, h2, h3, h4⟩ := ih (x.ask m)
    obtain ⟨g1, g2, g3, g4⟩ := ask_own x m
    exact ⟨h1.trans g1, h2.trans g2, h3.trans g3, h4.trans g4⟩
theorem asks_ok {x : Ct} (h : x.Ok) (l : List Ms) (hl : ∀ m ∈ l, m.In) : (l.foldl Ct.ask x).Ok := by
  induction l generalizing x with
  | nil => exact h
  | cons m r ih => exact ih (h.ask (hl m List.mem_cons_self)) fun y hy => hl y (List.mem_cons_of_mem _ hy)
theorem asked_len : ∀ l : List Ms, (asked l).length ≤ l.length
  | [] => Nat.le_refl _
  | m :: r => by
    have := asked_len r
    unfold asked
    split
    · simp; omega
    · simp; omega
theorem asked_sub : ∀ l : List Ms, (asked l).Sublist l
  | [] => .refl _
  | m :: r => by
    unfold asked
    split
    · exact (asked_sub r).cons_cons _
    · exact (asked_sub r).cons _
theorem asked_may : ∀ l : List Ms, ∀ m ∈ asked l, mayAsk m = true
  | [], m, h => by cases h
  | y :: r, m, h => by
    unfold asked at h
    split at h
    · next e =>
      rcases List.mem_cons.1 h with rfl | h
      · exact (Bool.and_eq_true_iff.1 e).1
      · exact asked_may r m h
    · exact asked_may r m h
theorem asked_un : ∀ l : List Ms, (asked l).Pairwise fun a b => same a b = false
  | [] => .nil
  | y :: r => by
    unfold asked
    split
    · next e =>
      refine List.pairwise_cons.2 ⟨fun b hb => ?_, asked_un r⟩
      have hs : stayed r y = true := (Bool.and_eq_true_iff.1 e).2
      have h1 := List.all_eq_true.1 hs b ((asked_sub r).subset hb)
      rw [asked_may r b hb, Bool.true_and] at h1
      simpa using h1
    · exact asked_un r
/-- Two sides, and what each learned. -/
structure Tk where
  x0 : Ct
  x1 : Ct
  f0 : List Fa
  f1 : List Fa
def Tk.swap (t : Tk) : Tk := ⟨t.x1, t.x0, t.f1, t.f0⟩
/-- The first one says what it says next, if anything; the other one hears it. -/
def Tk.says (t : Tk) : Tk :=
  match t.x0.next.1 with
  | none => ⟨t.x0.next.2, t.x1, t.f0, t.f1⟩
  | some m => ⟨t.x0.next.2, (t.x1.hear1 m).1, t.f0, t.f1 ++ (t.x1.hear1 m).2⟩
def Tk.step (t : Tk) (i : Nat) : Tk := if i % 2 = 0 then t.says else t.swap.says.swap
def Tk.go (t : Tk) (i : Nat) : Nat → Tk
  | 0 => t
  | n + 1 => (t.step i).go (i + 1) n
theorem go_one (n : Nat) : ∀ (i : Nat) (t : Tk), t.go i (n + 1) = (t.go i n).step (i + n) := by
  induction n with
  | zero => intro i t; rfl
  | succ n ih =>
    intro i t
    show ((t.step i).go (i + 1) (n + 1)) = ((t.step i).go (i + 1) n).step _
    rw [ih, show i + 1 + n = i + (n + 1) by omega]
theorem go_add (m : Nat) : ∀ (n i : Nat) (t : Tk), t.go i (m + n) = (t.go i m).go (i + m) n := by
  induction m with
  | zero => intro n i t; rw [Nat.zero_add]; rfl
  | succ m ih =>
    intro n i t
    rw [show m + 1 + n = (m + n) + 1 by omega]
    show (t.step i).go (i + 1) (m + n) = ((t.step i).go (i + 1) m).go (i + (m + 1)) n
    rw [ih, show i + 1 + m = i + (m + 1) by omega]
theorem step_swap (t : Tk) (i : Nat) : t.step (i + 1) = (t.swap.step i).swap := by
  unfold Tk.step
  by_cases h : i % 2 = 0
  · rw [if_neg (by omega), if_pos h]
  · rw [if_pos (by omega), if_neg h]; rfl
theorem go_swap (n : Nat) : ∀ (i : Nat) (t : Tk), t.go (i + 1) n = (t.swap.go i n).swap := by
  induction n with
  | zero => intro i t; rfl
  | succ n ih =>
    intro i t
    show (t.step (i + 1)).go (i + 1 + 1) n = ((t.swap.step i).go (i + 1) n).swap
    rw [ih, step_swap]
    rfl
/-- What the other side learns of a command, and what comes back of it. -/
def heard (o : Pn.Pr) (m : Ms) : Fa := ⟨1, agreed o m⟩
def back (o : Pn.Pr) (m : Ms) : Fa := ⟨2, (agreed o m).cmd false⟩
theorem hear_cmd {x : Ct} (h : x.an = []) {a : Ms} (ha : Askable a) : x.hear1 a = ({ x with an := [(agreed x.own a).cmd false] }, [heard x.own a]) := by
  unfold Ct.hear1 Ct.command
  have h6 := ha.k
  rw [if_pos ha.c, h, if_neg (by simp; omega), if_neg (by omega)]
  rfl
theorem exch (t : Tk) (a : Ms) (L : List Ms) (h0 : t.x0.an = []) (hc : t.x0.cs = (a :: L).map fresh) (h1 : t.x1.an = []) (ha : Askable a) :
    t.says.swap.says.swap = ⟨{ t.x0 with cs := L.map fresh }, t.x1, t.f0 ++ [back t.x1.own a], t.f1 ++ [heard t.x1.own a]⟩ := by
  obtain ⟨⟨o0, t0, n0, an0, cs0⟩, ⟨o1, t1, n1, an1, cs1⟩, f0, f1⟩ := t
  dsimp only at h0 hc h1
  subst h0 hc h1
  have e1 : (⟨o0, t0, n0, [], (a :: L).map fresh⟩ : Ct).next = (some a, ⟨o0, t0, n0, [], ⟨a, 0, t0, true⟩ :: L.map fresh⟩) := rfl
  have e2 := hear_cmd (x := ⟨o1, t1, n1, [], cs1⟩) rfl ha
  dsimp only at e2
  have e3 : Tk.says ⟨⟨o0, t0, n0, [], (a :: L).map fresh⟩, ⟨o1, t1, n1, [], cs1⟩, f0, f1⟩ = ⟨⟨o0, t0, n0, [], ⟨a, 0, t0, true⟩ :: L.map fresh⟩, ⟨o1, t1, n1, [(agreed o1 a).cmd false], cs1⟩, f0, f1 ++ [heard o1 a]⟩ := by
    unfold Tk.says
    dsimp only
    rw [e1]
    dsimp only
    rw [e2]
  rw [e3]
  unfold Tk.swap
  dsimp only
  have e4 : (⟨o1, t1, n1, [(agreed o1 a).cmd false], cs1⟩ : Ct).next = (some ((agreed o1 a).cmd false), ⟨o1, t1, n1, [], cs1⟩) := rfl
  have e5 : (⟨o0, t0, n0, [], ⟨a, 0, t0, true⟩ :: L.map fresh⟩ : Ct).hear1 ((agreed o1 a).cmd false) = (⟨o0, t0, n0, [], L.map fresh⟩, [back o1 a]) := by
    unfold Ct.hear1
    rw [if_neg (show ¬ ((agreed o1 a).cmd false).c = true from Bool.false_ne_true)]
    unfold Ct.response
    dsimp only
    have : resp ((agreed o1 a).cmd false) (⟨a, 0, t0, true⟩ :: L.map fresh) = (L.map fresh, [back o1 a]) := by
      unfold resp
      rw [if_pos (by rw [answers_agreed]; rfl)]
      rfl
    rw [this]
  unfold Tk.says
  dsimp only
  rw [e4]
  dsimp only
  rw [e5]
theorem quiet (t : Tk) (h0 : t.x0.an = []) (hc : t.x0.cs = []) : t.says = t := by
  obtain ⟨⟨o0, t0, n0, an0, cs0⟩, x1, f0, f1⟩ := t
  dsimp only at h0 hc
  subst h0 hc
  rfl
theorem phase : ∀ (A : List Ms) (t : Tk) (i : Nat), i % 2 = 0 → t.x0.an = [] → t.x0.cs = A.map fresh → t.x1.an = [] → (∀ a ∈ A, Askable a) →
    t.go i (2 * A.length) = ⟨{ t.x0 with cs := [] }, t.x1, t.f0 ++ A.map (back t.x1.own), t.f1 ++ A.map (heard t.x1.own)⟩
  | [], t, i, _, h0, hc, h1, _ => by
    obtain ⟨⟨o0, t0, n0, an0, cs0⟩, x1, f0, f1⟩ := t
    dsimp only at h0 hc
    subst h0 hc
    show (⟨_, _, _, _⟩ : Tk) = _
    simp
  | a :: L, t, i, hi, h0, hc, h1, ha => by
    have e : 2 * (a :: L).length = 2 * L.length + 1 + 1 := by rw [List.length_cons]; omega
    rw [e]
    show ((t.step i).step (i + 1)).go (i + 1 + 1) (2 * L.length) = _
    have e1 : (t.step i).step (i + 1) = t.says.swap.says.swap := by
      unfold Tk.step
      rw [if_pos hi, if_neg (by omega)]
    rw [e1, exch t a L h0 hc h1 (ha a List.mem_cons_self)]
    refine (phase L ⟨{ t.x0 with cs := L.map fresh }, t.x1, t.f0 ++ [back t.x1.own a], t.f1 ++ [heard t.x1.own a]⟩ (i + 1 + 1) (by omega) h0 rfl h1 fun y hy => ha y (List.mem_cons_of_mem _ hy)).trans ?_
    simp
theorem rest (n : Nat) : ∀ (t : Tk) (i : Nat), t.x0.an = [] → t.x0.cs = [] → t.x1.an = [] → t.x1.cs = [] → t.go i n = t := by
  induction n with
  | zero => intro t i _ _ _ _; rfl
  | succ n ih =>
    intro t i h0 h1 h2 h3
    show (t.step i).go (i + 1) n = t
    have : t.step i = t := by
      unfold Tk.step
      split
      · exact quiet t h0 h1
      · rw [quiet t.swap h2 h3]; rfl
    rw [this]
    exact ih t _ h0 h1 h2 h3
/-- All that two sides were asked for is heard, and answered, once. -/
theorem meet (x0 x1 : Ct) (A B : List Ms) (hA : ∀ a ∈ A, Askable a) (hB : ∀ a ∈ B, Askable a) (a0 : x0.an = []) (a1 : x1.an = []) (c0 : x0.cs = A.map fresh) (c1 : x1.cs = B.map fresh)
    (n : Nat) (hn : 2 * A.length + 1 + 2 * B.length ≤ n) : (⟨x0, x1, [], []⟩ : Tk).go 0 n = ⟨{ x0 with cs := [] }, { x1 with cs := [] }, A.map (back x1.own) ++ B.map (heard x0.own), A.map (heard x1.own) ++ B.map (back x0.own)⟩ := by
  obtain ⟨d, rfl⟩ : ∃ d, n = 2 * A.length + (1 + (2 * B.length + d)) := ⟨n - (2 * A.length + 1 + 2 * B.length), by omega⟩
  rw [go_add, phase A _ 0 rfl a0 c0 a1 hA, go_add]
  have e1 : ∀ t : Tk, t.go (0 + 2 * A.length) 1 = t.says := fun t => by
    show t.step _ = _
    unfold Tk.step
    rw [if_pos (by omega)]
  rw [e1, quiet _ a0 rfl, go_add, go_swap, phase B _ _ (by omega) a1 c1 a0 hB]
  rw [rest _ _ _ a0 rfl a1 rfl]
  simp [Tk.swap]
/-- How many facts of a kind tell of a command. -/
def cnt (k : Nat) (m : Ms) (l : List Fa) : Nat := (l.filter fun f => (f.k == k) && same f.m m).length
theorem cnt_app (k : Nat) (m : Ms) (l l' : List Fa) : cnt k m (l ++ l') = cnt k m l + cnt k m l' := by
  unfold cnt; rw [List.filter_append, List.length_append]
theorem cnt_map {k j : Nat} {m : Ms} {f : Ms → Ms} (hf : ∀ a, same (f a) m = same a m) : ∀ L : List Ms, cnt k m (L.map fun a => ⟨j, f a⟩) = if j = k then (L.filter fun a => same a m).length else 0
  | [] => by split <;> rfl
  | a :: L => by
    have ih := cnt_map (k := k) (j := j) hf L
    unfold cnt at ih ⊢
    rw [List.map_cons]
    by_cases e : j = k
    · rw [if_pos e] at ih ⊢
      have e1 : ((⟨j, f a⟩ : Fa).k == k) = true := by rw [beq_iff_eq]; exact e
      cases h : same a m with
      | true => rw [List.filter_cons_of_pos (by rw [e1, hf, h]; rfl), List.filter_cons_of_pos (p := fun a => same a m) h, List.length_cons, List.length_cons, ih]
      | false => rw [List.filter_cons_of_neg (by rw [e1, hf, h]; decide), List.filter_cons_of_neg (p := fun a => same a m) (by rw [h]; decide), ih]
    · rw [if_neg e] at ih ⊢
      have e1 : ((⟨j, f a⟩ : Fa).k == k) = false := beq_eq_false_iff_ne.2 e
      rw [List.filter_cons_of_neg (by rw [e1, Bool.false_and]; exact Bool.false_ne_true), ih]
theorem same_back (o : Pn.Pr) (a m : Ms) : same (back o a).m m = same a m := by
  unfold same back
  dsimp only
  rw [cmd_ch, agreed_ch]
  have : ((agreed o a).cmd false).k = a.k := agreed_k o a
  rw [this]
theorem same_heard (o : Pn.Pr) (a m : Ms) : same (heard o a).m m = same a m := by
  unfold same heard
  dsimp only
  rw [agreed_ch, agreed_k]
theorem one_of_un {m : Ms} : ∀ L : List Ms, (L.Pairwise fun a b => same a b = false) → m ∈ L → (L.filter fun a => same a m).length = 1
  | a :: L, hu, hm => by
    obtain ⟨h1, h2⟩ := List.pairwise_cons.1 hu
    rcases List.mem_cons.1 hm with rfl | hm
    · have : L.filter (fun b => same b m) = [] := List.filter_eq_nil_iff.2 fun b hb => by
        rw [same_comm, h1 b hb]; decide
      rw [List.filter_cons_of_pos (p := fun a => same a m) (same_self m), this]; rfl
    · have : same a m = false := h1 m hm
      rw [List.filter_cons_of_neg (p := fun a => same a m) (by rw [this]; decide)]
      exact one_of_un L h2 hm
/-- What the theorem asks of what each side learned. -/
theorem met_counts {A B : List Ms} (hA : A.Pairwise fun a b => same a b = false) {o p : Pn.Pr} {m : Ms} (hm : m ∈ A) :
    cnt 2 m (A.map (back o) ++ B.map (heard p)) = 1 ∧ cnt 1 m (A.map (heard o) ++ B.map (back p)) = 1 := by
  have b1 := cnt_map (k := 2) (j := 2) (m := m) (f := fun a => (agreed o a).cmd false) (fun a => same_back o a m) A
  have b2 := cnt_map (k := 2) (j := 1) (m := m) (f := fun a => agreed p a) (fun a => same_heard p a m) B
  have b3 := cnt_map (k := 1) (j := 1) (m := m) (f := fun a => agreed o a) (fun a => same_heard o a m) A
  have b4 := cnt_map (k := 1) (j := 2) (m := m) (f := fun a => (agreed p a).cmd false) (fun a => same_back p a m) B
  have h1 := one_of_un A hA hm
  rw [if_pos rfl, h1] at b1 b3
  rw [if_neg (by decide)] at b2 b4
  rw [cnt_app, cnt_app]
  refine ⟨?_, ?_⟩
  · show cnt 2 m (A.map fun a => ⟨2, (agreed o a).cmd false⟩) + cnt 2 m (B.map fun a => ⟨1, agreed p a⟩) = 1
    rw [b1, b2]
  · show cnt 1 m (A.map fun a => ⟨1, agreed o a⟩) + cnt 1 m (B.map fun a => ⟨2, (agreed p a).cmd false⟩) = 1
    rw [b3, b4]
theorem met_counts' {A B : List Ms} (hB : B.Pairwise fun a b => same a b = false) {o p : Pn.Pr} {m : Ms} (hm : m ∈ B) :
    cnt 2 m (A.map (heard o) ++ B.map (back p)) = 1 ∧ cnt 1 m (A.map (back o) ++ B.map (heard p)) = 1 := by
  obtain ⟨h1, h2⟩ := met_counts (A := B) (B := A) hB (o := p) (p := o) hm
  rw [cnt_app] at h1 h2 ⊢
  rw [cnt_app]
  exact ⟨by omega, by omega⟩
/-- Parameters are lowered to what both have. -/
theorem back_low {A B : List Ms} {o p : Pn.Pr} {f : Fa} (hf : f ∈ A.map (back (brought o)) ++ B.map (heard p)) (hk : f.k = 2) (h1 : f.m.k = 1) : f.m.p.n ≤ max 1 o.n ∧ f.m.p.k ≤ max 1 o.k := by
  rcases List.mem_append.1 hf with hf | hf
  · obtain ⟨a, _, rfl⟩ := List.mem_map.1 hf
    have hak : a.k = 1 := (agreed_k (brought o) a).symm.trans h1
    have e : (back (brought o) a).m.p = Pn.agree (brought o) a.p := by unfold back agreed; rw [if_pos hak]; rfl
    rw [e]
    show min (min (max o.n 1) 65535) a.p.n ≤ _ ∧ min (min (max o.k 1) 7) a.p.k ≤ _
    omega
  · obtain ⟨a, _, rfl⟩ := List.mem_map.1 hf
    exact absurd hk (by show ¬ (1 : Nat) = 2; decide)
/-- A side's own steps keep it as it should be. -/
theorem says_ok {t : Tk} (h0 : t.x0.Ok) (h1 : t.x1.Ok) : t.says.x0.Ok ∧ t.says.x1.Ok := by
  unfold Tk.says
  split
  · exact ⟨h0.next, h1⟩
  · next m e => exact ⟨h0.next, h1.hear1 (next_ok h0 e)⟩
theorem step_ok {t : Tk} (h0 : t.x0.Ok) (h1 : t.x1.Ok) (i : Nat) : (t.step i).x0.Ok ∧ (t.step i).x1.Ok := by
  unfold Tk.step
  split
  · exact says_ok h0 h1
  · have := says_ok (t := t.swap) h1 h0
    exact ⟨this.2, this.1⟩
/-- Commands, all alike in their tries, ticks and whether they were said. -/
def row (L : List Ms) (k lf : Nat) (sd : Bool) : List Wt := L.map fun m => ⟨m, k, lf, sd⟩
theorem say_row (t2 k : Nat) (ht : t2 ≠ 0) (sd : Bool) (m : Ms) (B : List Ms) : ∀ A : List Ms, say t2 (row A k t2 true ++ row (m :: B) k 0 sd) = (some m, row (A ++ [m]) k t2 true ++ row B k 0 sd)
  | [] => rfl
  | a :: A => by
    show say t2 (⟨a, k, t2, true⟩ :: (row A k t2 true ++ row (m :: B) k 0 sd)) = _
    unfold say
    rw [if_neg ht, say_row t2 k ht sd m B A]
    rfl
theorem say_none (t2 k lf : Nat) (hl : lf ≠ 0) (sd : Bool) : ∀ A : List Ms, say t2 (row A k lf sd) = (none, row A k lf sd)
  | [] => rfl
  | a :: A => by
    show say t2 (⟨a, k, lf, sd⟩ :: row A k lf sd) = _
    unfold say
    rw [if_neg hl, say_none t2 k lf hl sd A]
    rfl
theorem ticks_row (n2 k lf : Nat) (hl : lf ≠ 1) (sd : Bool) : ∀ A : List Ms, ticks n2 (row A k lf sd) = (row A k (lf - 1) sd, [])
  | [] => rfl
  | a :: A => by
    show ticks n2 (⟨a, k, lf, sd⟩ :: row A k lf sd) = _
    unfold ticks
    rw [if_pos hl, ticks_row n2 k lf hl sd A]
    rfl
theorem ticks_more (n2 k : Nat) (hk : k + 1 ≤ n2) (sd : Bool) : ∀ A : List Ms, ticks n2 (row A k 1 sd) = (row A (k + 1) 0 sd, [])
  | [] => rfl
  | a :: A => by
    show ticks n2 (⟨a, k, 1, sd⟩ :: row A k 1 sd) = _
    unfold ticks
    rw [if_neg (by simp), if_neg (by show ¬ n2 < k + 1; omega), ticks_more n2 k hk sd A]
    rfl
theorem ticks_lost (n2 k : Nat) (hk : n2 < k + 1) (sd : Bool) : ∀ A : List Ms, ticks n2 (row A k 1 sd) = ([], A.map fun m => ⟨4, m⟩)
  | [] => rfl
  | a :: A => by
    show ticks n2 (⟨a, k, 1, sd⟩ :: row A k 1 sd) = _
    unfold ticks
    rw [if_neg (by simp), if_pos (show n2 < k + 1 from hk), ticks_lost n2 k hk sd A]
    rfl
theorem lost_one {A : List Ms} (hA : A.Pairwise fun a b => same a b = false) {m : Ms} (hm : m ∈ A) : cnt 4 m (A.map fun m => ⟨4, m⟩) = 1 := by
  have := cnt_map (k := 4) (j := 4) (m := m) (f := fun a => a) (fun _ => rfl) A
  rw [if_pos rfl, one_of_un A hA hm] at this
  exact this
/-- Others were asked for, and one behind them. -/
theorem give_start (own : Pn.Pr) (t2 n2 : Int) (l : List Ms) (m : Ms) (hm : mayAsk m = true) : ∃ A : List Ms, ((l.foldl Ct.ask (Ct.new own t2 n2)).ask m).cs = row (A ++ [m]) 0 0 false ∧ A.length ≤ l.length := by
  have h := asks (Ct.new own t2 n2) (l ++ [m])
  rw [List.foldl_append] at h
  have e0 : (Ct.new own t2 n2).cs = [] := rfl
  rw [e0, List.filter_nil, List.nil_append] at h
  refine ⟨(asked l).filter fun a => !same a m, ?_, Nat.le_trans (List.length_filter_le _ _) (asked_len l)⟩
  have h2 := asks (Ct.new own t2 n2) l
  rw [e0, List.filter_nil, List.nil_append] at h2
  show ((l.foldl Ct.ask (Ct.new own t2 n2)).ask m).cs = _
  unfold Ct.ask
  rw [if_pos hm]
  show put (l.foldl Ct.ask (Ct.new own t2 n2)).cs m = _
  rw [h2]
  unfold put row
  rw [List.map_append, List.filter_map]
  rfl
end Go.Proofs.YtakkhdammmcjcaaDoor.Ctl
/-
  What the library's copy of a string answers, at this program: the library's contract, laid. Condition: at most 2^48 bytes.
-/
namespace Go.Proofs
open Go.Shelf
def Tryd.laysM316_ren : Go.Shelf.Ren := ⟨fun | 316 => 39 | n => n, fun | 9 => 9 | 3 => 3 | 4 => 4 | 37 => 99 | 0 => 0 | 127 => 103 | 5 => 5 | n => n, fun | n => n⟩
theorem Tryd.laysM316 : Go.Proofs.LaysM.n316 Tryd.prog Tryd.laysM316_ren := {
  mixed := by kernel_rfl
  f316 := Tryd.func39.trans (congrArg some (by kernel_rfl))
  t0 := Tryd.underlying0
  a0 := Tryd.isAgg0
  z0 := Tryd.sizeOf0
  v0 := Tryd.zeroValue0
  t3 := Tryd.underlying3
  a3 := Tryd.isAgg3
  z3 := Tryd.sizeOf3
  v3 := Tryd.zeroValue3
  t4 := Tryd.underlying4
  a4 := Tryd.isAgg4
  z4 := Tryd.sizeOf4
  v4 := Tryd.zeroValue4
  t9 := Tryd.underlying9
  a9 := Tryd.isAgg9
  z9 := Tryd.sizeOf9
  v9 := Tryd.zeroValue9
  t37 := Tryd.underlying99
  a37 := Tryd.isAgg99
  z37 := Tryd.sizeOf99
  v37 := Tryd.zeroValue99
  t127 := Tryd.underlying103
  a127 := Tryd.isAgg103
  z127 := Tryd.sizeOf103
  v127 := Tryd.zeroValue103
  t5 := Tryd.underlying5
  a5 := Tryd.isAgg5
  z5 := Tryd.sizeOf5
  v5 := Tryd.zeroValue5
  i0 := by kernel_rfl
  i3 := by kernel_rfl
  i4 := by kernel_rfl
  i5 := by kernel_rfl
  i9 := by kernel_rfl
  i37 := by kernel_rfl
  i127 := by kernel_rfl }
open Go.RowKit in
theorem Tryd.stringslite_Clone (s : ByteArray) (w : World) (hlim : s.size ≤ 281474976710656) :
    Calls Tryd.prog 39 #[.string s] w fun e w' => e = .returned (.string s) ∧ Below w.heap.size w w' := Any.stringslite_Clone Tryd.laysM316 s w hlim
end Go.Proofs

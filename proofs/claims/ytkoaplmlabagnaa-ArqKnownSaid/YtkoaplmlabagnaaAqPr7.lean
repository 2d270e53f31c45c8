/-
  A new pair of sides; a step of any kind. Condition: the numbers may be; the pair is in order, and few were pushed.
-/
import Derived.Test.YtkoaplmlabagnaaTk
import Derived.Test.YtkoaplmlabagnaaAqPr6
namespace Go.Proofs.Ytkoaplmlabagnaa.Aq
open Go.RowKit Go.Proofs.Ytkoaplmlabagnaa.Base Go.Proofs.Ytkoaplmlabagnaa.Mem
/-- A region whose operations may come in many orders, as states: each is met but once. -/
theorem region_states {P : Program} {md : Region.Mode} {ops : Array Oper} {Q : Exit → Act → World → Prop} {S : World → Prop} {σ : Type} (μ : σ → Nat) (L : σ → Array Bool) (A : σ → Act) (R : σ → World → Prop) (base : Nat)
    (hstep : ∀ m s W, μ s = m + 1 → R s W → (∀ s' W', μ s' = m → R s' W' → wpAnyH P md ops Q S (m + base) (L s') (A s') W') → wpAnyH P md ops Q S (m + base + 1) (L s) (A s) W)
    (hend : ∀ s W, μ s = 0 → R s W → wpAnyH P md ops Q S base (L s) (A s) W) (n : Nat) (s : σ) (W : World) (hn : μ s = n) (hR : R s W) : wpAnyH P md ops Q S (n + base) (L s) (A s) W := by
  induction n generalizing s W with
  | zero => rw [Nat.zero_add]; exact hend s W hn hR
  | succ n ih =>
    have := hstep n s W hn hR ih
    rw [show n + 1 + base = n + base + 1 by omega]
    exact this
/-- Blocks that were made, one behind another, and what they hold. -/
structure Blks (w0 W : World) (l : List (Option (Nat × Obj))) : Prop where
  below : Below w0.heap.size w0 W
  at_ : ∀ b o, some (b, o) ∈ l → w0.heap.size ≤ b ∧ W.heap[b]? = some o
  apart : ∀ (i j b : Nat) (o o' : Obj), l[i]? = some (some (b, o)) → l[j]? = some (some (b, o')) → i = j
theorem Blks.step {w0 W W' : World} {l : List (Option (Nat × Obj))} (h : Blks w0 W l) (hb : Below W.heap.size W W') {o : Obj} (ho : W'.heap[W.heap.size]? = some o) (i : Nat) : Blks w0 W' (l.set i (some (W.heap.size, o))) := by
  have old : ∀ b o, some (b, o) ∈ l → b < W.heap.size := fun b o hb => lt_heap (h.at_ b o hb).2
  refine ⟨below_on h.below hb, fun b u hb' => ?_, fun x y b u u' hx hy => ?_⟩
  · rcases List.mem_or_eq_of_mem_set hb' with hm | hm
    · exact ⟨(h.at_ b u hm).1, stays (h.at_ b u hm).2 hb⟩
    · cases hm
      exact ⟨h.below.size, ho⟩
  · rw [List.getElem?_set] at hx hy
    by_cases h1 : i = x
    · by_cases h2 : i = y
      · omega
      · rw [if_neg h2] at hy
        rw [if_pos h1] at hx
        have := old b u' (List.mem_of_getElem? hy)
        split at hx
        · cases hx; omega
        · cases hx
    · rw [if_neg h1] at hx
      have := old b u (List.mem_of_getElem? hx)
      by_cases h2 : i = y
      · rw [if_pos h2] at hy
        split at hy
        · cases hy; omega
        · cases hy
      · rw [if_neg h2] at hy
        exact h.apart x y b u u' hx hy
/-- Which of a new pair's blocks there are. -/
structure Nst where
  o0 : Option Nat
  o1 : Option Nat
  o2 : Option Nat
  o3 : Option Nat
  o4 : Option Nat
  o5 : Option Nat
def va : Option Nat → Value
  | none => undef
  | some b => ptr b
def vs : Option Nat → Value
  | none => undef
  | some b => two b
def Nst.left (s : Nst) : Nat := s.o0.isNone.toNat + s.o1.isNone.toNat + s.o2.isNone.toNat + s.o3.isNone.toNat + s.o4.isNone.toNat + s.o5.isNone.toNat
abbrev sdO (k n2 t1 : Nat) : Obj := .cells (acs (Ps.new k n2 t1) (.slice none 0 0)) 67 (0, 0)
abbrev baO (u v : Value) : Obj := .cells #[u, v] 28 (0, 0)
abbrev blO : Obj := .cells #[.slice none 0 0, .slice none 0 0] 88 (0, 0)
abbrev buO : Obj := .cells #[.int .i64 0, .int .i64 0] 3 (0, 0)
def Nst.l (k n2 t1 : Nat) (s : Nst) : List (Option (Nat × Obj)) := [s.o0.map fun b => (b, sdO k n2 t1), s.o1.map fun b => (b, sdO k n2 t1), s.o2.map fun b => (b, baO (va s.o0) (va s.o1)), s.o3.map fun b => (b, blO), s.o4.map fun b => (b, buO), s.o5.map fun b => (b, buO)]
structure NAt (k n2 t1 : Nat) (w : World) (s : Nst) (W : World) : Prop where
  c1 : s.o1.isSome = true → s.o0.isSome = true
  c2 : s.o2.isSome = true → s.o1.isSome = true
  b : Blks w W (s.l k n2 t1)
theorem made_as {w W : World} {l : List (Option (Nat × Obj))} {c c' : Array Value} {T : TypeId} (h : c' = c) (hb : Blks w (W.alloc (.cells c T (0, 0))) l) : Blks w (W.alloc (.cells c' T (0, 0))) l := by
  subst h
  exact hb
set_option maxHeartbeats 8000000 in
set_option maxRecDepth 100000 in
theorem fnewPair (k n2 t1 : Nat) (hm : mayN k n2 t1) (w : World) :
    Calls Try.prog 16 #[nm k, nm n2, nm t1] w fun e w' => ∃ b, e = .returned (ptr b.tb) ∧ PrE w b (newP k n2 t1) w' := by
  have CN : Hid (∀ w, Calls Try.prog 8 #[.int .i64 (k : Int), .int .i64 (n2 : Int), .int .i64 (t1 : Int)] w fun e w' => e = .returned (ptr w.heap.size) ∧ PAt w' w.heap.size (Ps.new k n2 t1) (.slice none 0 0) ∧ Below w.heap.size w w') := Lib.hid (fun w => fnew_ok k n2 t1 hm w)
  clear hm
  go_enter Try.func16, Try.ntmps16
  go_wp2_with fail
  refine wp_region_held_drew (S := (fun _ => True)) (by kernel_rfl) trivial (fun hHeld => ?_)
  refine' tk 0 ⟨some 7, .move (.tmp 0), 3, "law.go:113", #[], none⟩ ?_
  simp only [Act.put, z1', z2', z3']
  refine' tk 1 ⟨some 8, .move (.tmp 1), 3, "law.go:113", #[], none⟩ ?_
  simp only [Act.put, z1', z2', z3']
  refine' tk 2 ⟨some 9, .move (.tmp 2), 3, "law.go:113", #[], none⟩ ?_
  simp only [Act.put, z1', z2', z3']
  refine' tk 4 ⟨some 11, .move (.tmp 0), 3, "law.go:113", #[], none⟩ ?_
  simp only [Act.put, z1', z2', z3']
  refine' tk 5 ⟨some 12, .move (.tmp 1), 3, "law.go:113", #[], none⟩ ?_
  simp only [Act.put, z1', z2', z3']
  refine' tk 6 ⟨some 13, .move (.tmp 2), 3, "law.go:113", #[], none⟩ ?_
  simp only [Act.put, z1', z2', z3']
  refine region_states Nst.left (fun s => #[true, true, true, s.o0.isSome, true, true, true, s.o1.isSome, s.o2.isSome, s.o3.isSome, s.o4.isSome, s.o5.isSome, false, false, false])
    (fun s => ⟨#[nm k, nm n2, nm t1, undef, undef, undef, .pointer none, nm k, nm n2, nm t1, va s.o0, nm k, nm n2, nm t1, va s.o1, vs s.o2, vs s.o3, vs s.o4, vs s.o5, undef, undef], []⟩) (NAt k n2 t1 w) 3 ?hstep ?hend 6 ⟨none, none, none, none, none, none⟩ _ rfl ⟨(fun e => by cases e), (fun e => by cases e), ⟨⟨rfl, rfl, rfl, Nat.le_refl _, fun _ _ => rfl⟩, (fun b o hb => by simp [Nst.l] at hb), fun i j b o o' hi hj => by
      have := List.mem_of_getElem? hi
      simp [Nst.l] at this⟩⟩
  case hstep =>
    rintro m ⟨o0, o1, o2, o3, o4, o5⟩ W hc ⟨hc1, hc2, hG⟩ ih
    rcases o0 with _ | b0 <;> rcases o1 with _ | b1 <;> rcases o2 with _ | b2 <;> rcases o3 with _ | b3 <;> rcases o4 with _ | b4 <;> rcases o5 with _ | b5
    · dsimp only [va, vs, Option.isSome]
      refine ry [3, 9, 10, 11] ?_
      refine AllReadyH.cons rfl (fun K hK => ?_) (AllReadyH.cons rfl (fun K hK => ?_) (AllReadyH.cons rfl (fun K hK => ?_) (AllReadyH.cons rfl (fun K hK => ?_) (AllReadyH.nil))))
      · go_simp
        refine (CN.out _).mono ?_
        rintro _ W2 ⟨rfl, hp, hb⟩
        go_wp2_with fail
        refine hK.out _ _ trivial (fun _ => ?_)
        exact ih ⟨(some W.heap.size), none, none, none, none, none⟩ _ (by simp only [Nst.left, Option.isNone, Bool.toNat_true, Bool.toNat_false] at hc ⊢; omega) ⟨(fun _ => rfl), (fun e => by cases e), hG.step hb hp.blk 0⟩
      · go_simp
        refine hK.out _ _ trivial (fun _ => ?_)
        exact ih ⟨none, none, none, (some W.heap.size), none, none⟩ _ (by simp only [Nst.left, Option.isNone, Bool.toNat_true, Bool.toNat_false] at hc ⊢; omega) ⟨(fun e => by cases e), (fun e => by cases e), made_as (by kernel_rfl) (hG.step (o := blO) ((Below.refl _ _).alloc (Nat.le_refl _) _) (nest W [_] 0 _ rfl) 3)⟩
      · go_simp
        refine hK.out _ _ trivial (fun _ => ?_)
        exact ih ⟨none, none, none, none, (some W.heap.size), none⟩ _ (by simp only [Nst.left, Option.isNone, Bool.toNat_true, Bool.toNat_false] at hc ⊢; omega) ⟨(fun e => by cases e), (fun e => by cases e), made_as (by kernel_rfl) (hG.step (o := buO) ((Below.refl _ _).alloc (Nat.le_refl _) _) (nest W [_] 0 _ rfl) 4)⟩
      · go_simp
        refine hK.out _ _ trivial (fun _ => ?_)
        exact ih ⟨none, none, none, none, none, (some W.heap.size)⟩ _ (by simp only [Nst.left, Option.isNone, Bool.toNat_true, Bool.toNat_false] at hc ⊢; omega) ⟨(fun e => by cases e), (fun e => by cases e), made_as (by kernel_rfl) (hG.step (o := buO) ((Below.refl _ _).alloc (Nat.le_refl _) _) (nest W [_] 0 _ rfl) 5)⟩
    · dsimp only [va, vs, Option.isSome]
      refine ry [3, 9, 10] ?_
      refine AllReadyH.cons rfl (fun K hK => ?_) (AllReadyH.cons rfl (fun K hK => ?_) (AllReadyH.cons rfl (fun K hK => ?_) (AllReadyH.nil)))
      · go_simp
        refine (CN.out _).mono ?_
        rintro _ W2 ⟨rfl, hp, hb⟩
        go_wp2_with fail
        refine hK.out _ _ trivial (fun _ => ?_)
        exact ih ⟨(some W.heap.size), none, none, none, none, (some b5)⟩ _ (by simp only [Nst.left, Option.isNone, Bool.toNat_true, Bool.toNat_false] at hc ⊢; omega) ⟨(fun _ => rfl), (fun e => by cases e), hG.step hb hp.blk 0⟩
      · go_simp
        refine hK.out _ _ trivial (fun _ => ?_)
        exact ih ⟨none, none, none, (some W.heap.size), none, (some b5)⟩ _ (by simp only [Nst.left, Option.isNone, Bool.toNat_true, Bool.toNat_false] at hc ⊢; omega) ⟨(fun e => by cases e), (fun e => by cases e), made_as (by kernel_rfl) (hG.step (o := blO) ((Below.refl _ _).alloc (Nat.le_refl _) _) (nest W [_] 0 _ rfl) 3)⟩
      · go_simp
        refine hK.out _ _ trivial (fun _ => ?_)
        exact ih ⟨none, none, none, none, (some W.heap.size), (some b5)⟩ _ (by simp only [Nst.left, Option.isNone, Bool.toNat_true, Bool.toNat_false] at hc ⊢; omega) ⟨(fun e => by cases e), (fun e => by cases e), made_as (by kernel_rfl) (hG.step (o := buO) ((Below.refl _ _).alloc (Nat.le_refl _) _) (nest W [_] 0 _ rfl) 4)⟩
    · dsimp only [va, vs, Option.isSome]
      refine ry [3, 9, 11] ?_
      refine AllReadyH.cons rfl (fun K hK => ?_) (AllReadyH.cons rfl (fun K hK => ?_) (AllReadyH.cons rfl (fun K hK => ?_) (AllReadyH.nil)))
      · go_simp
        refine (CN.out _).mono ?_
        rintro _ W2 ⟨rfl, hp, hb⟩
        go_wp2_with fail
        refine hK.out _ _ trivial (fun _ => ?_)
        exact ih ⟨(some W.heap.size), none, none, none, (some b4), none⟩ _ (by simp only [Nst.left, Option.isNone, Bool.toNat_true, Bool.toNat_false] at hc ⊢; omega) ⟨(fun _ => rfl), (fun e => by cases e), hG.step hb hp.blk 0⟩
      · go_simp
        refine hK.out _ _ trivial (fun _ => ?_)
        exact ih ⟨none, none, none, (some W.heap.size), (some b4), none⟩ _ (by simp only [Nst.left, Option.isNone, Bool.toNat_true, Bool.toNat_false] at hc ⊢; omega) ⟨(fun e => by cases e), (fun e => by cases e), made_as (by kernel_rfl) (hG.step (o := blO) ((Below.refl _ _).alloc (Nat.le_refl _) _) (nest W [_] 0 _ rfl) 3)⟩
      · go_simp
        refine hK.out _ _ trivial (fun _ => ?_)
        exact ih ⟨none, none, none, none, (some b4), (some W.heap.size)⟩ _ (by simp only [Nst.left, Option.isNone, Bool.toNat_true, Bool.toNat_false] at hc ⊢; omega) ⟨(fun e => by cases e), (fun e => by cases e), made_as (by kernel_rfl) (hG.step (o := buO) ((Below.refl _ _).alloc (Nat.le_refl _) _) (nest W [_] 0 _ rfl) 5)⟩
    · dsimp only [va, vs, Option.isSome]
      refine ry [3, 9] ?_
      refine AllReadyH.cons rfl (fun K hK => ?_) (AllReadyH.cons rfl (fun K hK => ?_) (AllReadyH.nil))
      · go_simp
        refine (CN.out _).mono ?_
        rintro _ W2 ⟨rfl, hp, hb⟩
        go_wp2_with fail
        refine hK.out _ _ trivial (fun _ => ?_)
        exact ih ⟨(some W.heap.size), none, none, none, (some b4), (some b5)⟩ _ (by simp only [Nst.left, Option.isNone, Bool.toNat_true, Bool.toNat_false] at hc ⊢; omega) ⟨(fun _ => rfl), (fun e => by cases e), hG.step hb hp.blk 0⟩
      · go_simp
        refine hK.out _ _ trivial (fun _ => ?_)
        exact ih ⟨none, none, none, (some W.heap.size), (some b4), (some b5)⟩ _ (by simp only [Nst.left, Option.isNone, Bool.toNat_true, Bool.toNat_false] at hc ⊢; omega) ⟨(fun e => by cases e), (fun e => by cases e), made_as (by kernel_rfl) (hG.step (o := blO) ((Below.refl _ _).alloc (Nat.le_refl _) _) (nest W [_] 0 _ rfl) 3)⟩
    · dsimp only [va, vs, Option.isSome]
      refine ry [3, 10, 11] ?_
      refine AllReadyH.cons rfl (fun K hK => ?_) (AllReadyH.cons rfl (fun K hK => ?_) (AllReadyH.cons rfl (fun K hK => ?_) (AllReadyH.nil)))
      · go_simp
        refine (CN.out _).mono ?_
        rintro _ W2 ⟨rfl, hp, hb⟩
        go_wp2_with fail
        refine hK.out _ _ trivial (fun _ => ?_)
        exact ih ⟨(some W.heap.size), none, none, (some b3), none, none⟩ _ (by simp only [Nst.left, Option.isNone, Bool.toNat_true, Bool.toNat_false] at hc ⊢; omega) ⟨(fun _ => rfl), (fun e => by cases e), hG.step hb hp.blk 0⟩
      · go_simp
        refine hK.out _ _ trivial (fun _ => ?_)
        exact ih ⟨none, none, none, (some b3), (some W.heap.size), none⟩ _ (by simp only [Nst.left, Option.isNone, Bool.toNat_true, Bool.toNat_false] at hc ⊢; omega) ⟨(fun e => by cases e), (fun e => by cases e), made_as (by kernel_rfl) (hG.step (o := buO) ((Below.refl _ _).alloc (Nat.le_refl _) _) (nest W [_] 0 _ rfl) 4)⟩
      · go_simp
        refine hK.out _ _ trivial (fun _ => ?_)
        exact ih ⟨none, none, none, (some b3), none, (some W.heap.size)⟩ _ (by simp only [Nst.left, Option.isNone, Bool.toNat_true, Bool.toNat_false] at hc ⊢; omega) ⟨(fun e => by cases e), (fun e => by cases e), made_as (by kernel_rfl) (hG.step (o := buO) ((Below.refl _ _).alloc (Nat.le_refl _) _) (nest W [_] 0 _ rfl) 5)⟩
    · dsimp only [va, vs, Option.isSome]
      refine ry [3, 10] ?_
      refine AllReadyH.cons rfl (fun K hK => ?_) (AllReadyH.cons rfl (fun K hK => ?_) (AllReadyH.nil))
      · go_simp
        refine (CN.out _).mono ?_
        rintro _ W2 ⟨rfl, hp, hb⟩
        go_wp2_with fail
        refine hK.out _ _ trivial (fun _ => ?_)
        exact ih ⟨(some W.heap.size), none, none, (some b3), none, (some b5)⟩ _ (by simp only [Nst.left, Option.isNone, Bool.toNat_true, Bool.toNat_false] at hc ⊢; omega) ⟨(fun _ => rfl), (fun e => by cases e), hG.step hb hp.blk 0⟩
      · go_simp
        refine hK.out _ _ trivial (fun _ => ?_)
        exact ih ⟨none, none, none, (some b3), (some W.heap.size), (some b5)⟩ _ (by simp only [Nst.left, Option.isNone, Bool.toNat_true, Bool.toNat_false] at hc ⊢; omega) ⟨(fun e => by cases e), (fun e => by cases e), made_as (by kernel_rfl) (hG.step (o := buO) ((Below.refl _ _).alloc (Nat.le_refl _) _) (nest W [_] 0 _ rfl) 4)⟩
    · dsimp only [va, vs, Option.isSome]
      refine ry [3, 11] ?_
      refine AllReadyH.cons rfl (fun K hK => ?_) (AllReadyH.cons rfl (fun K hK => ?_) (AllReadyH.nil))
      · go_simp
        refine (CN.out _).mono ?_
        rintro _ W2 ⟨rfl, hp, hb⟩
        go_wp2_with fail
        refine hK.out _ _ trivial (fun _ => ?_)
        exact ih ⟨(some W.heap.size), none, none, (some b3), (some b4), none⟩ _ (by simp only [Nst.left, Option.isNone, Bool.toNat_true, Bool.toNat_false] at hc ⊢; omega) ⟨(fun _ => rfl), (fun e => by cases e), hG.step hb hp.blk 0⟩
      · go_simp
        refine hK.out _ _ trivial (fun _ => ?_)
        exact ih ⟨none, none, none, (some b3), (some b4), (some W.heap.size)⟩ _ (by simp only [Nst.left, Option.isNone, Bool.toNat_true, Bool.toNat_false] at hc ⊢; omega) ⟨(fun e => by cases e), (fun e => by cases e), made_as (by kernel_rfl) (hG.step (o := buO) ((Below.refl _ _).alloc (Nat.le_refl _) _) (nest W [_] 0 _ rfl) 5)⟩
    · dsimp only [va, vs, Option.isSome]
      refine ry [3] ?_
      refine AllReadyH.cons rfl (fun K hK => ?_) (AllReadyH.nil)
      · go_simp
        refine (CN.out _).mono ?_
        rintro _ W2 ⟨rfl, hp, hb⟩
        go_wp2_with fail
        refine hK.out _ _ trivial (fun _ => ?_)
        exact ih ⟨(some W.heap.size), none, none, (some b3), (some b4), (some b5)⟩ _ (by simp only [Nst.left, Option.isNone, Bool.toNat_true, Bool.toNat_false] at hc ⊢; omega) ⟨(fun _ => rfl), (fun e => by cases e), hG.step hb hp.blk 0⟩
    · exact absurd (hc2 rfl) Bool.false_ne_true
    · exact absurd (hc2 rfl) Bool.false_ne_true
    · exact absurd (hc2 rfl) Bool.false_ne_true
    · exact absurd (hc2 rfl) Bool.false_ne_true
    · exact absurd (hc2 rfl) Bool.false_ne_true
    · exact absurd (hc2 rfl) Bool.false_ne_true
    · exact absurd (hc2 rfl) Bool.false_ne_true
    · exact absurd (hc2 rfl) Bool.false_ne_true
    · exact absurd (hc1 rfl) Bool.false_ne_true
    · exact absurd (hc1 rfl) Bool.false_ne_true
    · exact absurd (hc1 rfl) Bool.false_ne_true
    · exact absurd (hc1 rfl) Bool.false_ne_true
    · exact absurd (hc1 rfl) Bool.false_ne_true
    · exact absurd (hc1 rfl) Bool.false_ne_true
    · exact absurd (hc1 rfl) Bool.false_ne_true
    · exact absurd (hc1 rfl) Bool.false_ne_true
    · exact absurd (hc1 rfl) Bool.false_ne_true
    · exact absurd (hc1 rfl) Bool.false_ne_true
    · exact absurd (hc1 rfl) Bool.false_ne_true
    · exact absurd (hc1 rfl) Bool.false_ne_true
    · exact absurd (hc1 rfl) Bool.false_ne_true
    · exact absurd (hc1 rfl) Bool.false_ne_true
    · exact absurd (hc1 rfl) Bool.false_ne_true
    · exact absurd (hc1 rfl) Bool.false_ne_true
    · dsimp only [va, vs, Option.isSome]
      refine ry [7, 9, 10, 11] ?_
      refine AllReadyH.cons rfl (fun K hK => ?_) (AllReadyH.cons rfl (fun K hK => ?_) (AllReadyH.cons rfl (fun K hK => ?_) (AllReadyH.cons rfl (fun K hK => ?_) (AllReadyH.nil))))
      · go_simp
        refine (CN.out _).mono ?_
        rintro _ W2 ⟨rfl, hp, hb⟩
        go_wp2_with fail
        refine hK.out _ _ trivial (fun _ => ?_)
        exact ih ⟨(some b0), (some W.heap.size), none, none, none, none⟩ _ (by simp only [Nst.left, Option.isNone, Bool.toNat_true, Bool.toNat_false] at hc ⊢; omega) ⟨(fun _ => rfl), (fun _ => rfl), hG.step hb hp.blk 1⟩
      · go_simp
        refine hK.out _ _ trivial (fun _ => ?_)
        exact ih ⟨(some b0), none, none, (some W.heap.size), none, none⟩ _ (by simp only [Nst.left, Option.isNone, Bool.toNat_true, Bool.toNat_false] at hc ⊢; omega) ⟨(fun _ => rfl), (fun e => by cases e), made_as (by kernel_rfl) (hG.step (o := blO) ((Below.refl _ _).alloc (Nat.le_refl _) _) (nest W [_] 0 _ rfl) 3)⟩
      · go_simp
        refine hK.out _ _ trivial (fun _ => ?_)
        exact ih ⟨(some b0), none, none, none, (some W.heap.size), none⟩ _ (by simp only [Nst.left, Option.isNone, Bool.toNat_true, Bool.toNat_false] at hc ⊢; omega) ⟨(fun _ => rfl), (fun e => by cases e), made_as (by kernel_rfl) (hG.step (o := buO) ((Below.refl _ _).alloc (Nat.le_refl _) _) (nest W [_] 0 _ rfl) 4)⟩
      · go_simp
        refine hK.out _ _ trivial (fun _ => ?_)
        exact ih ⟨(some b0), none, none, none, none, (some W.heap.size)⟩ _ (by simp only [Nst.left, Option.isNone, Bool.toNat_true, Bool.toNat_false] at hc ⊢; omega) ⟨(fun _ => rfl), (fun e => by cases e), made_as (by kernel_rfl) (hG.step (o := buO) ((Below.refl _ _).alloc (Nat.le_refl _) _) (nest W [_] 0 _ rfl) 5)⟩
    · dsimp only [va, vs, Option.isSome]
      refine ry [7, 9, 10] ?_
      refine AllReadyH.cons rfl (fun K hK => ?_) (AllReadyH.cons rfl (fun K hK => ?_) (AllReadyH.cons rfl (fun K hK => ?_) (AllReadyH.nil)))
      · go_simp
        refine (CN.out _).mono ?_
        rintro _ W2 ⟨rfl, hp, hb⟩
        go_wp2_with fail
        refine hK.out _ _ trivial (fun _ => ?_)
        exact ih ⟨(some b0), (some W.heap.size), none, none, none, (some b5)⟩ _ (by simp only [Nst.left, Option.isNone, Bool.toNat_true, Bool.toNat_false] at hc ⊢; omega) ⟨(fun _ => rfl), (fun _ => rfl), hG.step hb hp.blk 1⟩
      · go_simp
        refine hK.out _ _ trivial (fun _ => ?_)
        exact ih ⟨(some b0), none, none, (some W.heap.size), none, (some b5)⟩ _ (by simp only [Nst.left, Option.isNone, Bool.toNat_true, Bool.toNat_false] at hc ⊢; omega) ⟨(fun _ => rfl), (fun e => by cases e), made_as (by kernel_rfl) (hG.step (o := blO) ((Below.refl _ _).alloc (Nat.le_refl _) _) (nest W [_] 0 _ rfl) 3)⟩
      · go_simp
        refine hK.out _ _ trivial (fun _ => ?_)
        exact ih ⟨(some b0), none, none, none, (some W.heap.size), (some b5)⟩ _ (by simp only [Nst.left, Option.isNone, Bool.toNat_true, Bool.toNat_false] at hc ⊢; omega) ⟨(fun _ => rfl), (fun e => by cases e), made_as (by kernel_rfl) (hG.step (o := buO) ((Below.refl _ _).alloc (Nat.le_refl _) _) (nest W [_] 0 _ rfl) 4)⟩
    · dsimp only [va, vs, Option.isSome]
      refine ry [7, 9, 11] ?_
      refine AllReadyH.cons rfl (fun K hK => ?_) (AllReadyH.cons rfl (fun K hK => ?_) (AllReadyH.cons rfl (fun K hK => ?_) (AllReadyH.nil)))
      · go_simp
        refine (CN.out _).mono ?_
        rintro _ W2 ⟨rfl, hp, hb⟩
        go_wp2_with fail
        refine hK.out _ _ trivial (fun _ => ?_)
        exact ih ⟨(some b0), (some W.heap.size), none, none, (some b4), none⟩ _ (by simp only [Nst.left, Option.isNone, Bool.toNat_true, Bool.toNat_false] at hc ⊢; omega) ⟨(fun _ => rfl), (fun _ => rfl), hG.step hb hp.blk 1⟩
      · go_simp
        refine hK.out _ _ trivial (fun _ => ?_)
        exact ih ⟨(some b0), none, none, (some W.heap.size), (some b4), none⟩ _ (by simp only [Nst.left, Option.isNone, Bool.toNat_true, Bool.toNat_false] at hc ⊢; omega) ⟨(fun _ => rfl), (fun e => by cases e), made_as (by kernel_rfl) (hG.step (o := blO) ((Below.refl _ _).alloc (Nat.le_refl _) _) (nest W [_] 0 _ rfl) 3)⟩
      · go_simp
        refine hK.out _ _ trivial (fun _ => ?_)
        exact ih ⟨(some b0), none, none, none, (some b4), (some W.heap.size)⟩ _ (by simp only [Nst.left, Option.isNone, Bool.toNat_true, Bool.toNat_false] at hc ⊢; omega) ⟨(fun _ => rfl), (fun e => by cases e), made_as (by kernel_rfl) (hG.step (o := buO) ((Below.refl _ _).alloc (Nat.le_refl _) _) (nest W [_] 0 _ rfl) 5)⟩
    · dsimp only [va, vs, Option.isSome]
      refine ry [7, 9] ?_
      refine AllReadyH.cons rfl (fun K hK => ?_) (AllReadyH.cons rfl (fun K hK => ?_) (AllReadyH.nil))
      · go_simp
        refine (CN.out _).mono ?_
        rintro _ W2 ⟨rfl, hp, hb⟩
        go_wp2_with fail
        refine hK.out _ _ trivial (fun _ => ?_)
        exact ih ⟨(some b0), (some W.heap.size), none, none, (some b4), (some b5)⟩ _ (by simp only [Nst.left, Option.isNone, Bool.toNat_true, Bool.toNat_false] at hc ⊢; omega) ⟨(fun _ => rfl), (fun _ => rfl), hG.step hb hp.blk 1⟩
      · go_simp
        refine hK.out _ _ trivial (fun _ => ?_)
        exact ih ⟨(some b0), none, none, (some W.heap.size), (some b4), (some b5)⟩ _ (by simp only [Nst.left, Option.isNone, Bool.toNat_true, Bool.toNat_false] at hc ⊢; omega) ⟨(fun _ => rfl), (fun e => by cases e), made_as (by kernel_rfl) (hG.step (o := blO) ((Below.refl _ _).alloc (Nat.le_refl _) _) (nest W [_] 0 _ rfl) 3)⟩
    · dsimp only [va, vs, Option.isSome]
      refine ry [7, 10, 11] ?_
      refine AllReadyH.cons rfl (fun K hK => ?_) (AllReadyH.cons rfl (fun K hK => ?_) (AllReadyH.cons rfl (fun K hK => ?_) (AllReadyH.nil)))
      · go_simp
        refine (CN.out _).mono ?_
        rintro _ W2 ⟨rfl, hp, hb⟩
        go_wp2_with fail
        refine hK.out _ _ trivial (fun _ => ?_)
        exact ih ⟨(some b0), (some W.heap.size), none, (some b3), none, none⟩ _ (by simp only [Nst.left, Option.isNone, Bool.toNat_true, Bool.toNat_false] at hc ⊢; omega) ⟨(fun _ => rfl), (fun _ => rfl), hG.step hb hp.blk 1⟩
      · go_simp
        refine hK.out _ _ trivial (fun _ => ?_)
        exact ih ⟨(some b0), none, none, (some b3), (some W.heap.size), none⟩ _ (by simp only [Nst.left, Option.isNone, Bool.toNat_true, Bool.toNat_false] at hc ⊢; omega) ⟨(fun _ => rfl), (fun e => by cases e), made_as (by kernel_rfl) (hG.step (o := buO) ((Below.refl _ _).alloc (Nat.le_refl _) _) (nest W [_] 0 _ rfl) 4)⟩
      · go_simp
        refine hK.out _ _ trivial (fun _ => ?_)
        exact ih ⟨(some b0), none, none, (some b3), none, (some W.heap.size)⟩ _ (by simp only [Nst.left, Option.isNone, Bool.toNat_true, Bool.toNat_false] at hc ⊢; omega) ⟨(fun _ => rfl), (fun e => by cases e), made_as (by kernel_rfl) (hG.step (o := buO) ((Below.refl _ _).alloc (Nat.le_refl _) _) (nest W [_] 0 _ rfl) 5)⟩
    · dsimp only [va, vs, Option.isSome]
      refine ry [7, 10] ?_
      refine AllReadyH.cons rfl (fun K hK => ?_) (AllReadyH.cons rfl (fun K hK => ?_) (AllReadyH.nil))
      · go_simp
        refine (CN.out _).mono ?_
        rintro _ W2 ⟨rfl, hp, hb⟩
        go_wp2_with fail
        refine hK.out _ _ trivial (fun _ => ?_)
        exact ih ⟨(some b0), (some W.heap.size), none, (some b3), none, (some b5)⟩ _ (by simp only [Nst.left, Option.isNone, Bool.toNat_true, Bool.toNat_false] at hc ⊢; omega) ⟨(fun _ => rfl), (fun _ => rfl), hG.step hb hp.blk 1⟩
      · go_simp
        refine hK.out _ _ trivial (fun _ => ?_)
        exact ih ⟨(some b0), none, none, (some b3), (some W.heap.size), (some b5)⟩ _ (by simp only [Nst.left, Option.isNone, Bool.toNat_true, Bool.toNat_false] at hc ⊢; omega) ⟨(fun _ => rfl), (fun e => by cases e), made_as (by kernel_rfl) (hG.step (o := buO) ((Below.refl _ _).alloc (Nat.le_refl _) _) (nest W [_] 0 _ rfl) 4)⟩
    · dsimp only [va, vs, Option.isSome]
      refine ry [7, 11] ?_
      refine AllReadyH.cons rfl (fun K hK => ?_) (AllReadyH.cons rfl (fun K hK => ?_) (AllReadyH.nil))
      · go_simp
        refine (CN.out _).mono ?_
        rintro _ W2 ⟨rfl, hp, hb⟩
        go_wp2_with fail
        refine hK.out _ _ trivial (fun _ => ?_)
        exact ih ⟨(some b0), (some W.heap.size), none, (some b3), (some b4), none⟩ _ (by simp only [Nst.left, Option.isNone, Bool.toNat_true, Bool.toNat_false] at hc ⊢; omega) ⟨(fun _ => rfl), (fun _ => rfl), hG.step hb hp.blk 1⟩
      · go_simp
        refine hK.out _ _ trivial (fun _ => ?_)
        exact ih ⟨(some b0), none, none, (some b3), (some b4), (some W.heap.size)⟩ _ (by simp only [Nst.left, Option.isNone, Bool.toNat_true, Bool.toNat_false] at hc ⊢; omega) ⟨(fun _ => rfl), (fun e => by cases e), made_as (by kernel_rfl) (hG.step (o := buO) ((Below.refl _ _).alloc (Nat.le_refl _) _) (nest W [_] 0 _ rfl) 5)⟩
    · dsimp only [va, vs, Option.isSome]
      refine ry [7] ?_
      refine AllReadyH.cons rfl (fun K hK => ?_) (AllReadyH.nil)
      · go_simp
        refine (CN.out _).mono ?_
        rintro _ W2 ⟨rfl, hp, hb⟩
        go_wp2_with fail
        refine hK.out _ _ trivial (fun _ => ?_)
        exact ih ⟨(some b0), (some W.heap.size), none, (some b3), (some b4), (some b5)⟩ _ (by simp only [Nst.left, Option.isNone, Bool.toNat_true, Bool.toNat_false] at hc ⊢; omega) ⟨(fun _ => rfl), (fun _ => rfl), hG.step hb hp.blk 1⟩
    · exact absurd (hc2 rfl) Bool.false_ne_true
    · exact absurd (hc2 rfl) Bool.false_ne_true
    · exact absurd (hc2 rfl) Bool.false_ne_true
    · exact absurd (hc2 rfl) Bool.false_ne_true
    · exact absurd (hc2 rfl) Bool.false_ne_true
    · exact absurd (hc2 rfl) Bool.false_ne_true
    · exact absurd (hc2 rfl) Bool.false_ne_true
    · exact absurd (hc2 rfl) Bool.false_ne_true
    · dsimp only [va, vs, Option.isSome]
      refine ry [8, 9, 10, 11] ?_
      refine AllReadyH.cons rfl (fun K hK => ?_) (AllReadyH.cons rfl (fun K hK => ?_) (AllReadyH.cons rfl (fun K hK => ?_) (AllReadyH.cons rfl (fun K hK => ?_) (AllReadyH.nil))))
      · go_simp
        refine hK.out _ _ trivial (fun _ => ?_)
        exact ih ⟨(some b0), (some b1), (some W.heap.size), none, none, none⟩ _ (by simp only [Nst.left, Option.isNone, Bool.toNat_true, Bool.toNat_false] at hc ⊢; omega) ⟨(fun _ => rfl), (fun _ => rfl), hG.step ((Below.refl _ _).alloc (Nat.le_refl _) _) (nest W [_] 0 _ rfl) 2⟩
      · go_simp
        refine hK.out _ _ trivial (fun _ => ?_)
        exact ih ⟨(some b0), (some b1), none, (some W.heap.size), none, none⟩ _ (by simp only [Nst.left, Option.isNone, Bool.toNat_true, Bool.toNat_false] at hc ⊢; omega) ⟨(fun _ => rfl), (fun _ => rfl), made_as (by kernel_rfl) (hG.step (o := blO) ((Below.refl _ _).alloc (Nat.le_refl _) _) (nest W [_] 0 _ rfl) 3)⟩
      · go_simp
        refine hK.out _ _ trivial (fun _ => ?_)
        exact ih ⟨(some b0), (some b1), none, none, (some W.heap.size), none⟩ _ (by simp only [Nst.left, Option.isNone, Bool.toNat_true, Bool.toNat_false] at hc ⊢; omega) ⟨(fun _ => rfl), (fun _ => rfl), made_as (by kernel_rfl) (hG.step (o := buO) ((Below.refl _ _).alloc (Nat.le_refl _) _) (nest W [_] 0 _ rfl) 4)⟩
      · go_simp
        refine hK.out _ _ trivial (fun _ => ?_)
        exact ih ⟨(some b0), (some b1), none, none, none, (some W.heap.size)⟩ _ (by simp only [Nst.left, Option.isNone, Bool.toNat_true, Bool.toNat_false] at hc ⊢; omega) ⟨(fun _ => rfl), (fun _ => rfl), made_as (by kernel_rfl) (hG.step (o := buO) ((Below.refl _ _).alloc (Nat.le_refl _) _) (nest W [_] 0 _ rfl) 5)⟩
    · dsimp only [va, vs, Option.isSome]
      refine ry [8, 9, 10] ?_
      refine AllReadyH.cons rfl (fun K hK => ?_) (AllReadyH.cons rfl (fun K hK => ?_) (AllReadyH.cons rfl (fun K hK => ?_) (AllReadyH.nil)))
      · go_simp
        refine hK.out _ _ trivial (fun _ => ?_)
        exact ih ⟨(some b0), (some b1), (some W.heap.size), none, none, (some b5)⟩ _ (by simp only [Nst.left, Option.isNone, Bool.toNat_true, Bool.toNat_false] at hc ⊢; omega) ⟨(fun _ => rfl), (fun _ => rfl), hG.step ((Below.refl _ _).alloc (Nat.le_refl _) _) (nest W [_] 0 _ rfl) 2⟩
      · go_simp
        refine hK.out _ _ trivial (fun _ => ?_)
        exact ih ⟨(some b0), (some b1), none, (some W.heap.size), none, (some b5)⟩ _ (by simp only [Nst.left, Option.isNone, Bool.toNat_true, Bool.toNat_false] at hc ⊢; omega) ⟨(fun _ => rfl), (fun _ => rfl), made_as (by kernel_rfl) (hG.step (o := blO) ((Below.refl _ _).alloc (Nat.le_refl _) _) (nest W [_] 0 _ rfl) 3)⟩
      · go_simp
        refine hK.out _ _ trivial (fun _ => ?_)
        exact ih ⟨(some b0), (some b1), none, none, (some W.heap.size), (some b5)⟩ _ (by simp only [Nst.left, Option.isNone, Bool.toNat_true, Bool.toNat_false] at hc ⊢; omega) ⟨(fun _ => rfl), (fun _ => rfl), made_as (by kernel_rfl) (hG.step (o := buO) ((Below.refl _ _).alloc (Nat.le_refl _) _) (nest W [_] 0 _ rfl) 4)⟩
    · dsimp only [va, vs, Option.isSome]
      refine ry [8, 9, 11] ?_
      refine AllReadyH.cons rfl (fun K hK => ?_) (AllReadyH.cons rfl (fun K hK => ?_) (AllReadyH.cons rfl (fun K hK => ?_) (AllReadyH.nil)))
      · go_simp
        refine hK.out _ _ trivial (fun _ => ?_)
        exact ih ⟨(some b0), (some b1), (some W.heap.size), none, (some b4), none⟩ _ (by simp only [Nst.left, Option.isNone, Bool.toNat_true, Bool.toNat_false] at hc ⊢; omega) ⟨(fun _ => rfl), (fun _ => rfl), hG.step ((Below.refl _ _).alloc (Nat.le_refl _) _) (nest W [_] 0 _ rfl) 2⟩
      · go_simp
        refine hK.out _ _ trivial (fun _ => ?_)
        exact ih ⟨(some b0), (some b1), none, (some W.heap.size), (some b4), none⟩ _ (by simp only [Nst.left, Option.isNone, Bool.toNat_true, Bool.toNat_false] at hc ⊢; omega) ⟨(fun _ => rfl), (fun _ => rfl), made_as (by kernel_rfl) (hG.step (o := blO) ((Below.refl _ _).alloc (Nat.le_refl _) _) (nest W [_] 0 _ rfl) 3)⟩
      · go_simp
        refine hK.out _ _ trivial (fun _ => ?_)
        exact ih ⟨(some b0), (some b1), none, none, (some b4), (some W.heap.size)⟩ _ (by simp only [Nst.left, Option.isNone, Bool.toNat_true, Bool.toNat_false] at hc ⊢; omega) ⟨(fun _ => rfl), (fun _ => rfl), made_as (by kernel_rfl) (hG.step (o := buO) ((Below.refl _ _).alloc (Nat.le_refl _) _) (nest W [_] 0 _ rfl) 5)⟩
    · dsimp only [va, vs, Option.isSome]
      refine ry [8, 9] ?_
      refine AllReadyH.cons rfl (fun K hK => ?_) (AllReadyH.cons rfl (fun K hK => ?_) (AllReadyH.nil))
      · go_simp
        refine hK.out _ _ trivial (fun _ => ?_)
        exact ih ⟨(some b0), (some b1), (some W.heap.size), none, (some b4), (some b5)⟩ _ (by simp only [Nst.left, Option.isNone, Bool.toNat_true, Bool.toNat_false] at hc ⊢; omega) ⟨(fun _ => rfl), (fun _ => rfl), hG.step ((Below.refl _ _).alloc (Nat.le_refl _) _) (nest W [_] 0 _ rfl) 2⟩
      · go_simp
        refine hK.out _ _ trivial (fun _ => ?_)
        exact ih ⟨(some b0), (some b1), none, (some W.heap.size), (some b4), (some b5)⟩ _ (by simp only [Nst.left, Option.isNone, Bool.toNat_true, Bool.toNat_false] at hc ⊢; omega) ⟨(fun _ => rfl), (fun _ => rfl), made_as (by kernel_rfl) (hG.step (o := blO) ((Below.refl _ _).alloc (Nat.le_refl _) _) (nest W [_] 0 _ rfl) 3)⟩
    · dsimp only [va, vs, Option.isSome]
      refine ry [8, 10, 11] ?_
      refine AllReadyH.cons rfl (fun K hK => ?_) (AllReadyH.cons rfl (fun K hK => ?_) (AllReadyH.cons rfl (fun K hK => ?_) (AllReadyH.nil)))
      · go_simp
        refine hK.out _ _ trivial (fun _ => ?_)
        exact ih ⟨(some b0), (some b1), (some W.heap.size), (some b3), none, none⟩ _ (by simp only [Nst.left, Option.isNone, Bool.toNat_true, Bool.toNat_false] at hc ⊢; omega) ⟨(fun _ => rfl), (fun _ => rfl), hG.step ((Below.refl _ _).alloc (Nat.le_refl _) _) (nest W [_] 0 _ rfl) 2⟩
      · go_simp
        refine hK.out _ _ trivial (fun _ => ?_)
        exact ih ⟨(some b0), (some b1), none, (some b3), (some W.heap.size), none⟩ _ (by simp only [Nst.left, Option.isNone, Bool.toNat_true, Bool.toNat_false] at hc ⊢; omega) ⟨(fun _ => rfl), (fun _ => rfl), made_as (by kernel_rfl) (hG.step (o := buO) ((Below.refl _ _).alloc (Nat.le_refl _) _) (nest W [_] 0 _ rfl) 4)⟩
      · go_simp
        refine hK.out _ _ trivial (fun _ => ?_)
        exact ih ⟨(some b0), (some b1), none, (some b3), none, (some W.heap.size)⟩ _ (by simp only [Nst.left, Option.isNone, Bool.toNat_true, Bool.toNat_false] at hc ⊢; omega) ⟨(fun _ => rfl), (fun _ => rfl), made_as (by kernel_rfl) (hG.step (o := buO) ((Below.refl _ _).alloc (Nat.le_refl _) _) (nest W [_] 0 _ rfl) 5)⟩
    · dsimp only [va, vs, Option.isSome]
      refine ry [8, 10] ?_
      refine AllReadyH.cons rfl (fun K hK => ?_) (AllReadyH.cons rfl (fun K hK => ?_) (AllReadyH.nil))
      · go_simp
        refine hK.out _ _ trivial (fun _ => ?_)
        exact ih ⟨(some b0), (some b1), (some W.heap.size), (some b3), none, (some b5)⟩ _ (by simp only [Nst.left, Option.isNone, Bool.toNat_true, Bool.toNat_false] at hc ⊢; omega) ⟨(fun _ => rfl), (fun _ => rfl), hG.step ((Below.refl _ _).alloc (Nat.le_refl _) _) (nest W [_] 0 _ rfl) 2⟩
      · go_simp
        refine hK.out _ _ trivial (fun _ => ?_)
        exact ih ⟨(some b0), (some b1), none, (some b3), (some W.heap.size), (some b5)⟩ _ (by simp only [Nst.left, Option.isNone, Bool.toNat_true, Bool.toNat_false] at hc ⊢; omega) ⟨(fun _ => rfl), (fun _ => rfl), made_as (by kernel_rfl) (hG.step (o := buO) ((Below.refl _ _).alloc (Nat.le_refl _) _) (nest W [_] 0 _ rfl) 4)⟩
    · dsimp only [va, vs, Option.isSome]
      refine ry [8, 11] ?_
      refine AllReadyH.cons rfl (fun K hK => ?_) (AllReadyH.cons rfl (fun K hK => ?_) (AllReadyH.nil))
      · go_simp
        refine hK.out _ _ trivial (fun _ => ?_)
        exact ih ⟨(some b0), (some b1), (some W.heap.size), (some b3), (some b4), none⟩ _ (by simp only [Nst.left, Option.isNone, Bool.toNat_true, Bool.toNat_false] at hc ⊢; omega) ⟨(fun _ => rfl), (fun _ => rfl), hG.step ((Below.refl _ _).alloc (Nat.le_refl _) _) (nest W [_] 0 _ rfl) 2⟩
      · go_simp
        refine hK.out _ _ trivial (fun _ => ?_)
        exact ih ⟨(some b0), (some b1), none, (some b3), (some b4), (some W.heap.size)⟩ _ (by simp only [Nst.left, Option.isNone, Bool.toNat_true, Bool.toNat_false] at hc ⊢; omega) ⟨(fun _ => rfl), (fun _ => rfl), made_as (by kernel_rfl) (hG.step (o := buO) ((Below.refl _ _).alloc (Nat.le_refl _) _) (nest W [_] 0 _ rfl) 5)⟩
    · dsimp only [va, vs, Option.isSome]
      refine ry [8] ?_
      refine AllReadyH.cons rfl (fun K hK => ?_) (AllReadyH.nil)
      · go_simp
        refine hK.out _ _ trivial (fun _ => ?_)
        exact ih ⟨(some b0), (some b1), (some W.heap.size), (some b3), (some b4), (some b5)⟩ _ (by simp only [Nst.left, Option.isNone, Bool.toNat_true, Bool.toNat_false] at hc ⊢; omega) ⟨(fun _ => rfl), (fun _ => rfl), hG.step ((Below.refl _ _).alloc (Nat.le_refl _) _) (nest W [_] 0 _ rfl) 2⟩
    · dsimp only [va, vs, Option.isSome]
      refine ry [9, 10, 11] ?_
      refine AllReadyH.cons rfl (fun K hK => ?_) (AllReadyH.cons rfl (fun K hK => ?_) (AllReadyH.cons rfl (fun K hK => ?_) (AllReadyH.nil)))
      · go_simp
        refine hK.out _ _ trivial (fun _ => ?_)
        exact ih ⟨(some b0), (some b1), (some b2), (some W.heap.size), none, none⟩ _ (by simp only [Nst.left, Option.isNone, Bool.toNat_true, Bool.toNat_false] at hc ⊢; omega) ⟨(fun _ => rfl), (fun _ => rfl), made_as (by kernel_rfl) (hG.step (o := blO) ((Below.refl _ _).alloc (Nat.le_refl _) _) (nest W [_] 0 _ rfl) 3)⟩
      · go_simp
        refine hK.out _ _ trivial (fun _ => ?_)
        exact ih ⟨(some b0), (some b1), (some b2), none, (some W.heap.size), none⟩ _ (by simp only [Nst.left, Option.isNone, Bool.toNat_true, Bool.toNat_false] at hc ⊢; omega) ⟨(fun _ => rfl), (fun _ => rfl), made_as (by kernel_rfl) (hG.step (o := buO) ((Below.refl _ _).alloc (Nat.le_refl _) _) (nest W [_] 0 _ rfl) 4)⟩
      · go_simp
        refine hK.out _ _ trivial (fun _ => ?_)
        exact ih ⟨(some b0), (some b1), (some b2), none, none, (some W.heap.size)⟩ _ (by simp only [Nst.left, Option.isNone, Bool.toNat_true, Bool.toNat_false] at hc ⊢; omega) ⟨(fun _ => rfl), (fun _ => rfl), made_as (by kernel_rfl) (hG.step (o := buO) ((Below.refl _ _).alloc (Nat.le_refl _) _) (nest W [_] 0 _ rfl) 5)⟩
    · dsimp only [va, vs, Option.isSome]
      refine ry [9, 10] ?_
      refine AllReadyH.cons rfl (fun K hK => ?_) (AllReadyH.cons rfl (fun K hK => ?_) (AllReadyH.nil))
      · go_simp
        refine hK.out _ _ trivial (fun _ => ?_)
        exact ih ⟨(some b0), (some b1), (some b2), (some W.heap.size), none, (some b5)⟩ _ (by simp only [Nst.left, Option.isNone, Bool.toNat_true, Bool.toNat_false] at hc ⊢; omega) ⟨(fun _ => rfl), (fun _ => rfl), made_as (by kernel_rfl) (hG.step (o := blO) ((Below.refl _ _).alloc (Nat.le_refl _) _) (nest W [_] 0 _ rfl) 3)⟩
      · go_simp
        refine hK.out _ _ trivial (fun _ => ?_)
        exact ih ⟨(some b0), (some b1), (some b2), none, (some W.heap.size), (some b5)⟩ _ (by simp only [Nst.left, Option.isNone, Bool.toNat_true, Bool.toNat_false] at hc ⊢; omega) ⟨(fun _ => rfl), (fun _ => rfl), made_as (by kernel_rfl) (hG.step (o := buO) ((Below.refl _ _).alloc (Nat.le_refl _) _) (nest W [_] 0 _ rfl) 4)⟩
    · dsimp only [va, vs, Option.isSome]
      refine ry [9, 11] ?_
      refine AllReadyH.cons rfl (fun K hK => ?_) (AllReadyH.cons rfl (fun K hK => ?_) (AllReadyH.nil))
      · go_simp
        refine hK.out _ _ trivial (fun _ => ?_)
        exact ih ⟨(some b0), (some b1), (some b2), (some W.heap.size), (some b4), none⟩ _ (by simp only [Nst.left, Option.isNone, Bool.toNat_true, Bool.toNat_false] at hc ⊢; omega) ⟨(fun _ => rfl), (fun _ => rfl), made_as (by kernel_rfl) (hG.step (o := blO) ((Below.refl _ _).alloc (Nat.le_refl _) _) (nest W [_] 0 _ rfl) 3)⟩
      · go_simp
        refine hK.out _ _ trivial (fun _ => ?_)
        exact ih ⟨(some b0), (some b1), (some b2), none, (some b4), (some W.heap.size)⟩ _ (by simp only [Nst.left, Option.isNone, Bool.toNat_true, Bool.toNat_false] at hc ⊢; omega) ⟨(fun _ => rfl), (fun _ => rfl), made_as (by kernel_rfl) (hG.step (o := buO) ((Below.refl _ _).alloc (Nat.le_refl _) _) (nest W [_] 0 _ rfl) 5)⟩
    · dsimp only [va, vs, Option.isSome]
      refine ry [9] ?_
      refine AllReadyH.cons rfl (fun K hK => ?_) (AllReadyH.nil)
      · go_simp
        refine hK.out _ _ trivial (fun _ => ?_)
        exact ih ⟨(some b0), (some b1), (some b2), (some W.heap.size), (some b4), (some b5)⟩ _ (by simp only [Nst.left, Option.isNone, Bool.toNat_true, Bool.toNat_false] at hc ⊢; omega) ⟨(fun _ => rfl), (fun _ => rfl), made_as (by kernel_rfl) (hG.step (o := blO) ((Below.refl _ _).alloc (Nat.le_refl _) _) (nest W [_] 0 _ rfl) 3)⟩
    · dsimp only [va, vs, Option.isSome]
      refine ry [10, 11] ?_
      refine AllReadyH.cons rfl (fun K hK => ?_) (AllReadyH.cons rfl (fun K hK => ?_) (AllReadyH.nil))
      · go_simp
        refine hK.out _ _ trivial (fun _ => ?_)
        exact ih ⟨(some b0), (some b1), (some b2), (some b3), (some W.heap.size), none⟩ _ (by simp only [Nst.left, Option.isNone, Bool.toNat_true, Bool.toNat_false] at hc ⊢; omega) ⟨(fun _ => rfl), (fun _ => rfl), made_as (by kernel_rfl) (hG.step (o := buO) ((Below.refl _ _).alloc (Nat.le_refl _) _) (nest W [_] 0 _ rfl) 4)⟩
      · go_simp
        refine hK.out _ _ trivial (fun _ => ?_)
        exact ih ⟨(some b0), (some b1), (some b2), (some b3), none, (some W.heap.size)⟩ _ (by simp only [Nst.left, Option.isNone, Bool.toNat_true, Bool.toNat_false] at hc ⊢; omega) ⟨(fun _ => rfl), (fun _ => rfl), made_as (by kernel_rfl) (hG.step (o := buO) ((Below.refl _ _).alloc (Nat.le_refl _) _) (nest W [_] 0 _ rfl) 5)⟩
    · dsimp only [va, vs, Option.isSome]
      refine ry [10] ?_
      refine AllReadyH.cons rfl (fun K hK => ?_) (AllReadyH.nil)
      · go_simp
        refine hK.out _ _ trivial (fun _ => ?_)
        exact ih ⟨(some b0), (some b1), (some b2), (some b3), (some W.heap.size), (some b5)⟩ _ (by simp only [Nst.left, Option.isNone, Bool.toNat_true, Bool.toNat_false] at hc ⊢; omega) ⟨(fun _ => rfl), (fun _ => rfl), made_as (by kernel_rfl) (hG.step (o := buO) ((Below.refl _ _).alloc (Nat.le_refl _) _) (nest W [_] 0 _ rfl) 4)⟩
    · dsimp only [va, vs, Option.isSome]
      refine ry [11] ?_
      refine AllReadyH.cons rfl (fun K hK => ?_) (AllReadyH.nil)
      · go_simp
        refine hK.out _ _ trivial (fun _ => ?_)
        exact ih ⟨(some b0), (some b1), (some b2), (some b3), (some b4), (some W.heap.size)⟩ _ (by simp only [Nst.left, Option.isNone, Bool.toNat_true, Bool.toNat_false] at hc ⊢; omega) ⟨(fun _ => rfl), (fun _ => rfl), made_as (by kernel_rfl) (hG.step (o := buO) ((Below.refl _ _).alloc (Nat.le_refl _) _) (nest W [_] 0 _ rfl) 5)⟩
    · exact absurd hc (by simp [Nst.left])
  case hend =>
    rintro ⟨o0, o1, o2, o3, o4, o5⟩ W hc ⟨-, -, hG⟩
    rcases o0 with _ | p0
    · (simp only [Nst.left, Option.isNone, Bool.toNat_true] at hc; omega)
    rcases o1 with _ | p1
    · (simp only [Nst.left, Option.isNone, Bool.toNat_true] at hc; omega)
    rcases o2 with _ | ba
    · (simp only [Nst.left, Option.isNone, Bool.toNat_true] at hc; omega)
    rcases o3 with _ | bl
    · (simp only [Nst.left, Option.isNone, Bool.toNat_true] at hc; omega)
    rcases o4 with _ | bu
    · (simp only [Nst.left, Option.isNone, Bool.toNat_true] at hc; omega)
    rcases o5 with _ | bk
    · (simp only [Nst.left, Option.isNone, Bool.toNat_true] at hc; omega)
    dsimp only [va, vs, Option.isSome]
    have HG := Lib.hid hG
    have hHeld : True := trivial
    clear hG hc CN
    refine' tk 12 ⟨some 19, .build 46 #[(0, .tmp 15), (1, .tmp 16), (2, .tmp 17), (3, .tmp 18)], 46, "law.go:113", #[⟨8, .data⟩, ⟨9, .data⟩, ⟨10, .data⟩, ⟨11, .data⟩], none⟩ ?_
    simp only [Act.put, z1', z2', z3']
    refine ry [13] ?_
    refine AllReadyH.cons rfl (fun K hK => ?_) AllReadyH.nil
    go_simp
    refine hK.out _ _ trivial (fun hNext => ?_)
    clear hK K hHeld
    have hHeld := hNext
    clear hNext
    (try simp only [z1', z2', z3'])
    refine' tk 14 ⟨some 6, .assign (.tmp 20), 40, "law.go:113", #[⟨13, .data⟩, ⟨7, .chain⟩, ⟨0, .phase⟩, ⟨1, .phase⟩, ⟨2, .phase⟩, ⟨3, .phase⟩, ⟨4, .phase⟩, ⟨5, .phase⟩, ⟨6, .phase⟩, ⟨7, .phase⟩, ⟨8, .phase⟩, ⟨9, .phase⟩, ⟨10, .phase⟩, ⟨11, .phase⟩, ⟨12, .phase⟩, ⟨13, .phase⟩], none⟩ ?_
    simp only [Act.put, z1', z2', z3']
    refine wpAnyH_done (by kernel_rfl) ?_ _
    clear hHeld
    go_wp2
    go_ret
    have hG := HG.out
    clear HG
    have hb : Below W.heap.size W (W.alloc (.cells #[two ba, two bl, two bu, two bk, .bool false] 46 (0, 0))) := nest_below W [_]
    have f0 := hG.at_ p0 (sdO k n2 t1) (by simp [Nst.l, va])
    have l0 := lt_heap f0.2
    have f1 := hG.at_ p1 (sdO k n2 t1) (by simp [Nst.l, va])
    have l1 := lt_heap f1.2
    have f2 := hG.at_ ba (baO (ptr p0) (ptr p1)) (by simp [Nst.l, va])
    have l2 := lt_heap f2.2
    have f3 := hG.at_ bl (blO) (by simp [Nst.l, va])
    have l3 := lt_heap f3.2
    have f4 := hG.at_ bu (buO) (by simp [Nst.l, va])
    have l4 := lt_heap f4.2
    have f5 := hG.at_ bk (buO) (by simp [Nst.l, va])
    have l5 := lt_heap f5.2
    have n01 : p0 ≠ p1 := fun e => by have := hG.apart 0 1 p0 _ _ rfl (by rw [e]; rfl); omega
    have n02 : p0 ≠ ba := fun e => by have := hG.apart 0 2 p0 _ _ rfl (by rw [e]; rfl); omega
    have n03 : p0 ≠ bl := fun e => by have := hG.apart 0 3 p0 _ _ rfl (by rw [e]; rfl); omega
    have n04 : p0 ≠ bu := fun e => by have := hG.apart 0 4 p0 _ _ rfl (by rw [e]; rfl); omega
    have n05 : p0 ≠ bk := fun e => by have := hG.apart 0 5 p0 _ _ rfl (by rw [e]; rfl); omega
    have n12 : p1 ≠ ba := fun e => by have := hG.apart 1 2 p1 _ _ rfl (by rw [e]; rfl); omega
    have n13 : p1 ≠ bl := fun e => by have := hG.apart 1 3 p1 _ _ rfl (by rw [e]; rfl); omega
    have n14 : p1 ≠ bu := fun e => by have := hG.apart 1 4 p1 _ _ rfl (by rw [e]; rfl); omega
    have n15 : p1 ≠ bk := fun e => by have := hG.apart 1 5 p1 _ _ rfl (by rw [e]; rfl); omega
    have n23 : ba ≠ bl := fun e => by have := hG.apart 2 3 ba _ _ rfl (by rw [e]; rfl); omega
    have n24 : ba ≠ bu := fun e => by have := hG.apart 2 4 ba _ _ rfl (by rw [e]; rfl); omega
    have n25 : ba ≠ bk := fun e => by have := hG.apart 2 5 ba _ _ rfl (by rw [e]; rfl); omega
    have n34 : bl ≠ bu := fun e => by have := hG.apart 3 4 bl _ _ rfl (by rw [e]; rfl); omega
    have n35 : bl ≠ bk := fun e => by have := hG.apart 3 5 bl _ _ rfl (by rw [e]; rfl); omega
    have n45 : bu ≠ bk := fun e => by have := hG.apart 4 5 bu _ _ rfl (by rw [e]; rfl); omega
    have gb : (W.alloc (.cells #[two ba, two bl, two bu, two bk, .bool false] 46 (0, 0))).heap[W.heap.size]? = some (.cells #[two ba, two bl, two bu, two bk, .bool false] 46 (0, 0)) := nest W [_] 0 _ rfl
    refine ⟨⟨W.heap.size, ba, bl, bu, bk, p0, p1⟩, rfl, .slice none 0 0, .slice none 0 0, .slice none 0 0, .slice none 0 0, (fun n => if n = ba then 1 else if n = bl then 2 else if n = bu then 3 else if n = bk then 4 else if n = p0 then 5 else if n = p1 then 6 else 0), ?_⟩
    have none_own : ∀ g (n : Nat), (Value.slice none 0 0).ownBlock = some g → n = n → False := fun g n e _ => by cases e
    refine ⟨gb, stays f2.2 hb, stays f3.2 hb, stays f4.2 hb, stays f5.2 hb, ⟨stays f0.2 hb, qz_nil _ _⟩, ⟨stays f1.2 hb, qz_nil _ _⟩, qz_nil _ _, qz_nil _ _, ?_, ?_, ?_, ?_, ?_, ?_, ?_, (fun g e => (none_own g 0 e rfl).elim), (fun g e => (none_own g 0 e rfl).elim), (fun g e => (none_own g 0 e rfl).elim), (fun g e => (none_own g 0 e rfl).elim), ⟨hG.below.size, f2.1, f3.1, f4.1, f5.1, f0.1, f1.1⟩, below_on hG.below hb⟩
    · exact (if_neg (show W.heap.size ≠ ba by omega)).trans ((if_neg (show W.heap.size ≠ bl by omega)).trans ((if_neg (show W.heap.size ≠ bu by omega)).trans ((if_neg (show W.heap.size ≠ bk by omega)).trans ((if_neg (show W.heap.size ≠ p0 by omega)).trans (if_neg (show W.heap.size ≠ p1 by omega))))))
    · exact if_pos rfl
    · exact (if_neg n23.symm).trans (if_pos rfl)
    · exact (if_neg n24.symm).trans ((if_neg n34.symm).trans (if_pos rfl))
    · exact (if_neg n25.symm).trans ((if_neg n35.symm).trans ((if_neg n45.symm).trans (if_pos rfl)))
    · exact (if_neg n02).trans ((if_neg n03).trans ((if_neg n04).trans ((if_neg n05).trans (if_pos rfl))))
    · exact (if_neg n12).trans ((if_neg n13).trans ((if_neg n14).trans ((if_neg n15).trans ((if_neg n01.symm).trans (if_pos rfl)))))
set_option maxHeartbeats 2000000 in
theorem fmay15 (k n2 t1 : Int) (w : World) : Calls Try.prog 15 #[.int .i64 k, .int .i64 n2, .int .i64 t1] w fun e w' => e = .returned (.bool (decide (1 ≤ k ∧ k ≤ 7 ∧ 0 ≤ n2 ∧ n2 ≤ 255 ∧ 1 ≤ t1 ∧ t1 ≤ 255))) ∧ w = w' := by
  by_cases h1 : 1 ≤ k <;> by_cases h2 : k ≤ 7 <;> by_cases h3 : 0 ≤ n2 <;> by_cases h4 : n2 ≤ 255 <;> by_cases h5 : 1 ≤ t1 <;> by_cases h6 : t1 ≤ 255
  all_goals
    (go_enter Try.func15, Try.ntmps15
     go_wp2
     go_ret
     refine ⟨?_, rfl⟩
     simp [h1, h2, h3, h4, h5, h6])
theorem push_letters (i : ByteArray) (y : Sd) : ∃ A2, Aq.push i y = (A2, 0) ∨ Aq.push i y = (A2, 3) ∨ Aq.push i y = (A2, 4) := by
  refine ⟨(Aq.push i y).1, ?_⟩
  rcases push_code i y with e | e | e
  · exact Or.inl (Prod.ext rfl e)
  · exact Or.inr (Or.inl (Prod.ext rfl e))
  · exact Or.inr (Or.inr (Prod.ext rfl e))
theorem pOp_of (d : Nat) (on : Bool) (x : Pr) : ((d % 9 = 0 ∨ d % 9 = 1) → pOp d on x = pPush x) ∧ ((d % 9 = 2 ∨ d % 9 = 3) → pOp d on x = pSend x) ∧ ((d % 9 = 4 ∨ d % 9 = 5) → pOp d on x = pHand x) ∧ (d % 9 = 6 → pOp d on x = pLose x) ∧ (d % 9 = 7 → pOp d on x = pTick x) ∧ (d % 9 = 8 → pOp d on x = pBusy on x) := by
  unfold pOp
  refine ⟨fun h => ?_, fun h => ?_, fun h => ?_, fun h => ?_, fun h => ?_, fun h => ?_⟩
  · rw [if_pos (by omega)]
  · rw [if_neg (by omega), if_pos (by omega)]
  · rw [if_neg (by omega), if_neg (by omega), if_pos (by omega)]
  · rw [if_neg (by omega), if_neg (by omega), if_neg (by omega), if_pos h]
  · rw [if_neg (by omega), if_neg (by omega), if_neg (by omega), if_neg (by omega), if_pos h]
  · rw [if_neg (by omega), if_neg (by omega), if_neg (by omega), if_neg (by omega), if_neg (by omega)]
theorem fstep (w0 w : World) (b : Bk) (x : Pr) (N M : Nat) (h : PrE w0 b x w) (hk : Pok N M x) (hN : N ≤ 1000) (hM : M ≤ 1000) (d : Nat) (side on : Bool) :
    Calls Try.prog 17 #[ptr b.tb, .agg #[.int .u8 (d : Int), .bool side, .bool on]] w fun e w' => e = .returned (.bool true) ∧ PrE w0 b (pStep ⟨d, side, on⟩ x) w' := by
  have hd : d % 9 < 9 := Nat.mod_lt _ (by decide)
  cases side
  · rw [show pStep ⟨d, false, on⟩ x = pOp d on x from rfl]
    obtain ⟨e0, e2, e4, e6, e7, e8⟩ := pOp_of d on x
    rcases (show d % 9 = 0 ∨ d % 9 = 1 ∨ d % 9 = 2 ∨ d % 9 = 3 ∨ d % 9 = 4 ∨ d % 9 = 5 ∨ d % 9 = 6 ∨ d % 9 = 7 ∨ d % 9 = 8 by omega) with g | g | g | g | g | g | g | g | g
    · rw [e0 (Or.inl g)]
      obtain ⟨A2, hp | hp | hp⟩ := push_letters (inf x.u0) x.A
      · exact fst0_0_0 w0 w b x N M h hk hN hM d (by omega) on A2 hp
      · exact fst0_0_3 w0 w b x N M h hk hN hM d (by omega) on A2 hp
      · exact fst0_0_4 w0 w b x N M h hk hN hM d (by omega) on A2 hp
    · rw [e0 (Or.inr g)]
      obtain ⟨A2, hp | hp | hp⟩ := push_letters (inf x.u0) x.A
      · exact fst1_0_0 w0 w b x N M h hk hN hM d (by omega) on A2 hp
      · exact fst1_0_3 w0 w b x N M h hk hN hM d (by omega) on A2 hp
      · exact fst1_0_4 w0 w b x N M h hk hN hM d (by omega) on A2 hp
    · rw [e2 (Or.inl g)]
      exact fst2_0 w0 w b x N M h hk hN hM d (by omega) on
    · rw [e2 (Or.inr g)]
      exact fst3_0 w0 w b x N M h hk hN hM d (by omega) on
    · rw [e4 (Or.inl g)]
      exact fst4_0 w0 w b x N M h hk hN hM d (by omega) on
    · rw [e4 (Or.inr g)]
      exact fst5_0 w0 w b x N M h hk hN hM d (by omega) on
    · rw [e6 g]
      exact fst6_0 w0 w b x N M h hk hN hM d (by omega) on
    · rw [e7 g]
      exact fst7_0 w0 w b x N M h hk hN hM d (by omega) on
    · rw [e8 g]
      exact fst8_0 w0 w b x N M h hk hN hM d (by omega) on
  · rw [show pStep ⟨d, true, on⟩ x = swp (pOp d on (swp x)) from rfl]
    obtain ⟨e0, e2, e4, e6, e7, e8⟩ := pOp_of d on (swp x)
    rcases (show d % 9 = 0 ∨ d % 9 = 1 ∨ d % 9 = 2 ∨ d % 9 = 3 ∨ d % 9 = 4 ∨ d % 9 = 5 ∨ d % 9 = 6 ∨ d % 9 = 7 ∨ d % 9 = 8 by omega) with g | g | g | g | g | g | g | g | g
    · rw [e0 (Or.inl g)]
      obtain ⟨A2, hp | hp | hp⟩ := push_letters (inf x.u1) x.B
      · exact fst0_1_0 w0 w b x N M h hk hN hM d (by omega) on A2 hp
      · exact fst0_1_3 w0 w b x N M h hk hN hM d (by omega) on A2 hp
      · exact fst0_1_4 w0 w b x N M h hk hN hM d (by omega) on A2 hp
    · rw [e0 (Or.inr g)]
      obtain ⟨A2, hp | hp | hp⟩ := push_letters (inf x.u1) x.B
      · exact fst1_1_0 w0 w b x N M h hk hN hM d (by omega) on A2 hp
      · exact fst1_1_3 w0 w b x N M h hk hN hM d (by omega) on A2 hp
      · exact fst1_1_4 w0 w b x N M h hk hN hM d (by omega) on A2 hp
    · rw [e2 (Or.inl g)]
      exact fst2_1 w0 w b x N M h hk hN hM d (by omega) on
    · rw [e2 (Or.inr g)]
      exact fst3_1 w0 w b x N M h hk hN hM d (by omega) on
    · rw [e4 (Or.inl g)]
      exact fst4_1 w0 w b x N M h hk hN hM d (by omega) on
    · rw [e4 (Or.inr g)]
      exact fst5_1 w0 w b x N M h hk hN hM d (by omega) on
    · rw [e6 g]
      exact fst6_1 w0 w b x N M h hk hN hM d (by omega) on
    · rw [e7 g]
      exact fst7_1 w0 w b x N M h hk hN hM d (by omega) on
    · rw [e8 g]
      exact fst8_1 w0 w b x N M h hk hN hM d (by omega) on
end Go.Proofs.Ytkoaplmlabagnaa.Aq

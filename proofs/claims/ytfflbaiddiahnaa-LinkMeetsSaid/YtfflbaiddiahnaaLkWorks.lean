/-
  Two answers compared by == and !=; the law's own 'works'. No condition.
-/
import Derived.Test.YtfflbaiddiahnaaLkDoes
namespace Go.Proofs.Ytfflbaiddiahnaa.Lk
open Go.RowKit Go.Proofs.Ytfflbaiddiahnaa.Base Go.Proofs.Ytfflbaiddiahnaa.Mem
/-- What == of two answers. -/
def eqA (p q : Ac) : Bool := (p.k == q.k) && (p.c == q.c) && (p.p == q.p) && (p.t == q.t) && (p.f == q.f)
theorem eqA_of {p q : Ac} : eqA p q = decide (p.k = q.k ∧ p.c = q.c ∧ p.p = q.p ∧ p.t = q.t ∧ p.f = q.f) := by
  rw [Bool.eq_iff_iff]; simp [eqA, and_assoc]
theorem run_eqFields (p q : Ac) (w : World) : (Op.equalIn 10000 30 (av p) (av q)).run Try.prog w = .ok (eqA p q) w := by
  have u2 := Try.underlying4
  have u5 := Try.underlying5
  have a2 := Try.isAgg4
  have a5 := Try.isAgg5
  have z2 := Try.sizeOf4
  have z5 := Try.sizeOf5
  have hS : Try.prog.underlying 30 = some (.struct (Try.prog.fieldsOf 30)) := by kernel_rfl
  have hp : Try.prog.stoodInHeld 30 = false := by kernel_rfl
  rw [show (10000 : Nat) = 9999 + 1 from rfl, run_equalIn_agg w 9999 30 _ _ hS hp]
  simp only [Program.fieldsOf, Try.underlying30]
  go_simp
  obtain ⟨p0, p1, p2, p3, p4⟩ := p
  obtain ⟨q0, q1, q2, q3, q4⟩ := q
  rw [eqA_of]
  dsimp only
  by_cases h0 : p0 = q0
  · subst h0
    by_cases h3 : p3 = q3
    · subst h3
      by_cases h4 : p4 = q4
      · subst h4
        revert p1 q1 p2 q2
        simp
      · simp_all
    · simp_all <;> (intros; omega)
  · simp_all <;> (intros; omega)
theorem run_eqA (p q : Ac) (w : World) : (binOp .eql 30 (av p) (av q)).run Try.prog w = .ok (.bool (eqA p q)) w := by
  rw [run_eql_struct, run_eqFields]; rfl
theorem run_neA (p q : Ac) (w : World) : (binOp .neq 30 (av p) (av q)).run Try.prog w = .ok (.bool (!eqA p q)) w := by
  rw [run_neq_struct, run_eqFields]; rfl
theorem same_eq (k : Int) (c p : Bool) (t f : Int) (w : World) : (binOp .eql 30 (.agg #[.int .u8 k, .bool c, .bool p, .int .u8 t, .int .u8 f]) (.agg #[.int .u8 k, .bool c, .bool p, .int .u8 t, .int .u8 f])).run Try.prog w = .ok (.bool true) w := by
  have := run_eqA ⟨k, c, p, t, f⟩ ⟨k, c, p, t, f⟩ w
  rw [show eqA ⟨k, c, p, t, f⟩ ⟨k, c, p, t, f⟩ = true by simp [eqA]] at this
  exact this
theorem same_ne (k : Int) (c p : Bool) (t f : Int) (w : World) : (binOp .neq 30 (.agg #[.int .u8 k, .bool c, .bool p, .int .u8 t, .int .u8 f]) (.agg #[.int .u8 k, .bool c, .bool p, .int .u8 t, .int .u8 f])).run Try.prog w = .ok (.bool false) w := by
  have := run_neA ⟨k, c, p, t, f⟩ ⟨k, c, p, t, f⟩ w
  rw [show eqA ⟨k, c, p, t, f⟩ ⟨k, c, p, t, f⟩ = true by simp [eqA]] at this
  exact this
/-- Blocks that hold what they hold. -/
def All (w : World) (m : List (Nat × Obj)) : Prop := ∀ x ∈ m, w.heap[x.1]? = some x.2
abbrev lkO (l : Lk) : Obj := .cells (lcs l) 57 (0, 0)
theorem All.below {w w' : World} {m : List (Nat × Obj)} (h : All w m) (hb : Below w.heap.size w w') : All w' m := fun x hx => stays (h x hx) hb
theorem All.add {w w' : World} {m : List (Nat × Obj)} (h : All w m) (hb : Below w.heap.size w w') {b : Nat} {o : Obj} (ho : w'.heap[b]? = some o) : All w' ((b, o) :: m) := fun x hx => by
  rcases List.mem_cons.1 hx with rfl | hx
  · exact ho
  · exact h.below hb x hx
theorem All.chg {w w' : World} {m : List (Nat × Obj)} (h : All w m) {pb : Nat} (hc : Chg (fun k => k = pb) w w') (hn : ∀ x ∈ m, x.1 ≠ pb) : All w' m := fun x hx => hc.stays (h x hx) (hn x hx)
theorem All.cons {w : World} {m : List (Nat × Obj)} (h : All w m) {b : Nat} {o : Obj} (ho : w.heap[b]? = some o) : All w ((b, o) :: m) := fun x hx => by
  rcases List.mem_cons.1 hx with rfl | hx
  · exact ho
  · exact h x hx
/-- Three links, made since w0. -/
structure Tri (w0 : World) (pa pb pc : Nat) (la lb lc : Lk) (w : World) : Prop where
  a : LkAt w pa la
  b : LkAt w pb lb
  c : LkAt w pc lc
  ab : pa < pb
  bc : pb < pc
  lo : w0.heap.size ≤ pa
  below : Below w0.heap.size w0 w
theorem Tri.on {w0 w w' : World} {pa pb pc : Nat} {la lb lc : Lk} (h : Tri w0 pa pb pc la lb lc w) (hb : Below w.heap.size w w') : Tri w0 pa pb pc la lb lc w' :=
  ⟨h.a.below hb, h.b.below hb, h.c.below hb, h.ab, h.bc, h.lo, below_on h.below hb⟩
theorem Tri.doA {w0 w w' : World} {pa pb pc : Nat} {la lb lc l : Lk} (h : Tri w0 pa pb pc la lb lc w) (hd : Does pa l w w') : Tri w0 pa pb pc l lb lc w' :=
  ⟨hd.at_, h.b.other hd.chg (by have := h.ab; omega), h.c.other hd.chg (by have := h.ab; have := h.bc; omega), h.ab, h.bc, h.lo, hd.chg.below h.below h.below.size fun k e => by have := h.lo; omega⟩
theorem Tri.doB {w0 w w' : World} {pa pb pc : Nat} {la lb lc l : Lk} (h : Tri w0 pa pb pc la lb lc w) (hd : Does pb l w w') : Tri w0 pa pb pc la l lc w' :=
  ⟨h.a.other hd.chg (by have := h.ab; omega), hd.at_, h.c.other hd.chg (by have := h.bc; omega), h.ab, h.bc, h.lo, hd.chg.below h.below h.below.size fun k e => by have := h.lo; have := h.ab; omega⟩
theorem Tri.doC {w0 w w' : World} {pa pb pc : Nat} {la lb lc l : Lk} (h : Tri w0 pa pb pc la lb lc w) (hd : Does pc l w w') : Tri w0 pa pb pc la lb l w' :=
  ⟨h.a.other hd.chg (by have := h.ab; have := h.bc; omega), h.b.other hd.chg (by have := h.bc; omega), hd.at_, h.ab, h.bc, h.lo, hd.chg.below h.below h.below.size fun k e => by have := h.lo; have := h.ab; have := h.bc; omega⟩
theorem Tri.made {w w1 w2 w3 : World} {la lb lc : Lk} (h1 : LkAt w1 w.heap.size la) (b1 : Below w.heap.size w w1) (h2 : LkAt w2 w1.heap.size lb) (b2 : Below w1.heap.size w1 w2) (h3 : LkAt w3 w2.heap.size lc) (b3 : Below w2.heap.size w2 w3) : Tri w w.heap.size w1.heap.size w2.heap.size la lb lc w3 :=
  ⟨(h1.below b2).below b3, h2.below b3, h3, h1.lt, h2.lt, Nat.le_refl _, below_on (below_on b1 b2) b3⟩
theorem fnew1 (w : World) : Calls Try.prog 10 #[.int .i64 1] w fun e w' => e = .returned (ptr w.heap.size) ∧ LkAt w' w.heap.size ⟨1, false, 1, 0⟩ ∧ Below w.heap.size w w' := fnew 1 w
set_option maxHeartbeats 4000000 in
set_option maxRecDepth 100000 in
theorem fworks (w : World) : Calls Try.prog 9 #[] w fun e w' => e = .returned (.bool true) ∧ Below w.heap.size w w' := by
  have hs := same_eq
  go_enter Try.func9, Try.ntmps9
  go_wp2_with fail
  refine (fnew1 _).mono ?_
  rintro e w1 ⟨rfl, ha, ba⟩
  go_wp2_with fail
  refine (fnew1 _).mono ?_
  rintro e w2 ⟨rfl, hb, bb⟩
  go_wp2_with fail
  refine (fnew1 _).mono ?_
  rintro e w3 ⟨rfl, hc, bc⟩
  have T3 := Lib.hid (Tri.made ha ba hb bb hc bc)
  clear ha ba hb bb hc bc
  generalize w1.heap.size = pb at T3 ⊢
  generalize w2.heap.size = pc at T3 ⊢
  generalize hpa : w.heap.size = pa at T3 ⊢
  go_wp2_with fail
  refine (fOpen _ pa ⟨1, false, 1, 0⟩ (by constructor <;> decide) T3.out.a (⟨2, false, 1, 0⟩, ⟨1, true, true, 1, 0⟩) rfl).mono ?_
  rintro e w4 ⟨rfl, hd⟩
  have T4 := Lib.hid (T3.out.doA hd)
  clear hd T3
  go_wp2_with fail
  refine (fHear _ pa ⟨2, false, 1, 0⟩ 2 true false (by constructor <;> decide) T4.out.a (⟨3, false, 1, 0⟩, ⟨0, false, false, 2, 1⟩) rfl).mono ?_
  rintro e w5 ⟨rfl, hd⟩
  have T5 := Lib.hid (T4.out.doA hd)
  clear hd T4
  obtain ⟨n1, hn1⟩ : ∃ n, n = w5.heap.size := ⟨_, rfl⟩
  have hb5 : Below w5.heap.size w5 ((w5.alloc (aO ⟨1, true, true, 1, 0⟩ 30)).alloc (aO ⟨0, false, false, 2, 1⟩ 30)) := nest_below w5 [_, _]
  have M5x := Lib.hid (((show All ((w5.alloc (aO ⟨1, true, true, 1, 0⟩ 30)).alloc (aO ⟨0, false, false, 2, 1⟩ 30)) [] from fun x hx => by cases hx).cons (b := n1) (o := (aO ⟨1, true, true, 1, 0⟩ 30)) (by rw [hn1]; exact nest w5 [_, _] 0 _ rfl)).cons (b := n1 + 1) (o := (aO ⟨0, false, false, 2, 1⟩ 30)) (by rw [hn1]; exact nest w5 [_, _] 1 _ rfl))
  have T5x := Lib.hid (T5.out.on hb5)
  have lt5 : pa < pb ∧ pb < pc ∧ pc < n1 := ⟨T5.out.ab, T5.out.bc, by rw [hn1]; exact T5.out.c.lt⟩
  have Hn1 := Lib.hid hn1
  clear hb5 hn1
  go_wp2_with fail
  refine (fOpen _ pb ⟨1, false, 1, 0⟩ (by constructor <;> decide) T5x.out.b (⟨2, false, 1, 0⟩, ⟨1, true, true, 1, 0⟩) rfl).mono ?_
  rintro e w6 ⟨rfl, hd⟩
  have T6 := Lib.hid (T5x.out.doB hd)
  have M6 := Lib.hid (M5x.out.chg hd.chg (by simp; omega))
  clear hd T5x M5x
  simp only [← Hn1.out]
  go_wp2_with fail
  refine (fDue _ pb ⟨2, false, 1, 0⟩ (by constructor <;> decide) T6.out.b (⟨2, false, 1, 1⟩, ⟨1, true, true, 1, 0⟩) rfl).mono ?_
  rintro e w7 ⟨rfl, hd⟩
  have T7 := Lib.hid (T6.out.doB hd)
  have M7 := Lib.hid (M6.out.chg hd.chg (by simp; omega))
  clear hd T6 M6
  go_wp2_with fail
  refine (fDue _ pb ⟨2, false, 1, 1⟩ (by constructor <;> decide) T7.out.b (⟨5, false, 1, 1⟩, ⟨0, false, false, 2, 6⟩) rfl).mono ?_
  rintro e w8 ⟨rfl, hd⟩
  have T8 := Lib.hid (T7.out.doB hd)
  have M8 := Lib.hid (M7.out.chg hd.chg (by simp; omega))
  clear hd T7 M7
  obtain ⟨n2, hn2⟩ : ∃ n, n = w8.heap.size := ⟨_, rfl⟩
  have hb8 : Below w8.heap.size w8 ((w8.alloc (aO ⟨1, true, true, 1, 0⟩ 30)).alloc (aO ⟨0, false, false, 2, 6⟩ 30)) := nest_below w8 [_, _]
  have M8x := Lib.hid (((M8.out.below hb8).cons (b := n2) (o := (aO ⟨1, true, true, 1, 0⟩ 30)) (by rw [hn2]; exact nest w8 [_, _] 0 _ rfl)).cons (b := n2 + 1) (o := (aO ⟨0, false, false, 2, 6⟩ 30)) (by rw [hn2]; exact nest w8 [_, _] 1 _ rfl))
  have T8x := Lib.hid (T8.out.on hb8)
  have lt8 : pa < pb ∧ pb < pc ∧ pc < n2 := ⟨T8.out.ab, T8.out.bc, by rw [hn2]; exact T8.out.c.lt⟩
  have Hn2 := Lib.hid hn2
  clear hb8 hn2 M8
  go_wp2_with fail
  refine (flisten _ pc ⟨1, false, 1, 0⟩ true T8x.out.c).mono ?_
  rintro e w9 ⟨rfl, hd⟩
  have T9 := Lib.hid (T8x.out.doC hd)
  have M9 := Lib.hid (M8x.out.chg hd.chg (by simp; omega))
  clear hd T8x M8x
  simp only [← Hn2.out]
  go_wp2_with fail
  refine (fHear _ pc ⟨1, true, 1, 0⟩ 1 true true (by constructor <;> decide) T9.out.c (⟨3, true, 1, 0⟩, ⟨2, false, true, 0, 2⟩) rfl).mono ?_
  rintro e w10 ⟨rfl, hd⟩
  have T10 := Lib.hid (T9.out.doC hd)
  have M10 := Lib.hid (M9.out.chg hd.chg (by simp; omega))
  clear hd T9 M9
  go_wp2_with fail
  refine (fHear _ pc ⟨3, true, 1, 0⟩ 4 false true (by constructor <;> decide) T10.out.c (⟨1, true, 1, 0⟩, ⟨2, false, false, 0, 5⟩) rfl).mono ?_
  rintro e w11 ⟨rfl, hd⟩
  have T11 := Lib.hid (T10.out.doC hd)
  have M11 := Lib.hid (M10.out.chg hd.chg (by simp; omega))
  clear hd T10 M10
  obtain ⟨⟨x00, x01, x02, x03, x04⟩, -⟩ := cells5 (M11.out (n1, (aO ⟨1, true, true, 1, 0⟩ 30)) (by simp))
  obtain ⟨⟨x10, x11, x12, x13, x14⟩, -⟩ := cells5 (M11.out (n1 + 1, (aO ⟨0, false, false, 2, 1⟩ 30)) (by simp))
  obtain ⟨⟨x20, x21, x22, x23, x24⟩, -⟩ := cells5 (M11.out (n2, (aO ⟨1, true, true, 1, 0⟩ 30)) (by simp))
  obtain ⟨⟨x30, x31, x32, x33, x34⟩, -⟩ := cells5 (M11.out (n2 + 1, (aO ⟨0, false, false, 2, 6⟩ 30)) (by simp))
  have q1 : n1 < w11.heap.size := lt_heap (M11.out (n1, (aO ⟨1, true, true, 1, 0⟩ 30)) (by simp))
  have q2 : n1 + 1 < w11.heap.size := lt_heap (M11.out (n1 + 1, (aO ⟨0, false, false, 2, 1⟩ 30)) (by simp))
  have q3 : n2 < w11.heap.size := lt_heap (M11.out (n2, (aO ⟨1, true, true, 1, 0⟩ 30)) (by simp))
  have q4 : n2 + 1 < w11.heap.size := lt_heap (M11.out (n2 + 1, (aO ⟨0, false, false, 2, 6⟩ 30)) (by simp))
  have r0 : n1 < w11.heap.size + 1 := by omega
  have s0 : n1 < w11.heap.size + 1 + 1 := by omega
  have r1 : n1 + 1 < w11.heap.size + 1 := by omega
  have s1 : n1 + 1 < w11.heap.size + 1 + 1 := by omega
  have r2 : n2 < w11.heap.size + 1 := by omega
  have s2 : n2 < w11.heap.size + 1 + 1 := by omega
  have r3 : n2 + 1 < w11.heap.size + 1 := by omega
  have s3 : n2 + 1 < w11.heap.size + 1 + 1 := by omega
  have T12 : Hid (Tri w pa pb pc ⟨3, false, 1, 0⟩ ⟨5, false, 1, 1⟩ ⟨1, true, 1, 0⟩ (((w11.alloc (aO ⟨2, false, true, 0, 2⟩ 30)).alloc (aO ⟨2, false, false, 0, 5⟩ 30)).alloc (aO ⟨1, true, true, 1, 0⟩ 30))) := Lib.hid (T11.out.on (nest_below w11 [_, _, _]))
  clear M11
  go_wp2_with (first
    | (go_at_call 15; ((with_reducible refine (fstate _ pa _ T12.out.a (by decide)).mono ?_); rintro x v ⟨rfl, rfl⟩))
    | (go_at_call 15; ((with_reducible refine (fstate _ pb _ T12.out.b (by decide)).mono ?_); rintro x v ⟨rfl, rfl⟩))
    | (go_at_call 15; ((with_reducible refine (fstate _ pc _ T12.out.c (by decide)).mono ?_); rintro x v ⟨rfl, rfl⟩)))
  go_ret
  exact ⟨rfl, hpa ▸ T12.out.below⟩
end Go.Proofs.Ytfflbaiddiahnaa.Lk

/-
  The program's buffer in memory; what New, Len, Free, High, Low and place answer. Condition: it lies where it says.
-/
import Derived.Test.YtjhkjnammpblgaaBfMath
import Derived.Lib.MinMax
import Derived.Laws.MakeOwn
import Derived.Laws.OwnMore
import Derived.Laws.Tables
namespace Go.Proofs.Ytjhkjnammpblgaa.Bf
open Go.RowKit Go.Proofs.Ytjhkjnammpblgaa.Base Go.Proofs.Ytjhkjnammpblgaa.Mem Go.Proofs.Ytjhkjnammpblgaa.Cr
abbrev nm (n : Nat) : Value := .int .i64 (n : Int)
abbrev BfT : TypeId := 42
/-- A buffer's block: the array's places, then the room, the mark, the first one's place, how many are held. -/
structure Cs (cs : Array Value) (r m f c : Nat) : Prop where
  size : cs.size = 4100
  room : cs[4096]? = some (nm r)
  mark : cs[4097]? = some (nm m)
  first : cs[4098]? = some (nm f)
  count : cs[4099]? = some (nm c)
/-- A buffer lies in that block. -/
structure Bat (w : World) (b r m f : Nat) (t : ByteArray) (cs : Array Value) : Prop where
  at_ : At w b cs BfT
  ok : Cs cs r m f t.size
  rg : Rg r f t cs
  may : m ≤ r
def B (w : World) (b r m : Nat) (t : ByteArray) : Prop := ∃ f cs, Bat w b r m f t cs
abbrev Bs (b : Nat) : Nat → Prop := fun k => k = b
section
variable {w w' : World} {b r m f : Nat} {t : ByteArray}
theorem B.other {S : Nat → Prop} (h : B w b r m t) (hc : Chg S w w') (h1 : ¬ S b) : B w' b r m t :=
  let ⟨f, cs, x⟩ := h
  ⟨f, cs, x.at_.other hc h1, x.ok, x.rg, x.may⟩
theorem B.below (h : B w b r m t) (hb : Below w.heap.size w w') : B w' b r m t := h.other (S := fun _ => False) (Chg.mono (S := fun _ => False) (Chg.of_below hb) fun _ x => x) (fun x => x)
theorem B.drewN (h : B w b r m t) (n : Nat) : B (w.drewN n) b r m t := h.below ⟨rfl, rfl, rfl, Nat.le_refl _, fun _ _ => rfl⟩
theorem B.room (h : B w b r m t) : t.size ≤ r ∧ 0 < r ∧ r ≤ 4096 ∧ m ≤ r := by
  obtain ⟨_, _, h⟩ := h
  exact ⟨h.rg.few, Nat.lt_of_le_of_lt (Nat.zero_le _) h.rg.lt, h.rg.max, h.may⟩
theorem B.lt (h : B w b r m t) : b < w.heap.size := by
  obtain ⟨_, _, h⟩ := h
  exact h.at_.lt
end
theorem built0 (a b : Int) : (Try.prog.built BfT [(1, .int .i64 a), (2, .int .i64 b)]).map (fun c => (c.size, c[4096]?, c[4097]?, c[4098]?, c[4099]?)) = some (4100, some (.int .i64 a), some (.int .i64 b), some (.int .i64 0), some (.int .i64 0)) := by kernel_rfl
theorem built (r m : Nat) : ∃ c, Try.prog.built BfT [(1, nm r), (2, nm m)] = some c ∧ Cs c r m 0 0 := by
  obtain ⟨c, hc, e⟩ := Option.map_eq_some_iff.1 (built0 r m)
  obtain ⟨e0, e1, e2, e3, e4⟩ := by simpa only [Prod.mk.injEq] using e
  exact ⟨c, hc, e0, e1, e2, e3, e4⟩
section
variable {ops : Array Oper} {rest : List Oper} {a : Act} {Q : Exit → Act → World → Prop} {d : Option Tmp} {x : Operand} {ty : TypeId} {pos : String} {af : Array Edge} {w : World} {T : Nat}
theorem bdB {parts : Array (Nat × Operand)} {l : List (Nat × Value)} {c : Array Value} (hb : Try.prog.built T l = some c) (hl : (parts.map fun (i, x) => (i, a.eval x)).toList = l) (k : wpList Try.prog ops Q rest (a.put d (.agg c)) w) :
    wpList Try.prog ops Q ({ dst := d, op := .build T parts, type := ty, pos := pos, after := af, guard := none } :: rest) a w := by
  subst hl
  refine wpList_build rfl T parts rfl (by rw [hb]; rfl) ?_
  rw [hb]
  exact k
theorem bxB (c : Array Value) (hx : a.eval x = .agg c) (k : wpList Try.prog ops Q rest (a.put d (ptr w.heap.size)) (w.alloc (.cells c T))) :
    wpList Try.prog ops Q ({ dst := d, op := .box T x, type := ty, pos := pos, after := af, guard := none } :: rest) a w :=
  wpList_plain rfl fun _ hK => by
    unfold Oper.wp execOp
    simp only [hx, Instr.box, newVar, newRow, Value.cells, Sem.run_bind, Sem.run_pure, Result.andThen_ok, run_newObj]
    exact hK _ _ k
end
set_option maxRecDepth 100000 in
theorem fnew (r m : Nat) (h0 : 0 < r) (h1 : r ≤ 4096) (h2 : m ≤ r) (w : World) : Calls Try.prog 9 #[nm r, nm m] w fun e w' => e = .returned (ptr w.heap.size) ∧ B w' w.heap.size r m ⟨#[]⟩ ∧ Below w.heap.size w w' := by
  obtain ⟨c, hc, hcs⟩ := built r m
  have H := Lib.hid (And.intro h0 (And.intro h1 (And.intro h2 hcs)))
  have HC := Lib.hid hc
  have t0 : decide ((r : Int) < 1) = false := decide_eq_false (by omega)
  have t1 : ¬ (r : Int) < 1 := by omega
  have t2 : decide ((4096 : Int) < (r : Int)) = false := decide_eq_false (by omega)
  have t3 : ¬ (4096 : Int) < (r : Int) := by omega
  have t4 : decide ((m : Int) < 0) = false := decide_eq_false (by omega)
  have t5 : ¬ (m : Int) < 0 := by omega
  have t6 : decide ((r : Int) < (m : Int)) = false := decide_eq_false (by omega)
  have t7 : ¬ (r : Int) < (m : Int) := by omega
  clear h0 h1 h2 hcs hc
  go_enter Try.func9, Try.ntmps9
  go_wp2_with (first
    | ((with_reducible refine bdB HC.out ?hl ?_); (case hl => kernel_rfl))
    | ((with_reducible refine bxB c ?hx ?_); (case hx => rfl)))
  go_ret
  refine ⟨rfl, ⟨0, c, nest w [.cells c BfT] 0 _ rfl, H.out.2.2.2, ?_, H.out.2.2.1⟩, nest_below w [_]⟩
  exact rg_new r H.out.1 H.out.2.1 c (by have := H.out.2.2.2.size; have := H.out.2.1; omega)
/-- No room, or no mark of it. -/
def bad (a b : Int) : Prop := a < 1 ∨ 4096 < a ∨ b < 0 ∨ a < b
theorem fnew_none (a b : Int) (h : bad a b) (w : World) : Calls Try.prog 9 #[im a, im b] w fun e w' => e = .returned (.pointer none) ∧ w = w' := by
  by_cases h1 : a < 1
  · have t0 : decide (a < 1) = true := decide_eq_true h1
    clear h
    go_enter Try.func9, Try.ntmps9
    go_wp2
    go_ret
    exact ⟨rfl, rfl⟩
  have t1 : decide (a < 1) = false := decide_eq_false h1
  by_cases h2 : 4096 < a
  · have t0 : decide (4096 < a) = true := decide_eq_true h2
    clear h
    go_enter Try.func9, Try.ntmps9
    go_wp2
    go_ret
    exact ⟨rfl, rfl⟩
  have t2 : decide (4096 < a) = false := decide_eq_false h2
  by_cases h3 : b < 0
  · have t0 : decide (b < 0) = true := decide_eq_true h3
    clear h
    go_enter Try.func9, Try.ntmps9
    go_wp2
    go_ret
    exact ⟨rfl, rfl⟩
  have t3 : decide (b < 0) = false := decide_eq_false h3
  have h4 : a < b := by unfold bad at h; omega
  have t4 : decide (a < b) = true := decide_eq_true h4
  clear h
  go_enter Try.func9, Try.ntmps9
  go_wp2
  go_ret
  exact ⟨rfl, rfl⟩
theorem flen_nil (w : World) : Calls Try.prog 17 #[.pointer none] w fun e w' => e = .returned (im 0) ∧ w = w' := by
  go_enter Try.func17, Try.ntmps17
  go_wp2
  go_ret
  exact ⟨rfl, rfl⟩
theorem ffree_nil (w : World) : Calls Try.prog 16 #[.pointer none] w fun e w' => e = .returned (im 0) ∧ w = w' := by
  go_enter Try.func16, Try.ntmps16
  go_wp2
  go_ret
  exact ⟨rfl, rfl⟩
section
variable {w : World} {b r m f c : Nat} {cs : Array Value}
theorem flen0 (h : At w b cs BfT) (hc : Cs cs r m f c) : Calls Try.prog 17 #[ptr b] w fun e w' => e = .returned (nm c) ∧ w = w' := by
  have c2 := h.cell 4099 (nm c) hc.count
  clear h hc
  go_enter Try.func17, Try.ntmps17
  go_wp2
  go_ret
  exact ⟨rfl, rfl⟩
theorem ffree0 (h : At w b cs BfT) (hc : Cs cs r m f c) (v : Nat) (hv : r - c = v) (h1 : c ≤ r) (h2 : r ≤ 4096) : Calls Try.prog 16 #[ptr b] w fun e w' => e = .returned (nm v) ∧ ∃ k, w' = w.drewN k := by
  have c0 := h.cell 4096 (nm r) hc.room
  have c2 := h.cell 4099 (nm c) hc.count
  have v0 : IntKind.i64.wrap ((r : Int) - (c : Int)) = (v : Int) := by rw [IntKind.wrap_i64]; omega
  have hlt := h.lt
  clear h hc hv h1 h2
  go_enter Try.func16, Try.ntmps16
  go_wp2_with fail
  go_quiet (fail)
  go_wp2
  go_ret
  exact ⟨rfl, nq, rfl⟩
/-- The place of the byte ahead of which n others stand. -/
theorem fplace (h : At w b cs BfT) (hc : Cs cs r m f c) (n p : Nat) (hp : pl r (f + n) = p) (hm : f + n ≤ 100000) (hr : r ≤ 4096) : Calls Try.prog 20 #[ptr b, nm n] w fun e w' => e = .returned (nm p) ∧ w = w' := by
  have c0 := h.cell 4096 (nm r) hc.room
  have c1 := h.cell 4098 (nm f) hc.first
  obtain ⟨s, hs⟩ : ∃ s, f + n = s := ⟨_, rfl⟩
  rw [hs] at hp hm
  have v0 : IntKind.i64.wrap ((f : Int) + (n : Int)) = (s : Int) := by rw [IntKind.wrap_i64]; omega
  clear hs
  clear h hc
  by_cases hlow : s < r
  · rw [pl_low hlow] at hp
    subst hp
    have t0 : decide ((r : Int) ≤ (s : Int)) = false := decide_eq_false (by omega)
    have t1 : ¬ (r : Int) ≤ (s : Int) := by omega
    have t2 : ¬ r ≤ s := by omega
    clear hlow hm hr
    go_enter Try.func20, Try.ntmps20
    go_wp2
    go_ret
    exact ⟨rfl, rfl⟩
  · rw [pl_high hlow] at hp
    have t0 : decide ((r : Int) ≤ (s : Int)) = true := decide_eq_true (by omega)
    have t1 : (r : Int) ≤ (s : Int) := by omega
    have t2 : r ≤ s := by omega
    have v1 : IntKind.i64.wrap ((s : Int) - (r : Int)) = (p : Int) := by rw [IntKind.wrap_i64]; omega
    clear hp hlow hm hr
    go_enter Try.func20, Try.ntmps20
    go_wp2
    go_ret
    exact ⟨rfl, rfl⟩
/-- Less room is left than its mark says. -/
def highB (r m c : Nat) : Bool := decide (r - c < m)
/-- At least twice the mark is left, or nothing is held. -/
def lowB (r m c : Nat) : Bool := decide (c = 0 ∨ m + m ≤ r - c)
theorem quiet_drew {P : Program} {f : FuncId} {args : Array Value} {w : World} {n : Nat} {v : Value}
    (h : Calls P f args (w.drewN n) fun e w' => e = .returned v ∧ ∃ k, w' = (w.drewN n).drewN k) : Calls P f args (w.drewN n) fun e w'' => e = .returned v ∧ ∃ m, w'' = w.drewN m :=
  h.mono fun _ _ ⟨he, k, hk⟩ => ⟨he, n + k, hk.trans (World.drewN_drewN _ _ _)⟩
theorem fhigh0 (h : At w b cs BfT) (hc : Cs cs r m f c) (h1 : c ≤ r) (h2 : r ≤ 4096) : Calls Try.prog 19 #[ptr b] w fun e w' => e = .returned (.bool (highB r m c)) ∧ ∃ k, w' = w.drewN k := by
  have C := Lib.hid (fun k => ffree0 (w := w.drewN k) (h : At (w.drewN k) b cs BfT) hc (r - c) rfl h1 h2)
  have c1 := h.cell 4097 (nm m) hc.mark
  have hlt := h.lt
  unfold highB
  generalize r - c = v at C ⊢
  clear h hc h1 h2
  go_enter Try.func19, Try.ntmps19
  go_wp2_with fail
  go_quiet (first | (go_at_call 16; exact quiet_drew (C.out _)))
  go_wp2
  go_ret
  exact ⟨rfl, nq, rfl⟩
theorem flow0 (h : At w b cs BfT) (hc : Cs cs r m f c) (h1 : c ≤ r) (h2 : r ≤ 4096) (h3 : m ≤ r) : Calls Try.prog 18 #[ptr b] w fun e w' => e = .returned (.bool (lowB r m c)) ∧ ∃ k, w' = w.drewN k := by
  have C := Lib.hid (fun k => ffree0 (w := w.drewN k) (h : At (w.drewN k) b cs BfT) hc (r - c) rfl h1 h2)
  have c1 := h.cell 4097 (nm m) hc.mark
  have c2 := h.cell 4099 (nm c) hc.count
  have hlt := h.lt
  obtain ⟨mm, hmm⟩ : ∃ x, m + m = x := ⟨_, rfl⟩
  have v0 : IntKind.i64.wrap ((2 : Int) * (m : Int)) = (mm : Int) := by rw [IntKind.wrap_i64]; omega
  unfold lowB
  rw [hmm]
  generalize r - c = v at C ⊢
  clear h hc h1 h2 h3 hmm
  by_cases hz : c = 0
  · subst hz
    rw [decide_eq_true (.inl rfl)]
    go_enter Try.func18, Try.ntmps18
    go_wp2_with fail
    go_quiet (first | (go_at_call 16; exact quiet_drew (C.out _)))
    go_wp2
    go_ret
    exact ⟨rfl, nq, rfl⟩
  · have e0 : ((c : Int) == 0) = false := by rw [beq_eq_false_iff_ne]; omega
    have e1 : ¬ (c : Int) = 0 := by omega
    have e2 : decide (c = 0 ∨ mm ≤ v) = decide (mm ≤ v) := decide_eq_decide.2 ⟨fun x => x.resolve_left hz, .inr⟩
    rw [e2]
    clear e2
    go_enter Try.func18, Try.ntmps18
    go_wp2_with fail
    go_quiet (first | (go_at_call 16; exact quiet_drew (C.out _)))
    go_wp2
    go_ret
    exact ⟨rfl, nq, rfl⟩
end
theorem fhigh_nil (w : World) : Calls Try.prog 19 #[.pointer none] w fun e w' => e = .returned (.bool false) ∧ ∃ k, w' = w.drewN k := by
  go_enter Try.func19, Try.ntmps19
  go_wp2_with fail
  go_quiet (fail)
  go_wp2
  go_ret
  exact ⟨rfl, nq, rfl⟩
theorem flow_nil (w : World) : Calls Try.prog 18 #[.pointer none] w fun e w' => e = .returned (.bool false) ∧ ∃ k, w' = w.drewN k := by
  go_enter Try.func18, Try.ntmps18
  go_wp2_with fail
  go_quiet (fail)
  go_wp2
  go_ret
  exact ⟨rfl, nq, rfl⟩
section
variable {w : World} {b r m : Nat} {t : ByteArray}
theorem flen (h : B w b r m t) : Calls Try.prog 17 #[ptr b] w fun e w' => e = .returned (nm t.size) ∧ w = w' := by
  obtain ⟨_, _, h⟩ := h
  exact flen0 h.at_ h.ok
theorem ffree (h : B w b r m t) : Calls Try.prog 16 #[ptr b] w fun e w' => e = .returned (nm (r - t.size)) ∧ ∃ k, w' = w.drewN k := by
  obtain ⟨_, _, h⟩ := h
  exact ffree0 h.at_ h.ok _ rfl h.rg.few h.rg.max
theorem fhigh (h : B w b r m t) : Calls Try.prog 19 #[ptr b] w fun e w' => e = .returned (.bool (highB r m t.size)) ∧ ∃ k, w' = w.drewN k := by
  obtain ⟨_, _, h⟩ := h
  exact fhigh0 h.at_ h.ok h.rg.few h.rg.max
theorem flow (h : B w b r m t) : Calls Try.prog 18 #[ptr b] w fun e w' => e = .returned (.bool (lowB r m t.size)) ∧ ∃ k, w' = w.drewN k := by
  obtain ⟨_, _, h⟩ := h
  exact flow0 h.at_ h.ok h.rg.few h.rg.max h.may
end
end Go.Proofs.Ytjhkjnammpblgaa.Bf

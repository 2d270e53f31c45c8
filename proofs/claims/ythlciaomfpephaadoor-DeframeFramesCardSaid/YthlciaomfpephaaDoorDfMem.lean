/-
  A deframer in memory, and the small methods: flag, begin, lost, spoil, judge, Bad, New. Conditions: what a deframer holds lies where it says; it was bad at most a million times.
  The methods lost, spoil, judge of a deframer. Conditions: what it holds lies where it says; it was bad at most a million times.
  The method judge of a deframer, and New. Conditions: what it holds lies where it says; it was bad at most a million times.
  A byte is appended to what a deframer gathered; the methods control and rest. Conditions: what it holds lies where it says, and is one of those that a deframer comes to.
-/
import Derived.Test.YthlciaomfpephaaDoorDfMath
import Derived.Test.YthlciaomfpephaaDoorOwn
import Derived.Test.YthlciaomfpephaaDoorBasicSmall
import Derived.Test.YthlciaomfpephaaDoorAdvPut
import Derived.Deep.LoopGhost
import Derived.BigQuiet
import Derived.Laws.EntriesVeiled
namespace Go.Proofs.YthlciaomfpephaaDoor.Df
open Go.RowKit Go.Proofs.YthlciaomfpephaaDoor.Base Go.Proofs.YthlciaomfpephaaDoor.Ea Go.Proofs.YthlciaomfpephaaDoor.Field Go.Proofs.YthlciaomfpephaaDoor.Basic Go.Proofs.YthlciaomfpephaaDoor.Adv
/-- Which method stands for what the next byte does. -/
def fnOf : Nat → FuncId
  | 0 => 14
  | 1 => 37
  | 2 => 36
  | 3 => 48
  | 4 => 54
  | 5 => 60
  | _ => 62
abbrev cellsD (c : Cf) (D : Nat) (m : Nat) (v : Value) (left bad : Nat) : Array Value := #[.bool c.adv, .bool c.ini, .int .i64 (c.room : Int), .func (.func (fnOf m)) #[ptr D] #[], v, .int .i64 (left : Int), .int .i64 (bad : Int)]
/-- A deframer lies in a block; what it gathered lies behind it. -/
structure DfAt (w : World) (D : Nat) (c : Cf) (q : St) (v : Value) : Prop where
  blk : w.heap[D]? = some (.cells (cellsD c D q.m v q.left q.bad) 44 (0, 0))
  own : Own w (D + 1) v q.got
/-- All that was there is as it was, but for the deframer's block and the one where its bytes lay. -/
structure Kp (D : Nat) (r : Option Nat) (w w' : World) : Prop where
  os : w'.os = w.os
  tape : w'.tape = w.tape
  output : w'.output = w.output
  size : w.heap.size ≤ w'.heap.size
  block : ∀ k, k < w.heap.size → k ≠ D → some k ≠ r → w'.heap[k]? = w.heap[k]?
theorem Kp.of {D : Nat} {r : Option Nat} {w w' : World} (h : Below w.heap.size w w') : Kp D r w w' := ⟨h.os, h.tape, h.output, h.size, fun k hk _ _ => h.block k hk⟩
theorem Kp.refl (D : Nat) (r : Option Nat) (w : World) : Kp D r w w := Kp.of (Below.refl _ _)
theorem Kp.trans {D : Nat} {r : Option Nat} {a b c : World} (h : Kp D r a b) (k : Kp D r b c) : Kp D r a c :=
  ⟨k.os.trans h.os, k.tape.trans h.tape, k.output.trans h.output, Nat.le_trans h.size k.size, fun i hi h1 h2 => (k.block i (Nat.lt_of_lt_of_le hi h.size) h1 h2).trans (h.block i hi h1 h2)⟩
theorem Kp.on {D : Nat} {r : Option Nat} {a b c : World} (h : Kp D r a b) (k : Below b.heap.size b c) : Kp D r a c := h.trans (Kp.of k)
theorem Kp.alloc {D : Nat} {r : Option Nat} {a b : World} (h : Kp D r a b) (o : Obj) : Kp D r a (b.alloc o) := h.on ((Below.refl _ _).alloc (Nat.le_refl _) o)
theorem Kp.drew {D : Nat} {r : Option Nat} {a b : World} (h : Kp D r a b) : Kp D r a b.drew := h.on (Below.refl _ _).drew
theorem Kp.set {D : Nat} {r : Option Nat} {a b : World} (h : Kp D r a b) (i : Nat) (v : Value) : Kp D r a (b.setCell ⟨D, i, none⟩ v) :=
  h.trans ⟨rfl, rfl, rfl, by simp [World.setCell], fun k _ h1 _ => Below.heap_setCell _ _ _ _ h1⟩
theorem Kp.new {D : Nat} {r : Option Nat} {a b : World} (h : Kp D r a b) {k i : Nat} (hk : a.heap.size ≤ k) (v : Value) : Kp D r a (b.setCell ⟨k, i, none⟩ v) :=
  ⟨h.os, h.tape, h.output, by simpa [World.setCell] using h.size, fun j hj h1 h2 => by rw [Below.heap_setCell _ _ _ _ (show j ≠ k by omega)]; exact h.block j hj h1 h2⟩
theorem Kp.grown {D : Nat} {r : Option Nat} {a b c : World} (h : Kp D r a b) (hg : b.grownBy c r) : Kp D r a c :=
  h.trans ⟨hg.os, hg.tape, hg.output, hg.size, fun k hk _ h2 => hg.block k hk h2⟩
theorem Kp.at {D b : Nat} {r : Option Nat} {w w' : World} {o : Obj} (h : Kp D r w w') (ho : w.heap[b]? = some o) (h1 : b ≠ D) (h2 : some b ≠ r) : w'.heap[b]? = some o := (h.block b (lt_heap ho) h1 h2).trans ho
/-- What a call leaves: what the deframer holds now, and all else as it was. -/
def Next (D : Nat) (c : Cf) (w : World) (v : Value) (q : St) (w' : World) : Prop := ∃ v', DfAt w' D c q v' ∧ Kp D v.ownBlock w w' ∧ Lies w v v'
theorem DfAt.lt {w : World} {D : Nat} {c : Cf} {q : St} {v : Value} (h : DfAt w D c q v) : D < w.heap.size := lt_heap h.blk
theorem DfAt.apart {w : World} {D : Nat} {c : Cf} {q : St} {v : Value} (h : DfAt w D c q v) : v.ownBlock = none ∨ v.ownBlock ≠ some D := by
  cases hv : v.ownBlock with
  | none => exact Or.inl rfl
  | some k =>
    refine Or.inr fun e => ?_
    have := (h.own.lt k hv).1
    rw [Option.some.injEq] at e
    omega
theorem DfAt.below {w w' : World} {D : Nat} {c : Cf} {q : St} {v : Value} (h : DfAt w D c q v) (hb : Below w.heap.size w w') : DfAt w' D c q v := ⟨stays h.blk hb, h.own.below hb⟩
theorem DfAt.alloc {w : World} {D : Nat} {c : Cf} {q : St} {v : Value} (h : DfAt w D c q v) (o : Obj) : DfAt (w.alloc o) D c q v := h.below ((Below.refl _ _).alloc (Nat.le_refl _) o)
/-- A block that is neither the deframer nor its bytes may be written. -/
theorem own_set {w : World} {base : Nat} {v : Value} {l : List UInt8} (h : Own w base v l) (k i : Nat) (u : Value) (hk : v.ownBlock = none ∨ v.ownBlock ≠ some k) : Own (w.setCell ⟨k, i, none⟩ u) base v l := by
  refine h.grown (r := some k) ⟨rfl, rfl, rfl, by simp [World.setCell], fun j _ hj => Below.heap_setCell _ _ _ _ (fun e => hj (by rw [e]))⟩ hk
theorem DfAt.set {w : World} {D : Nat} {c : Cf} {q : St} {v : Value} (h : DfAt w D c q v) (k i : Nat) (u : Value) (h1 : k ≠ D) (hk : v.ownBlock = none ∨ v.ownBlock ≠ some k) : DfAt (w.setCell ⟨k, i, none⟩ u) D c q v :=
  ⟨(Below.heap_setCell _ _ _ _ (fun e => h1 e.symm)).trans h.blk, own_set h.own k i u hk⟩
theorem DfAt.cells {w : World} {D : Nat} {c : Cf} {q : St} {v : Value} (h : DfAt w D c q v) : w.cell? ⟨D, 0, none⟩ = some (.bool c.adv) ∧ w.cell? ⟨D, 1, none⟩ = some (.bool c.ini) ∧ w.cell? ⟨D, 2, none⟩ = some (.int .i64 (c.room : Int)) ∧ w.cell? ⟨D, 3, none⟩ = some (.func (.func (fnOf q.m)) #[ptr D] #[]) ∧ w.cell? ⟨D, 4, none⟩ = some v ∧ w.cell? ⟨D, 5, none⟩ = some (.int .i64 (q.left : Int)) ∧ w.cell? ⟨D, 6, none⟩ = some (.int .i64 (q.bad : Int)) :=
  ⟨cell_of h.blk rfl, cell_of h.blk rfl, cell_of h.blk rfl, cell_of h.blk rfl, cell_of h.blk rfl, cell_of h.blk rfl, cell_of h.blk rfl⟩
theorem DfAt.free {w : World} {D : Nat} {c : Cf} {q : St} {v : Value} (h : DfAt w D c q v) : ∀ i, w.frozen? ⟨D, i, none⟩ = false := fun _ => free_of h.blk
theorem lies_refl (w : World) (v : Value) : Lies w v v := Or.inl rfl
theorem lies_on {w w' : World} {v v' v2 : Value} (h : Lies w v v') (hw : w.heap.size ≤ w'.heap.size) (h2 : Lies w' v' v2) : Lies w v v2 := by
  rcases h2 with h2 | h2
  · rcases h with h | h
    · exact Or.inl (h2.trans h)
    · exact Or.inr fun k hk => h k (by rw [← h2]; exact hk)
  · exact Or.inr fun k hk => Nat.le_trans hw (h2 k hk)
theorem Kp.next {D : Nat} {a b : World} {v v' : Value} (h : Kp D v.ownBlock a b) (hl : Lies a v v') {d : World} (k : Kp D v'.ownBlock b d) : Kp D v.ownBlock a d :=
  ⟨k.os.trans h.os, k.tape.trans h.tape, k.output.trans h.output, Nat.le_trans h.size k.size, fun i hi h1 h2 => (k.block i (Nat.lt_of_lt_of_le hi h.size) h1 (hl.ne hi h2)).trans (h.block i hi h1 h2)⟩
theorem Next.on {D : Nat} {c : Cf} {a b d : World} {v v' : Value} {q : St} (h : Kp D v.ownBlock a b) (hl : Lies a v v') (k : Next D c b v' q d) : Next D c a v q d := by
  obtain ⟨v2, h1, h2, h3⟩ := k
  exact ⟨v2, h1, h.next hl h2, lies_on hl h.size h3⟩
/-- A new block of the call's own is written. -/
theorem Next.new {D : Nat} {c : Cf} {w w' : World} {v : Value} {q : St} (h : Next D c w v q w') {k : Nat} (i : Nat) (u : Value) (hk : w.heap.size ≤ k) (hD : D < w.heap.size) (hv : ∀ v', Lies w v v' → v'.ownBlock = none ∨ v'.ownBlock ≠ some k) : Next D c w v q (w'.setCell ⟨k, i, none⟩ u) := by
  obtain ⟨v', h1, h2, h3⟩ := h
  exact ⟨v', h1.set k i u (by omega) (hv v' h3), h2.new hk u, h3⟩
set_option maxHeartbeats 1000000 in
theorem fflag (w : World) (D : Nat) (c : Cf) (q : St) (v : Value) (h : DfAt w D c q v) :
    Calls Tryd.prog 17 #[ptr D] w fun e w' => e = .returned (.int .u8 ((flagB c).toNat : Int)) ∧ w = w' := by
  obtain ⟨g0, -, -, -, -, -, -⟩ := h.cells
  cases ha : c.adv
  all_goals
    rw [ha] at g0
    go_enter Tryd.func17, Tryd.ntmps17
    go_wp2
    go_ret
    exact ⟨ret_int (by unfold flagB; rw [ha]; rfl), rfl⟩
set_option maxHeartbeats 1000000 in
theorem fbad (w : World) (D : Nat) (c : Cf) (q : St) (v : Value) (h : DfAt w D c q v) :
    Calls Tryd.prog 10 #[ptr D] w fun e w' => e = .returned (.int .i64 (q.bad : Int)) ∧ w = w' := by
  obtain ⟨-, -, -, -, -, -, g6⟩ := h.cells
  go_enter Tryd.func10, Tryd.ntmps10
  go_wp2
  go_ret
  exact ⟨rfl, rfl⟩
theorem own_cut {w : World} {base g n cap : Nat} {l : List UInt8} (h : Own w base (.slice (some ⟨g, 0, none⟩) n cap) l) : Own w base (.slice (some ⟨g, 0, none⟩) 0 cap) [] := by
  refine ⟨rfl, ?_⟩
  rcases h.2 with ⟨h1, _⟩ | ⟨g', cap', cur, h1, h2, h3, h4, h5, h6, h7⟩
  · cases h1
  · injection h1 with e1 e2 e3
    subst e3
    injection e1 with e1
    injection e1 with e1
    subst e1
    exact Or.inr ⟨g, cap, cur, rfl, h2, h3, Nat.zero_le _, h5, h6, by simp⟩
/-- A deframer's block, cell by cell. -/
def Raw (w : World) (D : Nat) (c : Cf) (m : Nat) (v : Value) (left bad : Nat) : Prop := w.heap[D]? = some (.cells (cellsD c D m v left bad) 44 (0, 0))
theorem Raw.set3 {w : World} {D : Nat} {c : Cf} {m : Nat} {v : Value} {left bad : Nat} (h : Raw w D c m v left bad) (m' : Nat) {f : FuncId} (hf : fnOf m' = f) : Raw (w.setCell ⟨D, 3, none⟩ (.func (.func f) #[ptr D] #[])) D c m' v left bad := by subst hf; exact block_set (i := 3) h _
theorem Raw.set4 {w : World} {D : Nat} {c : Cf} {m : Nat} {v : Value} {left bad : Nat} (h : Raw w D c m v left bad) (v' : Value) : Raw (w.setCell ⟨D, 4, none⟩ v') D c m v' left bad := block_set (i := 4) h _
theorem Raw.set5 {w : World} {D : Nat} {c : Cf} {m : Nat} {v : Value} {left bad : Nat} (h : Raw w D c m v left bad) (n : Nat) {x : Int} (hx : (n : Int) = x) : Raw (w.setCell ⟨D, 5, none⟩ (.int .i64 x)) D c m v n bad := by subst hx; exact block_set (i := 5) h _
theorem Raw.set6 {w : World} {D : Nat} {c : Cf} {m : Nat} {v : Value} {left bad : Nat} (h : Raw w D c m v left bad) (n : Nat) {x : Int} (hx : (n : Int) = x) : Raw (w.setCell ⟨D, 6, none⟩ (.int .i64 x)) D c m v left n := by subst hx; exact block_set (i := 6) h _
theorem Raw.at {w : World} {D : Nat} {c : Cf} {m : Nat} {v : Value} {left bad : Nat} {got : List UInt8} (h : Raw w D c m v left bad) (ho : Own w (D + 1) v got) {q : St} (e : q = ⟨m, got, left, bad⟩) : DfAt w D c q v := by subst e; exact ⟨h, ho⟩
theorem apart_of {w : World} {D : Nat} {v : Value} {l : List UInt8} (h : Own w (D + 1) v l) : v.ownBlock = none ∨ v.ownBlock ≠ some D := by
  cases hv : v.ownBlock with
  | none => exact Or.inl rfl
  | some k =>
    refine Or.inr fun e => ?_
    have := (h.lt k hv).1
    rw [Option.some.injEq] at e
    omega
/-- What was gathered stays while the deframer's own block is written. -/
theorem own_D {w : World} {D : Nat} {v : Value} {l : List UInt8} (h : Own w (D + 1) v l) (i : Nat) (u : Value) : Own (w.setCell ⟨D, i, none⟩ u) (D + 1) v l := own_set h D i u (apart_of h)
theorem kp1 (w : World) (D : Nat) (r : Option Nat) : Kp D r w w := Kp.refl _ _ _
set_option maxHeartbeats 1000000 in
theorem fbegin (w : World) (D : Nat) (c : Cf) (q : St) (v : Value) (h : DfAt w D c q v) :
    Calls Tryd.prog 18 #[ptr D] w fun e w' => e = .returned (.tuple #[]) ∧ Next D c w v (begin c q) w' := by
  have H := Lib.hid h
  obtain ⟨g0, -, -, g3, g4, -, -⟩ := h.cells
  have hf := h.free
  have hlt := h.lt
  rcases h.own.shape with ⟨rfl, hl⟩ | ⟨g, cap, rfl, hb⟩
  · clear h
    have HO : Hid (Own w (D + 1) (.slice none 0 0) []) := Lib.hid (own_nil _ _)
    cases ha : c.adv
    · rw [ha] at g0
      go_enter Tryd.func18, Tryd.ntmps18
      go_wp2
      go_end0
      exact ⟨rfl, _, Raw.at ((Raw.set4 H.out.blk (.slice none 0 0)).set3 2 rfl) (own_D (own_D HO.out _ _) _ _) (by simp [begin, begm, ha]), ((kp1 _ _ _).set _ _).set _ _, lies_refl _ _⟩
    · rw [ha] at g0
      go_enter Tryd.func18, Tryd.ntmps18
      go_wp2
      go_end0
      exact ⟨rfl, _, Raw.at (((Raw.set4 H.out.blk (.slice none 0 0)).set3 2 rfl).set3 1 rfl) (own_D (own_D (own_D HO.out _ _) _ _) _ _) (by simp [begin, begm, ha]), (((kp1 _ _ _).set _ _).set _ _).set _ _, lies_refl _ _⟩
  · have HO : Hid (Own w (D + 1) (.slice (some ⟨g, 0, none⟩) 0 cap) []) := Lib.hid (own_cut h.own)
    clear h
    cases ha : c.adv
    · rw [ha] at g0
      go_enter Tryd.func18, Tryd.ntmps18
      go_wp2
      go_end0
      exact ⟨rfl, _, Raw.at ((Raw.set4 H.out.blk (.slice (some ⟨g, 0, none⟩) 0 cap)).set3 2 rfl) (own_D (own_D HO.out _ _) _ _) (by simp [begin, begm, ha]), ((kp1 _ _ _).set _ _).set _ _, lies_refl _ _⟩
    · rw [ha] at g0
      go_enter Tryd.func18, Tryd.ntmps18
      go_wp2
      go_end0
      exact ⟨rfl, _, Raw.at (((Raw.set4 H.out.blk (.slice (some ⟨g, 0, none⟩) 0 cap)).set3 2 rfl).set3 1 rfl) (own_D (own_D (own_D HO.out _ _) _ _) _ _) (by simp [begin, begm, ha]), (((kp1 _ _ _).set _ _).set _ _).set _ _, lies_refl _ _⟩
theorem DfAt.ne {w : World} {D : Nat} {c : Cf} {q : St} {v : Value} (h : DfAt w D c q v) {k : Nat} (hk : w.heap.size ≤ k) : some k ≠ v.ownBlock := fun e => by
  have := (h.own.lt k e.symm).2
  omega
/-- A block that the call made ahead of another one's work is as it was. -/
theorem Next.fresh {D : Nat} {c : Cf} {w w1 : World} {v : Value} {q q0 : St} {o : Obj} {n : Nat} (h0 : DfAt w D c q0 v) (h : Next D c (w.alloc o) v q w1) (hn : w.heap.size = n) : w1.heap[n]? = some o := by
  subst hn
  obtain ⟨v', _, h2, _⟩ := h
  exact h2.at (nest w [o] 0 o rfl) (by have := h0.lt; omega) (h0.ne (Nat.le_refl _))
theorem size_alloc (w : World) (o : Obj) : (w.alloc o).heap.size = w.heap.size + 1 := by simp
/-- What a call leaves, the result's own block written. -/
theorem Next.ret {D : Nat} {c : Cf} {w w1 : World} {v : Value} {q q0 : St} {o : Obj} {n : Nat} (h0 : DfAt w D c q0 v) (h : Next D c (w.alloc o) v q w1) (hn : w.heap.size = n) (v0 v1 v2 v3 v4 v5 v6 : Value) :
    Next D c w v q (((((((w1.setCell ⟨n, 0, none⟩ v0).setCell ⟨n, 1, none⟩ v1).setCell ⟨n, 2, none⟩ v2).setCell ⟨n, 3, none⟩ v3).setCell ⟨n, 4, none⟩ v4).setCell ⟨n, 5, none⟩ v5).setCell ⟨n, 6, none⟩ v6) := by
  subst hn
  obtain ⟨v', h1, h2, h3⟩ := h
  have hD := h0.lt
  have hv : v'.ownBlock = none ∨ v'.ownBlock ≠ some w.heap.size := by
    cases hb : v'.ownBlock with
    | none => exact Or.inl rfl
    | some k =>
      refine Or.inr fun e => ?_
      rw [Option.some.injEq] at e
      subst e
      rcases h3 with h3 | h3
      · exact h0.ne (Nat.le_refl _) (by rw [← h3, hb])
      · have := h3 _ hb
        rw [size_alloc] at this
        omega
  have hne : w.heap.size ≠ D := by omega
  have hK : Kp D v.ownBlock w w1 := ((Kp.refl D v.ownBlock w).alloc o).trans h2
  have hL : Lies w v v' := by
    rcases h3 with h3 | h3
    · exact Or.inl h3
    · refine Or.inr fun k hk => ?_
      have := h3 k hk
      rw [size_alloc] at this
      omega
  exact ⟨v', ((((((h1.set _ _ _ hne hv).set _ _ _ hne hv).set _ _ _ hne hv).set _ _ _ hne hv).set _ _ _ hne hv).set _ _ _ hne hv).set _ _ _ hne hv, ((((((hK.new (Nat.le_refl _) _).new (Nat.le_refl _) _).new (Nat.le_refl _) _).new (Nat.le_refl _) _).new (Nat.le_refl _) _).new (Nat.le_refl _) _).new (Nat.le_refl _) _, hL⟩
theorem Next.same {D : Nat} {c : Cf} {w : World} {v : Value} {q : St} (h0 : DfAt w D c q v) (o : Obj) : Next D c w v q (w.alloc o) := ⟨v, h0.alloc o, (Kp.refl _ _ _).alloc o, lies_refl _ _⟩
/-- What a byte answers: a frame, and whether it is one. -/
abbrev ansV (o : Option Fr) : Value := match o with
  | none => .tuple #[noFr, .bool false]
  | some f => .tuple #[fv f, .bool true]
theorem beq_u8 {a b : UInt8} (h : a = b) : ((a.toNat : Int) == (b.toNat : Int)) = true := by rw [h]; simp
theorem bne_u8 {a b : UInt8} (h : a ≠ b) : ((a.toNat : Int) == (b.toNat : Int)) = false := by
  rw [beq_eq_false_iff_ne]
  intro e
  exact h (UInt8.toNat_inj.1 (by omega))
set_option maxHeartbeats 1000000 in
theorem flost (w : World) (D : Nat) (c : Cf) (q : St) (v : Value) (b : UInt8) (h : DfAt w D c q v) :
    Calls Tryd.prog 14 #[ptr D, .int .u8 (b.toNat : Int)] w fun e w' => e = .returned (.tuple #[noFr, .bool false]) ∧ Next D c w v (lost c q b) w' := by
  have H := Lib.hid h
  clear h
  by_cases hb : b = flagB c
  · have e := beq_u8 hb
    have HL : Hid (lost c q b = begin c q) := Lib.hid (if_pos hb)
    clear hb
    go_enter Tryd.func14, Tryd.ntmps14
    go_wp2_with (first
      | (go_at_call 17; ((with_reducible refine (fflag _ D c q v (H.out.alloc _)).mono ?_); rintro e w' ⟨rfl, rfl⟩))
      | (go_at_call 18; ((with_reducible refine (fbegin _ D c q v (H.out.alloc _)).mono ?_); rintro e w1 ⟨rfl, hn⟩; have HN := Lib.hid hn; clear hn; obtain ⟨⟨k0, k1, k2, k3, k4, k5, k6⟩, kf⟩ := no_cells (HN.out.fresh H.out rfl))))
    exact bodyPost_ret (v := .tuple #[noFr, .bool false]) (by simp [results, Tryd.results14, go_sem, k0, k1, k2, k3, k4, k5, k6]) rfl ⟨rfl, by rw [HL.out]; exact HN.out.ret H.out rfl _ _ _ _ _ _ _⟩
  · have e := bne_u8 hb
    have HL : Hid (lost c q b = q) := Lib.hid (if_neg hb)
    clear hb
    go_enter Tryd.func14, Tryd.ntmps14
    go_wp2_with (first
      | (go_at_call 17; ((with_reducible refine (fflag _ D c q v (H.out.alloc _)).mono ?_); rintro e w' ⟨rfl, rfl⟩)))
    exact bodyPost_ret (v := .tuple #[noFr, .bool false]) (by simp [results, Tryd.results14, go_sem]) rfl ⟨rfl, by rw [HL.out]; exact Next.same H.out _⟩
theorem Next.off {D : Nat} {c : Cf} {w w' : World} {v : Value} {q : St} {o : Obj} (h : Next D c (w.alloc o) v q w') : Next D c w v q w' := Next.on ((Kp.refl _ _ _).alloc o) (lies_refl _ _) h
set_option maxHeartbeats 1000000 in
theorem fspoil (w : World) (D : Nat) (c : Cf) (q : St) (v : Value) (b : UInt8) (h : DfAt w D c q v) (hb : q.bad ≤ 1000000) :
    Calls Tryd.prog 47 #[ptr D, .int .u8 (b.toNat : Int)] w fun e w' => e = .returned (.tuple #[noFr, .bool false]) ∧ Next D c w v (spoil c q b) w' := by
  have H := Lib.hid h
  obtain ⟨-, -, -, g3, -, -, g6⟩ := h.cells
  have hf := h.free
  have hlt := h.lt
  have H2 : Hid (DfAt ((w.setCell ⟨D, 6, none⟩ (.int .i64 ((q.bad : Int) + 1))).setCell ⟨D, 3, none⟩ (.func (.func 14) #[ptr D] #[])) D c { q with m := 0, bad := q.bad + 1 } v) := Lib.hid (Raw.at ((Raw.set6 h.blk (q.bad + 1) (by omega)).set3 0 rfl) (own_D (own_D h.own _ _) _ _) rfl)
  have HK : Hid (Kp D v.ownBlock w ((w.setCell ⟨D, 6, none⟩ (.int .i64 ((q.bad : Int) + 1))).setCell ⟨D, 3, none⟩ (.func (.func 14) #[ptr D] #[]))) := Lib.hid (((kp1 _ _ _).set _ _).set _ _)
  clear h
  go_enter Tryd.func47, Tryd.ntmps47
  go_wp2_with (first
    | (go_at_call 14; ((with_reducible refine (flost _ D c _ v b (H2.out.alloc _)).mono ?_); rintro e w1 ⟨rfl, hn⟩; have HN := Lib.hid hn; clear hn; obtain ⟨⟨k0, k1, k2, k3, k4, k5, k6⟩, kf⟩ := no_cells (HN.out.fresh H2.out (n := w.heap.size) (by simp [World.setCell])))))
  exact bodyPost_ret (v := .tuple #[noFr, .bool false]) (by simp [results, Tryd.results47, go_sem, k0, k1, k2, k3, k4, k5, k6]) rfl ⟨rfl, Next.on HK.out (lies_refl _ _) (HN.out.ret H2.out (n := w.heap.size) (by simp [World.setCell]) _ _ _ _ _ _ _)⟩
theorem Next.fresh2 {D : Nat} {c : Cf} {w w1 : World} {v : Value} {q q0 : St} {o p : Obj} (h0 : DfAt w D c q0 v) (h : Next D c ((w.alloc o).alloc p) v q w1) : w1.heap[w.heap.size]? = some o ∧ w1.heap[w.heap.size + 1]? = some p := by
  obtain ⟨v', _, h2, _⟩ := h
  have hD := h0.lt
  exact ⟨h2.at (nest w [o, p] 0 o rfl) (by omega) (h0.ne (by omega)), h2.at (nest w [o, p] 1 p rfl) (by omega) (h0.ne (by omega))⟩
set_option maxHeartbeats 1000000 in
theorem fjudge_no (w : World) (D : Nat) (c : Cf) (q : St) (v : Value) (g : Fr) (r : Nat) (h : DfAt w D c q v) (hb : q.bad ≤ 1000000) (hr : r ≠ 0) :
    Calls Tryd.prog 49 #[ptr D, fv g, .int .i64 (r : Int)] w fun e w' => e = .returned (.tuple #[noFr, .bool false]) ∧ Next D c w v (spoil c q (flagB c)) w' := by
  have H := Lib.hid h
  have HB := Lib.hid hb
  have n0 : ((r : Int) != 0) = true := by rw [bne_iff_ne]; omega
  clear h hr hb
  go_enter Tryd.func49, Tryd.ntmps49
  go_wp2_with (first
    | (go_at_call 17; ((with_reducible refine (fflag _ D c q v ((H.out.alloc _).alloc _)).mono ?_); rintro e w' ⟨rfl, rfl⟩))
    | (go_at_call 47; ((with_reducible refine (fspoil _ D c q v (flagB c) ((H.out.alloc _).alloc _) HB.out).mono ?_); rintro e w1 ⟨rfl, hn⟩; have HN := Lib.hid hn; clear hn; obtain ⟨⟨k0, k1, k2, k3, k4, k5, k6⟩, kf⟩ := no_cells (HN.out.fresh2 H.out).2)))
  exact bodyPost_ret (v := .tuple #[noFr, .bool false]) (by simp [results, Tryd.results49, go_sem, k0, k1, k2, k3, k4, k5, k6]) rfl ⟨rfl, (HN.out.ret (H.out.alloc _) (n := w.heap.size + 1) (by simp) _ _ _ _ _ _ _).off⟩
set_option maxHeartbeats 1000000 in
theorem fjudge_ok (w : World) (D : Nat) (c : Cf) (q : St) (v : Value) (g : Fr) (h : DfAt w D c q v) :
    Calls Tryd.prog 49 #[ptr D, fv g, .int .i64 0] w fun e w' => e = .returned (.tuple #[fv g, .bool true]) ∧ Next D c w v (begin c q) w' := by
  have H := Lib.hid h
  clear h
  go_enter Tryd.func49, Tryd.ntmps49
  go_wp2_with (first
    | (go_at_call 18; ((with_reducible refine (fbegin _ D c q v ((H.out.alloc _).alloc _)).mono ?_); rintro e w1 ⟨rfl, hn⟩; have HN := Lib.hid hn; clear hn; obtain ⟨⟨k0, k1, k2, k3, k4, k5, k6⟩, kf⟩ := no_cells (HN.out.fresh2 H.out).2; obtain ⟨m0, m1, m2, m3, m4, m5, m6⟩ := FrAt.cells (f := g) (HN.out.fresh2 H.out).1)))
  exact bodyPost_ret (v := .tuple #[fv g, .bool true]) (by simp [results, Tryd.results49, go_sem, k0, k1, k2, k3, k4, k5, k6]) rfl ⟨rfl, (HN.out.ret (H.out.alloc _) (n := w.heap.size + 1) (by simp) _ _ _ _ _ _ _).off⟩
theorem fjudge (w : World) (D : Nat) (c : Cf) (q : St) (v : Value) (g : Fr) (r : Nat) (h : DfAt w D c q v) (hb : q.bad ≤ 1000000) :
    Calls Tryd.prog 49 #[ptr D, fv g, .int .i64 (r : Int)] w fun e w' => e = .returned (ansV (judge c q (g, r)).2) ∧ Next D c w v (judge c q (g, r)).1 w' := by
  by_cases hr : r = 0
  · subst hr
    exact fjudge_ok w D c q v g h
  · have e : judge c q (g, r) = (spoil c q (flagB c), none) := if_neg hr
    rw [e]
    exact fjudge_no w D c q v g r h hb hr
set_option maxHeartbeats 1000000 in
/-- A new deframer. -/
theorem fnew (adv ini : Bool) (n1 : Int) (w : World) :
    Calls Tryd.prog 7 #[.bool adv, .bool ini, .int .i64 n1] w fun e w' => e = .returned (ptr w.heap.size) ∧ DfAt w' w.heap.size ⟨adv, ini, room n1⟩ ⟨0, [], 0, 0⟩ (.slice none 0 0) ∧ Below w.heap.size w w' := by
  go_enter Tryd.func7, Tryd.ntmps7
  go_wp2_with (go_at_call 13; ((with_reducible refine (froom _ _).mono ?_); rintro e w' ⟨rfl, rfl⟩))
  go_ret
  exact ⟨rfl, ⟨nest w [_] 0 _ rfl, own_nil _ _⟩, (Below.refl _ _).alloc (Nat.le_refl _) _⟩
abbrev byteO (b : UInt8) : Obj := .cells #[.int .u8 (b.toNat : Int)] 5
theorem cells_byte (w : World) (b : UInt8) : Cells ((w.alloc noObj).alloc (byteO b)) (w.heap.size + 1) [b] := fun i hi => by
  match i, hi with
  | 0, _ => exact cell_of (nest w [noObj, byteO b] 1 _ rfl) rfl
theorem own_some {w : World} {base : Nat} {v : Value} {l : List UInt8} {b : UInt8} (h : Own w base v (l ++ [b])) : ∃ g n cap, v = .slice (some ⟨g, 0, none⟩) n cap := by
  rcases h.shape with ⟨_, e⟩ | ⟨g, cap, rfl, _⟩
  · simp at e
  · exact ⟨g, _, cap, rfl⟩
/-- What has grown by a byte: the deframer's own block does not say so yet. -/
structure Grew (D : Nat) (c : Cf) (q : St) (v : Value) (b : UInt8) (w w2 : World) (v2 : Value) : Prop where
  raw : Raw w2 D c q.m v q.left q.bad
  own : Own w2 (D + 1) v2 (q.got ++ [b])
  kp : Kp D v.ownBlock w w2
  lies : Lies w v v2
  fr : w2.heap[w.heap.size]? = some noObj
  ne : v2.ownBlock = none ∨ v2.ownBlock ≠ some w.heap.size
theorem grew {D : Nat} {c : Cf} {q : St} {v : Value} {b : UInt8} {w w2 : World} {v2 : Value} (h : DfAt w D c q v) (ho : Own w2 (D + 1) v2 (q.got ++ [b])) (hg : ((w.alloc noObj).alloc (byteO b)).grownBy w2 v.ownBlock)
    (hv : v2.ownBlock = v.ownBlock ∨ v2.ownBlock = some ((w.alloc noObj).alloc (byteO b)).heap.size) : Grew D c q v b w w2 v2 := by
  have hD := h.lt
  have h2 := (h.alloc noObj).alloc (byteO b)
  refine ⟨?_, ho, (((Kp.refl D v.ownBlock w).alloc noObj).alloc (byteO b)).grown hg, ?_, ?_, ?_⟩
  · have e := hg.block D h2.lt (fun e => by rcases h2.apart with h | h <;> rw [← e] at h; · cases h
                                            · exact h rfl)
    exact e.trans h2.blk
  · rcases hv with hv | hv
    · exact Or.inl hv
    · refine Or.inr fun k hk => ?_
      rw [hv, Option.some.injEq] at hk
      subst hk
      simp
      omega
  · have e := hg.block w.heap.size (by simp; omega) (h.ne (Nat.le_refl _))
    exact e.trans (nest w [noObj, byteO b] 0 noObj rfl)
  · rcases hv with hv | hv
    · exact Or.inr fun e => h.ne (Nat.le_refl _) (by rw [← hv, e])
    · refine Or.inr fun e => ?_
      rw [hv, Option.some.injEq] at e
      have e' : w.heap.size + 1 + 1 = w.heap.size := by simpa using e
      omega
theorem Grew.cells {D : Nat} {c : Cf} {q : St} {v : Value} {b : UInt8} {w w2 : World} {v2 : Value} (h : Grew D c q v b w w2 v2) : w2.cell? ⟨D, 0, none⟩ = some (.bool c.adv) ∧ w2.cell? ⟨D, 1, none⟩ = some (.bool c.ini) ∧ w2.cell? ⟨D, 2, none⟩ = some (.int .i64 (c.room : Int)) ∧ w2.cell? ⟨D, 3, none⟩ = some (.func (.func (fnOf q.m)) #[ptr D] #[]) ∧ w2.cell? ⟨D, 4, none⟩ = some v ∧ w2.cell? ⟨D, 5, none⟩ = some (.int .i64 (q.left : Int)) ∧ w2.cell? ⟨D, 6, none⟩ = some (.int .i64 (q.bad : Int)) :=
  ⟨cell_of h.raw rfl, cell_of h.raw rfl, cell_of h.raw rfl, cell_of h.raw rfl, cell_of h.raw rfl, cell_of h.raw rfl, cell_of h.raw rfl⟩
theorem Grew.free {D : Nat} {c : Cf} {q : St} {v : Value} {b : UInt8} {w w2 : World} {v2 : Value} (h : Grew D c q v b w w2 v2) : ∀ i, w2.frozen? ⟨D, i, none⟩ = false := fun _ => free_of h.raw
theorem lies_ne {w : World} {v v' : Value} {k : Nat} (h : Lies w v v') (h0 : some k ≠ v.ownBlock) (hk : k < w.heap.size) : v'.ownBlock = none ∨ v'.ownBlock ≠ some k := Or.inr (fun e => h.ne hk h0 e.symm)
/-- The block that holds the call's result is none of the slice's. -/
theorem res_ne {w : World} {o : Obj} {v v' : Value} (h0 : some w.heap.size ≠ v.ownBlock) (h : Lies (w.alloc o) v v') : v'.ownBlock = none ∨ v'.ownBlock ≠ some w.heap.size := lies_ne h h0 (by simp)
/-- What a call leaves: its own block and the result's are written. -/
theorem Next.fin {D : Nat} {c : Cf} {w W : World} {v v2 : Value} {q0 : St} {m left bad n : Nat} {got : List UInt8} (h0 : DfAt w D c q0 v) (h1 : Raw W D c m v2 left bad) (h2 : Own W (D + 1) v2 got) (h3 : Kp D v.ownBlock w W) (h4 : Lies w v v2) (h5 : v2.ownBlock = none ∨ v2.ownBlock ≠ some n) (hn : w.heap.size = n) (v0 v1 u2 v3 v4 v5 v6 : Value) {q : St} (e : q = ⟨m, got, left, bad⟩) :
    Next D c w v q (((((((W.setCell ⟨n, 0, none⟩ v0).setCell ⟨n, 1, none⟩ v1).setCell ⟨n, 2, none⟩ u2).setCell ⟨n, 3, none⟩ v3).setCell ⟨n, 4, none⟩ v4).setCell ⟨n, 5, none⟩ v5).setCell ⟨n, 6, none⟩ v6) := by
  have hD := h0.lt
  have hne : n ≠ D := by omega
  have hh : DfAt W D c q v2 := Raw.at h1 h2 e
  exact ⟨v2, ((((((hh.set _ _ _ hne h5).set _ _ _ hne h5).set _ _ _ hne h5).set _ _ _ hne h5).set _ _ _ hne h5).set _ _ _ hne h5).set _ _ _ hne h5, ((((((h3.new (Nat.le_of_eq hn) _).new (Nat.le_of_eq hn) _).new (Nat.le_of_eq hn) _).new (Nat.le_of_eq hn) _).new (Nat.le_of_eq hn) _).new (Nat.le_of_eq hn) _).new (Nat.le_of_eq hn) _, h4⟩
set_option maxHeartbeats 1000000 in
theorem fcontrol (w : World) (D : Nat) (c : Cf) (q : St) (v : Value) (b : UInt8) (h : DfAt w D c q v) (hl : q.got.length ≤ 300) :
    Calls Tryd.prog 48 #[ptr D, .int .u8 (b.toNat : Int)] w fun e w' => e = .returned (.tuple #[noFr, .bool false]) ∧ Next D c w v { more q b with m := 4 } w' := by
  have H := Lib.hid h
  have HL := Lib.hid hl
  obtain ⟨-, -, -, -, G4, -, -⟩ := h.cells
  have hf := h.free
  have hlt := h.lt
  have hn1 : ¬ D = w.heap.size := by omega
  have hn2 : ¬ w.heap.size = D := by omega
  clear h hl
  go_enter Tryd.func48, Tryd.ntmps48
  go_wp2_with (first
    | (at_builtin; refine wpList_append_bytes _ rfl _ _ rfl (D + 1) _ rfl _ ((H.out.own.alloc _).alloc _) _ _ _ rfl [b] rfl (cells_byte w b) (by have := HL.out; omega) (by have := H.out.lt; simp; omega) ?_; intro v2 w2 ho hg hv; obtain ⟨gb, gn, gc, rfl⟩ := own_some ho; have HG := Lib.hid (grew H.out ho hg hv); clear ho hg hv; obtain ⟨g0, g1, g2, g3, g4, g5, g6⟩ := HG.out.cells; have hf2 := HG.out.free; obtain ⟨⟨k0, k1, k2, k3, k4, k5, k6⟩, kf⟩ := no_cells HG.out.fr))
  exact bodyPost_ret (v := .tuple #[noFr, .bool false]) (by simp [results, Tryd.results48, go_sem, k0, k1, k2, k3, k4, k5, k6]) rfl ⟨rfl, Next.fin H.out ((Raw.set4 HG.out.raw _).set3 4 rfl) (own_D (own_D HG.out.own _ _) _ _) ((HG.out.kp.set _ _).set _ _) HG.out.lies HG.out.ne rfl _ _ _ _ _ _ _ rfl⟩
set_option maxHeartbeats 1000000 in
theorem frest (w : World) (D : Nat) (c : Cf) (q : St) (v : Value) (b : UInt8) (h : DfAt w D c q v) (hl : q.got.length ≤ 300) (h1 : 1 ≤ q.left) (h2 : q.left ≤ 1000) (q2 : St) (hq : { more q b with left := q.left - 1, m := if q.left - 1 = 0 then 6 else q.m } = q2) :
    Calls Tryd.prog 60 #[ptr D, .int .u8 (b.toNat : Int)] w fun e w' => e = .returned (.tuple #[noFr, .bool false]) ∧ Next D c w v q2 w' := by
  have H := Lib.hid h
  have HL := Lib.hid hl
  obtain ⟨-, -, -, -, G4, -, -⟩ := h.cells
  have hf := h.free
  have hlt := h.lt
  have hn1 : ¬ D = w.heap.size := by omega
  have hn2 : ¬ w.heap.size = D := by omega
  have HX : Hid (((q.left - 1 : Nat) : Int) = (q.left : Int) - 1) := Lib.hid (by omega)
  by_cases h0 : q.left - 1 = 0
  · have e0 : ((q.left : Int) - 1 == 0) = true := by rw [beq_iff_eq]; omega
    have HM : Hid (q2 = ⟨6, q.got ++ [b], q.left - 1, q.bad⟩) := Lib.hid (by rw [← hq, if_pos h0]; rfl)
    clear h hl h0 hq
    go_enter Tryd.func60, Tryd.ntmps60
    go_wp2_with (first
      | (at_builtin; refine wpList_append_bytes _ rfl _ _ rfl (D + 1) _ rfl _ ((H.out.own.alloc _).alloc _) _ _ _ rfl [b] rfl (cells_byte w b) (by have := HL.out; omega) (by have := H.out.lt; simp; omega) ?_; intro v2 w2 ho hg hv; obtain ⟨gb, gn, gc, rfl⟩ := own_some ho; have HG := Lib.hid (grew H.out ho hg hv); clear ho hg hv; obtain ⟨g0, g1, g2, g3, g4, g5, g6⟩ := HG.out.cells; have hf2 := HG.out.free; obtain ⟨⟨k0, k1, k2, k3, k4, k5, k6⟩, kf⟩ := no_cells HG.out.fr))
    exact bodyPost_ret (v := .tuple #[noFr, .bool false]) (by simp [results, Tryd.results60, go_sem, k0, k1, k2, k3, k4, k5, k6]) rfl ⟨rfl, Next.fin H.out (((Raw.set4 HG.out.raw _).set5 (q.left - 1) HX.out).set3 6 rfl) (own_D (own_D (own_D HG.out.own _ _) _ _) _ _) (((HG.out.kp.set _ _).set _ _).set _ _) HG.out.lies HG.out.ne rfl _ _ _ _ _ _ _ HM.out⟩
  · have e0 : ((q.left : Int) - 1 == 0) = false := by rw [beq_eq_false_iff_ne]; omega
    have HM : Hid (q2 = ⟨q.m, q.got ++ [b], q.left - 1, q.bad⟩) := Lib.hid (by rw [← hq, if_neg h0]; rfl)
    clear h hl h0 hq
    go_enter Tryd.func60, Tryd.ntmps60
    go_wp2_with (first
      | (at_builtin; refine wpList_append_bytes _ rfl _ _ rfl (D + 1) _ rfl _ ((H.out.own.alloc _).alloc _) _ _ _ rfl [b] rfl (cells_byte w b) (by have := HL.out; omega) (by have := H.out.lt; simp; omega) ?_; intro v2 w2 ho hg hv; obtain ⟨gb, gn, gc, rfl⟩ := own_some ho; have HG := Lib.hid (grew H.out ho hg hv); clear ho hg hv; obtain ⟨g0, g1, g2, g3, g4, g5, g6⟩ := HG.out.cells; have hf2 := HG.out.free; obtain ⟨⟨k0, k1, k2, k3, k4, k5, k6⟩, kf⟩ := no_cells HG.out.fr))
    exact bodyPost_ret (v := .tuple #[noFr, .bool false]) (by simp [results, Tryd.results60, go_sem, k0, k1, k2, k3, k4, k5, k6]) rfl ⟨rfl, Next.fin H.out ((Raw.set4 HG.out.raw _).set5 (q.left - 1) HX.out) (own_D (own_D HG.out.own _ _) _ _) ((HG.out.kp.set _ _).set _ _) HG.out.lies HG.out.ne rfl _ _ _ _ _ _ _ HM.out⟩
end Go.Proofs.YthlciaomfpephaaDoor.Df

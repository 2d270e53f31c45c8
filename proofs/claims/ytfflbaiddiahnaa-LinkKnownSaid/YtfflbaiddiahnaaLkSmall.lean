/-
  A link in memory; what its small methods answer. Condition: a link lies where it says.
-/
import Derived.Test.YtfflbaiddiahnaaLkMath
import Derived.Test.YtfflbaiddiahnaaChg
import Derived.Lib.MinMax
namespace Go.Proofs.Ytfflbaiddiahnaa.Lk
open Go.RowKit Go.Proofs.Ytfflbaiddiahnaa.Base Go.Proofs.Ytfflbaiddiahnaa.Mem
/-- A link lies in a block. -/
def LkAt (w : World) (pb : Nat) (l : Lk) : Prop := w.heap[pb]? = some (.cells (lcs l) 57 (0, 0))
/-- What a call leaves: that link, all else as it was. -/
structure Does (pb : Nat) (l : Lk) (w w' : World) : Prop where
  at_ : LkAt w' pb l
  chg : Chg (fun k => k = pb) w w'
theorem LkAt.cells {w : World} {pb : Nat} {l : Lk} (h : LkAt w pb l) : w.cell? ⟨pb, 0, none⟩ = some (.int .u8 l.s) ∧ w.cell? ⟨pb, 1, none⟩ = some (.bool l.li) ∧ w.cell? ⟨pb, 2, none⟩ = some (.int .i64 l.n) ∧ w.cell? ⟨pb, 3, none⟩ = some (.int .i64 l.t) :=
  ⟨cell_of h rfl, cell_of h rfl, cell_of h rfl, cell_of h rfl⟩
theorem LkAt.free {w : World} {pb : Nat} {l : Lk} (h : LkAt w pb l) : ∀ i, w.frozen? ⟨pb, i, none⟩ = false := fun _ => free_of h
theorem LkAt.lt {w : World} {pb : Nat} {l : Lk} (h : LkAt w pb l) : pb < w.heap.size := lt_heap h
theorem LkAt.below {w w' : World} {pb : Nat} {l : Lk} (h : LkAt w pb l) (hb : Below w.heap.size w w') : LkAt w' pb l := stays h hb
theorem LkAt.alloc {w : World} {pb : Nat} {l : Lk} (h : LkAt w pb l) (o : Obj) : LkAt (w.alloc o) pb l := h.below ((Below.refl _ _).alloc (Nat.le_refl _) o)
theorem LkAt.other {S : Nat → Prop} {w w' : World} {pb : Nat} {l : Lk} (h : LkAt w pb l) (hc : Chg S w w') (hn : ¬ S pb) : LkAt w' pb l := hc.stays h hn
theorem LkAt.set0 {w : World} {pb : Nat} {l : Lk} (h : LkAt w pb l) (s : Int) : LkAt (w.setCell ⟨pb, 0, none⟩ (.int .u8 s)) pb ⟨s, l.li, l.n, l.t⟩ := block_set (i := 0) h _
theorem LkAt.set1 {w : World} {pb : Nat} {l : Lk} (h : LkAt w pb l) (b : Bool) : LkAt (w.setCell ⟨pb, 1, none⟩ (.bool b)) pb ⟨l.s, b, l.n, l.t⟩ := block_set (i := 1) h _
theorem LkAt.set3 {w : World} {pb : Nat} {l : Lk} (h : LkAt w pb l) (t : Int) : LkAt (w.setCell ⟨pb, 3, none⟩ (.int .i64 t)) pb ⟨l.s, l.li, l.n, t⟩ := block_set (i := 3) h _
theorem LkAt.setOther {w : World} {pb : Nat} {l : Lk} (h : LkAt w pb l) {b : Nat} (hb : b ≠ pb) (i : Nat) (v : Value) : LkAt (w.setCell ⟨b, i, none⟩ v) pb l := (set_other (fun e => hb e.symm) v).trans h
/-- Five cells of another block are written. -/
abbrev set5 (w : World) (b : Nat) (v0 v1 v2 v3 v4 : Value) : World := ((((w.setCell ⟨b, 0, none⟩ v0).setCell ⟨b, 1, none⟩ v1).setCell ⟨b, 2, none⟩ v2).setCell ⟨b, 3, none⟩ v3).setCell ⟨b, 4, none⟩ v4
theorem set5_at {w : World} {b : Nat} {u0 u1 u2 u3 u4 : Value} {t : TypeId} (h : w.heap[b]? = some (.cells #[u0, u1, u2, u3, u4] t)) (v0 v1 v2 v3 v4 : Value) : (set5 w b v0 v1 v2 v3 v4).heap[b]? = some (.cells #[v0, v1, v2, v3, v4] t) := by
  have h0 : (w.setCell ⟨b, 0, none⟩ v0).heap[b]? = some (.cells #[v0, u1, u2, u3, u4] t) := block_set (i := 0) h v0
  have h1 : ((w.setCell ⟨b, 0, none⟩ v0).setCell ⟨b, 1, none⟩ v1).heap[b]? = some (.cells #[v0, v1, u2, u3, u4] t) := block_set (i := 1) h0 v1
  have h2 : (((w.setCell ⟨b, 0, none⟩ v0).setCell ⟨b, 1, none⟩ v1).setCell ⟨b, 2, none⟩ v2).heap[b]? = some (.cells #[v0, v1, v2, u3, u4] t) := block_set (i := 2) h1 v2
  have h3 : ((((w.setCell ⟨b, 0, none⟩ v0).setCell ⟨b, 1, none⟩ v1).setCell ⟨b, 2, none⟩ v2).setCell ⟨b, 3, none⟩ v3).heap[b]? = some (.cells #[v0, v1, v2, v3, u4] t) := block_set (i := 3) h2 v3
  exact block_set (i := 4) h3 v4
theorem set5_other {w : World} {b c : Nat} (h : c ≠ b) (v0 v1 v2 v3 v4 : Value) : (set5 w b v0 v1 v2 v3 v4).heap[c]? = w.heap[c]? :=
  (set_other h v4).trans ((set_other h v3).trans ((set_other h v2).trans ((set_other h v1).trans (set_other h v0))))
theorem Chg.set5 {S : Nat → Prop} {a w : World} (h : Chg S a w) {b : Nat} (hb : b < a.heap.size → S b) (v0 v1 v2 v3 v4 : Value) : Chg S a (set5 w b v0 v1 v2 v3 v4) :=
  ((((h.setCell b 0 v0 hb).setCell b 1 v1 hb).setCell b 2 v2 hb).setCell b 3 v3 hb).setCell b 4 v4 hb
/-- The cells of an answer in a block. -/
theorem cells5 {w : World} {b : Nat} {u0 u1 u2 u3 u4 : Value} {t : TypeId} (h : w.heap[b]? = some (.cells #[u0, u1, u2, u3, u4] t)) : (w.cell? ⟨b, 0, none⟩ = some u0 ∧ w.cell? ⟨b, 1, none⟩ = some u1 ∧ w.cell? ⟨b, 2, none⟩ = some u2 ∧ w.cell? ⟨b, 3, none⟩ = some u3 ∧ w.cell? ⟨b, 4, none⟩ = some u4) ∧ ∀ i, w.frozen? ⟨b, i, none⟩ = false :=
  ⟨⟨cell_of h rfl, cell_of h rfl, cell_of h rfl, cell_of h rfl, cell_of h rfl⟩, fun _ => free_of h⟩
/-- The result's own block, made ahead of a call, is as it was behind it. -/
theorem Does.fresh {pb : Nat} {l l0 : Lk} {w w1 : World} {o : Obj} (h0 : LkAt w pb l0) (h : Does pb l (w.alloc o) w1) : w1.heap[w.heap.size]? = some o :=
  h.chg.stays (nest w [o] 0 o rfl) fun e => by have := h0.lt; omega
/-- It is written then. -/
theorem Does.ret {pb : Nat} {l l0 : Lk} {w w1 : World} {o : Obj} (h0 : LkAt w pb l0) (h : Does pb l (w.alloc o) w1) (v0 v1 v2 v3 v4 : Value) : Does pb l w (set5 w1 w.heap.size v0 v1 v2 v3 v4) := by
  have hp := h0.lt
  refine ⟨(set5_other (by omega) _ _ _ _ _).trans h.at_, ?_⟩
  exact Chg.set5 (((Chg.refl _ w).alloc o).then h.chg) (fun e => by omega) _ _ _ _ _
theorem Does.refl {pb : Nat} {l : Lk} {w : World} (h : LkAt w pb l) : Does pb l w w := ⟨h, Chg.refl _ _⟩
theorem Does.alloc {pb : Nat} {l : Lk} {w w' : World} (h : Does pb l w w') (o : Obj) : Does pb l w (w'.alloc o) := ⟨h.at_.alloc o, h.chg.alloc o⟩
theorem Does.then {pb : Nat} {l l1 : Lk} {w w1 w2 : World} (h : Does pb l1 w w1) (h' : Does pb l w1 w2) : Does pb l w w2 := ⟨h'.at_, h.chg.then h'.chg⟩
/-- A new block of the call's own is written. -/
theorem Does.new5 {pb : Nat} {l l0 : Lk} {w w' : World} (h0 : LkAt w pb l0) (h : Does pb l w w') {b : Nat} (hb : w.heap.size ≤ b) (v0 v1 v2 v3 v4 : Value) : Does pb l w (set5 w' b v0 v1 v2 v3 v4) := by
  have hp := h0.lt
  exact ⟨(set5_other (by omega) _ _ _ _ _).trans h.at_, Chg.set5 h.chg (fun e => by omega) _ _ _ _ _⟩
theorem Does.set0 {pb : Nat} {l : Lk} {w w' : World} (h : Does pb l w w') (s : Int) : Does pb ⟨s, l.li, l.n, l.t⟩ w (w'.setCell ⟨pb, 0, none⟩ (.int .u8 s)) := ⟨h.at_.set0 s, h.chg.setCell pb 0 _ fun _ => rfl⟩
theorem Does.set1 {pb : Nat} {l : Lk} {w w' : World} (h : Does pb l w w') (b : Bool) : Does pb ⟨l.s, b, l.n, l.t⟩ w (w'.setCell ⟨pb, 1, none⟩ (.bool b)) := ⟨h.at_.set1 b, h.chg.setCell pb 1 _ fun _ => rfl⟩
theorem Does.set3 {pb : Nat} {l : Lk} {w w' : World} (h : Does pb l w w') (t : Int) : Does pb ⟨l.s, l.li, l.n, t⟩ w (w'.setCell ⟨pb, 3, none⟩ (.int .i64 t)) := ⟨h.at_.set3 t, h.chg.setCell pb 3 _ fun _ => rfl⟩
/-- Within a call that answers an answer: the result's own block is there. -/
structure In (pb : Nat) (l : Lk) (w w1 : World) : Prop where
  does : Does pb l w w1
  lt : pb < w.heap.size
  new : w1.heap[w.heap.size]? = some (noA 30)
theorem In.start {pb : Nat} {l : Lk} {w w' : World} (h : Does pb l w w') (hs : w'.heap.size = w.heap.size) : In pb l w (w'.alloc (noA 30)) :=
  ⟨h.alloc _, by have := h.at_.lt; omega, by rw [← hs]; exact nest w' [_] 0 _ rfl⟩
theorem In.below {pb : Nat} {l : Lk} {w w1 w2 : World} (h : In pb l w w1) (hb : Below w1.heap.size w1 w2) : In pb l w w2 :=
  ⟨⟨h.does.at_.below hb, h.does.chg.on hb⟩, h.lt, stays h.new hb⟩
theorem In.next {pb : Nat} {l l2 : Lk} {w w1 w2 : World} (h : In pb l w w1) (h2 : Does pb l2 w1 w2) : In pb l2 w w2 :=
  ⟨h.does.then h2, h.lt, h2.chg.stays h.new (fun e => by have := h.lt; omega)⟩
theorem In.at_ {pb : Nat} {l : Lk} {w w1 : World} (h : In pb l w w1) : LkAt w1 pb l := h.does.at_
theorem In.cells {pb : Nat} {l : Lk} {w w1 : World} (h : In pb l w w1) : (w1.cell? ⟨w.heap.size, 0, none⟩ = some (.int .u8 0) ∧ w1.cell? ⟨w.heap.size, 1, none⟩ = some (.bool false) ∧ w1.cell? ⟨w.heap.size, 2, none⟩ = some (.bool false) ∧ w1.cell? ⟨w.heap.size, 3, none⟩ = some (.int .u8 0) ∧ w1.cell? ⟨w.heap.size, 4, none⟩ = some (.int .u8 0)) ∧ ∀ i, w1.frozen? ⟨w.heap.size, i, none⟩ = false := cells5 h.new
theorem In.out {pb : Nat} {l : Lk} {w w1 : World} (h : In pb l w w1) (v0 v1 v2 v3 v4 : Value) : Does pb l w (set5 w1 w.heap.size v0 v1 v2 v3 v4) := by
  have hp := h.lt
  exact ⟨(set5_other (by omega) _ _ _ _ _).trans h.does.at_, Chg.set5 h.does.chg (fun e => by omega) _ _ _ _ _⟩
theorem In.drewN {pb : Nat} {l : Lk} {w w1 : World} (h : In pb l w w1) (n : Nat) : In pb l w (w1.drewN n) := h.below ⟨rfl, rfl, rfl, Nat.le_refl _, fun _ _ => rfl⟩
theorem In.set3 {pb : Nat} {l : Lk} {w w1 : World} (h : In pb l w w1) (t : Int) : In pb ⟨l.s, l.li, l.n, t⟩ w (w1.setCell ⟨pb, 3, none⟩ (.int .i64 t)) := h.next ((Does.refl h.at_).set3 t)
/-- New: a link that is Down. -/
theorem fnew (n : Int) (w : World) :
    Calls Try.prog 10 #[.int .i64 n] w fun e w' => e = .returned (ptr w.heap.size) ∧ LkAt w' w.heap.size (new n) ∧ Below w.heap.size w w' := by
  go_enter Try.func10, Try.ntmps10
  go_wp2
  go_ret
  exact ⟨rfl, nest w [_] 0 _ rfl, nest_below w [_]⟩
theorem fstate_nil (w : World) : Calls Try.prog 15 #[.pointer none] w fun e w' => e = .returned (.int .u8 0) ∧ w = w' := by
  go_enter Try.func15, Try.ntmps15
  go_wp2
  go_ret
  exact ⟨rfl, rfl⟩
theorem fstate (w : World) (pb : Nat) (l : Lk) (h : LkAt w pb l) (h1 : 1 ≤ l.s) : Calls Try.prog 15 #[ptr pb] w fun e w' => e = .returned (.int .u8 l.s) ∧ w = w' := by
  obtain ⟨c0, -, -, -⟩ := h.cells
  have q : max l.s 1 = l.s := by omega
  clear h
  go_enter Try.func15, Try.ntmps15
  go_wp2
  go_ret
  exact ⟨rfl, rfl⟩
theorem flisten_nil (b : Bool) (w : World) : Calls Try.prog 16 #[.pointer none, .bool b] w fun e w' => e = .returned (.tuple #[]) ∧ w = w' := by
  go_enter Try.func16, Try.ntmps16
  go_wp2
  go_end0
  exact ⟨rfl, rfl⟩
theorem flisten (w : World) (pb : Nat) (l : Lk) (b : Bool) (h : LkAt w pb l) : Calls Try.prog 16 #[ptr pb, .bool b] w fun e w' => e = .returned (.tuple #[]) ∧ Does pb ⟨l.s, b, l.n, l.t⟩ w w' := by
  have H := Lib.hid h
  have hf := h.free
  obtain ⟨-, c1, -, -⟩ := h.cells
  clear h
  go_enter Try.func16, Try.ntmps16
  go_wp2
  go_end0
  exact ⟨rfl, (Does.refl H.out).set1 b⟩
theorem fplain (w : World) : Calls Try.prog 56 #[.agg #[]] w fun e w' => e = .returned (.bool false) ∧ Below w.heap.size w w' := by
  go_enter Try.func56, Try.ntmps56
  go_wp2
  go_ret
  exact ⟨rfl, nest_below w [_]⟩
theorem fframe (p : Bool) (w : World) : Calls Try.prog 57 #[.agg #[.bool p]] w fun e w' => e = .returned (.bool p) ∧ Below w.heap.size w w' := by
  go_enter Try.func57, Try.ntmps57
  go_wp2
  go_ret
  exact ⟨rfl, nest_below w [_]⟩
end Go.Proofs.Ytfflbaiddiahnaa.Lk

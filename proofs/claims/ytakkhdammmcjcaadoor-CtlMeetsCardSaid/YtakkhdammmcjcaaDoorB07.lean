/-
  Layer 22, put together: Rowz, Chg, CrMath, CtlMem, Rz (what each says stands ahead of it). Conditions: as each names them.
-/
import Derived.Test.YtakkhdammmcjcaaDoorB06
import Derived.Test.YtakkhdammmcjcaaDoorB01
import Derived.Test.YtakkhdammmcjcaaDoorB04
import Derived.OneCell
import Derived.Laws.AppendOwn
import Derived.Below
import Derived.Deep.LoopGhost
import Derived.Deep.AppendSrc
import Derived.Laws.IdiomCopy
import Derived.Lib.Hide
import Derived.Deep.RegionHeld
/-
  Structs of any number of cells in a slice, one by one: an element is loaded, and stored over (in MsgsSlice's place: never both). No condition.
-/
namespace Go.Proofs.YtakkhdammmcjcaaDoor.Msgs
open Go.RowKit Go.Proofs.YtakkhdammmcjcaaDoor.Base Go.Proofs.YtakkhdammmcjcaaDoor.Mem
set_option maxRecDepth 20000
theorem mod_setCells (b : Nat) : ∀ (vs : List Value) (o : Nat) (w : World), Mod b w (w.setCells b o vs)
  | [], _, w => Mod.refl b w
  | v :: r, o, w => (mod_setCell b o w v).trans (mod_setCells b r (o + 1) _)
/-- Values laid over others, from a place on. -/
def overL : List Value → Nat → List Value → List Value
  | L, _, [] => L
  | L, o, v :: r => overL (L.set o v) (o + 1) r
theorem own_cells {E z n cap g base : Nat} : ∀ (vs : List Value) (o : Nat) (w : World) (L : List Value), w.ownsRow base E z (.slice (some ⟨g, 0, none⟩) n cap) n L → (w.setCells g o vs).ownsRow base E z (.slice (some ⟨g, 0, none⟩) n cap) n (overL L o vs)
  | [], _, _, _, h => h
  | v :: r, o, _, _, h => own_cells r (o + 1) _ _ (h.stored o v).1
theorem overL_mid : ∀ (vs A P B : List Value), A.length = vs.length → overL (P ++ (A ++ B)) P.length vs = P ++ (vs ++ B)
  | [], A, P, B, h => by
    obtain rfl : A = [] := List.eq_nil_of_length_eq_zero h
    rfl
  | v :: r, A, P, B, h => by
    match A, h with
    | a :: A', h =>
      have ih := overL_mid r A' (P ++ [v]) B (by simpa using h)
      rw [List.length_append, List.append_assoc, List.append_assoc] at ih
      show overL ((P ++ (a :: (A' ++ B))).set P.length v) (P.length + 1) r = P ++ (v :: (r ++ B))
      rw [List.set_append_right _ _ (Nat.le_refl _), Nat.sub_self, List.set_cons_zero]
      exact ih
section
variable {α : Type} {E z n cap g base : Nat} {fc : α → List Value} {w : World} {l : List α}
theorem flatz (hl : ∀ x, (fc x).length = z) (l : List α) (k : Nat) (hk : k < l.length) (y : α) : overL (l.flatMap fc) (z * k) (fc y) = (l.set k y).flatMap fc := by
  have e : l = l.take k ++ l[k] :: l.drop (k + 1) := by rw [List.getElem_cons_drop, List.take_append_drop]
  have hp : ((l.take k).flatMap fc).length = z * k := by
    rw [flat_len hl, List.length_take, Nat.min_eq_left (by omega)]
  rw [List.set_eq_take_append_cons_drop, if_pos hk, List.flatMap_append, List.flatMap_cons]
  conv => lhs; arg 1; rw [e, List.flatMap_append, List.flatMap_cons]
  rw [← hp]
  exact overL_mid (fc y) (fc l[k]) _ _ (by rw [hl, hl])
theorem own_putz (hl : ∀ x, (fc x).length = z) (h : OwnS E z fc w base (.slice (some ⟨g, 0, none⟩) n cap) l) (k : Nat) (hk : k < l.length) (y : α) :
    OwnS E z fc (w.setCells g (k * z) (fc y)) base (.slice (some ⟨g, 0, none⟩) n cap) (l.set k y) := by
  have hn := h.num
  subst hn
  unfold OwnS at *
  rw [List.length_set, ← flatz hl l k hk y, Nat.mul_comm k z]
  exact own_cells _ _ _ _ h
theorem own_rangez (hl : ∀ x, (fc x).length = z) (h : OwnS E z fc w base (.slice (some ⟨g, 0, none⟩) n cap) l) (k : Nat) (x : α) (hk : l[k]? = some x) : w.rangeAt g (k * z) (fc x) := fun j v hv => by
  have hj : j < z := by rw [← hl x]; exact (List.getElem?_eq_some_iff.1 hv).1
  have := h.cell hl k x hk j hj
  rw [Nat.mul_comm z k] at this
  exact this.trans hv
end
theorem ml_arr (m : Ms) : (ml m).toArray = mc m := by unfold ml; simp
section
variable {ops : Array Oper} {rest : List Oper} {a : Act} {Q : Exit → Act → World → Prop} {d : Option Tmp} {x y : Operand} {ty : TypeId} {pos : String} {af : Array Edge} {w : World} {m : Ms} {T : Nat}
theorem ex_ldr {g : Option (Nat × Bool)} {b o : Nat} {ρ : Operand → Value} (hT : IsRow T 20) (h : w.rangeAt b o (ml m)) (hx : ρ x = .pointer (some ⟨b, o, none⟩)) :
    (execOp ρ { dst := d, op := .load T x, type := ty, pos := pos, after := af, guard := g }).run Tryd.prog w = .ok (.value (mv m)) w := by
  obtain ⟨fs, hu⟩ := hT.under
  unfold execOp
  simp only [hx, Sem.run_bind, run_loadAt_mid w b o T (ml m) _ h hu rfl hT.size, Sem.run_pure, Result.andThen_ok, ml_arr]
theorem ldr {b o : Nat} (hT : IsRow T 20) (h : w.rangeAt b o (ml m)) (hx : a.eval x = .pointer (some ⟨b, o, none⟩)) (k : wpList Tryd.prog ops Q rest (a.put d (mv m)) w) :
    wpList Tryd.prog ops Q ({ dst := d, op := .load T x, type := ty, pos := pos, after := af, guard := none } :: rest) a w := by
  obtain ⟨fs, hu⟩ := hT.under
  exact wpList_load_mid rfl T x rfl b o hx (ml m) _ h hu rfl hT.size (by rw [ml_arr]; exact k)
end
section
variable {α : Type} {z : Nat} {fc : α → List Value} {ops : Array Oper} {rest : List Oper} {a : Act} {Q : Exit → Act → World → Prop} {d : Option Tmp} {x y : Operand} {ty : TypeId} {pos : String} {af : Array Edge} {w : World} {T : Nat}
/-- A struct is loaded from wherever it lies. -/
theorem ldz {b o : Nat} {vs : List Value} (hT : IsRow T z) (h : w.rangeAt b o vs) (hz : vs.length = z) (hx : a.eval x = .pointer (some ⟨b, o, none⟩)) (k : wpList Tryd.prog ops Q rest (a.put d (.agg vs.toArray)) w) :
    wpList Tryd.prog ops Q ({ dst := d, op := .load T x, type := ty, pos := pos, after := af, guard := none } :: rest) a w := by
  obtain ⟨fs, hu⟩ := hT.under
  subst hz
  exact wpList_load_mid rfl T x rfl b o hx vs _ h hu rfl hT.size k
/-- A struct is boxed. -/
theorem bxz (cs : Array Value) (hx : a.eval x = .agg cs) (k : ∀ (b : Nat) (w' : World), w'.heap[b]? = some (.cells cs T (0, 0)) → Fresh b w w' → wpList Tryd.prog ops Q rest (a.put d (ptr b)) w') :
    wpList Tryd.prog ops Q ({ dst := d, op := .box T x, type := ty, pos := pos, after := af, guard := none } :: rest) a w :=
  wpList_plain rfl fun _ hK => by
    unfold Oper.wp execOp
    simp only [hx, Instr.box, newVar, newRow, Value.cells, Sem.run_bind, Sem.run_pure, Result.andThen_ok, run_newObj]
    exact hK _ _ (k w.heap.size (w.alloc (.cells cs T (0, 0))) (nest w [_] 0 _ rfl) (fresh_alloc w _))
/-- One is stored over an element. -/
theorem stz {E g n cap base i : Nat} {l : List α} (hl : ∀ x, (fc x).length = z) (h1 : ∀ x, ∀ u ∈ fc x, u.oneCell' = true) (hT : IsRow T z) (h : OwnS E z fc w base (.slice (some ⟨g, 0, none⟩) n cap) l) (hi : i < l.length) (v : α) (hx : a.eval x = .pointer (some ⟨g, i * z, none⟩)) (hy : a.eval y = .agg (fc v).toArray)
    (k : ∀ w', OwnS E z fc w' base (.slice (some ⟨g, 0, none⟩) n cap) (l.set i v) → Mod g w w' → wpList Tryd.prog ops Q rest (a.put d undef) w') :
    wpList Tryd.prog ops Q ({ dst := d, op := .store T x y, type := ty, pos := pos, after := af, guard := none } :: rest) a w := by
  have hr := own_rangez hl h i _ (List.getElem?_eq_getElem hi)
  refine wpList_store_mid rfl T x y rfl g (i * z) (fc v).toArray hx hy (fun j hj => ⟨hr.isSome j ?_, h.free _⟩) (by rw [hT.size]; simp [hl]) (all_oneCell_toArray (h1 v)) (k _ (own_putz hl h i hi v) (mod_setCells _ _ _ _))
  rw [hl]; simpa [hl] using hj
/-- Guarded loads of a struct that are wanted. -/
theorem ldpg {g : Option (Nat × Bool)} {b : Nat} {m : Ms} {t : TypeId} (hT : IsRow T 8) (h : w.heap[b]? = some (mO m t)) (hg : Region.wanted { dst := d, op := .load T x, type := ty, pos := pos, after := af, guard := g } (yielded ops a.tmps) = true) (hx : a.eval x = .pointer (some ⟨b, 2, none⟩)) (k : wpList Tryd.prog ops Q rest (a.put d (Pn.pv m.p)) w) :
    wpList Tryd.prog ops Q ({ dst := d, op := .load T x, type := ty, pos := pos, after := af, guard := g } :: rest) a w :=
  wpList_step fun K hK => by
    rw [if_pos hg]
    obtain ⟨fs, hu⟩ := hT.under
    exact wp_load_mid T x rfl b 2 hx _ _ (range_p h) hu rfl hT.size (hK _ _ k)
theorem ldsg {g : Option (Nat × Bool)} {b : Nat} {m : Ms} {t : TypeId} (hT : IsRow T 8) (h : w.heap[b]? = some (mO m t)) (hg : Region.wanted { dst := d, op := .load T x, type := ty, pos := pos, after := af, guard := g } (yielded ops a.tmps) = true) (hx : a.eval x = .pointer (some ⟨b, 10, none⟩)) (k : wpList Tryd.prog ops Q rest (a.put d (Msc.sv m.s)) w) :
    wpList Tryd.prog ops Q ({ dst := d, op := .load T x, type := ty, pos := pos, after := af, guard := g } :: rest) a w :=
  wpList_step fun K hK => by
    rw [if_pos hg]
    obtain ⟨fs, hu⟩ := hT.under
    exact wp_load_mid T x rfl b 10 hx _ _ (range_s h) hu rfl hT.size (hK _ _ k)
end
end Go.Proofs.YtakkhdammmcjcaaDoor.Msgs
/-
  What a call may change: the blocks of a set, and new ones; all else is as it was. No condition.
-/
namespace Go.Proofs.YtakkhdammmcjcaaDoor.Mem
open Go.RowKit Go.Proofs.YtakkhdammmcjcaaDoor.Base
/-- Blocks of S may have changed, new blocks may have come. -/
structure Chg (S : Nat → Prop) (w w' : World) : Prop where
  os : w'.os = w.os
  tape : w'.tape = w.tape
  output : w'.output = w.output
  size : w.heap.size ≤ w'.heap.size
  block : ∀ k, k < w.heap.size → ¬ S k → w'.heap[k]? = w.heap[k]?
theorem set_other {w : World} {b c o : Nat} (h : c ≠ b) (v : Value) : (w.setCell ⟨b, o, none⟩ v).heap[c]? = w.heap[c]? := by
  show (w.heap.modify b _)[c]? = _
  rw [Array.getElem?_modify, if_neg fun e => h e.symm]
section
variable {S T : Nat → Prop} {a b w w' : World}
theorem Chg.refl (S : Nat → Prop) (w : World) : Chg S w w := ⟨rfl, rfl, rfl, Nat.le_refl _, fun _ _ _ => rfl⟩
theorem Chg.mono (h : Chg S w w') (hs : ∀ k, S k → T k) : Chg T w w' := ⟨h.os, h.tape, h.output, h.size, fun k hk hn => h.block k hk fun x => hn (hs k x)⟩
theorem Chg.monoLt (h : Chg S w w') (hs : ∀ k, k < w.heap.size → S k → T k) : Chg T w w' := ⟨h.os, h.tape, h.output, h.size, fun k hk hn => h.block k hk fun x => hn (hs k hk x)⟩
theorem Chg.trans (h : Chg S a b) (h' : Chg T b w) (ht : ∀ k, k < a.heap.size → T k → S k) : Chg S a w :=
  ⟨h'.os.trans h.os, h'.tape.trans h.tape, h'.output.trans h.output, Nat.le_trans h.size h'.size, fun k hk hn => (h'.block k (Nat.lt_of_lt_of_le hk h.size) fun x => hn (ht k hk x)).trans (h.block k hk hn)⟩
theorem Chg.then (h : Chg S a b) (h' : Chg S b w) : Chg S a w := h.trans h' fun _ _ x => x
theorem Chg.of_below (h : Below w.heap.size w w') : Chg S w w' := ⟨h.os, h.tape, h.output, h.size, fun k hk _ => h.block k hk⟩
theorem Chg.of_grown {r : Option Nat} (h : w.grownBy w' r) (hr : ∀ k, r = some k → S k) : Chg S w w' := ⟨h.os, h.tape, h.output, h.size, fun k hk hn => h.block k hk fun e => hn (hr k e.symm)⟩
theorem Chg.grown {r : Option Nat} (h : Chg S a w) (hg : w.grownBy w' r) (hr : ∀ k, r = some k → k < a.heap.size → S k) : Chg S a w' :=
  h.trans (T := fun k => r = some k) (Chg.of_grown hg fun _ e => e) fun k hk e => hr k e hk
theorem Chg.set (b i : Nat) (v : Value) (h : S b) (w : World) : Chg S w (w.setCell ⟨b, i, none⟩ v) :=
  ⟨rfl, rfl, rfl, by simp, fun k _ hn => by
    have hne : b ≠ k := fun e => hn (e ▸ h)
    show (w.heap.modify b _)[k]? = _
    rw [Array.getElem?_modify, if_neg hne]⟩
theorem Chg.setCell (h : Chg S a w) (b i : Nat) (v : Value) (hb : b < a.heap.size → S b) : Chg S a (w.setCell ⟨b, i, none⟩ v) :=
  h.trans (T := fun k => k = b) (Chg.set (S := fun k => k = b) b i v rfl w) fun k hk e => by subst e; exact hb hk
theorem Chg.drewN (h : Chg S a w) (n : Nat) : Chg S a (w.drewN n) := ⟨h.os, h.tape, h.output, h.size, h.block⟩
theorem Chg.drew (h : Chg S a w) : Chg S a w.drew := ⟨h.os, h.tape, h.output, h.size, h.block⟩
theorem Chg.alloc (h : Chg S a w) (o : Obj) : Chg S a (w.alloc o) := h.trans (T := S) (Chg.of_below ((Below.refl _ _).alloc (Nat.le_refl _) o)) fun _ _ x => x
theorem Chg.on (h : Chg S a w) (hb : Below w.heap.size w w') : Chg S a w' := h.trans (T := S) (Chg.of_below hb) fun _ _ x => x
/-- A block that lies outside. -/
theorem Chg.stays (h : Chg S w w') {k : Nat} {o : Obj} (hk : w.heap[k]? = some o) (hn : ¬ S k) : w'.heap[k]? = some o := (h.block k (lt_heap hk) hn).trans hk
theorem Chg.below {B : Nat} (h : Chg S w w') (hb : Below B a w) (hB : B ≤ w.heap.size) (hs : ∀ k, S k → B ≤ k) : Below B a w' :=
  hb.trans ⟨h.os, h.tape, h.output, Nat.le_trans (Nat.le_refl _) h.size, fun k hk => h.block k (Nat.lt_of_lt_of_le hk hB) fun x => by have := hs k x; omega⟩
end
end Go.Proofs.YtakkhdammmcjcaaDoor.Mem
/-
  The plain mathematics of layer 17: a purse, a till, what is done to them; a block that holds its cells, a call that turns one block. No condition.
-/
namespace Go.Proofs.YtakkhdammmcjcaaDoor.Cr
open Go.RowKit Go.Proofs.YtakkhdammmcjcaaDoor.Base Go.Proofs.YtakkhdammmcjcaaDoor.Mem
/-- What is answered: no number of bytes; more than there is; none of both. -/
def fit (n m : Int) : Int := if n < 0 then 2 else if m < n then 3 else 0
def roomOf (n : Int) : Int := min (max n 1) 4096
/-- A purse: its room, what is left. -/
structure Pu where
  r : Int
  l : Int
/-- A till: its room, what it holds, what it owes. -/
structure Ti where
  r : Int
  h : Int
  o : Int
structure Pu.Ok (x : Pu) : Prop where
  r1 : 1 ≤ x.r
  r2 : x.r ≤ 4096
  l0 : 0 ≤ x.l
  l1 : x.l ≤ x.r
structure Ti.Ok (x : Ti) : Prop where
  r1 : 1 ≤ x.r
  r2 : x.r ≤ 4096
  h0 : 0 ≤ x.h
  o0 : 0 ≤ x.o
  s : x.h + x.o ≤ x.r
def newP (n : Int) : Pu := ⟨roomOf n, roomOf n⟩
def newT (n : Int) : Ti := ⟨roomOf n, 0, 0⟩
def Pu.use (x : Pu) (n : Int) : Pu := if fit n x.l = 0 then ⟨x.r, x.l - n⟩ else x
def Pu.grant (x : Pu) (n : Int) : Pu := if fit n (x.r - x.l) = 0 then ⟨x.r, x.l + n⟩ else x
def Ti.come (x : Ti) (n : Int) : Ti := if fit n (x.r - x.o - x.h) = 0 then ⟨x.r, x.h + n, x.o⟩ else x
def Ti.read (x : Ti) (n : Int) : Ti := if fit n x.h = 0 then ⟨x.r, x.h - n, x.o + n⟩ else x
def Ti.pay (x : Ti) : Ti := ⟨x.r, x.h, 0⟩
theorem fit_cases (n m : Int) : (n < 0 ∧ fit n m = 2) ∨ (0 ≤ n ∧ m < n ∧ fit n m = 3) ∨ (0 ≤ n ∧ n ≤ m ∧ fit n m = 0) := by
  unfold fit
  by_cases h : n < 0
  · exact .inl ⟨h, if_pos h⟩
  · by_cases h2 : m < n
    · exact .inr (.inl ⟨by omega, h2, by rw [if_neg h, if_pos h2]⟩)
    · exact .inr (.inr ⟨by omega, by omega, by rw [if_neg h, if_neg h2]⟩)
theorem fit0 {n m : Int} (h : fit n m = 0) : 0 ≤ n ∧ n ≤ m := by
  rcases fit_cases n m with ⟨_, e⟩ | ⟨_, _, e⟩ | ⟨a, b, _⟩
  · omega
  · omega
  · exact ⟨a, b⟩
theorem roomOf_ok (n : Int) : 1 ≤ roomOf n ∧ roomOf n ≤ 4096 := by unfold roomOf; omega
theorem newP_ok (n : Int) : (newP n).Ok := ⟨(roomOf_ok n).1, (roomOf_ok n).2, by have := roomOf_ok n; unfold newP; show (0 : Int) ≤ roomOf n; omega, Int.le_refl _⟩
theorem newT_ok (n : Int) : (newT n).Ok := ⟨(roomOf_ok n).1, (roomOf_ok n).2, Int.le_refl _, Int.le_refl _, by have := roomOf_ok n; show (0 : Int) + 0 ≤ roomOf n; omega⟩
theorem Pu.Ok.use {x : Pu} (h : x.Ok) (n : Int) : (x.use n).Ok := by
  unfold Pu.use
  split
  · next e => obtain ⟨a, b⟩ := fit0 e; exact ⟨h.r1, h.r2, by show 0 ≤ x.l - n; omega, by have := h.l1; show x.l - n ≤ x.r; omega⟩
  · exact h
theorem Pu.Ok.grant {x : Pu} (h : x.Ok) (n : Int) : (x.grant n).Ok := by
  unfold Pu.grant
  split
  · next e => obtain ⟨a, b⟩ := fit0 e; exact ⟨h.r1, h.r2, by have := h.l0; show 0 ≤ x.l + n; omega, by show x.l + n ≤ x.r; omega⟩
  · exact h
theorem Ti.Ok.come {x : Ti} (h : x.Ok) (n : Int) : (x.come n).Ok := by
  unfold Ti.come
  split
  · next e => obtain ⟨a, b⟩ := fit0 e; exact ⟨h.r1, h.r2, by have := h.h0; show 0 ≤ x.h + n; omega, h.o0, by show x.h + n + x.o ≤ x.r; omega⟩
  · exact h
theorem Ti.Ok.read {x : Ti} (h : x.Ok) (n : Int) : (x.read n).Ok := by
  unfold Ti.read
  split
  · next e => obtain ⟨a, b⟩ := fit0 e; exact ⟨h.r1, h.r2, by show 0 ≤ x.h - n; omega, by have := h.o0; show 0 ≤ x.o + n; omega, by have := h.s; show x.h - n + (x.o + n) ≤ x.r; omega⟩
  · exact h
theorem Ti.Ok.pay {x : Ti} (h : x.Ok) : x.pay.Ok := ⟨h.r1, h.r2, h.h0, Int.le_refl _, by have := h.s; have := h.o0; show x.h + 0 ≤ x.r; omega⟩
/-- A block holds these cells. -/
def At (w : World) (b : Nat) (cs : Array Value) (t : TypeId) : Prop := w.heap[b]? = some (.cells cs t (0, 0))
/-- What a call leaves: that block so, all else as it was. -/
structure Do (b : Nat) (cs : Array Value) (t : TypeId) (w w' : World) : Prop where
  at_ : At w' b cs t
  chg : Chg (fun k => k = b) w w'
section
variable {w w' w1 : World} {b : Nat} {cs ds : Array Value} {t : TypeId}
theorem At.lt (h : At w b cs t) : b < w.heap.size := lt_heap h
theorem At.free (h : At w b cs t) : ∀ i, w.frozen? ⟨b, i, none⟩ = false := fun _ => free_of h
theorem At.cell (h : At w b cs t) (i : Nat) (u : Value) (hu : cs[i]? = some u) : w.cell? ⟨b, i, none⟩ = some u := cell_of h hu
theorem At.below (h : At w b cs t) (hb : Below w.heap.size w w') : At w' b cs t := stays h hb
theorem At.other {S : Nat → Prop} (h : At w b cs t) (hc : Chg S w w') (hn : ¬ S b) : At w' b cs t := hc.stays h hn
theorem At.set (h : At w b cs t) (i : Nat) (u : Value) : At (w.setCell ⟨b, i, none⟩ u) b (cs.setIfInBounds i u) t := block_set (i := i) h u
theorem Do.refl (h : At w b cs t) : Do b cs t w w := ⟨h, Chg.refl _ _⟩
theorem Do.set (h : Do b cs t w w1) (i : Nat) (u : Value) : Do b (cs.setIfInBounds i u) t w (w1.setCell ⟨b, i, none⟩ u) := ⟨h.at_.set i u, h.chg.setCell b i u fun _ => rfl⟩
theorem Do.cast (h : Do b cs t w w1) (e : cs = ds) : Do b ds t w w1 := e ▸ h
theorem Do.then (h : Do b cs t w w') (h' : Do b ds t w' w1) : Do b ds t w w1 := ⟨h'.at_, h.chg.then h'.chg⟩
end
abbrev im (n : Int) : Value := .int .i64 n
end Go.Proofs.YtakkhdammmcjcaaDoor.Cr
/-
  Messages, commands that wait and facts as cells; the document's own small words: Channel, same, answers. No condition.
-/
namespace Go.Proofs.YtakkhdammmcjcaaDoor.Ctl
open Go.RowKit Go.Proofs.YtakkhdammmcjcaaDoor.Base Go.Proofs.YtakkhdammmcjcaaDoor.Mem Go.Proofs.YtakkhdammmcjcaaDoor.Msgs Go.Proofs.YtakkhdammmcjcaaDoor.Cr
set_option maxRecDepth 20000
abbrev nm (n : Nat) : Value := .int .i64 (n : Int)
def wl (x : Wt) : List Value := ml x.m ++ [nm x.tr, nm x.lf, .bool x.sd]
def fl (f : Fa) : List Value := .int .u8 (f.k : Int) :: ml f.m
theorem wl_len (x : Wt) : (wl x).length = 23 := rfl
theorem fl_len (f : Fa) : (fl f).length = 21 := rfl
theorem wl_one (x : Wt) : ∀ u ∈ wl x, u.oneCell' = true := fun u hu => by
  rcases List.mem_append.1 hu with h | h
  · exact ml_one x.m u h
  · simp only [List.mem_cons, List.not_mem_nil, or_false] at h
    rcases h with rfl | rfl | rfl <;> rfl
theorem fl_one (x : Fa) : ∀ u ∈ fl x, u.oneCell' = true := fun u hu => by
  rcases List.mem_cons.1 hu with rfl | h
  · rfl
  · exact ml_one x.m u h
def wc (x : Wt) : Array Value := (wl x).toArray
def fc (x : Fa) : Array Value := (fl x).toArray
def noW : Wt := ⟨Msgs.zero, 0, 0, false⟩
def noF : Fa := ⟨0, Msgs.zero⟩
/-- A message's block is laid open cell by cell where it is read. -/
theorem lay {w : World} {b : Nat} {m : Ms} {t : TypeId} (h : w.heap[b]? = some (mO m t)) :
    w.cell? ⟨b, 0, none⟩ = some (.int .u8 (m.k : Int)) ∧ w.cell? ⟨b, 1, none⟩ = some (.bool m.c) ∧ w.cell? ⟨b, 2, none⟩ = some (.int .u8 m.p.d) ∧ w.cell? ⟨b, 10, none⟩ = some (.int .u8 (m.s.d : Int)) ∧ w.cell? ⟨b, 18, none⟩ = some (.int .u8 (m.t : Int)) ∧ w.cell? ⟨b, 19, none⟩ = some (.string m.b) :=
  ⟨cell_of h rfl, cell_of h rfl, cell_of h rfl, cell_of h rfl, cell_of h rfl, cell_of h rfl⟩
theorem rchannel (m : Ms) (hi : m.In) (w : World) : Calls Tryd.prog 31 #[mv m] w fun e w' => e = .returned (.int .u8 (ch m : Int)) ∧ Below w.heap.size w w' := by
  by_cases h1 : m.k = 1
  · have hc : (ch m : Int) = m.p.d := by unfold ch; rw [if_pos h1]; have := hi.p.d; omega
    rw [hc]
    have t1 : ((m.k : Int) == 1) = true := by rw [h1]; rfl
    clear hi hc
    go_enter Tryd.func31, Tryd.ntmps31
    go_wp2_with ((with_reducible refine bxm (m := m) ?hx ?_); (case hx => rfl); intro b w1 h1 F1; have HB := Lib.hid F1.below; obtain ⟨c0, c1, c2, c3, c4, c5⟩ := lay h1; clear h1 F1)
    go_ret
    exact ⟨rfl, HB.out⟩
  · have t1 : ((m.k : Int) == 1) = false := beq_false (by omega)
    by_cases h2 : m.k = 2
    · have hc : (ch m : Int) = (m.s.d : Int) := by unfold ch; rw [if_neg h1, if_pos h2]
      rw [hc]
      have t2 : ((m.k : Int) == 2) = true := by rw [h2]; rfl
      clear hi hc
      go_enter Tryd.func31, Tryd.ntmps31
      go_wp2_with ((with_reducible refine bxm (m := m) ?hx ?_); (case hx => rfl); intro b w1 h1 F1; have HB := Lib.hid F1.below; obtain ⟨c0, c1, c2, c3, c4, c5⟩ := lay h1; clear h1 F1)
      go_ret
      exact ⟨rfl, HB.out⟩
    · have hc : ch m = 0 := by unfold ch; rw [if_neg h1, if_neg h2]
      rw [hc]
      have t2 : ((m.k : Int) == 2) = false := beq_false (by omega)
      clear hi hc
      go_enter Tryd.func31, Tryd.ntmps31
      go_wp2_with ((with_reducible refine bxm (m := m) ?hx ?_); (case hx => rfl); intro b w1 h1 F1; have HB := Lib.hid F1.below; obtain ⟨c0, c1, c2, c3, c4, c5⟩ := lay h1; clear h1 F1)
      go_ret
      exact ⟨rfl, HB.out⟩
end Go.Proofs.YtakkhdammmcjcaaDoor.Ctl
/-
  A slice of values of any number of cells that the call made itself, with its spare room, wherever in its block it begins: appended to in either arm, cut ahead, read. Condition: at most a million elements.
-/
namespace Go.Proofs.YtakkhdammmcjcaaDoor.Mem
open Go.RowKit Go.Proofs.YtakkhdammmcjcaaDoor.Base
set_option maxRecDepth 20000
section
variable {α : Type} {E S z : Nat} {fc : α → List Value}
theorem scs_size (b : Nat) : ∀ (vs : List Value) (o : Nat) (w : World), (w.setCells b o vs).heap.size = w.heap.size
  | [], _, _ => rfl
  | v :: r, o, w => by rw [World.setCells, scs_size b r]; simp [World.setCell]
theorem scs_some (b : Nat) (vs : List Value) (o : Nat) (w : World) (h : ∀ j, j < vs.length → (w.cell? ⟨b, o + j, none⟩).isSome = true) (k : Nat) (hk : (w.cell? ⟨b, k, none⟩).isSome = true) : ((w.setCells b o vs).cell? ⟨b, k, none⟩).isSome = true := by
  by_cases hin : o ≤ k ∧ k < o + vs.length
  · have := World.cell?_setCells_in b vs o w h (k - o) (by omega)
    rw [show o + (k - o) = k by omega] at this
    rw [this]; rfl
  · rw [World.cell?_setCells_out b vs o w ⟨b, k, none⟩ (fun _ _ => by show k < o ∨ o + vs.length ≤ k; omega)]
    exact hk
theorem scs_grown (w : World) (g o : Nat) (vs : List Value) : w.grownBy (w.setCells g o vs) (some g) := by
  have hb : ∀ (vs : List Value) (o : Nat) (w : World) (k : Nat), k ≠ g → (w.setCells g o vs).heap[k]? = w.heap[k]? := by
    intro vs
    induction vs with
    | nil => intro o w k _; rfl
    | cons v r ih => intro o w k hk; rw [World.setCells, ih _ _ _ hk]; exact Below.heap_setCell w _ _ _ hk
  have hs : ∀ (vs : List Value) (o : Nat) (w : World), (w.setCells g o vs).os = w.os ∧ (w.setCells g o vs).tape = w.tape ∧ (w.setCells g o vs).output = w.output := by
    intro vs
    induction vs with
    | nil => intro o w; exact ⟨rfl, rfl, rfl⟩
    | cons v r ih => intro o w; exact ih _ _
  obtain ⟨h1, h2, h3⟩ := hs vs o w
  exact ⟨h1, h2, h3, by rw [scs_size]; exact Nat.le_refl _, fun k _ hk => hb vs o w k fun e => hk (by rw [e])⟩
/-- The row of cap places at off of the block g, of which the first ones hold l. -/
structure Rz (z : Nat) (fc : α → List Value) (w : World) (g off cap : Nat) (l : List α) : Prop where
  len : l.length ≤ cap
  max : cap ≤ 9223372036854775807
  lt : g < w.heap.size
  cell : ∀ i x, l[i]? = some x → ∀ j, j < z → w.cell? ⟨g, off + (z * i + j), none⟩ = (fc x)[j]?
  has : ∀ i, i < z * cap → (w.cell? ⟨g, off + i, none⟩).isSome = true
  free : ∀ i, i < z * cap → w.frozen? ⟨g, off + i, none⟩ = false
theorem Rz.eqv {w w' : World} {g off cap : Nat} {l : List α} (h : Rz z fc w g off cap l) (hb : w'.heap[g]? = w.heap[g]?) : Rz z fc w' g off cap l := by
  have hc : ∀ i, w'.cell? ⟨g, i, none⟩ = w.cell? ⟨g, i, none⟩ := fun i => World.cell?_of_block (a := ⟨g, i, none⟩) hb
  have hf : ∀ i, w'.frozen? ⟨g, i, none⟩ = w.frozen? ⟨g, i, none⟩ := fun i => World.frozen?_of_block (a := ⟨g, i, none⟩) hb
  refine ⟨h.len, h.max, ?_, fun i x hi j hj => (hc _).trans (h.cell i x hi j hj), fun i hi => by rw [hc]; exact h.has i hi, fun i hi => (hf _).trans (h.free i hi)⟩
  have : w.heap[g]? = some (w.heap[g]'h.lt) := Array.getElem?_eq_getElem h.lt
  exact lt_heap (hb.trans this)
theorem Rz.below {w w' : World} {g off cap : Nat} {l : List α} (h : Rz z fc w g off cap l) (hb : Below w.heap.size w w') : Rz z fc w' g off cap l := h.eqv (hb.block g h.lt)
theorem Rz.drop {w : World} {g off cap : Nat} {l : List α} (h : Rz z fc w g off cap l) (k : Nat) (hk : k ≤ cap) : Rz z fc w g (off + z * k) (cap - k) (l.drop k) := by
  have hm : z * (cap - k) + z * k = z * cap := by rw [← Nat.mul_add, Nat.sub_add_cancel hk]
  refine ⟨by rw [List.length_drop]; have := h.len; omega, by have := h.max; omega, h.lt, fun i x hi j hj => ?_, fun i hi => ?_, fun i hi => ?_⟩
  · rw [List.getElem?_drop] at hi
    have := h.cell (k + i) x hi j hj
    rw [Nat.mul_add] at this
    rw [show off + z * k + (z * i + j) = off + (z * k + z * i + j) by omega]
    exact this
  · rw [Nat.add_assoc]; exact h.has _ (by omega)
  · rw [Nat.add_assoc]; exact h.free _ (by omega)
/-- Elements are laid behind those that are there. -/
theorem Rz.app {w : World} {g off cap : Nat} {l : List α} (hl : ∀ x, (fc x).length = z) (h : Rz z fc w g off cap l) (l2 : List α) (hc : l.length + l2.length ≤ cap) : Rz z fc (w.setCells g (off + z * l.length) (l2.flatMap fc)) g off cap (l ++ l2) := by
  have hfl := flat_len hl l2
  have hm : z * l.length + z * l2.length ≤ z * cap := by rw [← Nat.mul_add]; exact Nat.mul_le_mul_left _ hc
  have hs : ∀ j, j < (l2.flatMap fc).length → (w.cell? ⟨g, off + z * l.length + j, none⟩).isSome = true := fun j hj => by
    rw [hfl] at hj
    rw [Nat.add_assoc]
    exact h.has _ (by omega)
  refine ⟨by rw [List.length_append]; exact hc, h.max, by rw [scs_size]; exact h.lt, fun i x hi j hj => ?_, fun j hj => scs_some g _ _ _ hs _ (h.has j hj), fun j hj => by rw [World.frozen?_setCells]; exact h.free j hj⟩
  by_cases hin : i < l.length
  · rw [List.getElem?_append_left hin] at hi
    have h1 : z * i + z ≤ z * l.length := by rw [← Nat.mul_succ]; exact Nat.mul_le_mul_left _ hin
    rw [World.cell?_setCells_out g _ _ w ⟨g, off + (z * i + j), none⟩ (fun _ _ => by show off + (z * i + j) < off + z * l.length ∨ _; omega)]
    exact h.cell i x hi j hj
  · rw [List.getElem?_append_right (by omega)] at hi
    have hlt : i - l.length < l2.length := (List.getElem?_eq_some_iff.1 hi).1
    have h1 : z * (i - l.length) + z ≤ z * l2.length := by rw [← Nat.mul_succ]; exact Nat.mul_le_mul_left _ hlt
    have h2 : z * l.length + z * (i - l.length) = z * i := by rw [← Nat.mul_add]; congr 1; omega
    have hk : z * (i - l.length) + j < (l2.flatMap fc).length := by rw [hfl]; omega
    have := World.cell?_setCells_in g (l2.flatMap fc) (off + z * l.length) w hs (z * (i - l.length) + j) hk
    rw [show off + z * l.length + (z * (i - l.length) + j) = off + (z * i + j) by omega] at this
    rw [this, ← List.getElem?_eq_getElem, flat_get hl l2 x _ j hi hj]
/-- A block that was just laid. -/
theorem rz_new (hl : ∀ x, (fc x).length = z) (w : World) (cs : Array Value) (E : TypeId) (l : List α) (cap : Nat) (hc : cs.size = z * cap) (hm : cap ≤ 9223372036854775807) (hlen : l.length ≤ cap) (hx : ∀ (k : Nat) (v : Value), (l.flatMap fc)[k]? = some v → cs[k]? = some v) : Rz z fc (w.alloc (.cells cs E)) w.heap.size 0 cap l := by
  have hb : (w.alloc (.cells cs E)).heap[w.heap.size]? = some (.cells cs E) := nest w [.cells cs E] 0 _ rfl
  refine ⟨hlen, hm, by simp, fun i x hi j hj => ?_, fun i hi => ?_, fun i _ => free_of hb⟩
  · rw [Nat.zero_add]
    have hj' : j < (fc x).length := by rw [hl]; exact hj
    have hv := hx (z * i + j) (fc x)[j] (by rw [flat_get hl l x i j hi hj, List.getElem?_eq_getElem hj'])
    rw [cell_of hb hv, List.getElem?_eq_getElem hj']
  · rw [Nat.zero_add, cell_of hb (v := cs[i]'(by omega)) (Array.getElem?_eq_getElem _)]; rfl
/-- The slice v, in memory from block 'base' on, holds l. -/
def Qz (z : Nat) (fc : α → List Value) (w : World) (base : Nat) (v : Value) (l : List α) : Prop :=
  (v = .slice none 0 0 ∧ l = []) ∨ ∃ g off cap, v = .slice (some ⟨g, off, none⟩) l.length cap ∧ base ≤ g ∧ Rz z fc w g off cap l
theorem qz_nil (w : World) (base : Nat) : Qz z fc w base (.slice none 0 0) ([] : List α) := Or.inl ⟨rfl, rfl⟩
theorem Qz.below {w w' : World} {base : Nat} {v : Value} {l : List α} (h : Qz z fc w base v l) (hb : Below w.heap.size w w') : Qz z fc w' base v l := by
  rcases h with h | ⟨g, off, cap, h1, h2, h3⟩
  · exact Or.inl h
  · exact Or.inr ⟨g, off, cap, h1, h2, h3.below hb⟩
theorem Qz.eqv {w w' : World} {base : Nat} {v : Value} {l : List α} (h : Qz z fc w base v l) (hb : ∀ g, v.ownBlock = some g → w'.heap[g]? = w.heap[g]?) : Qz z fc w' base v l := by
  rcases h with h | ⟨g, off, cap, rfl, h2, h3⟩
  · exact Or.inl h
  · exact Or.inr ⟨g, off, cap, rfl, h2, h3.eqv (hb g rfl)⟩
theorem Qz.lt {w : World} {base : Nat} {v : Value} {l : List α} (h : Qz z fc w base v l) : ∀ k, v.ownBlock = some k → base ≤ k ∧ k < w.heap.size := fun k hk => by
  rcases h with ⟨rfl, _⟩ | ⟨g, off, cap, rfl, h2, h3⟩
  · cases hk
  · cases hk; exact ⟨h2, h3.lt⟩
theorem Qz.of {w : World} {base g off cap n : Nat} {l : List α} (hb : base ≤ g) (h : Rz z fc w g off cap l) (hn : l.length = n) : Qz z fc w base (.slice (some ⟨g, off, none⟩) n cap) l := by
  subst hn; exact Or.inr ⟨g, off, cap, rfl, hb, h⟩
theorem Qz.form {w : World} {base : Nat} {v : Value} {l : List α} (h : Qz z fc w base v l) : ∃ oa cap, v = .slice oa l.length cap := by
  rcases h with ⟨rfl, rfl⟩ | ⟨g, off, cap, rfl, _, _⟩
  · exact ⟨none, 0, rfl⟩
  · exact ⟨_, cap, rfl⟩
/-- What lies at an address, as an append's second argument. -/
theorem srcz_at (he : Elt E S z fc) (w : World) (b o m c : Nat) (l : List α) (hl : l.length = m) (hc : ∀ i x, l[i]? = some x → ∀ j, j < z → w.cell? ⟨b, o + (z * i + j), none⟩ = (fc x)[j]?) : Src Tryd.prog z S (.slice (some ⟨b, o, none⟩) m c) m (l.flatMap fc) w := by
  refine Src.ofSlice w he.under ⟨b, o, none⟩ m c (l.flatMap fc) (by rw [flat_len he.len, hl, Nat.mul_comm]) (fun k u hk => ?_) (fun u hu => ?_)
  · rw [add_off]
    have hlt : k < z * l.length := by
      have := (List.getElem?_eq_some_iff.1 hk).1
      rwa [flat_len he.len] at this
    have hdm := Nat.div_add_mod k z
    have hmod := Nat.mod_lt k he.pos
    have hdiv : k / z < l.length := by
      rw [Nat.div_lt_iff_lt_mul he.pos, Nat.mul_comm]; exact hlt
    have hx : l[k / z]? = some (l[k / z]'hdiv) := List.getElem?_eq_getElem _
    have h1 := hc (k / z) _ hx (k % z) hmod
    rw [hdm] at h1
    rw [h1, ← hk, ← flat_get he.len l _ (k / z) (k % z) hx hmod, hdm]
  · obtain ⟨x, _, hx⟩ := List.mem_flatMap.1 hu
    exact he.one x u hx
/-- Elements are appended, where there is room and where there is none. -/
theorem run_append_q (he : Elt E S z fc) (w : World) (ty base : Nat) (v : Value) (l : List α) (h : Qz z fc w base v l) (xv : Value) (n : Nat) (l2 : List α) (hl2 : l2.length = n) (hs : Src Tryd.prog z S xv n (l2.flatMap fc) w) (hpos : 0 < n) (hz : l.length + n ≤ 1000000) (hb : base ≤ w.heap.size) :
    ∃ v' w', (Builtin.append_ #[S, S] ty #[v, xv]).run Tryd.prog w = .ok v' w' ∧ Qz z fc w' base v' (l ++ l2) ∧ w.grownBy w' v.ownBlock ∧ (v'.ownBlock = v.ownBlock ∨ v'.ownBlock = some w.heap.size) := by
  obtain ⟨zero, bytes, hinfo, hzc, hby⟩ := he.info
  obtain ⟨i, hi, hz0, hz1, hz2⟩ := info_parts hinfo
  have hs' : Src Tryd.prog i.size S xv n (l2.flatMap fc) w := by rw [hz1]; exact hs
  have hbytes : (l.length + n) * bytes ≤ 140737488355328 := Nat.le_trans (Nat.mul_le_mul hz hby) (by decide)
  have hfl := flat_len he.len l
  have hfl2 := flat_len he.len l2
  have grow : ∀ (b : Option Addr) (cap : Nat), v = .slice b l.length cap → (Builtin.firstCells i.size l.length (.slice b l.length cap)).run Tryd.prog w.drew = .ok (l.flatMap fc).toArray w.drew → cap < l.length + n →
      ∃ v' w', (Builtin.append_ #[S, S] ty #[v, xv]).run Tryd.prog w = .ok v' w' ∧ Qz z fc w' base v' (l ++ l2) ∧ w.grownBy w' v.ownBlock ∧ (v'.ownBlock = v.ownBlock ∨ v'.ownBlock = some w.heap.size) := by
    intro b cap hv hold hroom
    subst hv
    have hr := run_append_grow_src (P := Tryd.prog) w S S ty E i zero he.under hi hz0 b l.length cap (l.flatMap fc) hold xv n (l2.flatMap fc) hs' hroom (by omega) (growslice_fits hroom (by rw [hz2]; exact hbytes))
    have hge := grownCap_ge w (l.length + n) cap E
    have hle := grownCap_le_maxLen w (l.length + n) cap E (by unfold maxLen; omega)
    refine ⟨_, _, hr, ?_, ?_, Or.inr rfl⟩
    · have hsz : ((l.flatMap fc ++ l2.flatMap fc).toArray ++ Builtin.zeroCells zero.cells (grownCap w (l.length + n) cap E - (l.length + n))).size = z * grownCap w (l.length + n) cap E := by
        rw [Array.size_append, size_zeroCells, hzc, List.size_toArray, List.length_append, hfl, hfl2, hl2, ← Nat.mul_add, Nat.mul_comm (_ - _) z, ← Nat.mul_add]
        congr 1
        omega
      have hnew := rz_new he.len w.drew ((l.flatMap fc ++ l2.flatMap fc).toArray ++ Builtin.zeroCells zero.cells (grownCap w (l.length + n) cap E - (l.length + n))) E (l ++ l2) (grownCap w (l.length + n) cap E)
        hsz (by unfold maxLen at hle; omega) (by rw [List.length_append, hl2]; exact hge) (fun j x hj => by
          rw [List.flatMap_append] at hj
          have hlt := (List.getElem?_eq_some_iff.1 hj).1
          rw [Array.getElem?_append_left (by simpa using hlt), List.getElem?_toArray]
          exact hj)
      exact Qz.of (by exact hb) hnew (by rw [List.length_append, hl2])
    · exact ⟨rfl, rfl, rfl, by simp, fun _ hk _ => heap_alloc_old w.drew _ hk⟩
  rcases h with ⟨rfl, rfl⟩ | ⟨g, off, cap, rfl, hbg, hR⟩
  · exact grow none 0 rfl (by simpa using run_firstCells_none (P := Tryd.prog) w.drew i.size 0 0 0) (by simp; omega)
  · by_cases hroom : l.length + n ≤ cap
    · have hm : z * l.length + z * n ≤ z * cap := by rw [← Nat.mul_add]; exact Nat.mul_le_mul_left _ hroom
      have hr := run_append_room_src (P := Tryd.prog) w S S ty E i he.under hi g off l.length cap xv n (l2.flatMap fc) hs' hroom
        (fun j hj => by rw [hfl2, hl2] at hj; rw [hz1, Nat.mul_comm, Nat.add_assoc]; exact hR.has _ (by omega)) (fun j hj => by rw [hfl2, hl2] at hj; rw [hz1, Nat.mul_comm, Nat.add_assoc]; exact hR.free _ (by omega))
      rw [hz1, Nat.mul_comm] at hr
      exact ⟨_, _, hr, Qz.of hbg (hR.app he.len l2 (by rw [hl2]; exact hroom)) (by rw [List.length_append, hl2]), scs_grown w g _ _, Or.inl rfl⟩
    · refine grow (some ⟨g, off, none⟩) cap rfl ?_ (by omega)
      exact run_firstCells_some (P := Tryd.prog) w.drew i.size l.length ⟨g, off, none⟩ l.length cap (l.flatMap fc) (by rw [hz1, hfl, Nat.mul_comm]) (fun k u hk => by
        rw [add_off]
        have hlt : k < z * l.length := by
          have := (List.getElem?_eq_some_iff.1 hk).1
          rwa [hfl] at this
        have hdm := Nat.div_add_mod k z
        have hmod := Nat.mod_lt k he.pos
        have hdiv : k / z < l.length := by
          rw [Nat.div_lt_iff_lt_mul he.pos, Nat.mul_comm]; exact hlt
        have hx : l[k / z]? = some (l[k / z]'hdiv) := List.getElem?_eq_getElem _
        have h1 := hR.cell (k / z) _ hx (k % z) hmod
        rw [hdm] at h1
        show w.cell? _ = _
        rw [h1, ← hk, ← flat_get he.len l _ (k / z) (k % z) hx hmod, hdm])
end
section
variable {P : Program}
/-- An append whose run is known, as one step of a region that draws. -/
theorem step_append_known {ops : Array Oper} {o : Oper} {a : Act} {w : World} {K : Act → World → Prop} {Q : Exit → Act → World → Prop} {X : Prop}
    (hg : o.guard = none) (d s : Operand) (t t' : TypeId) (ho : o.op = .call { callee := .builtin .append, args := #[d, s], argTypes := #[t, t'] })
    {v u : Value} (hd : a.eval d = v) (hs : a.eval s = u) {v' : Value} {w' : World} (hr : (Builtin.append_ #[t, t'] o.type #[v, u]).run P w = .ok v' w') (hK : K (a.put o.dst v') w') :
    if Region.wanted o (yielded ops a.tmps) = true then Oper.wp P o a w K Q else X := by
  rw [if_pos (by simp [Region.wanted, hg])]
  unfold Oper.wp execOp
  simp only [ho, resolve, invoke, builtin, Sem.run_bind, Sem.run_pure, Result.andThen_ok, List.map_toArray, List.map_cons, List.map_nil, hd, hs, hr]
  exact hK
end
end Go.Proofs.YtakkhdammmcjcaaDoor.Mem

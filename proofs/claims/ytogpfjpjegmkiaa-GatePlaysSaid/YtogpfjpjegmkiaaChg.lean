/-
  What a call may change: the blocks of a set, and new ones; all else is as it was. No condition.
-/
import Derived.Test.YtogpfjpjegmkiaaMem
import Derived.Laws.AppendOwn
import Derived.Below
import Derived.Deep.LoopGhost
namespace Go.Proofs.Ytogpfjpjegmkiaa.Mem
open Go.RowKit Go.Proofs.Ytogpfjpjegmkiaa.Base
/-- Blocks of S may have changed, new blocks may have come. -/
structure Chg (S : Nat → Prop) (w w' : World) : Prop where
  os : w'.os = w.os
  tape : w'.tape = w.tape
  output : w'.output = w.output
  size : w.heap.size ≤ w'.heap.size
  block : ∀ k, k < w.heap.size → ¬ S k → w'.heap[k]? = w.heap[k]?
theorem set_other {w : World} {b c o : Nat} (h : c ≠ b) (v : Value) : (w.setCell ⟨b, o, none⟩ v).heap[c]? = w.heap[c]? := by
  show (w.heap.modify b _)[c]? = _
  rw [Array.getElem?_modify, if_neg fun e => h e.symm]
section
variable {S T : Nat → Prop} {a b w w' : World}
theorem Chg.refl (S : Nat → Prop) (w : World) : Chg S w w := ⟨rfl, rfl, rfl, Nat.le_refl _, fun _ _ _ => rfl⟩
theorem Chg.mono (h : Chg S w w') (hs : ∀ k, S k → T k) : Chg T w w' := ⟨h.os, h.tape, h.output, h.size, fun k hk hn => h.block k hk fun x => hn (hs k x)⟩
theorem Chg.monoLt (h : Chg S w w') (hs : ∀ k, k < w.heap.size → S k → T k) : Chg T w w' := ⟨h.os, h.tape, h.output, h.size, fun k hk hn => h.block k hk fun x => hn (hs k hk x)⟩
theorem Chg.trans (h : Chg S a b) (h' : Chg T b w) (ht : ∀ k, k < a.heap.size → T k → S k) : Chg S a w :=
  ⟨h'.os.trans h.os, h'.tape.trans h.tape, h'.output.trans h.output, Nat.le_trans h.size h'.size, fun k hk hn => (h'.block k (Nat.lt_of_lt_of_le hk h.size) fun x => hn (ht k hk x)).trans (h.block k hk hn)⟩
theorem Chg.then (h : Chg S a b) (h' : Chg S b w) : Chg S a w := h.trans h' fun _ _ x => x
theorem Chg.of_below (h : Below w.heap.size w w') : Chg S w w' := ⟨h.os, h.tape, h.output, h.size, fun k hk _ => h.block k hk⟩
theorem Chg.of_grown {r : Option Nat} (h : w.grownBy w' r) (hr : ∀ k, r = some k → S k) : Chg S w w' := ⟨h.os, h.tape, h.output, h.size, fun k hk hn => h.block k hk fun e => hn (hr k e.symm)⟩
theorem Chg.grown {r : Option Nat} (h : Chg S a w) (hg : w.grownBy w' r) (hr : ∀ k, r = some k → k < a.heap.size → S k) : Chg S a w' :=
  h.trans (T := fun k => r = some k) (Chg.of_grown hg fun _ e => e) fun k hk e => hr k e hk
theorem Chg.set (b i : Nat) (v : Value) (h : S b) (w : World) : Chg S w (w.setCell ⟨b, i, none⟩ v) :=
  ⟨rfl, rfl, rfl, by simp, fun k _ hn => by
    have hne : b ≠ k := fun e => hn (e ▸ h)
    show (w.heap.modify b _)[k]? = _
    rw [Array.getElem?_modify, if_neg hne]⟩
theorem Chg.setCell (h : Chg S a w) (b i : Nat) (v : Value) (hb : b < a.heap.size → S b) : Chg S a (w.setCell ⟨b, i, none⟩ v) :=
  h.trans (T := fun k => k = b) (Chg.set (S := fun k => k = b) b i v rfl w) fun k hk e => by subst e; exact hb hk
theorem Chg.drewN (h : Chg S a w) (n : Nat) : Chg S a (w.drewN n) := ⟨h.os, h.tape, h.output, h.size, h.block⟩
theorem Chg.drew (h : Chg S a w) : Chg S a w.drew := ⟨h.os, h.tape, h.output, h.size, h.block⟩
theorem Chg.alloc (h : Chg S a w) (o : Obj) : Chg S a (w.alloc o) := h.trans (T := S) (Chg.of_below ((Below.refl _ _).alloc (Nat.le_refl _) o)) fun _ _ x => x
theorem Chg.on (h : Chg S a w) (hb : Below w.heap.size w w') : Chg S a w' := h.trans (T := S) (Chg.of_below hb) fun _ _ x => x
/-- A block that lies outside. -/
theorem Chg.stays (h : Chg S w w') {k : Nat} {o : Obj} (hk : w.heap[k]? = some o) (hn : ¬ S k) : w'.heap[k]? = some o := (h.block k (lt_heap hk) hn).trans hk
theorem Chg.below {B : Nat} (h : Chg S w w') (hb : Below B a w) (hB : B ≤ w.heap.size) (hs : ∀ k, S k → B ≤ k) : Below B a w' :=
  hb.trans ⟨h.os, h.tape, h.output, Nat.le_trans (Nat.le_refl _) h.size, fun k hk => h.block k (Nat.lt_of_lt_of_le hk hB) fun x => by have := hs k x; omega⟩
end
end Go.Proofs.Ytogpfjpjegmkiaa.Mem

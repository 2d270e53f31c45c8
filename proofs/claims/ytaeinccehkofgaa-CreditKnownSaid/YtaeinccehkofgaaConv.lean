/-
  A slice of one or two bytes that was just laid, made into a string: those bytes; no memory turns.
-/
import Derived.Test.YtaeinccehkofgaaChecked
import Derived.Test.YtaeinccehkofgaaBase
import Derived.Laws.BytesArg
namespace Go.Proofs.Ytaeinccehkofgaa.Base
theorem cell_new (w : World) (cs : Array Value) (t : TypeId) (i : Nat) : (w.alloc (.cells cs t)).cell? ⟨w.heap.size, i, none⟩ = cs[i]? := by
  have h : (w.alloc (.cells cs t)).heap[w.heap.size]? = some (.cells cs t) := by
    show (w.heap.push _)[w.heap.size]? = _
    simp
  unfold World.cell?
  rw [h]
  rfl
end Go.Proofs.Ytaeinccehkofgaa.Base

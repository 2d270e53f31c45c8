/-
  What the document's own Decode of layer 5 answers. Condition: at most 1000 octets.
-/
import Derived.Test.YthlciaomfpephaaDoorAdvDec
import Derived.Deep.RegionHeld
namespace Go.Proofs.YthlciaomfpephaaDoor.Adv
open Go.RowKit Go.Proofs.YthlciaomfpephaaDoor.Base Go.Proofs.YthlciaomfpephaaDoor.Ea Go.Proofs.YthlciaomfpephaaDoor.Field Go.Proofs.YthlciaomfpephaaDoor.Basic
theorem as_below {P : Program} {f : FuncId} {args : Array Value} {w : World} {v : Value} (h : Calls P f args w fun e w' => e = .returned v ∧ w = w') : Calls P f args w fun e w' => e = .returned v ∧ Below w.heap.size w w' :=
  h.mono fun _ _ ⟨he, hw⟩ => ⟨he, by rw [← hw]; exact Below.refl _ _⟩
end Go.Proofs.YthlciaomfpephaaDoor.Adv

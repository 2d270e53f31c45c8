/-
  What the document's own Encode of layer 5 answers. Condition: octets within their bounds.
-/
import Derived.Test.YthlciaomfpephaaDoorAdvEnc
import Derived.Deep.RegionHeld
namespace Go.Proofs.YthlciaomfpephaaDoor.Adv
open Go.RowKit Go.Proofs.YthlciaomfpephaaDoor.Base Go.Proofs.YthlciaomfpephaaDoor.Ea Go.Proofs.YthlciaomfpephaaDoor.Field Go.Proofs.YthlciaomfpephaaDoor.Basic
theorem one_one (a o : Nat) : one a ++ one o = two a o := bext (by rw [app_list]; rfl)
end Go.Proofs.YthlciaomfpephaaDoor.Adv

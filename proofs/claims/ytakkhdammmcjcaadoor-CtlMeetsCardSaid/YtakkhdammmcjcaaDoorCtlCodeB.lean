/-
  The code of the third loop's round, out of the translation: no text of it. No condition.
-/
import Derived.Test.YtakkhdammmcjcaaDoorCtlEndB
namespace Go.Proofs.YtakkhdammmcjcaaDoor.ctlMeets
/-- The outermost loops of a code, in their order. -/
def loops : Code → List Code
  | .loop c => [c]
  | .seq a b => loops a ++ loops b
  | .block _ c => loops c
  | .scope c => loops c
  | .cond _ a b => loops a ++ loops b
  | _ => []
noncomputable def bodyC : Code := (((Tryd.f3.body).map loops).getD []).getD 2 .skip
end Go.Proofs.YtakkhdammmcjcaaDoor.ctlMeets

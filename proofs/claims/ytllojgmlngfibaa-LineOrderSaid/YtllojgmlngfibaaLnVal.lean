/-
  A damage by value. No condition.
-/
import Derived.Test.YtllojgmlngfibaaLnWorks
namespace Go.Proofs.Ytllojgmlngfibaa.Ln
/-- A damage as a value. -/
abbrev dv (x : Dm) : Value := .agg #[.int .u8 (x.k : Int), .int .i64 x.i, .int .u8 (x.b : Int), .int .i64 x.n]
abbrev Dm.In (x : Dm) : Prop := DFits x
end Go.Proofs.Ytllojgmlngfibaa.Ln

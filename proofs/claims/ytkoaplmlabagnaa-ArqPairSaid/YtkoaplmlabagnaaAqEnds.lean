/-
  Layer 15's ArqEnds, plain, and at the steps that ArqKnown asks of it. Closed facts.
-/
import Derived.Test.YtkoaplmlabagnaaAqPair
namespace Go.Proofs.Ytkoaplmlabagnaa.Aq
open Go.Proofs.Ytkoaplmlabagnaa.Base Go.Proofs.Ytkoaplmlabagnaa.Mem
/-- A step of a pair. -/
structure Sp where
  d : Nat
  side : Bool
  on : Bool
def pOp (d : Nat) (on : Bool) (x : Pr) : Pr :=
  if d % 9 < 2 then pPush x else if d % 9 < 4 then pSend x else if d % 9 < 6 then pHand x else if d % 9 = 6 then pLose x else if d % 9 = 7 then pTick x else pBusy on x
def pStep (s : Sp) (x : Pr) : Pr := if s.side = true then swp (pOp s.d s.on (swp x)) else pOp s.d s.on x
def pHalf (x : Pr) : Pr × Bool := (pHand (pSend x), (next x.A).2.2 || !(pSend x).L0.isEmpty)
def pBoth (x : Pr) : Pr × Bool := (swp (pHalf (swp (pHalf x).1)).1, (pHalf x).2 || (pHalf (swp (pHalf x).1)).2)
def settle : Nat → Pr → Pr × Bool
  | 0, x => (x, false)
  | n + 1, x => if (pBoth x).2 = true then settle n (pBoth x).1 else ((pBoth x).1, true)
def ticks : Nat → Pr → Pr × Bool
  | 0, x => settle 5000 x
  | n + 1, x => if (settle 5000 x).2 = true then ticks n (pTick (settle 5000 x).1) else ((settle 5000 x).1, false)
def idle (x : Pr) : Pr := swp (pBusy false (swp (pBusy false x)))
def ends (k n2 t1 : Nat) (l : List Sp) : Bool :=
  let r := ticks (t1 + 2) (idle (l.foldl (fun x s => pStep s x) (newP k n2 t1)))
  r.2 && (r.1.A.fl || r.1.B.fl || (decide (r.1.A.p.length = r.1.A.a) && decide (r.1.B.p.length = r.1.B.a) && decide (r.1.k0 = r.1.u0) && decide (r.1.k1 = r.1.u1)))
def xOf (i n : Nat) : Nat := (i * 31 + n * n * 7 + n * i) % 997
def spOf (i : Nat) : List Sp := (List.range 24).map fun n => ⟨xOf i n / 5 % 256, decide (xOf i n % 2 = 0), decide (xOf i n % 4 = 0)⟩
set_option maxRecDepth 100000 in
theorem ends_all : ((List.range 100).all fun i => ends (1 + 4 * i % 7) (4 * i % 5) (1 + 4 * i % 6) (spOf (4 * i))) = true := by decide +kernel
/-- ArqKnown's steps end. -/
theorem ends_known (i : Nat) (hi : i < 400) (h4 : i % 4 = 0) : ends (1 + i % 7) (i % 5) (1 + i % 6) (spOf i) = true := by
  have := List.all_eq_true.1 ends_all (i / 4) (List.mem_range.2 (by omega))
  rwa [show 4 * (i / 4) = i by omega] at this
end Go.Proofs.Ytkoaplmlabagnaa.Aq

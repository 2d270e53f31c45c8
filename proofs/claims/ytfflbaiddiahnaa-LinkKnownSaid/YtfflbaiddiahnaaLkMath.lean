/-
  The plain mathematics of layer 14: a link, what is done to it, what it answers. No condition.
-/
import Derived.Test.YtfflbaiddiahnaaMem
namespace Go.Proofs.Ytfflbaiddiahnaa.Lk
open Go.Proofs.Ytfflbaiddiahnaa.Base Go.Proofs.Ytfflbaiddiahnaa.Mem
/-- A link: its state, whether it listens, its N2, its tries. -/
structure Lk where
  s : Int
  li : Bool
  n : Int
  t : Int
/-- An answer: its kind, whether it is a command, its bit, its timer, its fact. -/
structure Ac where
  k : Int
  c : Bool
  p : Bool
  t : Int
  f : Int
/-- What is done to a link. -/
inductive Ev where
  | opens
  | closes
  | due
  | sabm (p : Bool)
  | disc (p : Bool)
  | ua (p : Bool)
  | dm (p : Bool)
  | poll (p : Bool)
  | noise
def nop : Ac := ⟨0, false, false, 0, 0⟩
def cmd (k : Int) : Ac := ⟨k, true, true, 1, 0⟩
/-- Its timer is due. -/
def again (l : Lk) : Lk × Ac := if l.t < l.n then (⟨l.s, l.li, l.n, l.t + 1⟩, cmd (if l.s = 4 then 4 else 1)) else (⟨5, l.li, l.n, l.t⟩, ⟨0, false, false, 2, 6⟩)
def onDown (l : Lk) : Ev → Lk × Ac
  | .opens => (⟨2, l.li, l.n, 0⟩, ⟨1, true, true, 1, 0⟩)
  | .sabm p => if l.li = true then (⟨3, l.li, l.n, l.t⟩, ⟨2, false, p, 0, 2⟩) else (l, ⟨3, false, p, 0, 0⟩)
  | .disc p => (l, ⟨3, false, p, 0, 0⟩)
  | .poll p => (l, ⟨3, false, p, 0, 0⟩)
  | _ => (l, nop)
def onOpening (l : Lk) : Ev → Lk × Ac
  | .closes => (⟨4, l.li, l.n, 0⟩, ⟨4, true, true, 1, 0⟩)
  | .ua p => if p = true then (⟨3, l.li, l.n, l.t⟩, ⟨0, false, false, 2, 1⟩) else (l, nop)
  | .dm p => if p = true then (⟨1, l.li, l.n, l.t⟩, ⟨0, false, false, 2, 4⟩) else (l, nop)
  | .sabm p => (l, ⟨2, false, p, 0, 0⟩)
  | .disc p => (⟨1, l.li, l.n, l.t⟩, ⟨3, false, p, 2, 4⟩)
  | .due => again l
  | _ => (l, nop)
def onUp (l : Lk) : Ev → Lk × Ac
  | .closes => (⟨4, l.li, l.n, 0⟩, ⟨4, true, true, 1, 0⟩)
  | .sabm p => (l, ⟨2, false, p, 0, 3⟩)
  | .disc p => (⟨1, l.li, l.n, l.t⟩, ⟨2, false, p, 0, 5⟩)
  | .dm _ => (⟨1, l.li, l.n, l.t⟩, ⟨0, false, false, 0, 5⟩)
  | _ => (l, nop)
def onClosing (l : Lk) : Ev → Lk × Ac
  | .ua p => if p = true then (⟨1, l.li, l.n, l.t⟩, ⟨0, false, false, 2, 5⟩) else (l, nop)
  | .dm p => if p = true then (⟨1, l.li, l.n, l.t⟩, ⟨0, false, false, 2, 5⟩) else (l, nop)
  | .sabm p => (l, ⟨3, false, p, 0, 0⟩)
  | .disc p => (l, ⟨2, false, p, 0, 0⟩)
  | .due => again l
  | _ => (l, nop)
/-- What a link is then, and what it answers. -/
def on (l : Lk) (e : Ev) : Lk × Ac :=
  if l.s = 2 then onOpening l e else if l.s = 3 then onUp l e else if l.s = 4 then onClosing l e else onDown l e
/-- The event that a frame is. -/
def evOf (k : Int) (p c : Bool) : Ev :=
  if c = true then
    (if k = 1 then .sabm p else if k = 4 then .disc p else if p = true ∧ 5 ≤ k ∧ k ≤ 10 then .poll p else .noise)
  else (if k = 2 then .ua p else if k = 3 then .dm p else .noise)
structure Lk.Ok (l : Lk) : Prop where
  s0 : 1 ≤ l.s
  s1 : l.s ≤ 5
  n1 : l.n ≤ 255
  t0 : 0 ≤ l.t
  t1 : l.t ≤ l.n
theorem again_ok {l : Lk} (h : l.Ok) : (again l).1.Ok := by
  obtain ⟨h1, h2, h3, h4, h5⟩ := h
  unfold again
  split
  · constructor <;> dsimp only <;> omega
  · constructor <;> dsimp only <;> omega
theorem on_ok {l : Lk} (h : l.Ok) (e : Ev) : (on l e).1.Ok := by
  have ha := again_ok h
  obtain ⟨h1, h2, h3, h4, h5⟩ := h
  have h6 : l.Ok := ⟨h1, h2, h3, h4, h5⟩
  have h0 : (0 : Int) ≤ l.n := by omega
  unfold on onOpening onUp onClosing onDown
  repeat' split
  all_goals first
    | exact h6
    | exact ha
    | (constructor <;> dsimp only <;> omega)
/-- A new link's N2. -/
def few (n : Int) : Int := min (max n 0) 255
def new (n : Int) : Lk := ⟨1, false, few n, 0⟩
theorem new_ok (n : Int) : (new n).Ok := by unfold new few; constructor <;> dsimp only <;> omega
/-- The values. -/
abbrev av (a : Ac) : Value := .agg #[.int .u8 a.k, .bool a.c, .bool a.p, .int .u8 a.t, .int .u8 a.f]
abbrev lcs (l : Lk) : Array Value := #[.int .u8 l.s, .bool l.li, .int .i64 l.n, .int .i64 l.t]
abbrev aO (a : Ac) (t : TypeId) : Obj := .cells #[.int .u8 a.k, .bool a.c, .bool a.p, .int .u8 a.t, .int .u8 a.f] t (0, 0)
abbrev noA (t : TypeId) : Obj := .cells #[.int .u8 0, .bool false, .bool false, .int .u8 0, .int .u8 0] t (0, 0)
/-- An event as a value of the interface. -/
abbrev evV : Ev → Value
  | .opens => .iface 64 (.agg #[])
  | .closes => .iface 65 (.agg #[])
  | .due => .iface 69 (.agg #[])
  | .sabm p => .iface 76 (.agg #[.bool p])
  | .disc p => .iface 77 (.agg #[.bool p])
  | .ua p => .iface 78 (.agg #[.bool p])
  | .dm p => .iface 79 (.agg #[.bool p])
  | .poll p => .iface 80 (.agg #[.bool p])
  | .noise => .iface 81 (.agg #[])
end Go.Proofs.Ytfflbaiddiahnaa.Lk

/-
  Layer 22, put together: CtlWorks, CtlNoneLaw, PnOpen, MscOpen, Args, MsgsOpen (what each says stands ahead of it). Conditions: as each names them.
-/
import Derived.Test.YtakkhdammmcjcaaDoorB24
import Derived.Test.YtakkhdammmcjcaaDoorRows
import Derived.Test.YtakkhdammmcjcaaDoorB04
import Derived.Test.YtakkhdammmcjcaaDoorB05
import Derived.Test.YtakkhdammmcjcaaDoorB06
import Derived.Test.YtakkhdammmcjcaaDoorB01
import Derived.BigQuiet
import Derived.ProofKit
import Derived.OpenShut
/-
  The chapter's examples hold, of the program's own. No condition.
-/
namespace Go.Proofs.YtakkhdammmcjcaaDoor.Ctl
open Go.RowKit Go.Proofs.YtakkhdammmcjcaaDoor.Base Go.Proofs.YtakkhdammmcjcaaDoor.Mem Go.Proofs.YtakkhdammmcjcaaDoor.Msgs Go.Proofs.YtakkhdammmcjcaaDoor.Cr
set_option maxRecDepth 100000
def P0 : Pn.Pr := ⟨0, 0, 0, 0, 0, 64, 0, 4⟩
def M4 : Ms := ⟨4, true, Pn.zero, Msc.zero, 0, no⟩
def M3 : Ms := ⟨3, true, Pn.zero, Msc.zero, 0, no⟩
def M3r : Ms := ⟨3, false, Pn.zero, Msc.zero, 0, no⟩
def M7 : Ms := ⟨7, false, Pn.zero, Msc.zero, 15, no⟩
def S4 : ByteArray := ⟨#[163, 1, 15, 1]⟩
theorem m4_in : M4.In := ⟨by decide, Pn.zero_in, Msc.zero_in, by decide⟩
def x1 : Ct := (Ct.new P0 2 1).ask M4
def x2 : Ct := x1.next.2
def x3 : Ct := x2.next.2
def x4 : Ct := x3.tick.1
def x5 : Ct := x4.tick.1
def x6 : Ct := x5.next.2
def x7 : Ct := x6.tick.1
def x8 : Ct := x7.tick.1
def x9 : Ct := (x8.hear S4).1
def x10 : Ct := x9.next.2
theorem q1 : askE M4 = 0 := by kernel_rfl
theorem q2 : nv x1.next.1 = .tuple #[.string ⟨#[99, 1]⟩, .int .u8 0, .bool true] := by kernel_rfl
theorem q3 : nv x2.next.1 = .tuple #[.string ⟨#[]⟩, .int .u8 0, .bool false] := by kernel_rfl
theorem q4 : x3.tick.2 = [] := by kernel_rfl
theorem q5 : x4.tick.2 = [] := by kernel_rfl
theorem q6 : nv x5.next.1 = .tuple #[.string ⟨#[99, 1]⟩, .int .u8 0, .bool true] := by kernel_rfl
theorem q7 : x6.tick.2 = [] := by kernel_rfl
theorem q8 : x7.tick.2 = [⟨4, M4⟩] := by kernel_rfl
theorem q9 : (x8.hear S4).2 = [⟨1, M3⟩] := by kernel_rfl
theorem q10 : nv x9.next.1 = .tuple #[.string ⟨#[161, 1]⟩, .int .u8 0, .bool true] := by kernel_rfl
theorem q11 : nv x10.next.1 = .tuple #[.string ⟨#[17, 3, 15]⟩, .int .u8 0, .bool true] := by kernel_rfl
section
variable {ops : Array Oper} {rest : List Oper} {a : Act} {Q : Exit → Act → World → Prop} {d : Option Tmp} {x y : Operand} {ty : TypeId} {pos : String} {af : Array Edge} {w : World} {T z : Nat}
/-- A guarded load of a struct that is wanted. -/
theorem ldzg {g : Option (Nat × Bool)} {b o : Nat} {vs : List Value} (hT : IsRow T z) (h : w.rangeAt b o vs) (hz : vs.length = z) (hg : Region.wanted { dst := d, op := .load T x, type := ty, pos := pos, after := af, guard := g } (yielded ops a.tmps) = true) (hx : a.eval x = .pointer (some ⟨b, o, none⟩)) (k : wpList Tryd.prog ops Q rest (a.put d (.agg vs.toArray)) w) :
    wpList Tryd.prog ops Q ({ dst := d, op := .load T x, type := ty, pos := pos, after := af, guard := g } :: rest) a w :=
  wpList_step fun K hK => by
    rw [if_pos hg]
    obtain ⟨fs, hu⟩ := hT.under
    subst hz
    exact wp_load_mid T x rfl b o hx _ _ h hu rfl hT.size (hK _ _ k)
/-- A guarded build that is wanted. -/
theorem bdBg {g : Option (Nat × Bool)} {parts : Array (Nat × Operand)} {l : List (Nat × Value)} {c : Array Value} (hb : Tryd.prog.built T l = some c) (hg : Region.wanted { dst := d, op := .build T parts, type := ty, pos := pos, after := af, guard := g } (yielded ops a.tmps) = true) (hl : (parts.map fun (i, x) => (i, a.eval x)).toList = l) (k : wpList Tryd.prog ops Q rest (a.put d (.agg c)) w) :
    wpList Tryd.prog ops Q ({ dst := d, op := .build T parts, type := ty, pos := pos, after := af, guard := g } :: rest) a w :=
  wpList_step fun K hK => by
    rw [if_pos hg]
    subst hl
    unfold Oper.wp execOp
    simp only [Sem.run_bind, run_build w T _ c hb, Sem.run_pure, Result.andThen_ok]
    exact hK _ _ k
end
theorem bt4 : Tryd.prog.built MT [(0, .int .u8 4), (1, .bool true)] = some (mc M4) := by kernel_rfl
theorem bt3 : Tryd.prog.built MT [(0, .int .u8 3), (1, .bool true)] = some (mc M3) := by kernel_rfl
theorem eqF4 (w : World) : (binOp .eql GT (.agg (fl ⟨4, M4⟩).toArray) (.agg (fc ⟨4, M4⟩))).run Tryd.prog w = .ok (.bool true) w := by kernel_rfl
theorem eqF3 (w : World) : (binOp .eql GT (.agg (fl ⟨1, M3⟩).toArray) (.agg (fc ⟨1, M3⟩))).run Tryd.prog w = .ok (.bool true) w := by kernel_rfl
theorem own_none {w : World} {base : Nat} {v : Value} (h : OwnS GT 21 fl w base v []) : ∃ o cap, v = .slice o 0 cap := by
  obtain ⟨o, cap, e, _⟩ := row_form h
  exact ⟨o, cap, e⟩
theorem own_one {w : World} {base : Nat} {v : Value} {f : Fa} (h : OwnS GT 21 fl w base v [f]) : ∃ g cap, v = .slice (some ⟨g, 0, none⟩) 1 cap := by
  obtain ⟨o, cap, e, hg⟩ := row_form h
  obtain ⟨g, rfl⟩ := hg 0 (Nat.succ_pos _)
  exact ⟨g, cap, e⟩
set_option maxHeartbeats 4000000 in
theorem works (w : World) (ht : Tab w) : Calls Tryd.prog 6 #[] w fun e w' => e = .returned (.bool true) ∧ Below w.heap.size w w' := by
  have HT := Lib.hid ht
  clear ht
  go_enter Tryd.func6, Tryd.ntmps6
  go_wp2_with fail
  refine (znew P0 2 1 _ HT.out).mono ?_
  rintro _ w1 ⟨c, rfl, h⟩
  have H := Lib.hid h
  clear h
  go_wp2_with fail
  refine (zask H.out M4 m4_in (by decide)).mono ?_
  rw [q1]
  rintro _ w2 ⟨rfl, h, _⟩
  clear H
  have H : Hid (Pz w c _ _ _ _ x1 w2) := Lib.hid h
  clear h
  go_wp2_with fail
  refine (znext H.out).mono ?_
  rw [q2]
  rintro _ w3 ⟨rfl, h, _⟩
  clear H
  have H : Hid (Pz w c _ _ _ _ x2 w3) := Lib.hid h
  clear h
  go_wp2_with fail
  refine (znext H.out).mono ?_
  rw [q3]
  rintro _ w4 ⟨rfl, h, _⟩
  clear H
  have H : Hid (Pz w c _ _ _ _ x3 w4) := Lib.hid h
  clear h
  go_wp2_with fail
  refine (ztick H.out).mono ?_
  rw [q4]
  rintro _ w5 ⟨v, rfl, ho, h, _⟩
  obtain ⟨o1, p1, rfl⟩ := own_none ho
  clear H ho
  have H : Hid (Pz w c _ _ _ _ x4 w5) := Lib.hid h
  clear h
  go_wp2_with fail
  refine (ztick H.out).mono ?_
  rw [q5]
  rintro _ w6 ⟨v, rfl, ho, h, _⟩
  obtain ⟨o2, p2, rfl⟩ := own_none ho
  clear H ho
  have H : Hid (Pz w c _ _ _ _ x5 w6) := Lib.hid h
  clear h
  go_wp2_with fail
  refine (znext H.out).mono ?_
  rw [q6]
  rintro _ w7 ⟨rfl, h, _⟩
  clear H
  have H : Hid (Pz w c _ _ _ _ x6 w7) := Lib.hid h
  clear h
  go_wp2_with fail
  refine (ztick H.out).mono ?_
  rw [q7]
  rintro _ w8 ⟨v, rfl, ho, h, _⟩
  obtain ⟨o3, p3, rfl⟩ := own_none ho
  clear H ho
  have H : Hid (Pz w c _ _ _ _ x7 w8) := Lib.hid h
  clear h
  go_wp2_with fail
  refine (ztick H.out).mono ?_
  rw [q8]
  rintro _ w9 ⟨v, rfl, ho4, h, _⟩
  obtain ⟨g4, p4, rfl⟩ := own_one ho4
  clear H
  have H : Hid (Pz w c _ _ _ _ x8 w9) := Lib.hid h
  clear h
  have H4 := Lib.hid ho4
  clear ho4
  go_wp2_with fail
  refine (zhear H.out S4 (by decide)).mono ?_
  rw [q9]
  rintro _ w10 ⟨v, rfl, ho5, h, k⟩
  obtain ⟨g5, p5, rfl⟩ := own_one ho5
  clear H
  have H : Hid (Pz w c _ _ _ _ x9 w10) := Lib.hid h
  have H5 := Lib.hid ho5
  replace H4 := Lib.hid (k.facts H4.out)
  clear h k ho5
  go_wp2_with fail
  refine (znext H.out).mono ?_
  rw [q10]
  rintro _ w11 ⟨rfl, h, k⟩
  clear H
  have H : Hid (Pz w c _ _ _ _ x10 w11) := Lib.hid h
  replace H4 := Lib.hid (k.facts H4.out)
  replace H5 := Lib.hid (k.facts H5.out)
  clear h k
  go_wp2_with fail
  refine (znext H.out).mono ?_
  rw [q11]
  rintro _ w12 ⟨rfl, h, k⟩
  clear H
  have HB := Lib.hid h.below
  have R4 := Lib.hid (own_rangez fl_len (k.facts H4.out) 0 _ rfl)
  have R5 := Lib.hid (own_rangez fl_len (k.facts H5.out) 0 _ rfl)
  clear h k H4 H5
  have E4 := eqF4
  have E3 := eqF3
  go_wp2_with (first
    | ((with_reducible refine ldzg isG R4.out ?hz ?hg ?hx ?_); (case hz => rfl); (case hg => rfl); (case hx => rfl))
    | ((with_reducible refine ldzg isG R5.out ?hz ?hg ?hx ?_); (case hz => rfl); (case hg => rfl); (case hx => rfl))
    | ((with_reducible refine bdBg (parts := #[(0, Operand.const (Value.int IntKind.u8 4)), (1, Operand.const (Value.bool true))]) bt4 ?hg ?hl ?_); (case hg => rfl); (case hl => kernel_rfl))
    | ((with_reducible refine bdBg (parts := #[(0, Operand.const (Value.int IntKind.u8 3)), (1, Operand.const (Value.bool true))]) bt3 ?hg ?hl ?_); (case hg => rfl); (case hl => kernel_rfl))
    | ((with_reducible refine bdBg (parts := #[(0, Operand.const (Value.int IntKind.u8 4)), (1, Operand.tmp 110)]) (builtG 4 M4) ?hg ?hl ?_); (case hg => rfl); (case hl => kernel_rfl))
    | ((with_reducible refine bdBg (parts := #[(0, Operand.const (Value.int IntKind.u8 1)), (1, Operand.tmp 123)]) (builtG 1 M3) ?hg ?hl ?_); (case hg => rfl); (case hl => kernel_rfl)))
  go_ret
  exact ⟨rfl, HB.out⟩
end Go.Proofs.YtakkhdammmcjcaaDoor.Ctl
/-
  CtlNone answers true whatever came in, and turns nothing that was there. Condition: the table of the types is laid.
-/
namespace Go.Proofs.YtakkhdammmcjcaaDoor.Ctl
open Go.RowKit Go.Proofs.YtakkhdammmcjcaaDoor.Base Go.Proofs.YtakkhdammmcjcaaDoor.Mem Go.Proofs.YtakkhdammmcjcaaDoor.Msgs Go.Proofs.YtakkhdammmcjcaaDoor.Cr
set_option maxRecDepth 100000
theorem has_nil (w : World) : Calls Tryd.prog 18 #[.pointer none] w fun e w' => e = .returned (.bool false) ∧ w = w' := by
  go_enter Tryd.func18, Tryd.ntmps18
  go_wp2
  go_ret
  exact ⟨rfl, rfl⟩
theorem next_nil (w : World) : Calls Tryd.prog 10 #[.pointer none] w fun e w' => e = .returned (.tuple #[.string ⟨#[]⟩, .int .u8 0, .bool false]) ∧ w = w' := by
  have C := Lib.hid has_nil
  go_enter Tryd.func10, Tryd.ntmps10
  go_wp2_with (go_at_call 18; refine (C.out _).mono ?_; rintro _ _ ⟨rfl, rfl⟩)
  go_ret3
  exact ⟨rfl, rfl⟩
theorem waits_nil (w : World) : Calls Tryd.prog 12 #[.pointer none] w fun e w' => e = .returned (.tuple #[.int .i64 0, .int .i64 0]) ∧ w = w' := by
  go_enter Tryd.func12, Tryd.ntmps12
  go_wp2
  go_ret2
  exact ⟨rfl, rfl⟩
theorem hear_nil (s : ByteArray) (w : World) : Calls Tryd.prog 11 #[.pointer none, .string s] w fun e w' => e = .returned (.slice none 0 0) ∧ w = w' := by
  go_enter Tryd.func11, Tryd.ntmps11
  go_wp2
  go_ret
  exact ⟨rfl, rfl⟩
theorem tick_nil (w : World) : Calls Tryd.prog 17 #[.pointer none] w fun e w' => e = .returned (.slice none 0 0) ∧ w = w' := by
  go_enter Tryd.func17, Tryd.ntmps17
  go_wp2
  go_ret
  exact ⟨rfl, rfl⟩
theorem ask_nil (m : Ms) (w : World) : Calls Tryd.prog 8 #[.pointer none, mv m] w fun e w' => e = .returned (.int .i64 1) ∧ Below w.heap.size w w' := by
  go_enter Tryd.func8, Tryd.ntmps8
  go_wp2_with ((with_reducible refine bxm (m := m) ?hx ?_); (case hx => rfl); intro b w1 h1 F1; have HB := Lib.hid F1.below; clear h1 F1)
  go_ret
  exact ⟨rfl, HB.out⟩
end Go.Proofs.YtakkhdammmcjcaaDoor.Ctl
namespace Go.Proofs.YtakkhdammmcjcaaDoor.ctlNone
open Go.RowKit Go.Proofs.YtakkhdammmcjcaaDoor.Base Go.Proofs.YtakkhdammmcjcaaDoor.Mem Go.Proofs.YtakkhdammmcjcaaDoor.Msgs Go.Proofs.YtakkhdammmcjcaaDoor.Cr Go.Proofs.YtakkhdammmcjcaaDoor.Ctl
set_option maxRecDepth 100000
set_option maxHeartbeats 4000000 in
theorem law (m : Ms) (_ : m.In) (s : ByteArray) (_ : s.size ≤ maxLen) (w : World) (ht : Tab w) :
    Calls Tryd.prog 5 #[mv m, .string s] w fun e w' => e = .returned (.bool true) ∧ Below w.heap.size w w' := by
  have HT := Lib.hid ht
  clear ht
  have CW := Lib.hid (fun (u : World) hu => works u hu)
  have C1 := Lib.hid next_nil
  have C2 := Lib.hid waits_nil
  have C3 := Lib.hid has_nil
  have C4 := Lib.hid (ask_nil m)
  have C5 := Lib.hid (hear_nil s)
  have C6 := Lib.hid tick_nil
  by_cases h1 : 130 < m.b.size
  · have t1 : decide ((130 : Int) < (m.b.size : Int)) = true := decide_eq_true (by omega)
    have t2 : (130 : Int) < (m.b.size : Int) := by omega
    clear h1
    go_enter Tryd.func5, Tryd.ntmps5
    go_wp2_with (first
      | ((with_reducible refine bxm (m := m) ?hx ?_); (case hx => rfl); intro b w1 h1 F1; have HB := Lib.hid F1.below; have HT1 := Lib.hid (tab_below HT.out F1.below); obtain ⟨c0, c1, c2, c3, c4, c5⟩ := lay h1; clear h1 F1)
      | (go_at_call 6; refine (CW.out _ HT1.out).mono ?_; rintro _ w2 ⟨rfl, hb⟩; have HB2 := Lib.hid (below_on HB.out hb); clear hb))
    go_ret
    exact ⟨rfl, HB2.out⟩
  have t1 : decide ((130 : Int) < (m.b.size : Int)) = false := decide_eq_false (by omega)
  have t2 : ¬ (130 : Int) < (m.b.size : Int) := by omega
  by_cases h2 : 130 < s.size
  · have u1 : decide ((130 : Int) < (s.size : Int)) = true := decide_eq_true (by omega)
    have u2 : (130 : Int) < (s.size : Int) := by omega
    clear h1 h2
    go_enter Tryd.func5, Tryd.ntmps5
    go_wp2_with (first
      | ((with_reducible refine bxm (m := m) ?hx ?_); (case hx => rfl); intro b w1 h1 F1; have HB := Lib.hid F1.below; have HT1 := Lib.hid (tab_below HT.out F1.below); obtain ⟨c0, c1, c2, c3, c4, c5⟩ := lay h1; clear h1 F1)
      | (go_at_call 6; refine (CW.out _ HT1.out).mono ?_; rintro _ w2 ⟨rfl, hb⟩; have HB2 := Lib.hid (below_on HB.out hb); clear hb))
    go_ret
    exact ⟨rfl, HB2.out⟩
  have u1 : decide ((130 : Int) < (s.size : Int)) = false := decide_eq_false (by omega)
  have u2 : ¬ (130 : Int) < (s.size : Int) := by omega
  clear h1 h2
  go_enter Tryd.func5, Tryd.ntmps5
  go_wp2_with (first
    | ((with_reducible refine bxm (m := m) ?hx ?_); (case hx => rfl); intro b w1 h1 F1; have HB := Lib.hid F1.below; have HM := Lib.hid h1; have HT1 := Lib.hid (tab_below HT.out F1.below); obtain ⟨c0, c1, c2, c3, c4, c5⟩ := lay h1; clear h1 F1)
    | (go_at_call 10; refine (C1.out _).mono ?_; rintro _ _ ⟨rfl, rfl⟩)
    | (go_at_call 12; refine (C2.out _).mono ?_; rintro _ _ ⟨rfl, rfl⟩)
    | (go_at_call 18; refine (C3.out _).mono ?_; rintro _ _ ⟨rfl, rfl⟩)
    | ((with_reducible refine ldmg isM HM.out ?hg ?hx ?_); (case hg => rfl); (case hx => rfl))
    | (go_at_call 8; refine (C4.out _).mono ?_; rintro _ w2 ⟨rfl, hb⟩; have HB2 := Lib.hid (below_on HB.out hb); have HT2 := Lib.hid (tab_below HT1.out hb); clear hb c0 c1 c2 c3 c4 c5)
    | (go_at_call 11; refine (C5.out _).mono ?_; rintro _ _ ⟨rfl, rfl⟩)
    | (go_at_call 17; refine (C6.out _).mono ?_; rintro _ _ ⟨rfl, rfl⟩)
    | (go_at_call 6; refine (CW.out _ HT2.out).mono ?_; rintro _ w3 ⟨rfl, hb⟩; have HB3 := Lib.hid (below_on HB2.out hb); clear hb))
  go_ret
  exact ⟨rfl, HB3.out⟩
end Go.Proofs.YtakkhdammmcjcaaDoor.ctlNone
/-
  Parameters that came in as an argument, opened to their parts and shut again. No condition of its own.
-/
namespace Go.Proofs.YtakkhdammmcjcaaDoor.Pn
set_option maxRecDepth 20000
open Go.ChangeShapes Go.WideShapes Go.ChangeAt Go.ChangeMaps Go.RowKit
/-- The datum. -/
abbrev pd {H : Type} (p : Pr) : DataW H := .agg [.lit (.int .u8 p.d), .lit (.int .u8 p.f), .lit (.int .u8 p.c), .lit (.int .u8 p.r), .lit (.int .i64 p.t), .lit (.int .i64 p.n), .lit (.int .i64 p.z), .lit (.int .i64 p.k)]
/-- Its numbers are Go's. -/
structure Pr.Wf (p : Pr) : Prop where
  d : (Lit.int .u8 p.d).wf = true
  f : (Lit.int .u8 p.f).wf = true
  c : (Lit.int .u8 p.c).wf = true
  r : (Lit.int .u8 p.r).wf = true
  t : (Lit.int .i64 p.t).wf = true
  n : (Lit.int .i64 p.n).wf = true
  z : (Lit.int .i64 p.z).wf = true
  k : (Lit.int .i64 p.k).wf = true
theorem cellsP : Tryd.prog.cellsOf 23 = 8 := by kernel_rfl
theorem cellsU : Tryd.prog.cellsOf 5 = 1 := by kernel_rfl
theorem cellsI : Tryd.prog.cellsOf 3 = 1 := by kernel_rfl
section
variable {H : Type} {enc : TypeId × Value → H} {w : World} {base : Nat} {spare : Nat → Bool} {held : Bool}
theorem open_params {r : Reach} {b0 : Nat} {v : Value} {d : DataW H} {p : List MemPlace} (hv : Value.okWide Tryd.prog w r b0 23 v) (h : DataW.Trod enc Tryd.prog w base spare held 23 v d p) :
    ∃ q : Pr, v = pv q ∧ d = pd q ∧ p = [] ∧ q.In ∧ q.Wf := by
  obtain ⟨⟨cs⟩, rfl, hz⟩ := okWide_struct Tryd.underlying23 hv
  rw [cellsP] at hz
  obtain ⟨fuel, hf⟩ := h
  obtain ⟨ys, n, _, hx, _, hlen, hg⟩ := DataW.trod_struct Tryd.underlying23 hf
  match cs, hz, ys, hlen with
  | [c0, c1, c2, c3, c4, c5, c6, c7], _, [y0, y1, y2, y3, y4, y5, y6, y7], _ =>
    have g0 : DataW.trod enc Tryd.prog w base spare held n 5 ((([c0, c1, c2, c3, c4, c5, c6, c7] : List Value).drop 0).take (Tryd.prog.cellsOf 5)) = some y0 := hg 0 _ rfl
    rw [cellsU] at g0
    have g1 : DataW.trod enc Tryd.prog w base spare held n 5 ((([c0, c1, c2, c3, c4, c5, c6, c7] : List Value).drop 1).take (Tryd.prog.cellsOf 5)) = some y1 := hg 1 _ rfl
    rw [cellsU] at g1
    have g2 : DataW.trod enc Tryd.prog w base spare held n 5 ((([c0, c1, c2, c3, c4, c5, c6, c7] : List Value).drop 2).take (Tryd.prog.cellsOf 5)) = some y2 := hg 2 _ rfl
    rw [cellsU] at g2
    have g3 : DataW.trod enc Tryd.prog w base spare held n 5 ((([c0, c1, c2, c3, c4, c5, c6, c7] : List Value).drop 3).take (Tryd.prog.cellsOf 5)) = some y3 := hg 3 _ rfl
    rw [cellsU] at g3
    have g4 : DataW.trod enc Tryd.prog w base spare held n 3 ((([c0, c1, c2, c3, c4, c5, c6, c7] : List Value).drop 4).take (Tryd.prog.cellsOf 3)) = some y4 := hg 4 _ rfl
    rw [cellsI] at g4
    have g5 : DataW.trod enc Tryd.prog w base spare held n 3 ((([c0, c1, c2, c3, c4, c5, c6, c7] : List Value).drop 5).take (Tryd.prog.cellsOf 3)) = some y5 := hg 5 _ rfl
    rw [cellsI] at g5
    have g6 : DataW.trod enc Tryd.prog w base spare held n 3 ((([c0, c1, c2, c3, c4, c5, c6, c7] : List Value).drop 6).take (Tryd.prog.cellsOf 3)) = some y6 := hg 6 _ rfl
    rw [cellsI] at g6
    have g7 : DataW.trod enc Tryd.prog w base spare held n 3 ((([c0, c1, c2, c3, c4, c5, c6, c7] : List Value).drop 7).take (Tryd.prog.cellsOf 3)) = some y7 := hg 7 _ rfl
    rw [cellsI] at g7
    obtain ⟨n0, e0, rfl, k0⟩ := DataW.trod_int Tryd.underlying5 g0
    obtain ⟨n1, e1, rfl, k1⟩ := DataW.trod_int Tryd.underlying5 g1
    obtain ⟨n2, e2, rfl, k2⟩ := DataW.trod_int Tryd.underlying5 g2
    obtain ⟨n3, e3, rfl, k3⟩ := DataW.trod_int Tryd.underlying5 g3
    obtain ⟨n4, e4, rfl, k4⟩ := DataW.trod_int Tryd.underlying3 g4
    obtain ⟨n5, e5, rfl, k5⟩ := DataW.trod_int Tryd.underlying3 g5
    obtain ⟨n6, e6, rfl, k6⟩ := DataW.trod_int Tryd.underlying3 g6
    obtain ⟨n7, e7, rfl, k7⟩ := DataW.trod_int Tryd.underlying3 g7
    obtain rfl : c0 = _ := List.head_eq_of_cons_eq e0
    obtain rfl : c1 = _ := List.head_eq_of_cons_eq e1
    obtain rfl : c2 = _ := List.head_eq_of_cons_eq e2
    obtain rfl : c3 = _ := List.head_eq_of_cons_eq e3
    obtain rfl : c4 = _ := List.head_eq_of_cons_eq e4
    obtain rfl : c5 = _ := List.head_eq_of_cons_eq e5
    obtain rfl : c6 = _ := List.head_eq_of_cons_eq e6
    obtain rfl : c7 = _ := List.head_eq_of_cons_eq e7
    obtain ⟨m0, r0, l0⟩ := Base.wf_u8 k0
    obtain ⟨m1, r1, l1⟩ := Base.wf_u8 k1
    obtain ⟨m2, r2, l2⟩ := Base.wf_u8 k2
    obtain ⟨m3, r3, l3⟩ := Base.wf_u8 k3
    simp only [Prod.mk.injEq] at hx
    exact ⟨⟨n0, n1, n2, n3, n4, n5, n6, n7⟩, rfl, hx.1, hx.2, ⟨by show 0 ≤ n0 ∧ n0 < 256; omega, by show 0 ≤ n1 ∧ n1 < 256; omega, by show 0 ≤ n2 ∧ n2 < 256; omega, by show 0 ≤ n3 ∧ n3 < 256; omega⟩, ⟨k0, k1, k2, k3, k4, k5, k6, k7⟩⟩
theorem shut_params (p : Pr) (h : p.Wf) : DataW.Trod enc Tryd.prog w base spare held 23 (pv p) (pd p) [] := by
  refine ⟨3, ?_⟩
  obtain ⟨h0, h1, h2, h3, h4, h5, h6, h7⟩ := h
  simp [DataW.trod, Value.cells, Tryd.underlying23, Tryd.underlying5, Tryd.underlying3, cellsP, cellsU, cellsI, h0, h1, h2, h3, h4, h5, h6, h7]
end
end Go.Proofs.YtakkhdammmcjcaaDoor.Pn
/-
  A status that came in as an argument, opened to its parts and shut again. No condition of its own.
-/
namespace Go.Proofs.YtakkhdammmcjcaaDoor.Msc
set_option maxRecDepth 20000
open Go.ChangeShapes Go.WideShapes Go.ChangeAt Go.ChangeMaps Go.RowKit
/-- The datum. -/
abbrev sd {H : Type} (s : St) : DataW H := .agg [.lit (.int .u8 (s.d : Int)), .lit (.bool s.f), .lit (.bool s.c), .lit (.bool s.r), .lit (.bool s.i), .lit (.bool s.v), .lit (.bool s.b), .lit (.int .u8 (s.k : Int))]
/-- Its numbers are Go's. -/
structure St.Wf (s : St) : Prop where
  d : (Lit.int .u8 (s.d : Int)).wf = true
  k : (Lit.int .u8 (s.k : Int)).wf = true
theorem cellsS : Tryd.prog.cellsOf 33 = 8 := by kernel_rfl
theorem cells_u8 : Tryd.prog.cellsOf 5 = 1 := by kernel_rfl
theorem cells_bool : Tryd.prog.cellsOf 4 = 1 := by kernel_rfl
section
variable {H : Type} {enc : TypeId × Value → H} {w : World} {base : Nat} {spare : Nat → Bool} {held : Bool}
theorem open_status {r : Reach} {b0 : Nat} {v : Value} {d : DataW H} {p : List MemPlace} (hv : Value.okWide Tryd.prog w r b0 33 v) (h : DataW.Trod enc Tryd.prog w base spare held 33 v d p) :
    ∃ q : St, v = sv q ∧ d = sd q ∧ p = [] ∧ q.In ∧ q.Wf := by
  obtain ⟨⟨cs⟩, rfl, hz⟩ := okWide_struct Tryd.underlying33 hv
  rw [cellsS] at hz
  obtain ⟨fuel, hf⟩ := h
  obtain ⟨ys, n, _, hx, _, hlen, hg⟩ := DataW.trod_struct Tryd.underlying33 hf
  match cs, hz, ys, hlen with
  | [c0, c1, c2, c3, c4, c5, c6, c7], _, [y0, y1, y2, y3, y4, y5, y6, y7], _ =>
    have g0 : DataW.trod enc Tryd.prog w base spare held n 5 ((([c0, c1, c2, c3, c4, c5, c6, c7] : List Value).drop 0).take (Tryd.prog.cellsOf 5)) = some y0 := hg 0 _ rfl
    rw [cells_u8] at g0
    have g1 : DataW.trod enc Tryd.prog w base spare held n 4 ((([c0, c1, c2, c3, c4, c5, c6, c7] : List Value).drop 1).take (Tryd.prog.cellsOf 4)) = some y1 := hg 1 _ rfl
    rw [cells_bool] at g1
    have g2 : DataW.trod enc Tryd.prog w base spare held n 4 ((([c0, c1, c2, c3, c4, c5, c6, c7] : List Value).drop 2).take (Tryd.prog.cellsOf 4)) = some y2 := hg 2 _ rfl
    rw [cells_bool] at g2
    have g3 : DataW.trod enc Tryd.prog w base spare held n 4 ((([c0, c1, c2, c3, c4, c5, c6, c7] : List Value).drop 3).take (Tryd.prog.cellsOf 4)) = some y3 := hg 3 _ rfl
    rw [cells_bool] at g3
    have g4 : DataW.trod enc Tryd.prog w base spare held n 4 ((([c0, c1, c2, c3, c4, c5, c6, c7] : List Value).drop 4).take (Tryd.prog.cellsOf 4)) = some y4 := hg 4 _ rfl
    rw [cells_bool] at g4
    have g5 : DataW.trod enc Tryd.prog w base spare held n 4 ((([c0, c1, c2, c3, c4, c5, c6, c7] : List Value).drop 5).take (Tryd.prog.cellsOf 4)) = some y5 := hg 5 _ rfl
    rw [cells_bool] at g5
    have g6 : DataW.trod enc Tryd.prog w base spare held n 4 ((([c0, c1, c2, c3, c4, c5, c6, c7] : List Value).drop 6).take (Tryd.prog.cellsOf 4)) = some y6 := hg 6 _ rfl
    rw [cells_bool] at g6
    have g7 : DataW.trod enc Tryd.prog w base spare held n 5 ((([c0, c1, c2, c3, c4, c5, c6, c7] : List Value).drop 7).take (Tryd.prog.cellsOf 5)) = some y7 := hg 7 _ rfl
    rw [cells_u8] at g7
    obtain ⟨n0, e0, rfl, k0⟩ := DataW.trod_int Tryd.underlying5 g0
    obtain ⟨n1, e1, rfl⟩ := DataW.trod_bool Tryd.underlying4 g1
    obtain ⟨n2, e2, rfl⟩ := DataW.trod_bool Tryd.underlying4 g2
    obtain ⟨n3, e3, rfl⟩ := DataW.trod_bool Tryd.underlying4 g3
    obtain ⟨n4, e4, rfl⟩ := DataW.trod_bool Tryd.underlying4 g4
    obtain ⟨n5, e5, rfl⟩ := DataW.trod_bool Tryd.underlying4 g5
    obtain ⟨n6, e6, rfl⟩ := DataW.trod_bool Tryd.underlying4 g6
    obtain ⟨n7, e7, rfl, k7⟩ := DataW.trod_int Tryd.underlying5 g7
    obtain rfl : c0 = _ := List.head_eq_of_cons_eq e0
    obtain rfl : c1 = _ := List.head_eq_of_cons_eq e1
    obtain rfl : c2 = _ := List.head_eq_of_cons_eq e2
    obtain rfl : c3 = _ := List.head_eq_of_cons_eq e3
    obtain rfl : c4 = _ := List.head_eq_of_cons_eq e4
    obtain rfl : c5 = _ := List.head_eq_of_cons_eq e5
    obtain rfl : c6 = _ := List.head_eq_of_cons_eq e6
    obtain rfl : c7 = _ := List.head_eq_of_cons_eq e7
    obtain ⟨m0, rfl, l0⟩ := Base.wf_u8 k0
    obtain ⟨m7, rfl, l7⟩ := Base.wf_u8 k7
    simp only [Prod.mk.injEq] at hx
    exact ⟨⟨m0, n1, n2, n3, n4, n5, n6, m7⟩, rfl, hx.1, hx.2, ⟨l0, l7⟩, ⟨k0, k7⟩⟩
theorem shut_status (s : St) (h : s.Wf) : DataW.Trod enc Tryd.prog w base spare held 33 (sv s) (sd s) [] := by
  refine ⟨3, ?_⟩
  obtain ⟨h0, h7⟩ := h
  simp [DataW.trod, Value.cells, Tryd.underlying33, Tryd.underlying5, Tryd.underlying4, cellsS, cells_u8, cells_bool, h0, h7]
end
end Go.Proofs.YtakkhdammmcjcaaDoor.Msc
/-
  A slice of values of one type that came in as an argument, opened at every index, whatever the type. Condition: how one element is opened.
-/
namespace Go.Proofs.YtakkhdammmcjcaaDoor.Mem
set_option maxRecDepth 20000
open Go.ChangeShapes Go.WideShapes Go.ChangeAt Go.ChangeMaps Go.RowKit Go.Deep
theorem cellsU : Tryd.prog.cellsOf 5 = 1 := by kernel_rfl
theorem cellsB : Tryd.prog.cellsOf 4 = 1 := by kernel_rfl
theorem cellsS : Tryd.prog.cellsOf 9 = 1 := by kernel_rfl
theorem cellsI : Tryd.prog.cellsOf 3 = 1 := by kernel_rfl
theorem open_any {H : Type} {enc : TypeId × Value → H} {α : Type} {E S z : Nat} {fc : α → List Value} {P : α → Prop} {w : World} (hu : Tryd.prog.underlying S = some (.slice E)) (hc : Tryd.prog.cellsOf E = z) (hz : 0 < z) (hl : ∀ x, (fc x).length = z) (a0 : α)
    (h1 : ∀ (n : Nat) (cs : List Value) (x : DataW H × List MemPlace), cs.length = z → DataW.trod enc Tryd.prog w 0 (fun _ => true) true n E cs = some x → ∃ a : α, cs = fc a ∧ P a)
    {r : Reach} {b0 : Nat} {v : Value} {d : DataW H} {p : List MemPlace} (hv : Value.okWide Tryd.prog w r b0 S v) (h : DataW.Trod enc Tryd.prog w 0 (fun _ => true) true S v d p) :
    ∃ (oa : Option Addr) (n cap : Nat) (F : Nat → α), v = .slice oa n cap ∧ n ≤ maxLen ∧ ArgS z fc P w oa n F := by
  obtain ⟨oa, n, cap, rfl⟩ := okWide_slice hu hv
  obtain ⟨fuel, hf⟩ := h
  rcases open_slice hu hf with ⟨e, _⟩ | ⟨a, len, cap', m, n', D, Pl, e, hb, hle, hm, hmm, _, hx⟩
  · simp only [Value.cells, List.cons.injEq, and_true] at e
    injection e with e1 e2 e3
    subst e1 e2 e3
    exact ⟨none, 0, 0, fun _ => a0, rfl, Nat.zero_le _, fun h => absurd h (by decide), fun k hk => absurd hk (by omega), fun a h => by cases h⟩
  · simp only [Value.cells, List.cons.injEq, and_true] at e
    injection e with e1 e2 e3
    subst e1 e2 e3
    have hnm : n ≤ m := by rw [hmm]; simp; omega
    rw [hc] at hx
    haveI : Inhabited α := ⟨a0⟩
    obtain ⟨F, hF⟩ := choose_lt (α := α) (p := fun i f => P f ∧ ∀ j, j < z → w.cell? ((a.add (i * z)).add j) = (fc f)[j]?) (fun i hi => by
      obtain ⟨cs', g1, g2⟩ := hx i hi
      obtain ⟨_, hz', hc'⟩ := World.cells?_some g1
      obtain ⟨f, rfl, f1⟩ := h1 _ _ _ hz' g2
      exact ⟨f, f1, fun j hj => hc' j hj⟩)
    refine ⟨some a, n, cap, F, rfl, Nat.le_trans hle hm, fun h0 => ⟨a, rfl, ?_⟩, fun k hk => (hF k (by omega)).1, fun a' e k hk j hj => ?_⟩
    · have h7 := (hF 0 (by omega)).2 0 hz
      rw [List.getElem?_eq_getElem (by rw [hl]; exact hz)] at h7
      have := World.block_lt_of_cell? w _ h7
      rw [add_block, add_block] at this
      exact this
    · injection e with e
      subst e
      exact (hF k (by omega)).2 j hj
end Go.Proofs.YtakkhdammmcjcaaDoor.Mem
/-
  A message that came in as an argument, opened to its parts and shut again; a slice of messages, opened at every index. No condition of its own.
-/
namespace Go.Proofs.YtakkhdammmcjcaaDoor.Msgs
open Go.ChangeShapes Go.WideShapes Go.ChangeAt Go.ChangeMaps Go.RowKit Go.Proofs.YtakkhdammmcjcaaDoor.Mem
set_option maxRecDepth 20000
/-- The datum. -/
abbrev md {H : Type} (m : Ms) : DataW H := .agg [.lit (.int .u8 (m.k : Int)), .lit (.bool m.c), Pn.pd m.p, Msc.sd m.s, .lit (.int .u8 (m.t : Int)), .lit (.string m.b.data.toList)]
/-- Its numbers are Go's. -/
structure Ms.Wf (m : Ms) : Prop where
  k : (Lit.int .u8 (m.k : Int)).wf = true
  p : m.p.Wf
  s : m.s.Wf
  t : (Lit.int .u8 (m.t : Int)).wf = true
  b : m.b.size ≤ maxLen
theorem cellsM : Tryd.prog.cellsOf 35 = 20 := by kernel_rfl
section
variable {H : Type} {enc : TypeId × Value → H} {w : World} {base : Nat} {spare : Nat → Bool} {held : Bool}
theorem open_p {n : Nat} {cs : List Value} {x : DataW H × List MemPlace} (hz : cs.length = 8) (hf : DataW.trod enc Tryd.prog w base spare held n 23 cs = some x) :
    ∃ q : Pn.Pr, cs = [.int .u8 q.d, .int .u8 q.f, .int .u8 q.c, .int .u8 q.r, .int .i64 q.t, .int .i64 q.n, .int .i64 q.z, .int .i64 q.k] ∧ x = (Pn.pd q, []) ∧ q.In ∧ q.Wf := by
  obtain ⟨ys, n, _, hx, _, hlen, hg⟩ := DataW.trod_struct Tryd.underlying23 hf
  match cs, hz, ys, hlen with
  | [c0, c1, c2, c3, c4, c5, c6, c7], _, [y0, y1, y2, y3, y4, y5, y6, y7], _ =>
    have g0 : DataW.trod enc Tryd.prog w base spare held n 5 ((([c0, c1, c2, c3, c4, c5, c6, c7] : List Value).drop 0).take (Tryd.prog.cellsOf 5)) = some y0 := hg 0 _ rfl
    rw [cellsU] at g0
    have g1 : DataW.trod enc Tryd.prog w base spare held n 5 ((([c0, c1, c2, c3, c4, c5, c6, c7] : List Value).drop 1).take (Tryd.prog.cellsOf 5)) = some y1 := hg 1 _ rfl
    rw [cellsU] at g1
    have g2 : DataW.trod enc Tryd.prog w base spare held n 5 ((([c0, c1, c2, c3, c4, c5, c6, c7] : List Value).drop 2).take (Tryd.prog.cellsOf 5)) = some y2 := hg 2 _ rfl
    rw [cellsU] at g2
    have g3 : DataW.trod enc Tryd.prog w base spare held n 5 ((([c0, c1, c2, c3, c4, c5, c6, c7] : List Value).drop 3).take (Tryd.prog.cellsOf 5)) = some y3 := hg 3 _ rfl
    rw [cellsU] at g3
    have g4 : DataW.trod enc Tryd.prog w base spare held n 3 ((([c0, c1, c2, c3, c4, c5, c6, c7] : List Value).drop 4).take (Tryd.prog.cellsOf 3)) = some y4 := hg 4 _ rfl
    rw [cellsI] at g4
    have g5 : DataW.trod enc Tryd.prog w base spare held n 3 ((([c0, c1, c2, c3, c4, c5, c6, c7] : List Value).drop 5).take (Tryd.prog.cellsOf 3)) = some y5 := hg 5 _ rfl
    rw [cellsI] at g5
    have g6 : DataW.trod enc Tryd.prog w base spare held n 3 ((([c0, c1, c2, c3, c4, c5, c6, c7] : List Value).drop 6).take (Tryd.prog.cellsOf 3)) = some y6 := hg 6 _ rfl
    rw [cellsI] at g6
    have g7 : DataW.trod enc Tryd.prog w base spare held n 3 ((([c0, c1, c2, c3, c4, c5, c6, c7] : List Value).drop 7).take (Tryd.prog.cellsOf 3)) = some y7 := hg 7 _ rfl
    rw [cellsI] at g7
    obtain ⟨n0, e0, rfl, k0⟩ := DataW.trod_int Tryd.underlying5 g0
    obtain ⟨n1, e1, rfl, k1⟩ := DataW.trod_int Tryd.underlying5 g1
    obtain ⟨n2, e2, rfl, k2⟩ := DataW.trod_int Tryd.underlying5 g2
    obtain ⟨n3, e3, rfl, k3⟩ := DataW.trod_int Tryd.underlying5 g3
    obtain ⟨n4, e4, rfl, k4⟩ := DataW.trod_int Tryd.underlying3 g4
    obtain ⟨n5, e5, rfl, k5⟩ := DataW.trod_int Tryd.underlying3 g5
    obtain ⟨n6, e6, rfl, k6⟩ := DataW.trod_int Tryd.underlying3 g6
    obtain ⟨n7, e7, rfl, k7⟩ := DataW.trod_int Tryd.underlying3 g7
    obtain rfl : c0 = _ := List.head_eq_of_cons_eq e0
    obtain rfl : c1 = _ := List.head_eq_of_cons_eq e1
    obtain rfl : c2 = _ := List.head_eq_of_cons_eq e2
    obtain rfl : c3 = _ := List.head_eq_of_cons_eq e3
    obtain rfl : c4 = _ := List.head_eq_of_cons_eq e4
    obtain rfl : c5 = _ := List.head_eq_of_cons_eq e5
    obtain rfl : c6 = _ := List.head_eq_of_cons_eq e6
    obtain rfl : c7 = _ := List.head_eq_of_cons_eq e7
    obtain ⟨m0, r0, l0⟩ := Base.wf_u8 k0
    obtain ⟨m1, r1, l1⟩ := Base.wf_u8 k1
    obtain ⟨m2, r2, l2⟩ := Base.wf_u8 k2
    obtain ⟨m3, r3, l3⟩ := Base.wf_u8 k3
    exact ⟨⟨n0, n1, n2, n3, n4, n5, n6, n7⟩, rfl, hx, ⟨by show 0 ≤ n0 ∧ n0 < 256; omega, by show 0 ≤ n1 ∧ n1 < 256; omega, by show 0 ≤ n2 ∧ n2 < 256; omega, by show 0 ≤ n3 ∧ n3 < 256; omega⟩, ⟨k0, k1, k2, k3, k4, k5, k6, k7⟩⟩
theorem open_s {n : Nat} {cs : List Value} {x : DataW H × List MemPlace} (hz : cs.length = 8) (hf : DataW.trod enc Tryd.prog w base spare held n 33 cs = some x) :
    ∃ q : Msc.St, cs = [.int .u8 (q.d : Int), .bool q.f, .bool q.c, .bool q.r, .bool q.i, .bool q.v, .bool q.b, .int .u8 (q.k : Int)] ∧ x = (Msc.sd q, []) ∧ q.In ∧ q.Wf := by
  obtain ⟨ys, n, _, hx, _, hlen, hg⟩ := DataW.trod_struct Tryd.underlying33 hf
  match cs, hz, ys, hlen with
  | [c0, c1, c2, c3, c4, c5, c6, c7], _, [y0, y1, y2, y3, y4, y5, y6, y7], _ =>
    have g0 : DataW.trod enc Tryd.prog w base spare held n 5 ((([c0, c1, c2, c3, c4, c5, c6, c7] : List Value).drop 0).take (Tryd.prog.cellsOf 5)) = some y0 := hg 0 _ rfl
    rw [cellsU] at g0
    have g1 : DataW.trod enc Tryd.prog w base spare held n 4 ((([c0, c1, c2, c3, c4, c5, c6, c7] : List Value).drop 1).take (Tryd.prog.cellsOf 4)) = some y1 := hg 1 _ rfl
    rw [cellsB] at g1
    have g2 : DataW.trod enc Tryd.prog w base spare held n 4 ((([c0, c1, c2, c3, c4, c5, c6, c7] : List Value).drop 2).take (Tryd.prog.cellsOf 4)) = some y2 := hg 2 _ rfl
    rw [cellsB] at g2
    have g3 : DataW.trod enc Tryd.prog w base spare held n 4 ((([c0, c1, c2, c3, c4, c5, c6, c7] : List Value).drop 3).take (Tryd.prog.cellsOf 4)) = some y3 := hg 3 _ rfl
    rw [cellsB] at g3
    have g4 : DataW.trod enc Tryd.prog w base spare held n 4 ((([c0, c1, c2, c3, c4, c5, c6, c7] : List Value).drop 4).take (Tryd.prog.cellsOf 4)) = some y4 := hg 4 _ rfl
    rw [cellsB] at g4
    have g5 : DataW.trod enc Tryd.prog w base spare held n 4 ((([c0, c1, c2, c3, c4, c5, c6, c7] : List Value).drop 5).take (Tryd.prog.cellsOf 4)) = some y5 := hg 5 _ rfl
    rw [cellsB] at g5
    have g6 : DataW.trod enc Tryd.prog w base spare held n 4 ((([c0, c1, c2, c3, c4, c5, c6, c7] : List Value).drop 6).take (Tryd.prog.cellsOf 4)) = some y6 := hg 6 _ rfl
    rw [cellsB] at g6
    have g7 : DataW.trod enc Tryd.prog w base spare held n 5 ((([c0, c1, c2, c3, c4, c5, c6, c7] : List Value).drop 7).take (Tryd.prog.cellsOf 5)) = some y7 := hg 7 _ rfl
    rw [cellsU] at g7
    obtain ⟨n0, e0, rfl, k0⟩ := DataW.trod_int Tryd.underlying5 g0
    obtain ⟨n1, e1, rfl⟩ := DataW.trod_bool Tryd.underlying4 g1
    obtain ⟨n2, e2, rfl⟩ := DataW.trod_bool Tryd.underlying4 g2
    obtain ⟨n3, e3, rfl⟩ := DataW.trod_bool Tryd.underlying4 g3
    obtain ⟨n4, e4, rfl⟩ := DataW.trod_bool Tryd.underlying4 g4
    obtain ⟨n5, e5, rfl⟩ := DataW.trod_bool Tryd.underlying4 g5
    obtain ⟨n6, e6, rfl⟩ := DataW.trod_bool Tryd.underlying4 g6
    obtain ⟨n7, e7, rfl, k7⟩ := DataW.trod_int Tryd.underlying5 g7
    obtain rfl : c0 = _ := List.head_eq_of_cons_eq e0
    obtain rfl : c1 = _ := List.head_eq_of_cons_eq e1
    obtain rfl : c2 = _ := List.head_eq_of_cons_eq e2
    obtain rfl : c3 = _ := List.head_eq_of_cons_eq e3
    obtain rfl : c4 = _ := List.head_eq_of_cons_eq e4
    obtain rfl : c5 = _ := List.head_eq_of_cons_eq e5
    obtain rfl : c6 = _ := List.head_eq_of_cons_eq e6
    obtain rfl : c7 = _ := List.head_eq_of_cons_eq e7
    obtain ⟨m0, rfl, l0⟩ := Base.wf_u8 k0
    obtain ⟨m7, rfl, l7⟩ := Base.wf_u8 k7
    exact ⟨⟨m0, n1, n2, n3, n4, n5, n6, m7⟩, rfl, hx, ⟨l0, l7⟩, ⟨k0, k7⟩⟩
theorem open_m {n : Nat} {cs : List Value} {x : DataW H × List MemPlace} (hz : cs.length = 20) (hf : DataW.trod enc Tryd.prog w base spare held n 35 cs = some x) :
    ∃ m : Ms, cs = ml m ∧ x = (md m, []) ∧ m.In ∧ m.Wf := by
  obtain ⟨ys, n, _, hx, _, hlen, hg⟩ := DataW.trod_struct Tryd.underlying35 hf
  match cs, hz, ys, hlen with
  | [c0, c1, c2, c3, c4, c5, c6, c7, c8, c9, c10, c11, c12, c13, c14, c15, c16, c17, c18, c19], _, [y0, y1, y2, y3, y4, y5], _ =>
    have g0 : DataW.trod enc Tryd.prog w base spare held n 5 ((([c0, c1, c2, c3, c4, c5, c6, c7, c8, c9, c10, c11, c12, c13, c14, c15, c16, c17, c18, c19] : List Value).drop 0).take (Tryd.prog.cellsOf 5)) = some y0 := hg 0 _ rfl
    rw [cellsU] at g0
    have g1 : DataW.trod enc Tryd.prog w base spare held n 4 ((([c0, c1, c2, c3, c4, c5, c6, c7, c8, c9, c10, c11, c12, c13, c14, c15, c16, c17, c18, c19] : List Value).drop 1).take (Tryd.prog.cellsOf 4)) = some y1 := hg 1 _ rfl
    rw [cellsB] at g1
    have g2 : DataW.trod enc Tryd.prog w base spare held n 23 ((([c0, c1, c2, c3, c4, c5, c6, c7, c8, c9, c10, c11, c12, c13, c14, c15, c16, c17, c18, c19] : List Value).drop 2).take (Tryd.prog.cellsOf 23)) = some y2 := hg 2 _ rfl
    rw [Pn.cellsP] at g2
    have g3 : DataW.trod enc Tryd.prog w base spare held n 33 ((([c0, c1, c2, c3, c4, c5, c6, c7, c8, c9, c10, c11, c12, c13, c14, c15, c16, c17, c18, c19] : List Value).drop 10).take (Tryd.prog.cellsOf 33)) = some y3 := hg 3 _ rfl
    rw [Msc.cellsS] at g3
    have g4 : DataW.trod enc Tryd.prog w base spare held n 5 ((([c0, c1, c2, c3, c4, c5, c6, c7, c8, c9, c10, c11, c12, c13, c14, c15, c16, c17, c18, c19] : List Value).drop 18).take (Tryd.prog.cellsOf 5)) = some y4 := hg 4 _ rfl
    rw [cellsU] at g4
    have g5 : DataW.trod enc Tryd.prog w base spare held n 9 ((([c0, c1, c2, c3, c4, c5, c6, c7, c8, c9, c10, c11, c12, c13, c14, c15, c16, c17, c18, c19] : List Value).drop 19).take (Tryd.prog.cellsOf 9)) = some y5 := hg 5 _ rfl
    rw [cellsS] at g5
    obtain ⟨n0, e0, rfl, k0⟩ := DataW.trod_int Tryd.underlying5 g0
    obtain ⟨b1, e1, rfl⟩ := DataW.trod_bool Tryd.underlying4 g1
    obtain ⟨p, e2, rfl, p1, p2⟩ := open_p rfl g2
    obtain ⟨s, e3, rfl, s1, s2⟩ := open_s rfl g3
    obtain ⟨n4, e4, rfl, k4⟩ := DataW.trod_int Tryd.underlying5 g4
    obtain ⟨s5, e5, rfl, k5⟩ := DataW.trod_string Tryd.underlying9 g5
    obtain ⟨m0, rfl, l0⟩ := Base.wf_u8 k0
    obtain ⟨m4, rfl, l4⟩ := Base.wf_u8 k4
    simp only [List.drop_succ_cons, List.drop_zero, List.take_succ_cons, List.take_zero, List.cons.injEq, and_true] at e0 e1 e2 e3 e4 e5
    obtain ⟨f2, f3, f4, f5, f6, f7, f8, f9⟩ := e2
    obtain ⟨f10, f11, f12, f13, f14, f15, f16, f17⟩ := e3
    subst e0 e1 e4 e5 f2 f3 f4 f5 f6 f7 f8 f9 f10 f11 f12 f13 f14 f15 f16 f17
    exact ⟨⟨m0, b1, p, s, m4, s5⟩, rfl, hx, ⟨l0, p1, s1, l4⟩, ⟨k0, p2, s2, k4, k5⟩⟩
theorem open_message {r : Reach} {b0 : Nat} {v : Value} {d : DataW H} {p : List MemPlace} (hv : Value.okWide Tryd.prog w r b0 35 v) (h : DataW.Trod enc Tryd.prog w base spare held 35 v d p) :
    ∃ q : Ms, v = mv q ∧ d = md q ∧ p = [] ∧ q.In ∧ q.Wf := by
  obtain ⟨⟨cs⟩, rfl, hz⟩ := okWide_struct Tryd.underlying35 hv
  rw [cellsM] at hz
  obtain ⟨fuel, hf⟩ := h
  obtain ⟨m, h1, h2, h3, h4⟩ := open_m (cs := cs) hz hf
  simp only [Prod.mk.injEq] at h2
  subst h1
  exact ⟨m, rfl, h2.1, h2.2, h3, h4⟩
theorem shut_message (m : Ms) (h : m.Wf) : DataW.Trod enc Tryd.prog w base spare held 35 (mv m) (md m) [] := by
  refine ⟨4, ?_⟩
  obtain ⟨h0, ⟨p0, p1, p2, p3, p4, p5, p6, p7⟩, ⟨s0, s7⟩, h4, h5⟩ := h
  show DataW.trod enc Tryd.prog w base spare held 4 35 (mc m).toList = _
  unfold mc
  simp [DataW.trod, Value.cells, Tryd.underlying35, Tryd.underlying23, Tryd.underlying33, Tryd.underlying5, Tryd.underlying3, Tryd.underlying4, Tryd.underlying9, cellsM, Pn.cellsP, Msc.cellsS, cellsU, cellsI, cellsB, cellsS, h0, p0, p1, p2, p3, p4, p5, p6, p7, s0, s7, h4, h5]
end
section
variable {H : Type} {enc : TypeId × Value → H} {w : World}
/-- A message that came in: its numbers are octets, its string is no longer than Go has. -/
def Fits (m : Ms) : Prop := m.In ∧ m.b.size ≤ maxLen
theorem open_msgs {r : Reach} {b0 : Nat} {v : Value} {d : DataW H} {p : List MemPlace} (hv : Value.okWide Tryd.prog w r b0 24 v) (h : DataW.Trod enc Tryd.prog w 0 (fun _ => true) true 24 v d p) :
    ∃ (oa : Option Addr) (n cap : Nat) (F : Nat → Ms), v = .slice oa n cap ∧ n ≤ maxLen ∧ ArgS 20 ml Fits w oa n F :=
  open_any Tryd.underlying24 cellsM (by decide) ml_len zero (fun _ _ _ hz hf => let ⟨m, h1, _, h3, h4⟩ := open_m hz hf; ⟨m, h1, h3, h4.b⟩) hv h
end
end Go.Proofs.YtakkhdammmcjcaaDoor.Msgs

/-
  Layer 22, put together: CtlWorks, CtlNoneLaw, CtlFref. Conditions: as each theorem names them.
-/
import Derived.Test.YtakkhdammmcjcaaGreatDoorK29
import Derived.Test.YtakkhdammmcjcaaGreatDoorK06
import Derived.Test.YtakkhdammmcjcaaGreatDoorK01
import Derived.BigQuiet
namespace Go.Proofs.YtakkhdammmcjcaaGreatDoor.Ctl
open Go.RowKit Base Mem Msgs Cr
set_option maxRecDepth 100000
def P0 : Pn.Pr := ⟨0, 0, 0, 0, 0, 64, 0, 4⟩
def M4 : Ms := ⟨4, true, Pn.zero, Msc.zero, 0, no⟩
def M3 : Ms := ⟨3, true, Pn.zero, Msc.zero, 0, no⟩
def M3r : Ms := ⟨3, false, Pn.zero, Msc.zero, 0, no⟩
def M7 : Ms := ⟨7, false, Pn.zero, Msc.zero, 15, no⟩
def S4 : ByteArray := ⟨#[163, 1, 15, 1]⟩
theorem m4_in : M4.In := ⟨by decide, Pn.zero_in, Msc.zero_in, by decide⟩
def x1 : Ct := (Ct.new P0 2 1).ask M4
def x2 : Ct := x1.next.2
def x3 : Ct := x2.next.2
def x4 : Ct := x3.tick.1
def x5 : Ct := x4.tick.1
def x6 : Ct := x5.next.2
def x7 : Ct := x6.tick.1
def x8 : Ct := x7.tick.1
def x9 : Ct := (x8.hear S4).1
def x10 : Ct := x9.next.2
theorem q1 : askE M4 = 0 := by kernel_rfl
theorem q2 : nv x1.next.1 = .tuple #[.string ⟨#[99, 1]⟩, .int .u8 0, .bool true] := by kernel_rfl
theorem q3 : nv x2.next.1 = .tuple #[.string ⟨#[]⟩, .int .u8 0, .bool false] := by kernel_rfl
theorem q4 : x3.tick.2 = [] := by kernel_rfl
theorem q5 : x4.tick.2 = [] := by kernel_rfl
theorem q6 : nv x5.next.1 = .tuple #[.string ⟨#[99, 1]⟩, .int .u8 0, .bool true] := by kernel_rfl
theorem q7 : x6.tick.2 = [] := by kernel_rfl
theorem q8 : x7.tick.2 = [⟨4, M4⟩] := by kernel_rfl
theorem q9 : (x8.hear S4).2 = [⟨1, M3⟩] := by kernel_rfl
theorem q10 : nv x9.next.1 = .tuple #[.string ⟨#[161, 1]⟩, .int .u8 0, .bool true] := by kernel_rfl
theorem q11 : nv x10.next.1 = .tuple #[.string ⟨#[17, 3, 15]⟩, .int .u8 0, .bool true] := by kernel_rfl
section
variable {ops : Array Oper} {rest : List Oper} {a : Act} {Q : Exit → Act → World → Prop} {d : Option Tmp} {x y : Operand} {ty : TypeId} {pos : String} {af : Array Edge} {w : World} {T z : Nat}
/-- A guarded load of a struct that is wanted. -/
theorem ldzg {g : Option (Nat × Bool)} {b o : Nat} {vs : List Value} (hT : IsRow T z) (h : w.rangeAt b o vs) (hz : vs.length = z) (hg : Region.wanted { dst := d, op := .load T x, type := ty, pos := pos, after := af, guard := g } (yielded ops a.tmps) = true) (hx : a.eval x = .pointer (some ⟨b, o, none⟩)) (k : wpList Tryz.prog ops Q rest (a.put d (.agg vs.toArray)) w) :
 wpList Tryz.prog ops Q ({ dst := d, op := .load T x, type := ty, pos := pos, after := af, guard := g } :: rest) a w :=
 wpList_step fun K hK => by
  rw [if_pos hg]
  obtain ⟨fs, hu⟩ := hT.under
  subst hz
  exact wp_load_mid T x rfl b o hx _ _ h hu rfl hT.size (hK _ _ k)
/-- A guarded build that is wanted. -/
theorem bdBg {g : Option (Nat × Bool)} {parts : Array (Nat × Operand)} {l : List (Nat × Value)} {c : Array Value} (hb : Tryz.prog.built T l = some c) (hg : Region.wanted { dst := d, op := .build T parts, type := ty, pos := pos, after := af, guard := g } (yielded ops a.tmps) = true) (hl : (parts.map fun (i, x) => (i, a.eval x)).toList = l) (k : wpList Tryz.prog ops Q rest (a.put d (.agg c)) w) :
 wpList Tryz.prog ops Q ({ dst := d, op := .build T parts, type := ty, pos := pos, after := af, guard := g } :: rest) a w :=
 wpList_step fun K hK => by
  rw [if_pos hg]
  subst hl
  unfold Oper.wp execOp
  simp only [Sem.run_bind, run_build w T _ c hb, Sem.run_pure, Result.andThen_ok]
  exact hK _ _ k
end
theorem bt4 : Tryz.prog.built MT [(0, .int .u8 4), (1, .bool true)] = some (mc M4) := by kernel_rfl
theorem bt3 : Tryz.prog.built MT [(0, .int .u8 3), (1, .bool true)] = some (mc M3) := by kernel_rfl
theorem eqF4 (w : World) : (binOp .eql GT (.agg (fl ⟨4, M4⟩).toArray) (.agg (fc ⟨4, M4⟩))).run Tryz.prog w = .ok (.bool true) w := by kernel_rfl
theorem eqF3 (w : World) : (binOp .eql GT (.agg (fl ⟨1, M3⟩).toArray) (.agg (fc ⟨1, M3⟩))).run Tryz.prog w = .ok (.bool true) w := by kernel_rfl
theorem own_none {w : World} {base : Nat} {v : Value} (h : OwnS GT 21 fl w base v []) : ∃ o cap, v = .slice o 0 cap := by
 obtain ⟨o, cap, e, _⟩ := row_form h
 exact ⟨o, cap, e⟩
theorem own_one {w : World} {base : Nat} {v : Value} {f : Fa} (h : OwnS GT 21 fl w base v [f]) : ∃ g cap, v = .slice (some ⟨g, 0, none⟩) 1 cap := by
 obtain ⟨o, cap, e, hg⟩ := row_form h
 obtain ⟨g, rfl⟩ := hg 0 (Nat.succ_pos _)
 exact ⟨g, cap, e⟩
set_option maxHeartbeats 4000000 in
theorem works (w : World) (ht : Tab w) : Calls Tryz.prog 9 #[] w fun e w' => e = .returned (.bool true) ∧ Below w.heap.size w w' := by
 have HT := Lib.hid ht
 clear ht
 go_enter Tryz.func9, Tryz.ntmps9
 go_wp2_with fail
 refine (znew P0 2 1 _ HT.out).mono ?_
 rintro _ w1 ⟨c, rfl, h⟩
 have H := Lib.hid h
 clear h
 go_wp2_with fail
 refine (zask H.out M4 m4_in (by decide)).mono ?_
 rw [q1]
 rintro _ w2 ⟨rfl, h, _⟩
 clear H
 have H : Hid (Pz w c _ _ _ _ x1 w2) := Lib.hid h
 clear h
 go_wp2_with fail
 refine (znext H.out).mono ?_
 rw [q2]
 rintro _ w3 ⟨rfl, h, _⟩
 clear H
 have H : Hid (Pz w c _ _ _ _ x2 w3) := Lib.hid h
 clear h
 go_wp2_with fail
 refine (znext H.out).mono ?_
 rw [q3]
 rintro _ w4 ⟨rfl, h, _⟩
 clear H
 have H : Hid (Pz w c _ _ _ _ x3 w4) := Lib.hid h
 clear h
 go_wp2_with fail
 refine (ztick H.out).mono ?_
 rw [q4]
 rintro _ w5 ⟨v, rfl, ho, h, _⟩
 obtain ⟨o1, p1, rfl⟩ := own_none ho
 clear H ho
 have H : Hid (Pz w c _ _ _ _ x4 w5) := Lib.hid h
 clear h
 go_wp2_with fail
 refine (ztick H.out).mono ?_
 rw [q5]
 rintro _ w6 ⟨v, rfl, ho, h, _⟩
 obtain ⟨o2, p2, rfl⟩ := own_none ho
 clear H ho
 have H : Hid (Pz w c _ _ _ _ x5 w6) := Lib.hid h
 clear h
 go_wp2_with fail
 refine (znext H.out).mono ?_
 rw [q6]
 rintro _ w7 ⟨rfl, h, _⟩
 clear H
 have H : Hid (Pz w c _ _ _ _ x6 w7) := Lib.hid h
 clear h
 go_wp2_with fail
 refine (ztick H.out).mono ?_
 rw [q7]
 rintro _ w8 ⟨v, rfl, ho, h, _⟩
 obtain ⟨o3, p3, rfl⟩ := own_none ho
 clear H ho
 have H : Hid (Pz w c _ _ _ _ x7 w8) := Lib.hid h
 clear h
 go_wp2_with fail
 refine (ztick H.out).mono ?_
 rw [q8]
 rintro _ w9 ⟨v, rfl, ho4, h, _⟩
 obtain ⟨g4, p4, rfl⟩ := own_one ho4
 clear H
 have H : Hid (Pz w c _ _ _ _ x8 w9) := Lib.hid h
 clear h
 have H4 := Lib.hid ho4
 clear ho4
 go_wp2_with fail
 refine (zhear H.out S4 (by decide)).mono ?_
 rw [q9]
 rintro _ w10 ⟨v, rfl, ho5, h, k⟩
 obtain ⟨g5, p5, rfl⟩ := own_one ho5
 clear H
 have H : Hid (Pz w c _ _ _ _ x9 w10) := Lib.hid h
 have H5 := Lib.hid ho5
 replace H4 := Lib.hid (k.facts H4.out)
 clear h k ho5
 go_wp2_with fail
 refine (znext H.out).mono ?_
 rw [q10]
 rintro _ w11 ⟨rfl, h, k⟩
 clear H
 have H : Hid (Pz w c _ _ _ _ x10 w11) := Lib.hid h
 replace H4 := Lib.hid (k.facts H4.out)
 replace H5 := Lib.hid (k.facts H5.out)
 clear h k
 go_wp2_with fail
 refine (znext H.out).mono ?_
 rw [q11]
 rintro _ w12 ⟨rfl, h, k⟩
 clear H
 have HB := Lib.hid h.below
 have R4 := Lib.hid (own_rangez fl_len (k.facts H4.out) 0 _ rfl)
 have R5 := Lib.hid (own_rangez fl_len (k.facts H5.out) 0 _ rfl)
 clear h k H4 H5
 have E4 := eqF4
 have E3 := eqF3
 go_wp2_with (first
  | ((with_reducible refine ldzg isG R4.out ?hz ?hg ?hx ?_); (case hz => rfl); (case hg => rfl); (case hx => rfl))
  | ((with_reducible refine ldzg isG R5.out ?hz ?hg ?hx ?_); (case hz => rfl); (case hg => rfl); (case hx => rfl))
  | ((with_reducible refine bdBg (parts := #[(0, Operand.const (Value.int IntKind.u8 4)), (1, Operand.const (Value.bool true))]) bt4 ?hg ?hl ?_); (case hg => rfl); (case hl => kernel_rfl))
  | ((with_reducible refine bdBg (parts := #[(0, Operand.const (Value.int IntKind.u8 3)), (1, Operand.const (Value.bool true))]) bt3 ?hg ?hl ?_); (case hg => rfl); (case hl => kernel_rfl))
  | ((with_reducible refine bdBg (parts := #[(0, Operand.const (Value.int IntKind.u8 4)), (1, Operand.tmp 110)]) (builtG 4 M4) ?hg ?hl ?_); (case hg => rfl); (case hl => kernel_rfl))
  | ((with_reducible refine bdBg (parts := #[(0, Operand.const (Value.int IntKind.u8 1)), (1, Operand.tmp 123)]) (builtG 1 M3) ?hg ?hl ?_); (case hg => rfl); (case hl => kernel_rfl)))
 go_ret
 exact ⟨rfl, HB.out⟩
end Go.Proofs.YtakkhdammmcjcaaGreatDoor.Ctl
namespace Go.Proofs.YtakkhdammmcjcaaGreatDoor.Ctl
open Go.RowKit Base Mem Msgs Cr
set_option maxRecDepth 100000
theorem has_nil (w : World) : Calls Tryz.prog 16 #[.pointer none] w fun e w' => e = .returned (.bool false) ∧ w = w' := by
 go_enter Tryz.func16, Tryz.ntmps16
 go_wp2
 go_ret
 exact ⟨rfl, rfl⟩
theorem next_nil (w : World) : Calls Tryz.prog 20 #[.pointer none] w fun e w' => e = .returned (.tuple #[.string ⟨#[]⟩, .int .u8 0, .bool false]) ∧ w = w' := by
 have C := Lib.hid has_nil
 go_enter Tryz.func20, Tryz.ntmps20
 go_wp2_with (go_at_call 16; refine (C.out _).mono ?_; rintro _ _ ⟨rfl, rfl⟩)
 go_ret3
 exact ⟨rfl, rfl⟩
theorem waits_nil (w : World) : Calls Tryz.prog 15 #[.pointer none] w fun e w' => e = .returned (.tuple #[.int .i64 0, .int .i64 0]) ∧ w = w' := by
 go_enter Tryz.func15, Tryz.ntmps15
 go_wp2
 go_ret2
 exact ⟨rfl, rfl⟩
theorem hear_nil (s : ByteArray) (w : World) : Calls Tryz.prog 21 #[.pointer none, .string s] w fun e w' => e = .returned (.slice none 0 0) ∧ w = w' := by
 go_enter Tryz.func21, Tryz.ntmps21
 go_wp2
 go_ret
 exact ⟨rfl, rfl⟩
theorem tick_nil (w : World) : Calls Tryz.prog 25 #[.pointer none] w fun e w' => e = .returned (.slice none 0 0) ∧ w = w' := by
 go_enter Tryz.func25, Tryz.ntmps25
 go_wp2
 go_ret
 exact ⟨rfl, rfl⟩
theorem ask_nil (m : Ms) (w : World) : Calls Tryz.prog 18 #[.pointer none, mv m] w fun e w' => e = .returned (.int .i64 1) ∧ Below w.heap.size w w' := by
 go_enter Tryz.func18, Tryz.ntmps18
 go_wp2_with ((with_reducible refine bxm (m := m) ?hx ?_); (case hx => rfl); intro b w1 h1 F1; have HB := Lib.hid F1.below; clear h1 F1)
 go_ret
 exact ⟨rfl, HB.out⟩
end Go.Proofs.YtakkhdammmcjcaaGreatDoor.Ctl
namespace Go.Proofs.YtakkhdammmcjcaaGreatDoor.ctlNone
open Go.RowKit Base Mem Msgs Cr Ctl
set_option maxRecDepth 100000
set_option maxHeartbeats 4000000 in
theorem law (m : Ms) (_ : m.In) (s : ByteArray) (_ : s.size ≤ maxLen) (w : World) (ht : Tab w) :
 Calls Tryz.prog 8 #[mv m, .string s] w fun e w' => e = .returned (.bool true) ∧ Below w.heap.size w w' := by
 have HT := Lib.hid ht
 clear ht
 have CW := Lib.hid (fun (u : World) hu => works u hu)
 have C1 := Lib.hid next_nil
 have C2 := Lib.hid waits_nil
 have C3 := Lib.hid has_nil
 have C4 := Lib.hid (ask_nil m)
 have C5 := Lib.hid (hear_nil s)
 have C6 := Lib.hid tick_nil
 by_cases h1 : 130 < m.b.size
 · have t1 : decide ((130 : Int) < (m.b.size : Int)) = true := decide_eq_true (by omega)
   have t2 : (130 : Int) < (m.b.size : Int) := by omega
   clear h1
   go_enter Tryz.func8, Tryz.ntmps8
   go_wp2_with (first
    | ((with_reducible refine bxm (m := m) ?hx ?_); (case hx => rfl); intro b w1 h1 F1; have HB := Lib.hid F1.below; have HT1 := Lib.hid (tab_below HT.out F1.below); obtain ⟨c0, c1, c2, c3, c4, c5⟩ := lay h1; clear h1 F1)
    | (go_at_call 9; refine (CW.out _ HT1.out).mono ?_; rintro _ w2 ⟨rfl, hb⟩; have HB2 := Lib.hid (below_on HB.out hb); clear hb))
   go_ret
   exact ⟨rfl, HB2.out⟩
 have t1 : decide ((130 : Int) < (m.b.size : Int)) = false := decide_eq_false (by omega)
 have t2 : ¬ (130 : Int) < (m.b.size : Int) := by omega
 by_cases h2 : 130 < s.size
 · have u1 : decide ((130 : Int) < (s.size : Int)) = true := decide_eq_true (by omega)
   have u2 : (130 : Int) < (s.size : Int) := by omega
   clear h1 h2
   go_enter Tryz.func8, Tryz.ntmps8
   go_wp2_with (first
    | ((with_reducible refine bxm (m := m) ?hx ?_); (case hx => rfl); intro b w1 h1 F1; have HB := Lib.hid F1.below; have HT1 := Lib.hid (tab_below HT.out F1.below); obtain ⟨c0, c1, c2, c3, c4, c5⟩ := lay h1; clear h1 F1)
    | (go_at_call 9; refine (CW.out _ HT1.out).mono ?_; rintro _ w2 ⟨rfl, hb⟩; have HB2 := Lib.hid (below_on HB.out hb); clear hb))
   go_ret
   exact ⟨rfl, HB2.out⟩
 have u1 : decide ((130 : Int) < (s.size : Int)) = false := decide_eq_false (by omega)
 have u2 : ¬ (130 : Int) < (s.size : Int) := by omega
 clear h1 h2
 go_enter Tryz.func8, Tryz.ntmps8
 go_wp2_with (first
  | ((with_reducible refine bxm (m := m) ?hx ?_); (case hx => rfl); intro b w1 h1 F1; have HB := Lib.hid F1.below; have HM := Lib.hid h1; have HT1 := Lib.hid (tab_below HT.out F1.below); obtain ⟨c0, c1, c2, c3, c4, c5⟩ := lay h1; clear h1 F1)
  | (go_at_call 20; refine (C1.out _).mono ?_; rintro _ _ ⟨rfl, rfl⟩)
  | (go_at_call 15; refine (C2.out _).mono ?_; rintro _ _ ⟨rfl, rfl⟩)
  | (go_at_call 16; refine (C3.out _).mono ?_; rintro _ _ ⟨rfl, rfl⟩)
  | ((with_reducible refine ldmg isM HM.out ?hg ?hx ?_); (case hg => rfl); (case hx => rfl))
  | (go_at_call 18; refine (C4.out _).mono ?_; rintro _ w2 ⟨rfl, hb⟩; have HB2 := Lib.hid (below_on HB.out hb); have HT2 := Lib.hid (tab_below HT1.out hb); clear hb c0 c1 c2 c3 c4 c5)
  | (go_at_call 21; refine (C5.out _).mono ?_; rintro _ _ ⟨rfl, rfl⟩)
  | (go_at_call 25; refine (C6.out _).mono ?_; rintro _ _ ⟨rfl, rfl⟩)
  | (go_at_call 9; refine (CW.out _ HT2.out).mono ?_; rintro _ w3 ⟨rfl, hb⟩; have HB3 := Lib.hid (below_on HB2.out hb); clear hb))
 go_ret
 exact ⟨rfl, HB3.out⟩
end Go.Proofs.YtakkhdammmcjcaaGreatDoor.ctlNone
namespace Go.Proofs.YtakkhdammmcjcaaGreatDoor.Ctl
open Go.RowKit Base Mem Msgs Cr
set_option maxRecDepth 100000
abbrev MTf : TypeId := 29
abbrev ST : TypeId := 27
def pcl2 (p : Pn.Pr) : Array Value := #[.int .u8 p.d, .int .u8 p.f, .int .u8 p.c, .int .u8 p.r, .int .i64 p.t, .int .i64 p.n, .int .i64 p.z, .int .i64 p.k]
def scl (s : Msc.St) : Array Value := #[.int .u8 (s.d : Int), .bool s.f, .bool s.c, .bool s.r, .bool s.i, .bool s.v, .bool s.b, .int .u8 (s.k : Int)]
theorem run_ldc {n T b : Nat} {w : World} {cs : Array Value} {t : TypeId} (hT : IsRow T n) (h : w.heap[b]? = some (.cells cs t (0, 0))) (hn : cs.size = n) : (loadVar T ⟨b, 0, none⟩).run Tryz.prog w = .ok (.agg cs) w := by
 obtain ⟨fs, hu⟩ := hT.under
 subst hn
 exact run_loadVar_row w b t T cs (0, 0) _ h hu rfl hT.size
theorem params_results (tmps : Array Value) (w : World) (b : Nat) (p : Pn.Pr) (t : TypeId) (h : w.heap[b]? = some (.cells (pcl2 p) t (0, 0))) (p2 : tmps[2]?.getD undef = ptr b) :
 (results Tryz.f13 tmps).run Tryz.prog w = .ok (Pn.pv p) w := by
 have hr := run_ldc isPr h rfl
 simp [results, Tryz.results13, asAddr, p2, hr]
 rfl
theorem ref_results (tmps : Array Value) (w : World) (b : Nat) (m : Ms) (t : TypeId) (h : w.heap[b]? = some (mO m t)) (p2 : tmps[2]?.getD undef = ptr b) :
 (results Tryz.f28 tmps).run Tryz.prog w = .ok (mv m) w := by
 simp [results, Tryz.results28, asAddr, p2, run_ld isR h]
theorem pcells2 {w : World} {b : Nat} {p : Pn.Pr} {t : TypeId} (h : w.heap[b]? = some (.cells (pcl2 p) t (0, 0))) : w.cell? ⟨b, 0, none⟩ = some (.int .u8 p.d) ∧ w.cell? ⟨b, 1, none⟩ = some (.int .u8 p.f) ∧ w.cell? ⟨b, 2, none⟩ = some (.int .u8 p.c) ∧ w.cell? ⟨b, 3, none⟩ = some (.int .u8 p.r) ∧ w.cell? ⟨b, 4, none⟩ = some (.int .i64 p.t) ∧ w.cell? ⟨b, 5, none⟩ = some (.int .i64 p.n) ∧ w.cell? ⟨b, 6, none⟩ = some (.int .i64 p.z) ∧ w.cell? ⟨b, 7, none⟩ = some (.int .i64 p.k) :=
 ⟨cell_of h rfl, cell_of h rfl, cell_of h rfl, cell_of h rfl, cell_of h rfl, cell_of h rfl, cell_of h rfl, cell_of h rfl⟩
theorem scells {w : World} {b : Nat} {p : Msc.St} {t : TypeId} (h : w.heap[b]? = some (.cells (scl p) t (0, 0))) : w.cell? ⟨b, 0, none⟩ = some (.int .u8 (p.d : Int)) ∧ w.cell? ⟨b, 1, none⟩ = some (.bool p.f) ∧ w.cell? ⟨b, 2, none⟩ = some (.bool p.c) ∧ w.cell? ⟨b, 3, none⟩ = some (.bool p.r) ∧ w.cell? ⟨b, 4, none⟩ = some (.bool p.i) ∧ w.cell? ⟨b, 5, none⟩ = some (.bool p.v) ∧ w.cell? ⟨b, 6, none⟩ = some (.bool p.b) ∧ w.cell? ⟨b, 7, none⟩ = some (.int .u8 (p.k : Int)) :=
 ⟨cell_of h rfl, cell_of h rfl, cell_of h rfl, cell_of h rfl, cell_of h rfl, cell_of h rfl, cell_of h rfl, cell_of h rfl⟩
theorem builtPf (p : Pn.Pr) : Tryz.prog.built 44 [(0, .int .u8 p.d), (1, .int .u8 p.f), (2, .int .u8 p.c), (3, .int .u8 p.r), (4, .int .i64 p.t), (5, .int .i64 p.n), (6, .int .i64 p.z), (7, .int .i64 p.k)] = some (pcl2 p) := by kernel_rfl
section
variable {ops : Array Oper} {rest : List Oper} {a : Act} {Q : Exit → Act → World → Prop} {d : Option Tmp} {x y : Operand} {ty : TypeId} {pos : String} {af : Array Edge} {w : World} {T b : Nat} {m : Ms} {t : TypeId} {K : Act → World → Prop} {X : Prop}
theorem bdC {parts : Array (Nat × Operand)} {l : List (Nat × Value)} {c : Array Value} (hb : Tryz.prog.built T l = some c) (hl : (parts.map fun (i, x) => (i, a.eval x)).toList = l) (k : wpList Tryz.prog ops Q rest (a.put d (.agg c)) w) :
 wpList Tryz.prog ops Q ({ dst := d, op := .build T parts, type := ty, pos := pos, after := af, guard := none } :: rest) a w := by
 subst hl
 refine wpList_build rfl T parts rfl (by rw [hb]; rfl) ?_
 rw [hb]
 exact k
theorem ex_bdc {g : Option (Nat × Bool)} {parts : Array (Nat × Operand)} {ρ : Operand → Value} (cs : Array Value) (hb : Tryz.prog.built T (parts.map fun (i, x) => (i, ρ x)).toList = some cs) :
 (execOp ρ { dst := d, op := .build T parts, type := ty, pos := pos, after := af, guard := g }).run Tryz.prog w = .ok (.value (.agg cs)) w := by
 unfold execOp
 simp only [Sem.run_bind, run_build w T _ cs hb, Sem.run_pure, Result.andThen_ok]
theorem step_stm (m0 : Ms) (hT : IsRow T 20) {m1 : Ms} (h : w.heap[b]? = some (mO m1 t)) (hx : a.eval x = ptr b) (hy : a.eval y = mv m0) (k : ∀ w', w'.heap[b]? = some (mO m0 t) → Mod b w w' → K (a.put d undef) w') :
 if Region.wanted { dst := d, op := .store T x y, type := ty, pos := pos, after := af, guard := none } (yielded ops a.tmps) = true then Oper.wp Tryz.prog { dst := d, op := .store T x y, type := ty, pos := pos, after := af, guard := none } a w K Q else X := by
 rw [if_pos (by simp [Region.wanted])]
 obtain ⟨cs', h1, _, h3, h4⟩ := setCells_block b (mc m0).toList 0 w _ t h
 obtain rfl := over_all m0 m1 cs' h3
 exact wp_store_mid T x y rfl b 0 (mc m0) hx hy (there_of h (by rw [mc_size, mc_size]; decide)) hT.size (one_all m0) (k _ h1 h4)
end
theorem fparams (p : Pn.Pr) (w : World) : Calls Tryz.prog 13 #[Pn.pv p] w fun e w' => e = .returned (Pn.pv p) ∧ Below w.heap.size w w' := by
 go_enter Tryz.func13, Tryz.ntmps13
 go_wp2_with (first
  | ((with_reducible refine bxz (pcl2 p) ?hx ?_); (case hx => rfl); intro b1 w1 h1 F1; have H1 := Lib.hid h1; have HB := Lib.hid F1.below; clear h1 F1)
  | ((with_reducible refine alr (cs := pcl2 Pn.zero) (by kernel_rfl) ?_); intro b2 w2 h2 F2; obtain ⟨c0, c1, c2, c3, c4, c5, c6, c7⟩ := pcells2 (F2.stays H1.out); have H2 := Lib.hid h2; have L2 := Lib.hid (F2.le HB.out); replace HB := Lib.hid (F2.on HB.out); clear h2 F2)
  | ((with_reducible refine bdC (builtPf p) ?hl ?_); (case hl => kernel_rfl))
  | ((with_reducible refine str (pcl2 p) isPr H2.out ?h0 ?h1 ?hc ?hx ?hy ?_); (case h0 => rfl); (case h1 => rfl); (case hc => simp [pcl2, Value.oneCell']); (case hx => rfl); (case hy => rfl); intro w3 h3 M3; replace H2 := Lib.hid h3; replace HB := Lib.hid (M3.below HB.out L2.out); clear h3 M3))
 exact bodyPost_ret (params_results _ _ b2 p _ H2.out rfl) rfl ⟨rfl, HB.out⟩
/-- Within ref: the three boxes. -/
structure Rf (w : World) (b1 b2 b3 : Nat) (m m2 : Ms) (u : World) : Prop where
 h1 : u.heap[b1]? = some (mO m MTf)
 h2 : u.heap[b2]? = some (mO m2 79)
 h3 : u.heap[b3]? = some (.cells (scl m.s) ST (0, 0))
 below : Below w.heap.size w u
 n1 : b1 ≠ b2
 n3 : b3 ≠ b2
 lo : w.heap.size ≤ b2
theorem Rf.on {w u u' : World} {b1 b2 b3 : Nat} {m m2 : Ms} (h : Rf w b1 b2 b3 m m2 u) (hb : Below u.heap.size u u') : Rf w b1 b2 b3 m m2 u' := ⟨Mem.stays h.h1 hb, Mem.stays h.h2 hb, Mem.stays h.h3 hb, below_on h.below hb, h.n1, h.n3, h.lo⟩
theorem Rf.stored {w u u' : World} {b1 b2 b3 : Nat} {m m2 m3 : Ms} (h : Rf w b1 b2 b3 m m2 u) (h2 : u'.heap[b2]? = some (mO m3 79)) (M : Mod b2 u u') : Rf w b1 b2 b3 m m3 u' :=
 ⟨M.other h.n1 h.h1, h2, M.other h.n3 h.h3, M.below h.below h.lo, h.n1, h.n3, h.lo⟩
set_option maxHeartbeats 4000000 in
theorem fref (m : Ms) (w : World) : Calls Tryz.prog 28 #[mv m] w fun e w' => e = .returned (mv m) ∧ Below w.heap.size w w' := by
 have CP := Lib.hid (fun w => fparams m.p w)
 go_enter Tryz.func28, Tryz.ntmps28
 go_wp2_with (first
  | ((with_reducible refine bxm (m := m) ?hx ?_); (case hx => rfl); intro b1 w1 h1 F1; have H1 := Lib.hid h1; have HB := Lib.hid F1.below; clear h1 F1)
  | ((with_reducible refine alm zeroR ?_); intro b2 w2 h2 F2; have N12 := Lib.hid (F2.ne H1.out); replace H1 := Lib.hid (F2.stays H1.out); have H2 := Lib.hid h2; have L2 := Lib.hid (F2.le HB.out); replace HB := Lib.hid (F2.on HB.out); clear h2 F2)
  | ((with_reducible refine lds isS H1.out ?hx ?_); (case hx => rfl))
  | ((with_reducible refine alr (cs := scl Msc.zero) (by kernel_rfl) ?_); intro b3 w3 h3 F3; have N23 := Lib.hid (F3.ne H2.out); have N13 := Lib.hid (F3.ne H1.out); replace H1 := Lib.hid (F3.stays H1.out); replace H2 := Lib.hid (F3.stays H2.out); have H3 := Lib.hid h3; have L3 := Lib.hid (F3.le HB.out); replace HB := Lib.hid (F3.on HB.out); clear h3 F3)
  | ((with_reducible refine str (scl m.s) isS H3.out ?h0 ?h1 ?hc ?hx ?hy ?_); (case h0 => rfl); (case h1 => rfl); (case hc => simp [scl, Value.oneCell']); (case hx => rfl); (case hy => rfl); intro w4 h4 M4; replace H3 := Lib.hid h4; replace H1 := Lib.hid (M4.other N13.out H1.out); replace H2 := Lib.hid (M4.other N23.out H2.out); replace HB := Lib.hid (M4.below HB.out L3.out); clear h4 M4))
 have HI : Hid (Rf w b1 b2 b3 m Msgs.zero w4.drew) := Lib.hid ⟨H1.out, H2.out, H3.out, HB.out.drew, N12.out, N23.out.symm, L2.out⟩
 clear H1 H2 H3 HB
 refine wp_region_held_drew (S := (fun w' => w'.heap[b1]? = some (mO m MTf) ∧ w'.heap[b3]? = some (.cells (scl m.s) ST (0, 0)))) (by kernel_rfl) ⟨HI.out.h1, HI.out.h3⟩ (fun hHeld => ?_)
 refine' tk9 0 rfl ?_
 refine' tv9 1 rfl (by intro _ hSw; (try dsimp only at hSw); obtain ⟨q0, q1, q2, q3⟩ := flds hSw.1; go_simp <;> with_reducible rfl) ?_
 refine' tk9 2 rfl ?_
 refine' tv9 3 rfl (by intro _ hSw; (try dsimp only at hSw); obtain ⟨q0, q1, q2, q3⟩ := flds hSw.1; go_simp <;> with_reducible rfl) ?_
 refine' tk9 4 rfl ?_
 refine' tv9 5 rfl (by intro _ hSw; (try dsimp only at hSw); refine ex_ldp isP hSw.1 ?_; rfl) ?_
 refine' tk9 7 rfl ?_
 refine' tv9 8 rfl (by intro _ hSw; (try dsimp only at hSw); obtain ⟨s0, s1, s2, s3, s4, s5, s6, s7⟩ := scells hSw.2; go_simp <;> with_reducible rfl) ?_
 refine' tk9 9 rfl ?_
 refine' tv9 10 rfl (by intro _ hSw; (try dsimp only at hSw); obtain ⟨s0, s1, s2, s3, s4, s5, s6, s7⟩ := scells hSw.2; go_simp <;> with_reducible rfl) ?_
 refine' tk9 11 rfl ?_
 refine' tv9 12 rfl (by intro _ hSw; (try dsimp only at hSw); obtain ⟨s0, s1, s2, s3, s4, s5, s6, s7⟩ := scells hSw.2; go_simp <;> with_reducible rfl) ?_
 refine' tk9 13 rfl ?_
 refine' tv9 14 rfl (by intro _ hSw; (try dsimp only at hSw); obtain ⟨s0, s1, s2, s3, s4, s5, s6, s7⟩ := scells hSw.2; go_simp <;> with_reducible rfl) ?_
 refine' tk9 15 rfl ?_
 refine' tv9 16 rfl (by intro _ hSw; (try dsimp only at hSw); obtain ⟨s0, s1, s2, s3, s4, s5, s6, s7⟩ := scells hSw.2; go_simp <;> with_reducible rfl) ?_
 refine' tk9 17 rfl ?_
 refine' tv9 18 rfl (by intro _ hSw; (try dsimp only at hSw); obtain ⟨s0, s1, s2, s3, s4, s5, s6, s7⟩ := scells hSw.2; go_simp <;> with_reducible rfl) ?_
 refine' tk9 19 rfl ?_
 refine' tv9 20 rfl (by intro _ hSw; (try dsimp only at hSw); obtain ⟨s0, s1, s2, s3, s4, s5, s6, s7⟩ := scells hSw.2; go_simp <;> with_reducible rfl) ?_
 refine' tk9 21 rfl ?_
 refine' tv9 22 rfl (by intro _ hSw; (try dsimp only at hSw); obtain ⟨s0, s1, s2, s3, s4, s5, s6, s7⟩ := scells hSw.2; go_simp <;> with_reducible rfl) ?_
 refine' tv9 23 rfl (by intro _ hSw; (try dsimp only at hSw); refine ex_bdc (scl m.s) ?_; kernel_rfl) ?_
 refine' tk9 24 rfl ?_
 refine' tv9 25 rfl (by intro _ hSw; (try dsimp only at hSw); obtain ⟨q0, q1, q2, q3⟩ := flds hSw.1; go_simp <;> with_reducible rfl) ?_
 refine' tk9 26 rfl ?_
 refine' tv9 27 rfl (by intro _ hSw; (try dsimp only at hSw); obtain ⟨q0, q1, q2, q3⟩ := flds hSw.1; go_simp <;> with_reducible rfl) ?_
 refine ry [6] (.cons rfl (fun K hK => ?_) .nil)
 go_simp
 refine (CP.out _).mono ?_
 rintro e w5 ⟨rfl, hb⟩
 go_wp2_with fail
 have HI2 := Lib.hid (HI.out.on hb)
 clear HI hb
 have HI := HI2
 clear HI2
 refine hK.out _ _ ⟨HI.out.h1, HI.out.h3⟩ (fun hNext => ?_)
 clear hK K hHeld
 have hHeld := hNext; clear hNext
 (try simp only [Act.put, z1', z2', z3'])
 refine' tv9 28 rfl (by intro _ hSw; (try dsimp only at hSw); refine ex_bd m ?_; kernel_rfl) ?_
 refine ry [29] (.cons rfl (fun K hK => ?_) .nil)
 refine step_stm m isR HI.out.h2 rfl rfl ?_
 intro w6 h M
 have HE := Lib.hid (HI.out.stored h M)
 clear h M
 refine hK.out _ _ ⟨HE.out.h1, HE.out.h3⟩ (fun hNext => ?_)
 clear hK K hHeld
 have hHeld := hNext; clear hNext
 (try simp only [Act.put])
 refine wpAnyH_done (by kernel_rfl) ?_ _
 clear hHeld
 go_wp2_with fail
 exact bodyPost_ret (ref_results _ _ b2 m _ HE.out.h2 rfl) rfl ⟨rfl, HE.out.below⟩
end Go.Proofs.YtakkhdammmcjcaaGreatDoor.Ctl

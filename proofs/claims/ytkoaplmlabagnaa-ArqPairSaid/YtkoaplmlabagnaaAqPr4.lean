/-
  Is all as it should be? Condition: the sides lie where they say and are as the mathematics has them.
-/
import Derived.Test.YtkoaplmlabagnaaAqPr2
import Derived.Test.YtkoaplmlabagnaaAqPm10
namespace Go.Proofs.Ytkoaplmlabagnaa.Aq
open Go.RowKit Go.Proofs.Ytkoaplmlabagnaa.Base Go.Proofs.Ytkoaplmlabagnaa.Mem
/-- What a side tells, with the numbers that the pair looks at. -/
def Vw (o : Value) (W O : Nat) : Prop := ∃ (a s g t l : Int) (b1 b2 b3 b4 b5 b6 : Bool), o = .agg #[.int .u8 a, .int .u8 s, .int .u8 g, .int .i64 (W : Int), .int .i64 (O : Int), .int .i64 t, .int .i64 l, .bool b1, .bool b2, .bool b3, .bool b4, .bool b5, .bool b6]
theorem vw_of (x : Sd) : Vw (vwv (Ps.of x)) (x.p.length - x.a) (x.s - x.a) := by
  unfold vwv Ps.of Vw
  dsimp only
  rw [List.length_drop]
  exact ⟨_, _, _, _, _, _, _, _, _, _, _, rfl⟩
theorem oview0 {w0 w : World} {b : Bk} {x : Pr} {N : Nat} (h : PrE w0 b x w) (hI : Inv N x.A) : Calls Try.prog 12 #[ptr b.p0] w fun e w' => (∃ o, e = .returned o ∧ Vw o (x.A.p.length - x.A.a) (x.A.s - x.A.a)) ∧ PrE w0 b x w' := by
  obtain ⟨q0, q1, v0, v1, tag, h⟩ := h
  exact (fview w b.p0 _ _ h.s0 hI.pfit).mono fun _ _ ⟨e1, e2⟩ => ⟨⟨_, e1, vw_of _⟩, _, _, _, _, _, h.on e2⟩
theorem oview1 {w0 w : World} {b : Bk} {x : Pr} {N : Nat} (h : PrE w0 b x w) (hI : Inv N x.B) : Calls Try.prog 12 #[ptr b.p1] w fun e w' => (∃ o, e = .returned o ∧ Vw o (x.B.p.length - x.B.a) (x.B.s - x.B.a)) ∧ PrE w0 b x w' := by
  obtain ⟨q0, q1, v0, v1, tag, h⟩ := h
  exact (fview w b.p1 _ _ h.s1 hI.pfit).mono fun _ _ ⟨e1, e2⟩ => ⟨⟨_, e1, vw_of _⟩, _, _, _, _, _, h.on e2⟩
set_option maxHeartbeats 8000000 in
set_option maxRecDepth 100000 in
theorem fright (w0 w : World) (b : Bk) (x : Pr) (N : Nat) (h : PrE w0 b x w) (hA : Inv N x.A) (hB : Inv N x.B) (hg : Good x) (hu0 : x.u0 ≤ 1000000) (hu1 : x.u1 ≤ 1000000) :
    Calls Try.prog 39 #[ptr b.tb] w fun e w' => e = .returned (.bool true) ∧ PrE w0 b x w' := by
  have HP := Lib.hid h
  have CV0 : Hid (∀ w', PrE w0 b x w' → Calls Try.prog 12 #[ptr b.p0] w' fun e w'' => (∃ o, e = .returned o ∧ Vw o (x.A.p.length - x.A.a) (x.A.s - x.A.a)) ∧ PrE w0 b x w'') := Lib.hid fun w' h' => oview0 h' hA
  have CV1 : Hid (∀ w', PrE w0 b x w' → Calls Try.prog 12 #[ptr b.p1] w' fun e w'' => (∃ o, e = .returned o ∧ Vw o (x.B.p.length - x.B.a) (x.B.s - x.B.a)) ∧ PrE w0 b x w'') := Lib.hid fun w' h' => oview1 h' hB
  have HG0 := Lib.hid hg.right
  have HG1 := Lib.hid hg.swp.right
  have HOK := Lib.hid hg.ok
  have HU := Lib.hid (And.intro hu0 hu1)
  clear h hA hB hg hu0 hu1
  go_enter Try.func39, Try.ntmps39
  go_wp2_with fail
  go_loopg [3] 2 (fun gm s wr => ∃ j : Nat, s = nm j ∧ 2 - j ≤ gm ∧ j ≤ 2 ∧ Hid (PrE w0 b x wr))
  case atStart => exact ⟨0, rfl, by omega, by omega, HP.out⟩
  case round =>
    clear HP
    obtain ⟨j, rfl, hgm, hj2, HW⟩ := hrel
    rcases (show j = 0 ∨ j = 1 ∨ j = 2 by omega) with rfl | rfl | rfl
    · obtain ⟨q0, q1, v0, v1, tag, hp⟩ := HW.out
      have c0 : wr.cell? ⟨b.tb, 0, none⟩ = some (two b.ba) := cell_of hp.blk rfl
      have ca : wr.cell? ⟨b.ba, 0, none⟩ = some (ptr b.p0) := cell_of hp.a rfl
      have CV := Lib.hid (CV0.out wr HW.out)
      clear hp HW
      clear q0 q1 v0 v1 tag
      go_wp2_with fail
      refine CV.out.mono ?_
      rintro _ w2 ⟨⟨o, rfl, hv⟩, h2⟩
      obtain ⟨a, s, g, tt, l, b1, b2, b3, b4, b5, b6, rfl⟩ := hv
      have H2 := Lib.hid h2
      have HB2 := Lib.hid (show Below w2.heap.size w2 (w2.alloc (.cells #[.int .u8 a, .int .u8 s, .int .u8 g, .int .i64 ((x.A.p.length - x.A.a : Nat) : Int), .int .i64 ((x.A.s - x.A.a : Nat) : Int), .int .i64 tt, .int .i64 l, .bool b1, .bool b2, .bool b3, .bool b4, .bool b5, .bool b6] TV (0, 0))) from nest_below w2 [_])
      have hn : (w2.alloc (.cells #[.int .u8 a, .int .u8 s, .int .u8 g, .int .i64 ((x.A.p.length - x.A.a : Nat) : Int), .int .i64 ((x.A.s - x.A.a : Nat) : Int), .int .i64 tt, .int .i64 l, .bool b1, .bool b2, .bool b3, .bool b4, .bool b5, .bool b6] TV (0, 0))).heap[w2.heap.size]? = some (.cells #[.int .u8 a, .int .u8 s, .int .u8 g, .int .i64 ((x.A.p.length - x.A.a : Nat) : Int), .int .i64 ((x.A.s - x.A.a : Nat) : Int), .int .i64 tt, .int .i64 l, .bool b1, .bool b2, .bool b3, .bool b4, .bool b5, .bool b6] TV (0, 0)) := Mem.nest w2 [_] 0 _ rfl
      clear h2 CV c0 ca
      go_wp2_with fail
      have H3 := Lib.hid (H2.out.on HB2.out)
      clear H2 HB2
      generalize w2.alloc (.cells #[.int .u8 a, .int .u8 s, .int .u8 g, .int .i64 ((x.A.p.length - x.A.a : Nat) : Int), .int .i64 ((x.A.s - x.A.a : Nat) : Int), .int .i64 tt, .int .i64 l, .bool b1, .bool b2, .bool b3, .bool b4, .bool b5, .bool b6] TV (0, 0)) = w3 at H3 hn ⊢
      generalize w2.heap.size = vb at hn ⊢
      obtain ⟨⟨e0, e1, e2, e3, e4, e5, e6, e7, e8, e9, e10, e11, e12⟩, -⟩ := cells13 hn
      clear hn
      obtain ⟨q0, q1, v0, v1, tag, hp⟩ := H3.out
      have c2 : w3.cell? ⟨b.tb, 2, none⟩ = some (two b.bu) := cell_of hp.blk rfl
      have c3 : w3.cell? ⟨b.tb, 3, none⟩ = some (two b.bk) := cell_of hp.blk rfl
      have cu : w3.cell? ⟨b.bu, 0, none⟩ = some (nm x.u0) := cell_of hp.u rfl
      have ck : w3.cell? ⟨b.bk, 0, none⟩ = some (nm x.k0) := cell_of hp.k rfl
      clear hp
      obtain ⟨g1, g2, g3, g4, g5⟩ := HG0.out
      skip
      have hu := HU.out.1
      generalize x.A.p.length - x.A.a = W at e0 e1 e2 e3 e4 e5 e6 e7 e8 e9 e10 e11 e12 g1 g2 g3 g4 ⊢
      generalize x.A.s - x.A.a = O at e0 e1 e2 e3 e4 e5 e6 e7 e8 e9 e10 e11 e12 g1 g2 g3 g4 ⊢
      obtain ⟨U, hU⟩ : ∃ U, x.u0 = U := ⟨_, rfl⟩
      obtain ⟨K, hK⟩ : ∃ K, x.k0 = K := ⟨_, rfl⟩
      rw [hU] at cu g1 g4 hu
      rw [hK] at ck g1 g4
      have d1 : decide ((U : Int) < (K : Int)) = false := decide_eq_false (by omega)
      have d1b : decide (U < K) = false := decide_eq_false (by omega)
      have d2 : decide ((7 : Int) < (W : Int)) = false := decide_eq_false (by omega)
      have d2b : decide (7 < W) = false := decide_eq_false (by omega)
      have d3 : decide ((W : Int) < (O : Int)) = false := decide_eq_false (by omega)
      have d3b : decide (W < O) = false := decide_eq_false (by omega)
      have dw : IntKind.i64.wrap ((U : Int) - (W : Int)) = (U : Int) - (W : Int) := by rw [IntKind.wrap_i64]; omega
      have d4 : decide ((K : Int) < (U : Int) - (W : Int)) = false := decide_eq_false (by omega)
      have vb2 : IntKind.i64.wrap 2 = 2 := by decide
      clear g1 g2 g3 g4 g5 hu hU hK
      (try simp only [List.append])
      go_quiet (fail)
      go_wp2
      go_roundg (1)
      case measure => omega
      case rel => exact ⟨1, by first | rfl | go_num, by omega, by omega, H3.out.on (drewN_below ⟨_, rfl⟩)⟩
    · obtain ⟨q0, q1, v0, v1, tag, hp⟩ := HW.out
      have c0 : wr.cell? ⟨b.tb, 0, none⟩ = some (two b.ba) := cell_of hp.blk rfl
      have ca : wr.cell? ⟨b.ba, 1, none⟩ = some (ptr b.p1) := cell_of hp.a rfl
      have CV := Lib.hid (CV1.out wr HW.out)
      clear hp HW
      clear q0 q1 v0 v1 tag
      go_wp2_with fail
      refine CV.out.mono ?_
      rintro _ w2 ⟨⟨o, rfl, hv⟩, h2⟩
      obtain ⟨a, s, g, tt, l, b1, b2, b3, b4, b5, b6, rfl⟩ := hv
      have H2 := Lib.hid h2
      have HB2 := Lib.hid (show Below w2.heap.size w2 (w2.alloc (.cells #[.int .u8 a, .int .u8 s, .int .u8 g, .int .i64 ((x.B.p.length - x.B.a : Nat) : Int), .int .i64 ((x.B.s - x.B.a : Nat) : Int), .int .i64 tt, .int .i64 l, .bool b1, .bool b2, .bool b3, .bool b4, .bool b5, .bool b6] TV (0, 0))) from nest_below w2 [_])
      have hn : (w2.alloc (.cells #[.int .u8 a, .int .u8 s, .int .u8 g, .int .i64 ((x.B.p.length - x.B.a : Nat) : Int), .int .i64 ((x.B.s - x.B.a : Nat) : Int), .int .i64 tt, .int .i64 l, .bool b1, .bool b2, .bool b3, .bool b4, .bool b5, .bool b6] TV (0, 0))).heap[w2.heap.size]? = some (.cells #[.int .u8 a, .int .u8 s, .int .u8 g, .int .i64 ((x.B.p.length - x.B.a : Nat) : Int), .int .i64 ((x.B.s - x.B.a : Nat) : Int), .int .i64 tt, .int .i64 l, .bool b1, .bool b2, .bool b3, .bool b4, .bool b5, .bool b6] TV (0, 0)) := Mem.nest w2 [_] 0 _ rfl
      clear h2 CV c0 ca
      go_wp2_with fail
      have H3 := Lib.hid (H2.out.on HB2.out)
      clear H2 HB2
      generalize w2.alloc (.cells #[.int .u8 a, .int .u8 s, .int .u8 g, .int .i64 ((x.B.p.length - x.B.a : Nat) : Int), .int .i64 ((x.B.s - x.B.a : Nat) : Int), .int .i64 tt, .int .i64 l, .bool b1, .bool b2, .bool b3, .bool b4, .bool b5, .bool b6] TV (0, 0)) = w3 at H3 hn ⊢
      generalize w2.heap.size = vb at hn ⊢
      obtain ⟨⟨e0, e1, e2, e3, e4, e5, e6, e7, e8, e9, e10, e11, e12⟩, -⟩ := cells13 hn
      clear hn
      obtain ⟨q0, q1, v0, v1, tag, hp⟩ := H3.out
      have c2 : w3.cell? ⟨b.tb, 2, none⟩ = some (two b.bu) := cell_of hp.blk rfl
      have c3 : w3.cell? ⟨b.tb, 3, none⟩ = some (two b.bk) := cell_of hp.blk rfl
      have cu : w3.cell? ⟨b.bu, 1, none⟩ = some (nm x.u1) := cell_of hp.u rfl
      have ck : w3.cell? ⟨b.bk, 1, none⟩ = some (nm x.k1) := cell_of hp.k rfl
      clear hp
      obtain ⟨g1, g2, g3, g4, g5⟩ := HG1.out
      simp only [swp] at g1 g2 g3 g4 g5
      have hu := HU.out.2
      generalize x.B.p.length - x.B.a = W at e0 e1 e2 e3 e4 e5 e6 e7 e8 e9 e10 e11 e12 g1 g2 g3 g4 ⊢
      generalize x.B.s - x.B.a = O at e0 e1 e2 e3 e4 e5 e6 e7 e8 e9 e10 e11 e12 g1 g2 g3 g4 ⊢
      obtain ⟨U, hU⟩ : ∃ U, x.u1 = U := ⟨_, rfl⟩
      obtain ⟨K, hK⟩ : ∃ K, x.k1 = K := ⟨_, rfl⟩
      rw [hU] at cu g1 g4 hu
      rw [hK] at ck g1 g4
      have d1 : decide ((U : Int) < (K : Int)) = false := decide_eq_false (by omega)
      have d1b : decide (U < K) = false := decide_eq_false (by omega)
      have d2 : decide ((7 : Int) < (W : Int)) = false := decide_eq_false (by omega)
      have d2b : decide (7 < W) = false := decide_eq_false (by omega)
      have d3 : decide ((W : Int) < (O : Int)) = false := decide_eq_false (by omega)
      have d3b : decide (W < O) = false := decide_eq_false (by omega)
      have dw : IntKind.i64.wrap ((U : Int) - (W : Int)) = (U : Int) - (W : Int) := by rw [IntKind.wrap_i64]; omega
      have d4 : decide ((K : Int) < (U : Int) - (W : Int)) = false := decide_eq_false (by omega)
      have vb2 : IntKind.i64.wrap 2 = 2 := by decide
      clear g1 g2 g3 g4 g5 hu hU hK
      (try simp only [List.append])
      go_quiet (fail)
      go_wp2
      go_roundg (0)
      case measure => omega
      case rel => exact ⟨2, by first | rfl | go_num, by omega, by omega, H3.out.on (drewN_below ⟨_, rfl⟩)⟩
    · obtain ⟨q0, q1, v0, v1, tag, hp⟩ := HW.out
      have cb : wr.cell? ⟨b.tb, 4, none⟩ = some (.bool false) := by rw [← HOK.out]; exact cell_of hp.blk rfl
      clear hp
      clear q0 q1 v0 v1 tag
      have t3 : decide (((2 : Nat) : Int) < 2) = false := by decide
      go_wp2
      go_ret
      exact ⟨rfl, HW.out⟩
end Go.Proofs.Ytkoaplmlabagnaa.Aq

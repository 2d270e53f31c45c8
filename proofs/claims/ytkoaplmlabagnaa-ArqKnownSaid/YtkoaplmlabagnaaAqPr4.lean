/-
  Is all as it should be? Condition: the sides lie where they say and are as the mathematics has them.
  A pair's send and hand, as the mathematics has them. Condition: the pair is in order and few frames wait.
-/
import Derived.Test.YtkoaplmlabagnaaAqPr2
import Derived.Test.YtkoaplmlabagnaaAqPm10
import Derived.Test.YtkoaplmlabagnaaAqInv
import Derived.Test.YtkoaplmlabagnaaAqPr3
namespace Go.Proofs.Ytkoaplmlabagnaa.Aq
open Go.RowKit Go.Proofs.Ytkoaplmlabagnaa.Base Go.Proofs.Ytkoaplmlabagnaa.Mem
/-- What a side tells, with the numbers that the pair looks at. -/
def Vw (o : Value) (W O : Nat) : Prop := ∃ (a s g t l : Int) (b1 b2 b3 b4 b5 b6 : Bool), o = .agg #[.int .u8 a, .int .u8 s, .int .u8 g, .int .i64 (W : Int), .int .i64 (O : Int), .int .i64 t, .int .i64 l, .bool b1, .bool b2, .bool b3, .bool b4, .bool b5, .bool b6]
theorem vw_of (x : Sd) : Vw (vwv (Ps.of x)) (x.p.length - x.a) (x.s - x.a) := by
  unfold vwv Ps.of Vw
  dsimp only
  rw [List.length_drop]
  exact ⟨_, _, _, _, _, _, _, _, _, _, _, rfl⟩
theorem oview0 {w0 w : World} {b : Bk} {x : Pr} {N : Nat} (h : PrE w0 b x w) (hI : Inv N x.A) : Calls Try.prog 12 #[ptr b.p0] w fun e w' => (∃ o, e = .returned o ∧ Vw o (x.A.p.length - x.A.a) (x.A.s - x.A.a)) ∧ PrE w0 b x w' := by
  obtain ⟨q0, q1, v0, v1, tag, h⟩ := h
  exact (fview w b.p0 _ _ h.s0 hI.pfit).mono fun _ _ ⟨e1, e2⟩ => ⟨⟨_, e1, vw_of _⟩, _, _, _, _, _, h.on e2⟩
theorem oview1 {w0 w : World} {b : Bk} {x : Pr} {N : Nat} (h : PrE w0 b x w) (hI : Inv N x.B) : Calls Try.prog 12 #[ptr b.p1] w fun e w' => (∃ o, e = .returned o ∧ Vw o (x.B.p.length - x.B.a) (x.B.s - x.B.a)) ∧ PrE w0 b x w' := by
  obtain ⟨q0, q1, v0, v1, tag, h⟩ := h
  exact (fview w b.p1 _ _ h.s1 hI.pfit).mono fun _ _ ⟨e1, e2⟩ => ⟨⟨_, e1, vw_of _⟩, _, _, _, _, _, h.on e2⟩
set_option maxHeartbeats 8000000 in
set_option maxRecDepth 100000 in
theorem fright (w0 w : World) (b : Bk) (x : Pr) (N : Nat) (h : PrE w0 b x w) (hA : Inv N x.A) (hB : Inv N x.B) (hg : Good x) (hu0 : x.u0 ≤ 1000000) (hu1 : x.u1 ≤ 1000000) :
    Calls Try.prog 39 #[ptr b.tb] w fun e w' => e = .returned (.bool true) ∧ PrE w0 b x w' := by
  have HP := Lib.hid h
  have CV0 : Hid (∀ w', PrE w0 b x w' → Calls Try.prog 12 #[ptr b.p0] w' fun e w'' => (∃ o, e = .returned o ∧ Vw o (x.A.p.length - x.A.a) (x.A.s - x.A.a)) ∧ PrE w0 b x w'') := Lib.hid fun w' h' => oview0 h' hA
  have CV1 : Hid (∀ w', PrE w0 b x w' → Calls Try.prog 12 #[ptr b.p1] w' fun e w'' => (∃ o, e = .returned o ∧ Vw o (x.B.p.length - x.B.a) (x.B.s - x.B.a)) ∧ PrE w0 b x w'') := Lib.hid fun w' h' => oview1 h' hB
  have HG0 := Lib.hid hg.right
  have HG1 := Lib.hid hg.swp.right
  have HOK := Lib.hid hg.ok
  have HU := Lib.hid (And.intro hu0 hu1)
  clear h hA hB hg hu0 hu1
  go_enter Try.func39, Try.ntmps39
  go_wp2_with fail
  go_loopg [3] 2 (fun gm s wr => ∃ j : Nat, s = nm j ∧ 2 - j ≤ gm ∧ j ≤ 2 ∧ Hid (PrE w0 b x wr))
  case atStart => exact ⟨0, rfl, by omega, by omega, HP.out⟩
  case round =>
    clear HP
    obtain ⟨j, rfl, hgm, hj2, HW⟩ := hrel
    rcases (show j = 0 ∨ j = 1 ∨ j = 2 by omega) with rfl | rfl | rfl
    · obtain ⟨q0, q1, v0, v1, tag, hp⟩ := HW.out
      have c0 : wr.cell? ⟨b.tb, 0, none⟩ = some (two b.ba) := cell_of hp.blk rfl
      have ca : wr.cell? ⟨b.ba, 0, none⟩ = some (ptr b.p0) := cell_of hp.a rfl
      have CV := Lib.hid (CV0.out wr HW.out)
      clear hp HW
      clear q0 q1 v0 v1 tag
      go_wp2_with fail
      refine CV.out.mono ?_
      rintro _ w2 ⟨⟨o, rfl, hv⟩, h2⟩
      obtain ⟨a, s, g, tt, l, b1, b2, b3, b4, b5, b6, rfl⟩ := hv
      have H2 := Lib.hid h2
      have HB2 := Lib.hid (show Below w2.heap.size w2 (w2.alloc (.cells #[.int .u8 a, .int .u8 s, .int .u8 g, .int .i64 ((x.A.p.length - x.A.a : Nat) : Int), .int .i64 ((x.A.s - x.A.a : Nat) : Int), .int .i64 tt, .int .i64 l, .bool b1, .bool b2, .bool b3, .bool b4, .bool b5, .bool b6] TV (0, 0))) from nest_below w2 [_])
      have hn : (w2.alloc (.cells #[.int .u8 a, .int .u8 s, .int .u8 g, .int .i64 ((x.A.p.length - x.A.a : Nat) : Int), .int .i64 ((x.A.s - x.A.a : Nat) : Int), .int .i64 tt, .int .i64 l, .bool b1, .bool b2, .bool b3, .bool b4, .bool b5, .bool b6] TV (0, 0))).heap[w2.heap.size]? = some (.cells #[.int .u8 a, .int .u8 s, .int .u8 g, .int .i64 ((x.A.p.length - x.A.a : Nat) : Int), .int .i64 ((x.A.s - x.A.a : Nat) : Int), .int .i64 tt, .int .i64 l, .bool b1, .bool b2, .bool b3, .bool b4, .bool b5, .bool b6] TV (0, 0)) := Mem.nest w2 [_] 0 _ rfl
      clear h2 CV c0 ca
      go_wp2_with fail
      have H3 := Lib.hid (H2.out.on HB2.out)
      clear H2 HB2
      generalize w2.alloc (.cells #[.int .u8 a, .int .u8 s, .int .u8 g, .int .i64 ((x.A.p.length - x.A.a : Nat) : Int), .int .i64 ((x.A.s - x.A.a : Nat) : Int), .int .i64 tt, .int .i64 l, .bool b1, .bool b2, .bool b3, .bool b4, .bool b5, .bool b6] TV (0, 0)) = w3 at H3 hn ⊢
      generalize w2.heap.size = vb at hn ⊢
      obtain ⟨⟨e0, e1, e2, e3, e4, e5, e6, e7, e8, e9, e10, e11, e12⟩, -⟩ := cells13 hn
      clear hn
      obtain ⟨q0, q1, v0, v1, tag, hp⟩ := H3.out
      have c2 : w3.cell? ⟨b.tb, 2, none⟩ = some (two b.bu) := cell_of hp.blk rfl
      have c3 : w3.cell? ⟨b.tb, 3, none⟩ = some (two b.bk) := cell_of hp.blk rfl
      have cu : w3.cell? ⟨b.bu, 0, none⟩ = some (nm x.u0) := cell_of hp.u rfl
      have ck : w3.cell? ⟨b.bk, 0, none⟩ = some (nm x.k0) := cell_of hp.k rfl
      clear hp
      obtain ⟨g1, g2, g3, g4, g5⟩ := HG0.out
      skip
      have hu := HU.out.1
      generalize x.A.p.length - x.A.a = W at e0 e1 e2 e3 e4 e5 e6 e7 e8 e9 e10 e11 e12 g1 g2 g3 g4 ⊢
      generalize x.A.s - x.A.a = O at e0 e1 e2 e3 e4 e5 e6 e7 e8 e9 e10 e11 e12 g1 g2 g3 g4 ⊢
      obtain ⟨U, hU⟩ : ∃ U, x.u0 = U := ⟨_, rfl⟩
      obtain ⟨K, hK⟩ : ∃ K, x.k0 = K := ⟨_, rfl⟩
      rw [hU] at cu g1 g4 hu
      rw [hK] at ck g1 g4
      have d1 : decide ((U : Int) < (K : Int)) = false := decide_eq_false (by omega)
      have d1b : decide (U < K) = false := decide_eq_false (by omega)
      have d2 : decide ((7 : Int) < (W : Int)) = false := decide_eq_false (by omega)
      have d2b : decide (7 < W) = false := decide_eq_false (by omega)
      have d3 : decide ((W : Int) < (O : Int)) = false := decide_eq_false (by omega)
      have d3b : decide (W < O) = false := decide_eq_false (by omega)
      have dw : IntKind.i64.wrap ((U : Int) - (W : Int)) = (U : Int) - (W : Int) := by rw [IntKind.wrap_i64]; omega
      have d4 : decide ((K : Int) < (U : Int) - (W : Int)) = false := decide_eq_false (by omega)
      have vb2 : IntKind.i64.wrap 2 = 2 := by decide
      clear g1 g2 g3 g4 g5 hu hU hK
      (try simp only [List.append])
      go_quiet (fail)
      go_wp2
      go_roundg (1)
      case measure => omega
      case rel => exact ⟨1, by first | rfl | go_num, by omega, by omega, H3.out.on (drewN_below ⟨_, rfl⟩)⟩
    · obtain ⟨q0, q1, v0, v1, tag, hp⟩ := HW.out
      have c0 : wr.cell? ⟨b.tb, 0, none⟩ = some (two b.ba) := cell_of hp.blk rfl
      have ca : wr.cell? ⟨b.ba, 1, none⟩ = some (ptr b.p1) := cell_of hp.a rfl
      have CV := Lib.hid (CV1.out wr HW.out)
      clear hp HW
      clear q0 q1 v0 v1 tag
      go_wp2_with fail
      refine CV.out.mono ?_
      rintro _ w2 ⟨⟨o, rfl, hv⟩, h2⟩
      obtain ⟨a, s, g, tt, l, b1, b2, b3, b4, b5, b6, rfl⟩ := hv
      have H2 := Lib.hid h2
      have HB2 := Lib.hid (show Below w2.heap.size w2 (w2.alloc (.cells #[.int .u8 a, .int .u8 s, .int .u8 g, .int .i64 ((x.B.p.length - x.B.a : Nat) : Int), .int .i64 ((x.B.s - x.B.a : Nat) : Int), .int .i64 tt, .int .i64 l, .bool b1, .bool b2, .bool b3, .bool b4, .bool b5, .bool b6] TV (0, 0))) from nest_below w2 [_])
      have hn : (w2.alloc (.cells #[.int .u8 a, .int .u8 s, .int .u8 g, .int .i64 ((x.B.p.length - x.B.a : Nat) : Int), .int .i64 ((x.B.s - x.B.a : Nat) : Int), .int .i64 tt, .int .i64 l, .bool b1, .bool b2, .bool b3, .bool b4, .bool b5, .bool b6] TV (0, 0))).heap[w2.heap.size]? = some (.cells #[.int .u8 a, .int .u8 s, .int .u8 g, .int .i64 ((x.B.p.length - x.B.a : Nat) : Int), .int .i64 ((x.B.s - x.B.a : Nat) : Int), .int .i64 tt, .int .i64 l, .bool b1, .bool b2, .bool b3, .bool b4, .bool b5, .bool b6] TV (0, 0)) := Mem.nest w2 [_] 0 _ rfl
      clear h2 CV c0 ca
      go_wp2_with fail
      have H3 := Lib.hid (H2.out.on HB2.out)
      clear H2 HB2
      generalize w2.alloc (.cells #[.int .u8 a, .int .u8 s, .int .u8 g, .int .i64 ((x.B.p.length - x.B.a : Nat) : Int), .int .i64 ((x.B.s - x.B.a : Nat) : Int), .int .i64 tt, .int .i64 l, .bool b1, .bool b2, .bool b3, .bool b4, .bool b5, .bool b6] TV (0, 0)) = w3 at H3 hn ⊢
      generalize w2.heap.size = vb at hn ⊢
      obtain ⟨⟨e0, e1, e2, e3, e4, e5, e6, e7, e8, e9, e10, e11, e12⟩, -⟩ := cells13 hn
      clear hn
      obtain ⟨q0, q1, v0, v1, tag, hp⟩ := H3.out
      have c2 : w3.cell? ⟨b.tb, 2, none⟩ = some (two b.bu) := cell_of hp.blk rfl
      have c3 : w3.cell? ⟨b.tb, 3, none⟩ = some (two b.bk) := cell_of hp.blk rfl
      have cu : w3.cell? ⟨b.bu, 1, none⟩ = some (nm x.u1) := cell_of hp.u rfl
      have ck : w3.cell? ⟨b.bk, 1, none⟩ = some (nm x.k1) := cell_of hp.k rfl
      clear hp
      obtain ⟨g1, g2, g3, g4, g5⟩ := HG1.out
      simp only [swp] at g1 g2 g3 g4 g5
      have hu := HU.out.2
      generalize x.B.p.length - x.B.a = W at e0 e1 e2 e3 e4 e5 e6 e7 e8 e9 e10 e11 e12 g1 g2 g3 g4 ⊢
      generalize x.B.s - x.B.a = O at e0 e1 e2 e3 e4 e5 e6 e7 e8 e9 e10 e11 e12 g1 g2 g3 g4 ⊢
      obtain ⟨U, hU⟩ : ∃ U, x.u1 = U := ⟨_, rfl⟩
      obtain ⟨K, hK⟩ : ∃ K, x.k1 = K := ⟨_, rfl⟩
      rw [hU] at cu g1 g4 hu
      rw [hK] at ck g1 g4
      have d1 : decide ((U : Int) < (K : Int)) = false := decide_eq_false (by omega)
      have d1b : decide (U < K) = false := decide_eq_false (by omega)
      have d2 : decide ((7 : Int) < (W : Int)) = false := decide_eq_false (by omega)
      have d2b : decide (7 < W) = false := decide_eq_false (by omega)
      have d3 : decide ((W : Int) < (O : Int)) = false := decide_eq_false (by omega)
      have d3b : decide (W < O) = false := decide_eq_false (by omega)
      have dw : IntKind.i64.wrap ((U : Int) - (W : Int)) = (U : Int) - (W : Int) := by rw [IntKind.wrap_i64]; omega
      have d4 : decide ((K : Int) < (U : Int) - (W : Int)) = false := decide_eq_false (by omega)
      have vb2 : IntKind.i64.wrap 2 = 2 := by decide
      clear g1 g2 g3 g4 g5 hu hU hK
      (try simp only [List.append])
      go_quiet (fail)
      go_wp2
      go_roundg (0)
      case measure => omega
      case rel => exact ⟨2, by first | rfl | go_num, by omega, by omega, H3.out.on (drewN_below ⟨_, rfl⟩)⟩
    · obtain ⟨q0, q1, v0, v1, tag, hp⟩ := HW.out
      have cb : wr.cell? ⟨b.tb, 4, none⟩ = some (.bool false) := by rw [← HOK.out]; exact cell_of hp.blk rfl
      clear hp
      clear q0 q1 v0 v1 tag
      have t3 : decide (((2 : Nat) : Int) < 2) = false := by decide
      go_wp2
      go_ret
      exact ⟨rfl, HW.out⟩
section
variable {w0 w : World} {b : Bk} {x : Pr} {N M : Nat}
theorem osend0 (h : PrE w0 b x w) (hk : Pok N M x) (hM : M ≤ 1000) : Calls Try.prog 37 #[ptr b.tb, .int .i64 0] w fun e w' => e = .returned (.bool (next x.A).2.2) ∧ PrE w0 b (pSend x) w' := by
  rcases hn : next x.A with ⟨A2, ⟨fc, fk, fpf, fns, fnr, fi⟩, ok⟩
  refine (fsend0_of w0 w b x N h hk.a (Nat.le_trans hk.l0 hM) A2 fc fk fpf fns fnr fi ok hn).mono fun e w' ⟨e1, e2⟩ => ⟨e1, ?_⟩
  show PrE w0 b ⟨(next x.A).1, x.B, sent x.A x.L0, x.L1, x.u0, x.u1, x.k0, x.k1, x.bad⟩ w'
  unfold sent
  rw [hn]
  exact e2
theorem ohand0 (h : PrE w0 b x w) (hk : Pok N M x) (hN : N ≤ 1000000) : Calls Try.prog 38 #[ptr b.tb, .int .i64 0, .bool false] w fun e w' => e = .returned (.bool (!x.L0.isEmpty)) ∧ PrE w0 b (pHand x) w' := by
  rcases hL : x.L0 with _ | ⟨⟨⟨fc, fk, fpf, fns, fnr, fi⟩, j, rr⟩, r⟩
  · refine (fhand0_none w0 w b x false h hL).mono fun e w' ⟨e1, e2⟩ => ⟨e1, ?_⟩
    subst e2
    rw [pHand_nil (x := x) hL]
    exact h
  · have hL2 : x.L0 = ⟨⟨fc, fk, fpf, fns, fnr, fi⟩, j, rr⟩ :: r := hL
    obtain ⟨g1, g2⟩ := heard_of hk.g hL2
    obtain ⟨n1, n2⟩ := hk.f0 _ (by rw [hL2]; exact List.mem_cons_self ..)
    rw [pHand_cons hL2]
    have ho : x.B = x.B := rfl
    have hkk : x.k0 = x.k0 := rfl
    rw [ho, hkk] at g2
    rw [ho] at g1
    rw [ho, hkk]
    dsimp only at g1 g2 n1 n2 ⊢
    rcases hh : hear ⟨fc, fk, fpf, fns, fnr, fi⟩ x.B with ⟨X2, ⟨mi, tk, ma, fl⟩⟩
    rw [hh] at g1 g2
    dsimp only at g1 g2 ⊢
    subst g1
    cases tk
    · refine (fhand0_no w0 w b x N h hk.b fc fk fpf fns fnr fi j rr r hL n1 n2 X2 mi ma hh (Nat.le_trans hk.k0 hN)).mono fun e w' ⟨e1, e2⟩ => ⟨e1, ?_⟩
      have hq : (⟨x.A, X2, r, x.L1, x.u0, x.u1, (if false = true then x.k0 + 1 else x.k0), x.k1, x.bad || false || (false && !decide (mi = inf x.k0))⟩ : Pr) = { x with B := X2, L0 := r } := by
        simp
      rw [hq]
      exact e2
    · have hm := g2 rfl
      refine (fhand0_yes w0 w b x N h hk.b fc fk fpf fns fnr fi j rr r hL n1 n2 X2 mi ma hh hm (Nat.le_trans hk.k0 hN)).mono fun e w' ⟨e1, e2⟩ => ⟨e1, ?_⟩
      have hq : (⟨x.A, X2, r, x.L1, x.u0, x.u1, (if true = true then x.k0 + 1 else x.k0), x.k1, x.bad || false || (true && !decide (mi = inf x.k0))⟩ : Pr) = { x with B := X2, L0 := r, k0 := x.k0 + 1 } := by
        simp [hm]
      rw [hq]
      exact e2
theorem olose0 (h : PrE w0 b x w) (lost : Bool) (hl : lost = true) : Calls Try.prog 38 #[ptr b.tb, .int .i64 0, .bool lost] w fun e w' => (∃ o, e = .returned (.bool o)) ∧ PrE w0 b (pLose x) w' := by
  subst hl
  rcases hL : x.L0 with _ | ⟨⟨⟨fc, fk, fpf, fns, fnr, fi⟩, j, rr⟩, r⟩
  · refine (fhand0_none w0 w b x true h hL).mono fun e w' ⟨e1, e2⟩ => ⟨⟨_, e1⟩, ?_⟩
    subst e2
    have hq : (pLose x) = x := by
      show ({ x with L0 := x.L0.drop 1 } : Pr) = x
      rw [hL]
      show ({ x with L0 := [] } : Pr) = x
      rw [← hL]
    rw [hq]
    exact h
  · refine (fhand0_lost w0 w b x h fc fk fpf fns fnr fi j rr r hL).mono fun e w' ⟨e1, e2⟩ => ⟨⟨_, e1⟩, ?_⟩
    have hq : (pLose x) = { x with L0 := r } := by
      show ({ x with L0 := x.L0.drop 1 } : Pr) = _
      rw [hL]
      rfl
    rw [hq]
    exact e2
theorem osend1 (h : PrE w0 b x w) (hk : Pok N M x) (hM : M ≤ 1000) : Calls Try.prog 37 #[ptr b.tb, .int .i64 1] w fun e w' => e = .returned (.bool (next x.B).2.2) ∧ PrE w0 b (swp (pSend (swp x))) w' := by
  rcases hn : next x.B with ⟨A2, ⟨fc, fk, fpf, fns, fnr, fi⟩, ok⟩
  refine (fsend1_of w0 w b x N h hk.b (Nat.le_trans hk.l1 hM) A2 fc fk fpf fns fnr fi ok hn).mono fun e w' ⟨e1, e2⟩ => ⟨e1, ?_⟩
  show PrE w0 b ⟨x.A, (next x.B).1, x.L0, sent x.B x.L1, x.u0, x.u1, x.k0, x.k1, x.bad⟩ w'
  unfold sent
  rw [hn]
  exact e2
theorem ohand1 (h : PrE w0 b x w) (hk : Pok N M x) (hN : N ≤ 1000000) : Calls Try.prog 38 #[ptr b.tb, .int .i64 1, .bool false] w fun e w' => e = .returned (.bool (!x.L1.isEmpty)) ∧ PrE w0 b (swp (pHand (swp x))) w' := by
  rcases hL : x.L1 with _ | ⟨⟨⟨fc, fk, fpf, fns, fnr, fi⟩, j, rr⟩, r⟩
  · refine (fhand1_none w0 w b x false h hL).mono fun e w' ⟨e1, e2⟩ => ⟨e1, ?_⟩
    subst e2
    rw [pHand_nil (x := (swp x)) hL]
    exact h
  · have hL2 : (swp x).L0 = ⟨⟨fc, fk, fpf, fns, fnr, fi⟩, j, rr⟩ :: r := hL
    obtain ⟨g1, g2⟩ := heard_of hk.swp.g hL2
    obtain ⟨n1, n2⟩ := hk.swp.f0 _ (by rw [hL2]; exact List.mem_cons_self ..)
    rw [pHand_cons hL2]
    have ho : (swp x).B = x.A := rfl
    have hkk : (swp x).k0 = x.k1 := rfl
    rw [ho, hkk] at g2
    rw [ho] at g1
    rw [ho, hkk]
    dsimp only at g1 g2 n1 n2 ⊢
    rcases hh : hear ⟨fc, fk, fpf, fns, fnr, fi⟩ x.A with ⟨X2, ⟨mi, tk, ma, fl⟩⟩
    rw [hh] at g1 g2
    dsimp only at g1 g2 ⊢
    subst g1
    cases tk
    · refine (fhand1_no w0 w b x N h hk.a fc fk fpf fns fnr fi j rr r hL n1 n2 X2 mi ma hh (Nat.le_trans hk.k1 hN)).mono fun e w' ⟨e1, e2⟩ => ⟨e1, ?_⟩
      have hq : (swp ⟨(swp x).A, X2, r, (swp x).L1, (swp x).u0, (swp x).u1, (if false = true then x.k1 + 1 else x.k1), (swp x).k1, (swp x).bad || false || (false && !decide (mi = inf x.k1))⟩ : Pr) = { x with A := X2, L1 := r } := by
        simp [swp]
      rw [hq]
      exact e2
    · have hm := g2 rfl
      refine (fhand1_yes w0 w b x N h hk.a fc fk fpf fns fnr fi j rr r hL n1 n2 X2 mi ma hh hm (Nat.le_trans hk.k1 hN)).mono fun e w' ⟨e1, e2⟩ => ⟨e1, ?_⟩
      have hq : (swp ⟨(swp x).A, X2, r, (swp x).L1, (swp x).u0, (swp x).u1, (if true = true then x.k1 + 1 else x.k1), (swp x).k1, (swp x).bad || false || (true && !decide (mi = inf x.k1))⟩ : Pr) = { x with A := X2, L1 := r, k1 := x.k1 + 1 } := by
        simp [swp, hm]
      rw [hq]
      exact e2
theorem olose1 (h : PrE w0 b x w) (lost : Bool) (hl : lost = true) : Calls Try.prog 38 #[ptr b.tb, .int .i64 1, .bool lost] w fun e w' => (∃ o, e = .returned (.bool o)) ∧ PrE w0 b (swp (pLose (swp x))) w' := by
  subst hl
  rcases hL : x.L1 with _ | ⟨⟨⟨fc, fk, fpf, fns, fnr, fi⟩, j, rr⟩, r⟩
  · refine (fhand1_none w0 w b x true h hL).mono fun e w' ⟨e1, e2⟩ => ⟨⟨_, e1⟩, ?_⟩
    subst e2
    have hq : (swp (pLose (swp x))) = x := by
      show ({ x with L1 := x.L1.drop 1 } : Pr) = x
      rw [hL]
      show ({ x with L1 := [] } : Pr) = x
      rw [← hL]
    rw [hq]
    exact h
  · refine (fhand1_lost w0 w b x h fc fk fpf fns fnr fi j rr r hL).mono fun e w' ⟨e1, e2⟩ => ⟨⟨_, e1⟩, ?_⟩
    have hq : (swp (pLose (swp x))) = { x with L1 := r } := by
      show ({ x with L1 := x.L1.drop 1 } : Pr) = _
      rw [hL]
      rfl
    rw [hq]
    exact e2
end
end Go.Proofs.Ytkoaplmlabagnaa.Aq

/-
  ArqFails answers true for everything, and turns nothing that was there. No condition.
-/
import Derived.Test.YtkoaplmlabagnaaTk
import Derived.Test.YtkoaplmlabagnaaAqOne
import Derived.Deep.LoopGhost
namespace Go.Proofs.Ytkoaplmlabagnaa.Aq
open Go.RowKit Go.Proofs.Ytkoaplmlabagnaa.Base Go.Proofs.Ytkoaplmlabagnaa.Mem
def wx : ByteArray := ⟨#[120]⟩
/-- A side that is never answered: j times asked, i ticks since. -/
def rn (n2 t1 j i : Nat) : Ps := ⟨0, 0, 1, j, t1 - i, false, false, false, decide (0 < j), false, false, 3, n2, t1, [wx], 1, false, false, false, false⟩
theorem rn_fit (n2 t1 j i : Nat) (h2 : n2 ≤ 12) (h1 : t1 ≤ 12) (hj : j ≤ 12) : PFit (rn n2 t1 j i) := by
  constructor <;> (unfold rn; dsimp only) <;> first | decide | omega
theorem tick_a (n2 t1 j i : Nat) (h : i + 1 < t1) : Ps.tick (rn n2 t1 j i) = (rn n2 t1 j (i + 1), noAm) := by
  unfold Ps.tick rn
  dsimp only
  rw [if_neg (by simp; omega), if_pos (by omega), show t1 - i - 1 = t1 - (i + 1) by omega]
theorem tick_b (n2 t1 j i : Nat) (h : i + 1 = t1) (hj : j < n2) : Ps.tick (rn n2 t1 j i) = ({ rn n2 t1 (j + 1) 0 with poll := true }, noAm) := by
  unfold Ps.tick rn
  dsimp only
  rw [if_neg (by simp; omega), if_neg (by omega), if_pos (Or.inl (by decide)), if_neg (by omega), Nat.sub_zero, show decide (0 < j + 1) = true from decide_eq_true (by omega)]
/-- It has failed. -/
def fl (n2 t1 i : Nat) : Ps := { rn n2 t1 n2 i with lf := 0, tr := n2 + 1, fl := true }
theorem tick_c (n2 t1 i : Nat) (h : i + 1 = t1) : Ps.tick (rn n2 t1 n2 i) = (fl n2 t1 i, ⟨bE, false, 0, true⟩) := by
  unfold Ps.tick fl rn
  dsimp only
  rw [if_neg (by simp; omega), if_neg (by omega), if_pos (Or.inl (by decide)), if_pos (by omega)]
theorem next_a (n2 t1 j i : Nat) : Ps.next (rn n2 t1 j i) = (rn n2 t1 j i, noFm, false) := by
  unfold Ps.next
  rw [if_neg (by simp [Ps.has, Ps.may, rn])]
theorem next_b (n2 t1 j : Nat) (h : 1 ≤ t1) : Ps.next { rn n2 t1 (j + 1) 0 with poll := true } = (rn n2 t1 (j + 1) 0, ⟨true, 8, true, 0, 0, bE⟩, true) := by
  unfold Ps.next
  rw [if_pos (by simp [Ps.has, rn])]
  unfold Ps.takeDue
  rw [if_neg (by simp [rn]), if_pos rfl]
  unfold Ps.takePoll Ps.count
  rw [if_neg (by simp [Ps.counts, rn]), if_neg (by simp [rn]; omega)]
  rfl
theorem next_c (n2 t1 i : Nat) : Ps.next (fl n2 t1 i) = (fl n2 t1 i, noFm, false) := by
  unfold Ps.next
  rw [if_neg (by simp [Ps.has, fl])]
theorem fl_fit (n2 t1 i : Nat) (h2 : n2 ≤ 12) (h1 : t1 ≤ 12) : PFit (fl n2 t1 i) := by
  constructor <;> (unfold fl rn; dsimp only) <;> first | decide | omega
theorem vw_fl (a b c n1 n2 n3 n4 : Int) (b1 b2 b3 b4 b5 b6 : Bool) (W : World) : (Instr.field 35 (.agg #[.int .u8 a, .int .u8 b, .int .u8 c, .int .i64 n1, .int .i64 n2, .int .i64 n3, .int .i64 n4, .bool b1, .bool b2, .bool b3, .bool b4, .bool b5, .bool b6]) 12).run Try.prog W = .ok (.bool b6) W := by kernel_rfl
/-- What a round of the law's loop calls: Tick, View, Next. -/
structure Rd (w0 : World) (pb : Nat) (y y2 y3 : Ps) (fx : Bool) (f : Fm) (ok : Bool) : Prop where
  t : ∀ w, One [] w0 pb y w → Calls Try.prog 20 #[ptr pb] w fun e w' => e = .returned (.agg #[.string ⟨#[]⟩, .bool false, .int .i64 0, .bool fx]) ∧ One [] w0 pb y2 w'
  v : ∃ (a b c n1 n2 n3 n4 : Int) (b1 b2 b3 b4 b5 : Bool), ∀ (m : List (Nat × Obj)) (w : World), One m w0 pb y2 w → Calls Try.prog 12 #[ptr pb] w fun e w' => e = .returned (.agg #[.int .u8 a, .int .u8 b, .int .u8 c, .int .i64 n1, .int .i64 n2, .int .i64 n3, .int .i64 n4, .bool b1, .bool b2, .bool b3, .bool b4, .bool b5, .bool fx]) ∧ One m w0 pb y2 w'
  n : ∀ (m : List (Nat × Obj)) (w : World), One m w0 pb y2 w → Calls Try.prog 19 #[ptr pb] w fun e w' => e = .returned (.tuple #[.agg #[.int .u8 0, .bool f.c, .int .u8 (f.k : Int), .bool f.pf, .int .u8 (f.ns : Int), .int .u8 (f.nr : Int), .string f.i], .bool ok]) ∧ One m w0 pb y3 w'
theorem Rd.of (w0 : World) (pb : Nat) (y : Ps) (f : Fm) (ok fx : Bool) (y2 y3 : Ps) (hy : PFit y) (hy2 : PFit y2) (ht : Ps.tick y = (y2, ⟨bE, false, 0, fx⟩)) (hn : Ps.next y2 = (y3, f, ok)) (hf : y2.fl = fx) : Rd w0 pb y y2 y3 fx f ok := by
  refine ⟨fun w h => ?_, ?_, fun m w h => ?_⟩
  · have := oTick h hy
    rw [ht] at this
    exact this
  · subst hf
    exact ⟨_, _, _, _, _, _, _, _, _, _, _, _, fun m w h => oView h hy2⟩
  · have := oNext h hy2
    rw [hn] at this
    exact this
end Go.Proofs.Ytkoaplmlabagnaa.Aq
namespace Go.Proofs.Ytkoaplmlabagnaa.arqFails
open Go.RowKit Go.Proofs.Ytkoaplmlabagnaa.Base Go.Proofs.Ytkoaplmlabagnaa.Mem Go.Proofs.Ytkoaplmlabagnaa.Aq
theorem mul_le (a b c : Nat) (h : a + 1 ≤ b) : a * c + c ≤ b * c := by rw [← Nat.succ_mul]; exact Nat.mul_le_mul_right _ h
set_option maxHeartbeats 16000000 in
set_option maxRecDepth 100000 in
theorem law (n2 : Nat) (hn2 : n2 < 256) (t1 : Nat) (ht1 : t1 < 256) (w : World) :
    Calls Try.prog 5 #[.int .u8 (n2 : Int), .int .u8 (t1 : Int)] w fun e w' => e = .returned (.bool true) ∧ Below w.heap.size w w' := by
  by_cases h1 : 12 < n2
  · have g1 : (12 : Int) < (n2 : Int) := by omega
    have g1b : decide ((12 : Int) < (n2 : Int)) = true := decide_eq_true g1
    have g1c : decide (12 < n2) = true := decide_eq_true h1
    have cw := Lib.hid (fworks w)
    go_enter Try.func5, Try.ntmps5
    go_wp2_with fail
    refine cw.out.mono ?_
    rintro _ w1 ⟨rfl, hb⟩
    have HB := Lib.hid hb
    clear hb cw
    go_wp2
    go_ret
    exact ⟨rfl, HB.out⟩
  have g1 : ¬ (12 : Int) < (n2 : Int) := by omega
  have g1b : decide ((12 : Int) < (n2 : Int)) = false := decide_eq_false g1
  have g1c : decide (12 < n2) = false := decide_eq_false h1
  by_cases h2 : t1 < 1
  · have g2 : (t1 : Int) < 1 := by omega
    have g2b : decide ((t1 : Int) < 1) = true := decide_eq_true g2
    have g2c : decide (t1 < 1) = true := decide_eq_true h2
    have g2d : t1 = 0 := by omega
    have cw := Lib.hid (fworks w)
    go_enter Try.func5, Try.ntmps5
    go_wp2_with fail
    refine cw.out.mono ?_
    rintro _ w1 ⟨rfl, hb⟩
    have HB := Lib.hid hb
    clear hb cw
    go_wp2
    go_ret
    exact ⟨rfl, HB.out⟩
  have g2 : ¬ (t1 : Int) < 1 := by omega
  have g2b : decide ((t1 : Int) < 1) = false := decide_eq_false g2
  have g2c : decide (t1 < 1) = false := decide_eq_false h2
  by_cases h3 : 12 < t1
  · have g3 : (12 : Int) < (t1 : Int) := by omega
    have g3b : decide ((12 : Int) < (t1 : Int)) = true := decide_eq_true g3
    have g3c : decide (12 < t1) = true := decide_eq_true h3
    have cw := Lib.hid (fworks w)
    go_enter Try.func5, Try.ntmps5
    go_wp2_with fail
    refine cw.out.mono ?_
    rintro _ w1 ⟨rfl, hb⟩
    have HB := Lib.hid hb
    clear hb cw
    go_wp2
    go_ret
    exact ⟨rfl, HB.out⟩
  have g3 : ¬ (12 : Int) < (t1 : Int) := by omega
  have g3b : decide ((12 : Int) < (t1 : Int)) = false := decide_eq_false g3
  have g3c : decide (12 < t1) = false := decide_eq_false h3
  have vfl := vw_fl
  have CN : Hid (Calls Try.prog 8 #[.int .i64 3, .int .i64 (n2 : Int), .int .i64 (t1 : Int)] w fun e w' => e = .returned (ptr w.heap.size) ∧ One [] w w.heap.size (Ps.new 3 n2 t1) w') := Lib.hid (oNew 3 n2 t1 (by unfold mayN; omega) w)
  have H1 := Lib.hid h1
  have H2 := Lib.hid h2
  have H3 := Lib.hid h3
  obtain ⟨N1, hN1⟩ : ∃ N1, n2 + 1 = N1 := ⟨_, rfl⟩
  obtain ⟨tot, htot⟩ : ∃ tot, N1 * t1 = tot := ⟨_, rfl⟩
  have htb : tot ≤ 200 := by
    rw [← htot]
    exact Nat.le_trans (Nat.mul_le_mul (show N1 ≤ 13 by omega) (show t1 ≤ 12 by omega)) (by decide)
  have v0 : IntKind.i64.wrap (n2 : Int) = (n2 : Int) := by rw [IntKind.wrap_i64]; omega
  have v00 : IntKind.i64.wrap (t1 : Int) = (t1 : Int) := by rw [IntKind.wrap_i64]; omega
  have v1 : IntKind.i64.wrap ((n2 : Int) + 1) = (N1 : Int) := by rw [IntKind.wrap_i64]; omega
  have v2 : IntKind.i64.wrap ((N1 : Int) * (t1 : Int)) = (tot : Int) := by rw [show (N1 : Int) * (t1 : Int) = (tot : Int) by rw [← htot]; exact (Int.natCast_mul _ _).symm, IntKind.wrap_i64]; omega
  have HT := Lib.hid htot
  have HN1 := Lib.hid hN1
  clear h1 h2 h3 hN1 htot
  go_enter Try.func5, Try.ntmps5
  go_wp2_with fail
  refine CN.out.mono ?_
  rintro _ w1 ⟨rfl, h⟩
  have HP : Hid (One [] w w.heap.size (Ps.new 3 n2 t1) w1) := Lib.hid h
  clear h CN
  generalize hpb : w.heap.size = pb at HP ⊢
  have HPB := Lib.hid hpb
  clear hpb
  have CP := Lib.hid (oPush HP.out (by have := H1.out; have := H3.out; constructor <;> (unfold Ps.new; dsimp only) <;> first | decide | omega) wx)
  rw [show Ps.push wx (Ps.new 3 n2 t1) = (⟨0, 0, 0, 0, 0, false, false, false, false, false, false, 3, n2, t1, [wx], 0, false, false, false, false⟩, 0) from rfl] at CP
  clear HP
  go_wp2_with fail
  refine CP.out.mono ?_
  rintro _ w2 ⟨rfl, h⟩
  have HP := Lib.hid h
  clear h CP
  have CX := Lib.hid (oNext HP.out (by have := H1.out; have := H3.out; constructor <;> dsimp only <;> first | decide | omega))
  rw [show Ps.next ⟨0, 0, 0, 0, 0, false, false, false, false, false, false, 3, n2, t1, [wx], 0, false, false, false, false⟩ = (rn n2 t1 0 0, ⟨true, 7, false, 0, 0, wx⟩, true) from rfl] at CX
  clear HP
  go_wp2_with fail
  refine CX.out.mono ?_
  rintro _ w3 ⟨rfl, h⟩
  have HP := Lib.hid (h.alloc (.cells #[.int .u8 0, .bool true, .int .u8 7, .bool false, .int .u8 0, .int .u8 0, .string wx] TF (0, 0))).tail
  clear h CX
  go_wp2_with fail
  go_loopg [8, 9] (tot + 1) (fun gm s8 s9 wr => ∃ (j n : Nat), s8 = nm j ∧ s9 = nm n ∧ tot + 1 - n ≤ gm ∧ n ≤ tot + 1 ∧ Hid ((∃ i, i < t1 ∧ j ≤ n2 ∧ n = j * t1 + i + 1 ∧ One [] w pb (rn n2 t1 j i) wr) ∨ (j = n2 ∧ n = tot + 1 ∧ Below w.heap.size w wr)))
  case atStart => exact ⟨0, 1, rfl, rfl, by omega, by omega, Or.inl ⟨0, by have := H2.out; omega, Nat.zero_le _, by omega, HP.out⟩⟩
  case round =>
    clear HP
    obtain ⟨j, n, rfl, rfl, hgm, hnt, HI⟩ := hrel
    have vn := wrapn (n + 1) (by omega)
    rcases HI.out with ⟨i, hi, hj, hn, hP⟩ | ⟨hj, hn, hB⟩
    · have ha := mul_le j N1 t1 (by have := HN1.out; omega)
      rw [HT.out] at ha
      have hle : n ≤ tot := by omega
      have b1 : decide ((n : Int) ≤ (tot : Int)) = true := decide_eq_true (by omega)
      have b1b : decide (n ≤ tot) = true := decide_eq_true hle
      have b1c : (n : Int) ≤ (tot : Int) := by omega
      have HP := Lib.hid hP
      clear hP HI
      have HJ := Lib.hid hj
      have HI2 := Lib.hid hi
      have HNN := Lib.hid hn
      have HA := Lib.hid ha
      by_cases hl : i + 1 < t1
      · have z0 : ((n : Int) == (tot : Int)) = false := beq_false (by omega)
        have z0b : (n == tot) = false := by simp; omega
        have z0c : decide ((n : Int) = (tot : Int)) = false := decide_eq_false (by omega)
        have z0d : decide (n = tot) = false := decide_eq_false (by omega)
        have RD := Rd.of w pb (rn n2 t1 j i) ⟨false, 0, false, 0, 0, bE⟩ false false (rn n2 t1 j (i + 1)) (rn n2 t1 j (i + 1)) (rn_fit n2 t1 j i (by have := H1.out; omega) (by have := H3.out; omega) (by have := H1.out; omega)) (rn_fit n2 t1 j (i + 1) (by have := H1.out; omega) (by have := H3.out; omega) (by have := H1.out; omega)) (tick_a n2 t1 j i hl) (next_a n2 t1 j (i + 1)) rfl
        have CT := Lib.hid (RD.t _ HP.out)
        have CVN : Hid (∀ (m : List (Nat × Obj)) (w' : World), One m w pb (rn n2 t1 j (i + 1)) w' → Calls Try.prog 19 #[ptr pb] w' fun e w'' => e = .returned (.tuple #[.agg #[.int .u8 0, .bool false, .int .u8 0, .bool false, .int .u8 0, .int .u8 0, .string ⟨#[]⟩], .bool false]) ∧ One m w pb (rn n2 t1 j (i + 1)) w'') := Lib.hid RD.n
        obtain ⟨a0, a1, a2, a3, a4, a5, a6, e0, e1, e2, e3, e4, hv⟩ := RD.v
        have CV := Lib.hid hv
        have HLL := Lib.hid hl
        clear RD hv HP hi hj hn ha hle hl
        go_wp2_with fail
        refine CT.out.mono ?_
        rintro _ w4 ⟨rfl, h⟩
        have HQ := Lib.hid (h.alloc (.cells #[.string ⟨#[]⟩, .bool false, .int .i64 0, .bool false] TA (0, 0)))
        clear h CT
        go_wp2_with fail
        generalize hbx : w4.heap.size = bx at HQ ⊢
        clear hbx
        generalize w4.alloc (.cells #[.string ⟨#[]⟩, .bool false, .int .i64 0, .bool false] TA (0, 0)) = w5 at HQ ⊢
        have HQ2 := Lib.hid (HQ.out.on (w' := w5.drew) ⟨rfl, rfl, rfl, Nat.le_refl _, fun _ _ => rfl⟩)
        clear HQ
        refine wp_region_held_drew (S := (fun w' => w'.heap[bx]? = some (.cells #[.string ⟨#[]⟩, .bool false, .int .i64 0, .bool false] TA (0, 0)))) (by kernel_rfl) HQ2.out.at0 (fun hHeld => ?_)
        refine' tk 0 ⟨some 60, .fieldAddr 56 (.tmp 10) 3, 0, "law.go:272", #[], none⟩ ?_
        simp only [Act.put, z1', z2', z3']
        refine' tv 1 ⟨some 61, .load 4 (.tmp 60), 4, "law.go:272", #[⟨0, .data⟩], none⟩ ?hy2 ?hr2
        case hy2 => (intro _ hSw; (try dsimp only at hSw); have hc := (cells4 hSw).1.2.2.2; go_simp <;> with_reducible rfl)
        simp only [Act.put, z1', z2', z3']
        refine' tk 2 ⟨some 62, .move (.tmp 9), 3, "law.go:272", #[], none⟩ ?_
        simp only [Act.put, z1', z2', z3']
        refine' tk 3 ⟨some 63, .move (.tmp 0), 5, "law.go:272", #[], none⟩ ?_
        simp only [Act.put, z1', z2', z3']
        refine' tk 4 ⟨some 64, .convert 5 3 (.tmp 63), 3, "law.go:272", #[⟨3, .data⟩], none⟩ ?_
        simp only [Act.put, z1', z2', z3']
        refine' tk 5 ⟨some 65, .binOp .add 3 (.tmp 64) (.const (.int .i64 1)) 3, 3, "law.go:272", #[⟨4, .data⟩], none⟩ ?_
        simp only [Act.put, z1', z2', z3']
        refine' tk 6 ⟨some 66, .move (.tmp 1), 5, "law.go:272", #[], none⟩ ?_
        simp only [Act.put, z1', z2', z3']
        refine' tk 7 ⟨some 67, .convert 5 3 (.tmp 66), 3, "law.go:272", #[⟨6, .data⟩], none⟩ ?_
        simp only [Act.put, z1', z2', z3']
        refine' tk 8 ⟨some 68, .binOp .mul 3 (.tmp 65) (.tmp 67) 3, 3, "law.go:272", #[⟨5, .data⟩, ⟨7, .data⟩], none⟩ ?_
        simp only [Act.put, z1', z2', z3']
        refine' tk 9 ⟨some 69, .binOp .eql 3 (.tmp 62) (.tmp 68) 3, 4, "law.go:272", #[⟨2, .data⟩, ⟨8, .data⟩], none⟩ ?_
        simp only [Act.put, z1', z2', z3']
        refine' tk 10 ⟨some 70, .binOp .neq 4 (.tmp 61) (.tmp 69) 4, 4, "law.go:272", #[⟨1, .data⟩, ⟨9, .data⟩], none⟩ ?_
        simp only [Act.put, z1', z2', z3']
        refine' tk 11 ⟨some 71, .move (.tmp 70), 4, "law.go:272", #[⟨10, .data⟩], none⟩ ?_
        simp only [Act.put, z1', z2', z3']
        refine' tk 12 ⟨some 72, .move (.tmp 5), 28, "law.go:272", #[⟨11, .guard⟩], some (11, false)⟩ ?_
        simp only [Act.put, z1', z2', z3']
        refine' tk 15 ⟨some 75, .fieldAddr 56 (.tmp 10) 3, 0, "law.go:272", #[⟨11, .guard⟩], some (11, false)⟩ ?_
        simp only [Act.put, z1', z2', z3']
        refine' tv 16 ⟨some 76, .load 4 (.tmp 75), 4, "law.go:272", #[⟨15, .data⟩, ⟨11, .guard⟩], some (11, false)⟩ ?hy15 ?hr15
        case hy15 => (intro _ hSw; (try dsimp only at hSw); have hc := (cells4 hSw).1.2.2.2; go_simp <;> with_reducible rfl)
        simp only [Act.put, z1', z2', z3']
        clear hHeld
        refine ry [13] ?_
        refine AllReadyH.cons rfl (fun K hK => ?_) AllReadyH.nil
        go_simp
        refine (CV.out _ _ HQ2.out).mono ?_
        rintro _ w6 ⟨rfl, h⟩
        have HQ3 := Lib.hid h
        clear h CV HQ2
        go_wp2_with fail
        refine hK.out _ _ HQ3.out.at0 (fun hNext => ?_)
        clear hK K
        have hHeld := hNext
        clear hNext
        (try simp only [Act.put, z1', z2', z3'])
        refine' tk 14 ⟨some 74, .field 35 (.tmp 73) 12, 4, "law.go:272", #[⟨13, .data⟩, ⟨11, .guard⟩], some (11, false)⟩ ?_
        simp only [Act.put, z1', z2', z3']
        refine' tk 17 ⟨some 77, .binOp .neq 4 (.tmp 74) (.tmp 76) 4, 4, "law.go:272", #[⟨14, .data⟩, ⟨16, .data⟩, ⟨11, .guard⟩], some (11, false)⟩ ?_
        simp only [Act.put, z1', z2', z3']
        refine' tk 18 ⟨some 78, .pick (.tmp 71) (.const (.bool true)) (.tmp 77), 4, "law.go:272", #[⟨11, .data⟩, ⟨17, .data⟩], none⟩ ?_
        simp only [Act.put, z1', z2', z3']
        refine wpAnyH_done (by kernel_rfl) ?_ _
        clear hHeld
        go_wp2_with fail
        refine (CVN.out _ _ HQ3.out).mono ?_
        rintro _ w7 ⟨rfl, h⟩
        have HQ4 := Lib.hid (h.alloc (.cells #[.int .u8 0, .bool false, .int .u8 0, .bool false, .int .u8 0, .int .u8 0, .string ⟨#[]⟩] TF (0, 0))).tail.all
        clear h CVN HQ3
        go_wp2
        go_roundg (tot + 1 - (n + 1))
        case measure => omega
        case rel => exact ⟨j, n + 1, rfl, by first | rfl | go_num, Nat.le_refl _, by omega, Or.inl ⟨i + 1, HLL.out, HJ.out, by have := HNN.out; omega, HQ4.out⟩⟩
      have hl2 : i + 1 = t1 := by omega
      by_cases hj2 : j < n2
      · have ha2 := mul_le (j + 1) N1 t1 (by have := HN1.out; omega)
        rw [HT.out] at ha2
        have hs : (j + 1) * t1 = j * t1 + t1 := Nat.succ_mul _ _
        have z0 : ((n : Int) == (tot : Int)) = false := beq_false (by have := H2.out; omega)
        have z0b : (n == tot) = false := by have := H2.out; simp; omega
        have z0c : decide ((n : Int) = (tot : Int)) = false := decide_eq_false (by have := H2.out; omega)
        have z0d : decide (n = tot) = false := decide_eq_false (by have := H2.out; omega)
        have HS : Hid (n + 1 = (j + 1) * t1 + 0 + 1) := Lib.hid (by omega)
        have vj := wrapn (j + 1) (by have := H1.out; omega)
        have HJ2 := Lib.hid hj2
        have hjb : j ≤ 12 := by have := H1.out; omega
        have RD := Rd.of w pb (rn n2 t1 j i) ⟨true, 8, true, 0, 0, bE⟩ true false { rn n2 t1 (j + 1) 0 with poll := true } (rn n2 t1 (j + 1) 0) (rn_fit n2 t1 j i (by have := H1.out; omega) (by have := H3.out; omega) (by have := H1.out; omega)) (by have := rn_fit n2 t1 (j + 1) 0 (by have := H1.out; omega) (by have := H3.out; omega) (by have := H1.out; omega); exact ⟨this.va, this.vr, this.out, this.k, this.n2, this.t1, this.q, this.hi, this.oh, this.tr, this.lf⟩) (tick_b n2 t1 j i hl2 hj2) (next_b n2 t1 j (by have := H2.out; omega)) rfl
        have CT := Lib.hid (RD.t _ HP.out)
        have CVN : Hid (∀ (m : List (Nat × Obj)) (w' : World), One m w pb { rn n2 t1 (j + 1) 0 with poll := true } w' → Calls Try.prog 19 #[ptr pb] w' fun e w'' => e = .returned (.tuple #[.agg #[.int .u8 0, .bool true, .int .u8 8, .bool true, .int .u8 0, .int .u8 0, .string ⟨#[]⟩], .bool true]) ∧ One m w pb (rn n2 t1 (j + 1) 0) w'') := Lib.hid RD.n
        obtain ⟨a0, a1, a2, a3, a4, a5, a6, e0, e1, e2, e3, e4, hv⟩ := RD.v
        have CV := Lib.hid hv
        have fne := frm_ne
        clear RD hv HP hi hj hn ha hle hl hl2 hj2 ha2 hs
        go_wp2_with fail
        refine CT.out.mono ?_
        rintro _ w4 ⟨rfl, h⟩
        have HQ := Lib.hid (h.alloc (.cells #[.string ⟨#[]⟩, .bool false, .int .i64 0, .bool false] TA (0, 0)))
        clear h CT
        go_wp2_with fail
        generalize hbx : w4.heap.size = bx at HQ ⊢
        clear hbx
        generalize w4.alloc (.cells #[.string ⟨#[]⟩, .bool false, .int .i64 0, .bool false] TA (0, 0)) = w5 at HQ ⊢
        have HQ2 := Lib.hid (HQ.out.on (w' := w5.drew) ⟨rfl, rfl, rfl, Nat.le_refl _, fun _ _ => rfl⟩)
        clear HQ
        refine wp_region_held_drew (S := (fun w' => w'.heap[bx]? = some (.cells #[.string ⟨#[]⟩, .bool false, .int .i64 0, .bool false] TA (0, 0)))) (by kernel_rfl) HQ2.out.at0 (fun hHeld => ?_)
        refine' tk 0 ⟨some 60, .fieldAddr 56 (.tmp 10) 3, 0, "law.go:272", #[], none⟩ ?_
        simp only [Act.put, z1', z2', z3']
        refine' tv 1 ⟨some 61, .load 4 (.tmp 60), 4, "law.go:272", #[⟨0, .data⟩], none⟩ ?hy20 ?hr20
        case hy20 => (intro _ hSw; (try dsimp only at hSw); have hc := (cells4 hSw).1.2.2.2; go_simp <;> with_reducible rfl)
        simp only [Act.put, z1', z2', z3']
        refine' tk 2 ⟨some 62, .move (.tmp 9), 3, "law.go:272", #[], none⟩ ?_
        simp only [Act.put, z1', z2', z3']
        refine' tk 3 ⟨some 63, .move (.tmp 0), 5, "law.go:272", #[], none⟩ ?_
        simp only [Act.put, z1', z2', z3']
        refine' tk 4 ⟨some 64, .convert 5 3 (.tmp 63), 3, "law.go:272", #[⟨3, .data⟩], none⟩ ?_
        simp only [Act.put, z1', z2', z3']
        refine' tk 5 ⟨some 65, .binOp .add 3 (.tmp 64) (.const (.int .i64 1)) 3, 3, "law.go:272", #[⟨4, .data⟩], none⟩ ?_
        simp only [Act.put, z1', z2', z3']
        refine' tk 6 ⟨some 66, .move (.tmp 1), 5, "law.go:272", #[], none⟩ ?_
        simp only [Act.put, z1', z2', z3']
        refine' tk 7 ⟨some 67, .convert 5 3 (.tmp 66), 3, "law.go:272", #[⟨6, .data⟩], none⟩ ?_
        simp only [Act.put, z1', z2', z3']
        refine' tk 8 ⟨some 68, .binOp .mul 3 (.tmp 65) (.tmp 67) 3, 3, "law.go:272", #[⟨5, .data⟩, ⟨7, .data⟩], none⟩ ?_
        simp only [Act.put, z1', z2', z3']
        refine' tk 9 ⟨some 69, .binOp .eql 3 (.tmp 62) (.tmp 68) 3, 4, "law.go:272", #[⟨2, .data⟩, ⟨8, .data⟩], none⟩ ?_
        simp only [Act.put, z1', z2', z3']
        refine' tk 10 ⟨some 70, .binOp .neq 4 (.tmp 61) (.tmp 69) 4, 4, "law.go:272", #[⟨1, .data⟩, ⟨9, .data⟩], none⟩ ?_
        simp only [Act.put, z1', z2', z3']
        refine' tk 11 ⟨some 71, .move (.tmp 70), 4, "law.go:272", #[⟨10, .data⟩], none⟩ ?_
        simp only [Act.put, z1', z2', z3']
        refine' tk 12 ⟨some 72, .move (.tmp 5), 28, "law.go:272", #[⟨11, .guard⟩], some (11, false)⟩ ?_
        simp only [Act.put, z1', z2', z3']
        refine' tk 15 ⟨some 75, .fieldAddr 56 (.tmp 10) 3, 0, "law.go:272", #[⟨11, .guard⟩], some (11, false)⟩ ?_
        simp only [Act.put, z1', z2', z3']
        refine' tv 16 ⟨some 76, .load 4 (.tmp 75), 4, "law.go:272", #[⟨15, .data⟩, ⟨11, .guard⟩], some (11, false)⟩ ?hy33 ?hr33
        case hy33 => (intro _ hSw; (try dsimp only at hSw); have hc := (cells4 hSw).1.2.2.2; go_simp <;> with_reducible rfl)
        simp only [Act.put, z1', z2', z3']
        clear hHeld
        refine ry [13] ?_
        refine AllReadyH.cons rfl (fun K hK => ?_) AllReadyH.nil
        go_simp
        refine (CV.out _ _ HQ2.out).mono ?_
        rintro _ w6 ⟨rfl, h⟩
        have HQ3 := Lib.hid h
        clear h CV HQ2
        go_wp2_with fail
        refine hK.out _ _ HQ3.out.at0 (fun hNext => ?_)
        clear hK K
        have hHeld := hNext
        clear hNext
        (try simp only [Act.put, z1', z2', z3'])
        refine' tk 14 ⟨some 74, .field 35 (.tmp 73) 12, 4, "law.go:272", #[⟨13, .data⟩, ⟨11, .guard⟩], some (11, false)⟩ ?_
        simp only [Act.put, z1', z2', z3']
        refine' tk 17 ⟨some 77, .binOp .neq 4 (.tmp 74) (.tmp 76) 4, 4, "law.go:272", #[⟨14, .data⟩, ⟨16, .data⟩, ⟨11, .guard⟩], some (11, false)⟩ ?_
        simp only [Act.put, z1', z2', z3']
        refine' tk 18 ⟨some 78, .pick (.tmp 71) (.const (.bool true)) (.tmp 77), 4, "law.go:272", #[⟨11, .data⟩, ⟨17, .data⟩], none⟩ ?_
        simp only [Act.put, z1', z2', z3']
        refine wpAnyH_done (by kernel_rfl) ?_ _
        clear hHeld
        go_wp2_with fail
        refine (CVN.out _ _ HQ3.out).mono ?_
        rintro _ w7 ⟨rfl, h⟩
        have HQ4 := Lib.hid (h.alloc (.cells #[.int .u8 0, .bool true, .int .u8 8, .bool true, .int .u8 0, .int .u8 0, .string ⟨#[]⟩] TF (0, 0))).tail.all
        clear h CVN HQ3
        go_wp2
        go_roundg (tot + 1 - (n + 1))
        case measure => omega
        case rel => exact ⟨j + 1, n + 1, by first | rfl | go_num, by first | rfl | go_num, Nat.le_refl _, by omega, Or.inl ⟨0, by have := H2.out; omega, HJ2.out, HS.out, HQ4.out⟩⟩
      · obtain rfl : j = n2 := by omega
        have hs : N1 * t1 = j * t1 + t1 := by rw [← HN1.out]; exact Nat.succ_mul _ _
        have hnt2 : n = tot := by have := HT.out; omega
        have z0 : ((n : Int) == (tot : Int)) = true := beq_true (by omega)
        have z0b : (n == tot) = true := by simp; omega
        have z0c : decide ((n : Int) = (tot : Int)) = true := decide_eq_true (by omega)
        have z0d : decide (n = tot) = true := decide_eq_true (by omega)
        have HS := Lib.hid hnt2
        have RD := Rd.of w pb (rn j t1 j i) ⟨false, 0, false, 0, 0, bE⟩ false true (fl j t1 i) (fl j t1 i) (rn_fit j t1 j i (by have := H1.out; omega) (by have := H3.out; omega) (by have := H1.out; omega)) (fl_fit j t1 i (by have := H1.out; omega) (by have := H3.out; omega)) (tick_c j t1 i hl2) (next_c j t1 i) rfl
        have CT := Lib.hid (RD.t _ HP.out)
        have CVN : Hid (∀ (m : List (Nat × Obj)) (w' : World), One m w pb (fl j t1 i) w' → Calls Try.prog 19 #[ptr pb] w' fun e w'' => e = .returned (.tuple #[.agg #[.int .u8 0, .bool false, .int .u8 0, .bool false, .int .u8 0, .int .u8 0, .string ⟨#[]⟩], .bool false]) ∧ One m w pb (fl j t1 i) w'') := Lib.hid RD.n
        obtain ⟨a0, a1, a2, a3, a4, a5, a6, e0, e1, e2, e3, e4, hv⟩ := RD.v
        have CV := Lib.hid hv
        clear RD hv HP hi hj hn ha hle hl hl2 hj2 hs hnt2
        go_wp2_with fail
        refine CT.out.mono ?_
        rintro _ w4 ⟨rfl, h⟩
        have HQ := Lib.hid (h.alloc (.cells #[.string ⟨#[]⟩, .bool false, .int .i64 0, .bool true] TA (0, 0)))
        clear h CT
        go_wp2_with fail
        generalize hbx : w4.heap.size = bx at HQ ⊢
        clear hbx
        generalize w4.alloc (.cells #[.string ⟨#[]⟩, .bool false, .int .i64 0, .bool true] TA (0, 0)) = w5 at HQ ⊢
        have HQ2 := Lib.hid (HQ.out.on (w' := w5.drew) ⟨rfl, rfl, rfl, Nat.le_refl _, fun _ _ => rfl⟩)
        clear HQ
        refine wp_region_held_drew (S := (fun w' => w'.heap[bx]? = some (.cells #[.string ⟨#[]⟩, .bool false, .int .i64 0, .bool true] TA (0, 0)))) (by kernel_rfl) HQ2.out.at0 (fun hHeld => ?_)
        refine' tk 0 ⟨some 60, .fieldAddr 56 (.tmp 10) 3, 0, "law.go:272", #[], none⟩ ?_
        simp only [Act.put, z1', z2', z3']
        refine' tv 1 ⟨some 61, .load 4 (.tmp 60), 4, "law.go:272", #[⟨0, .data⟩], none⟩ ?hy38 ?hr38
        case hy38 => (intro _ hSw; (try dsimp only at hSw); have hc := (cells4 hSw).1.2.2.2; go_simp <;> with_reducible rfl)
        simp only [Act.put, z1', z2', z3']
        refine' tk 2 ⟨some 62, .move (.tmp 9), 3, "law.go:272", #[], none⟩ ?_
        simp only [Act.put, z1', z2', z3']
        refine' tk 3 ⟨some 63, .move (.tmp 0), 5, "law.go:272", #[], none⟩ ?_
        simp only [Act.put, z1', z2', z3']
        refine' tk 4 ⟨some 64, .convert 5 3 (.tmp 63), 3, "law.go:272", #[⟨3, .data⟩], none⟩ ?_
        simp only [Act.put, z1', z2', z3']
        refine' tk 5 ⟨some 65, .binOp .add 3 (.tmp 64) (.const (.int .i64 1)) 3, 3, "law.go:272", #[⟨4, .data⟩], none⟩ ?_
        simp only [Act.put, z1', z2', z3']
        refine' tk 6 ⟨some 66, .move (.tmp 1), 5, "law.go:272", #[], none⟩ ?_
        simp only [Act.put, z1', z2', z3']
        refine' tk 7 ⟨some 67, .convert 5 3 (.tmp 66), 3, "law.go:272", #[⟨6, .data⟩], none⟩ ?_
        simp only [Act.put, z1', z2', z3']
        refine' tk 8 ⟨some 68, .binOp .mul 3 (.tmp 65) (.tmp 67) 3, 3, "law.go:272", #[⟨5, .data⟩, ⟨7, .data⟩], none⟩ ?_
        simp only [Act.put, z1', z2', z3']
        refine' tk 9 ⟨some 69, .binOp .eql 3 (.tmp 62) (.tmp 68) 3, 4, "law.go:272", #[⟨2, .data⟩, ⟨8, .data⟩], none⟩ ?_
        simp only [Act.put, z1', z2', z3']
        refine' tk 10 ⟨some 70, .binOp .neq 4 (.tmp 61) (.tmp 69) 4, 4, "law.go:272", #[⟨1, .data⟩, ⟨9, .data⟩], none⟩ ?_
        simp only [Act.put, z1', z2', z3']
        refine' tk 11 ⟨some 71, .move (.tmp 70), 4, "law.go:272", #[⟨10, .data⟩], none⟩ ?_
        simp only [Act.put, z1', z2', z3']
        refine' tk 12 ⟨some 72, .move (.tmp 5), 28, "law.go:272", #[⟨11, .guard⟩], some (11, false)⟩ ?_
        simp only [Act.put, z1', z2', z3']
        refine' tk 15 ⟨some 75, .fieldAddr 56 (.tmp 10) 3, 0, "law.go:272", #[⟨11, .guard⟩], some (11, false)⟩ ?_
        simp only [Act.put, z1', z2', z3']
        refine' tv 16 ⟨some 76, .load 4 (.tmp 75), 4, "law.go:272", #[⟨15, .data⟩, ⟨11, .guard⟩], some (11, false)⟩ ?hy51 ?hr51
        case hy51 => (intro _ hSw; (try dsimp only at hSw); have hc := (cells4 hSw).1.2.2.2; go_simp <;> with_reducible rfl)
        simp only [Act.put, z1', z2', z3']
        clear hHeld
        refine ry [13] ?_
        refine AllReadyH.cons rfl (fun K hK => ?_) AllReadyH.nil
        go_simp
        refine (CV.out _ _ HQ2.out).mono ?_
        rintro _ w6 ⟨rfl, h⟩
        have HQ3 := Lib.hid h
        clear h CV HQ2
        go_wp2_with fail
        refine hK.out _ _ HQ3.out.at0 (fun hNext => ?_)
        clear hK K
        have hHeld := hNext
        clear hNext
        (try simp only [Act.put, z1', z2', z3'])
        refine' tk 14 ⟨some 74, .field 35 (.tmp 73) 12, 4, "law.go:272", #[⟨13, .data⟩, ⟨11, .guard⟩], some (11, false)⟩ ?_
        simp only [Act.put, z1', z2', z3']
        refine' tk 17 ⟨some 77, .binOp .neq 4 (.tmp 74) (.tmp 76) 4, 4, "law.go:272", #[⟨14, .data⟩, ⟨16, .data⟩, ⟨11, .guard⟩], some (11, false)⟩ ?_
        simp only [Act.put, z1', z2', z3']
        refine' tk 18 ⟨some 78, .pick (.tmp 71) (.const (.bool true)) (.tmp 77), 4, "law.go:272", #[⟨11, .data⟩, ⟨17, .data⟩], none⟩ ?_
        simp only [Act.put, z1', z2', z3']
        refine wpAnyH_done (by kernel_rfl) ?_ _
        clear hHeld
        go_wp2_with fail
        refine (CVN.out _ _ HQ3.out).mono ?_
        rintro _ w7 ⟨rfl, h⟩
        have HQ4 := Lib.hid (h.alloc (.cells #[.int .u8 0, .bool false, .int .u8 0, .bool false, .int .u8 0, .int .u8 0, .string ⟨#[]⟩] TF (0, 0))).tail.all
        clear h CVN HQ3
        go_wp2
        go_roundg (tot + 1 - (n + 1))
        case measure => omega
        case rel => exact ⟨j, n + 1, rfl, by first | rfl | go_num, Nat.le_refl _, by omega, Or.inr ⟨rfl, by have := HS.out; omega, HQ4.out.below⟩⟩
    · have b1 : decide ((n : Int) ≤ (tot : Int)) = false := decide_eq_false (by omega)
      have b1b : decide (n ≤ tot) = false := decide_eq_false (by omega)
      have b1c : ¬ (n : Int) ≤ (tot : Int) := by omega
      have HB := Lib.hid hB
      subst hj
      have cw := Lib.hid (fworks wr)
      clear hB HI hn
      go_wp2_with fail
      refine cw.out.mono ?_
      rintro _ w4 ⟨rfl, hb⟩
      have HB2 := Lib.hid (below_on HB.out hb)
      clear hb cw
      go_wp2
      go_ret
      exact ⟨rfl, HB2.out⟩
end Go.Proofs.Ytkoaplmlabagnaa.arqFails

/-
  The document's own side: Tick whole, New, and the number that an N(R) means. Condition: it lies where it says; its numbers are small.
-/
import Derived.Test.YtkoaplmlabagnaaAqRef2
namespace Go.Proofs.Ytkoaplmlabagnaa.Aq
open Go.RowKit Go.Proofs.Ytkoaplmlabagnaa.Base Go.Proofs.Ytkoaplmlabagnaa.Mem
theorem rtick (w : World) (pb : Nat) (x : Sd) (v : Value) (h : RAt w pb x v) (hf : Fit x) :
    Calls Try.prog 29 #[ptr pb] w fun e w' => e = .returned (amv (tick x).2) ∧ RDo pb (tick x).1 v w w' := by
  unfold tick
  by_cases hfl : x.fl = true
  · rw [if_pos (Or.inl hfl)]; exact rtick_fl w pb x v h hfl
  have hfl : x.fl = false := by simpa using hfl
  by_cases hz : x.lf = 0
  · rw [if_pos (Or.inr hz)]; exact rtick_no w pb x v h hfl hz
  rw [if_neg (by simp [hfl, hz])]
  by_cases h1 : 1 < x.lf
  · rw [if_pos h1]; exact rtick_less w pb x v h hf hfl h1
  rw [if_neg h1]
  have hz : x.lf = 1 := by omega
  dsimp only
  by_cases ho : x.a < x.s
  · rw [show (if x.a < x.s ∨ x.ak = true then x.tr + 1 else x.tr) = x.tr + 1 from if_pos (Or.inl ho)]
    by_cases hn : x.n2 < x.tr + 1
    · rw [if_pos hn]; exact rtick_out_y w pb x v h hf hfl hz ho hn
    · rw [if_neg hn]; exact rtick_out_n w pb x v h hf hfl hz ho hn
  by_cases hk : x.ak = true
  · rw [show (if x.a < x.s ∨ x.ak = true then x.tr + 1 else x.tr) = x.tr + 1 from if_pos (Or.inr hk)]
    by_cases hn : x.n2 < x.tr + 1
    · rw [if_pos hn]; exact rtick_ask_y w pb x v h hf hfl hz ho hk hn
    · rw [if_neg hn]; exact rtick_ask_n w pb x v h hf hfl hz ho hk hn
  rw [show (if x.a < x.s ∨ x.ak = true then x.tr + 1 else x.tr) = x.tr from if_neg (by simp [ho, hk])]
  have hk : x.ak = false := by simpa using hk
  by_cases hn : x.n2 < x.tr
  · rw [if_pos hn]; exact rtick_none_y w pb x v h hf hfl hz ho hk hn
  · rw [if_neg hn]; exact rtick_none_n w pb x v h hf hfl hz ho hk hn
/-- May there be such a side? -/
def mayN (k n2 t1 : Int) : Prop := 1 ≤ k ∧ k ≤ 7 ∧ 0 ≤ n2 ∧ n2 ≤ 255 ∧ 1 ≤ t1 ∧ t1 ≤ 255
set_option maxHeartbeats 1000000 in
theorem rnew_no (k n2 t1 : Int) (h : ¬ mayN k n2 t1) (w : World) :
    Calls Try.prog 9 #[.int .i64 k, .int .i64 n2, .int .i64 t1] w fun e w' => e = .returned (.pointer none) ∧ w = w' := by
  unfold mayN at h
  go_enter Try.func9, Try.ntmps9
  by_cases h1 : k < 1
  · have g1 : decide (k < 1) = true := decide_eq_true h1
    go_wp2
    go_ret
    exact ⟨rfl, rfl⟩
  have g1 : decide (k < 1) = false := decide_eq_false h1
  by_cases h2 : 7 < k
  · have g2 : decide (7 < k) = true := decide_eq_true h2
    go_wp2
    go_ret
    exact ⟨rfl, rfl⟩
  have g2 : decide (7 < k) = false := decide_eq_false h2
  by_cases h3 : n2 < 0
  · have g3 : decide (n2 < 0) = true := decide_eq_true h3
    go_wp2
    go_ret
    exact ⟨rfl, rfl⟩
  have g3 : decide (n2 < 0) = false := decide_eq_false h3
  by_cases h4 : 255 < n2
  · have g4 : decide (255 < n2) = true := decide_eq_true h4
    go_wp2
    go_ret
    exact ⟨rfl, rfl⟩
  have g4 : decide (255 < n2) = false := decide_eq_false h4
  by_cases h5 : t1 < 1
  · have g5 : decide (t1 < 1) = true := decide_eq_true h5
    go_wp2
    go_ret
    exact ⟨rfl, rfl⟩
  have g5 : decide (t1 < 1) = false := decide_eq_false h5
  by_cases h6 : 255 < t1
  · have g6 : decide (255 < t1) = true := decide_eq_true h6
    go_wp2
    go_ret
    exact ⟨rfl, rfl⟩
  exact absurd ⟨by omega, by omega, by omega, by omega, by omega, by omega⟩ h
set_option maxHeartbeats 1000000 in
theorem rnew_ok (k n2 t1 : Nat) (h : mayN k n2 t1) (w : World) :
    Calls Try.prog 9 #[nm k, nm n2, nm t1] w fun e w' => e = .returned (ptr w.heap.size) ∧ RAt w' w.heap.size (Aq.new k n2 t1) (.slice none 0 0) ∧ Below w.heap.size w w' := by
  obtain ⟨h1, h2, h3, h4, h5, h6⟩ := h
  have g1 : decide ((k : Int) < 1) = false := decide_eq_false (by omega)
  have g2 : decide (7 < (k : Int)) = false := decide_eq_false (by omega)
  have g3 : decide ((n2 : Int) < 0) = false := decide_eq_false (by omega)
  have g4 : decide (255 < (n2 : Int)) = false := decide_eq_false (by omega)
  have g5 : decide ((t1 : Int) < 1) = false := decide_eq_false (by omega)
  have g6 : decide (255 < (t1 : Int)) = false := decide_eq_false (by omega)
  clear h1 h2 h3 h4 h5 h6
  go_enter Try.func9, Try.ntmps9
  go_wp2
  go_ret
  exact ⟨rfl, ⟨nest w [_] 0 _ rfl, qz_nil _ _⟩, nest_below w [_]⟩
theorem wrapn (n : Nat) (h : n ≤ 1000000000) : IntKind.i64.wrap (n : Int) = (n : Int) := by rw [IntKind.wrap_i64]; omega
set_option maxHeartbeats 4000000 in
theorem rack (w : World) (pb : Nat) (x : Sd) (v : Value) (nr : Nat) (hr : nr < 256) (h : RAt w pb x v) (hf : Fit x) :
    Calls Try.prog 50 #[ptr pb, .int .u8 (nr : Int)] w fun e w' => e = .returned (match ackd x nr with | some n => .tuple #[nm n, .bool true] | none => .tuple #[nm 0, .bool false]) ∧ w = w' := by
  have H := Lib.hid h
  have c4 := h.cell 4 (.int .i64 (x.a : Int)) rfl
  have c6 := h.cell 6 (.int .i64 (x.T : Int)) rfl
  have hT : x.T ≤ 1000000 := by have := hf.tp; have := hf.few; omega
  have haT : x.a ≤ x.T := by have := hf.hs; have := hf.sT; omega
  obtain ⟨r, hrr⟩ : ∃ r, ackd x nr = r := ⟨_, rfl⟩
  have HR : Hid (seek nr x.a (x.T + 1 - x.a) = r) := Lib.hid hrr
  rw [hrr]
  obtain ⟨q, hq⟩ : ∃ q, nr % 8 = q := ⟨_, rfl⟩
  have HQ := Lib.hid hq
  have q8 : (nr : Int) % 8 = (q : Int) := by omega
  have hnr : (nr : Int) < 256 := by omega
  clear h hf hrr hq
  go_enter Try.func50, Try.ntmps50
  go_wp2_with fail
  go_loopg [6] (x.T + 1 - x.a) (fun gm s wr => ∃ n m : Nat, s = nm n ∧ m ≤ gm ∧ n + m = x.T + 1 ∧ Hid (wr = w) ∧ Hid (seek nr n m = r))
  case atStart => exact ⟨x.a, x.T + 1 - x.a, rfl, Nat.le_refl _, by omega, rfl, HR⟩
  case round =>
    clear HR
    obtain ⟨n, m, rfl, hgm, hnm, HW, HS⟩ := hrel
    obtain rfl := HW.out.symm
    clear HW
    have vn := wrapn (n + 1) (by omega)
    obtain ⟨d, hd⟩ : ∃ d, n % 8 = d := ⟨_, rfl⟩
    have HD := Lib.hid hd
    have d8 : (n : Int) % 8 = (d : Int) := by omega
    clear hd
    by_cases hn : n ≤ x.T
    · have g1 : decide ((n : Int) ≤ (x.T : Int)) = true := decide_eq_true (by omega)
      have g1b : decide (n ≤ x.T) = true := decide_eq_true hn
      obtain ⟨m2, rfl⟩ : ∃ m2, m = m2 + 1 := ⟨m - 1, by omega⟩
      by_cases he : d = q
      · have hr : r = some n := by rw [← HS.out]; unfold seek; rw [if_pos (by rw [HD.out, HQ.out]; exact he)]
        subst he
        subst hr
        go_wp2
        go_ret2
        exact ⟨rfl, rfl⟩
      · have g2 : ((d : Int) == (q : Int)) = false := beq_false (by omega)
        have g2b : (d == q) = false := by simpa using he
        have hs : seek nr (n + 1) m2 = r := by rw [← HS.out]; conv => rhs; unfold seek; rw [if_neg (by rw [HD.out, HQ.out]; exact he)]
        have HS2 := Lib.hid hs
        clear hs HS
        go_wp2
        go_roundg m2
        case measure => omega
        case rel => exact ⟨n + 1, m2, by first | rfl | go_num, Nat.le_refl _, by omega, rfl, HS2⟩
    · have g1 : decide ((n : Int) ≤ (x.T : Int)) = false := decide_eq_false (by omega)
      have g1b : decide (n ≤ x.T) = false := decide_eq_false hn
      obtain rfl : m = 0 := by omega
      have hr : r = none := by rw [← HS.out]; rfl
      subst hr
      go_wp2
      go_ret2
      exact ⟨rfl, rfl⟩
end Go.Proofs.Ytkoaplmlabagnaa.Aq

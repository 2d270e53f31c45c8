/-
  LinkGives answers true whatever came in, and turns nothing that was there. No condition.
-/
import Derived.Test.YtfflbaiddiahnaaLkPlaysLaw
namespace Go.Proofs.Ytfflbaiddiahnaa.linkGives
open Go.RowKit Go.Proofs.Ytfflbaiddiahnaa.Base Go.Proofs.Ytfflbaiddiahnaa.Mem Go.Proofs.Ytfflbaiddiahnaa.Lk
/-- A link and an answer, made since w0. -/
structure Gv (w0 : World) (pw na : Nat) (l : Lk) (a : Ac) (w : World) : Prop where
  la : LkAt w pw l
  an : w.heap[na]? = some (aO a 30)
  ne : pw < na
  lo : w0.heap.size ≤ pw
  below : Below w0.heap.size w0 w
section
variable {w0 w w' : World} {pw na : Nat} {l l' : Lk} {a : Ac}
theorem Gv.on (h : Gv w0 pw na l a w) (hb : Below w.heap.size w w') : Gv w0 pw na l a w' := ⟨h.la.below hb, stays h.an hb, h.ne, h.lo, below_on h.below hb⟩
theorem Gv.doA (h : Gv w0 pw na l a w) (hd : Does pw l' w w') : Gv w0 pw na l' a w' :=
  ⟨hd.at_, hd.chg.stays h.an (by have := h.ne; omega), h.ne, h.lo, hd.chg.below h.below h.below.size fun k e => by have := h.lo; omega⟩
theorem Gv.set (h : Gv w0 pw na l a w) (b : Ac) : Gv w0 pw na l b (set5 w na (.int .u8 b.k) (.bool b.c) (.bool b.p) (.int .u8 b.t) (.int .u8 b.f)) := by
  have h1 := h.ne
  have h2 := h.lo
  refine ⟨(set5_other (by omega) _ _ _ _ _).trans h.la, set5_at h.an _ _ _ _ _, h.ne, h.lo, ?_⟩
  have hn : w0.heap.size ≤ na := by omega
  exact ((((h.below.setCell hn _).setCell hn _).setCell hn _).setCell hn _).setCell hn _
end
/-- Where the loop is behind k rounds. -/
def St (w0 : World) (pw na : Nat) (s kk : Int) (N k : Nat) (w : World) : Prop :=
  if k ≤ N then Gv w0 pw na ⟨s, false, N, k⟩ ⟨kk, true, true, 1, 0⟩ w else Gv w0 pw na ⟨5, false, N, N⟩ ⟨0, false, false, 2, 6⟩ w
theorem kind_of (W : World) : (Instr.field 30 (av ⟨1, true, true, 1, 0⟩) 0).run Try.prog W = .ok (.int .u8 1) W := by kernel_rfl
theorem few_nat (n : Int) : ∃ N : Nat, few n = N ∧ N ≤ 255 := ⟨(few n).toNat, by unfold few; omega, by unfold few; omega⟩
set_option maxHeartbeats 8000000 in
set_option maxRecDepth 100000 in
theorem gives_false (n2 : Int) (w : World) : Calls Try.prog 5 #[.int .i64 n2, .bool false] w fun e w' => e = .returned (.bool true) ∧ Below w.heap.size w w' := by
  obtain ⟨N, hN, hN5⟩ := few_nat n2
  have cn : Hid (∀ w, Calls Try.prog 10 #[.int .i64 n2] w fun e w' => e = .returned (ptr w.heap.size) ∧ LkAt w' w.heap.size ⟨1, false, N, 0⟩ ∧ Below w.heap.size w w') := by
    intro w; have := fnew n2 w; unfold new at this; rw [hN] at this; exact this
  have crn : Hid (∀ w, Calls Try.prog 11 #[.int .i64 n2] w fun e w' => e = .returned (ptr w.heap.size) ∧ RfAt w' w.heap.size ⟨1, false, N, 0⟩ ∧ Below w.heap.size w w') := by
    intro w; have := rnew n2 w; unfold new at this; rw [hN] at this; exact this
  clear hN
  have ok : ∀ (s t : Int), 1 ≤ s → s ≤ 5 → 0 ≤ t → t ≤ N → (⟨s, false, N, t⟩ : Lk).Ok := fun s t h1 h2 h3 h4 => ⟨h1, h2, by dsimp only; omega, h3, h4⟩
  have OK := Lib.hid ok
  clear ok
  have sn := same_ne
  go_enter Try.func5, Try.ntmps5
  go_wp2_with fail
  refine (cn.out _).mono ?_
  rintro _ w1 ⟨rfl, ha, hb⟩
  obtain ⟨pw, hpw⟩ : ∃ pw, pw = w.heap.size := ⟨_, rfl⟩
  rw [← hpw] at ha
  simp only [← hpw]
  have HPW := Lib.hid hpw
  have HA := Lib.hid ha
  have HB := Lib.hid hb
  clear ha hb cn hpw
  go_wp2_with fail
  refine (fOpen _ pw _ (OK.out 1 0 (by decide) (by decide) (by decide) (by omega)) HA.out (⟨2, false, N, 0⟩, ⟨1, true, true, 1, 0⟩) rfl).mono ?_
  rintro _ w2 ⟨rfl, hd⟩
  obtain ⟨na, hna⟩ : ∃ na, na = w2.heap.size := ⟨_, rfl⟩
  have G2 : Hid (Gv w pw na ⟨2, false, N, 0⟩ ⟨1, true, true, 1, 0⟩ (w2.alloc (aO ⟨1, true, true, 1, 0⟩ 30))) := by
    refine ⟨hd.at_.alloc _, by rw [hna]; exact nest w2 [_] 0 _ rfl, by rw [hna]; exact hd.at_.lt, by rw [HPW.out]; exact Nat.le_refl _, ?_⟩
    exact (hd.chg.below HB.out HB.out.size fun k e => by rw [e, HPW.out]; exact Nat.le_refl _).alloc (by have := HB.out.size; have := hd.chg.size; omega) _
  have HNA := Lib.hid hna
  clear hd hna HA HB
  go_wp2_with fail
  simp only [← HNA.out]
  generalize w2.alloc (aO ⟨1, true, true, 1, 0⟩ 30) = w3 at G2 ⊢
  have HS : Hid (St w pw na 2 1 N 0 w3) := by
    show St _ _ _ _ _ _ _ _
    unfold St
    rw [if_pos (Nat.zero_le _)]
    exact G2.out
  clear G2
  go_loopg [8, 9] (N + 1) (fun gm n i wr => ∃ k : Nat, n = nm k ∧ i = nm k ∧ N + 1 - k ≤ gm ∧ k ≤ N + 1 ∧ Hid (St w pw na 2 1 N k wr))
  case atStart => exact ⟨0, rfl, rfl, by omega, by omega, HS⟩
  case round =>
    clear HS
    obtain ⟨k, rfl, rfl, hgm, hkn, HS⟩ := hrel
    have t1 : decide ((k : Int) < 300) = true := decide_eq_true (by omega)
    have vk := wrap_nat (k + 1) (by omega)
    have hk5 : k ≤ 1000 := by omega
    by_cases hk : k ≤ N
    · have hg := HS.out
      unfold St at hg
      rw [if_pos hk] at hg
      have G5 := Lib.hid hg
      obtain ⟨⟨x0, x1, x2, x3, x4⟩, xf⟩ := cells5 hg.an
      clear hg HS
      go_wp2_with fail
      by_cases hlt : k < N
      · refine (fDue _ pw _ (OK.out 2 k (by decide) (by decide) (by omega) (by omega)) G5.out.la (⟨2, false, N, (k + 1 : Nat)⟩, ⟨1, true, true, 1, 0⟩) (by show again _ = _; unfold again; rw [if_pos (by dsimp only; omega)]; simp [cmd])).mono ?_
        rintro _ w7 ⟨rfl, hd⟩
        have G6 := Lib.hid (G5.out.doA hd)
        clear hd G5 x0 x1 x2 x3 x4 xf
        obtain ⟨⟨x0, x1, x2, x3, x4⟩, xf⟩ := cells5 G6.out.an
        have HS : Hid (St w pw na 2 1 N (k + 1) (set5 w7 na (.int .u8 1) (.bool true) (.bool true) (.int .u8 1) (.int .u8 0))) := by
          show St _ _ _ _ _ _ _ _
          unfold St
          rw [if_pos (by omega)]
          exact G6.out.set ⟨1, true, true, 1, 0⟩
        go_wp2
        go_roundg (N + 1 - (k + 1))
        case measure => omega
        case rel => exact ⟨k + 1, by first | rfl | go_num, by first | rfl | go_num, Nat.le_refl _, by omega, HS⟩
      · refine (fDue _ pw _ (OK.out 2 k (by decide) (by decide) (by omega) (by omega)) G5.out.la (⟨5, false, N, N⟩, ⟨0, false, false, 2, 6⟩) (by show again _ = _; unfold again; rw [if_neg (by dsimp only; omega)]; simp; omega)).mono ?_
        rintro _ w7 ⟨rfl, hd⟩
        have G6 := Lib.hid (G5.out.doA hd)
        clear hd G5 x0 x1 x2 x3 x4 xf
        obtain ⟨⟨x0, x1, x2, x3, x4⟩, xf⟩ := cells5 G6.out.an
        have HS : Hid (St w pw na 2 1 N (k + 1) (set5 w7 na (.int .u8 0) (.bool false) (.bool false) (.int .u8 2) (.int .u8 6))) := by
          show St _ _ _ _ _ _ _ _
          unfold St
          rw [if_neg (by omega)]
          exact G6.out.set ⟨0, false, false, 2, 6⟩
        go_wp2
        go_roundg (N + 1 - (k + 1))
        case measure => omega
        case rel => exact ⟨k + 1, by first | rfl | go_num, by first | rfl | go_num, Nat.le_refl _, by omega, HS⟩
    · have hg := HS.out
      unfold St at hg
      rw [if_neg hk] at hg
      have G5 := Lib.hid hg
      obtain rfl : k = N + 1 := by omega
      obtain ⟨⟨x0, x1, x2, x3, x4⟩, xf⟩ := cells5 hg.an
      have hlt0 := lt_heap hg.an
      clear hg HS
      go_wp2_with fail
      refine (crn.out _).mono ?_
      rintro _ w7 ⟨rfl, hr, hb⟩
      obtain ⟨-, -, c2, -⟩ := hr.cells
      have G6 := Lib.hid (G5.out.on hb)
      clear hr hb G5 x0 x1 x2 x3 x4 xf hlt0
      obtain ⟨⟨x0, x1, x2, x3, x4⟩, xf⟩ := cells5 G6.out.an
      have v1 : IntKind.i64.wrap (1 + (N : Int)) = 1 + (N : Int) := by rw [IntKind.wrap_i64]; omega
      have v2 : (((N + 1 : Nat) : Int) != 1 + (N : Int)) = false := bne_false (by omega)
      have v3 : (((N : Int) + 1) != 1 + (N : Int)) = false := bne_false (by omega)
      go_wp2_with fail
      refine (fstate _ pw _ G6.out.la (by dsimp only; decide)).mono ?_
      rintro _ v ⟨rfl, rfl⟩
      go_wp2_with fail
      refine (fDue _ pw _ (OK.out 5 N (by decide) (by decide) (by omega) (by omega)) G6.out.la (⟨5, false, N, N⟩, ⟨0, false, false, 0, 0⟩) rfl).mono ?_
      rintro _ w8 ⟨rfl, hd⟩
      have G7 := Lib.hid (G6.out.doA hd)
      clear hd G6 x0 x1 x2 x3 x4 xf c2
      go_wp2_with fail
      refine (fOpen _ pw _ (OK.out 5 N (by decide) (by decide) (by omega) (by omega)) G7.out.la (⟨2, false, N, 0⟩, ⟨1, true, true, 1, 0⟩) rfl).mono ?_
      rintro _ w9 ⟨rfl, hd⟩
      have G8 := Lib.hid (G7.out.doA hd)
      clear hd G7
      have kf := kind_of
      go_wp2_with fail
      refine (fstate _ pw _ G8.out.la (by dsimp only; decide)).mono ?_
      rintro _ v ⟨rfl, rfl⟩
      go_wp2_with fail
      refine (fworks _).mono ?_
      rintro _ w10 ⟨rfl, hb⟩
      have G9 := Lib.hid (G8.out.on hb)
      clear hb G8
      go_wp2
      go_ret
      exact ⟨rfl, G9.out.below⟩
set_option maxHeartbeats 8000000 in
set_option maxRecDepth 100000 in
theorem gives_true (n2 : Int) (w : World) : Calls Try.prog 5 #[.int .i64 n2, .bool true] w fun e w' => e = .returned (.bool true) ∧ Below w.heap.size w w' := by
  obtain ⟨N, hN, hN5⟩ := few_nat n2
  have cn : Hid (∀ w, Calls Try.prog 10 #[.int .i64 n2] w fun e w' => e = .returned (ptr w.heap.size) ∧ LkAt w' w.heap.size ⟨1, false, N, 0⟩ ∧ Below w.heap.size w w') := by
    intro w; have := fnew n2 w; unfold new at this; rw [hN] at this; exact this
  have crn : Hid (∀ w, Calls Try.prog 11 #[.int .i64 n2] w fun e w' => e = .returned (ptr w.heap.size) ∧ RfAt w' w.heap.size ⟨1, false, N, 0⟩ ∧ Below w.heap.size w w') := by
    intro w; have := rnew n2 w; unfold new at this; rw [hN] at this; exact this
  clear hN
  have ok : ∀ (s t : Int), 1 ≤ s → s ≤ 5 → 0 ≤ t → t ≤ N → (⟨s, false, N, t⟩ : Lk).Ok := fun s t h1 h2 h3 h4 => ⟨h1, h2, by dsimp only; omega, h3, h4⟩
  have OK := Lib.hid ok
  clear ok
  have sn := same_ne
  go_enter Try.func5, Try.ntmps5
  go_wp2_with fail
  refine (cn.out _).mono ?_
  rintro _ w1 ⟨rfl, ha, hb⟩
  obtain ⟨pw, hpw⟩ : ∃ pw, pw = w.heap.size := ⟨_, rfl⟩
  rw [← hpw] at ha
  simp only [← hpw]
  have HPW := Lib.hid hpw
  have HA := Lib.hid ha
  have HB := Lib.hid hb
  clear ha hb cn hpw
  go_wp2_with fail
  refine (fOpen _ pw _ (OK.out 1 0 (by decide) (by decide) (by decide) (by omega)) HA.out (⟨2, false, N, 0⟩, ⟨1, true, true, 1, 0⟩) rfl).mono ?_
  rintro _ w2 ⟨rfl, hd⟩
  obtain ⟨na, hna⟩ : ∃ na, na = w2.heap.size := ⟨_, rfl⟩
  have G2 : Hid (Gv w pw na ⟨2, false, N, 0⟩ ⟨1, true, true, 1, 0⟩ (w2.alloc (aO ⟨1, true, true, 1, 0⟩ 30))) := by
    refine ⟨hd.at_.alloc _, by rw [hna]; exact nest w2 [_] 0 _ rfl, by rw [hna]; exact hd.at_.lt, by rw [HPW.out]; exact Nat.le_refl _, ?_⟩
    exact (hd.chg.below HB.out HB.out.size fun k e => by rw [e, HPW.out]; exact Nat.le_refl _).alloc (by have := HB.out.size; have := hd.chg.size; omega) _
  have HNA := Lib.hid hna
  clear hd hna HA HB
  go_wp2_with fail
  simp only [← HNA.out]
  generalize w2.alloc (aO ⟨1, true, true, 1, 0⟩ 30) = w3 at G2 ⊢
  refine (fHear _ pw _ 2 true false (OK.out 2 0 (by decide) (by decide) (by decide) (by omega)) G2.out.la (⟨3, false, N, 0⟩, ⟨0, false, false, 2, 1⟩) rfl).mono ?_
  rintro _ w4 ⟨rfl, hd⟩
  have G3 := Lib.hid (G2.out.doA hd)
  clear hd G2
  go_wp2_with fail
  refine (fClose _ pw _ (OK.out 3 0 (by decide) (by decide) (by decide) (by omega)) G3.out.la (⟨4, false, N, 0⟩, ⟨4, true, true, 1, 0⟩) rfl).mono ?_
  rintro _ w5 ⟨rfl, hd⟩
  have G4 := Lib.hid (G3.out.doA hd)
  clear hd G3
  obtain ⟨⟨x0, x1, x2, x3, x4⟩, xf⟩ := cells5 G4.out.an
  have HS : Hid (St w pw na 4 4 N 0 (((((w5.setCell ⟨na, 0, none⟩ (.int .u8 4)).setCell ⟨na, 1, none⟩ (.bool true)).setCell ⟨na, 2, none⟩ (.bool true)).setCell ⟨na, 3, none⟩ (.int .u8 1)).setCell ⟨na, 4, none⟩ (.int .u8 0))) := by
    show St _ _ _ _ _ _ _ _
    unfold St
    rw [if_pos (Nat.zero_le _)]
    exact G4.out.set ⟨4, true, true, 1, 0⟩
  go_wp2_with fail
  clear x0 x1 x2 x3 x4 xf G4
  generalize hw6 : ((((w5.setCell ⟨na, 0, none⟩ (.int .u8 4)).setCell ⟨na, 1, none⟩ (.bool true)).setCell ⟨na, 2, none⟩ (.bool true)).setCell ⟨na, 3, none⟩ (.int .u8 1)).setCell ⟨na, 4, none⟩ (.int .u8 0) = w6 at HS ⊢
  clear hw6
  go_loopg [8, 9] (N + 1) (fun gm n i wr => ∃ k : Nat, n = nm k ∧ i = nm k ∧ N + 1 - k ≤ gm ∧ k ≤ N + 1 ∧ Hid (St w pw na 4 4 N k wr))
  case atStart => exact ⟨0, rfl, rfl, by omega, by omega, HS⟩
  case round =>
    clear HS
    obtain ⟨k, rfl, rfl, hgm, hkn, HS⟩ := hrel
    have t1 : decide ((k : Int) < 300) = true := decide_eq_true (by omega)
    have vk := wrap_nat (k + 1) (by omega)
    have hk5 : k ≤ 1000 := by omega
    by_cases hk : k ≤ N
    · have hg := HS.out
      unfold St at hg
      rw [if_pos hk] at hg
      have G5 := Lib.hid hg
      obtain ⟨⟨x0, x1, x2, x3, x4⟩, xf⟩ := cells5 hg.an
      clear hg HS
      go_wp2_with fail
      by_cases hlt : k < N
      · refine (fDue _ pw _ (OK.out 4 k (by decide) (by decide) (by omega) (by omega)) G5.out.la (⟨4, false, N, (k + 1 : Nat)⟩, ⟨4, true, true, 1, 0⟩) (by show again _ = _; unfold again; rw [if_pos (by dsimp only; omega)]; simp [cmd])).mono ?_
        rintro _ w7 ⟨rfl, hd⟩
        have G6 := Lib.hid (G5.out.doA hd)
        clear hd G5 x0 x1 x2 x3 x4 xf
        obtain ⟨⟨x0, x1, x2, x3, x4⟩, xf⟩ := cells5 G6.out.an
        have HS : Hid (St w pw na 4 4 N (k + 1) (set5 w7 na (.int .u8 4) (.bool true) (.bool true) (.int .u8 1) (.int .u8 0))) := by
          show St _ _ _ _ _ _ _ _
          unfold St
          rw [if_pos (by omega)]
          exact G6.out.set ⟨4, true, true, 1, 0⟩
        go_wp2
        go_roundg (N + 1 - (k + 1))
        case measure => omega
        case rel => exact ⟨k + 1, by first | rfl | go_num, by first | rfl | go_num, Nat.le_refl _, by omega, HS⟩
      · refine (fDue _ pw _ (OK.out 4 k (by decide) (by decide) (by omega) (by omega)) G5.out.la (⟨5, false, N, N⟩, ⟨0, false, false, 2, 6⟩) (by show again _ = _; unfold again; rw [if_neg (by dsimp only; omega)]; simp; omega)).mono ?_
        rintro _ w7 ⟨rfl, hd⟩
        have G6 := Lib.hid (G5.out.doA hd)
        clear hd G5 x0 x1 x2 x3 x4 xf
        obtain ⟨⟨x0, x1, x2, x3, x4⟩, xf⟩ := cells5 G6.out.an
        have HS : Hid (St w pw na 4 4 N (k + 1) (set5 w7 na (.int .u8 0) (.bool false) (.bool false) (.int .u8 2) (.int .u8 6))) := by
          show St _ _ _ _ _ _ _ _
          unfold St
          rw [if_neg (by omega)]
          exact G6.out.set ⟨0, false, false, 2, 6⟩
        go_wp2
        go_roundg (N + 1 - (k + 1))
        case measure => omega
        case rel => exact ⟨k + 1, by first | rfl | go_num, by first | rfl | go_num, Nat.le_refl _, by omega, HS⟩
    · have hg := HS.out
      unfold St at hg
      rw [if_neg hk] at hg
      have G5 := Lib.hid hg
      obtain rfl : k = N + 1 := by omega
      obtain ⟨⟨x0, x1, x2, x3, x4⟩, xf⟩ := cells5 hg.an
      have hlt0 := lt_heap hg.an
      clear hg HS
      go_wp2_with fail
      refine (crn.out _).mono ?_
      rintro _ w7 ⟨rfl, hr, hb⟩
      obtain ⟨-, -, c2, -⟩ := hr.cells
      have G6 := Lib.hid (G5.out.on hb)
      clear hr hb G5 x0 x1 x2 x3 x4 xf hlt0
      obtain ⟨⟨x0, x1, x2, x3, x4⟩, xf⟩ := cells5 G6.out.an
      have v1 : IntKind.i64.wrap (1 + (N : Int)) = 1 + (N : Int) := by rw [IntKind.wrap_i64]; omega
      have v2 : (((N + 1 : Nat) : Int) != 1 + (N : Int)) = false := bne_false (by omega)
      have v3 : (((N : Int) + 1) != 1 + (N : Int)) = false := bne_false (by omega)
      go_wp2_with fail
      refine (fstate _ pw _ G6.out.la (by dsimp only; decide)).mono ?_
      rintro _ v ⟨rfl, rfl⟩
      go_wp2_with fail
      refine (fDue _ pw _ (OK.out 5 N (by decide) (by decide) (by omega) (by omega)) G6.out.la (⟨5, false, N, N⟩, ⟨0, false, false, 0, 0⟩) rfl).mono ?_
      rintro _ w8 ⟨rfl, hd⟩
      have G7 := Lib.hid (G6.out.doA hd)
      clear hd G6 x0 x1 x2 x3 x4 xf c2
      go_wp2_with fail
      refine (fOpen _ pw _ (OK.out 5 N (by decide) (by decide) (by omega) (by omega)) G7.out.la (⟨2, false, N, 0⟩, ⟨1, true, true, 1, 0⟩) rfl).mono ?_
      rintro _ w9 ⟨rfl, hd⟩
      have G8 := Lib.hid (G7.out.doA hd)
      clear hd G7
      have kf := kind_of
      go_wp2_with fail
      refine (fstate _ pw _ G8.out.la (by dsimp only; decide)).mono ?_
      rintro _ v ⟨rfl, rfl⟩
      go_wp2_with fail
      refine (fworks _).mono ?_
      rintro _ w10 ⟨rfl, hb⟩
      have G9 := Lib.hid (G8.out.on hb)
      clear hb G8
      go_wp2
      go_ret
      exact ⟨rfl, G9.out.below⟩
theorem law (n2 : Int) (_ : -9223372036854775808 ≤ n2 ∧ n2 ≤ 9223372036854775807) (c : Bool) (w : World) : Calls Try.prog 5 #[.int .i64 n2, .bool c] w fun e w' => e = .returned (.bool true) ∧ Below w.heap.size w w' := by
  cases c with
  | true => exact gives_true n2 w
  | false => exact gives_false n2 w
end Go.Proofs.Ytfflbaiddiahnaa.linkGives

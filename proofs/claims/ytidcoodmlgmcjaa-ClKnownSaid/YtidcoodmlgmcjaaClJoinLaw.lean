/-
  ClJoin answers true for everything, and turns nothing that was there. No condition.
-/
import Derived.Test.YtidcoodmlgmcjaaClWorks
import Derived.Test.YtidcoodmlgmcjaaClArgs
namespace Go.Proofs.Ytidcoodmlgmcjaa.clJoin
open Go.RowKit Go.Proofs.Ytidcoodmlgmcjaa.Base Go.Proofs.Ytidcoodmlgmcjaa.Mem Go.Proofs.Ytidcoodmlgmcjaa.Cl
/-- Two joiners, both made since w, that are within a message or both are not. -/
structure Two (w : World) (jb rb : Nat) (i : Bool) (wr : World) : Prop where
  j : JAt 45 wr jb i
  r : JAt 33 wr rb i
  ne : jb ≠ rb
  lj : w.heap.size ≤ jb
  lr : w.heap.size ≤ rb
  below : Below w.heap.size w wr
theorem Two.cells {w wr : World} {jb rb : Nat} {i : Bool} (h : Two w jb rb i wr) : wr.cell? ⟨jb, 0, none⟩ = some (.bool i) ∧ wr.cell? ⟨rb, 0, none⟩ = some (.bool i) := ⟨cell_of h.j rfl, cell_of h.r rfl⟩
theorem Two.on {w wr wt : World} {jb rb : Nat} {i : Bool} (h : Two w jb rb i wr) (hb : Below wr.heap.size wr wt) : Two w jb rb i wt := ⟨stays h.j hb, stays h.r hb, h.ne, h.lj, h.lr, below_on h.below hb⟩
set_option maxHeartbeats 4000000 in
set_option maxRecDepth 100000 in
theorem all (oa : Option Addr) (n cap : Nat) (F : Nat → ByteArray) (w : World) (hA : ArgT w oa n F) :
    Calls Try.prog 4 #[.slice oa n cap] w fun e w' => e = .returned (.bool true) ∧ Below w.heap.size w w' := by
  have HA := Lib.hid hA
  have C5 := Lib.hid (fun w => fworks w)
  clear hA
  by_cases h : 100 < n
  · have h1 : (100 : Int) < (n : Int) := by omega
    have h2 : decide ((100 : Int) < (n : Int)) = true := decide_eq_true h1
    go_enter Try.func4, Try.ntmps4
    go_wp2_with (go_at_call 8; ((with_reducible refine (C5.out _).mono ?_); rintro e w1 ⟨rfl, hb⟩; have HB := Lib.hid hb; clear hb))
    go_ret
    exact ⟨rfl, HB.out⟩
  have h1 : ¬ (100 : Int) < (n : Int) := by omega
  have h2 : decide ((100 : Int) < (n : Int)) = false := decide_eq_false h1
  go_enter Try.func4, Try.ntmps4
  go_wp2_with fail
  refine (fNew2 _).mono ?_
  rintro _ w1 ⟨jb, rfl, hj, j1, b1⟩
  have HT : Hid (Two w jb w1.heap.size false (w1.alloc (.cells #[.bool false] 33))) := Lib.hid ⟨stays j1 (nest_below w1 [_]), nest w1 [_] 0 _ rfl, fun e => by have := lt_heap j1; omega, hj, b1.size, below_on b1 (nest_below w1 [_])⟩
  obtain ⟨rb, hrb⟩ : ∃ rb, rb = w1.heap.size := ⟨_, rfl⟩
  rw [← hrb] at HT
  clear hj j1 b1
  go_wp2_with fail
  simp only [← hrb]
  generalize w1.alloc (.cells #[.bool false] 33) = w2 at HT ⊢
  clear hrb
  go_loopg [5] n (fun g i wr => ∃ (k : Nat) (b : Bool), i = nm k ∧ n - k ≤ g ∧ k ≤ n ∧ Hid (Two w jb rb b wr))
  case atStart => exact ⟨0, false, rfl, by omega, by omega, HT⟩
  case round =>
    clear HT
    obtain ⟨k, b, rfl, hg, hk, HT⟩ := hrel
    by_cases hlt : k < n
    · have u1 : decide ((k : Int) < (n : Int)) = true := decide_eq_true (by omega)
      have j0 : (0 : Int) ≤ (k : Int) := by omega
      have j1 : (k : Int) < (n : Int) := by omega
      have v0 := wrap_n (k + 1) (by omega)
      obtain ⟨a, rfl, gb, go, ha, hgb, c0⟩ := HA.out.at1 HT.out.below hlt
      obtain ⟨x, hx⟩ : ∃ x, F k = x := ⟨_, rfl⟩
      have hsx := HA.out.inb k hlt
      have C0 : Hid (∀ wt, Below w.heap.size w wt → wt.cell? ⟨gb, go, none⟩ = some (.string x)) := Lib.hid fun wt hb => by
        rw [← hx, ← c0]
        exact (hb.cell (p := ⟨gb, go, none⟩) hgb).trans (HT.out.below.cell (p := ⟨gb, go, none⟩) hgb).symm
      rw [hx] at c0 hsx
      clear hx
      by_cases hs : 200 < x.size
      · have u2 : decide ((200 : Int) < (x.size : Int)) = true := decide_eq_true (by omega)
        have u3 : (200 : Int) < (x.size : Int) := by omega
        go_wp2_with (go_at_call 8; ((with_reducible refine (C5.out _).mono ?_); rintro e w6 ⟨rfl, hb⟩; have HB2 := Lib.hid (below_on HT.out.below hb); clear hb))
        go_ret
        exact ⟨rfl, HB2.out⟩
      · have u2 : decide ((200 : Int) < (x.size : Int)) = false := decide_eq_false (by omega)
        have u3 : ¬ (200 : Int) < (x.size : Int) := by omega
        obtain ⟨r, hr⟩ : ∃ r, put b x = r := ⟨_, rfl⟩
        have CP := Lib.hid (fun w jb hj => fPut x (by omega) b r hr w jb hj)
        have CR := Lib.hid (fun w jb hj => rPut x b r hr w jb hj)
        clear hr hsx
        go_wp2_with fail
        refine (CP.out _ _ HT.out.j).mono ?_
        rintro _ w3 ⟨rfl, j3, d3⟩
        have r3 : JAt 33 w3 rb b := d3.stays HT.out.r (fun e => HT.out.ne e.symm)
        have b3 : Below w.heap.size w w3 := d3.below HT.out.below HT.out.below.size fun k e => by rw [e]; exact HT.out.lj
        have c3 := C0.out w3 b3
        have J3 := Lib.hid j3
        have R3 := Lib.hid r3
        have B3 := Lib.hid b3
        clear j3 d3 r3 b3 c0
        go_wp2_with fail
        refine (CR.out _ _ R3.out).mono ?_
        rintro _ w4 ⟨rfl, r4, d4⟩
        have HT4 : Hid (Two w jb rb r.i w4) := Lib.hid ⟨d4.stays J3.out HT.out.ne, r4, HT.out.ne, HT.out.lj, HT.out.lr, d4.below B3.out B3.out.size fun k e => by rw [e]; exact HT.out.lr⟩
        obtain ⟨rd, re, rr, ri⟩ := r
        have c5 : w4.cell? ⟨rb, 0, none⟩ = some (.bool ri) := HT4.out.cells.2
        have CW := Lib.hid (fun m => fWithin (w4.drewN m) jb ri HT4.out.j)
        have e1 : (rd.toList == rd.toList) = true := beq_self_eq_true _
        have e2 : (re == re) = true := beq_self_eq_true _
        have e3 : ((rr : Int) == (rr : Int)) = true := beq_self_eq_true _
        have e4 : (ri == ri) = true := beq_self_eq_true _
        clear r4 d4 c3 J3 R3 B3 HT
        go_wp2_with fail
        go_quiet (first
          | (go_at_call 15; ((with_reducible refine (CW.out _).mono ?_); rintro e w' ⟨rfl, rfl⟩; exact ⟨rfl, _, rfl⟩)))
        have HT5 := Lib.hid (HT4.out.on (below_drewN (Below.refl _ _) nq))
        clear CW c5 HT4
        generalize w4.drewN nq = w5 at HT5 ⊢
        go_wp2
        go_roundg (n - (k + 1))
        case measure => omega
        case rel => exact ⟨k + 1, ri, by first | rfl | go_num, Nat.le_refl _, by omega, HT5⟩
    · have u1 : decide ((k : Int) < (n : Int)) = false := decide_eq_false (by omega)
      have u2 : ¬ (k : Int) < (n : Int) := by omega
      go_wp2_with (go_at_call 8; ((with_reducible refine (C5.out _).mono ?_); rintro e w6 ⟨rfl, hb⟩; have HB2 := Lib.hid (below_on HT.out.below hb); clear hb))
      go_ret
      exact ⟨rfl, HB2.out⟩
theorem law (oa : Option Addr) (n cap : Nat) (F : Nat → ByteArray) (_ : n ≤ maxLen) (w : World) (hA : ArgT w oa n F) :
    Calls Try.prog 4 #[.slice oa n cap] w fun e w' => e = .returned (.bool true) ∧ Below w.heap.size w w' := all oa n cap F w hA
end Go.Proofs.Ytidcoodmlgmcjaa.clJoin

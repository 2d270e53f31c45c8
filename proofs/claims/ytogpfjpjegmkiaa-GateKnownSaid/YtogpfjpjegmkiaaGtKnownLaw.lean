/-
  GateKnown answers true, and turns nothing that was there. No condition.
-/
import Derived.Test.YtogpfjpjegmkiaaGtApartLaw
import Derived.Test.YtogpfjpjegmkiaaGtPlaysLaw
import Derived.Test.YtogpfjpjegmkiaaGtNoneLaw
namespace Go.Proofs.Ytogpfjpjegmkiaa.gateKnown
open Go.RowKit Go.Proofs.Ytogpfjpjegmkiaa.Base Go.Proofs.Ytogpfjpjegmkiaa.Mem Go.Proofs.Ytogpfjpjegmkiaa.Cr Go.Proofs.Ytogpfjpjegmkiaa.Gt
abbrev CT : TypeId := 35
def callAt (l : List Ct) (k : Nat) : Ct := l.getD k ⟨false, 0, false⟩
/-- A row of calls that was written out. -/
theorem written (w : World) (l : List Ct) (hl : ∀ y ∈ l, CFit y) : ArgS 3 cc CFit (w.alloc (.cells (l.flatMap cc).toArray CT (0, 0))) (some ⟨w.heap.size, 0, none⟩) l.length (callAt l) := by
  have hb : (w.alloc (.cells (l.flatMap cc).toArray CT (0, 0))).heap[w.heap.size]? = some (.cells (l.flatMap cc).toArray CT (0, 0)) := nest w [_] 0 _ rfl
  have hg : ∀ k, k < l.length → l[k]? = some (callAt l k) := fun k hk => by
    unfold callAt; rw [List.getD_eq_getElem?_getD, List.getElem?_eq_getElem hk]; rfl
  refine ⟨fun _ => ⟨_, rfl, lt_heap hb⟩, fun k hk => hl _ (List.mem_of_getElem? (hg k hk)), fun a ha k hk j hj => ?_⟩
  cases ha
  rw [add_at, add_off, ← flat_get (fc := cc) (z := 3) (fun _ => rfl) l _ k j (hg k hk) hj, Nat.mul_comm 3 k]
  unfold World.cell?
  rw [hb]
  simp
/-- The gate, once the numbers below k are stopped. -/
def kn : Nat → St
  | 0 => St.new
  | k + 1 => (kn k).stop k true
theorem kn_ok : ∀ k, (kn k).Ok
  | 0 => .new
  | k + 1 => (kn_ok k).stop _ _
theorem kn_may (k : Nat) : (kn (k + 1)).may k = decide (k = 0) := by
  by_cases h0 : k = 0
  · subst h0; rfl
  · rw [decide_eq_false h0]
    by_cases h1 : k ≤ 63
    · rw [may_at (by omega) h1]
      have : (kn (k + 1)).st k = true := by
        show ((kn k).stop k true).st k = true
        rw [stop_st (kn_ok k) true ⟨by omega, h1⟩, if_pos rfl]
      rw [this]; simp
    · exact may_hi (by omega)
theorem kn_len : ((kn 256).sl 64).length = 63 := by decide +kernel
theorem kn_op : (kn 256).op = true := by decide +kernel
/-- The calls that are played, in a row of their own. -/
abbrev l6 (i : Nat) : List Ct := [⟨false, i, true⟩, ⟨true, 0, false⟩, ⟨false, 63, true⟩, ⟨true, 0, true⟩, ⟨false, i, false⟩, ⟨false, i / 2, true⟩]
abbrev a6 (i : Nat) : Array Value := #[.bool false, oc i, .bool true, .bool true, .int .u8 0, .bool false, .bool false, .int .u8 63, .bool true, .bool true, .int .u8 0, .bool true, .bool false, oc i, .bool false, .bool false, .int .u8 ((i : Int) / 2), .bool true]
abbrev l3 (i : Nat) (p q : Bool) : List Ct := [⟨false, i, p⟩, ⟨false, 7, true⟩, ⟨true, 9, q⟩]
abbrev a3 (i : Nat) (p q : Bool) : Array Value := #[.bool false, oc i, .bool p, .bool false, .int .u8 7, .bool true, .bool true, .int .u8 9, .bool q]
theorem cplays (i : Nat) (hi : i < 256) (w : World) : Calls Try.prog 3 #[.slice (some ⟨w.heap.size, 0, none⟩) 6 6, oc i] (w.alloc (.cells (a6 i) CT (0, 0))) fun e w' => e = .returned (.bool true) ∧ Below w.heap.size w w' := by
  have h := written w (l6 i) fun y hy => by
    simp only [l6, List.mem_cons, List.not_mem_nil, or_false] at hy
    unfold CFit
    rcases hy with rfl | rfl | rfl | rfl | rfl | rfl <;> dsimp only <;> omega
  exact (gatePlays.all _ 6 6 (callAt (l6 i)) i _ h).mono fun _ _ ⟨he, hb⟩ => ⟨he, below_on ((Below.refl _ _).alloc (Nat.le_refl _) _) hb⟩
theorem capart (i : Nat) (hi : i < 256) (p q : Bool) (w : World) : Calls Try.prog 4 #[.slice (some ⟨w.heap.size, 0, none⟩) 3 3, .int .u8 7] (w.alloc (.cells (a3 i p q) CT (0, 0))) fun e w' => e = .returned (.bool true) ∧ Below w.heap.size w w' := by
  have h := written w (l3 i p q) fun y hy => by
    simp only [l3, List.mem_cons, List.not_mem_nil, or_false] at hy
    unfold CFit
    rcases hy with rfl | rfl | rfl <;> dsimp only <;> omega
  exact (gateApart.all _ 3 3 (callAt (l3 i p q)) 7 _ h).mono fun _ _ ⟨he, hb⟩ => ⟨he, below_on ((Below.refl _ _).alloc (Nat.le_refl _) _) hb⟩
set_option maxHeartbeats 16000000 in
set_option maxRecDepth 100000 in
theorem law (w : World) : Calls Try.prog 6 #[] w fun e w' => e = .returned (.bool true) ∧ Below w.heap.size w w' := by
  have CW := Lib.hid fworks
  go_enter Try.func6, Try.ntmps6
  go_wp2_with fail
  refine (fnew w).mono ?_
  rintro _ w1 ⟨rfl, hp, hb⟩
  have HP : Hid (Pn w w.heap.size (kn 0) w1) := Lib.hid ⟨hp, Nat.le_refl _, hb⟩
  clear hp hb
  generalize hb : w.heap.size = b at HP ⊢
  have HPB := Lib.hid hb
  clear hb
  go_wp2_with fail
  go_loopg [2] 256 (fun gm s wr => ∃ i : Nat, s = nm i ∧ 256 - i ≤ gm ∧ i ≤ 256 ∧ Hid (Pn w b (kn i) wr))
  case atStart => exact ⟨0, rfl, by omega, by omega, HP⟩
  case round =>
    clear HP
    obtain ⟨i, rfl, hgm, hin, HP⟩ := hrel
    by_cases hlt : i < 256
    · have t1 : decide ((i : Int) < 256) = true := decide_eq_true (by omega)
      have t2 : (i : Int) < 256 := by omega
      have vi := wrap_nat (i + 1) (by omega)
      have ui := wrap_u8 i (by omega)
      have HM := Lib.hid (kn_may i)
      have CP := Lib.hid (cplays i hlt)
      have CA := Lib.hid (capart i hlt)
      have CN := Lib.hid (gateNone.law i hlt)
      obtain ⟨p2, e2⟩ : ∃ p, ((i : Int) % 2 == 0) = p := ⟨_, rfl⟩
      obtain ⟨p3, e3⟩ : ∃ p, ((i : Int) % 3 == 0) = p := ⟨_, rfl⟩
      obtain ⟨g, hg⟩ : ∃ g, decide (i = 0) = g := ⟨_, rfl⟩
      have e0 : ((i : Int) == 0) = g := (oc_beq i 0).trans hg
      have zg : (g != g) = false := by cases g <;> rfl
      have HG := Lib.hid (HM.out.trans hg)
      clear hg
      go_wp2_with fail
      refine (fstop HP.out.q i true).mono ?_
      rintro _ w3 ⟨rfl, hp, hc⟩
      have HP2 : Hid (Pn w b (kn (i + 1)) w3) := Lib.hid (HP.out.step hp hc)
      clear hp hc HP
      go_wp2_with fail
      refine (fmay_at HP2.out.q i g HG.out).mono ?_
      rintro _ _ ⟨rfl, nq, rfl⟩
      have HP3 := Lib.hid (HP2.out.drewN nq)
      clear HP2
      generalize w3.drewN nq = w4 at HP3 ⊢
      go_wp2_with fail
      refine (CP.out w4).mono ?_
      rintro _ w5 ⟨rfl, hb⟩
      have HP4 := Lib.hid (HP3.out.on hb)
      clear hb HP3 CP
      go_wp2_with fail
      refine (CA.out p2 p3 w5).mono ?_
      rintro _ w6 ⟨rfl, hb⟩
      have HP5 := Lib.hid (HP4.out.on hb)
      clear hb HP4 CA
      go_wp2_with fail
      refine (CN.out p2 w6).mono ?_
      rintro _ w7 ⟨rfl, hb⟩
      have HP6 := Lib.hid (HP5.out.on hb)
      clear hb HP5 CN
      go_wp2
      go_roundg (256 - (i + 1))
      case measure => omega
      case rel => exact ⟨i + 1, by first | rfl | go_num, Nat.le_refl _, by omega, HP6⟩
    · obtain rfl : i = 256 := by omega
      have CS := Lib.hid (fstopped HP.out.q)
      go_wp2_with fail
      refine CS.out.mono ?_
      rintro _ w3 ⟨v, rfl, hg⟩
      have HP2 := Lib.hid (HP.out.on hg.below)
      obtain ⟨oa, cap, rfl, _⟩ := own_form hg.own
      rw [kn_len]
      clear hg CS HP
      go_wp2_with fail
      refine (fopen_at HP2.out.q true kn_op).mono ?_
      rintro _ _ ⟨rfl, rfl⟩
      go_wp2_with fail
      refine (CW.out _).mono ?_
      rintro _ w9 ⟨rfl, hb⟩
      have HB9 := Lib.hid (HP2.out.on hb)
      clear hb CW HP2
      go_wp2
      go_ret
      exact ⟨rfl, HPB.out ▸ HB9.out.below⟩
end Go.Proofs.Ytogpfjpjegmkiaa.gateKnown

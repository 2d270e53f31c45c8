/-
  Frames go to and fro between two sides till none is left. Condition: the pair is in order and few frames wait; they come to an end.
-/
import Derived.Test.YtkoaplmlabagnaaAqPr7
import Derived.Deep.LoopGhost
namespace Go.Proofs.Ytkoaplmlabagnaa.Aq
open Go.RowKit Go.Proofs.Ytkoaplmlabagnaa.Base Go.Proofs.Ytkoaplmlabagnaa.Mem
/-- A pair within a round: ahead, when the one side's frame has come, when both have. -/
def mid : Nat → Pr → Pr × Bool
  | 0, y => (y, false)
  | 1, y => pHalf y
  | _, y => pBoth y
theorem settle_more (n : Nat) (y r : Pr) (h : settle n y = (r, true)) : 0 < n ∧ if (pBoth y).2 = true then settle (n - 1) (pBoth y).1 = (r, true) else (pBoth y).1 = r := by
  cases n with
  | zero => cases h
  | succ n =>
    refine ⟨Nat.succ_pos n, ?_⟩
    unfold settle at h
    split at h
    · rename_i hb
      rw [if_pos hb]; exact h
    · rename_i hb
      rw [if_neg hb]
      injection h
set_option maxHeartbeats 8000000 in
set_option maxRecDepth 100000 in
theorem fsettle (w0 w : World) (b : Bk) (x : Pr) (N M : Nat) (h : PrE w0 b x w) (hk : Pok N M x) (hN : N ≤ 1000000) (hM : M + 1 ≤ 1000) (r : Pr) (hs : settle 5000 x = (r, true)) :
    Calls Try.prog 43 #[ptr b.tb] w fun e w' => e = .returned (.bool true) ∧ PrE w0 b r w' := by
  have HP := Lib.hid h
  have HK := Lib.hid hk
  have HN := Lib.hid hN
  have HM := Lib.hid hM
  have HS := Lib.hid hs
  clear h hk hN hM hs
  go_enter Try.func43, Try.ntmps43
  go_wp2_with fail
  go_loopg [3] 5000 (fun gm s wr => ∃ (n : Nat) (y : Pr), s = nm n ∧ 5000 - n ≤ gm ∧ n ≤ 5000 ∧ Hid (PrE w0 b y wr) ∧ Hid (Pok N M y) ∧ Hid (settle (5000 - n) y = (r, true)))
  case atStart => exact ⟨0, x, rfl, by omega, by omega, HP, HK, HS⟩
  case round =>
    clear HP HK HS
    obtain ⟨n, y, rfl, hgm, hn, HP, HK, HS⟩ := hrel
    have hlt : n < 5000 := by have := (settle_more _ _ _ HS.out).1; omega
    have HS2 := Lib.hid (settle_more _ _ _ HS.out).2
    clear HS
    have t1 : decide ((n : Int) < 5000) = true := decide_eq_true (by omega)
    have t2 : (n : Int) < 5000 := by omega
    have vk := wrapn (n + 1) (by omega)
    go_wp2_with fail
    go_loopg [4, 5] 2 (fun gi s t wi => ∃ (i : Nat) (c : Bool), s = .bool c ∧ t = nm i ∧ 2 - i ≤ gi ∧ i ≤ 2 ∧ Hid (PrE w0 b (mid i y).1 wi) ∧ Hid ((mid i y).2 = c))
    case atStart => exact ⟨0, false, rfl, rfl, by omega, by omega, HP, Lib.hid rfl⟩
    case round =>
      clear HP
      obtain ⟨i, c, rfl, rfl, hgi, hi2, HP, HC⟩ := hrel
      rcases (show i = 0 ∨ i = 1 ∨ i = 2 by omega) with rfl | rfl | rfl
      · have hc : false = c := HC.out
        subst hc
        have CS := Lib.hid (osend0 (show PrE w0 b y _ from HP.out) HK.out (by have := HM.out; omega))
        clear HC HP
        go_wp2_with fail
        refine CS.out.mono ?_
        rintro _ w2 ⟨rfl, h2⟩
        have CH := Lib.hid (ohand0 h2 HK.out.send HN.out)
        clear h2 CS
        have HQ : Hid ((mid 1 y).2 = ((next y.A).2.2 || !(pSend y).L0.isEmpty)) := Lib.hid rfl
        generalize (next y.A).2.2 = s1 at HQ ⊢
        generalize (!(pSend y).L0.isEmpty) = s2 at HQ CH
        go_wp2_with fail
        refine CH.out.mono ?_
        rintro _ w3 ⟨rfl, h3⟩
        have H3 : Hid (PrE w0 b (mid 1 y).1 w3) := Lib.hid h3
        clear h3 CH
        cases s1 <;> cases s2
        all_goals
          (go_wp2
           go_roundg (1)
           case measure => omega
           case rel => exact ⟨1, _, rfl, by first | rfl | go_num, by omega, by omega, H3, HQ⟩)
      · have CS := Lib.hid (osend1 (show PrE w0 b (pHalf y).1 _ from HP.out) HK.out.half (by have := HM.out; omega))
        clear HP
        go_wp2_with fail
        refine CS.out.mono ?_
        rintro _ w2 ⟨rfl, h2⟩
        have CH := Lib.hid (ohand1 h2 HK.out.half.swp.send.swp HN.out)
        clear h2 CS
        have HQ : Hid ((mid 2 y).2 = (c || ((next (pHalf y).1.B).2.2 || !(swp (pSend (swp (pHalf y).1))).L1.isEmpty))) := Lib.hid (by rw [← HC.out]; rfl)
        clear HC
        generalize (next (pHalf y).1.B).2.2 = s1 at HQ ⊢
        generalize (!(swp (pSend (swp (pHalf y).1))).L1.isEmpty) = s2 at HQ CH
        go_wp2_with fail
        refine CH.out.mono ?_
        rintro _ w3 ⟨rfl, h3⟩
        have H3 : Hid (PrE w0 b (mid 2 y).1 w3) := Lib.hid h3
        clear h3 CH
        cases c <;> cases s1 <;> cases s2
        all_goals
          (go_wp2
           go_roundg (0)
           case measure => omega
           case rel => exact ⟨2, _, rfl, by first | rfl | go_num, by omega, by omega, H3, HQ⟩)
      · have hc : (pBoth y).2 = c := HC.out
        have HS3 := HS2.out
        rw [hc] at HS3
        have H4 : Hid (PrE w0 b (pBoth y).1 wr) := HP
        have HK2 := Lib.hid HK.out.both
        clear HC HP HK HS2 hc
        cases c
        · rw [if_neg (by decide)] at HS3
          have HR := Lib.hid HS3
          clear HS3
          go_wp2
          go_ret
          exact ⟨rfl, by rw [← HR.out]; exact H4.out⟩
        · rw [if_pos rfl] at HS3
          have HR := Lib.hid HS3
          clear HS3
          go_wp2
          go_roundg (5000 - (n + 1))
          case measure => omega
          case rel => exact ⟨n + 1, _, by first | rfl | go_num, Nat.le_refl _, by omega, H4, HK2, HR⟩
end Go.Proofs.Ytkoaplmlabagnaa.Aq

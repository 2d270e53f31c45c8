/-
  LinkKnown answers true, and turns nothing that was there. A closed statement.
-/
import Derived.Test.YtfflbaiddiahnaaLkHeads
namespace Go.Proofs.Ytfflbaiddiahnaa.linkKnown
open Go.RowKit Go.Proofs.Ytfflbaiddiahnaa.Base Go.Proofs.Ytfflbaiddiahnaa.Mem Go.Proofs.Ytfflbaiddiahnaa.Lk
/-- The numbers of the last loop. -/
abbrev nums : Array Value := #[.int .i64 (-9223372036854775808), .int .i64 (-1), .int .i64 0, .int .i64 1, .int .i64 2, .int .i64 255, .int .i64 256, .int .i64 9223372036854775807]
theorem nums_at {j : Nat} (hj : j < 8) : ∃ v : Int, nums[j]? = some (.int .i64 v) ∧ -9223372036854775808 ≤ v ∧ v ≤ 9223372036854775807 := by
  match j, hj with
  | 0, _ => exact ⟨_, rfl, by decide, by decide⟩
  | 1, _ => exact ⟨_, rfl, by decide, by decide⟩
  | 2, _ => exact ⟨_, rfl, by decide, by decide⟩
  | 3, _ => exact ⟨_, rfl, by decide, by decide⟩
  | 4, _ => exact ⟨_, rfl, by decide, by decide⟩
  | 5, _ => exact ⟨_, rfl, by decide, by decide⟩
  | 6, _ => exact ⟨_, rfl, by decide, by decide⟩
  | 7, _ => exact ⟨_, rfl, by decide, by decide⟩
structure Ns (w0 : World) (gb : Nat) (w : World) : Prop where
  blk : w.heap[gb]? = some (.cells nums 3)
  lo : w0.heap.size ≤ gb
  below : Below w0.heap.size w0 w
theorem Ns.on {w0 w w' : World} {gb : Nat} (h : Ns w0 gb w) (hB : Below w.heap.size w w') : Ns w0 gb w' := ⟨stays h.blk hB, h.lo, below_on h.below hB⟩
set_option maxHeartbeats 16000000 in
set_option maxRecDepth 100000 in
theorem law (w : World) : Calls Try.prog 8 #[] w fun e w' => e = .returned (.bool true) ∧ Below w.heap.size w w' := by
  have HH : Hid (Hd w (w.heap.size + 1 + 1 + 1 + 1 + 1 + 1 + 1) (hW w)) := Lib.hid (heads w)
  go_enter Try.func8, Try.ntmps8
  go_wp2_with fail
  generalize w.heap.size + 1 + 1 + 1 + 1 + 1 + 1 + 1 = hb at HH ⊢
  go_loopg [2] 8 (fun gm s wr => ∃ i : Nat, s = nm i ∧ 8 - i ≤ gm ∧ i ≤ 8 ∧ Hid (Hd w hb wr))
  case atStart => exact ⟨0, rfl, by omega, by omega, HH⟩
  case round =>
    clear HH
    obtain ⟨i, rfl, hgi, hi8, HH⟩ := hrel
    by_cases hi : i < 8
    · have t1 : decide ((i : Int) < 8) = true := decide_eq_true (by omega)
      have t1b : (i : Int) < 8 := by omega
      have i0 : (0 : Int) ≤ (i : Int) := by omega
      have vi := wrap_nat (i + 1) (by omega)
      go_wp2_with fail
      go_loopg [3] 56 (fun gm s wr => ∃ n : Nat, s = nm n ∧ 56 - n ≤ gm ∧ n ≤ 56 ∧ Hid (Hd w hb wr))
      case atStart => exact ⟨0, rfl, by omega, by omega, HH⟩
      case round =>
        clear HH
        obtain ⟨n, rfl, hgn, hn56, HH⟩ := hrel
        by_cases hn : n < 56
        · have t2 : decide ((n : Int) < 56) = true := decide_eq_true (by omega)
          have vn := wrap_nat (n + 1) (by omega)
          go_wp2_with fail
          go_loopg [4] 60 (fun gm s wr => ∃ k : Nat, s = nm k ∧ 60 - k ≤ gm ∧ k ≤ 60 ∧ Hid (Hd w hb wr))
          case atStart => exact ⟨0, rfl, by omega, by omega, HH⟩
          case round =>
            clear HH
            obtain ⟨k, rfl, hgk, hk60, HH⟩ := hrel
            by_cases hk : k < 56
            · have t3 : decide ((k : Int) < 56) = true := decide_eq_true (by omega)
              obtain ⟨o, m, c, l, hc, hq, hl, hm3, h0, hf⟩ := HH.out.row i hi
              obtain ⟨v1, w1, hr1, hq1, hb1⟩ := app0 hq hl hm3 h0 22
              obtain ⟨v2, w2, hr2, hq2, hb2⟩ := app4 hq1 (by omega) hb1.size ⟨4, (n : Int) % 14, decide ((n : Int) % 28 < 14), decide ((n : Int) < 28)⟩ ⟨(k : Int) % 5, (k : Int) % 14, decide ((k : Int) % 28 < 14), decide ((k : Int) < 28)⟩ ⟨2, 0, false, false⟩ ⟨4, 4, false, true⟩ 22
              have hf2 : ∀ x ∈ l ++ [⟨4, (n : Int) % 14, decide ((n : Int) % 28 < 14), decide ((n : Int) < 28)⟩, ⟨(k : Int) % 5, (k : Int) % 14, decide ((k : Int) % 28 < 14), decide ((k : Int) < 28)⟩, ⟨2, 0, false, false⟩, ⟨4, 4, false, true⟩], Fits x := by
                intro x hx
                rcases List.mem_append.1 hx with hx | hx
                · exact hf x hx
                · simp only [List.mem_cons, List.not_mem_nil, or_false] at hx
                  rcases hx with rfl | rfl | rfl | rfl <;> (unfold Fits; dsimp only; omega)
              have HB2 : Hid (Below wr.heap.size wr w2) := Lib.hid (hb1.trans hb2)
              have HH2 : Hid (Hd w hb w2) := Lib.hid (HH.out.on HB2.out)
              obtain ⟨o2, c2, F2, hv2, hA2⟩ := qz_args hq2 hf2
              have hlen : (l ++ ([⟨4, (n : Int) % 14, decide ((n : Int) % 28 < 14), decide ((n : Int) < 28)⟩, ⟨(k : Int) % 5, (k : Int) % 14, decide ((k : Int) % 28 < 14), decide ((k : Int) < 28)⟩, ⟨2, 0, false, false⟩, ⟨4, 4, false, true⟩] : List Et)).length = m + 4 := by simp [hl]
              rw [hlen] at hv2 hA2
              subst hv2
              obtain ⟨n2, hn2e⟩ : ∃ n2, n2 = m + 4 := ⟨_, rfl⟩
              rw [← hn2e] at hr2 hA2
              have hn2 : n2 ≤ maxLen := by unfold maxLen; omega
              have HA2 := Lib.hid hA2
              have HR1 := Lib.hid hr1
              have HR2 := Lib.hid hr2
              clear hq1 hb1 hb2 hf hl hr1 hr2 hq h0 hq2 hf2 hA2 hlen hn2e hm3
              obtain ⟨d8, hd8⟩ : ∃ d8, n % 8 = d8 := ⟨_, rfl⟩
              obtain ⟨d4, hd4⟩ : ∃ d4, n % 4 = d4 := ⟨_, rfl⟩
              have hd4l : d4 < 4 := by omega
              have qd8 : (n : Int) % 8 = (d8 : Int) := by omega
              have qd4 : (n : Int) % 4 = (d4 : Int) := by omega
              have hd8l : d8 < 8 := by omega
              have vk1 : IntKind.i64.wrap ((k : Int) + 1) = (k : Int) + 1 := by rw [IntKind.wrap_i64]; omega
              have vk2 : IntKind.i64.wrap ((k : Int) + 1 + (d4 : Int)) = (k : Int) + 1 + (d4 : Int) := by rw [IntKind.wrap_i64]; omega
              go_wp2_with (first
                | (at_builtin; refine wpList_append_known wr rfl _ _ _ _ rfl rfl rfl HR1.out ?_)
                | (at_builtin; refine wpList_append_known (w1.alloc (.cells #[.int .i64 4, .int .u8 ((n : Int) % 14), .bool (decide ((n : Int) % 28 < 14)), .bool (decide ((n : Int) < 28)), .int .i64 ((k : Int) % 5), .int .u8 ((k : Int) % 14), .bool (decide ((k : Int) % 28 < 14)), .bool (decide ((k : Int) < 28)), .int .i64 2, .int .u8 0, .bool false, .bool false, .int .i64 4, .int .u8 4, .bool false, .bool true] 33)) rfl _ _ _ _ rfl rfl rfl HR2.out ?_))
              refine (linkPlays.law 1 (by decide) o2 n2 c2 F2 hn2 w2 HA2.out).mono ?_
              rintro _ w3 ⟨rfl, hb3⟩
              have HH3 := Lib.hid (HH2.out.on hb3)
              have HB3 := Lib.hid hb3
              clear hb3 HR1 HR2 HH2 HB2 HH
              go_wp2_with fail
              refine (linkSays.law 1 (by decide) o2 n2 c2 F2 hn2 w3 (HA2.out.below HB3.out)).mono ?_
              rintro _ w4 ⟨rfl, hb4⟩
              have HH4 := Lib.hid (HH3.out.on hb4)
              have HB4 := Lib.hid (below_on HB3.out hb4)
              clear hb4 HH3 HB3
              clear hd8 hd4
              by_cases hk8 : k % 8 = 0
              · have q8 : ((k : Int) % 8 == 0) = true := beq_true (by omega)
                obtain ⟨o5, m5, c5, l5, hc5, hq5, hl5, hm5, -, hf5⟩ := HH4.out.row d8 hd8l
                obtain ⟨o6, c6, F6, hv6, hA6⟩ := qz_args hq5 hf5
                injection hv6 with e1 e2 e3
                subst e1 e2 e3
                have HA6 := Lib.hid hA6
                have hl6 : l5.length ≤ maxLen := by unfold maxLen; omega
                have g8 : (d8 : Int) < 8 := by omega
                have g9 : (0 : Int) ≤ (d8 : Int) := by omega
                clear hq5 hf5 hA6 hm5 hl5
                go_wp2_with fail
                refine (linkMeets.law 1 (by decide) o2 n2 c2 F2 hn2 _ _ _ F6 hl6 _ _ w4 (HA2.out.below HB4.out) HA6.out).mono ?_
                rintro _ w5 ⟨rfl, hb5⟩
                have HH5 := Lib.hid (HH4.out.on hb5)
                clear hb5 HA6 hc5 HH4 HB4 HA2
                go_wp2
                go_roundg (60 - (k + 1 + d4))
                case measure => omega
                case rel => exact ⟨k + 1 + d4, by first | rfl | go_num, by omega, by omega, HH5⟩
              · have q8 : ((k : Int) % 8 == 0) = false := beq_false (by omega)
                have HH5 := HH4
                clear HH4 HB4 HA2
                go_wp2
                go_roundg (60 - (k + 1 + d4))
                case measure => omega
                case rel => exact ⟨k + 1 + d4, by first | rfl | go_num, by omega, by omega, HH5⟩
            · have t3 : decide ((k : Int) < 56) = false := decide_eq_false (by omega)
              have u8 : IntKind.u8.wrap (n : Int) = (n : Int) := by rw [IntKind.wrap_u8]; omega
              go_wp2_with fail
              refine (linkNone.lawE ⟨(n : Int), (n : Int), false, false⟩ wr).mono ?_
              rintro _ w3 ⟨rfl, hb3⟩
              have HH3 := Lib.hid (HH.out.on hb3)
              clear hb3 HH
              go_wp2
              go_roundg (56 - (n + 1))
              case measure => omega
              case rel => exact ⟨n + 1, by first | rfl | go_num, Nat.le_refl _, by omega, HH3⟩
        · have t2 : decide ((n : Int) < 56) = false := decide_eq_false (by omega)
          go_wp2
          go_roundg (8 - (i + 1))
          case measure => omega
          case rel => exact ⟨i + 1, by first | rfl | go_num, Nat.le_refl _, by omega, HH⟩
    · have t1 : decide ((i : Int) < 8) = false := decide_eq_false (by omega)
      go_wp2_with fail
      have HG : Hid (Ns w wr.heap.size (wr.alloc (.cells nums 3))) := ⟨nest wr [_] 0 _ rfl, HH.out.below.size, HH.out.below.alloc HH.out.below.size _⟩
      generalize wr.heap.size = gb at HG ⊢
      clear HH
      generalize wr.alloc (.cells nums 3) = w1 at HG ⊢
      go_loopg [114] 8 (fun gm s wr => ∃ j : Nat, s = nm j ∧ 8 - j ≤ gm ∧ j ≤ 8 ∧ Hid (Ns w gb wr))
      case atStart => exact ⟨0, rfl, by omega, by omega, HG⟩
      case round =>
        clear HG
        obtain ⟨j, rfl, hgj, hj8, HG⟩ := hrel
        by_cases hj : j < 8
        · have t4 : decide ((j : Int) < 8) = true := decide_eq_true (by omega)
          have t4b : (j : Int) < 8 := by omega
          have j0 : (0 : Int) ≤ (j : Int) := by omega
          have vj := wrap_nat (j + 1) (by omega)
          obtain ⟨v, hv, hv1⟩ := nums_at hj
          have cj := cell_of HG.out.blk hv
          have hN : ArgS 4 ec Fits wr none 0 (fun _ => ⟨0, 0, false, false⟩) := ⟨fun h => absurd h (by decide), fun k hk => absurd hk (by omega), fun a ha => by cases ha⟩
          have HN := Lib.hid hN
          clear hv hN
          go_wp2_with fail
          refine (linkGives.law v hv1 true wr).mono ?_
          rintro _ w3 ⟨rfl, hb3⟩
          have HG3 := Lib.hid (HG.out.on hb3)
          have HB3 := Lib.hid hb3
          clear hb3 HG cj
          go_wp2_with fail
          refine (linkGives.law v hv1 false w3).mono ?_
          rintro _ w4 ⟨rfl, hb4⟩
          have HG4 := Lib.hid (HG3.out.on hb4)
          have HB4 := Lib.hid (below_on HB3.out hb4)
          clear hb4 HG3 HB3
          go_wp2_with fail
          refine (linkMeets.law v hv1 none 0 0 _ (Nat.zero_le _) none 0 0 _ (Nat.zero_le _) false false w4 (HN.out.below HB4.out) (HN.out.below HB4.out)).mono ?_
          rintro _ w5 ⟨rfl, hb5⟩
          have HG5 := Lib.hid (HG4.out.on hb5)
          clear hb5 HG4 HB4 HN
          go_wp2
          go_roundg (8 - (j + 1))
          case measure => omega
          case rel => exact ⟨j + 1, by first | rfl | go_num, Nat.le_refl _, by omega, HG5⟩
        · have t4 : decide ((j : Int) < 8) = false := decide_eq_false (by omega)
          go_wp2_with fail
          refine (fworks wr).mono ?_
          rintro _ w3 ⟨rfl, hb3⟩
          have HG3 := Lib.hid (HG.out.on hb3)
          clear hb3 HG
          go_wp2
          go_ret
          exact ⟨rfl, HG3.out.below⟩
end Go.Proofs.Ytfflbaiddiahnaa.linkKnown

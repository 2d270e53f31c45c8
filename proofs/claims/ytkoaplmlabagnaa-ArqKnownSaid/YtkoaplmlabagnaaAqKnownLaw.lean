/-
  ArqKnown answers true, and turns nothing that was there. No condition.
-/
import Derived.Test.YtkoaplmlabagnaaAqHeads
import Derived.Deep.DeepCutAuto
namespace Go.Proofs.Ytkoaplmlabagnaa.arqKnown
open Go.RowKit Go.Proofs.Ytkoaplmlabagnaa.Base Go.Proofs.Ytkoaplmlabagnaa.Mem Go.Proofs.Ytkoaplmlabagnaa.Aq
theorem facts (x : Nat) (hx : x < 997) : ∃ (a2 a3 a4 a8 a5 q3 q64 q7 q5 r3 r64 kk : Nat), Hid (a2 = x % 2 ∧ a3 = x % 3 ∧ a4 = x % 4 ∧ a8 = x % 8 ∧ a5 = x % 5 ∧ q3 = x / 3 ∧ q64 = x / 64 ∧ q7 = x / 7 ∧ q5 = x / 5 ∧ r3 = x / 3 % 8 ∧ r64 = x / 64 % 2 ∧ kk = 7 + x % 4) ∧ (x : Int).tmod 2 = (a2 : Int) ∧ (x : Int).tmod 3 = (a3 : Int) ∧ (x : Int).tmod 4 = (a4 : Int) ∧ (x : Int).tmod 8 = (a8 : Int) ∧ (x : Int).tmod 5 = (a5 : Int) ∧ (x : Int).tdiv 3 = (q3 : Int) ∧ wrap64 (q3 : Int) = (q3 : Int) ∧ (x : Int).tdiv 64 = (q64 : Int) ∧ wrap64 (q64 : Int) = (q64 : Int) ∧ (x : Int).tdiv 7 = (q7 : Int) ∧ wrap64 (q7 : Int) = (q7 : Int) ∧ (x : Int).tdiv 5 = (q5 : Int) ∧ wrap64 (q5 : Int) = (q5 : Int) ∧ (q3 : Int).tmod 8 = (r3 : Int) ∧ (q64 : Int).tmod 2 = (r64 : Int) ∧ IntKind.i64.wrap (7 + (a4 : Int)) = (kk : Int) ∧ IntKind.u8.wrap (kk : Int) = (kk : Int) ∧ IntKind.u8.wrap (a8 : Int) = (a8 : Int) ∧ IntKind.u8.wrap (r3 : Int) = (r3 : Int) ∧ IntKind.u8.wrap (r64 : Int) = (r64 : Int) ∧ IntKind.u8.wrap (q7 : Int) = (q7 : Int) ∧ IntKind.u8.wrap (q5 : Int) = (q5 : Int) ∧ a5 < 5 := by
  refine ⟨x % 2, x % 3, x % 4, x % 8, x % 5, x / 3, x / 64, x / 7, x / 5, x / 3 % 8, x / 64 % 2, 7 + x % 4, Lib.hid ⟨rfl, rfl, rfl, rfl, rfl, rfl, rfl, rfl, rfl, rfl, rfl, rfl⟩, ?_, ?_, ?_, ?_, ?_, ?_, ?_, ?_, ?_, ?_, ?_, ?_, ?_, ?_, ?_, ?_, ?_, ?_, ?_, ?_, ?_, ?_, ?_⟩
  · rfl
  · rfl
  · rfl
  · rfl
  · rfl
  · rfl
  · unfold wrap64; omega
  · rfl
  · unfold wrap64; omega
  · rfl
  · unfold wrap64; omega
  · rfl
  · unfold wrap64; omega
  · rfl
  · rfl
  · rw [IntKind.wrap_i64]; omega
  · rw [IntKind.wrap_u8]; omega
  · rw [IntKind.wrap_u8]; omega
  · rw [IntKind.wrap_u8]; omega
  · rw [IntKind.wrap_u8]; omega
  · rw [IntKind.wrap_u8]; omega
  · rw [IntKind.wrap_u8]; omega
  · omega
theorem dec_beq (m : Nat) : decide (m = 0) = ((m : Int) == 0) := by
  by_cases h : m = 0
  · subst h; rfl
  · rw [decide_eq_false h]; symm; rw [beq_eq_false_iff_ne]; omega
theorem facts2 (i : Nat) (_hi : i < 400) : ∃ (i7 i3 i4 i5 i6 k7 k4 k6 : Nat), Hid (i7 = i % 7 ∧ i3 = i % 3 ∧ i4 = i % 4 ∧ i5 = i % 5 ∧ i6 = i % 6 ∧ k7 = 1 + i % 7 ∧ k4 = 1 + i % 4 ∧ k6 = 1 + i % 6) ∧ (i : Int).tmod 7 = (i7 : Int) ∧ (i : Int).tmod 3 = (i3 : Int) ∧ (i : Int).tmod 4 = (i4 : Int) ∧ (i : Int).tmod 5 = (i5 : Int) ∧ (i : Int).tmod 6 = (i6 : Int) ∧ IntKind.i64.wrap (1 + (i7 : Int)) = (k7 : Int) ∧ IntKind.i64.wrap (1 + (i4 : Int)) = (k4 : Int) ∧ IntKind.i64.wrap (1 + (i6 : Int)) = (k6 : Int) := by
  refine ⟨i % 7, i % 3, i % 4, i % 5, i % 6, 1 + i % 7, 1 + i % 4, 1 + i % 6, Lib.hid ⟨rfl, rfl, rfl, rfl, rfl, rfl, rfl, rfl⟩, rfl, rfl, rfl, rfl, rfl, ?_, ?_, ?_⟩
  · rw [IntKind.wrap_i64]; omega
  · rw [IntKind.wrap_i64]; omega
  · rw [IntKind.wrap_i64]; omega
/-- The numbers of the last loop. -/
abbrev nums : Array Value := #[.int .i64 (-9223372036854775808), .int .i64 (-1), .int .i64 0, .int .i64 1, .int .i64 7, .int .i64 8, .int .i64 255, .int .i64 256, .int .i64 9223372036854775807]
theorem nums_at {j : Nat} (hj : j < 9) : ∃ v : Int, nums[j]? = some (.int .i64 v) ∧ -9223372036854775808 ≤ v ∧ v ≤ 9223372036854775807 := by
  match j, hj with
  | 0, _ => exact ⟨_, rfl, by decide, by decide⟩
  | 1, _ => exact ⟨_, rfl, by decide, by decide⟩
  | 2, _ => exact ⟨_, rfl, by decide, by decide⟩
  | 3, _ => exact ⟨_, rfl, by decide, by decide⟩
  | 4, _ => exact ⟨_, rfl, by decide, by decide⟩
  | 5, _ => exact ⟨_, rfl, by decide, by decide⟩
  | 6, _ => exact ⟨_, rfl, by decide, by decide⟩
  | 7, _ => exact ⟨_, rfl, by decide, by decide⟩
  | 8, _ => exact ⟨_, rfl, by decide, by decide⟩
structure Ns (w0 : World) (gb : Nat) (w : World) : Prop where
  blk : w.heap[gb]? = some (.cells nums 3 (0, 0))
  lo : w0.heap.size ≤ gb
  below : Below w0.heap.size w0 w
theorem Ns.on {w0 w w' : World} {gb : Nat} (h : Ns w0 gb w) (hB : Below w.heap.size w w') : Ns w0 gb w' := ⟨stays h.blk hB, h.lo, below_on h.below hB⟩
set_option maxHeartbeats 16000000 in
set_option maxRecDepth 100000 in
theorem law (w : World) : Calls Try.prog 6 #[] w fun e w' => e = .returned (.bool true) ∧ Below w.heap.size w w' := by
  go_enter Try.func6, Try.ntmps6
  go_wp2_with fail
  go_loopg [1] 400 (fun gm s wr => ∃ i : Nat, s = nm i ∧ 400 - i ≤ gm ∧ i ≤ 400 ∧ Hid (Below w.heap.size w wr))
  case atStart => exact ⟨0, rfl, by omega, by omega, Below.refl _ _⟩
  case round =>
    obtain ⟨i, rfl, hgi, hi4, HB⟩ := hrel
    by_cases hi : i < 400
    · have t1 : decide ((i : Int) < 400) = true := decide_eq_true (by omega)
      have t1b : (i : Int) < 400 := by omega
      have vi := wrapn (i + 1) (by omega)
      have HL0 : Hid (LS w i 0 (.slice none 0 0) (.slice none 0 0) wr) := Lib.hid (LS.start HB.out)
      clear HB
      go_wp2_with fail
      go_loopg [2, 3, 4] 24 (fun gm s t u wr => ∃ (n : Nat) (v1 v2 : Value), s = v1 ∧ t = v2 ∧ u = nm n ∧ 24 - n ≤ gm ∧ n ≤ 24 ∧ Hid (LS w i n v1 v2 wr))
      case atStart => exact ⟨0, _, _, rfl, rfl, rfl, by omega, by omega, HL0⟩
      case round =>
        clear HL0
        obtain ⟨n, v1, v2, hv1, hv2, rfl, hgn, hn24, HL⟩ := hrel
        have hv1' := hv1.symm
        have hv2' := hv2.symm
        clear hv1 hv2
        subst hv1' hv2'
        obtain ⟨o1, c1, rfl, hA1⟩ := qz_arg (fun k _ => ct_fits i k) HL.out.l
        obtain ⟨o2, c2, rfl, hA2⟩ := qz_arg (fun k _ => sp_fits i k) HL.out.s
        by_cases hn : n < 24
        · clear hA1 hA2
          have t2 : decide ((n : Int) < 24) = true := decide_eq_true (by omega)
          have vn := wrapn (n + 1) (by omega)
          obtain ⟨x, hx⟩ : ∃ x, xOf i n = x := ⟨_, rfl⟩
          obtain ⟨nn, hnn⟩ : ∃ nn, n * n = nn := ⟨_, rfl⟩
          obtain ⟨ni, hni⟩ : ∃ ni, n * i = ni := ⟨_, rfl⟩
          have bnn : nn ≤ 23 * 23 := by rw [← hnn]; exact Nat.mul_le_mul (by omega) (by omega)
          have bni : ni ≤ 23 * 399 := by rw [← hni]; exact Nat.mul_le_mul (by omega) (by omega)
          have hx2 : (i * 31 + nn * 7 + ni) % 997 = x := by rw [← hx, ← hnn, ← hni]; rfl
          have bx : x < 997 := by omega
          have m1 : (n : Int) * (n : Int) = (nn : Int) := by rw [← hnn]; simp
          have m2 : (n : Int) * (i : Int) = (ni : Int) := by rw [← hni]; simp
          have w1 : IntKind.i64.wrap ((i : Int) * 31) = (i : Int) * 31 := by rw [IntKind.wrap_i64]; omega
          have w2 : IntKind.i64.wrap (nn : Int) = (nn : Int) := by rw [IntKind.wrap_i64]; omega
          have w3 : IntKind.i64.wrap ((nn : Int) * 7) = (nn : Int) * 7 := by rw [IntKind.wrap_i64]; omega
          have w4 : IntKind.i64.wrap ((i : Int) * 31 + (nn : Int) * 7) = (i : Int) * 31 + (nn : Int) * 7 := by rw [IntKind.wrap_i64]; omega
          have w5 : IntKind.i64.wrap (ni : Int) = (ni : Int) := by rw [IntKind.wrap_i64]; omega
          have w6 : IntKind.i64.wrap ((i : Int) * 31 + (nn : Int) * 7 + (ni : Int)) = (i : Int) * 31 + (nn : Int) * 7 + (ni : Int) := by rw [IntKind.wrap_i64]; omega
          have w7 : ((i : Int) * 31 + (nn : Int) * 7 + (ni : Int)) % 997 = (x : Int) := by omega
          have w8 : ((i : Int) * 31 + (nn : Int) * 7 + (ni : Int)).tmod 997 = (x : Int) := by rw [Int.tmod_eq_emod_of_nonneg (by omega)]; omega
          clear hx2 hnn hni
          have HVN := Lib.hid vn
          have HN := Lib.hid hn
          go_upto_region 10 with fail
          have HXX := Lib.hid hx
          clear m1 m2 w1 w2 w3 w4 w5 w6 w7 w8 bnn bni t2 vn hn
          obtain ⟨a2, a3, a4, a8, a5, q3, q64, q7, q5, r3, r64, kk, HK, ea2, ea3, ea4, ea8, ea5, eq3, iq3, eq64, iq64, eq7, iq7, eq5, iq5, er3, er64, ekk, u8k, u88, u83, u84, u87, u85, l5⟩ := facts x bx
          have HBX := Lib.hid bx
          clear bx hx
          obtain ⟨d2, hd2⟩ : ∃ d2, ((a2 : Int) == 0) = d2 := ⟨_, rfl⟩
          obtain ⟨d3, hd3⟩ : ∃ d3, ((a3 : Int) == 0) = d3 := ⟨_, rfl⟩
          obtain ⟨d4, hd4⟩ : ∃ d4, ((a4 : Int) == 0) = d4 := ⟨_, rfl⟩
          have HD := Lib.hid (show ((a2 : Int) == 0) = d2 ∧ ((a3 : Int) == 0) = d3 ∧ ((a4 : Int) == 0) = d4 from ⟨hd2, hd3, hd4⟩)
          go_upto_region 11 with fail
          have hfb : (wr.alloc (.cells #[.int .u8 0, .bool d2, .int .u8 (kk : Int), .bool d3, .int .u8 (a8 : Int), .int .u8 (r3 : Int), .string ⟨#[105]⟩] 25 (0, 0))).heap[wr.heap.size]? = some (.cells #[.int .u8 0, .bool d2, .int .u8 (kk : Int), .bool d3, .int .u8 (a8 : Int), .int .u8 (r3 : Int), .string ⟨#[105]⟩] 25 (0, 0)) := nest wr [_] 0 _ rfl
          have HB1 : Hid (Below wr.heap.size wr (wr.alloc (.cells #[.int .u8 0, .bool d2, .int .u8 (kk : Int), .bool d3, .int .u8 (a8 : Int), .int .u8 (r3 : Int), .string ⟨#[105]⟩] 25 (0, 0)))) := Lib.hid (nest_below wr [_])
          have HFN : Hid (wr.heap.size ≤ wr.heap.size) := Lib.hid (Nat.le_refl _)
          generalize wr.alloc (.cells #[.int .u8 0, .bool d2, .int .u8 (kk : Int), .bool d3, .int .u8 (a8 : Int), .int .u8 (r3 : Int), .string ⟨#[105]⟩] 25 (0, 0)) = w1 at hfb HB1 ⊢
          generalize hfn : wr.heap.size = fb at hfb ⊢
          have HFN := Lib.hid (Nat.le_of_eq hfn)
          clear hfn ea3 ea8 eq3 iq3 er3 ekk u8k u88 u83 hd3
          by_cases h53 : (a5 : Int) < 3
          · have t5 : decide ((a5 : Int) < 3) = true := decide_eq_true h53
            obtain ⟨⟨z0, z1, z2, z3, z4, z5, z6⟩, zf⟩ := cells7 hfb
            have hf2 : (w1.setCell ⟨fb, 5, none⟩ (.int .u8 (r64 : Int))).heap[fb]? = some (.cells #[.int .u8 0, .bool d2, .int .u8 (kk : Int), .bool d3, .int .u8 (a8 : Int), .int .u8 (r64 : Int), .string ⟨#[105]⟩] 25 (0, 0)) := block_set (i := 5) hfb _
            have HL2 : Hid (LS w i n (.slice o1 n c1) (.slice o2 n c2) (w1.setCell ⟨fb, 5, none⟩ (.int .u8 (r64 : Int)))) := Lib.hid (HL.out.on (HB1.out.setCell (p := ⟨fb, 5, none⟩) HFN.out _))
            clear hfb
            go_upto_region 13 with fail
            clear z0 z1 z2 z3 z4 z5 z6 zf t5
            generalize w1.setCell ⟨fb, 5, none⟩ (.int .u8 (r64 : Int)) = w2 at hf2 HL2 ⊢
            have hct : ctOf i n = ⟨q7, 0, ⟨d2, kk, d3, a8, r64, ⟨#[105]⟩⟩⟩ := by
              obtain ⟨g2, g3, g4, g8, g5, g9, g64, g7, g55, gr3, gr64, gk⟩ := HK.out
              obtain ⟨k2, k3, k4⟩ := HD.out
              unfold ctOf
              rw [HXX.out, if_pos (show x % 5 < 3 by omega), dec_beq (x % 2), dec_beq (x % 3), ← g2, ← g3, k2, k3, g7, gk, g8, gr64]
            have hsp : spN i n = ⟨q5, d2, d4⟩ := by
              obtain ⟨g2, g3, g4, g8, g5, g9, g64, g7, g55, gr3, gr64, gk⟩ := HK.out
              obtain ⟨k2, k3, k4⟩ := HD.out
              have := HBX.out
              unfold spN
              rw [HXX.out, dec_beq (x % 2), dec_beq (x % 4), ← g2, ← g4, k2, k4, g55, Nat.mod_eq_of_lt (by omega)]
            obtain ⟨v', w4, u', w6, hr1, hr2, hl6⟩ := HL2.out.push HN.out 22 38
            rw [hct] at hr1
            rw [hsp] at hr2
            obtain ⟨o3, c3, rfl, -⟩ := qz_arg (fun k _ => ct_fits i k) hl6.l
            obtain ⟨o4, c4, rfl, -⟩ := qz_arg (fun k _ => sp_fits i k) hl6.s
            have HL6 := Lib.hid hl6
            have HR1 : Hid ((Builtin.append_ #[22, 22] 22 #[.slice o1 n c1, .slice (some ⟨w2.heap.size, 0, none⟩) 1 1]).run Try.prog (w2.alloc (.cells #[.int .u8 (q7 : Int), .int .u8 0, .bool d2, .int .u8 (kk : Int), .bool d3, .int .u8 (a8 : Int), .int .u8 (r64 : Int), .string ⟨#[105]⟩] 27 (0, 0))) = .ok (.slice o3 (n + 1) c3) w4) := Lib.hid hr1
            have HR2 : Hid ((Builtin.append_ #[38, 38] 38 #[.slice o2 n c2, .slice (some ⟨w4.heap.size, 0, none⟩) 1 1]).run Try.prog (w4.alloc (.cells #[.int .u8 (q5 : Int), .bool d2, .bool d4] 49 (0, 0))) = .ok (.slice o4 (n + 1) c4) w6) := Lib.hid hr2
            clear hr1 hr2 hl6 hct hsp HL2 HK HD HXX HBX HB1 HFN HL h53 l5 ea5
            obtain ⟨⟨z0, z1, z2, z3, z4, z5, z6⟩, -⟩ := cells7 hf2
            have vn := HVN.out
            clear hf2 HVN
            go_wp2_with (first
              | (at_builtin; refine wpList_append_known (w2.alloc (.cells #[.int .u8 (q7 : Int), .int .u8 0, .bool d2, .int .u8 (kk : Int), .bool d3, .int .u8 (a8 : Int), .int .u8 (r64 : Int), .string ⟨#[105]⟩] 27 (0, 0))) rfl _ _ _ _ rfl rfl rfl HR1.out ?_)
              | (at_builtin; refine wpList_append_known (w4.alloc (.cells #[.int .u8 (q5 : Int), .bool d2, .bool d4] 49 (0, 0))) rfl _ _ _ _ rfl rfl rfl HR2.out ?_))
            go_roundg (24 - (n + 1))
            case measure => have := HN.out; omega
            case rel => exact ⟨n + 1, _, _, rfl, rfl, by first | rfl | go_num, Nat.le_refl _, HN.out, HL6⟩
          · have t5 : decide ((a5 : Int) < 3) = false := decide_eq_false h53
            have HL2 := Lib.hid (HL.out.on HB1.out)
            go_upto_region 13 with fail
            clear t5
            have hf2 := hfb
            clear hfb
            generalize w1 = w2 at hf2 HL2 ⊢
            have hct : ctOf i n = ⟨q7, 0, ⟨d2, kk, d3, a8, r3, ⟨#[105]⟩⟩⟩ := by
              obtain ⟨g2, g3, g4, g8, g5, g9, g64, g7, g55, gr3, gr64, gk⟩ := HK.out
              obtain ⟨k2, k3, k4⟩ := HD.out
              unfold ctOf
              rw [HXX.out, if_neg (show ¬ x % 5 < 3 by omega), dec_beq (x % 2), dec_beq (x % 3), ← g2, ← g3, k2, k3, g7, gk, g8, gr3]
            have hsp : spN i n = ⟨q5, d2, d4⟩ := by
              obtain ⟨g2, g3, g4, g8, g5, g9, g64, g7, g55, gr3, gr64, gk⟩ := HK.out
              obtain ⟨k2, k3, k4⟩ := HD.out
              have := HBX.out
              unfold spN
              rw [HXX.out, dec_beq (x % 2), dec_beq (x % 4), ← g2, ← g4, k2, k4, g55, Nat.mod_eq_of_lt (by omega)]
            obtain ⟨v', w4, u', w6, hr1, hr2, hl6⟩ := HL2.out.push HN.out 22 38
            rw [hct] at hr1
            rw [hsp] at hr2
            obtain ⟨o3, c3, rfl, -⟩ := qz_arg (fun k _ => ct_fits i k) hl6.l
            obtain ⟨o4, c4, rfl, -⟩ := qz_arg (fun k _ => sp_fits i k) hl6.s
            have HL6 := Lib.hid hl6
            have HR1 : Hid ((Builtin.append_ #[22, 22] 22 #[.slice o1 n c1, .slice (some ⟨w2.heap.size, 0, none⟩) 1 1]).run Try.prog (w2.alloc (.cells #[.int .u8 (q7 : Int), .int .u8 0, .bool d2, .int .u8 (kk : Int), .bool d3, .int .u8 (a8 : Int), .int .u8 (r3 : Int), .string ⟨#[105]⟩] 27 (0, 0))) = .ok (.slice o3 (n + 1) c3) w4) := Lib.hid hr1
            have HR2 : Hid ((Builtin.append_ #[38, 38] 38 #[.slice o2 n c2, .slice (some ⟨w4.heap.size, 0, none⟩) 1 1]).run Try.prog (w4.alloc (.cells #[.int .u8 (q5 : Int), .bool d2, .bool d4] 49 (0, 0))) = .ok (.slice o4 (n + 1) c4) w6) := Lib.hid hr2
            clear hr1 hr2 hl6 hct hsp HL2 HK HD HXX HBX HB1 HFN HL h53 l5 ea5
            obtain ⟨⟨z0, z1, z2, z3, z4, z5, z6⟩, -⟩ := cells7 hf2
            have vn := HVN.out
            clear hf2 HVN
            go_wp2_with (first
              | (at_builtin; refine wpList_append_known (w2.alloc (.cells #[.int .u8 (q7 : Int), .int .u8 0, .bool d2, .int .u8 (kk : Int), .bool d3, .int .u8 (a8 : Int), .int .u8 (r3 : Int), .string ⟨#[105]⟩] 27 (0, 0))) rfl _ _ _ _ rfl rfl rfl HR1.out ?_)
              | (at_builtin; refine wpList_append_known (w4.alloc (.cells #[.int .u8 (q5 : Int), .bool d2, .bool d4] 49 (0, 0))) rfl _ _ _ _ rfl rfl rfl HR2.out ?_))
            go_roundg (24 - (n + 1))
            case measure => have := HN.out; omega
            case rel => exact ⟨n + 1, _, _, rfl, rfl, by first | rfl | go_num, Nat.le_refl _, HN.out, HL6⟩
        · obtain rfl : n = 24 := by omega
          have t2 : decide (((24 : Nat) : Int) < 24) = false := by decide
          have HA1 := Lib.hid hA1
          have HA2 := Lib.hid hA2
          have HB := Lib.hid HL.out.below
          have HI := Lib.hid hi
          have HGI := Lib.hid hgi
          have HVI := Lib.hid vi
          clear hA1 hA2 HL hn hgn hn24 hi t1 t1b hi4 hgi vi
          obtain ⟨i7, i3, i4, i5, i6, k7, k4, k6, HK, e7, e3, e4, e5, e6, f7, f4, f6⟩ := facts2 i HI.out
          have CP : Hid (Calls Try.prog 3 #[.int .i64 (k7 : Int), .int .i64 (i3 : Int), .int .i64 (k4 : Int), .slice o1 24 c1] wr fun e w' => e = .returned (.bool true) ∧ Below wr.heap.size wr w') := Lib.hid (by
            obtain ⟨g1, g2, g3, g4, g5, g6, g7, g8⟩ := HK.out
            exact arqPlays.law (k7 : Int) ⟨by omega, by omega⟩ (i3 : Int) ⟨by omega, by omega⟩ (k4 : Int) ⟨by omega, by omega⟩ o1 24 c1 (ctOf i) (by decide) wr HA1.out)
          go_wp2_with fail
          refine CP.out.mono ?_
          rintro _ w3 ⟨rfl, hb3⟩
          have HB3 := Lib.hid hb3
          clear hb3 CP
          by_cases h4 : i4 = 0
          · have q4 : ((i4 : Int) == 0) = true := by rw [h4]; rfl
            have CP : Hid (Calls Try.prog 4 #[.int .i64 (k7 : Int), .int .i64 2, .int .i64 3, .slice o2 24 c2] w3 fun e w' => e = .returned (.bool true) ∧ Below w3.heap.size w3 w') := Lib.hid (by
              obtain ⟨g1, g2, g3, g4, g5, g6, g7, g8⟩ := HK.out
              exact arqPair.law (k7 : Int) ⟨by omega, by omega⟩ 2 (by decide) 3 (by decide) o2 24 c2 (spN i) (by decide) w3 (HA2.out.below HB3.out))
            go_wp2_with fail
            refine CP.out.mono ?_
            rintro _ w4 ⟨rfl, hb4⟩
            have HB4 := Lib.hid (below_on HB3.out hb4)
            clear hb4 CP HB3
            have CP : Hid (Calls Try.prog 21 #[.int .i64 (k7 : Int), .int .i64 (i5 : Int), .int .i64 (k6 : Int), .slice o2 24 c2] w4 fun e w' => e = .returned (.bool true) ∧ Below w4.heap.size w4 w') := Lib.hid (by
              obtain ⟨g1, g2, g3, g4, g5, g6, g7, g8⟩ := HK.out
              refine fends k7 i5 k6 ⟨by omega, by omega, by omega, by omega, by omega⟩ o2 24 c2 (spN i) (by decide) w4 (HA2.out.below HB4.out) ?_
              have := ends_known i HI.out (by omega)
              rw [g6, g4, g8]
              exact this)
            go_wp2_with fail
            refine CP.out.mono ?_
            rintro _ w5 ⟨rfl, hb5⟩
            have HB5 := Lib.hid (below_on HB.out (below_on HB4.out hb5))
            have vi := HVI.out
            clear hb5 CP HB4 HB HA1 HA2 e7 e3 e4 e5 e6 f7 f4 f6 q4 t2
            have hi := HI.out
            have hgi := HGI.out
            go_wp2
            go_roundg (400 - (i + 1))
            case measure => omega
            case rel => exact ⟨i + 1, by first | rfl | go_num, Nat.le_refl _, HI.out, HB5⟩
          · have q4 : ((i4 : Int) == 0) = false := by rw [beq_eq_false_iff_ne]; omega
            have HB5 := Lib.hid (below_on HB.out HB3.out)
            have vi := HVI.out
            clear HB3 HB HA1 HA2 e7 e3 e5 e6 f7 f4 f6 t2
            have hi := HI.out
            have hgi := HGI.out
            go_wp2
            go_roundg (400 - (i + 1))
            case measure => omega
            case rel => exact ⟨i + 1, by first | rfl | go_num, Nat.le_refl _, HI.out, HB5⟩
    · have t1 : decide ((i : Int) < 400) = false := decide_eq_false (by omega)
      have t1b : ¬ (i : Int) < 400 := by omega
      have HG : Hid (Ns w wr.heap.size (wr.alloc (.cells nums 3 (0, 0)))) := Lib.hid ⟨nest wr [_] 0 _ rfl, HB.out.size, below_on HB.out (nest_below wr [_])⟩
      clear HB hi hi4 hgi
      go_wp2_with fail
      clear t1 t1b
      generalize wr.heap.size = gb at HG ⊢
      generalize wr.alloc (.cells nums 3 (0, 0)) = w1 at HG ⊢
      go_loopg [118] 9 (fun gm s wr => ∃ j : Nat, s = nm j ∧ 9 - j ≤ gm ∧ j ≤ 9 ∧ Hid (Ns w gb wr))
      case atStart => exact ⟨0, rfl, by omega, by omega, HG⟩
      case round =>
        clear HG
        obtain ⟨j, rfl, hgj, hj8, HG⟩ := hrel
        by_cases hj : j < 9
        · have t4 : decide ((j : Int) < 9) = true := decide_eq_true (by omega)
          have t4b : (j : Int) < 9 := by omega
          have j0 : (0 : Int) ≤ (j : Int) := by omega
          have vj := wrapn (j + 1) (by omega)
          obtain ⟨v, hv, hv1⟩ := nums_at hj
          have cj := cell_of HG.out.blk hv
          have hN : ArgS 8 cc CFit wr none 0 (fun _ => ⟨0, 0, noFm⟩) := ⟨fun h => absurd h (by decide), fun k hk => absurd hk (by omega), fun a ha => by cases ha⟩
          have HN := Lib.hid hN
          clear hv hN
          go_wp2_with fail
          refine (arqPlays.law v hv1 1 (by decide) 1 (by decide) none 0 0 _ (Nat.zero_le _) wr HN.out).mono ?_
          rintro _ w3 ⟨rfl, hb3⟩
          have HG3 := Lib.hid (HG.out.on hb3)
          have HB3 := Lib.hid hb3
          clear hb3 HG cj
          go_wp2_with fail
          refine (arqPlays.law 1 (by decide) v hv1 1 (by decide) none 0 0 _ (Nat.zero_le _) w3 (HN.out.below HB3.out)).mono ?_
          rintro _ w4 ⟨rfl, hb4⟩
          have HG4 := Lib.hid (HG3.out.on hb4)
          have HB4 := Lib.hid (below_on HB3.out hb4)
          clear hb4 HG3 HB3
          go_wp2_with fail
          refine (arqPlays.law 1 (by decide) 1 (by decide) v hv1 none 0 0 _ (Nat.zero_le _) w4 (HN.out.below HB4.out)).mono ?_
          rintro _ w5 ⟨rfl, hb5⟩
          have HG5 := Lib.hid (HG4.out.on hb5)
          clear hb5 HG4 HB4 HN
          go_wp2
          go_roundg (9 - (j + 1))
          case measure => omega
          case rel => exact ⟨j + 1, by first | rfl | go_num, Nat.le_refl _, by omega, HG5⟩
        · have t4 : decide ((j : Int) < 9) = false := decide_eq_false (by omega)
          have t4b : ¬ (j : Int) < 9 := by omega
          have HBwr := Lib.hid HG.out.below
          clear HG hj hj8 hgj
          have C : Hid (Calls Try.prog 19 #[.pointer none] wr fun e w' => e = .returned (.tuple #[.agg #[.int .u8 0, .bool false, .int .u8 0, .bool false, .int .u8 0, .int .u8 0, .string ⟨#[]⟩], .bool false]) ∧ Below wr.heap.size wr w') := Lib.hid (fnext_nil wr)
          go_wp2_with fail
          refine C.out.mono ?_
          rintro _ wa ⟨rfl, hb⟩
          have HBwa := Lib.hid (below_on HBwr.out hb)
          clear hb C HBwr
          clear t4 t4b
          have HBz : Hid (Below w.heap.size w (wa.alloc (.cells #[.int .u8 0, .bool false, .int .u8 0, .bool false, .int .u8 0, .int .u8 0, .string ⟨#[]⟩] 25 (0, 0)))) := Lib.hid (below_on HBwa.out (nest_below wa [_]))
          have C : Hid (∀ w0, Calls Try.prog 22 #[.pointer none, .bool true] w0 fun e w' => e = .returned (.tuple #[]) ∧ w0 = w') := Lib.hid fun w0 => fsetBusy_nil w0 true
          go_wp2_with fail
          refine (C.out _).mono ?_
          rintro _ w2 ⟨rfl, hw⟩
          clear C HBwa
          rw [hw] at HBz
          have HBw2 := HBz
          clear HBz hw
          have C : Hid (Calls Try.prog 23 #[.pointer none, .bool true] w2 fun e w' => e = .returned (.tuple #[]) ∧ w2 = w') := Lib.hid (fsetWant_nil w2 true)
          go_wp2_with fail
          refine C.out.mono ?_
          rintro _ wb ⟨rfl, hw⟩
          obtain rfl := hw
          clear C
          have C : Hid (Calls Try.prog 18 #[.pointer none, .string ⟨#[97]⟩] w2 fun e w' => e = .returned (.int .i64 1) ∧ w2 = w') := Lib.hid (fpush_nil w2 _)
          go_wp2_with fail
          refine C.out.mono ?_
          rintro _ wb ⟨rfl, hw⟩
          obtain rfl := hw
          clear C
          have ae : ∀ W, _ := fun W => act_eq ⟨#[]⟩ false 0 false W
          have ve : ∀ W, _ := fun W => vew_eq 0 0 0 0 0 0 0 false false false false false false W
          have C : Hid (Calls Try.prog 24 #[.pointer none, .agg #[.int .u8 0, .bool false, .int .u8 8, .bool false, .int .u8 0, .int .u8 0, .string ⟨#[]⟩]] w2 fun e w' => e = .returned (.agg #[.string ⟨#[]⟩, .bool false, .int .i64 0, .bool false]) ∧ Below w2.heap.size w2 w') := Lib.hid (fhear_nil w2 0 8 0 0 false false ⟨#[]⟩)
          go_wp2_with fail
          refine C.out.mono ?_
          rintro _ wb ⟨rfl, hb⟩
          have HBwb := Lib.hid (below_on HBw2.out hb)
          clear hb C HBw2
          have C : Hid (Calls Try.prog 20 #[.pointer none] wb fun e w' => e = .returned (.agg #[.string ⟨#[]⟩, .bool false, .int .i64 0, .bool false]) ∧ Below wb.heap.size wb w') := Lib.hid (ftick_nil wb)
          go_wp2_with fail
          refine C.out.mono ?_
          rintro _ wc ⟨rfl, hb⟩
          have HBwc := Lib.hid (below_on HBwb.out hb)
          clear hb C HBwb
          have C : Hid (Calls Try.prog 13 #[.pointer none] wc fun e w' => e = .returned (.bool false) ∧ wc = w') := Lib.hid (fhas_nil wc)
          go_wp2_with fail
          refine C.out.mono ?_
          rintro _ wd ⟨rfl, hw⟩
          obtain rfl := hw
          clear C
          have C : Hid (Calls Try.prog 12 #[.pointer none] wc fun e w' => e = .returned (.agg #[.int .u8 0, .int .u8 0, .int .u8 0, .int .i64 0, .int .i64 0, .int .i64 0, .int .i64 0, .bool false, .bool false, .bool false, .bool false, .bool false, .bool false]) ∧ Below wc.heap.size wc w') := Lib.hid (fview_nil wc)
          go_wp2_with fail
          refine C.out.mono ?_
          rintro _ wd ⟨rfl, hb⟩
          have HBwd := Lib.hid (below_on HBwc.out hb)
          clear hb C HBwc
          have C : Hid (Calls Try.prog 5 #[.int .u8 0, .int .u8 1] wd fun e w' => e = .returned (.bool true) ∧ Below wd.heap.size wd w') := Lib.hid (arqFails.law 0 (by decide) 1 (by decide) wd)
          go_wp2_with fail
          refine C.out.mono ?_
          rintro _ we ⟨rfl, hb⟩
          have HBwe := Lib.hid (below_on HBwd.out hb)
          clear hb C HBwd
          have C : Hid (Calls Try.prog 5 #[.int .u8 3, .int .u8 5] we fun e w' => e = .returned (.bool true) ∧ Below we.heap.size we w') := Lib.hid (arqFails.law 3 (by decide) 5 (by decide) we)
          go_wp2_with fail
          refine C.out.mono ?_
          rintro _ wf ⟨rfl, hb⟩
          have HBwf := Lib.hid (below_on HBwe.out hb)
          clear hb C HBwe
          have C : Hid (Calls Try.prog 7 #[] wf fun e w' => e = .returned (.bool true) ∧ Below wf.heap.size wf w') := Lib.hid (fworks wf)
          go_wp2_with fail
          refine C.out.mono ?_
          rintro _ wg ⟨rfl, hb⟩
          have HBwg := Lib.hid (below_on HBwf.out hb)
          clear hb C HBwf
          go_wp2
          go_ret
          exact ⟨rfl, HBwg.out⟩
end Go.Proofs.Ytkoaplmlabagnaa.arqKnown

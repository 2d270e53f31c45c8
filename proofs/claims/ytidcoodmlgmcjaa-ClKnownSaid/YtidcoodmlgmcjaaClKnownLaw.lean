/-
  ClKnown answers true, and turns nothing that was there. No condition.
-/
import Derived.Test.YtidcoodmlgmcjaaClSplitLaw
import Derived.Test.YtidcoodmlgmcjaaClFewLaw
import Derived.Test.YtidcoodmlgmcjaaClJoinLaw
import Derived.Test.YtidcoodmlgmcjaaClBackLaw
import Derived.Test.YtidcoodmlgmcjaaZeros
namespace Go.Proofs.Ytidcoodmlgmcjaa.clKnown
open Go.RowKit Go.Proofs.Ytidcoodmlgmcjaa.Base Go.Proofs.Ytidcoodmlgmcjaa.Mem Go.Proofs.Ytidcoodmlgmcjaa.Cl
/-- A block of the call's own as an argument. -/
theorem arg_own {α : Type} {f : α → Value} {P : α → Prop} {w : World} {b n : Nat} {cs : Array Value} {T : TypeId} (F : Nat → α) (h : w.heap[b]? = some (.cells cs T)) (hc : ∀ k, k < n → cs[k]? = some (f (F k))) (hp : ∀ k, k < n → P (F k)) : ArgS 1 (fun x => [f x]) P w (some ⟨b, 0, none⟩) n F := by
  refine ⟨fun _ => ⟨_, rfl, lt_heap h⟩, hp, fun a ha k hk j hj => ?_⟩
  obtain rfl : j = 0 := by omega
  rw [Option.some.injEq] at ha
  subst ha
  rw [Nat.mul_one, add_at, add_off, Nat.add_zero]
  exact cell_of h (hc k hk)
def pick (l : List ByteArray) (k : Nat) : ByteArray := l.getD k ⟨#[]⟩
theorem texts {w : World} {b : Nat} (l : List ByteArray) (n : Nat) (hn : l.length = n) (h : w.heap[b]? = some (.cells (l.map Value.string).toArray 9)) (hs : ∀ x, x ∈ l → x.size ≤ 1000) : ArgT w (some ⟨b, 0, none⟩) n (pick l) := by
  subst hn
  refine arg_own (f := Value.string) _ h (fun k hk => ?_) (fun k hk => ?_)
  · unfold pick
    rw [List.getElem?_toArray, List.getElem?_map, List.getElem?_eq_getElem hk, List.getD_eq_getElem?_getD, List.getElem?_eq_getElem hk]
    rfl
  · unfold pick
    rw [List.getD_eq_getElem?_getD, List.getElem?_eq_getElem hk]
    exact Nat.le_trans (hs _ (List.getElem_mem hk)) (by unfold maxLen; omega)
theorem octets {w : World} {b a c : Nat} (h : w.heap[b]? = some (.cells #[.int .u8 (a : Int), .int .u8 (c : Int)] 5)) (ha : a < 256) (hc : c < 256) : ArgO w (some ⟨b, 0, none⟩) 2 (fun k => if k = 0 then a else c) := by
  refine arg_own (f := fun n : Nat => Value.int .u8 (n : Int)) _ h (fun k hk => ?_) (fun k hk => ?_)
  · match k, hk with
    | 0, _ => rfl
    | 1, _ => rfl
  · show (if k = 0 then a else c) < 256
    split <;> assumption
abbrev tenV : Array Value := #[.int .i64 (-9223372036854775808), .int .i64 1, .int .i64 2, .int .i64 3, .int .i64 8, .int .i64 20, .int .i64 127, .int .i64 128, .int .i64 129, .int .i64 9223372036854775807]
theorem ten_at {w : World} {b : Nat} (h : w.heap[b]? = some (.cells tenV 3)) (j : Nat) (hj : j < 10) : ∃ z : Int, w.cell? ⟨b, j, none⟩ = some (.int .i64 z) := by
  have : ∃ z : Int, tenV[j]? = some (.int .i64 z) := by
    match j, hj with
    | 0, _ => exact ⟨_, rfl⟩
    | 1, _ => exact ⟨_, rfl⟩
    | 2, _ => exact ⟨_, rfl⟩
    | 3, _ => exact ⟨_, rfl⟩
    | 4, _ => exact ⟨_, rfl⟩
    | 5, _ => exact ⟨_, rfl⟩
    | 6, _ => exact ⟨_, rfl⟩
    | 7, _ => exact ⟨_, rfl⟩
    | 8, _ => exact ⟨_, rfl⟩
    | 9, _ => exact ⟨_, rfl⟩
  obtain ⟨z, hz⟩ := this
  exact ⟨z, cell_of h hz⟩
set_option maxHeartbeats 4000000 in
set_option maxRecDepth 100000 in
theorem law (w : World) : Calls Try.prog 7 #[] w fun e w' => e = .returned (.bool true) ∧ Below w.heap.size w w' := by
  have CS := Lib.hid (fun s n1 w => clSplit.all s n1 w)
  have CF := Lib.hid (fun s n hn w => clFew.all s n hn w)
  have CW := Lib.hid (fun w => fworks w)
  go_enter Try.func7, Try.ntmps7
  go_wp2_with fail
  go_loopg [1] 40 (fun g i wr => ∃ k : Nat, i = nm k ∧ 40 - k ≤ g ∧ k ≤ 40 ∧ Hid (Below w.heap.size w wr))
  case atStart => exact ⟨0, rfl, by omega, by omega, Lib.hid (Below.refl _ _)⟩
  case round =>
    obtain ⟨k, rfl, hg, hk, HB⟩ := hrel
    by_cases hlt : k < 40
    · have u1 : decide ((k : Int) < 40) = true := decide_eq_true (by omega)
      have u2 : (k : Int) < 40 := by omega
      have v0 := wrap_n (k + 1) (by omega)
      have hmk := make_zeros k (by omega) wr
      have hcv := conv_zeros k (wr.alloc (.cells (zeroV k) 5)) wr.heap.size (nest wr [_] 0 _ rfl)
      have zv := zeroS_size k
      generalize zeroS k = v at hcv zv
      go_wp2_with fail
      have HO : Hid (((wr.alloc (.cells (zeroV k) 5)).alloc (.cells tenV 3)).heap[wr.heap.size + 1]? = some (.cells tenV 3)) := Lib.hid (nest wr [_, _] 1 _ rfl)
      have HB2 : Hid (Below w.heap.size w ((wr.alloc (.cells (zeroV k) 5)).alloc (.cells tenV 3))) := Lib.hid (below_on HB.out (nest_below wr [_, _]))
      clear hmk hcv HB
      generalize (wr.alloc (.cells (zeroV k) 5)).alloc (.cells tenV 3) = w2 at HO HB2 ⊢
      generalize wr.heap.size + 1 = tb at HO ⊢
      generalize wr.heap.size = zb
      go_loopg [19] 10 (fun g i wr => ∃ j : Nat, i = nm j ∧ 10 - j ≤ g ∧ j ≤ 10 ∧ Hid (Below w2.heap.size w2 wr))
      case atStart => exact ⟨0, rfl, by omega, by omega, Lib.hid (Below.refl _ _)⟩
      case round =>
        obtain ⟨j, rfl, hgj, hj, HB3⟩ := hrel
        by_cases hlj : j < 10
        · have t1 : decide ((j : Int) < 10) = true := decide_eq_true (by omega)
          have t2 : (j : Int) < 10 := by omega
          have t3 : (0 : Int) ≤ (j : Int) := by omega
          have vj := wrap_n (j + 1) (by omega)
          obtain ⟨z, hz⟩ := ten_at (stays HO.out HB3.out) j hlj
          go_wp2_with (go_at_call 3; ((with_reducible refine (CS.out _ _ _).mono ?_); rintro e w6 ⟨rfl, hb⟩; have HB4 := Lib.hid (below_on HB3.out hb); clear hb))
          go_roundg (10 - (j + 1))
          case measure => omega
          case rel => exact ⟨j + 1, by first | rfl | go_num, Nat.le_refl _, by omega, HB4⟩
        · have t1 : decide ((j : Int) < 10) = false := decide_eq_false (by omega)
          have t2 : ¬ (j : Int) < 10 := by omega
          have HB5 := Lib.hid (below_on HB2.out HB3.out)
          have hcat : ¬ 9223372036854775807 < v.size + 1 := by omega
          obtain ⟨y9, hy9⟩ : ∃ y, k % 9 = y := ⟨_, rfl⟩
          obtain ⟨y7, hy7⟩ : ∃ y, k % 7 = y := ⟨_, rfl⟩
          have r9 : (k : Int).tmod 9 = (y9 : Int) := by rw [Int.tmod_eq_emod_of_nonneg (by omega)]; omega
          have r7 : (k : Int).tmod 7 = (y7 : Int) := by rw [Int.tmod_eq_emod_of_nonneg (by omega)]; omega
          have b9 : y9 < 9 := by omega
          have b7 : y7 < 7 := by omega
          clear hy9 hy7
          clear HO HB2 HB3
          go_wp2_with fail
          refine (clBack.all _ 3 3 (pick [v, ⟨#[]⟩, v ++ ⟨#[97]⟩]) _ 2 2 _ (by unfold maxLen; omega) _ (texts _ 3 rfl (stays (nest wr [_] 0 _ rfl) (nest_below _ [_])) (fun x hx => ?hsz)) (octets (a := y9) (c := 200) (nest wr [_, _] 1 _ rfl) (by omega) (by omega))).mono ?_
          case hsz =>
            have h9 : (v ++ ⟨#[97]⟩ : ByteArray).size = v.size + 1 := by rw [ByteArray.size_append]; rfl
            have h8 : (⟨#[]⟩ : ByteArray).size = 0 := rfl
            simp only [List.mem_cons, List.not_mem_nil, or_false] at hx
            rcases hx with rfl | rfl | rfl <;> omega
          rintro _ w6 ⟨rfl, b6⟩
          have HB6 := Lib.hid (below_on HB5.out (below_on (nest_below wr [_, _]) b6))
          have CF7 : Hid (∀ w, Calls Try.prog 6 #[.string v, .int .u8 (2 + (y7 : Int))] w fun e w' => e = .returned (.bool true) ∧ Below w.heap.size w w') := Lib.hid fun w => by
            have := clFew.all v (2 + y7) (by omega) w
            have e : oc (2 + y7) = .int .u8 (2 + (y7 : Int)) := congrArg (Value.int .u8) (by omega)
            rw [e] at this
            exact this
          clear b6 HB5
          go_wp2_with (go_at_call 6; ((with_reducible refine (CF7.out _).mono ?_); rintro e w7 ⟨rfl, hb⟩; have HB7 := Lib.hid (below_on HB6.out hb); clear hb))
          go_roundg (40 - (k + 1))
          case measure => omega
          case rel => exact ⟨k + 1, by first | rfl | go_num, Nat.le_refl _, by omega, HB7⟩
    · have u1 : decide ((k : Int) < 40) = false := decide_eq_false (by omega)
      have u2 : ¬ (k : Int) < 40 := by omega
      go_wp2_with fail
      clear hg hk u1 u2 hlt
      go_loopg [5] 256 (fun g i wr => ∃ c : Nat, i = nm c ∧ 256 - c ≤ g ∧ c ≤ 256 ∧ Hid (Below w.heap.size w wr))
      case atStart => exact ⟨0, rfl, by omega, by omega, HB⟩
      case round =>
        clear HB
        obtain ⟨c, rfl, hg, hk, HB⟩ := hrel
        by_cases hlt : c < 256
        · have u1 : decide ((c : Int) < 256) = true := decide_eq_true (by omega)
          have u2 : (c : Int) < 256 := by omega
          have v0 := wrap_n (c + 1) (by omega)
          have wu : IntKind.u8.wrap (c : Int) = (c : Int) := by rw [IntKind.wrap_u8]; omega
          have cv2 := conv_twoI wr (c : Int) 97
          have cv1 := conv_oneI (wr.alloc (.cells #[.int .u8 (c : Int), .int .u8 97] 5)) (c : Int)
          obtain ⟨sa, hsa⟩ : ∃ sa : ByteArray, ⟨#[UInt8.ofNat (c : Int).toNat, UInt8.ofNat (97 : Int).toNat]⟩ = sa := ⟨_, rfl⟩
          obtain ⟨sb, hsb⟩ : ∃ sb : ByteArray, ⟨#[UInt8.ofNat (c : Int).toNat]⟩ = sb := ⟨_, rfl⟩
          have hsa2 : sa.size = 2 := by rw [← hsa]; rfl
          have hsb2 : sb.size = 1 := by rw [← hsb]; rfl
          rw [hsa] at cv2
          rw [hsb] at cv1
          rw [World.size_alloc] at cv1
          clear hsa hsb
          go_wp2_with fail
          refine (clJoin.all _ 6 6 (pick [sa, ⟨#[1, 98]⟩, sb, ⟨#[129]⟩, ⟨#[65]⟩, ⟨#[]⟩]) _ (texts _ 6 rfl (nest wr [_, _, _] 2 _ rfl) (fun x hx => ?hsz))).mono ?_
          case hsz =>
            have e1 : (⟨#[1, 98]⟩ : ByteArray).size = 2 := rfl
            have e2 : (⟨#[129]⟩ : ByteArray).size = 1 := rfl
            have e3 : (⟨#[65]⟩ : ByteArray).size = 1 := rfl
            have e4 : (⟨#[]⟩ : ByteArray).size = 0 := rfl
            simp only [List.mem_cons, List.not_mem_nil, or_false] at hx
            rcases hx with rfl | rfl | rfl | rfl | rfl | rfl <;> omega
          rintro _ w6 ⟨rfl, b6⟩
          have HB6 := Lib.hid (below_on HB.out (below_on (nest_below wr [_, _, _]) b6))
          clear b6 HB cv1 cv2 wu hsa2 hsb2
          go_wp2_with fail
          go_roundg (256 - (c + 1))
          case measure => omega
          case rel => exact ⟨c + 1, by first | rfl | go_num, Nat.le_refl _, by omega, HB6⟩
        · have u1 : decide ((c : Int) < 256) = false := decide_eq_false (by omega)
          have u2 : ¬ (c : Int) < 256 := by omega
          go_wp2_with fail
          refine (fPut_nil _ _).mono ?_
          rintro _ w6 ⟨rfl, rfl⟩
          go_wp2_with fail
          have hmk : (Instr.makeSlice 37 (.int .i64 255) (.int .i64 255)).run Try.prog w6 = .ok (.slice (some ⟨w6.heap.size, 0, none⟩) 255 255) (w6.alloc (.cells (zeroV 255) 5)) := make_zeros 255 (by omega) w6
          have hcv := conv_zeros 255 (w6.alloc (.cells (zeroV 255) 5)) w6.heap.size (nest w6 [_] 0 _ rfl)
          have HB0 := Lib.hid (below_on HB.out (nest_below w6 [.cells (zeroV 255) 5]))
          generalize zeroS 255 = v at hcv
          clear HB
          refine (fWithin_nil _).mono ?_
          rintro _ w7 ⟨rfl, rfl⟩
          go_wp2_with fail
          refine (CS.out _ _ _).mono ?_
          rintro _ w8 ⟨rfl, b8⟩
          have HB8 := Lib.hid (below_on HB0.out b8)
          clear b8 HB0 hmk hcv
          have hmk : (Instr.makeSlice 37 (.int .i64 254) (.int .i64 254)).run Try.prog w8 = .ok (.slice (some ⟨w8.heap.size, 0, none⟩) 254 254) (w8.alloc (.cells (zeroV 254) 5)) := make_zeros 254 (by omega) w8
          have hcv := conv_zeros 254 (w8.alloc (.cells (zeroV 254) 5)) w8.heap.size (nest w8 [_] 0 _ rfl)
          have HB9 := Lib.hid (below_on HB8.out (nest_below w8 [.cells (zeroV 254) 5]))
          generalize zeroS 254 = u at hcv
          have CF9 : Hid (∀ w, Calls Try.prog 6 #[.string u, .int .u8 200] w fun e w' => e = .returned (.bool true) ∧ Below w.heap.size w w') := Lib.hid fun w => clFew.all u 200 (by omega) w
          clear HB8
          go_wp2_with (first
            | (go_at_call 6; ((with_reducible refine (CF9.out _).mono ?_); rintro e wa ⟨rfl, hb⟩; have HBa := Lib.hid (below_on HB9.out hb); clear hb))
            | (go_at_call 8; ((with_reducible refine (CW.out _).mono ?_); rintro e wb ⟨rfl, hb⟩; have HBb := Lib.hid (below_on HBa.out hb); clear hb)))
          go_ret
          exact ⟨rfl, HBb.out⟩
end Go.Proofs.Ytidcoodmlgmcjaa.clKnown
